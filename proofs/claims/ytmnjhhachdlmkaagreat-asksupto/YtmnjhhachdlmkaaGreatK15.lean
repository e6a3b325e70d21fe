import Derived.Test.YtmnjhhachdlmkaaGreatK14
namespace Go.Proofs.YtmnjhhachdlmkaaGreat
open World renaming block_lt_of_cell? -> lG
open Value renaming ownBlock -> lH
-- JAp
section
open Go.RowKit Go.Maps
section
variable {P : Program} (w : World)
/-- A part of what is owned, from its first on. -/
theorem owns_less {w : World} {base : Nat} {e : TypeId} {size g n m cap : Nat} {xs ys : List Value} (hx : xs.length = n * size) (h : w.ownsRow base e size (.slice (some ⟨g, 0, none⟩) (n + m) cap) (n + m) (xs ++ ys)) : w.ownsRow base e size (.slice (some ⟨g, 0, none⟩) n cap) n xs := by
 rcases h.2 with ⟨h1, _⟩ | ⟨g', cap', cur, h1, h2, h3, h4, h5, h6, h7⟩
 ·cases h1
 ·injection h1 with e1 e2 e3
  injection e1 with e1
  injection e1 with e1
  subst e1 e3
  refine ⟨hx, .inr ⟨g, cap, cur, rfl, h2, h3, by omega, h5, h6, ?_⟩⟩
  have h8 := congrArg (List.take (n * size)) h7
  rw [List.take_take, Nat.min_eq_left (by rw [Nat.add_mul]; omega), List.take_left' hx] at h8
  exact h8
/-- append, and the old row is as it was. -/
theorem run_append_keeps (t ty : TypeId) (base : Nat) (e : TypeId) (i : TypeInfo) (z : Value) (size bytes : Nat) (ht : P.underlying t = some (.slice e)) (hi : P.info? e = some i) (hz : i.zero = some z)
  (hsize : i.size = size) (hby : i.bytes = bytes) (hzs : z.cells.size = size) (hsz : 0 < size)
  (v : Value) (n : Nat) (xs : List Value) (hown : w.ownsRow base e size v n xs)
  (ad : Addr) (m c : Nat) (news : List Value) (hl : news.length = m * size) (hnews : ∀ j u, news[j]? = some u -> w.cell? (ad.add j) = some u) (h1 : ∀ u ∈ news, u.oneCell' = true)
  (hm : 0 < m) (h63 : n + m <= maxLen) (hbytes : (n + m) * bytes <= 140737488355328) (hbase : base <= w.heap.size) :
  ∃ g cap w', (Builtin.append_ #[t, t] ty #[v, .slice (some ad) m c]).run P w = .ok (.slice (some ⟨g, 0, none⟩) (n + m) cap) w' /\
   w'.ownsRow base e size (.slice (some ⟨g, 0, none⟩) (n + m) cap) (n + m) (xs ++ news) /\ w'.ownsRow base e size v n xs /\ w.grownBy w' v.ownBlock /\ (v.ownBlock = some g \/ (Ext w w' /\ w.heap.size <= g)) /\ g < w'.heap.size := by
 obtain ⟨g, cap, w', hr, h2, h3, h4, h5⟩ := run_append_lies (P := P) w t ty base e i z size bytes ht hi hz hsize hby hzs hsz v n xs hown ad m c news hl hnews h1 hm h63 hbytes hbase _ rfl
 have hsmall : n + m <= 9223372036854775807 := by simp only [maxLen] at h63; omega
 subst hsize
 subst hby
 rcases hown.2 with ⟨rfl, rfl⟩ | ⟨g0, cap0, cur, rfl, hbg, hg, hnc, hcm, hcs, htake⟩
 ·have hx : xs = [] := List.eq_nil_of_length_eq_zero (by simpa using hown.1)
  subst hx
  refine ⟨g, cap, w', hr, h2, World.ownsRow_nil _ _ _ _, h3, .inr ⟨Ext.grown (Ext.refl w) h3 (by simp [lH]), ?_⟩, h5⟩
  rcases h4 with h4 | h4
  ·simp [lH] at h4
  ·omega
 ·by_cases hroom : n + m <= cap0
  ·have hfit : n * i.size + news.length <= cur.size := by rw [hl, hcs, <- Nat.add_mul]; exact Nat.mul_le_mul_right _ hroom
   have hr2 := run_append_room (P := P) w t ty e i ht hi g0 n cap0 cur hg ad m c news hl hnews h1 hroom hfit
   rw [hr] at hr2
   injection hr2 with e1 e2
   have hgg : g = g0 := by
    injection e1 with e1 _ _
    injection e1 with e1
    injection e1
   have h2' := h2
   rw [e1] at h2'
   exact ⟨g, cap, w', hr, h2, owns_less hown.1 h2', h3, .inl (by rw [hgg]; rfl), h5⟩
  ·have holds : ∀ j u, xs[j]? = some u -> w.cell? ((⟨g0, 0, none⟩ : Addr).add j) = some u := hown.cells (g := g0) rfl
   have hr2 := run_append_grow (P := P) w t ty e i z ht hi hz ⟨g0, 0, none⟩ n cap0 xs hown.1 holds ad m c news hl hnews (by omega) (by omega) (growslice_fits (by omega) hbytes)
   have hr3 := hr2
   rw [hr] at hr2
   injection hr2 with e1 e2
   have hgg : g = w.heap.size := by
    injection e1 with e1 _ _
    injection e1 with e1
    injection e1
   have hxx : Ext w w' := by
    rw [e2]
    exact Ext.alloc (Ext.drew (Ext.refl w)) _
   exact ⟨g, cap, w', hr, h2, Ext.owns hxx hown, h3, .inr ⟨hxx, by omega⟩, h5⟩
theorem wpList_append_keeps {ops : Array Oper} {rest : List Oper} {o : Oper} {a : Act} {Q : Exit -> Act -> World -> Prop} (hgd : o.guard = none) (s x : Operand) (t : TypeId)
  (ho : o.op = .call { callee := .builtin .append, args := #[s, x], argTypes := #[t, t] })
  (base : Nat) (e : TypeId) (i : TypeInfo) (z : Value) (size bytes : Nat) (ht : P.underlying t = some (.slice e)) (hi : P.info? e = some i) (hz : i.zero = some z)
  (hsize : i.size = size) (hby : i.bytes = bytes) (hzs : z.cells.size = size) (hsz : 0 < size)
  (v : Value) (n : Nat) (xs : List Value) (hs : a.eval s = v) (hown : w.ownsRow base e size v n xs)
  (ad : Addr) (m c : Nat) (news : List Value) (hx : a.eval x = .slice (some ad) m c) (hl : news.length = m * size) (hnews : ∀ j u, news[j]? = some u -> w.cell? (ad.add j) = some u) (h1 : ∀ u ∈ news, u.oneCell' = true)
  (hm : 0 < m) (h63 : n + m <= maxLen) (hbytes : (n + m) * bytes <= 140737488355328) (hbase : base <= w.heap.size)
  (h : ∀ g cap w', w'.ownsRow base e size (.slice (some ⟨g, 0, none⟩) (n + m) cap) (n + m) (xs ++ news) -> w'.ownsRow base e size v n xs -> w.grownBy w' v.ownBlock -> (v.ownBlock = some g \/ (Ext w w' /\ w.heap.size <= g)) -> g < w'.heap.size -> wpList P ops Q rest (a.put o.dst (.slice (some ⟨g, 0, none⟩) (n + m) cap)) w') : wpList P ops Q (o :: rest) a w := by
 refine wpList_plain hgd fun K hK => ?_
 obtain ⟨g, cap, w', hr, h2, h2', h3, h4, h5⟩ := run_append_keeps (P := P) w t o.type base e i z size bytes ht hi hz hsize hby hzs hsz v n xs hown ad m c news hl hnews h1 hm h63 hbytes hbase
 unfold Oper.wp execOp
 simp only [ho, resolve, invoke, builtin, Sem.run_bind, Sem.run_pure, Result.andThen_ok, List.map_toArray, List.map_cons, List.map_nil, hs, hx, hr]
 exact hK _ _ (h g cap w' h2 h2' h3 h4 h5)
end
end
-- HCl
section
set_option maxRecDepth 100000
set_option maxHeartbeats 1600000
open Go.RowKit Go.Maps
theorem kept_gone (x : Stk) : (x.ts.filter (·.2)).length + x.gone = x.ts.length := by
 unfold Stk.gone
 induction x.ts with
 | nil => rfl
 | cons t l ih =>
  cases h : t.2 <;> simp [h] <;> omega
theorem refLeases_c {G : Nat -> Prop} (p : Nat) (S : List Stk) (ls : List LsV) (w : World) (h : RefAt w G p S ls) :
  Calls Tryz.prog 75 #[.pointer (some ⟨p, 0, none⟩)] w fun e w' => ∃ v, e = .returned v /\ RowIs w G v ls.length (lsCells ls) /\ w = w' := by
 obtain ⟨stv, lsv, css, h1, h2, h3, h4, h5, h6⟩ := h
 have c1 : w.cell? ⟨p, 1, none⟩ = some lsv := cell_at h1 rfl
 have hp := lG w _ c1
 have H6 : Hid _ := h6
 clear h1 h3 h4 h5 h6
 go_enter Tryz.func75, Tryz.ntmps75
 go_wp2
 go_ret
 exact ⟨_, rfl, H6.out, rfl⟩
theorem refClasses_c {G : Nat -> Prop} (p : Nat) (S : List Stk) (ls : List LsV) (hS : S.length <= 100) (hSm : ∀ x ∈ S, x.ts.length <= 1000) (w : World) (h : RefAt w G p S ls) :
  Calls Tryz.prog 74 #[.pointer (some ⟨p, 0, none⟩)] w fun e w' => ∃ v', e = .returned v' /\ w'.ownsRow w.heap.size 116 7 v' S.length (toldAll S) /\ Ext w w' := by
 obtain ⟨i0, hi, hz0, hz1, hz2⟩ := info_parts infoStock
 obtain ⟨stv, lsv, css, h1, h2, h3, h4, h5, h6⟩ := h
 have c0 : w.cell? ⟨p, 0, none⟩ = some stv := cell_at h1 rfl
 have hp := lG w _ c0
 obtain ⟨sa, scap, hsv⟩ := h3.slice
 have HPt : Hid (∀ j (hj : j < S.length), ∃ g tv, sa = some ⟨g, 0, none⟩ /\ g < w.heap.size /\ (∃ a cap, tv = .slice a S[j].ts.length cap) /\ w.cell? ⟨g, j * 7, none⟩ = some (.int .i64 (S[j].kd : Int)) /\ w.cell? ⟨g, j * 7 + 1, none⟩ = some (.int .i64 (S[j].m : Int)) /\ w.cell? ⟨g, j * 7 + 2, none⟩ = some (.int .i64 (S[j].k : Int)) /\ w.cell? ⟨g, j * 7 + 3, none⟩ = some (.int .i64 (S[j].n : Int)) /\ w.cell? ⟨g, j * 7 + 4, none⟩ = some tv /\ w.cell? ⟨g, j * 7 + 5, none⟩ = some (.int .i64 (S[j].leased : Int)) /\ w.cell? ⟨g, j * 7 + 6, none⟩ = some (.int .i64 (S[j].gone : Int))) := fun j hj => by
  rcases h3 with ⟨_, hn⟩ | ⟨g, cap, e, _, _, hc, _⟩
  ·omega
  ·rw [e] at hsv
   injection hsv with e1 _ _
   obtain ⟨cs, hcs, tv, vs, rfl, hrow, _, _⟩ := h5 j hj
   have hh := fun i hi => flat_at h4 h5 j hj i hi hcs
   have g0 := hc (j * 7 + 0) _ ((hh 0 (by omega)).trans rfl)
   refine ⟨g, tv, e1.symm, lG w _ g0, hrow.slice, g0, hc (j * 7 + 1) _ ((hh 1 (by omega)).trans rfl), hc (j * 7 + 2) _ ((hh 2 (by omega)).trans rfl), hc (j * 7 + 3) _ ((hh 3 (by omega)).trans rfl), hc (j * 7 + 4) _ ((hh 4 (by omega)).trans rfl), hc (j * 7 + 5) _ ((hh 5 (by omega)).trans rfl), hc (j * 7 + 6) _ ((hh 6 (by omega)).trans rfl)⟩
 have HSm : Hid _ := hSm
 subst hsv
 clear h1 h3 h4 h5 h6 hSm
 obtain ⟨len, hlen⟩ : ∃ len, S.length = len := ⟨_, rfl⟩
 have HLEN : Hid (S.length = len) := hlen
 rw [hlen] at c0 hS ⊢
 clear hlen
 go_enter Tryz.func74, Tryz.ntmps74
 go_wp2
 go_loopw [3, 4, 5] (fun u i _ wr => ∃ j : Nat, j <= len /\ i = .int .i64 j /\ wr.ownsRow w.heap.size 116 7 u j (toldAll (S.take j)) /\ Ext w wr) (fun _ i _ _ => len - (intOf i).toNat)
 case atStart => exact ⟨0, Nat.zero_le _, rfl, World.ownsRow_nil _ _ _ _, Ext.refl _⟩
 case round =>
  obtain ⟨j, hj, rfl, ho, hx⟩ := hrel
  have HO : Hid (wr.ownsRow w.heap.size 116 7 u3 j (toldAll (S.take j))) := ho
  have HX : Hid (Ext w wr) := hx
  have c0 := hx.cell c0
  have hwl := hx.le
  clear ho hx
  by_cases hlt : j < len
  ·have hjl : j < S.length := by rw [HLEN.out]; exact hlt
   obtain ⟨g, tv, rfl, hgl, ⟨ta, tcap, rfl⟩, e0, e1, e2, e3, e4, e5, e6⟩ := HPt.out j hjl
   have HTk : Hid (S.take (j + 1) = S.take j ++ [S[j]]) := List.take_succ_eq_append_getElem hjl
   have hkg := kept_gone S[j]
   have hsm := HSm.out S[j] (List.getElem_mem hjl)
   obtain ⟨x0, hx0⟩ : ∃ x0, S[j].kd = x0 := ⟨_, rfl⟩
   obtain ⟨x1, hx1⟩ : ∃ x1, S[j].m = x1 := ⟨_, rfl⟩
   obtain ⟨x2, hx2⟩ : ∃ x2, S[j].k = x2 := ⟨_, rfl⟩
   obtain ⟨x3, hx3⟩ : ∃ x3, S[j].n = x3 := ⟨_, rfl⟩
   obtain ⟨x4, hx4⟩ : ∃ x4, S[j].ts.length = x4 := ⟨_, rfl⟩
   obtain ⟨x5, hx5⟩ : ∃ x5, S[j].leased = x5 := ⟨_, rfl⟩
   obtain ⟨x6, hx6⟩ : ∃ x6, (S[j].ts.filter (·.2)).length = x6 := ⟨_, rfl⟩
   obtain ⟨x7, hx7⟩ : ∃ x7, S[j].gone = x7 := ⟨_, rfl⟩
   have HTd : Hid (S[j].told = [.int .i64 (x0 : Int), .int .i64 (x1 : Int), .int .i64 (x2 : Int), .int .i64 (x3 : Int), .int .i64 (x4 : Int), .int .i64 (x5 : Int), .int .i64 (x6 : Int)]) := by
    rw [<- hx0, <- hx1, <- hx2, <- hx3, <- hx4, <- hx5, <- hx6]; rfl
   rw [hx6, hx7, hx4] at hkg
   rw [hx4] at hsm e4
   rw [hx0] at e0
   rw [hx1] at e1
   rw [hx2] at e2
   rw [hx3] at e3
   rw [hx5] at e5
   rw [hx7] at e6
   have e0 := HX.out.cell e0
   have e1 := HX.out.cell e1
   have e2 := HX.out.cell e2
   have e3 := HX.out.cell e3
   have e4 := HX.out.cell e4
   have e5 := HX.out.cell e5
   have e6 := HX.out.cell e6
   have hsub : IntKind.i64.wrap ((x4 : Int) - (x7 : Int)) = (x6 : Int) := by
    rw [show (x4 : Int) - x7 = ((x6 : Nat) : Int) by omega]; exact wrap_small (by omega)
   have HG : Hid (∀ q, u3.ownBlock = some q -> w.heap.size <= q /\ q < wr.heap.size) := fun q hq => World.ownsRow.lt HO.out q hq
   clear hkg hx0 hx1 hx2 hx3 hx4 hx5 hx6 hx7
   go_wp2_with (at_builtin; refine wpList_append_lies _ rfl _ _ 44 rfl w.heap.size 116 i0 _ 7 56 Tryz.underlying44 hi hz0 hz1 hz2 rfl (by decide) u3 j (toldAll (S.take j)) rfl (Ext.owns (Ext.alloc (Ext.alloc (Ext.refl _) _) _) HO.out) ⟨_, 0, none⟩ 1 1 [.int .i64 (x0 : Int), .int .i64 (x1 : Int), .int .i64 (x2 : Int), .int .i64 (x3 : Int), .int .i64 (x4 : Int), .int .i64 (x5 : Int), .int .i64 (x6 : Int)] rfl rfl (World.news_of_block (at_new (by simp))) (by simp [Value.oneCell']) (by decide) (by simp [maxLen]; omega) (by omega) (by simp; omega) _ rfl ?_)
   intro gv cv w3 hown3 hgrow hat hlt3
   have HQ : Hid (w3.ownsRow w.heap.size 116 7 (.slice (some ⟨gv, 0, none⟩) (j + 1) cv) (j + 1) (toldAll (S.take j) ++ [.int .i64 (x0 : Int), .int .i64 (x1 : Int), .int .i64 (x2 : Int), .int .i64 (x3 : Int), .int .i64 (x4 : Int), .int .i64 (x5 : Int), .int .i64 (x6 : Int)]) /\ Ext w w3) := And.intro hown3 (Ext.grown (Ext.alloc (Ext.alloc HX.out _) _) hgrow (fun q hq => (HG.out q hq).1))
   clear hown3 hgrow hat
   go_wp2
   go_roundw
   case rel =>
    refine ⟨j + 1, by omega, by go_num, ?_, HQ.out.2⟩
    rw [HTk.out, toldAll_snoc, HTd.out]
    exact HQ.out.1
   case measure => simp [intOf]; omega
  ·obtain rfl : j = len := by omega
   have HF : Hid (wr.ownsRow w.heap.size 116 7 u3 j (toldAll S)) := by
    have h1 := HO.out
    rw [List.take_of_length_le (by rw [HLEN.out]; exact Nat.le_refl _)] at h1
    exact h1
   go_wp2
   go_ret
   exact ⟨_, rfl, HF.out, HX.out⟩
end
-- HFn
section
set_option maxRecDepth 100000
set_option maxHeartbeats 1600000
open Go.RowKit Go.Maps
theorem refFetchNo_c {G : Nat -> Prop} (p : Nat) (S : List Stk) (ls : List LsV) (kk s i kd m k n f c pp cd : Int) (hS : S.length <= 100) (hcd : (S.findIdx? (fun x => x.is kd m k n) = none /\ cd = 2) \/ (∃ ix, S.findIdx? (fun x => x.is kd m k n) = some ix) /\ ((c < 1 \/ 40 < c) /\ cd = 5 \/ 1 <= c /\ c <= 40 /\ 1 < pp /\ cd = 9)) (w : World) (h : RefAt w G p S ls) :
  Calls Tryz.prog 178 #[.pointer (some ⟨p, 0, none⟩), reqV kk s i kd m k n f c pp] w fun e w' => e = .returned (replyV cd 0 0 (.slice none 0 0)) /\ Ext w w' := by
 have HFi : Hid (∀ w', Ext w w' -> Calls Tryz.prog 147 #[.pointer (some ⟨p, 0, none⟩), .agg #[.int .i64 kd, .int .i64 m, .int .i64 k, .int .i64 n]] w' fun e w'' => e = .returned (.int .i64 (match S.findIdx? (fun x => x.is kd m k n) with | some i => (i : Int) | none => -1)) /\ Ext w' w'') := fun w' hx => refFind_c p S ls kd m k n hS w' (h.ext hx)
 clear h
 rcases hcd with ⟨hn, rfl⟩ | ⟨⟨ix, hs⟩, hcd⟩
 ·rw [hn] at HFi
  have HCo : Hid (∀ w', _) := fun w' => refCode_c 2 w'
  clear hn
  unfold replyV at *
  unfold reqV
  go_enter Tryz.func178, Tryz.ntmps178
  go_wp2_with fail
  have hres0 : ((w.alloc (.cells #[.int .i64 kk, .int .i64 s, .int .i64 i, .int .i64 kd, .int .i64 m, .int .i64 k, .int .i64 n, .int .i64 f, .int .i64 c, .int .i64 pp] 51)).alloc (.cells #[.int .i64 0, .int .i64 0, .int .i64 0, .slice none 0 0] 33)).heap[w.heap.size + 1]? = some (.cells #[.int .i64 0, .int .i64 0, .int .i64 0, .slice none 0 0] 33 (0, 0)) := at_new (by simp)
  have hreq0 : ((w.alloc (.cells #[.int .i64 kk, .int .i64 s, .int .i64 i, .int .i64 kd, .int .i64 m, .int .i64 k, .int .i64 n, .int .i64 f, .int .i64 c, .int .i64 pp] 51)).alloc (.cells #[.int .i64 0, .int .i64 0, .int .i64 0, .slice none 0 0] 33)).heap[w.heap.size]? = some (.cells #[.int .i64 kk, .int .i64 s, .int .i64 i, .int .i64 kd, .int .i64 m, .int .i64 k, .int .i64 n, .int .i64 f, .int .i64 c, .int .i64 pp] 51 (0, 0)) := at_old (heap_alloc_new _ _)
  have hXW : Ext w ((w.alloc (.cells #[.int .i64 kk, .int .i64 s, .int .i64 i, .int .i64 kd, .int .i64 m, .int .i64 k, .int .i64 n, .int .i64 f, .int .i64 c, .int .i64 pp] 51)).alloc (.cells #[.int .i64 0, .int .i64 0, .int .i64 0, .slice none 0 0] 33)) := ((Ext.refl w).alloc _).alloc _
  generalize World.alloc (World.alloc w _) _ = W at hres0 hreq0 hXW ⊢
  refine (HFi.out W hXW).mono ?_
  rintro e w1 ⟨rfl, hx1⟩
  have HX1 : Hid (Ext w w1) := hXW.trans hx1
  have HRS : Hid _ := hx1.block hres0
  have HRQ : Hid _ := hx1.block hreq0
  clear hx1 hXW hres0 hreq0
  have r1 : w1.cell? ⟨w.heap.size, 1, none⟩ = some (.int .i64 s) := cell_at HRQ.out rfl
  have r3 : w1.cell? ⟨w.heap.size, 3, none⟩ = some (.int .i64 kd) := cell_at HRQ.out rfl
  have r4 : w1.cell? ⟨w.heap.size, 4, none⟩ = some (.int .i64 m) := cell_at HRQ.out rfl
  have r5 : w1.cell? ⟨w.heap.size, 5, none⟩ = some (.int .i64 k) := cell_at HRQ.out rfl
  have r6 : w1.cell? ⟨w.heap.size, 6, none⟩ = some (.int .i64 n) := cell_at HRQ.out rfl
  have r7 : w1.cell? ⟨w.heap.size, 7, none⟩ = some (.int .i64 f) := cell_at HRQ.out rfl
  have r8 : w1.cell? ⟨w.heap.size, 8, none⟩ = some (.int .i64 c) := cell_at HRQ.out rfl
  have r9 : w1.cell? ⟨w.heap.size, 9, none⟩ = some (.int .i64 pp) := cell_at HRQ.out rfl
  have hrl := lG w1 _ r1
  go_wp2_with fail
  refine (HCo.out _).mono ?_
  rintro e w9 ⟨rfl, hx9⟩
  have hr9 := hx9.block HRS.out
  have o0 := cell_at hr9 (i := 0) rfl
  have f0 := frozen_row hr9 0
  have o1 := cell_at hr9 (i := 1) rfl
  have f1 := frozen_row hr9 1
  have o2 := cell_at hr9 (i := 2) rfl
  have f2 := frozen_row hr9 2
  have o3 := cell_at hr9 (i := 3) rfl
  have f3 := frozen_row hr9 3
  have HX9 : Hid (Ext w w9) := HX1.out.trans hx9
  clear hr9 hx9
  go_wp2
  refine bodyPost_ret (v := .agg #[.int .i64 2, .int .i64 0, .int .i64 0, .slice none 0 0]) (by simp [results, Tryz.results178, go_sem, o0, o1, o2, o3]) rfl ⟨rfl, ?_⟩
  exact ext4 HX9.out (by omega) _ _ _ _
 ·rw [hs] at HFi
  clear hs
  rcases hcd with ⟨hcc, rfl⟩ | ⟨hc1, hc2, hpp, rfl⟩
  ·have HCo : Hid (∀ w', _) := fun w' => refCode_c 5 w'
   rcases hcc with hcc | hcc
   ·skip
    unfold replyV at *
    unfold reqV
    go_enter Tryz.func178, Tryz.ntmps178
    go_wp2_with fail
    have hres0 : ((w.alloc (.cells #[.int .i64 kk, .int .i64 s, .int .i64 i, .int .i64 kd, .int .i64 m, .int .i64 k, .int .i64 n, .int .i64 f, .int .i64 c, .int .i64 pp] 51)).alloc (.cells #[.int .i64 0, .int .i64 0, .int .i64 0, .slice none 0 0] 33)).heap[w.heap.size + 1]? = some (.cells #[.int .i64 0, .int .i64 0, .int .i64 0, .slice none 0 0] 33 (0, 0)) := at_new (by simp)
    have hreq0 : ((w.alloc (.cells #[.int .i64 kk, .int .i64 s, .int .i64 i, .int .i64 kd, .int .i64 m, .int .i64 k, .int .i64 n, .int .i64 f, .int .i64 c, .int .i64 pp] 51)).alloc (.cells #[.int .i64 0, .int .i64 0, .int .i64 0, .slice none 0 0] 33)).heap[w.heap.size]? = some (.cells #[.int .i64 kk, .int .i64 s, .int .i64 i, .int .i64 kd, .int .i64 m, .int .i64 k, .int .i64 n, .int .i64 f, .int .i64 c, .int .i64 pp] 51 (0, 0)) := at_old (heap_alloc_new _ _)
    have hXW : Ext w ((w.alloc (.cells #[.int .i64 kk, .int .i64 s, .int .i64 i, .int .i64 kd, .int .i64 m, .int .i64 k, .int .i64 n, .int .i64 f, .int .i64 c, .int .i64 pp] 51)).alloc (.cells #[.int .i64 0, .int .i64 0, .int .i64 0, .slice none 0 0] 33)) := ((Ext.refl w).alloc _).alloc _
    generalize World.alloc (World.alloc w _) _ = W at hres0 hreq0 hXW ⊢
    refine (HFi.out W hXW).mono ?_
    rintro e w1 ⟨rfl, hx1⟩
    have HX1 : Hid (Ext w w1) := hXW.trans hx1
    have HRS : Hid _ := hx1.block hres0
    have HRQ : Hid _ := hx1.block hreq0
    clear hx1 hXW hres0 hreq0
    have r1 : w1.cell? ⟨w.heap.size, 1, none⟩ = some (.int .i64 s) := cell_at HRQ.out rfl
    have r3 : w1.cell? ⟨w.heap.size, 3, none⟩ = some (.int .i64 kd) := cell_at HRQ.out rfl
    have r4 : w1.cell? ⟨w.heap.size, 4, none⟩ = some (.int .i64 m) := cell_at HRQ.out rfl
    have r5 : w1.cell? ⟨w.heap.size, 5, none⟩ = some (.int .i64 k) := cell_at HRQ.out rfl
    have r6 : w1.cell? ⟨w.heap.size, 6, none⟩ = some (.int .i64 n) := cell_at HRQ.out rfl
    have r7 : w1.cell? ⟨w.heap.size, 7, none⟩ = some (.int .i64 f) := cell_at HRQ.out rfl
    have r8 : w1.cell? ⟨w.heap.size, 8, none⟩ = some (.int .i64 c) := cell_at HRQ.out rfl
    have r9 : w1.cell? ⟨w.heap.size, 9, none⟩ = some (.int .i64 pp) := cell_at HRQ.out rfl
    have hrl := lG w1 _ r1
    go_wp2_with fail
    refine (HCo.out _).mono ?_
    rintro e w9 ⟨rfl, hx9⟩
    have hr9 := hx9.block HRS.out
    have o0 := cell_at hr9 (i := 0) rfl
    have f0 := frozen_row hr9 0
    have o1 := cell_at hr9 (i := 1) rfl
    have f1 := frozen_row hr9 1
    have o2 := cell_at hr9 (i := 2) rfl
    have f2 := frozen_row hr9 2
    have o3 := cell_at hr9 (i := 3) rfl
    have f3 := frozen_row hr9 3
    have HX9 : Hid (Ext w w9) := HX1.out.trans hx9
    clear hr9 hx9
    go_wp2
    refine bodyPost_ret (v := .agg #[.int .i64 5, .int .i64 0, .int .i64 0, .slice none 0 0]) (by simp [results, Tryz.results178, go_sem, o0, o1, o2, o3]) rfl ⟨rfl, ?_⟩
    exact ext4 HX9.out (by omega) _ _ _ _
   ·have hc1 : ¬ c < 1 := by omega
    unfold replyV at *
    unfold reqV
    go_enter Tryz.func178, Tryz.ntmps178
    go_wp2_with fail
    have hres0 : ((w.alloc (.cells #[.int .i64 kk, .int .i64 s, .int .i64 i, .int .i64 kd, .int .i64 m, .int .i64 k, .int .i64 n, .int .i64 f, .int .i64 c, .int .i64 pp] 51)).alloc (.cells #[.int .i64 0, .int .i64 0, .int .i64 0, .slice none 0 0] 33)).heap[w.heap.size + 1]? = some (.cells #[.int .i64 0, .int .i64 0, .int .i64 0, .slice none 0 0] 33 (0, 0)) := at_new (by simp)
    have hreq0 : ((w.alloc (.cells #[.int .i64 kk, .int .i64 s, .int .i64 i, .int .i64 kd, .int .i64 m, .int .i64 k, .int .i64 n, .int .i64 f, .int .i64 c, .int .i64 pp] 51)).alloc (.cells #[.int .i64 0, .int .i64 0, .int .i64 0, .slice none 0 0] 33)).heap[w.heap.size]? = some (.cells #[.int .i64 kk, .int .i64 s, .int .i64 i, .int .i64 kd, .int .i64 m, .int .i64 k, .int .i64 n, .int .i64 f, .int .i64 c, .int .i64 pp] 51 (0, 0)) := at_old (heap_alloc_new _ _)
    have hXW : Ext w ((w.alloc (.cells #[.int .i64 kk, .int .i64 s, .int .i64 i, .int .i64 kd, .int .i64 m, .int .i64 k, .int .i64 n, .int .i64 f, .int .i64 c, .int .i64 pp] 51)).alloc (.cells #[.int .i64 0, .int .i64 0, .int .i64 0, .slice none 0 0] 33)) := ((Ext.refl w).alloc _).alloc _
    generalize World.alloc (World.alloc w _) _ = W at hres0 hreq0 hXW ⊢
    refine (HFi.out W hXW).mono ?_
    rintro e w1 ⟨rfl, hx1⟩
    have HX1 : Hid (Ext w w1) := hXW.trans hx1
    have HRS : Hid _ := hx1.block hres0
    have HRQ : Hid _ := hx1.block hreq0
    clear hx1 hXW hres0 hreq0
    have r1 : w1.cell? ⟨w.heap.size, 1, none⟩ = some (.int .i64 s) := cell_at HRQ.out rfl
    have r3 : w1.cell? ⟨w.heap.size, 3, none⟩ = some (.int .i64 kd) := cell_at HRQ.out rfl
    have r4 : w1.cell? ⟨w.heap.size, 4, none⟩ = some (.int .i64 m) := cell_at HRQ.out rfl
    have r5 : w1.cell? ⟨w.heap.size, 5, none⟩ = some (.int .i64 k) := cell_at HRQ.out rfl
    have r6 : w1.cell? ⟨w.heap.size, 6, none⟩ = some (.int .i64 n) := cell_at HRQ.out rfl
    have r7 : w1.cell? ⟨w.heap.size, 7, none⟩ = some (.int .i64 f) := cell_at HRQ.out rfl
    have r8 : w1.cell? ⟨w.heap.size, 8, none⟩ = some (.int .i64 c) := cell_at HRQ.out rfl
    have r9 : w1.cell? ⟨w.heap.size, 9, none⟩ = some (.int .i64 pp) := cell_at HRQ.out rfl
    have hrl := lG w1 _ r1
    go_wp2_with fail
    refine (HCo.out _).mono ?_
    rintro e w9 ⟨rfl, hx9⟩
    have hr9 := hx9.block HRS.out
    have o0 := cell_at hr9 (i := 0) rfl
    have f0 := frozen_row hr9 0
    have o1 := cell_at hr9 (i := 1) rfl
    have f1 := frozen_row hr9 1
    have o2 := cell_at hr9 (i := 2) rfl
    have f2 := frozen_row hr9 2
    have o3 := cell_at hr9 (i := 3) rfl
    have f3 := frozen_row hr9 3
    have HX9 : Hid (Ext w w9) := HX1.out.trans hx9
    clear hr9 hx9
    go_wp2
    refine bodyPost_ret (v := .agg #[.int .i64 5, .int .i64 0, .int .i64 0, .slice none 0 0]) (by simp [results, Tryz.results178, go_sem, o0, o1, o2, o3]) rfl ⟨rfl, ?_⟩
    exact ext4 HX9.out (by omega) _ _ _ _
  ·have HCo : Hid (∀ w', _) := fun w' => refCode_c 9 w'
   have hc1 : ¬ c < 1 := by omega
   have hc2 : ¬ 40 < c := by omega
   unfold replyV at *
   unfold reqV
   go_enter Tryz.func178, Tryz.ntmps178
   go_wp2_with fail
   have hres0 : ((w.alloc (.cells #[.int .i64 kk, .int .i64 s, .int .i64 i, .int .i64 kd, .int .i64 m, .int .i64 k, .int .i64 n, .int .i64 f, .int .i64 c, .int .i64 pp] 51)).alloc (.cells #[.int .i64 0, .int .i64 0, .int .i64 0, .slice none 0 0] 33)).heap[w.heap.size + 1]? = some (.cells #[.int .i64 0, .int .i64 0, .int .i64 0, .slice none 0 0] 33 (0, 0)) := at_new (by simp)
   have hreq0 : ((w.alloc (.cells #[.int .i64 kk, .int .i64 s, .int .i64 i, .int .i64 kd, .int .i64 m, .int .i64 k, .int .i64 n, .int .i64 f, .int .i64 c, .int .i64 pp] 51)).alloc (.cells #[.int .i64 0, .int .i64 0, .int .i64 0, .slice none 0 0] 33)).heap[w.heap.size]? = some (.cells #[.int .i64 kk, .int .i64 s, .int .i64 i, .int .i64 kd, .int .i64 m, .int .i64 k, .int .i64 n, .int .i64 f, .int .i64 c, .int .i64 pp] 51 (0, 0)) := at_old (heap_alloc_new _ _)
   have hXW : Ext w ((w.alloc (.cells #[.int .i64 kk, .int .i64 s, .int .i64 i, .int .i64 kd, .int .i64 m, .int .i64 k, .int .i64 n, .int .i64 f, .int .i64 c, .int .i64 pp] 51)).alloc (.cells #[.int .i64 0, .int .i64 0, .int .i64 0, .slice none 0 0] 33)) := ((Ext.refl w).alloc _).alloc _
   generalize World.alloc (World.alloc w _) _ = W at hres0 hreq0 hXW ⊢
   refine (HFi.out W hXW).mono ?_
   rintro e w1 ⟨rfl, hx1⟩
   have HX1 : Hid (Ext w w1) := hXW.trans hx1
   have HRS : Hid _ := hx1.block hres0
   have HRQ : Hid _ := hx1.block hreq0
   clear hx1 hXW hres0 hreq0
   have r1 : w1.cell? ⟨w.heap.size, 1, none⟩ = some (.int .i64 s) := cell_at HRQ.out rfl
   have r3 : w1.cell? ⟨w.heap.size, 3, none⟩ = some (.int .i64 kd) := cell_at HRQ.out rfl
   have r4 : w1.cell? ⟨w.heap.size, 4, none⟩ = some (.int .i64 m) := cell_at HRQ.out rfl
   have r5 : w1.cell? ⟨w.heap.size, 5, none⟩ = some (.int .i64 k) := cell_at HRQ.out rfl
   have r6 : w1.cell? ⟨w.heap.size, 6, none⟩ = some (.int .i64 n) := cell_at HRQ.out rfl
   have r7 : w1.cell? ⟨w.heap.size, 7, none⟩ = some (.int .i64 f) := cell_at HRQ.out rfl
   have r8 : w1.cell? ⟨w.heap.size, 8, none⟩ = some (.int .i64 c) := cell_at HRQ.out rfl
   have r9 : w1.cell? ⟨w.heap.size, 9, none⟩ = some (.int .i64 pp) := cell_at HRQ.out rfl
   have hrl := lG w1 _ r1
   go_wp2_with fail
   refine (HCo.out _).mono ?_
   rintro e w9 ⟨rfl, hx9⟩
   have hr9 := hx9.block HRS.out
   have o0 := cell_at hr9 (i := 0) rfl
   have f0 := frozen_row hr9 0
   have o1 := cell_at hr9 (i := 1) rfl
   have f1 := frozen_row hr9 1
   have o2 := cell_at hr9 (i := 2) rfl
   have f2 := frozen_row hr9 2
   have o3 := cell_at hr9 (i := 3) rfl
   have f3 := frozen_row hr9 3
   have HX9 : Hid (Ext w w9) := HX1.out.trans hx9
   clear hr9 hx9
   go_wp2
   refine bodyPost_ret (v := .agg #[.int .i64 9, .int .i64 0, .int .i64 0, .slice none 0 0]) (by simp [results, Tryz.results178, go_sem, o0, o1, o2, o3]) rfl ⟨rfl, ?_⟩
   exact ext4 HX9.out (by omega) _ _ _ _
end
-- HFl
section
set_option maxRecDepth 100000
set_option maxHeartbeats 1600000
open Go.RowKit Go.Maps
/-- Shares, by either party. -/
theorem refSharesW_c (x : Stk) (hcls : isCls x.kd x.m x.k x.n = true) (pp : Int) (hp : pp = 0 \/ pp = 1) (b cap j : Nat) (hj : j < x.ts.length) (hl : x.ts[j].1.length = x.each) (hcap : x.each <= cap) (w : World) (hz : WordsAt w b 0 x.ts[j].1) :
  Calls Tryz.prog 189 #[clsV x.kd x.m x.k x.n, .slice (some ⟨b, 0, none⟩) x.each cap, .int .i64 pp] w fun e w' => ∃ g cp, e = .returned (.slice (some ⟨g, 0, none⟩) (x.sh.x + x.sh.y + x.sh.z) cp) /\ w'.ownsRow w.heap.size 146 1 (.slice (some ⟨g, 0, none⟩) (x.sh.x + x.sh.y + x.sh.z) cp) (x.sh.x + x.sh.y + x.sh.z) ((sharesW x pp j).map (Value.int .u64)) /\ Ext w w' := by
 obtain ⟨hc, hs⟩ := shOf_of hcls
 have hge : (x.ts.getD j ([], false)).1 = x.ts[j].1 := by
  rw [List.getD_eq_getElem?_getD, List.getElem?_eq_getElem hj]; rfl
 unfold sharesW
 rw [hge]
 rcases hp with rfl | rfl
 ·rw [if_pos rfl]
  exact refShares0_c hc hs b 0 cap x.each x.ts[j].1 hl rfl hcap w hz
 ·rw [if_neg (by decide)]
  exact refShares1_c hc hs b 0 cap x.each x.ts[j].1 hl rfl hcap w hz
theorem refFetch_c {G : Nat -> Prop} (p ix f c L : Nat) (S : List Stk) (ls : List LsV) (kk s i kd m k n pp : Int) (hS : S.length <= 100) (hls : ls.length <= 1000) (hfc : ∀ l ∈ ls, 0 <= l.f /\ l.f <= 1000 /\ 0 <= l.c /\ l.c <= 1000) (hf : f <= 2147483647) (hc1 : 1 <= c) (hc40 : c <= 40) (hpp : pp = 0 \/ pp = 1) (hix : ix < S.length) (hfx : S.findIdx? (fun x => x.is kd m k n) = some ix)
  (hkd : (S[ix].kd : Int) = kd) (hm : (S[ix].m : Int) = m) (hk : (S[ix].k : Int) = k) (hn : (S[ix].n : Int) = n) (hcls : isCls kd m k n = true) (hL : L = S[ix].sh.x + S[ix].sh.y + S[ix].sh.z) (hL1 : 1 <= L) (hL2 : L <= 27)
  (_hmost : S[ix].ts.length <= 1000) (hlen : ∀ j (h : j < S[ix].ts.length), S[ix].ts[j].1.length = S[ix].each) (hin : ∀ j : Nat, ls.any (holdsP s kd m k n j) = true -> j < S[ix].ts.length) (w : World) (h : RefAt w G p S ls) :
  Calls Tryz.prog 178 #[.pointer (some ⟨p, 0, none⟩), reqV kk s i kd m k n f c pp] w fun e w' =>
   ((∃ j : Nat, j < c /\ ls.any (holdsP s kd m k n ((f + j : Nat) : Int)) = false) /\ e = .returned (replyV 8 0 0 (.slice none 0 0)) /\ Ext w w') \/
   ((∀ j : Nat, j < c -> ls.any (holdsP s kd m k n ((f + j : Nat) : Int)) = true) /\ ∃ v, e = .returned (replyV 0 f c v) /\ w'.ownsRow w.heap.size 146 1 v (c * L) ((fetched S[ix] pp f c).map (Value.int .u64)) /\ Ext w w') := by
 obtain ⟨i0, hi, hq0, hq1, hq2⟩ := info_parts infoU64
 have HFi : Hid (∀ w', Ext w w' -> Calls Tryz.prog 147 #[.pointer (some ⟨p, 0, none⟩), .agg #[.int .i64 kd, .int .i64 m, .int .i64 k, .int .i64 n]] w' fun e w'' => e = .returned (.int .i64 (ix : Int)) /\ Ext w' w'') := fun w' hx => by
  have := refFind_c p S ls kd m k n hS w' (h.ext hx)
  rw [hfx] at this
  exact this
 have HH : Hid (∀ num : Int, ∀ w', Ext w w' -> Calls Tryz.prog 188 #[.pointer (some ⟨p, 0, none⟩), .int .i64 s, .agg #[.int .i64 kd, .int .i64 m, .int .i64 k, .int .i64 n], .int .i64 num] w' fun e w'' => e = .returned (.bool (ls.any (holdsP s kd m k n num))) /\ Ext w' w'') := fun num w' hx => refHeld_c p S ls s kd m k n num hls hfc w' (h.ext hx)
 have HCo : Hid (∀ w', _) := fun w' => refCode_c 8 w'
 obtain ⟨stv, lsv, css0, h1, h2, h3, h4, h5, h6⟩ := h
 have c0 : w.cell? ⟨p, 0, none⟩ = some stv := cell_at h1 rfl
 have hp : p < w.heap.size := lG w _ c0
 obtain ⟨g, cap, ta, tcap, vs, rfl, hcap, _, ⟨_, _, _, _, s4, _, _⟩, q1, q2, q3⟩ := stock_row h3 h4 h5 ix hix
 have hgl := lG w _ s4
 have HTr : Hid (∀ j : Nat, j < S[ix].ts.length -> ∃ tg b bcap, ta = some ⟨tg, 0, none⟩ /\ tg < w.heap.size /\ w.cell? ⟨tg, j, none⟩ = some (.slice (some ⟨b, 0, none⟩) S[ix].each bcap) /\ ∀ w', Ext w w' -> Calls Tryz.prog 189 #[.agg #[.int .i64 kd, .int .i64 m, .int .i64 k, .int .i64 n], .slice (some ⟨b, 0, none⟩) S[ix].each bcap, .int .i64 pp] w' fun e w'' => ∃ g cp, e = .returned (.slice (some ⟨g, 0, none⟩) L cp) /\ w''.ownsRow w'.heap.size 146 1 (.slice (some ⟨g, 0, none⟩) L cp) L ((sharesW S[ix] pp j).map (Value.int .u64)) /\ Ext w' w'') := fun j hj => by
  obtain ⟨v, hv, b, bcap, rfl, k2, k3, k4⟩ := q3 j hj
  rcases q1 with ⟨_, hn0⟩ | ⟨tg, tc, e, _, _, hcell, _⟩
  ·omega
  ·injection e with e1 _ _
   have hcj := hcell j _ hv
   refine ⟨tg, b, bcap, e1, lG w _ hcj, hcj, fun w' hx => ?_⟩
   have := refSharesW_c S[ix] (by rw [hkd, hm, hk, hn]; exact hcls) pp hpp b bcap j hj (hlen j hj) k2 w' (k3.ext hx)
   rw [clsV, hkd, hm, hk, hn, <- hL] at this
   exact this
 have HIn : Hid _ := hin
 obtain ⟨A, hA⟩ : ∃ A, fetched S[ix] pp f = A := ⟨_, rfl⟩
 obtain ⟨Sw, hSw⟩ : ∃ Sw, sharesW S[ix] pp = Sw := ⟨_, rfl⟩
 have HAs : Hid (∀ j, A (j + 1) = A j ++ Sw (f + j)) := fun j => by rw [<- hA, <- hSw]; exact fetched_succ _ _ _ _
 have HA0 : Hid (A 0 = []) := by rw [<- hA]; rfl
 have HSl : Hid (∀ j : Nat, j < S[ix].ts.length -> (Sw j).length = L) := fun j hj => by
  have hge : (S[ix].ts.getD j ([], false)).1 = S[ix].ts[j].1 := by
   rw [List.getD_eq_getElem?_getD, List.getElem?_eq_getElem hj]; rfl
  have hl : S[ix].ts[j].1.length = S[ix].sh.x + S[ix].sh.y + (S[ix].sh.x + S[ix].sh.y + S[ix].sh.z) := hlen j hj
  have hp0 : (part0 S[ix].sh S[ix].ts[j].1).length = L := by rw [part0, List.length_drop]; omega
  have hp1 : (part1 S[ix].sh S[ix].ts[j].1).length = L := by rw [part1, List.length_zipWith, whole_len _ _ hl, hp0]; omega
  rw [<- hSw, sharesW, hge]
  split
  ·exact hp0
  ·exact hp1
 rw [hA]
 rw [hSw] at HTr
 obtain ⟨len, hl⟩ : ∃ len, S.length = len := ⟨_, rfl⟩
 obtain ⟨tn, htn⟩ : ∃ tn, S[ix].ts.length = tn := ⟨_, rfl⟩
 obtain ⟨E, hE⟩ : ∃ E, S[ix].each = E := ⟨_, rfl⟩
 rw [hl] at c0 hix hcap
 rw [htn] at s4 HTr HIn _hmost HSl
 rw [hE] at HTr
 have hk0 : (0 : Int) <= (ix : Int) := by omega
 have hk1 : (ix : Int) < len := by omega
 have hcc1 : ¬ (c : Int) < 1 := by omega
 have hcc2 : ¬ 40 < (c : Int) := by omega
 have hppn : ¬ 1 < pp := by rcases hpp with rfl | rfl <;> omega
 obtain ⟨fc, hfcn⟩ : ∃ fc, f + c = fc := ⟨_, rfl⟩
 have hwfc : IntKind.i64.wrap ((f : Int) + (c : Int)) = (fc : Int) := by rw [IntKind.wrap_i64]; omega
 have HFC : Hid (f + c = fc) := hfcn
 have hfcb : fc <= 2147483700 := by omega
 clear h1 h2 h3 h4 h5 h6 q1 q2 q3 hfx hlen hin hA hSw hl htn hE hL hfc hkd hm hk hn hS hls hfcn hcls hpp
 unfold replyV at *
 unfold reqV
 go_enter Tryz.func178, Tryz.ntmps178
 go_wp2_with fail
 have hres0 : ((w.alloc (.cells #[.int .i64 kk, .int .i64 s, .int .i64 i, .int .i64 kd, .int .i64 m, .int .i64 k, .int .i64 n, .int .i64 f, .int .i64 c, .int .i64 pp] 51)).alloc (.cells #[.int .i64 0, .int .i64 0, .int .i64 0, .slice none 0 0] 33)).heap[w.heap.size + 1]? = some (.cells #[.int .i64 0, .int .i64 0, .int .i64 0, .slice none 0 0] 33 (0, 0)) := at_new (by simp)
 have hreq0 : ((w.alloc (.cells #[.int .i64 kk, .int .i64 s, .int .i64 i, .int .i64 kd, .int .i64 m, .int .i64 k, .int .i64 n, .int .i64 f, .int .i64 c, .int .i64 pp] 51)).alloc (.cells #[.int .i64 0, .int .i64 0, .int .i64 0, .slice none 0 0] 33)).heap[w.heap.size]? = some (.cells #[.int .i64 kk, .int .i64 s, .int .i64 i, .int .i64 kd, .int .i64 m, .int .i64 k, .int .i64 n, .int .i64 f, .int .i64 c, .int .i64 pp] 51 (0, 0)) := at_old (heap_alloc_new _ _)
 have hXW : Ext w ((w.alloc (.cells #[.int .i64 kk, .int .i64 s, .int .i64 i, .int .i64 kd, .int .i64 m, .int .i64 k, .int .i64 n, .int .i64 f, .int .i64 c, .int .i64 pp] 51)).alloc (.cells #[.int .i64 0, .int .i64 0, .int .i64 0, .slice none 0 0] 33)) := ((Ext.refl w).alloc _).alloc _
 generalize World.alloc (World.alloc w _) _ = W at hres0 hreq0 hXW ⊢
 refine (HFi.out W hXW).mono ?_
 rintro e w1 ⟨rfl, hx1⟩
 have HX1 : Hid (Ext w w1) := hXW.trans hx1
 have HRS : Hid _ := hx1.block hres0
 have HRQ : Hid _ := hx1.block hreq0
 clear hx1 hXW hres0 hreq0
 have r7 : w1.cell? ⟨w.heap.size, 7, none⟩ = some (.int .i64 (f : Int)) := cell_at HRQ.out rfl
 have r8 : w1.cell? ⟨w.heap.size, 8, none⟩ = some (.int .i64 (c : Int)) := cell_at HRQ.out rfl
 have r9 : w1.cell? ⟨w.heap.size, 9, none⟩ = some (.int .i64 pp) := cell_at HRQ.out rfl
 have hrl1 : w.heap.size + 1 < w1.heap.size := (Array.getElem?_eq_some_iff.1 HRS.out).1
 have hrl := lG w1 _ r7
 go_wp2_with fail
 have HB0 : Hid ((w1.alloc (.cells #[.int .i64 0, .int .i64 f, .int .i64 c, .slice none 0 0] 33)).heap[w1.heap.size]? = some (.cells #[.int .i64 0, .int .i64 f, .int .i64 c, .slice none 0 0] 33 (0, 0)) /\ Ext w1 (w1.alloc (.cells #[.int .i64 0, .int .i64 f, .int .i64 c, .slice none 0 0] 33)) /\ (w1.alloc (.cells #[.int .i64 0, .int .i64 f, .int .i64 c, .slice none 0 0] 33)).heap.size = w1.heap.size + 1) := ⟨heap_alloc_new _ _, (Ext.refl _).alloc _, by simp⟩
 generalize hV : World.alloc w1 _ = V at HB0 ⊢
 clear hV
 go_loopw [7, 8, 9] (fun at_ _ _ wr => ∃ (j fj : Nat) (v : Value), j <= c /\ f + j = fj /\ at_ = .int .i64 (fj : Int) /\ (∀ a : Nat, a < j -> ls.any (holdsP s kd m k n ((f + a : Nat) : Int)) = true) /\ wr.heap[w.heap.size]? = some (.cells #[.int .i64 kk, .int .i64 s, .int .i64 i, .int .i64 kd, .int .i64 m, .int .i64 k, .int .i64 n, .int .i64 f, .int .i64 c, .int .i64 pp] 51 (0, 0)) /\ wr.heap[w.heap.size + 1]? = some (.cells #[.int .i64 0, .int .i64 0, .int .i64 0, .slice none 0 0] 33 (0, 0)) /\ wr.heap[w1.heap.size]? = some (.cells #[.int .i64 0, .int .i64 f, .int .i64 c, v] 33 (0, 0)) /\ wr.ownsRow (w1.heap.size + 1) 146 1 v (j * L) ((A j).map (Value.int .u64)) /\ Ext w wr /\ w1.heap.size + 1 <= wr.heap.size) (fun i _ _ _ => fc - (intOf i).toNat)
 case atStart => exact ⟨0, f, _, Nat.zero_le _, rfl, rfl, fun a ha => absurd ha (Nat.not_lt_zero _), HB0.out.2.1.block HRQ.out, HB0.out.2.1.block HRS.out, HB0.out.1, by rw [HA0.out, Nat.zero_mul]; exact World.ownsRow_nil _ _ _ _, HX1.out.trans HB0.out.2.1, Nat.le_of_eq HB0.out.2.2.symm⟩
 case round =>
  obtain ⟨j, fj, v, hj, hfj, rfl, hall, b0, b1, b2, ho, hx, hsz⟩ := hrel
  clear r7 r8 r9
  have HO : Hid (wr.ownsRow (w1.heap.size + 1) 146 1 v (j * L) ((A j).map (Value.int .u64))) := ho
  have HX : Hid (Ext w wr) := hx
  have HB : Hid _ := And.intro b0 (And.intro b1 b2)
  have HAll : Hid _ := hall
  have HFJ : Hid (f + j = fj) := hfj
  have r7 : wr.cell? ⟨w.heap.size, 7, none⟩ = some (.int .i64 (f : Int)) := cell_at b0 rfl
  have r8 : wr.cell? ⟨w.heap.size, 8, none⟩ = some (.int .i64 (c : Int)) := cell_at b0 rfl
  have r1 : wr.cell? ⟨w.heap.size, 1, none⟩ = some (.int .i64 s) := cell_at b0 rfl
  have r3 : wr.cell? ⟨w.heap.size, 3, none⟩ = some (.int .i64 kd) := cell_at b0 rfl
  have r4 : wr.cell? ⟨w.heap.size, 4, none⟩ = some (.int .i64 m) := cell_at b0 rfl
  have r5 : wr.cell? ⟨w.heap.size, 5, none⟩ = some (.int .i64 k) := cell_at b0 rfl
  have r6 : wr.cell? ⟨w.heap.size, 6, none⟩ = some (.int .i64 n) := cell_at b0 rfl
  have hjfc := HFC.out
  by_cases hlt : j < c
  ·have hltf : (fj : Int) < (fc : Int) := by omega
   have hfjb : fj <= 2147483700 := by omega
   clear b0 b1 b2 ho hx hall hfj hjfc
   go_wp2_with fail
   refine (HH.out _ _ HX.out).mono ?_
   rintro e w2 ⟨rfl, hx2⟩
   cases hb : ls.any (holdsP s kd m k n (fj : Int)) with
   | false =>
    have HRS2 : Hid _ := hx2.block HB.out.2.1
    have HX2 : Hid (Ext w w2) := HX.out.trans hx2
    have HEx : Hid (∃ j : Nat, j < c /\ ls.any (holdsP s kd m k n ((f + j : Nat) : Int)) = false) := ⟨j, hlt, by rw [HFJ.out]; exact hb⟩
    clear hx2 hb
    go_wp2_with fail
    refine (HCo.out _).mono ?_
    rintro e w9 ⟨rfl, hx9⟩
    have hr9 := hx9.block HRS2.out
    have o0 := cell_at hr9 (i := 0) rfl
    have o1 := cell_at hr9 (i := 1) rfl
    have o2 := cell_at hr9 (i := 2) rfl
    have o3 := cell_at hr9 (i := 3) rfl
    have f0 := frozen_row hr9 0
    have f1 := frozen_row hr9 1
    have f2 := frozen_row hr9 2
    have f3 := frozen_row hr9 3
    have HX9 : Hid (Ext w w9) := HX2.out.trans hx9
    clear hr9 hx9
    go_wp2
    refine bodyPost_ret (v := .agg #[.int .i64 8, .int .i64 0, .int .i64 0, .slice none 0 0]) (by simp [results, Tryz.results178, go_sem, o0, o1, o2, o3]) rfl (.inl ⟨HEx.out, rfl, ?_⟩)
    exact ext4 HX9.out (by omega) _ _ _ _
   | true =>
    have hfjt : fj < tn := HIn.out fj hb
    obtain ⟨tg, b, bcap, rfl, htg, t1, hsh⟩ := HTr.out fj hfjt
    have HSh : Hid (∀ w', Ext w w' -> _) := hsh
    have HHb : Hid (ls.any (holdsP s kd m k n (fj : Int)) = true) := hb
    have HXp : Hid (Ext w w2) := HX.out.trans hx2
    have HX22 : Hid (Ext wr w2) := hx2
    have SF : Hid (∀ w', Ext w2 w' -> (w'.cell? ⟨p, 0, none⟩ = some (.slice (some ⟨g, 0, none⟩) len cap) /\ w'.cell? ⟨g, ix * 7 + 4, none⟩ = some (.slice (some ⟨tg, 0, none⟩) tn tcap) /\ w'.cell? ⟨tg, fj, none⟩ = some (.slice (some ⟨b, 0, none⟩) E bcap) /\ w'.cell? ⟨w.heap.size, 3, none⟩ = some (.int .i64 kd) /\ w'.cell? ⟨w.heap.size, 4, none⟩ = some (.int .i64 m) /\ w'.cell? ⟨w.heap.size, 5, none⟩ = some (.int .i64 k) /\ w'.cell? ⟨w.heap.size, 6, none⟩ = some (.int .i64 n) /\ w'.cell? ⟨w.heap.size, 9, none⟩ = some (.int .i64 pp))) := fun w' hx => by
     have hq := HXp.out.trans hx
     have hb0 := (HX22.out.trans hx).block HB.out.1
     exact ⟨hq.cell c0, hq.cell s4, hq.cell t1, cell_at hb0 rfl, cell_at hb0 rfl, cell_at hb0 rfl, cell_at hb0 rfl, cell_at hb0 rfl⟩
    have hS0 := SF.out w2 (Ext.refl _)
    have hj0 : (0 : Int) <= (fj : Int) := by omega
    have hj1 : (fj : Int) < (tn : Int) := by omega
    clear hb hx2 hsh r1 r3 r4 r5 r6 r7 r8 c0 s4 t1
    go_wp2_with fail
    go_region_held3 (fun w' => w'.cell? ⟨p, 0, none⟩ = some (.slice (some ⟨g, 0, none⟩) len cap) /\ w'.cell? ⟨g, ix * 7 + 4, none⟩ = some (.slice (some ⟨tg, 0, none⟩) tn tcap) /\ w'.cell? ⟨tg, fj, none⟩ = some (.slice (some ⟨b, 0, none⟩) E bcap) /\ w'.cell? ⟨w.heap.size, 3, none⟩ = some (.int .i64 kd) /\ w'.cell? ⟨w.heap.size, 4, none⟩ = some (.int .i64 m) /\ w'.cell? ⟨w.heap.size, 5, none⟩ = some (.int .i64 k) /\ w'.cell? ⟨w.heap.size, 6, none⟩ = some (.int .i64 n) /\ w'.cell? ⟨w.heap.size, 9, none⟩ = some (.int .i64 pp))
     (first | exact hS0 | exact SF.out _ (Ext.drew (Ext.refl _)) | exact SF.out _ hx3')
     (first
       | (go_at_call 189
          refine (HSh.out _ (Ext.drew HXp.out)).mono ?_
          rintro e w3 ⟨sg, scp, rfl, hown3, hx3⟩
          have hx3' := (Ext.drew (Ext.refl w2)).trans hx3))
    have hjl : ∃ jl, j * L = jl := ⟨_, rfl⟩
    obtain ⟨jl, hjl⟩ := hjl
    have hjlb : jl <= 1080 := by rw [<- hjl]; exact Nat.le_trans (Nat.mul_le_mul (Nat.le_of_lt (Nat.lt_of_lt_of_le hlt hc40)) hL2) (by omega)
    have HJL : Hid (j * L = jl) := hjl
    have HX3 : Hid (Ext wr w3) := HX22.out.trans hx3'
    have HO3 : Hid (w3.ownsRow (w1.heap.size + 1) 146 1 v jl ((A j).map (Value.int .u64))) := by
     rw [<- hjl]; exact HX3.out.owns HO.out
    have HSO : Hid (w3.ownsRow w2.heap.size 146 1 (.slice (some ⟨sg, 0, none⟩) L scp) L ((Sw fj).map (Value.int .u64))) := hown3
    have HSL : Hid ((Sw fj).length = L) := HSl.out fj hfjt
    have b2 := HX3.out.block HB.out.2.2
    have d3 : w3.cell? ⟨w1.heap.size, 3, none⟩ = some v := cell_at b2 rfl
    have hw3l := HX3.out.le
    clear hown3 hx3 hx3' hjl hS0
    go_wp2_with (at_builtin; refine wpList_append_lies _ rfl _ _ 31 rfl (w1.heap.size + 1) 146 i0 (.int .u64 0) 1 8 Tryz.underlying31 hi hq0 hq1 hq2 rfl (by decide) v jl ((A j).map (Value.int .u64)) rfl HO3.out ⟨sg, 0, none⟩ L scp ((Sw fj).map (Value.int .u64)) rfl ?c1 ?c2 (words_one _) ?c3 ?c4 ?c5 ?c6 _ rfl ?_)
    case c1 => rw [List.length_map, HSL.out]; omega
    case c2 => exact WordsAt.cells (owns_words HSO.out)
    case c3 => omega
    case c4 => unfold maxLen; omega
    case c5 => omega
    case c6 => omega
    intro gv cv w4 hown4 hgrow4 hat4 hlt4
    have HT4 : Hid (Turn (fun q => v.ownBlock = some q) w3 w4) := Turn.grown (Turn.refl _ _) hgrow4 (fun q hq _ => hq)
    have HNB : Hid (∀ q, v.ownBlock = some q -> w1.heap.size + 1 <= q) := fun q hq => (World.ownsRow.lt HO3.out q hq).1
    have HO4 : Hid _ := hown4
    have b2' := HT4.out.ref b2 (fun e => by have := HNB.out _ e; omega)
    have e3 : w4.cell? ⟨w1.heap.size, 3, none⟩ = some v := cell_at b2' rfl
    have f3 := frozen_row b2' 3
    have HB2 : Hid _ := b2'
    have hw4l := HT4.out.size
    clear hown4 hgrow4 hat4 b2 b2' d3
    go_wp2
    go_roundw
    case rel =>
     have hne : ∀ q, q < w1.heap.size + 1 -> ¬ v.ownBlock = some q := fun q hq e => by have := HNB.out _ e; omega
     have hT : Turn (fun q => q = w1.heap.size \/ v.ownBlock = some q) wr (w4.setCell ⟨w1.heap.size, 3, none⟩ (.slice (some ⟨gv, 0, none⟩) (jl + L) cv)) := Turn.setCell ((Turn.of_ext HX3.out).trans' HT4.out (fun q _ hq => .inr hq)) (fun _ => .inl rfl) _
     refine ⟨j + 1, fj + 1, .slice (some ⟨gv, 0, none⟩) (jl + L) cv, by omega, by have := HFJ.out; omega, by go_num, fun a ha => ?_, hT.ref HB.out.1 (fun e => e.elim (fun e => by omega) (fun e => hne _ (by omega) e)), hT.ref HB.out.2.1 (fun e => e.elim (fun e => by omega) (fun e => hne _ (by omega) e)), setCell_row HB2.out _, ?_, ?_, ?_⟩
     ·by_cases haj : a < j
      ·exact HAll.out a haj
      ·obtain rfl : a = j := by omega
       rw [HFJ.out]; exact HHb.out
     ·rw [HAs.out, HFJ.out, List.map_append, show (j + 1) * L = jl + L by rw [Nat.add_mul, Nat.one_mul, HJL.out]]
      exact owns_setCell HO4.out (fun e => by have := (World.ownsRow.lt HO4.out _ e).1; simp only at this; omega) _
     ·exact Turn.ext ((Turn.of_ext (S := fun _ => False) HX.out).trans' hT (fun q hq e => e.elim (fun e => by omega) (fun e => hne _ (by omega) e)))
     ·exact Nat.le_trans hsz hT.size
    case measure => simp [intOf]; omega
  ·obtain rfl : j = c := by omega
   have hltf : ¬ (fj : Int) < (fc : Int) := by omega
   have o0 := cell_at b1 (i := 0) rfl
   have o1 := cell_at b1 (i := 1) rfl
   have o2 := cell_at b1 (i := 2) rfl
   have o3 := cell_at b1 (i := 3) rfl
   have f0 := frozen_row b1 0
   have f1 := frozen_row b1 1
   have f2 := frozen_row b1 2
   have f3 := frozen_row b1 3
   have d0 := cell_at b2 (i := 0) rfl
   have d1 := cell_at b2 (i := 1) rfl
   have d2 := cell_at b2 (i := 2) rfl
   have d3 := cell_at b2 (i := 3) rfl
   have HNE : Hid (v.ownBlock ≠ some (w.heap.size + 1)) := fun e => by have := (World.ownsRow.lt HO.out _ e).1; omega
   clear b0 b1 b2 ho hx hall hfj hjfc HB
   obtain ⟨va, vcap, rfl⟩ := owns_slice HO.out
   obtain ⟨jl, hjl⟩ : ∃ jl, j * L = jl := ⟨_, rfl⟩
   rw [hjl] at HO HNE d3
   have HJL : Hid (j * L = jl) := hjl
   clear hjl
   go_wp2
   refine bodyPost_ret (v := .agg #[.int .i64 0, .int .i64 f, .int .i64 j, .slice va jl vcap]) (by simp [results, Tryz.results178, go_sem, o0, o1, o2, o3]) rfl (.inr ⟨by simpa using HAll.out, .slice va jl vcap, rfl, ?_, ?_⟩)
   ·refine owns_setCell (a := ⟨w.heap.size + 1, 3, none⟩) ?_ HNE.out _
    refine owns_setCell (a := ⟨w.heap.size + 1, 2, none⟩) ?_ HNE.out _
    refine owns_setCell (a := ⟨w.heap.size + 1, 1, none⟩) ?_ HNE.out _
    refine owns_setCell (a := ⟨w.heap.size + 1, 0, none⟩) ?_ HNE.out _
    rw [HJL.out]
    exact owns_base HO.out (show w.heap.size <= w1.heap.size + 1 by omega)
   ·exact ext4 HX.out (by omega) _ _ _ _
end
-- HRe
section
set_option maxRecDepth 100000
set_option maxHeartbeats 1600000
open Go.RowKit Go.Maps
theorem refRefilledCls_c (p : Nat) (kd m k n : Int) (hcls : isCls kd m k n = false) (a : Option Addr) (len cap : Nat) (w : World) :
  Calls Tryz.prog 102 #[.pointer (some ⟨p, 0, none⟩), clsV kd m k n, .slice a len cap] w fun e w' => e = .returned (.tuple #[.pointer none, .int .i64 2]) /\ Ext w w' := by
 have HI : Hid (∀ w, Calls Tryz.prog 145 #[clsV kd m k n] w fun e w' => e = .returned (.bool false) /\ Ext w w') := fun w => by
  have := refIsClass_c kd m k n w
  rw [hcls] at this
  exact this
 unfold clsV at *
 clear hcls
 go_enter Tryz.func102, Tryz.ntmps102
 go_wp2_with fail
 refine (HI.out _).mono ?_; rintro e w1 ⟨rfl, hx1⟩
 have HX1 : Hid (Ext w w1) := ((Ext.refl w).alloc _).trans hx1
 clear hx1
 go_wp2
 go_ret2
 exact ⟨rfl, HX1.out⟩
theorem refRefilledDraws_c (p : Nat) (kd m k n : Nat) (hcls : isCls kd m k n = true) (a : Option Addr) (len cap E : Nat) (hE : E = (shOf kd m k n).x + (shOf kd m k n).y + ((shOf kd m k n).x + (shOf kd m k n).y + (shOf kd m k n).z)) (hlen : len <= 1000000000000000) (hno : len % E ≠ 0 \/ len / E < 1 \/ 12 < len / E) (w : World) :
  Calls Tryz.prog 102 #[.pointer (some ⟨p, 0, none⟩), clsV kd m k n, .slice a len cap] w fun e w' => e = .returned (.tuple #[.pointer none, .int .i64 3]) /\ Ext w w' := by
 obtain ⟨hc, hs⟩ := shOf_of hcls
 have hle := Sh.le hs
 have HI : Hid (∀ w, Calls Tryz.prog 145 #[clsV kd m k n] w fun e w' => e = .returned (.bool true) /\ Ext w w') := fun w => by
  have := refIsClass_c kd m k n w
  rw [hcls] at this
  exact this
 have HDr : Hid _ := refDraws_c hc hs
 rw [<- hE] at HDr
 have hE1 : 1 <= E /\ E <= 45 := by omega
 unfold clsV at *
 clear hcls hc hs hE hle
 have hdiv : Int.tdiv (len : Int) (E : Int) = ((len / E : Nat) : Int) := by rw [Int.tdiv_eq_ediv_of_nonneg (by omega)]; rfl
 have hne : ¬ ((E : Int) = 0) := by omega
 have hdm : E * (len / E) + len % E = len := Nat.div_add_mod len E
 have hdl : len / E <= len := Nat.div_le_self _ _
 have hml : len / E * E <= len := Nat.div_mul_le_self len E
 have HNo : Hid _ := hno
 generalize len / E = qd at *
 generalize len % E = qm at *
 have hwd : IntKind.i64.wrap (qd : Int) = (qd : Int) := by rw [IntKind.wrap_i64]; omega
 obtain ⟨qe, hqe⟩ : ∃ qe, qd * E = qe := ⟨_, rfl⟩
 have hwm : IntKind.i64.wrap ((qd : Int) * (E : Int)) = (qe : Int) := by rw [<- Int.natCast_mul, hqe, IntKind.wrap_i64]; omega
 have HQ : Hid (qe + qm = len) := by
  show qe + qm = len
  rw [Nat.mul_comm E qd, hqe] at hdm; exact hdm
 clear hno hdm hml hqe
 go_enter Tryz.func102, Tryz.ntmps102
 go_wp2_with fail
 refine (HI.out _).mono ?_; rintro e w1 ⟨rfl, hx1⟩
 obtain ⟨d0, d1, d2, d3⟩ := four_in hx1
 have HX1 : Hid (Ext w w1) := ((Ext.refl w).alloc _).trans hx1
 clear hx1
 go_wp2_with fail
 refine (HDr.out _).mono ?_; rintro e w2 ⟨rfl, hx2⟩
 have HX2 : Hid (Ext w w2) := HX1.out.trans hx2
 clear hx2 HX1 d0 d1 d2 d3
 go_wp2_with fail
 all_goals first
  | (go_ret2; exact ⟨rfl, HX2.out⟩)
  | (exfalso; have := HNo.out; have := HQ.out; omega)
theorem refRefilledFull_c {G : Nat -> Prop} (p : Nat) (S : List Stk) (ls : List LsV) (kd m k n : Nat) (hcls : isCls kd m k n = true) (a : Option Addr) (len cap E cnt : Nat) (hE : E = (shOf kd m k n).x + (shOf kd m k n).y + ((shOf kd m k n).x + (shOf kd m k n).y + (shOf kd m k n).z)) (hlen : len = cnt * E) (hc1 : 1 <= cnt) (hc12 : cnt <= 12) (hS : S.length <= 100) (hSm : ∀ x ∈ S, x.ts.length <= 1000) (hcd : makeCode S kd m k n cnt ≠ 0) (w : World) (h : RefAt w G p S ls) :
  Calls Tryz.prog 102 #[.pointer (some ⟨p, 0, none⟩), clsV kd m k n, .slice a len cap] w fun e w' => e = .returned (.tuple #[.pointer none, .int .i64 4]) /\ Ext w w' := by
 obtain ⟨hc, hs⟩ := shOf_of hcls
 have hle := Sh.le hs
 have HI : Hid (∀ w, Calls Tryz.prog 145 #[clsV kd m k n] w fun e w' => e = .returned (.bool true) /\ Ext w w') := fun w => by
  have := refIsClass_c kd m k n w
  rw [hcls] at this
  exact this
 have HDr : Hid _ := refDraws_c hc hs
 rw [<- hE] at HDr
 have hE1 : 1 <= E /\ E <= 45 := by omega
 have HFi : Hid (∀ w', Ext w w' -> Calls Tryz.prog 147 #[.pointer (some ⟨p, 0, none⟩), clsV kd m k n] w' fun e w'' => e = .returned (.int .i64 (match S.findIdx? (fun x => x.is kd m k n) with | some i => (i : Int) | none => -1)) /\ Ext w' w'') := fun w' hx => refFind_c p S ls kd m k n hS w' (h.ext hx)
 have hlenb : len <= 540 := by rw [hlen]; exact Nat.le_trans (Nat.mul_le_mul hc12 hE1.2) (by omega)
 have hdiv : Int.tdiv (len : Int) (E : Int) = (cnt : Int) := by rw [hlen, Int.natCast_mul, Int.mul_tdiv_cancel _ (by omega)]
 have hwm : IntKind.i64.wrap ((cnt : Int) * (E : Int)) = (len : Int) := by rw [<- Int.natCast_mul, <- hlen]; exact wrap_small (by omega)
 have hne : ¬ ((E : Int) = 0) := by omega
 have hn1 : ¬ (cnt : Int) < 1 := by omega
 have hn2 : ¬ 12 < (cnt : Int) := by omega
 obtain ⟨stv, lsv, css0, h1, h2, h3, h4, h5, h6⟩ := h
 have c0 : w.cell? ⟨p, 0, none⟩ = some stv := cell_at h1 rfl
 have hp : p < w.heap.size := lG w _ c0
 cases hfx : S.findIdx? (fun x => x.is kd m k n) with
 | none =>
  rw [hfx] at HFi
  have h6 : 6 <= S.length := by
   unfold makeCode at hcd
   rw [find_none_idx hfx] at hcd
   simp only at hcd
   split at hcd
   ·rename_i hor; omega
   ·simp at hcd
  obtain ⟨sa, scap, rfl⟩ := h3.slice
  obtain ⟨ln, hln⟩ : ∃ ln, S.length = ln := ⟨_, rfl⟩
  rw [hln] at c0 h6
  have h6' : (6 : Int) <= (ln : Int) := by omega
  unfold clsV at *
  clear hcls hc hs hE hle h1 h2 h3 h4 h5 hlen hcd hfx hSm hS hln
  go_enter Tryz.func102, Tryz.ntmps102
  go_wp2_with fail
  refine (HI.out _).mono ?_; rintro e w1 ⟨rfl, hx1⟩
  obtain ⟨d0, d1, d2, d3⟩ := four_in hx1
  have HX1 : Hid (Ext w w1) := ((Ext.refl w).alloc _).trans hx1
  clear hx1
  go_wp2_with fail
  refine (HDr.out _).mono ?_; rintro e w2 ⟨rfl, hx2⟩
  have HX2 : Hid (Ext w w2) := HX1.out.trans hx2
  have d0 := hx2.cell d0
  have d1 := hx2.cell d1
  have d2 := hx2.cell d2
  have d3 := hx2.cell d3
  clear hx2 HX1
  go_wp2_with fail
  refine (HFi.out _ HX2.out).mono ?_; rintro e w3 ⟨rfl, hx3⟩
  have HX3 : Hid (Ext w w3) := HX2.out.trans hx3
  have c0 := HX3.out.cell c0
  clear hx3 HX2 d0 d1 d2 d3
  go_wp2
  go_ret2
  exact ⟨rfl, HX3.out⟩
 | some ix =>
  rw [hfx] at HFi
  obtain ⟨hix, hfi⟩ := find_idx hfx
  have hbig : 200 < S[ix].ts.length + cnt := by
   unfold makeCode at hcd
   rw [hfi] at hcd
   simp only at hcd
   split at hcd
   ·assumption
   ·simp at hcd
  have htm := hSm _ (List.getElem_mem hix)
  obtain ⟨g, cap1, ta, tcap, vs, rfl, hcap1, _, ⟨_, _, _, _, s4, _, _⟩, _, _, _⟩ := stock_row h3 h4 h5 ix hix
  have hgl := lG w _ s4
  obtain ⟨ln, hln⟩ : ∃ ln, S.length = ln := ⟨_, rfl⟩
  obtain ⟨tn, htn⟩ : ∃ tn, S[ix].ts.length = tn := ⟨_, rfl⟩
  rw [hln] at c0 hix hcap1
  rw [htn] at s4 hbig htm
  have hk0 : (0 : Int) <= (ix : Int) := by omega
  have hk1 : (ix : Int) < ln := by omega
  have hbg : (200 : Int) < (tn : Int) + (cnt : Int) := by omega
  have hwb : IntKind.i64.wrap ((tn : Int) + (cnt : Int)) = (tn : Int) + (cnt : Int) := by rw [IntKind.wrap_i64]; omega
  unfold clsV at *
  clear hcls hc hs hE hle h1 h2 h3 h4 h5 h6 hlen hcd hfx hSm hS hln htn hfi
  go_enter Tryz.func102, Tryz.ntmps102
  go_wp2_with fail
  refine (HI.out _).mono ?_; rintro e w1 ⟨rfl, hx1⟩
  obtain ⟨d0, d1, d2, d3⟩ := four_in hx1
  have HX1 : Hid (Ext w w1) := ((Ext.refl w).alloc _).trans hx1
  clear hx1
  go_wp2_with fail
  refine (HDr.out _).mono ?_; rintro e w2 ⟨rfl, hx2⟩
  have HX2 : Hid (Ext w w2) := HX1.out.trans hx2
  have d0 := hx2.cell d0
  have d1 := hx2.cell d1
  have d2 := hx2.cell d2
  have d3 := hx2.cell d3
  clear hx2 HX1
  go_wp2_with fail
  refine (HFi.out _ HX2.out).mono ?_; rintro e w3 ⟨rfl, hx3⟩
  have HX3 : Hid (Ext w w3) := HX2.out.trans hx3
  have c0 := HX3.out.cell c0
  have s4 := HX3.out.cell s4
  clear hx3 HX2 d0 d1 d2 d3
  go_wp2
  go_ret2
  exact ⟨rfl, HX3.out⟩
end
end Go.Proofs.YtmnjhhachdlmkaaGreat
