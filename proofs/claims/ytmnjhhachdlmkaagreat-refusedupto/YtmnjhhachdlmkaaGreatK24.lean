import Derived.Test.YtmnjhhachdlmkaaGreatK23
namespace Go.Proofs.YtmnjhhachdlmkaaGreat
set_option linter.unusedVariables false
set_option linter.unusedSimpArgs false
open List renaming getElem_toArray -> lA, getElem_cons_succ -> lB, getElem_cons_zero -> lC, setIfInBounds_toArray -> lD, set_cons_zero -> lE, set_cons_succ -> lF
open World renaming block_lt_of_cell? -> lG
-- VRn
section
set_option maxRecDepth 100000
set_option maxHeartbeats 16000000
open Go.RowKit Go.Maps
structure RnAt (w wr : World) (P B cb : Nat) (F : Nat -> Prop) (d : DS) : Prop where
 cls : wr.heap[cb]? = some (.cells #[.int .i64 0, .int .i64 1, .int .i64 1, .int .i64 1] 49 (0, 0))
 cout : ¬ F cb
 cell : wr.cell? ⟨P, 0, none⟩ = some (.pointer (some ⟨B, 0, none⟩))
 deal : DealX wr B F d
 out : ¬ F P
 turn : Turn (fun b => w.heap.size <= b) w wr
 new : ∀ b, F b -> w.heap.size <= b
theorem RnAt.ext {w wr w' : World} {P B cb : Nat} {F : Nat -> Prop} {d : DS} (h : RnAt w wr P B cb F d) (hx : Ext wr w') : RnAt w w' P B cb F d :=
 ⟨hx.block h.cls, h.cout, hx.cell h.cell, h.deal.ext hx, h.out, h.turn.trans (Turn.of_ext hx), h.new⟩
theorem RnAt.left {w wr w' : World} {P B cb : Nat} {F F' : Nat -> Prop} {d d' : DS} (h : RnAt w wr P B cb F d) (h1 : DealX w' B F' d') (h2 : Turn F wr w') (h3 : ∀ b, F' b -> F b \/ wr.heap.size <= b) : RnAt w w' P B cb F' d' := by
 have hp := lG wr _ h.cell
 have hs := h.turn.size
 have hc := (Array.getElem?_eq_some_iff.1 h.cls).1
 refine ⟨h2.ref h.cls h.cout, fun hf => ?_, h2.cell h.cell h.out, h1, fun hf => ?_, h.turn.trans' h2 (fun b _ hf => h.new b hf), fun b hf => ?_⟩
 ·rcases h3 cb hf with h' | h'
  ·exact h.cout h'
  ·omega
 ·rcases h3 P hf with h' | h'
  ·exact h.out h'
  ·simp only at hp; omega
 ·rcases h3 b hf with h' | h'
  ·exact h.new b h'
  ·omega
theorem RnAt.call {w wr w' : World} {P B cb : Nat} {F F' : Nat -> Prop} {d d' : DS} (h : RnAt w wr P B cb F d) (k : CallX d' wr w' B F F') : RnAt w w' P B cb F' d' := h.left k.deal k.turn k.grows
structure Had (wr : World) (F : Nat -> Prop) (t : TypeId) (z : Nat) (v : Value) (n : Nat) (xs : List Value) : Prop where
 row : wr.ownsRow 0 t z v n xs
 out : ∀ q, v.ownBlock = some q -> ¬ F q
theorem Had.mk' {w wr : World} {B : Nat} {F : Nat -> Prop} {d : DS} {t : TypeId} {z : Nat} {v : Value} {n : Nat} {xs : List Value} (h : wr.ownsRow w.heap.size t z v n xs) (hd : DealX w B F d) : Had wr F t z v n xs :=
 ⟨owns_base h (Nat.zero_le _), fun q hq hf => by
  have a := (World.ownsRow.lt h q hq).1
  have b := hd.lt q hf
  omega⟩
theorem Had.ext {wr w' : World} {F : Nat -> Prop} {t : TypeId} {z : Nat} {v : Value} {n : Nat} {xs : List Value} (h : Had wr F t z v n xs) (hx : Ext wr w') : Had w' F t z v n xs := ⟨hx.owns h.row, h.out⟩
theorem Had.left {wr w' : World} {F F' : Nat -> Prop} {t : TypeId} {z : Nat} {v : Value} {n : Nat} {xs : List Value} (h : Had wr F t z v n xs) (h2 : Turn F wr w') (h3 : ∀ b, F' b -> F b \/ wr.heap.size <= b) : Had w' F' t z v n xs :=
 ⟨h2.owns h.row h.out, fun q hq hf => by
  have a := (World.ownsRow.lt h.row q hq).2
  rcases h3 q hf with h' | h'
  ·exact h.out q hq h'
  ·omega⟩
def SN (P B cb : Nat) (w' : World) : Prop := w'.cell? ⟨P, 0, none⟩ = some (.pointer (some ⟨B, 0, none⟩)) /\ w'.cell? ⟨cb, 0, none⟩ = some (.int .i64 0) /\ w'.cell? ⟨cb, 1, none⟩ = some (.int .i64 1) /\ w'.cell? ⟨cb, 2, none⟩ = some (.int .i64 1) /\ w'.cell? ⟨cb, 3, none⟩ = some (.int .i64 1)
theorem RnAt.sn {w wr : World} {P B cb : Nat} {F : Nat -> Prop} {d : DS} (h : RnAt w wr P B cb F d) : SN P B cb wr :=
 ⟨h.cell, (cell_of_row wr _ 0 _ _ _ h.cls).trans rfl, (cell_of_row wr _ 1 _ _ _ h.cls).trans rfl, (cell_of_row wr _ 2 _ _ _ h.cls).trans rfl, (cell_of_row wr _ 3 _ _ _ h.cls).trans rfl⟩
theorem RnAt.facts {w wr : World} {P B cb : Nat} {F : Nat -> Prop} {d : DS} (h : RnAt w wr P B cb F d) : wr.cell? ⟨P, 0, none⟩ = some (.pointer (some ⟨B, 0, none⟩)) /\ P < wr.heap.size /\ wr.cell? ⟨cb, 0, none⟩ = some (.int .i64 0) /\ wr.cell? ⟨cb, 1, none⟩ = some (.int .i64 1) /\ wr.cell? ⟨cb, 2, none⟩ = some (.int .i64 1) /\ wr.cell? ⟨cb, 3, none⟩ = some (.int .i64 1) /\ cb < wr.heap.size :=
 ⟨h.cell, lG wr _ h.cell, h.sn.2.1, h.sn.2.2.1, h.sn.2.2.2.1, h.sn.2.2.2.2, (Array.getElem?_eq_some_iff.1 h.cls).1⟩
theorem zS {P : Program} {ops : Array Oper} {Q : Exit → Act → World → Prop} {md : Region.Mode} {S : World → Prop} (i : Nat) {oi : Oper} {v : Value} {fuel : Nat} {listed l' : Array Bool} {a a' : Act} {w : World} (hS : S w) (h : wpAnyH P md ops Q S fuel l' a' w) (hi : ops[i]? = some oi := by rfl)
  (hs : Region.noSelect ops = true := by kernel_rfl) (hf : Region.free md ops listed i = true := by kernel_rfl) (hr : (Region.ready md ops listed).contains i = true := by kernel_rfl)
  (hQ : ∀ c a w, Q (.panic c) (a.put oi.dst v) w → Q (.panic c) a w := by exact fun _ _ _ h => h) (hw : Region.wanted oi (yielded ops a.tmps) = true := by rfl) (hy : ∀ w, S w → (execOp a.eval oi).run P w = .ok (.value v) w := by (intro w hSw; unfold SN at hSw; go_simp; try with_reducible rfl)) (hl : listed.setIfInBounds i true = l' := by ((try simp only [Act.put, List.getElem_toArray, List.getElem_cons_succ, List.getElem_cons_zero, List.setIfInBounds_toArray, List.set_cons_zero, List.set_cons_succ]); exact rfl)) (ha : a.put oi.dst v = a' := by ((try simp only [Act.put, List.getElem_toArray, List.getElem_cons_succ, List.getElem_cons_zero, List.setIfInBounds_toArray, List.set_cons_zero, List.set_cons_succ]); exact rfl)) : wpAnyH P md ops Q S (fuel + 1) listed a w :=
  wpAnyH_take hi hs hf hr hQ (Or.inl ⟨hw, hy⟩) hS (by rw [hl, ha]; exact h)
structure RkAt (w wr : World) (P B cb : Nat) (F : Nat -> Prop) (d d1 : DS) (lv sv : Value) : Prop extends RnAt w wr P B cb F d where
 lr : Had wr F 56 9 lv d1.ls.length (lsCells d1.ls)
 sr : Had wr F 116 7 sv d1.S.length (toldAll d1.S)
theorem RkAt.ext {w wr w' : World} {P B cb : Nat} {F : Nat -> Prop} {d d1 : DS} {lv sv : Value} (h : RkAt w wr P B cb F d d1 lv sv) (hx : Ext wr w') : RkAt w w' P B cb F d d1 lv sv := ⟨h.toRnAt.ext hx, h.lr.ext hx, h.sr.ext hx⟩
theorem RkAt.left {w wr w' : World} {P B cb : Nat} {F F' : Nat -> Prop} {d d' d1 : DS} {lv sv : Value} (h : RkAt w wr P B cb F d d1 lv sv) (h1 : DealX w' B F' d') (h2 : Turn F wr w') (h3 : ∀ b, F' b -> F b \/ wr.heap.size <= b) : RkAt w w' P B cb F' d' d1 lv sv := ⟨h.toRnAt.left h1 h2 h3, h.lr.left h2 h3, h.sr.left h2 h3⟩
theorem RkAt.call {w wr w' : World} {P B cb : Nat} {F F' : Nat -> Prop} {d d' d1 : DS} {lv sv : Value} (h : RkAt w wr P B cb F d d1 lv sv) (k : CallX d' wr w' B F F') : RkAt w w' P B cb F' d' d1 lv sv := h.left k.deal k.turn k.grows
theorem words_take {w : World} {b : Nat} {zs : List Int} (h : WordsAt w b 0 zs) (q : Nat) : WordsAt w b 0 (zs.take q) := by
 intro i hi
 rw [List.length_take] at hi
 have := h i (by omega)
 rw [this]
 simp only [List.getD_eq_getElem?_getD]
 rw [List.getElem?_take_of_lt (by omega)]
theorem u64_take {zs : List Int} (h : inU64 zs) (q : Nat) : inU64 (zs.take q) := fun z hz => h z (List.mem_of_mem_take hz)
theorem rn_start {w wr x0 : World} {P B : Nat} {F : Nat -> Prop} {d : DS} {fv : Value} (h1 : RunAt wr P B fv) (h2 : DealX wr B F d) (h3 : ¬ F P) (h4 : Turn (fun b => w.heap.size <= b) w wr) (h5 : ∀ b, F b -> w.heap.size <= b) (hx : Ext wr x0) : RnAt w (x0.alloc (.cells #[.int .i64 0, .int .i64 1, .int .i64 1, .int .i64 1] 49)) P B x0.heap.size F d := by
 have hy : Ext wr (x0.alloc (.cells #[.int .i64 0, .int .i64 1, .int .i64 1, .int .i64 1] 49)) := hx.alloc _
 exact ⟨heap_alloc_new _ _, fun hf => by have := h2.lt _ hf; have := hx.le; omega, hy.cell (cell_at h1 (i := 0) rfl), h2.ext hy, h3, h4.trans (Turn.of_ext hy), h5⟩
theorem inI_out {c n : Int} (hc : inI c) (hn : 0 <= n /\ n <= 100) : inI (outN c n) := by
 unfold inI outN at *
 split <;> omega
theorem refill_bad {d : DS} {kd m k n : Int} {D : List Int} (h : fillCode d.S kd m k n D ≠ 0) : d.refill kd m k n D = (fillCode d.S kd m k n D, d) := by
 unfold DS.refill
 rw [if_neg h]
theorem code_class {S : List Stk} {kd : Int} (D : List Int) (h : kd < 0 \/ 3 <= kd) : fillCode S kd 1 1 1 D = 2 := by
 unfold fillCode
 rw [if_neg]
 unfold isCls
 simp
 omega
theorem code_draws {S : List Stk} {D : List Int} (h : D.length < 5 \/ D.length = 65) : fillCode S 0 1 1 1 D = 3 := by
 have h5 : drawsN 0 1 1 1 = 5 := by decide
 unfold fillCode
 rw [if_pos (by decide), h5, if_pos]
 omega
theorem refusedTop_c (sa : Option Addr) (n cap : Nat) (hn : n <= 150000) (nn kk : Int) (h1 : inI nn) (h2 : inI kk) (w : World) (hs : KScriptAt w w.heap.size sa n) :
  Calls Tryz.prog 10 #[.slice sa n cap, .int .i64 nn, .int .i64 kk] w fun e w' => e = .returned (.bool true) /\ Turn (fun b => w.heap.size <= b) w w' := by
 have HSc : Hid (KScriptAt w w.heap.size sa n) := hs
 have HI : Hid (inI nn /\ inI kk) := ⟨h1, h2⟩
 clear hs h1 h2
 go_enter Tryz.func10, Tryz.ntmps10
 go_wp2_with fail
 refine (began_c w).mono ?_
 rintro e w1 ⟨P, B, rfl, b1, b2, b3, b4, b5, b6⟩
 have HR0 : Hid (RunsOf w w1 P 0 DS.opened [] (fun b => b = P \/ b = B)) := runs_began b1 b2 b3 b4 b5 b6
 clear b1 b2 b3 b4 b5 b6
 go_wp2_with fail
 go_loopw [8] (fun i wr => ∃ j : Nat, j <= n /\ i = .int .i64 j /\ ∃ d fs G, RunsOf w wr P j d fs G) (fun i _ => n - (intOf i).toNat)
 case atStart => exact ⟨0, Nat.zero_le _, rfl, _, _, _, HR0.out⟩
 case round =>
  obtain ⟨j, hj, rfl, d, fs, G, hR⟩ := hrel
  have HR : Hid (RunsOf w wr P j d fs G) := hR
  clear hR HR0
  by_cases hlt : j < n
  ·obtain ⟨b, off, rfl, hb, kd, a, b', c, n', ra, rl, rcap, D, hst, hbo⟩ := script_at HSc.out HR.out.turn hlt
   have HSt : Hid (StepAt wr b (off + j * 6) kd a b' c n' ra rl rcap D) := hst
   obtain ⟨s0, s1, s2, s3, s4, s5, i1, i2, i3, i4, i5, hDl, hrl, hdw⟩ := hst
   have hbl := lG wr _ s0
   have hj0 : (0 : Int) <= (j : Int) := by omega
   have hj1 : (j : Int) < n := by omega
   have HStp : Hid (∀ w', Ext wr w' -> _) := fun w' hx => stepR_x kd a b' c n' ra rl rcap D i1 i2 i3 i4 i5 hDl (by omega) HR.out.ok (by omega) w' (HR.out.run.ext hx) (hdw.ext hx)
   have HNx : Hid (RunOk (stepR d fs kd a b' c n' D).2.1 (stepR d fs kd a b' c n' D).2.2 (j + 1) /\ Keep4 (stepR d fs kd a b' c n' D).2.1) := ⟨stepR_run HR.out.ok (by omega) kd a b' c n' D, keep4_step HR.out.keep HR.out.ok (by omega) kd a b' c n' D⟩
   clear i1 i2 i3 i4 i5 hDl hrl hdw hbo
   generalize stepR d fs kd a b' c n' D = p at *
   obtain ⟨⟨pc, pf, pn, pz⟩, d', fs'⟩ := p
   unfold StepRP stepV replyV at *
   simp only at *
   go_wp2_with fail
   refine (HStp.out _ (Ext.refl _)).mono ?_
   rintro e w2 ⟨xa, xl, xc, G', rfl, hz, hx⟩
   have HN2 : Hid (RunsOf w w2 P (j + 1) d' fs' G') := HR.out.next hx HNx.out.1 HNx.out.2
   clear hx hz
   go_wp2_with fail
   refine ⟨⟨j + 1, by omega, by go_num, d', fs', G', HN2.out.ext (by (repeat (first | with_reducible exact Ext.refl _ | with_reducible assumption | with_reducible refine Ext.drew ?_ | with_reducible refine Ext.alloc ?_ _ | with_reducible (apply Ext.chain; assumption))))⟩, by simp [intOf]; omega⟩
  ·obtain rfl : n = j := by omega
   have hops := HR.out.ok.ops
   have hgood := HR.out.ok.good
   have hkeep := HR.out.keep
   have hturn := HR.out.turn
   have hnew := HR.out.new
   obtain ⟨⟨B1, F1, fv, r1, r2, r3, r4, r5, r6⟩, r7, r8⟩ := HR.out.run
   have HQ : Hid (RunAt wr P B1 fv /\ DealX wr B1 F1 d /\ (¬ F1 P) /\ Turn (fun b => w.heap.size <= b) w wr /\ ∀ b, F1 b -> w.heap.size <= b) := ⟨r1, r2, r4, hturn, fun b hb => hnew b (r6 b hb)⟩
   have p0 := cell_at r1 (i := 0) rfl
   clear r1 r2 r3 r4 r5 r6 r7 r8 HR hturn hnew
   have HCl : Hid _ := fun w => keepClass_c 0 (by decide) (by decide) w
   have e0 : clsK 0 = (0, 1, 1, 1) := by decide
   rw [e0] at HCl
   obtain ⟨hofc, hok⟩ := shOf_of (show isCls (0 : Nat) (1 : Nat) (1 : Nat) (1 : Nat) = true by decide)
   have HDr : Hid (∀ w' : World, _) := fun w' => keepDraws_c hofc hok 1 (by decide) none 0 0 [] rfl (by decide) w' (.inl rfl)
   have HDm : Hid (∀ w' : World, _) := fun w' => keepDraws_c hofc hok 13 (by decide) none 0 0 [] rfl (by decide) w' (.inl rfl)
   have e5 : 1 * (shOf 0 1 1 1).dr = 5 := by decide
   have e65 : 13 * (shOf 0 1 1 1).dr = 65 := by decide
   rw [e5] at HDr
   rw [e65] at HDm
   have g1 := failAt_good hgood (n := -1) (by decide)
   have k1 : Keep4 (d.failAt (-1)) := ⟨hkeep.cls, hkeep.ses⟩
   have HFx := refill_c0 g1 k1 (fillS [] 5) rfl (fillS_len [] 5)
   have g2 := refill_good (kd := 0) (m := 1) (k := 1) (n := 1) g1 fill5
   have k2 : Keep4 ((d.failAt (-1)).refill 0 1 1 1 (fillS [] 5)).2 := keep4_refill k1 0 (by decide) (fillS [] 5)
   have o2 := refill_ops 0 1 1 1 (fillS [] 5) g1.ah
   have HRf : Hid (∀ w' F2 gh, DealX w' B1 F2 (d.failAt (-1)) -> WordsAt w' gh 0 (fillS [] 5) -> _) := fun w' F2 gh h hz => refill_x (kd := 0) (m := 1) (k := 1) (n := 1) (cap := 5) g1 (show d.ops.length <= 1000000 by omega) (fillS_len [] 5) fill5 (by decide) (Nat.le_refl _) h hz
   replace o2 : ((d.failAt (-1)).refill 0 1 1 1 (fillS [] 5)).2.ops.length <= 700000 := Nat.le_trans o2 (show d.ops.length + 4 <= 700000 by omega)
   have HFa : Hid (∀ w' F2, DealX w' B1 F2 d -> _) := fun w' F2 h => failAt_x (-1) h
   generalize d.failAt (-1) = d0 at *
   generalize d0.refill 0 1 1 1 (fillS [] 5) = rf at *
   obtain ⟨c0, d1⟩ := rf
   simp only at *
   have HG : Hid (d1.Good /\ d1.ops.length <= 700000 /\ Keep4 d1 /\ ∃ x, d1.S.find? (fun x => x.is 0 1 1 1) = some x) := ⟨g2, o2, k2, HFx⟩
   clear hops hgood hkeep g1 k1 HFx g2 k2 o2 hofc hok e0 e5 e65
   unfold clsV at *
   go_wp2_with fail
   refine (HCl.out _).mono ?_
   rintro e x0 ⟨rfl, hx0⟩
   have pz := hx0.cell p0
   have pl := lG x0 _ pz
   have HN0 : Hid (RnAt w (x0.alloc (.cells #[.int .i64 0, .int .i64 1, .int .i64 1, .int .i64 1] 49)) P B1 x0.heap.size F1 d) := rn_start HQ.out.1 HQ.out.2.1 HQ.out.2.2.1 HQ.out.2.2.2.1 HQ.out.2.2.2.2 hx0
   clear hx0 HCl p0
   go_wp2_with fail
   obtain ⟨cb, hcb⟩ : ∃ cb, x0.heap.size = cb := ⟨_, rfl⟩
   rw [hcb] at HN0 ⊢
   generalize World.alloc x0 _ = y0 at HN0 ⊢
   clear hcb pz pl HQ
   refine (HFa.out _ _ HN0.out.deal).mono ?_
   rintro e x1 ⟨rfl, hk⟩
   have HN1 : Hid (RnAt w x1 P B1 cb F1 d0) := HN0.out.call hk
   clear hk HN0 HFa
   obtain ⟨p0, pl, q0, q1, q2, q3, ql⟩ := HN1.out.facts
   go_wp2_with fail
   refine wp_region_held_drew (S := (SN P B1 cb)) (by kernel_rfl) ⟨p0, q0, q1, q2, q3⟩ (fun hHeld => ?_)
   refine zS 0 hHeld ?_
   refine zS 1 hHeld ?_
   refine zS 2 hHeld ?_
   refine zS 3 hHeld ?_
   refine zS 4 hHeld ?_
   refine zS 5 hHeld ?_
   refine zR 6 fun K hK => ?_
   (try simp only [lA, lB, lC])
   go_simp
   refine (HDr.out _).mono ?_
   rintro e y1 ⟨gy1, rfl, hrow, hx⟩
   have HWy1 : Hid (WordsAt y1 gy1 0 (fillS [] 5)) := owns_words hrow
   have HNy1 : Hid (RnAt w y1 P B1 cb F1 d0) := HN1.out.ext ((Ext.drew (Ext.refl _)).trans hx)
   clear hrow hx
   refine hK.out _ _ HNy1.out.sn (fun hHeld => ?_)
   clear hK K
   try simp only [Act.put, lA, lB, lC, lD, lE, lF]
   refine zR 7 fun K hK => ?_
   (try simp only [lA, lB, lC])
   go_simp
   refine (HRf.out _ _ _ HNy1.out.deal HWy1.out).mono ?_
   rintro e x2 ⟨rfl, F2, hk⟩
   have HN2 : Hid (RnAt w x2 P B1 cb F2 d1) := HNy1.out.call hk
   clear hk
   refine hK.out _ _ HN2.out.sn (fun hHeld => ?_)
   clear hK K
   try simp only [Act.put, lA, lB, lC, lD, lE, lF]
   refine wpAnyH_done (by kernel_rfl) ?_ _
   clear p0 pl q0 q1 q2 q3 ql
   clear hHeld HN1 HNy1 HWy1 HRf
   have HL : Hid (∀ w' F2, DealX w' B1 F2 d1 -> _) := fun w' F2 h => leases_x HG.out.1 h
   have HS : Hid (∀ w' F2, DealX w' B1 F2 d1 -> _) := fun w' F2 h => classes_x HG.out.1 h
   have HDk : Hid (∀ w' F2, DealX w' B1 F2 d1 -> _) := fun w' F2 h => disk_x (by have := HG.out.2.1; omega) h
   obtain ⟨p0, pl, q0, q1, q2, q3, ql⟩ := HN2.out.facts
   go_wp2_with fail
   refine (HL.out _ _ HN2.out.deal).mono ?_
   rintro e x3 ⟨lv, rfl, hrow, hx⟩
   have HN3 : Hid (RnAt w x3 P B1 cb F2 d1) := HN2.out.ext hx
   have HL3 : Hid (Had x3 F2 56 9 lv d1.ls.length (lsCells d1.ls)) := Had.mk' hrow HN2.out.deal
   clear hrow hx HN2 HL
   clear p0 pl q0 q1 q2 q3 ql
   obtain ⟨p0, pl, q0, q1, q2, q3, ql⟩ := HN3.out.facts
   go_wp2_with fail
   refine (HS.out _ _ HN3.out.deal).mono ?_
   rintro e x4 ⟨sv, rfl, hrow, hx⟩
   have HN4 : Hid (RnAt w x4 P B1 cb F2 d1) := HN3.out.ext hx
   have HL4 : Hid (Had x4 F2 56 9 lv d1.ls.length (lsCells d1.ls)) := HL3.out.ext hx
   have HS4 : Hid (Had x4 F2 116 7 sv d1.S.length (toldAll d1.S)) := Had.mk' hrow HN3.out.deal
   clear hrow hx HN3 HL3 HS
   clear p0 pl q0 q1 q2 q3 ql
   obtain ⟨p0, pl, q0, q1, q2, q3, ql⟩ := HN4.out.facts
   go_wp2_with fail
   refine (HDk.out _ _ HN4.out.deal).mono ?_
   rintro e x5 ⟨ov, rfl, hrow, hx⟩
   have HN5 : Hid (RnAt w x5 P B1 cb F2 d1) := HN4.out.ext hx
   have HL5 : Hid (Had x5 F2 56 9 lv d1.ls.length (lsCells d1.ls)) := HL4.out.ext hx
   have HS5 : Hid (Had x5 F2 116 7 sv d1.S.length (toldAll d1.S)) := HS4.out.ext hx
   obtain ⟨oa, ocap, rfl⟩ := owns_slice hrow
   clear hrow hx HN4 HL4 HS4 HDk
   clear p0 pl q0 q1 q2 q3 ql
   have HK5 : Hid (RkAt w x5 P B1 cb F2 d1 d1 lv sv) := ⟨HN5.out, HL5.out, HS5.out⟩
   clear HN5 HL5 HS5
   have f5 := outN_far nn 5 (by decide)
   have f3 := outN_far nn 3 (by decide)
   have HO5 : Hid (∀ w, _) := fun w => outside_c nn 5 HI.out.1 (by decide) w
   have HO3 : Hid (∀ w, _) := fun w => outside_c nn 3 HI.out.1 (by decide) w
   generalize outN nn 5 = k5 at *
   generalize outN nn 3 = k3 at *
   have HWb : Hid (∀ w, _) := fun w => dealerWrite_bad k5 0 0 0 0 0 0 0 0 0 (fun w => check_no k5 0 0 0 0 0 0 0 0 0 (by simp; omega) (by simp; omega) (by simp; omega) (by simp; omega) w) w
   have HRa : Hid (∀ w' F2 gh, DealX w' B1 F2 d1 -> WordsAt w' gh 0 (fillS [] 5) -> _) := fun w' F2 gh h hz => refill_x (kd := k3) (m := 1) (k := 1) (n := 1) (cap := 5) HG.out.1 (by have := HG.out.2.1; omega) (fillS_len [] 5) fill5 (by decide) (Nat.le_refl _) h hz
   rw [refill_bad (d := d1) (kd := k3) (m := 1) (k := 1) (n := 1) (D := fillS [] 5) (by rw [code_class _ f3]; decide), code_class _ f3] at HRa
   clear f5 f3
   unfold clsV at *
   go_wp2_with fail
   refine (HO5.out _).mono ?_
   rintro e y5 ⟨rfl, hx⟩
   have HKy5 : Hid (RkAt w y5 P B1 cb F2 d1 d1 lv sv) := HK5.out.ext hx
   clear hx HK5
   go_wp2_with fail
   refine (HWb.out _).mono ?_
   rintro e x6 ⟨rfl, hx⟩
   have HK6 : Hid (RkAt w x6 P B1 cb F2 d1 d1 lv sv) := HKy5.out.ext hx
   clear hx HKy5 HO5 HWb
   obtain ⟨p0, pl, q0, q1, q2, q3, ql⟩ := HK6.out.facts
   go_wp2_with fail
   refine wp_region_held_drew (S := (SN P B1 cb)) (by kernel_rfl) ⟨p0, q0, q1, q2, q3⟩ (fun hHeld => ?_)
   refine zS 0 hHeld ?_
   refine zS 1 hHeld ?_
   refine zS 2 hHeld ?_
   refine zS 3 hHeld ?_
   refine zS 4 hHeld ?_
   refine zS 7 hHeld ?_
   refine zR 5 fun K hK => ?_
   (try simp only [lA, lB, lC])
   go_simp
   refine (HO3.out _).mono ?_
   rintro e y6 ⟨rfl, hx⟩
   have HKy6 : Hid (RkAt w y6 P B1 cb F2 d1 d1 lv sv) := HK6.out.ext ((Ext.drew (Ext.refl _)).trans hx)
   clear hx
   refine hK.out _ _ HKy6.out.sn (fun hHeld => ?_)
   clear hK K
   try simp only [Act.put, lA, lB, lC, lD, lE, lF]
   refine zS 6 hHeld ?_
   refine zR 8 fun K hK => ?_
   (try simp only [lA, lB, lC])
   go_simp
   refine (HDr.out _).mono ?_
   rintro e z6 ⟨gz6, rfl, hrow, hx⟩
   have HWz6 : Hid (WordsAt z6 gz6 0 (fillS [] 5)) := owns_words hrow
   have HKz6 : Hid (RkAt w z6 P B1 cb F2 d1 d1 lv sv) := HKy6.out.ext ((Ext.refl _).trans hx)
   clear hrow hx
   refine hK.out _ _ HKz6.out.sn (fun hHeld => ?_)
   clear hK K
   try simp only [Act.put, lA, lB, lC, lD, lE, lF]
   refine zR 9 fun K hK => ?_
   (try simp only [lA, lB, lC])
   go_simp
   refine (HRa.out _ _ _ HKz6.out.deal HWz6.out).mono ?_
   rintro e x7 ⟨rfl, F7, hk⟩
   have HK7 : Hid (RkAt w x7 P B1 cb F7 d1 d1 lv sv) := HKz6.out.call hk
   clear hk
   refine hK.out _ _ HK7.out.sn (fun hHeld => ?_)
   clear hK K
   try simp only [Act.put, lA, lB, lC, lD, lE, lF]
   refine zS 10 hHeld ?_
   refine wpAnyH_done (by kernel_rfl) ?_ _
   clear p0 pl q0 q1 q2 q3 ql
   clear hHeld HK6 HKy6 HKz6 HWz6 HO3 HRa
   have HPk : Hid _ := fun w => pick_c kk 5 (by decide) (by decide) HI.out.2.1 HI.out.2.2 w
   have lp := pickN_lt kk (show 0 < 5 by decide)
   generalize pickN kk 5 = pk at *
   have el : ((fillS [] 5).take pk).length = pk := by rw [List.length_take, fillS_len]; omega
   have HRb : Hid (∀ w' F2 gh, DealX w' B1 F2 d1 -> WordsAt w' gh 0 ((fillS [] 5).take pk) -> _) := fun w' F2 gh h hz => refill_x (kd := 0) (m := 1) (k := 1) (n := 1) (cap := 5) HG.out.1 (by have := HG.out.2.1; omega) el (u64_take fill5 pk) (by omega) (by omega) h hz
   have ec : fillCode d1.S 0 1 1 1 ((fillS [] 5).take pk) = 3 := code_draws (.inl (by omega))
   rw [refill_bad (d := d1) (by rw [ec]; decide), ec] at HRb
   have hp0 : (0 : Int) <= (pk : Int) := by omega
   have hp1 : (pk : Int) <= 5 := by omega
   clear el ec
   unfold clsV at *
   obtain ⟨p0, pl, q0, q1, q2, q3, ql⟩ := HK7.out.facts
   go_wp2_with fail
   refine wp_region_held_drew (S := (SN P B1 cb)) (by kernel_rfl) ⟨p0, q0, q1, q2, q3⟩ (fun hHeld => ?_)
   refine zS 0 hHeld ?_
   refine zS 1 hHeld ?_
   refine zS 2 hHeld ?_
   refine zS 3 hHeld ?_
   refine zS 4 hHeld ?_
   refine zS 5 hHeld ?_
   refine zS 7 hHeld ?_
   refine zR 6 fun K hK => ?_
   (try simp only [lA, lB, lC])
   go_simp
   refine (HDr.out _).mono ?_
   rintro e y7 ⟨gy7, rfl, hrow, hx⟩
   have HWy7 : Hid (WordsAt y7 gy7 0 (fillS [] 5)) := owns_words hrow
   have HKy7 : Hid (RkAt w y7 P B1 cb F7 d1 d1 lv sv) := HK7.out.ext ((Ext.drew (Ext.refl _)).trans hx)
   clear hrow hx
   refine hK.out _ _ HKy7.out.sn (fun hHeld => ?_)
   clear hK K
   try simp only [Act.put, lA, lB, lC, lD, lE, lF]
   refine zR 8 fun K hK => ?_
   (try simp only [lA, lB, lC])
   go_simp
   refine (HPk.out _).mono ?_
   rintro e z7 ⟨rfl, rfl⟩
   refine hK.out _ _ HKy7.out.sn (fun hHeld => ?_)
   clear hK K
   try simp only [Act.put, lA, lB, lC, lD, lE, lF]
   refine zS 9 hHeld ?_
   refine zR 10 fun K hK => ?_
   (try simp only [lA, lB, lC])
   go_simp
   refine (HRb.out _ _ _ HKy7.out.deal (words_take HWy7.out pk)).mono ?_
   rintro e x8 ⟨rfl, F8, hk⟩
   have HK8 : Hid (RkAt w x8 P B1 cb F8 d1 d1 lv sv) := HKy7.out.call hk
   clear hk
   refine hK.out _ _ HK8.out.sn (fun hHeld => ?_)
   clear hK K
   try simp only [Act.put, lA, lB, lC, lD, lE, lF]
   refine zS 11 hHeld ?_
   refine wpAnyH_done (by kernel_rfl) ?_ _
   clear p0 pl q0 q1 q2 q3 ql
   clear hHeld HK7 HKy7 HWy7 HPk HRb hp0 hp1 lp
   have HRc : Hid (∀ w' F2 gh, DealX w' B1 F2 d1 -> WordsAt w' gh 0 (fillS [] 65) -> _) := fun w' F2 gh h hz => refill_x (kd := 0) (m := 1) (k := 1) (n := 1) (cap := 65) HG.out.1 (by have := HG.out.2.1; omega) (fillS_len [] 65) (fillS_u64 [] (by decide)) (by decide) (Nat.le_refl _) h hz
   have ec : fillCode d1.S 0 1 1 1 (fillS [] 65) = 3 := code_draws (.inr (fillS_len [] 65))
   rw [refill_bad (d := d1) (by rw [ec]; decide), ec] at HRc
   clear ec
   unfold clsV at *
   obtain ⟨p0, pl, q0, q1, q2, q3, ql⟩ := HK8.out.facts
   go_wp2_with fail
   refine wp_region_held_drew (S := (SN P B1 cb)) (by kernel_rfl) ⟨p0, q0, q1, q2, q3⟩ (fun hHeld => ?_)
   refine zS 0 hHeld ?_
   refine zS 1 hHeld ?_
   refine zS 2 hHeld ?_
   refine zS 3 hHeld ?_
   refine zS 4 hHeld ?_
   refine zS 5 hHeld ?_
   refine zR 6 fun K hK => ?_
   (try simp only [lA, lB, lC])
   go_simp
   refine (HDm.out _).mono ?_
   rintro e y8 ⟨gy8, rfl, hrow, hx⟩
   have HWy8 : Hid (WordsAt y8 gy8 0 (fillS [] 65)) := owns_words hrow
   have HKy8 : Hid (RkAt w y8 P B1 cb F8 d1 d1 lv sv) := HK8.out.ext ((Ext.drew (Ext.refl _)).trans hx)
   clear hrow hx
   refine hK.out _ _ HKy8.out.sn (fun hHeld => ?_)
   clear hK K
   try simp only [Act.put, lA, lB, lC, lD, lE, lF]
   refine zR 7 fun K hK => ?_
   (try simp only [lA, lB, lC])
   go_simp
   refine (HRc.out _ _ _ HKy8.out.deal HWy8.out).mono ?_
   rintro e x9 ⟨rfl, F9, hk⟩
   have HK9 : Hid (RkAt w x9 P B1 cb F9 d1 d1 lv sv) := HKy8.out.call hk
   clear hk
   refine hK.out _ _ HK9.out.sn (fun hHeld => ?_)
   clear hK K
   try simp only [Act.put, lA, lB, lC, lD, lE, lF]
   refine zS 8 hHeld ?_
   refine wpAnyH_done (by kernel_rfl) ?_ _
   clear p0 pl q0 q1 q2 q3 ql
   clear hHeld HK8 HKy8 HWy8 HRc HDm
   have HRg : Hid (∀ w' F2, DealX w' B1 F2 d1 -> _) := fun w' F2 h => refusing_c HG.out.1 (by have := HG.out.2.1; omega) HG.out.2.2.1 HG.out.2.2.2 nn HI.out.1 w' h
   unfold clsV at *
   obtain ⟨p0, pl, q0, q1, q2, q3, ql⟩ := HK9.out.facts
   go_wp2_with fail
   refine wp_region_held_drew (S := (SN P B1 cb)) (by kernel_rfl) ⟨p0, q0, q1, q2, q3⟩ (fun hHeld => ?_)
   refine zS 0 hHeld ?_
   refine zS 1 hHeld ?_
   refine zS 2 hHeld ?_
   refine zS 3 hHeld ?_
   refine zS 4 hHeld ?_
   refine zS 5 hHeld ?_
   refine zR 6 fun K hK => ?_
   (try simp only [lA, lB, lC])
   go_simp
   refine (HRg.out _ _ (HK9.out.deal.ext (Ext.drew (Ext.refl _)))).mono ?_
   rintro e xa ⟨rfl, Fa, h1, h2, h3⟩
   have HKa : Hid (RkAt w xa P B1 cb Fa d1 d1 lv sv) := (HK9.out.ext (Ext.drew (Ext.refl _))).left h1 h2 h3
   clear h1 h2 h3
   refine hK.out _ _ HKa.out.sn (fun hHeld => ?_)
   clear hK K
   try simp only [Act.put, lA, lB, lC, lD, lE, lF]
   refine zS 7 hHeld ?_
   refine wpAnyH_done (by kernel_rfl) ?_ _
   clear p0 pl q0 q1 q2 q3 ql
   clear hHeld HK9 HRg
   have g3 := failAt_good HG.out.1 (n := 0) (by decide)
   have HFb : Hid (∀ w' F2, DealX w' B1 F2 d1 -> _) := fun w' F2 h => failAt_x 0 h
   have rz0 := refill_fails (d := d1) 0 1 1 1 (fillS [] 5) (fill_four _ (fillS_len [] 5))
   have g4 := refill_good (kd := 0) (m := 1) (k := 1) (n := 1) g3 fill5
   have HRz : Hid (∀ w' F2 gh, DealX w' B1 F2 (d1.failAt 0) -> WordsAt w' gh 0 (fillS [] 5) -> _) := fun w' F2 gh h hz => refill_x (kd := 0) (m := 1) (k := 1) (n := 1) (cap := 5) g3 (show d1.ops.length <= 1000000 by have := HG.out.2.1; omega) (fillS_len [] 5) fill5 (by decide) (Nat.le_refl _) h hz
   generalize d1.failAt 0 = d2 at *
   generalize d2.refill 0 1 1 1 (fillS [] 5) = rz at *
   obtain ⟨c9, d3⟩ := rz
   simp only at *
   obtain ⟨hc9, s1, s2, s3⟩ := rz0
   have HFc : Hid (∀ w' F2, DealX w' B1 F2 d3 -> _) := fun w' F2 h => failAt_x (-1) h
   have t1 : (d3.failAt (-1)).S = d1.S := s1
   have t2 : (d3.failAt (-1)).ls = d1.ls := s2
   have t3 : (d3.failAt (-1)).ops = d1.ops := s3
   have g5 := failAt_good g4 (n := -1) (by decide)
   generalize d3.failAt (-1) = d4 at *
   have HL : Hid (∀ w' F2, DealX w' B1 F2 d4 -> _) := fun w' F2 h => leases_x g5 h
   have HS : Hid (∀ w' F2, DealX w' B1 F2 d4 -> _) := fun w' F2 h => classes_x g5 h
   have HDk : Hid (∀ w' F2, DealX w' B1 F2 d4 -> _) := fun w' F2 h => disk_x (by rw [t3]; have := HG.out.2.1; omega) h
   rw [t2] at HL
   rw [t1] at HS
   rw [t3] at HDk
   clear g3 g4 g5 s1 s2 s3 t1 t2 t3
   unfold clsV at *
   obtain ⟨p0, pl, q0, q1, q2, q3, ql⟩ := HKa.out.facts
   go_wp2_with fail
   refine (HFb.out _ _ HKa.out.deal).mono ?_
   rintro e xb ⟨rfl, hk⟩
   have HKb : Hid (RkAt w xb P B1 cb Fa d2 d1 lv sv) := HKa.out.call hk
   clear hk HKa HFb
   clear p0 pl q0 q1 q2 q3 ql
   obtain ⟨p0, pl, q0, q1, q2, q3, ql⟩ := HKb.out.facts
   go_wp2_with fail
   refine wp_region_held_drew (S := (SN P B1 cb)) (by kernel_rfl) ⟨p0, q0, q1, q2, q3⟩ (fun hHeld => ?_)
   refine zS 0 hHeld ?_
   refine zS 1 hHeld ?_
   refine zS 2 hHeld ?_
   refine zS 3 hHeld ?_
   refine zS 4 hHeld ?_
   refine zS 5 hHeld ?_
   refine zR 6 fun K hK => ?_
   (try simp only [lA, lB, lC])
   go_simp
   refine (HDr.out _).mono ?_
   rintro e yb ⟨gyb, rfl, hrow, hx⟩
   have HWyb : Hid (WordsAt yb gyb 0 (fillS [] 5)) := owns_words hrow
   have HKyb : Hid (RkAt w yb P B1 cb Fa d2 d1 lv sv) := HKb.out.ext ((Ext.drew (Ext.refl _)).trans hx)
   clear hrow hx
   refine hK.out _ _ HKyb.out.sn (fun hHeld => ?_)
   clear hK K
   try simp only [Act.put, lA, lB, lC, lD, lE, lF]
   refine zR 7 fun K hK => ?_
   (try simp only [lA, lB, lC])
   go_simp
   refine (HRz.out _ _ _ HKyb.out.deal HWyb.out).mono ?_
   rintro e xc ⟨rfl, Fc, hk⟩
   have HKc : Hid (RkAt w xc P B1 cb Fc d3 d1 lv sv) := HKyb.out.call hk
   clear hk
   refine hK.out _ _ HKc.out.sn (fun hHeld => ?_)
   clear hK K
   try simp only [Act.put, lA, lB, lC, lD, lE, lF]
   refine zS 8 hHeld ?_
   refine wpAnyH_done (by kernel_rfl) ?_ _
   clear p0 pl q0 q1 q2 q3 ql
   clear hHeld HKb HKyb HWyb HRz HDr
   obtain ⟨la, lcap, rfl⟩ := owns_slice HKc.out.lr.row
   obtain ⟨sa1, scap, rfl⟩ := owns_slice HKc.out.sr.row
   have HLen : Hid (d1.ls.length <= 1000 /\ d1.S.length <= 100) := ⟨by have := HG.out.1.inv.toInvK.leases; omega, by have := HG.out.1.inv.toInvK.stocks; omega⟩
   obtain ⟨p0, pl, q0, q1, q2, q3, ql⟩ := HKc.out.facts
   have hfu : ∃ fu : Bool, (c9 == 4) = fu /\ (fu = false -> c9 = 10) := ⟨_, rfl, fun h => by simp at h; omega⟩
   obtain ⟨fu, hfu1, hfu2⟩ := hfu
   go_wp2_with fail
   refine (HFc.out _ _ HKc.out.deal).mono ?_
   rintro e xd ⟨rfl, hk⟩
   have HKd : Hid (RkAt w xd P B1 cb Fc d4 d1 (.slice la d1.ls.length lcap) (.slice sa1 d1.S.length scap)) := HKc.out.call hk
   clear hk HKc HFc
   clear p0 pl q0 q1 q2 q3 ql
   obtain ⟨p0, pl, q0, q1, q2, q3, ql⟩ := HKd.out.facts
   go_wp2_with fail
   refine (HL.out _ _ HKd.out.deal).mono ?_
   rintro e xe ⟨lv2, rfl, hrow, hx⟩
   obtain ⟨lb2, lcap2, rfl⟩ := owns_slice hrow
   have HKe : Hid (RkAt w xe P B1 cb Fc d4 d1 (.slice la d1.ls.length lcap) (.slice sa1 d1.S.length scap)) := HKd.out.ext hx
   have HLe : Hid (RdRow xe lb2 d1.ls.length (lsCells d1.ls)) := rd_owns hrow
   clear hrow hx HKd HL
   clear p0 pl q0 q1 q2 q3 ql
   obtain ⟨p0, pl, q0, q1, q2, q3, ql⟩ := HKe.out.facts
   go_wp2_with fail
   refine (HS.out _ _ HKe.out.deal).mono ?_
   rintro e xf ⟨sv2, rfl, hrow, hx⟩
   obtain ⟨sb2, scap2, rfl⟩ := owns_slice hrow
   have HKf : Hid (RkAt w xf P B1 cb Fc d4 d1 (.slice la d1.ls.length lcap) (.slice sa1 d1.S.length scap)) := HKe.out.ext hx
   have HSf : Hid (RdRow xf sb2 d1.S.length (toldAll d1.S)) := rd_owns hrow
   have HLf : Hid (RdRow xf lb2 d1.ls.length (lsCells d1.ls)) := HLe.out.ext hx
   clear hrow hx HKe HLe HS
   clear p0 pl q0 q1 q2 q3 ql
   obtain ⟨p0, pl, q0, q1, q2, q3, ql⟩ := HKf.out.facts
   go_wp2_with fail
   refine (HDk.out _ _ HKf.out.deal).mono ?_
   rintro e xg ⟨ov2, rfl, hrow, hx⟩
   obtain ⟨ob2, ocap2, rfl⟩ := owns_slice hrow
   have HKg : Hid (RkAt w xg P B1 cb Fc d4 d1 (.slice la d1.ls.length lcap) (.slice sa1 d1.S.length scap)) := HKf.out.ext hx
   have HSg : Hid (RdRow xg sb2 d1.S.length (toldAll d1.S) /\ RdRow xg sa1 d1.S.length (toldAll d1.S)) := ⟨HSf.out.ext hx, rd_owns HKg.out.sr.row⟩
   have HLg : Hid (RdRow xg lb2 d1.ls.length (lsCells d1.ls) /\ RdRow xg la d1.ls.length (lsCells d1.ls)) := ⟨HLf.out.ext hx, rd_owns HKg.out.lr.row⟩
   clear hrow hx HKf HLf HSf HDk
   clear p0 pl q0 q1 q2 q3 ql
   have HLs : Hid (∀ w', Ext xg w' -> _) := fun w' hx => ksameLeases_c d1.ls d1.ls.length rfl (by have := HLen.out.1; omega) la lb2 lcap lcap2 w' (HLg.out.2.ext hx) (HLg.out.1.ext hx)
   have HSs : Hid (∀ w', Ext xg w' -> _) := fun w' hx => ksameStocks_c d1.S d1.S.length rfl (by have := HLen.out.2; omega) sa1 sb2 scap scap2 w' (HSg.out.2.ext hx) (HSg.out.1.ext hx)
   have HTg : Hid (Turn (fun b => w.heap.size <= b) w xg) := HKg.out.turn
   clear HKg HLg HSg
   generalize d1.ls.length = nl at *
   generalize d1.S.length = ns at *
   generalize d1.ops.length = no at *
   go_wp2_with fail
   refine (HLs.out _ (Ext.refl _)).mono ?_
   rintro e xh ⟨rfl, hx⟩
   have HXh : Hid (Ext xg xh) := hx
   clear hx HLs
   go_wp2_with fail
   refine (HSs.out _ HXh.out).mono ?_
   rintro e xi ⟨rfl, hx⟩
   have HXi : Hid (Turn (fun b => w.heap.size <= b) w xi) := HTg.out.trans (Turn.of_ext (HXh.out.trans hx))
   clear hx HSs HXh HTg
   cases fu
   ·have hc := hfu2 rfl
    subst hc
    clear hc9 hfu1 hfu2
    go_wp2_with fail
    go_ret
    exact ⟨rfl, HXi.out⟩
   ·clear hc9 hfu2
    go_wp2_with fail
    go_ret
    exact ⟨rfl, HXi.out⟩
end
end Go.Proofs.YtmnjhhachdlmkaaGreat
