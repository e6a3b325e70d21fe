import Derived.Test.YtmnjhhachdlmkaaGreatK21
namespace Go.Proofs.YtmnjhhachdlmkaaGreat
set_option linter.unusedVariables false
set_option linter.unusedSimpArgs false
open World renaming block_lt_of_cell? -> lG
-- Rg
section
set_option maxRecDepth 100000
set_option maxHeartbeats 1600000
section
open Go.RowKit Go.Maps
theorem infoStock : (Tryz.prog.info? 116).map (fun i => (i.zero, i.size, i.bytes)) = some (some (.agg #[.int .i64 0, .int .i64 0, .int .i64 0, .int .i64 0, .int .i64 0, .int .i64 0, .int .i64 0]), 7, 56) := by kernel_rfl
def toldAll (S : List Stk) : List Value := S.flatMap Stk.told
theorem toldAll_snoc (S : List Stk) (x : Stk) : toldAll (S ++ [x]) = toldAll S ++ x.told := by simp [toldAll]
theorem len_toldAll (S : List Stk) : (toldAll S).length = S.length * 7 := by
 induction S with
 | nil => rfl
 | cons o t ih => simp [toldAll, Stk.told] at ih ⊢; omega
variable {B : Nat} {F : Nat -> Prop} {sv lv dv : Value} {R : List StkR} {ls : List LsV} {ops : List OpV} {fl : Bool} {ah : Int} {kn : Bool}
theorem storeClasses_c (hR : R.length <= 100) (w : World) (h : StoreOf w B F sv lv dv R ls ops fl ah kn) :
  Calls Tryz.prog 50 #[.pointer (some ⟨B, 0, none⟩)] w fun e w' => ∃ v', e = .returned v' /\ w'.ownsRow w.heap.size 116 7 v' R.length (toldAll (R.map StkR.abs)) /\ Ext w w' := by
 obtain ⟨i0, hi, hz0, hz1, hz2⟩ := info_parts infoStock
 obtain ⟨c0, _⟩ := h.deal.cells
 have hB := h.deal.lt
 obtain ⟨sa, scap, hsv⟩ := owns_slice h.srow
 have HPt : Hid (∀ j (hj : j < R.length), ∃ g, sa = some ⟨g, 0, none⟩ /\ w.cell? ⟨g, j, none⟩ = some (.pointer (some ⟨R[j].blk, 0, none⟩))) := fun j hj => by
  rcases owns_form h.srow with ⟨_, h2, _⟩ | ⟨g, cap, h1, _⟩
  ·omega
  ·rw [h1] at hsv
   injection hsv with e1 _ _
   have hs := h.srow
   rw [h1] at hs
   exact ⟨g, e1.symm, owns_cell hs (by simp [stkPtrs, hj])⟩
 have HSt : Hid (∀ j (hj : j < R.length), StkAt w F R[j]) := fun j hj => h.stk _ (List.getElem_mem hj)
 subst hsv
 clear h
 obtain ⟨len, hlen⟩ : ∃ len, R.length = len := ⟨_, rfl⟩
 have HLEN : Hid (R.length = len) := hlen
 rw [hlen] at c0 hR ⊢
 clear hlen
 go_enter Tryz.func50, Tryz.ntmps50
 go_wp2
 go_loopw [3, 5, 11] (fun u _ i wr => ∃ j : Nat, j <= len /\ i = .int .i64 j /\ wr.ownsRow w.heap.size 116 7 u j (toldAll ((R.map StkR.abs).take j)) /\ Ext w wr) (fun _ _ i _ => len - (intOf i).toNat)
 case atStart => exact ⟨0, Nat.zero_le _, rfl, World.ownsRow_nil _ _ _ _, Ext.refl _⟩
 case round =>
  obtain ⟨j, hj, rfl, ho, hx⟩ := hrel
  have HO : Hid (wr.ownsRow w.heap.size 116 7 u3 j (toldAll ((R.map StkR.abs).take j))) := ho
  have HX : Hid (Ext w wr) := hx
  clear ho hx
  by_cases hlt : j < len
  ·have hjl : j < R.length := by rw [HLEN.out]; exact hlt
   obtain ⟨g, rfl, hpt⟩ := HPt.out j hjl
   have hst := HSt.out j hjl
   have hb := hst.blk
   obtain ⟨D, hD, hK⟩ := hst.map
   have HTk : Hid ((R.map StkR.abs).take (j + 1) = (R.map StkR.abs).take j ++ [R[j].abs]) := by
    show (R.map StkR.abs).take (j + 1) = (R.map StkR.abs).take j ++ [R[j].abs]
    rw [List.take_succ_eq_append_getElem (by simpa using hjl)]
    simp
   obtain ⟨x0, hx0⟩ : ∃ x0, R[j].kd = x0 := ⟨_, rfl⟩
   obtain ⟨x1, hx1⟩ : ∃ x1, R[j].m = x1 := ⟨_, rfl⟩
   obtain ⟨x2, hx2⟩ : ∃ x2, R[j].k = x2 := ⟨_, rfl⟩
   obtain ⟨x3, hx3⟩ : ∃ x3, R[j].n = x3 := ⟨_, rfl⟩
   obtain ⟨x4, hx4⟩ : ∃ x4, R[j].ts.length = x4 := ⟨_, rfl⟩
   obtain ⟨x5, hx5⟩ : ∃ x5, R[j].leased = x5 := ⟨_, rfl⟩
   obtain ⟨x6, hx6⟩ : ∃ x6, (R[j].ts.filter (·.2)).length = x6 := ⟨_, rfl⟩
   obtain ⟨blk, hblk⟩ : ∃ blk, R[j].blk = blk := ⟨_, rfl⟩
   obtain ⟨mb, hmb⟩ : ∃ mb, R[j].mb = mb := ⟨_, rfl⟩
   have HTd : Hid (R[j].abs.told = [.int .i64 (x0 : Int), .int .i64 (x1 : Int), .int .i64 (x2 : Int), .int .i64 (x3 : Int), .int .i64 (x4 : Int), .int .i64 (x5 : Int), .int .i64 (x6 : Int)]) := by
    rw [<- hx0, <- hx1, <- hx2, <- hx3, <- hx4, <- hx5, <- hx6]; rfl
   unfold StkR.row at hb
   rw [hblk, hx0, hx1, hx2, hx3, hx4, hx5, hmb] at hb
   rw [hmb] at hD
   have hsz := hK.1
   rw [hx6] at hsz
   have SF : Hid (∀ w', Ext w w' -> (fun w' => ((w'.cell? ⟨blk, 0, none⟩ = some (.int .i64 (x0 : Int)) /\ w'.cell? ⟨blk, 1, none⟩ = some (.int .i64 (x1 : Int)) /\ w'.cell? ⟨blk, 2, none⟩ = some (.int .i64 (x2 : Int)) /\ w'.cell? ⟨blk, 3, none⟩ = some (.int .i64 (x3 : Int)) /\ w'.cell? ⟨blk, 4, none⟩ = some (.int .i64 (x4 : Int)) /\ w'.cell? ⟨blk, 5, none⟩ = some (.int .i64 (x5 : Int)) /\ w'.cell? ⟨blk, 6, none⟩ = some (.map (some mb))) /\ ∀ ty, (Builtin.len_ #[152] ty #[.map (some mb)]).run Tryz.prog w' = .ok (.int .i64 (x6 : Int)) w') /\ Ext w w') w') := fun w' hx => by
    have hb' := hx.block hb
    have hD' : w'.ownsMap Tryz.prog 3 heldElem mb _ D := map_turn (S := fun _ => False) hD (Turn.of_ext hx) id
    refine ⟨⟨⟨cell_at hb' rfl, cell_at hb' rfl, cell_at hb' rfl, cell_at hb' rfl, cell_at hb' rfl, cell_at hb' rfl, cell_at hb' rfl⟩, fun ty => ?_⟩, hx⟩
    rw [hD'.len Tryz.underlying152 ty, hsz]
   have hpt := HX.out.cell hpt
   have hxp : Ext w wr := HX.out
   have hbl : blk < wr.heap.size := Nat.lt_of_lt_of_le (Array.getElem?_eq_some_iff.1 hb).1 hxp.le
   have HG : Hid (∀ q, u3.ownBlock = some q -> w.heap.size <= q /\ q < wr.heap.size) := fun q hq => World.ownsRow.lt HO.out q hq
   have hwl := hxp.le
   rw [hblk] at hpt
   clear hst hb hD hK hsz hx0 hx1 hx2 hx3 hx4 hx5 hx6 hblk hmb
   have hS0 := SF.out wr hxp
   go_wp2_with fail
   go_region_held3 (fun w' => ((w'.cell? ⟨blk, 0, none⟩ = some (.int .i64 (x0 : Int)) /\ w'.cell? ⟨blk, 1, none⟩ = some (.int .i64 (x1 : Int)) /\ w'.cell? ⟨blk, 2, none⟩ = some (.int .i64 (x2 : Int)) /\ w'.cell? ⟨blk, 3, none⟩ = some (.int .i64 (x3 : Int)) /\ w'.cell? ⟨blk, 4, none⟩ = some (.int .i64 (x4 : Int)) /\ w'.cell? ⟨blk, 5, none⟩ = some (.int .i64 (x5 : Int)) /\ w'.cell? ⟨blk, 6, none⟩ = some (.map (some mb))) /\ ∀ ty, (Builtin.len_ #[152] ty #[.map (some mb)]).run Tryz.prog w' = .ok (.int .i64 (x6 : Int)) w') /\ Ext w w')
    (first
      | (refine SF.out _ ?_; (repeat (first | with_reducible exact Ext.refl _ | with_reducible assumption | with_reducible refine Ext.drew ?_ | with_reducible refine Ext.alloc ?_ _ | with_reducible (apply Ext.chain; assumption))); done)
      | exact SF.out _ (Ext.grown (Ext.alloc (Ext.drew HX.out) _) hgrow (fun q hq => (HG.out q hq).1)))
    (first
      | (refine step_append_lies _ (by rfl) _ _ 44 (by rfl) w.heap.size 116 i0 _ 7 56 Tryz.underlying44 hi hz0 hz1 hz2 (by rfl) (by decide) u3 j (toldAll ((R.map StkR.abs).take j)) (by rfl) (Ext.owns (Ext.alloc (Ext.drew (Ext.refl _)) _) HO.out) ⟨_, 0, none⟩ 1 1 [.int .i64 (x0 : Int), .int .i64 (x1 : Int), .int .i64 (x2 : Int), .int .i64 (x3 : Int), .int .i64 (x4 : Int), .int .i64 (x5 : Int), .int .i64 (x6 : Int)] (by rfl) (by rfl) (World.news_of_block (heap_alloc_new _ _)) (by simp [Value.oneCell']) (by decide) (by simp [maxLen]; omega) (by omega) (by simp; omega) _ rfl ?_; intro gv cv w3 hown3 hgrow hat hlt3))
   have HQ : Hid (w3.ownsRow w.heap.size 116 7 (.slice (some ⟨gv, 0, none⟩) (j + 1) cv) (j + 1) (toldAll ((R.map StkR.abs).take j) ++ [.int .i64 (x0 : Int), .int .i64 (x1 : Int), .int .i64 (x2 : Int), .int .i64 (x3 : Int), .int .i64 (x4 : Int), .int .i64 (x5 : Int), .int .i64 (x6 : Int)]) /\ Ext w w3) := And.intro hown3 (Ext.grown (Ext.alloc (Ext.drew HX.out) _) hgrow (fun q hq => (HG.out q hq).1))
   clear hown3 hgrow hat hS0
   go_wp2
   go_roundw
   case rel =>
    refine ⟨j + 1, by omega, by go_num, ?_, HQ.out.2⟩
    rw [HTk.out, toldAll_snoc, HTd.out]
    exact HQ.out.1
   case measure => simp [intOf]; omega
  ·obtain rfl : j = len := by omega
   have HF : Hid (wr.ownsRow w.heap.size 116 7 u3 j (toldAll (R.map StkR.abs))) := by
    have h1 := HO.out
    rw [List.take_of_length_le (by simp [HLEN.out])] at h1
    exact h1
   go_wp2
   go_ret
   exact ⟨_, rfl, HF.out, HX.out⟩
theorem dealerClasses_c (hR : R.length <= 100) (w : World) (h : StoreOf w B F sv lv dv R ls ops fl ah kn) :
  Calls Tryz.prog 16 #[.pointer (some ⟨B, 0, none⟩)] w fun e w' => ∃ v', e = .returned v' /\ w'.ownsRow w.heap.size 116 7 v' R.length (toldAll (R.map StkR.abs)) /\ Ext w w' := by
 have HC : Hid (∀ w', Ext w w' -> _) := fun w' hx => storeClasses_c hR w' (h.ext hx)
 clear h
 go_enter Tryz.func16, Tryz.ntmps16
 go_wp2_with fail
 refine (HC.out _ (Ext.refl _)).mono ?_
 rintro e w1 ⟨v', rfl, ho, hx⟩
 have HQ : Hid _ := And.intro ho hx
 clear ho hx
 go_wp2
 go_ret
 exact ⟨_, rfl, HQ.out.1, HQ.out.2⟩
end
section
open Go.RowKit Go.Maps
variable {w : World} {B : Nat} {F : Nat -> Prop} {d : DS}
theorem classes_x (hg : d.Good) (h : DealX w B F d) : Calls Tryz.prog 16 #[.pointer (some ⟨B, 0, none⟩)] w fun e w' => ∃ v', e = .returned v' /\ w'.ownsRow w.heap.size 116 7 v' d.S.length (toldAll d.S) /\ Ext w w' := by
 obtain ⟨R, h1, ⟨sv, lv, dv, h2⟩, h3⟩ := h
 have hl : R.length = d.S.length := by rw [<- h1]; simp
 have := dealerClasses_c (by have := hg.inv.stocks; omega) w h2
 rw [h1, hl] at this
 exact this
end
section
open Go.RowKit Go.Maps
theorem eqStock (x0 x1 x2 x3 x4 x5 x6 : Int) (w : World) : (Op.equalIn 10000 116 (.agg #[.int .i64 x0, .int .i64 x1, .int .i64 x2, .int .i64 x3, .int .i64 x4, .int .i64 x5, .int .i64 x6]) (.agg #[.int .i64 x0, .int .i64 x1, .int .i64 x2, .int .i64 x3, .int .i64 x4, .int .i64 x5, .int .i64 x6])).run Tryz.prog w = .ok true w := by
 have u3 := Tryz.underlying3
 have a3 := Tryz.isAgg3
 have z3 := Tryz.sizeOf3
 have a23 := Tryz.isAgg49
 have z23 := Tryz.sizeOf49
 have hc := fun (a b c e a' b' c' e' : Int) (w : World) => eqClass 9997 a b c e a' b' c' e' w
 have hS : Tryz.prog.underlying 116 = some (.struct (Tryz.prog.fieldsOf 116)) := by kernel_rfl
 have hp : Tryz.prog.stoodInHeld 116 = false := by kernel_rfl
 rw [show (10000 : Nat) = 9999 + 1 from rfl, run_equalIn_agg w 9999 116 _ _ hS hp]
 simp only [Program.fieldsOf, Tryz.underlying116]
 go_simp
theorem eqLease (x0 x1 x2 x3 x4 x5 x6 x7 : Int) (r : Bool) (w : World) : (Op.equalIn 10000 56 (.agg #[.int .i64 x0, .int .i64 x1, .int .i64 x2, .int .i64 x3, .int .i64 x4, .int .i64 x5, .int .i64 x6, .int .i64 x7, .bool r]) (.agg #[.int .i64 x0, .int .i64 x1, .int .i64 x2, .int .i64 x3, .int .i64 x4, .int .i64 x5, .int .i64 x6, .int .i64 x7, .bool r])).run Tryz.prog w = .ok true w := by
 have u3 := Tryz.underlying3
 have a3 := Tryz.isAgg3
 have z3 := Tryz.sizeOf3
 have a23 := Tryz.isAgg49
 have z23 := Tryz.sizeOf49
 have hc := fun (a b c e a' b' c' e' : Int) (w : World) => eqClass 9997 a b c e a' b' c' e' w
 have u4 := Tryz.underlying4
 have a4 := Tryz.isAgg4
 have z4 := Tryz.sizeOf4
 have hS : Tryz.prog.underlying 56 = some (.struct (Tryz.prog.fieldsOf 56)) := by kernel_rfl
 have hp : Tryz.prog.stoodInHeld 56 = false := by kernel_rfl
 rw [show (10000 : Nat) = 9999 + 1 from rfl, run_equalIn_agg w 9999 56 _ _ hS hp]
 simp only [Program.fieldsOf, Tryz.underlying56]
 go_simp
theorem rd_owns {w : World} {base : Nat} {e : TypeId} {size : Nat} {a : Option Addr} {n cap : Nat} {xs : List Value} (h : w.ownsRow base e size (.slice a n cap) n xs) : RdRow w a n xs := by
 rcases owns_form h with ⟨_, h2, _⟩ | ⟨g, c, h1, _⟩
 ·exact .inl h2
 ·injection h1 with e1 e2 e3
  subst e1 e3
  exact .inr ⟨g, rfl, fun i u hu => owns_cell h hu⟩
theorem toldAll_at (S : List Stk) (j i : Nat) (hj : j < S.length) (hi : i < 7) : (toldAll S)[j * 7 + i]? = S[j].told[i]? := by
 have e : S = S.take j ++ (S[j] :: S.drop (j + 1)) := by simp
 have h1 : (toldAll (S.take j)).length = j * 7 := by rw [len_toldAll]; simp; omega
 have h2 : toldAll S = toldAll (S.take j) ++ (S[j].told ++ toldAll (S.drop (j + 1))) := by
  have h3 : toldAll (S.take j ++ (S[j] :: S.drop (j + 1))) = toldAll (S.take j) ++ (S[j].told ++ toldAll (S.drop (j + 1))) := by
   simp only [toldAll, List.flatMap_append, List.flatMap_cons]
  rw [<- e] at h3
  exact h3
 rw [h2, List.getElem?_append_right (by omega), h1, show j * 7 + i - j * 7 = i by omega, List.getElem?_append_left (by simpa [Stk.told] using hi)]
end
section
open Go.RowKit Go.Maps
theorem clsK_4 {q : Nat} (h : q < 4) : clsK q = (0, 1, 1, 1) /\ q = 0 \/ clsK q = (2, 1, 1, 1) /\ q = 1 \/ clsK q = (1, 1, 2, 1) /\ q = 2 \/ clsK q = (1, 2, 3, 2) /\ q = 3 := by
 obtain rfl | rfl | rfl | rfl : q = 0 \/ q = 1 \/ q = 2 \/ q = 3 := by omega
 ·exact .inl ⟨by decide, rfl⟩
 ·exact .inr (.inl ⟨by decide, rfl⟩)
 ·exact .inr (.inr (.inl ⟨by decide, rfl⟩))
 ·exact .inr (.inr (.inr ⟨by decide, rfl⟩))
def clsN (x : Stk) : Nat := if x.kd = 0 then 0 else if x.kd = 2 then 1 else if x.m = 1 then 2 else 3
theorem clsN_of {x : Stk} {q : Nat} (hq : q < 4) (h : (x.kd, x.m, x.k, x.n) = clsK q) : clsN x = q := by
 obtain ⟨e, rfl⟩ | ⟨e, rfl⟩ | ⟨e, rfl⟩ | ⟨e, rfl⟩ := clsK_4 hq
 all_goals
  rw [e] at h
  injection h with h1 h2
  injection h2 with h2 h3
  simp [clsN, h1, h2]
theorem four_stocks {S : List Stk} {ls : List LsV} (hI : InvK S ls) (h : Cls4 S) : S.length <= 4 := by
 have hn : (S.map clsN).Nodup := by
  rw [List.nodup_iff_pairwise_ne, List.pairwise_iff_getElem]
  intro i j hi hj hij
  simp only [List.getElem_map]
  intro he
  have hi' : i < S.length := by simpa using hi
  have hj' : j < S.length := by simpa using hj
  obtain ⟨q, hq, e1⟩ := h _ (List.getElem_mem hi')
  obtain ⟨q', hq', e2⟩ := h _ (List.getElem_mem hj')
  rw [clsN_of hq e1, clsN_of hq' e2] at he
  subst he
  rw [<- e2] at e1
  injection e1 with h1 h2
  injection h2 with h2 h3
  injection h3 with h3 h4
  have := hI.uniq i j hi' hj' (is_iff.2 ⟨by omega, by omega, by omega, by omega⟩)
  omega
 have hsub : ∀ z ∈ S.map clsN, z ∈ List.range 4 := by
  intro z hz
  obtain ⟨x, hx, rfl⟩ := List.mem_map.1 hz
  obtain ⟨q, hq, e⟩ := h x hx
  rw [clsN_of hq e]
  simpa using hq
 have := List.Nodup.length_le_of_subset hn hsub
 simpa using this
theorem refill_c0 {d : DS} (hg : d.Good) (h : Keep4 d) (D : List Int) (hf : d.fl = false) (hD : D.length = 5) : ∃ x, (d.refill 0 1 1 1 D).2.S.find? (fun x => x.is 0 1 1 1) = some x := by
 have h5 : drawsN 0 1 1 1 = 5 := by decide
 have hc : fillCode d.S 0 1 1 1 D = makeCode d.S 0 1 1 1 1 := by
  unfold fillCode
  rw [if_pos (by decide), hD, h5, if_neg (by decide)]
 cases hx : d.S.find? (fun x => x.is 0 1 1 1) with
 | none =>
  have hl := four_stocks hg.inv.toInvK h.cls
  have hc0 : fillCode d.S 0 1 1 1 D = 0 := by
   rw [hc]
   unfold makeCode
   rw [hx]
   simp only
   rw [if_neg (by omega)]
  unfold DS.refill
  rw [if_pos hc0]
  simp only [DS.add, ok_free hf, if_true]
  unfold makeS
  have hi : d.S.findIdx? (fun x => x.is 0 1 1 1) = none := by
   cases hq : d.S.findIdx? (fun x => x.is 0 1 1 1) with
   | none => rfl
   | some i =>
    obtain ⟨_, h2⟩ := find_idx hq
    rw [hx] at h2
    cases h2
  have hi' : d.S.findIdx? (fun x => x.is ((0 : Int).toNat : Nat) ((1 : Int).toNat : Nat) ((1 : Int).toNat : Nat) ((1 : Int).toNat : Nat)) = none := hi
  rw [hi']
  simp only [List.find?_append, hx]
  exact ⟨_, rfl⟩
 | some x =>
  unfold DS.refill
  split
  ·simp only [DS.add, ok_free hf, if_true]
   unfold makeS
   split
   ·rename_i i hi
    refine find_has ⟨(d.S.modify i _)[i]'?_, List.getElem_mem _, ?_⟩
    ·obtain ⟨hil, _⟩ := find_idx hi
     simpa using hil
    ·obtain ⟨hil, h2⟩ := find_idx hi
     rw [List.getElem_modify, if_pos rfl]
     have := List.find?_some h2
     simpa [Stk.more, Stk.is] using this
   ·exact find_has ⟨x, List.mem_append_left _ (List.mem_of_find?_eq_some hx), by simpa using List.find?_some hx⟩
  ·exact ⟨x, hx⟩
theorem named_no {d : DS} (h : Keep4 d) (i : Int) : d.ls.find? (isNamed 90 i) = none := by
 rw [List.find?_eq_none]
 intro l hl
 have := h.ses l hl
 simp [isNamed]
 omega
theorem no_class7 {d : DS} (h : Keep4 d) : d.S.find? (fun x => x.is 7 0 0 0) = none := by
 rw [List.find?_eq_none]
 intro x hx
 obtain ⟨q, hq, e⟩ := h.cls x hx
 rcases clsK_4 hq with ⟨e', _⟩ | ⟨e', _⟩ | ⟨e', _⟩ | ⟨e', _⟩
 all_goals
  rw [e'] at e
  injection e with h1 h2
  simp [Stk.is, h1]
def Ref (d : DS) (code kk s i kd m k n f c p : Int) : Prop := d.ask kk s i kd m k n f c p = (⟨code, 0, 0, []⟩, d)
theorem refused_all {d : DS} (h : Keep4 d) (hx : ∃ x, d.S.find? (fun x => x.is 0 1 1 1) = some x) (far : Int) (hfar : far < 0 \/ 2147483647 < far) :
  Ref d 1 0 0 0 0 0 0 0 0 0 0 /\ Ref d 1 5 0 0 0 0 0 0 0 0 0 /\ Ref d 1 1 far 0 0 1 1 1 0 1 0 /\ Ref d 5 1 90 0 0 1 1 1 0 0 0 /\ Ref d 5 1 90 0 0 1 1 1 0 41 0 /\ Ref d 2 1 90 0 7 0 0 0 0 1 0 /\ Ref d 9 2 90 0 0 1 1 1 0 1 2 /\ Ref d 8 2 90 0 0 1 1 1 0 1 0 /\ Ref d 8 3 90 1 0 0 0 0 0 0 0 /\ Ref d 1 4 0 0 0 1 1 1 0 0 1 := by
 obtain ⟨x, hx⟩ := hx
 have hn0 := named_no h 0
 have hn1 := named_no h 1
 have h7 := no_class7 h
 refine ⟨rfl, rfl, ?_, ?_, ?_, ?_, ?_, ?_, ?_, rfl⟩
 ·unfold Ref DS.ask ansS
  rw [if_pos rfl, if_neg (by
   intro hq
   have := (inB_nums hq).1
   omega)]
  rfl
 ·unfold Ref DS.ask ansS
  rw [if_pos rfl, if_pos (by decide), hn0]
  have e : leaseCodeS d.S d.ls 0 1 1 1 0 = 5 := by unfold leaseCodeS; rw [hx]; rfl
  simp only [e]
  rfl
 ·unfold Ref DS.ask ansS
  rw [if_pos rfl, if_pos (by decide), hn0]
  have e : leaseCodeS d.S d.ls 0 1 1 1 41 = 5 := by unfold leaseCodeS; rw [hx]; rfl
  simp only [e]
  rfl
 ·unfold Ref DS.ask ansS
  rw [if_pos rfl, if_pos (by decide), hn0]
  have e : leaseCodeS d.S d.ls 7 0 0 0 1 = 2 := by unfold leaseCodeS; rw [h7]
  simp only [e]
  rfl
 ·unfold Ref DS.ask ansS
  rw [if_neg (by decide), if_pos rfl, if_pos (by decide), hx]
  simp only
  rw [if_neg (by decide), if_pos (by decide)]
  rfl
 ·unfold Ref DS.ask ansS
  rw [if_neg (by decide), if_pos rfl, if_pos (by decide), hx]
  simp only
  have e : fetchCode d.ls 90 0 1 1 1 0 1 0 = 8 := by
   unfold fetchCode
   rw [if_neg (by decide), if_neg (by decide), if_neg ?_]
   intro hq
   have := hq 0 (by decide)
   unfold heldP at this
   split at this
   ·cases this
   ·rename_i l hl
    have hs := h.ses l (List.mem_of_find?_eq_some hl)
    simp at this
    omega
  rw [if_neg (by decide), if_neg (by decide), e]
  rfl
 ·unfold Ref DS.ask ansS
  rw [if_neg (by decide), if_neg (by decide), if_pos rfl, if_pos (by decide), hn1]
  rfl
theorem refill_fails {d : DS} (kd m k n : Int) (D : List Int) (h : fillCode d.S kd m k n D = 0 \/ fillCode d.S kd m k n D = 4) :
  (((d.failAt 0).refill kd m k n D).1 = 4 \/ ((d.failAt 0).refill kd m k n D).1 = 10) /\ ((d.failAt 0).refill kd m k n D).2.S = d.S /\ ((d.failAt 0).refill kd m k n D).2.ls = d.ls /\ ((d.failAt 0).refill kd m k n D).2.ops = d.ops := by
 have hf : fillCode (d.failAt 0).S kd m k n D = fillCode d.S kd m k n D := rfl
 unfold DS.refill
 rcases h with h | h
 ·rw [hf, if_pos h]
  have hp : ∀ rec, 0 < (addOps d.kn d.S d.ls rec).length := fun rec => by rw [addOps_len]; split <;> omega
  have hok : ∀ rec, (d.failAt 0).ok rec = false := fun rec => by
   have := hp rec
   show (!((decide ((0 : Int) <= 0)) && decide ((0 : Int) < ((addOps d.kn d.S d.ls rec).length : Int)))) = false
   simp
   omega
  simp only [DS.add, hok, Bool.false_eq_true, if_false]
  refine ⟨.inr trivial, rfl, rfl, ?_⟩
  have : didOps (d.failAt 0).fl (d.failAt 0).ah (addOps (d.failAt 0).kn (d.failAt 0).S (d.failAt 0).ls (fillRec kd m k n D)) = [] := by
   have := hp (fillRec kd m k n D)
   unfold didOps
   have e : diskN (d.failAt 0).fl (d.failAt 0).ah (addOps (d.failAt 0).kn (d.failAt 0).S (d.failAt 0).ls (fillRec kd m k n D)).length = 0 := by
    unfold diskN
    rw [if_pos ⟨by show decide ((0 : Int) <= 0) = true; decide, by show (0 : Int) < ((addOps d.kn d.S d.ls (fillRec kd m k n D)).length : Int); omega⟩]
    rfl
   rw [e]
   rfl
  rw [this]
  exact List.append_nil _
 ·rw [hf, if_neg (by rw [h]; decide)]
  exact ⟨.inl h, rfl, rfl, rfl⟩
theorem fill_four {d : DS} (D : List Int) (hD : D.length = 5) : fillCode d.S 0 1 1 1 D = 0 \/ fillCode d.S 0 1 1 1 D = 4 := by
 have h5 : drawsN 0 1 1 1 = 5 := by decide
 unfold fillCode
 rw [if_pos (by decide), hD, h5, if_neg (by decide)]
 unfold makeCode
 split
 ·split
  ·exact .inr rfl
  ·exact .inl rfl
 ·split
  ·exact .inr rfl
  ·exact .inl rfl
end
section
open Go.RowKit Go.Maps
theorem ksameStocks_c (S : List Stk) (n : Nat) (hl : S.length = n) (hn : n <= 1000000000) (a1 a2 : Option Addr) (c1 c2 : Nat) (w : World) (h1 : RdRow w a1 n (toldAll S)) (h2 : RdRow w a2 n (toldAll S)) :
  Calls Tryz.prog 39 #[.slice a1 n c1, .slice a2 n c2] w fun e w' => e = .returned (.bool true) /\ Ext w w' := by
 have heq := eqStock
 have HL : Hid (S.length = n) := hl
 have H1 : Hid _ := h1
 have H2 : Hid _ := h2
 clear h1 h2 hl
 go_enter Tryz.func39, Tryz.ntmps39
 go_wp2
 go_loopw [5] (fun i wr => ∃ j : Nat, j <= n /\ i = .int .i64 j /\ Ext w wr) (fun i _ => n - (intOf i).toNat)
 case atStart => exact ⟨0, Nat.zero_le _, rfl, Ext.refl _⟩
 case round =>
  obtain ⟨j, hj, rfl, hx⟩ := hrel
  have HX : Hid (Ext w wr) := hx
  clear hx
  by_cases hlt : j < n
  ·have hjl : j < S.length := by rw [HL.out]; exact hlt
   obtain ⟨g1, rfl, k1⟩ := H1.out.resolve_left (by omega)
   obtain ⟨g2, rfl, k2⟩ := H2.out.resolve_left (by omega)
   obtain ⟨y0, hy0⟩ : ∃ y, (S[j].kd : Int) = y := ⟨_, rfl⟩
   obtain ⟨y1, hy1⟩ : ∃ y, (S[j].m : Int) = y := ⟨_, rfl⟩
   obtain ⟨y2, hy2⟩ : ∃ y, (S[j].k : Int) = y := ⟨_, rfl⟩
   obtain ⟨y3, hy3⟩ : ∃ y, (S[j].n : Int) = y := ⟨_, rfl⟩
   obtain ⟨y4, hy4⟩ : ∃ y, (S[j].ts.length : Int) = y := ⟨_, rfl⟩
   obtain ⟨y5, hy5⟩ : ∃ y, (S[j].leased : Int) = y := ⟨_, rfl⟩
   obtain ⟨y6, hy6⟩ : ∃ y, ((S[j].ts.filter (·.2)).length : Int) = y := ⟨_, rfl⟩
   have e0 : wr.cell? ⟨g1, j * 7, none⟩ = some (.int .i64 y0) := HX.out.cell (by rw [<- hy0]; exact k1 (j * 7) _ ((toldAll_at S j 0 hjl (by omega)).trans rfl))
   have d0 : wr.cell? ⟨g2, j * 7, none⟩ = some (.int .i64 y0) := HX.out.cell (by rw [<- hy0]; exact k2 (j * 7) _ ((toldAll_at S j 0 hjl (by omega)).trans rfl))
   have e1 : wr.cell? ⟨g1, j * 7 + 1, none⟩ = some (.int .i64 y1) := HX.out.cell (by rw [<- hy1]; exact k1 (j * 7 + 1) _ ((toldAll_at S j 1 hjl (by omega)).trans rfl))
   have d1 : wr.cell? ⟨g2, j * 7 + 1, none⟩ = some (.int .i64 y1) := HX.out.cell (by rw [<- hy1]; exact k2 (j * 7 + 1) _ ((toldAll_at S j 1 hjl (by omega)).trans rfl))
   have e2 : wr.cell? ⟨g1, j * 7 + 2, none⟩ = some (.int .i64 y2) := HX.out.cell (by rw [<- hy2]; exact k1 (j * 7 + 2) _ ((toldAll_at S j 2 hjl (by omega)).trans rfl))
   have d2 : wr.cell? ⟨g2, j * 7 + 2, none⟩ = some (.int .i64 y2) := HX.out.cell (by rw [<- hy2]; exact k2 (j * 7 + 2) _ ((toldAll_at S j 2 hjl (by omega)).trans rfl))
   have e3 : wr.cell? ⟨g1, j * 7 + 3, none⟩ = some (.int .i64 y3) := HX.out.cell (by rw [<- hy3]; exact k1 (j * 7 + 3) _ ((toldAll_at S j 3 hjl (by omega)).trans rfl))
   have d3 : wr.cell? ⟨g2, j * 7 + 3, none⟩ = some (.int .i64 y3) := HX.out.cell (by rw [<- hy3]; exact k2 (j * 7 + 3) _ ((toldAll_at S j 3 hjl (by omega)).trans rfl))
   have e4 : wr.cell? ⟨g1, j * 7 + 4, none⟩ = some (.int .i64 y4) := HX.out.cell (by rw [<- hy4]; exact k1 (j * 7 + 4) _ ((toldAll_at S j 4 hjl (by omega)).trans rfl))
   have d4 : wr.cell? ⟨g2, j * 7 + 4, none⟩ = some (.int .i64 y4) := HX.out.cell (by rw [<- hy4]; exact k2 (j * 7 + 4) _ ((toldAll_at S j 4 hjl (by omega)).trans rfl))
   have e5 : wr.cell? ⟨g1, j * 7 + 5, none⟩ = some (.int .i64 y5) := HX.out.cell (by rw [<- hy5]; exact k1 (j * 7 + 5) _ ((toldAll_at S j 5 hjl (by omega)).trans rfl))
   have d5 : wr.cell? ⟨g2, j * 7 + 5, none⟩ = some (.int .i64 y5) := HX.out.cell (by rw [<- hy5]; exact k2 (j * 7 + 5) _ ((toldAll_at S j 5 hjl (by omega)).trans rfl))
   have e6 : wr.cell? ⟨g1, j * 7 + 6, none⟩ = some (.int .i64 y6) := HX.out.cell (by rw [<- hy6]; exact k1 (j * 7 + 6) _ ((toldAll_at S j 6 hjl (by omega)).trans rfl))
   have d6 : wr.cell? ⟨g2, j * 7 + 6, none⟩ = some (.int .i64 y6) := HX.out.cell (by rw [<- hy6]; exact k2 (j * 7 + 6) _ ((toldAll_at S j 6 hjl (by omega)).trans rfl))
   have hk0 : (0 : Int) <= (j : Int) := by omega
   have hk1 : (j : Int) < n := by omega
   clear k1 k2 hy0 hy1 hy2 hy3 hy4 hy5 hy6
   go_wp2
   go_quiet (fail)
   go_wp2
   go_roundw
   case rel => exact ⟨j + 1, by omega, by go_num, HX.out.drewN _⟩
   case measure => simp [intOf]; omega
  ·obtain rfl : j = n := by omega
   go_wp2
   go_ret
   exact ⟨rfl, HX.out⟩
theorem ksameLeases_c (ls : List LsV) (n : Nat) (hl : ls.length = n) (hn : n <= 1000000000) (a1 a2 : Option Addr) (c1 c2 : Nat) (w : World) (h1 : RdRow w a1 n (lsCells ls)) (h2 : RdRow w a2 n (lsCells ls)) :
  Calls Tryz.prog 38 #[.slice a1 n c1, .slice a2 n c2] w fun e w' => e = .returned (.bool true) /\ Ext w w' := by
 have heq := eqLease
 have HL : Hid (ls.length = n) := hl
 have H1 : Hid _ := h1
 have H2 : Hid _ := h2
 clear h1 h2 hl
 go_enter Tryz.func38, Tryz.ntmps38
 go_wp2
 go_loopw [5] (fun i wr => ∃ j : Nat, j <= n /\ i = .int .i64 j /\ Ext w wr) (fun i _ => n - (intOf i).toNat)
 case atStart => exact ⟨0, Nat.zero_le _, rfl, Ext.refl _⟩
 case round =>
  obtain ⟨j, hj, rfl, hx⟩ := hrel
  have HX : Hid (Ext w wr) := hx
  clear hx
  by_cases hlt : j < n
  ·have hjl : j < ls.length := by rw [HL.out]; exact hlt
   obtain ⟨g1, rfl, k1⟩ := H1.out.resolve_left (by omega)
   obtain ⟨g2, rfl, k2⟩ := H2.out.resolve_left (by omega)
   obtain ⟨y0, hy0⟩ : ∃ y, ls[j].s = y := ⟨_, rfl⟩
   obtain ⟨y1, hy1⟩ : ∃ y, ls[j].i = y := ⟨_, rfl⟩
   obtain ⟨y2, hy2⟩ : ∃ y, ls[j].kd = y := ⟨_, rfl⟩
   obtain ⟨y3, hy3⟩ : ∃ y, ls[j].m = y := ⟨_, rfl⟩
   obtain ⟨y4, hy4⟩ : ∃ y, ls[j].k = y := ⟨_, rfl⟩
   obtain ⟨y5, hy5⟩ : ∃ y, ls[j].n = y := ⟨_, rfl⟩
   obtain ⟨y6, hy6⟩ : ∃ y, ls[j].f = y := ⟨_, rfl⟩
   obtain ⟨y7, hy7⟩ : ∃ y, ls[j].c = y := ⟨_, rfl⟩
   obtain ⟨y8, hy8⟩ : ∃ y, ls[j].r = y := ⟨_, rfl⟩
   have e0 : wr.cell? ⟨g1, j * 9, none⟩ = some (.int .i64 y0) := HX.out.cell (by rw [<- hy0]; exact k1 (j * 9) _ ((lsCells_at ls j 0 hjl (by omega)).trans rfl))
   have d0 : wr.cell? ⟨g2, j * 9, none⟩ = some (.int .i64 y0) := HX.out.cell (by rw [<- hy0]; exact k2 (j * 9) _ ((lsCells_at ls j 0 hjl (by omega)).trans rfl))
   have e1 : wr.cell? ⟨g1, j * 9 + 1, none⟩ = some (.int .i64 y1) := HX.out.cell (by rw [<- hy1]; exact k1 (j * 9 + 1) _ ((lsCells_at ls j 1 hjl (by omega)).trans rfl))
   have d1 : wr.cell? ⟨g2, j * 9 + 1, none⟩ = some (.int .i64 y1) := HX.out.cell (by rw [<- hy1]; exact k2 (j * 9 + 1) _ ((lsCells_at ls j 1 hjl (by omega)).trans rfl))
   have e2 : wr.cell? ⟨g1, j * 9 + 2, none⟩ = some (.int .i64 y2) := HX.out.cell (by rw [<- hy2]; exact k1 (j * 9 + 2) _ ((lsCells_at ls j 2 hjl (by omega)).trans rfl))
   have d2 : wr.cell? ⟨g2, j * 9 + 2, none⟩ = some (.int .i64 y2) := HX.out.cell (by rw [<- hy2]; exact k2 (j * 9 + 2) _ ((lsCells_at ls j 2 hjl (by omega)).trans rfl))
   have e3 : wr.cell? ⟨g1, j * 9 + 3, none⟩ = some (.int .i64 y3) := HX.out.cell (by rw [<- hy3]; exact k1 (j * 9 + 3) _ ((lsCells_at ls j 3 hjl (by omega)).trans rfl))
   have d3 : wr.cell? ⟨g2, j * 9 + 3, none⟩ = some (.int .i64 y3) := HX.out.cell (by rw [<- hy3]; exact k2 (j * 9 + 3) _ ((lsCells_at ls j 3 hjl (by omega)).trans rfl))
   have e4 : wr.cell? ⟨g1, j * 9 + 4, none⟩ = some (.int .i64 y4) := HX.out.cell (by rw [<- hy4]; exact k1 (j * 9 + 4) _ ((lsCells_at ls j 4 hjl (by omega)).trans rfl))
   have d4 : wr.cell? ⟨g2, j * 9 + 4, none⟩ = some (.int .i64 y4) := HX.out.cell (by rw [<- hy4]; exact k2 (j * 9 + 4) _ ((lsCells_at ls j 4 hjl (by omega)).trans rfl))
   have e5 : wr.cell? ⟨g1, j * 9 + 5, none⟩ = some (.int .i64 y5) := HX.out.cell (by rw [<- hy5]; exact k1 (j * 9 + 5) _ ((lsCells_at ls j 5 hjl (by omega)).trans rfl))
   have d5 : wr.cell? ⟨g2, j * 9 + 5, none⟩ = some (.int .i64 y5) := HX.out.cell (by rw [<- hy5]; exact k2 (j * 9 + 5) _ ((lsCells_at ls j 5 hjl (by omega)).trans rfl))
   have e6 : wr.cell? ⟨g1, j * 9 + 6, none⟩ = some (.int .i64 y6) := HX.out.cell (by rw [<- hy6]; exact k1 (j * 9 + 6) _ ((lsCells_at ls j 6 hjl (by omega)).trans rfl))
   have d6 : wr.cell? ⟨g2, j * 9 + 6, none⟩ = some (.int .i64 y6) := HX.out.cell (by rw [<- hy6]; exact k2 (j * 9 + 6) _ ((lsCells_at ls j 6 hjl (by omega)).trans rfl))
   have e7 : wr.cell? ⟨g1, j * 9 + 7, none⟩ = some (.int .i64 y7) := HX.out.cell (by rw [<- hy7]; exact k1 (j * 9 + 7) _ ((lsCells_at ls j 7 hjl (by omega)).trans rfl))
   have d7 : wr.cell? ⟨g2, j * 9 + 7, none⟩ = some (.int .i64 y7) := HX.out.cell (by rw [<- hy7]; exact k2 (j * 9 + 7) _ ((lsCells_at ls j 7 hjl (by omega)).trans rfl))
   have e8 : wr.cell? ⟨g1, j * 9 + 8, none⟩ = some (.bool y8) := HX.out.cell (by rw [<- hy8]; exact k1 (j * 9 + 8) _ ((lsCells_at ls j 8 hjl (by omega)).trans rfl))
   have d8 : wr.cell? ⟨g2, j * 9 + 8, none⟩ = some (.bool y8) := HX.out.cell (by rw [<- hy8]; exact k2 (j * 9 + 8) _ ((lsCells_at ls j 8 hjl (by omega)).trans rfl))
   have hk0 : (0 : Int) <= (j : Int) := by omega
   have hk1 : (j : Int) < n := by omega
   clear k1 k2 hy0 hy1 hy2 hy3 hy4 hy5 hy6 hy7 hy8
   go_wp2
   go_quiet (fail)
   go_wp2
   go_roundw
   case rel => exact ⟨j + 1, by omega, by go_num, HX.out.drewN _⟩
   case measure => simp [intOf]; omega
  ·obtain rfl : j = n := by omega
   go_wp2
   go_ret
   exact ⟨rfl, HX.out⟩
theorem ksameWords_c (zs : List Int) (n : Nat) (hl : zs.length = n) (hn : n <= 1000000000) (a1 a2 : Option Addr) (c1 c2 : Nat) (w : World) (h1 : RdRow w a1 n (zs.map (Value.int .u64))) (h2 : RdRow w a2 n (zs.map (Value.int .u64))) :
  Calls Tryz.prog 56 #[.slice a1 n c1, .slice a2 n c2] w fun e w' => e = .returned (.bool true) /\ Ext w w' := by
 have HL : Hid (zs.length = n) := hl
 have H1 : Hid _ := h1
 have H2 : Hid _ := h2
 clear h1 h2 hl
 go_enter Tryz.func56, Tryz.ntmps56
 go_wp2
 go_loopw [5] (fun i wr => ∃ j : Nat, j <= n /\ i = .int .i64 j /\ Ext w wr) (fun i _ => n - (intOf i).toNat)
 case atStart => exact ⟨0, Nat.zero_le _, rfl, Ext.refl _⟩
 case round =>
  obtain ⟨j, hj, rfl, hx⟩ := hrel
  have HX : Hid (Ext w wr) := hx
  clear hx
  by_cases hlt : j < n
  ·have hjl : j < zs.length := by rw [HL.out]; exact hlt
   obtain ⟨g1, rfl, k1⟩ := H1.out.resolve_left (by omega)
   obtain ⟨g2, rfl, k2⟩ := H2.out.resolve_left (by omega)
   obtain ⟨y0, hy0⟩ : ∃ y, zs[j] = y := ⟨_, rfl⟩
   have e0 : wr.cell? ⟨g1, j, none⟩ = some (.int .u64 y0) := HX.out.cell (by rw [<- hy0]; exact k1 (j) _ (by simp [hjl]))
   have d0 : wr.cell? ⟨g2, j, none⟩ = some (.int .u64 y0) := HX.out.cell (by rw [<- hy0]; exact k2 (j) _ (by simp [hjl]))
   have hk0 : (0 : Int) <= (j : Int) := by omega
   have hk1 : (j : Int) < n := by omega
   clear k1 k2 hy0
   go_wp2
   go_quiet (fail)
   go_wp2
   go_roundw
   case rel => exact ⟨j + 1, by omega, by go_num, HX.out.drewN _⟩
   case measure => simp [intOf]; omega
  ·obtain rfl : j = n := by omega
   go_wp2
   go_ret
   exact ⟨rfl, HX.out⟩
theorem ksameReply_c (c f n : Int) (zs : List Int) (hn : zs.length <= 1000000000) (a1 a2 : Option Addr) (c1 c2 : Nat) (w : World) (h1 : RdRow w a1 zs.length (zs.map (Value.int .u64))) (h2 : RdRow w a2 zs.length (zs.map (Value.int .u64))) :
  Calls Tryz.prog 21 #[replyV c f n (.slice a1 zs.length c1), replyV c f n (.slice a2 zs.length c2)] w fun e w' => e = .returned (.bool true) /\ Ext w w' := by
 have HS : Hid (∀ w', Ext w w' -> _) := fun w' hx => ksameWords_c zs zs.length rfl hn a1 a2 c1 c2 w' (h1.ext hx) (h2.ext hx)
 clear h1 h2
 generalize zs.length = len at *
 unfold replyV
 go_enter Tryz.func21, Tryz.ntmps21
 go_wp2_with fail
 have ha : ((w.alloc (.cells #[.int .i64 c, .int .i64 f, .int .i64 n, .slice a1 len c1] 33)).alloc (.cells #[.int .i64 c, .int .i64 f, .int .i64 n, .slice a2 len c2] 33)).heap[w.heap.size]? = some (.cells #[.int .i64 c, .int .i64 f, .int .i64 n, .slice a1 len c1] 33 (0, 0)) := at_old (heap_alloc_new _ _)
 have hb : ((w.alloc (.cells #[.int .i64 c, .int .i64 f, .int .i64 n, .slice a1 len c1] 33)).alloc (.cells #[.int .i64 c, .int .i64 f, .int .i64 n, .slice a2 len c2] 33)).heap[w.heap.size + 1]? = some (.cells #[.int .i64 c, .int .i64 f, .int .i64 n, .slice a2 len c2] 33 (0, 0)) := at_new (by simp)
 have hXW : Ext w ((w.alloc (.cells #[.int .i64 c, .int .i64 f, .int .i64 n, .slice a1 len c1] 33)).alloc (.cells #[.int .i64 c, .int .i64 f, .int .i64 n, .slice a2 len c2] 33)) := ((Ext.refl w).alloc _).alloc _
 generalize World.alloc (World.alloc w _) _ = W at ha hb hXW ⊢
 refine (HS.out _ hXW).mono ?_
 rintro e w1 ⟨rfl, hx1⟩
 have ha := hx1.block ha
 have hb := hx1.block hb
 have e0 := cell_at ha (i := 0) rfl
 have e1 := cell_at ha (i := 1) rfl
 have e2 := cell_at ha (i := 2) rfl
 have d0 := cell_at hb (i := 0) rfl
 have d1 := cell_at hb (i := 1) rfl
 have d2 := cell_at hb (i := 2) rfl
 have HX1 : Hid (Ext w w1) := hXW.trans hx1
 have hl1 := lG w1 _ e0
 have hl2 := lG w1 _ d0
 clear ha hb hx1 hXW
 go_wp2
 all_goals go_ret
 all_goals exact ⟨ret_bool (by simp), HX1.out⟩
end
end
end Go.Proofs.YtmnjhhachdlmkaaGreat
