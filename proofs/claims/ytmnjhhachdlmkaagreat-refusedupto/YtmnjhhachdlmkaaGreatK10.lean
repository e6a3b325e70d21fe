import Derived.Test.YtmnjhhachdlmkaaGreatK09
namespace Go.Proofs.YtmnjhhachdlmkaaGreat
set_option linter.unusedVariables false
set_option linter.unusedSimpArgs false
open List renaming getElem_toArray -> lA, getElem_cons_succ -> lB, getElem_cons_zero -> lC, setIfInBounds_toArray -> lD, set_cons_zero -> lE, set_cons_succ -> lF
open Value renaming ownBlock -> lH
-- VRs
section
set_option maxRecDepth 100000
set_option maxHeartbeats 6400000
open Go.RowKit Go.Maps
def rawW (l : List UInt8) (n : Nat) : List Int := (List.range n).map fun i => (be ((l.drop (1 + 8 * i)).take 8) : Int)
def shareP (L : Nat) (l : List UInt8) : Option ((List Int × Bool) × Nat) :=
 if (l.getD 0 0).toNat = 0 then some (([], false), 1) else if (l.getD 0 0).toNat ≠ 1 \/ l.length < 1 + 16 * L then none else some ((rawW l (2 * L), true), 1 + 16 * L)
theorem readSharesGone_c (s : ByteArray) (h1 : 0 < s.size) (h0 : s[0].toNat = 0) (L : Nat) (w : World) :
  Calls Tryz.prog 186 #[.string s, .int .i64 (L : Int)] w fun e w' => e = .returned (.tuple #[.agg #[.slice none 0 0, .slice none 0 0], .int .i64 1]) /\ Ext w w' := by
 go_enter Tryz.func186, Tryz.ntmps186
 go_wp2
 refine bodyPost_ret (v := .tuple #[.agg #[.slice none 0 0, .slice none 0 0], .int .i64 1]) (by simp [results, Tryz.results186, go_sem]) rfl ⟨rfl, (Ext.refl w).alloc _⟩
theorem readSharesNo_c (s : ByteArray) (h1 : 0 < s.size) (h0 : s[0].toNat ≠ 0) (hs : s.size <= 1000000000) (L : Nat) (hL : 1 <= L /\ L <= 27) (hn : s[0].toNat ≠ 1 \/ s.size < 1 + 16 * L) (w : World) :
  Calls Tryz.prog 186 #[.string s, .int .i64 (L : Int)] w fun e w' => e = .returned (.tuple #[.agg #[.slice none 0 0, .slice none 0 0], .int .i64 0]) /\ Ext w w' := by
 by_cases hk : s[0].toNat = 1
 ·have hlt : (s.size : Int) < 1 + 2 * (L : Int) * 8 := by omega
  clear hn h0
  go_enter Tryz.func186, Tryz.ntmps186
  go_wp2
  refine bodyPost_ret (v := .tuple #[.agg #[.slice none 0 0, .slice none 0 0], .int .i64 0]) (by simp [results, Tryz.results186, go_sem]) rfl ⟨rfl, (Ext.refl w).alloc _⟩
 ·obtain ⟨x, hx⟩ : ∃ x : Int, (s[0].toNat : Int) = x := ⟨_, rfl⟩
  have hx0 : (x == 0) = false := by simp; omega
  have hx1 : (x == 1) = false := by simp; omega
  have hx2 : (x != 1) = true := by simp; omega
  clear hn h0 hk
  go_enter Tryz.func186, Tryz.ntmps186
  go_wp2
  refine bodyPost_ret (v := .tuple #[.agg #[.slice none 0 0, .slice none 0 0], .int .i64 0]) (by simp [results, Tryz.results186, go_sem]) rfl ⟨rfl, (Ext.refl w).alloc _⟩
-- LOOP
theorem rawW_succ (D : List UInt8) (j : Nat) : rawW D (j + 1) = rawW D j ++ [(be ((D.drop (1 + 8 * j)).take 8) : Int)] := by simp [rawW, List.range_succ]
theorem rawW_len (D : List UInt8) (j : Nat) : (rawW D j).length = j := by simp [rawW]
theorem rawW_take (D : List UInt8) (L : Nat) : (rawW D (2 * L)).take L = rawW D L := by
 rw [rawW, <- List.map_take, List.take_range, Nat.min_eq_left (by omega)]; rfl
theorem ext_mid (t : ByteArray) (a b : Nat) : (t.extract a b).data.toList = (t.data.toList.drop a).take (b - a) := by
 rw [ByteArray.data_extract, Array.toList_extract, List.extract_eq_drop_take', List.drop_take]
theorem readSharesYes_c (s : ByteArray) (h1 : 0 < s.size) (h0 : s[0].toNat = 1) (hs : s.size <= 1000000000) (L : Nat) (hL : 1 <= L /\ L <= 27) (hn : 1 + 16 * L <= s.size) (w : World) :
  Calls Tryz.prog 186 #[.string s, .int .i64 (L : Int)] w fun e w' => ∃ a0 c0 a1 c1, e = .returned (.tuple #[.agg #[.slice (some ⟨a0, 0, none⟩) L c0, .slice (some ⟨a1, 0, none⟩) L c1], .int .i64 (1 + 2 * (L : Int) * 8)]) /\
   w'.ownsRow w.heap.size 146 1 (.slice (some ⟨a0, 0, none⟩) L c0) L (((rawW s.data.toList (2 * L)).take L).map (Value.int .u64)) /\ w'.ownsRow w.heap.size 146 1 (.slice (some ⟨a1, 0, none⟩) L c1) L (((rawW s.data.toList (2 * L)).drop L).map (Value.int .u64)) /\ Ext w w' := by
 obtain ⟨i0, hi, hz0, hz1, hz2⟩ := info_parts infoU64
 obtain ⟨D, hD⟩ : ∃ D, s.data.toList = D := ⟨_, rfl⟩
 have HD : Hid (s.data.toList = D) := hD
 rw [hD]
 have HS : Hid (1 + 16 * L <= s.size) := hn
 have hlt : ¬ (s.size : Int) < 1 + 2 * (L : Int) * 8 := by omega
 clear hD hn
 go_enter Tryz.func186, Tryz.ntmps186
 go_wp2
 have hres : (w.alloc (.cells #[.slice none 0 0, .slice none 0 0] 176)).heap[w.heap.size]? = some (.cells #[.slice none 0 0, .slice none 0 0] 176 (0, 0)) := heap_alloc_new _ _
 have hXW : Ext w (w.alloc (.cells #[.slice none 0 0, .slice none 0 0] 176)) := (Ext.refl w).alloc _
 obtain ⟨rb, hrb⟩ : ∃ rb, w.heap.size = rb := ⟨_, rfl⟩
 have HRB : Hid (w.heap.size = rb) := hrb
 simp only [hrb] at hres ⊢
 generalize World.alloc w _ = W at hres hXW ⊢
 have HRS : Hid _ := hres
 have HXW : Hid (Ext w W) := hXW
 have hWl : rb < W.heap.size := (Array.getElem?_eq_some_iff.1 hres).1
 clear hres hXW hlt hrb
 go_loopw [6, 7, 28] (fun _ _ iv wr => ∃ (j : Nat) (v0 v1 : Value), j <= 2 * L /\ iv = .int .i64 (j : Int) /\ wr.heap[rb]? = some (.cells #[v0, v1] 176 (0, 0)) /\ wr.ownsRow W.heap.size 146 1 v0 (min j L) ((rawW D (min j L)).map (Value.int .u64)) /\ wr.ownsRow W.heap.size 146 1 v1 (j - L) (((rawW D j).drop L).map (Value.int .u64)) /\ (∀ b, v0.ownBlock = some b -> v1.ownBlock = some b -> False) /\ Turn (fun b => b = rb) W wr) (fun _ _ iv _ => 2 * L - (intOf iv).toNat)
 case atStart => exact ⟨0, _, _, Nat.zero_le _, rfl, HRS.out, by simpa [rawW] using World.ownsRow_nil _ _ _ _, by simpa [rawW] using World.ownsRow_nil _ _ _ _, fun b h => by simp [lH] at h, Turn.refl _ _⟩
 case round =>
  obtain ⟨j, v0, v1, hj, rfl, hb, ho0, ho1, hap, ht⟩ := hrel
  have HB : Hid _ := hb
  have HTW : Hid (Turn (fun b => b = rb) W wr) := ht
  have hbl : rb < wr.heap.size := (Array.getElem?_eq_some_iff.1 hb).1
  have HNR0 : Hid (v0.ownBlock ≠ some rb) := row_ne hb ho0 (by decide)
  have HNR1 : Hid (v1.ownBlock ≠ some rb) := row_ne hb ho1 (by decide)
  have hwr := ht.size
  clear ht
  by_cases hlt2 : j < 2 * L
  ·have hin : (j : Int) < 2 * (L : Int) := by omega
   have hLz : ¬ L = 0 := by omega
   have hw0 : IntKind.i64.wrap 0 = 0 := by decide
   have hw1 : IntKind.i64.wrap 1 = 1 := by decide
   obtain ⟨at_, hat⟩ : ∃ at_ : Nat, 1 + 8 * j = at_ := ⟨_, rfl⟩
   obtain ⟨bt, hbt⟩ : ∃ bt : Nat, at_ + 8 = bt := ⟨_, rfl⟩
   obtain ⟨z, hz⟩ : ∃ z : Nat, be ((D.drop (1 + 8 * j)).take 8) = z := ⟨_, rfl⟩
   have HA : Hid (1 + (j : Int) * 8 = (at_ : Int)) := by show _ = _; omega
   have hB8 : IntKind.i64.wrap ((at_ : Int) + 8) = (bt : Int) := by rw [IntKind.wrap_i64]; omega
   have hbs : bt <= s.size := by have := HS.out; omega
   have hab : at_ <= bt := by omega
   have HES : Hid ((s.extract at_ bt).size = 8) := by
    show _ = _
    rw [ByteArray.size_extract]
    omega
   have HBE : Hid (be (s.extract at_ bt).data.toList = z) := by
    show _ = _
    rw [ext_mid, HD.out, <- hz, hat, show bt - at_ = 8 by omega]
   have HRW : Hid (rawW D (j + 1) = rawW D j ++ [(z : Int)]) := by
    show _ = _
    rw [rawW_succ, hz]
   have HAt : Hid (1 + 8 * j = at_ /\ at_ + 8 = bt) := ⟨hat, hbt⟩
   clear hz hat hbt
   by_cases hjl : j < L
   ·have hq : Int.tdiv (j : Int) (L : Int) = 0 := by
     rw [Int.tdiv_eq_ediv_of_nonneg (by omega)]
     exact Int.ediv_eq_zero_of_lt (by omega) (by omega)
    rw [Nat.min_eq_left (by omega)] at ho0
    rw [show j - L = 0 by omega] at ho1
    obtain ⟨va, vc, rfl⟩ := owns_slice ho0
    obtain ⟨vb, vd, rfl⟩ := owns_slice ho1
    have HO0 : Hid (wr.ownsRow W.heap.size 146 1 (.slice va j vc) j ((rawW D j).map (Value.int .u64))) := ho0
    have HO1 : Hid (wr.ownsRow W.heap.size 146 1 (.slice vb 0 vd) 0 (((rawW D j).drop L).map (Value.int .u64))) := ho1
    have HAP : Hid (∀ b, lH (.slice va j vc) = some b -> lH (.slice vb 0 vd) = some b -> False) := hap
    have HRel0 : Hid (∀ (w6 : World) (g cap : Nat), w6.ownsRow W.heap.size 146 1 (.slice (some ⟨g, 0, none⟩) (j + 1) cap) (j + 1) ((rawW D j).map (Value.int .u64) ++ [.int .u64 (z : Int)]) -> w6.ownsRow W.heap.size 146 1 (.slice vb 0 vd) 0 (((rawW D j).drop L).map (Value.int .u64)) -> (g ≠ rb /\ ∀ b, lH (.slice vb 0 vd) = some b -> b ≠ g) -> w6.ownsRow W.heap.size 146 1 (.slice (some ⟨g, 0, none⟩) (j + 1) cap) (min (j + 1) L) ((rawW D (min (j + 1) L)).map (Value.int .u64)) /\ w6.ownsRow W.heap.size 146 1 (.slice vb 0 vd) (j + 1 - L) (((rawW D (j + 1)).drop L).map (Value.int .u64)) /\ ∀ b, lH (.slice (some ⟨g, 0, none⟩) (j + 1) cap) = some b -> lH (.slice vb 0 vd) = some b -> False) := fun w6 g cap k1 k2 k3 => by
     refine ⟨?_, ?_, fun b e1 e2 => k3.2 b e2 (by simpa [lH] using e1.symm)⟩
     ·rw [Nat.min_eq_left (by omega), HRW.out, List.map_append]; exact k1
     ·rw [show j + 1 - L = 0 by omega, List.drop_of_length_le (by rw [rawW_len]; omega)]
      rw [List.drop_of_length_le (by rw [rawW_len]; omega)] at k2
      exact k2
    clear ho0 ho1 hap
    go_wp2_with fail
    simp only [HA.out]
    have y0 : wr.cell? ⟨rb, 0, none⟩ = some (.slice va j vc) := cell_at HB.out rfl
    refine wp_region_held_drew (S := (fun _ => True)) (by kernel_rfl) trivial (fun hHeld => ?_)
    refine zT 0 hHeld ?_
    refine zT 1 hHeld ?_
    refine zT 2 hHeld ?_
    refine zT 3 hHeld ?_
    refine zT 4 hHeld ?_
    refine zT 5 hHeld ?_
    refine zT 6 hHeld ?_
    refine zT 8 hHeld ?_
    refine zT 9 hHeld ?_
    refine zT 10 hHeld ?_
    refine zT 11 hHeld ?_
    refine zT 12 hHeld ?_
    refine wpAnyH_ready (rs := [7, 13]) (by kernel_rfl) (by simp) ?_
    refine AllReadyH.cons (o := _) rfl (fun K hK => ?_) (AllReadyH.cons (o := _) rfl (fun K hK => ?_) AllReadyH.nil)
    ·skip
     (try simp only [lA, lB, lC])
     go_simp
     refine hK.out _ _ trivial (fun hHeld => ?_)
     clear hK K
     try simp only [Act.put, lA, lB, lC, lD, lE, lF]
     refine wpAnyH_ready (rs := [13]) (by kernel_rfl) (by simp) ?_
     refine AllReadyH.cons (o := _) rfl (fun K hK => ?_) AllReadyH.nil
     (try simp only [lA, lB, lC])
     go_simp
     refine (take8_c (s.extract at_ bt) (by have := HES.out; omega) _).mono ?_
     rintro e w4 ⟨rfl, rfl⟩
     simp only [HBE.out]
     refine hK.out _ _ trivial (fun hHeld => ?_)
     clear hK K
     try simp only [Act.put, lA, lB, lC, lD, lE, lF]
     refine wpAnyH_ready (rs := [14]) (by kernel_rfl) (by simp) ?_
     refine AllReadyH.cons (o := _) rfl (fun K hK => ?_) AllReadyH.nil
     (try simp only [lA, lB, lC])
     go_simp
     refine hK.out _ _ trivial (fun hHeld => ?_)
     clear hK K
     try simp only [Act.put, lA, lB, lC, lD, lE, lF]
     refine wpAnyH_ready (rs := [15]) (by kernel_rfl) (by simp) ?_
     refine AllReadyH.cons (o := _) rfl (fun K hK => ?_) AllReadyH.nil
     refine step_append_lies _ (by rfl) _ _ 31 (by rfl) W.heap.size 146 i0 _ 1 8 Tryz.underlying31 hi hz0 hz1 hz2 (by rfl) (by decide) (.slice va j vc) j _ (by rfl) (Ext.owns (by repeat (first | with_reducible exact Ext.refl _ | with_reducible refine Ext.drew ?_ | with_reducible refine Ext.alloc ?_ _)) HO0.out) ⟨_, 0, none⟩ 1 1 [.int .u64 (z : Int)] (by rfl) (by rfl) (World.news_of_block (by first | exact heap_alloc_new _ _ | exact at_drew (heap_alloc_new _ _))) (by simp [Value.oneCell']) (by decide) (by unfold maxLen; omega) (by omega) (by simp; omega) _ rfl ?_
     intro g cap w5 hown5 hgrow5 hat5 hlt5
     have HT5 : Hid (Turn (fun b => lH (.slice va j vc) = some b) wr w5) := Turn.grown (Turn.of_ext (by repeat (first | with_reducible exact Ext.refl _ | with_reducible refine Ext.drew ?_ | with_reducible refine Ext.alloc ?_ _))) hgrow5 (fun q hq _ => hq)
     have HOW : Hid (w5.ownsRow W.heap.size 146 1 (.slice (some ⟨g, 0, none⟩) (j + 1) cap) (j + 1) (_ ++ [.int .u64 (z : Int)])) := hown5
     have HAT : Hid (lH (.slice va j vc) = some g \/ wr.heap.size <= g) := by
      rcases hat5 with h | h
      ·exact .inl h
      ·exact .inr (by rw [h]; exact (Turn.of_ext (by repeat (first | with_reducible exact Ext.refl _ | with_reducible refine Ext.drew ?_ | with_reducible refine Ext.alloc ?_ _)) : Turn (fun _ => False) wr _).size)
     have HB5 : Hid _ := HT5.out.ref HB.out (fun e => HNR0.out e)
     have y1b : w5.cell? ⟨rb, 0, none⟩ = some (.slice va j vc) := cell_at HB5.out rfl
     have f1b := frozen_row HB5.out 0
     refine hK.out _ _ trivial (fun hHeld => ?_)
     clear hK K hown5 hgrow5 hat5
     try simp only [Act.put, lA, lB, lC, lD, lE, lF]
     refine zT 16 hHeld ?_
     refine wpAnyH_ready (rs := [17]) (by kernel_rfl) (by simp) ?_
     refine AllReadyH.cons (o := _) rfl (fun K hK => ?_) AllReadyH.nil
     (try simp only [lA, lB, lC])
     go_simp
     have hB6 : (w5.setCell ⟨rb, 0, none⟩ (.slice (some ⟨g, 0, none⟩) (j + 1) cap)).heap[rb]? = some (.cells #[.slice (some ⟨g, 0, none⟩) (j + 1) cap, .slice vb 0 vd] 176 (0, 0)) := setCell_row HB5.out _
     have hgP : g ≠ rb := by
      rcases HAT.out with h | h
      ·exact fun e => HNR0.out (by rw [<- e]; exact h)
      ·have := (Array.getElem?_eq_some_iff.1 HB.out).1
       omega
     have hO6 := owns_setCell HOW.out (a := ⟨rb, 0, none⟩) (by simpa [lH] using hgP) (.slice (some ⟨g, 0, none⟩) (j + 1) cap)
     have hO7 := owns_setCell (HT5.out.owns HO1.out (fun b hb e => HAP.out b e hb)) (a := ⟨rb, 0, none⟩) (fun e => HNR1.out e) (.slice (some ⟨g, 0, none⟩) (j + 1) cap)
     have hT6 : Turn (fun b => b = rb) W (w5.setCell ⟨rb, 0, none⟩ (.slice (some ⟨g, 0, none⟩) (j + 1) cap)) := Turn.setCell (S := fun b => b = rb) (p := ⟨rb, 0, none⟩) (HTW.out.trans' HT5.out (fun b hb e => by have := (World.ownsRow.lt HO0.out b e).1; omega)) (fun _ => rfl) _
     have hap6 : g ≠ rb /\ ∀ b, lH (.slice vb 0 vd) = some b -> b ≠ g := ⟨hgP, fun b hb e => by
      subst e
      rcases HAT.out with h | h
      ·exact HAP.out b h hb
      ·have := (World.ownsRow.lt HO1.out b hb).2
       omega⟩
     have HF6 : Hid _ := And.intro hB6 (And.intro hO6 (And.intro hO7 (And.intro hT6 hap6)))
     refine hK.out _ _ trivial (fun hHeld => ?_)
     clear hK K hB6 hgP hO6 hO7 hT6 hap6 y1b f1b hHeld
     try simp only [Act.put, lA, lB, lC, lD, lE, lF]
     refine wpAnyH_done (by kernel_rfl) ?_ _
     generalize World.setCell w5 _ _ = w6 at HF6 ⊢
     go_wp2
     go_roundw
     case rel =>
      have hr := HRel0.out w6 g cap HF6.out.2.1 HF6.out.2.2.1 HF6.out.2.2.2.2
      exact ⟨j + 1, _, _, by omega, by go_num, HF6.out.1, hr.1, hr.2.1, hr.2.2, HF6.out.2.2.2.1⟩
     case measure => simp [intOf]; omega
    ·skip
     (try simp only [lA, lB, lC])
     go_simp
     refine (take8_c (s.extract at_ bt) (by have := HES.out; omega) _).mono ?_
     rintro e w4 ⟨rfl, rfl⟩
     simp only [HBE.out]
     refine hK.out _ _ trivial (fun hHeld => ?_)
     clear hK K
     try simp only [Act.put, lA, lB, lC, lD, lE, lF]
     refine wpAnyH_ready (rs := [7, 14]) (by kernel_rfl) (by simp) ?_
     refine AllReadyH.cons (o := _) rfl (fun K hK => ?_) (AllReadyH.cons (o := _) rfl (fun K hK => ?_) AllReadyH.nil)
     ·skip
      (try simp only [lA, lB, lC])
      go_simp
      refine hK.out _ _ trivial (fun hHeld => ?_)
      clear hK K
      try simp only [Act.put, lA, lB, lC, lD, lE, lF]
      refine wpAnyH_ready (rs := [14]) (by kernel_rfl) (by simp) ?_
      refine AllReadyH.cons (o := _) rfl (fun K hK => ?_) AllReadyH.nil
      (try simp only [lA, lB, lC])
      go_simp
      refine hK.out _ _ trivial (fun hHeld => ?_)
      clear hK K
      try simp only [Act.put, lA, lB, lC, lD, lE, lF]
      refine wpAnyH_ready (rs := [15]) (by kernel_rfl) (by simp) ?_
      refine AllReadyH.cons (o := _) rfl (fun K hK => ?_) AllReadyH.nil
      refine step_append_lies _ (by rfl) _ _ 31 (by rfl) W.heap.size 146 i0 _ 1 8 Tryz.underlying31 hi hz0 hz1 hz2 (by rfl) (by decide) (.slice va j vc) j _ (by rfl) (Ext.owns (by repeat (first | with_reducible exact Ext.refl _ | with_reducible refine Ext.drew ?_ | with_reducible refine Ext.alloc ?_ _)) HO0.out) ⟨_, 0, none⟩ 1 1 [.int .u64 (z : Int)] (by rfl) (by rfl) (World.news_of_block (by first | exact heap_alloc_new _ _ | exact at_drew (heap_alloc_new _ _))) (by simp [Value.oneCell']) (by decide) (by unfold maxLen; omega) (by omega) (by simp; omega) _ rfl ?_
      intro g cap w5 hown5 hgrow5 hat5 hlt5
      have HT5 : Hid (Turn (fun b => lH (.slice va j vc) = some b) wr w5) := Turn.grown (Turn.of_ext (by repeat (first | with_reducible exact Ext.refl _ | with_reducible refine Ext.drew ?_ | with_reducible refine Ext.alloc ?_ _))) hgrow5 (fun q hq _ => hq)
      have HOW : Hid (w5.ownsRow W.heap.size 146 1 (.slice (some ⟨g, 0, none⟩) (j + 1) cap) (j + 1) (_ ++ [.int .u64 (z : Int)])) := hown5
      have HAT : Hid (lH (.slice va j vc) = some g \/ wr.heap.size <= g) := by
       rcases hat5 with h | h
       ·exact .inl h
       ·exact .inr (by rw [h]; exact (Turn.of_ext (by repeat (first | with_reducible exact Ext.refl _ | with_reducible refine Ext.drew ?_ | with_reducible refine Ext.alloc ?_ _)) : Turn (fun _ => False) wr _).size)
      have HB5 : Hid _ := HT5.out.ref HB.out (fun e => HNR0.out e)
      have y1b : w5.cell? ⟨rb, 0, none⟩ = some (.slice va j vc) := cell_at HB5.out rfl
      have f1b := frozen_row HB5.out 0
      refine hK.out _ _ trivial (fun hHeld => ?_)
      clear hK K hown5 hgrow5 hat5
      try simp only [Act.put, lA, lB, lC, lD, lE, lF]
      refine zT 16 hHeld ?_
      refine wpAnyH_ready (rs := [17]) (by kernel_rfl) (by simp) ?_
      refine AllReadyH.cons (o := _) rfl (fun K hK => ?_) AllReadyH.nil
      (try simp only [lA, lB, lC])
      go_simp
      have hB6 : (w5.setCell ⟨rb, 0, none⟩ (.slice (some ⟨g, 0, none⟩) (j + 1) cap)).heap[rb]? = some (.cells #[.slice (some ⟨g, 0, none⟩) (j + 1) cap, .slice vb 0 vd] 176 (0, 0)) := setCell_row HB5.out _
      have hgP : g ≠ rb := by
       rcases HAT.out with h | h
       ·exact fun e => HNR0.out (by rw [<- e]; exact h)
       ·have := (Array.getElem?_eq_some_iff.1 HB.out).1
        omega
      have hO6 := owns_setCell HOW.out (a := ⟨rb, 0, none⟩) (by simpa [lH] using hgP) (.slice (some ⟨g, 0, none⟩) (j + 1) cap)
      have hO7 := owns_setCell (HT5.out.owns HO1.out (fun b hb e => HAP.out b e hb)) (a := ⟨rb, 0, none⟩) (fun e => HNR1.out e) (.slice (some ⟨g, 0, none⟩) (j + 1) cap)
      have hT6 : Turn (fun b => b = rb) W (w5.setCell ⟨rb, 0, none⟩ (.slice (some ⟨g, 0, none⟩) (j + 1) cap)) := Turn.setCell (S := fun b => b = rb) (p := ⟨rb, 0, none⟩) (HTW.out.trans' HT5.out (fun b hb e => by have := (World.ownsRow.lt HO0.out b e).1; omega)) (fun _ => rfl) _
      have hap6 : g ≠ rb /\ ∀ b, lH (.slice vb 0 vd) = some b -> b ≠ g := ⟨hgP, fun b hb e => by
       subst e
       rcases HAT.out with h | h
       ·exact HAP.out b h hb
       ·have := (World.ownsRow.lt HO1.out b hb).2
        omega⟩
      have HF6 : Hid _ := And.intro hB6 (And.intro hO6 (And.intro hO7 (And.intro hT6 hap6)))
      refine hK.out _ _ trivial (fun hHeld => ?_)
      clear hK K hB6 hgP hO6 hO7 hT6 hap6 y1b f1b hHeld
      try simp only [Act.put, lA, lB, lC, lD, lE, lF]
      refine wpAnyH_done (by kernel_rfl) ?_ _
      generalize World.setCell w5 _ _ = w6 at HF6 ⊢
      go_wp2
      go_roundw
      case rel =>
       have hr := HRel0.out w6 g cap HF6.out.2.1 HF6.out.2.2.1 HF6.out.2.2.2.2
       exact ⟨j + 1, _, _, by omega, by go_num, HF6.out.1, hr.1, hr.2.1, hr.2.2, HF6.out.2.2.2.1⟩
      case measure => simp [intOf]; omega
     ·skip
      (try simp only [lA, lB, lC])
      go_simp
      refine hK.out _ _ trivial (fun hHeld => ?_)
      clear hK K
      try simp only [Act.put, lA, lB, lC, lD, lE, lF]
      refine wpAnyH_ready (rs := [7]) (by kernel_rfl) (by simp) ?_
      refine AllReadyH.cons (o := _) rfl (fun K hK => ?_) AllReadyH.nil
      (try simp only [lA, lB, lC])
      go_simp
      refine hK.out _ _ trivial (fun hHeld => ?_)
      clear hK K
      try simp only [Act.put, lA, lB, lC, lD, lE, lF]
      refine wpAnyH_ready (rs := [15]) (by kernel_rfl) (by simp) ?_
      refine AllReadyH.cons (o := _) rfl (fun K hK => ?_) AllReadyH.nil
      refine step_append_lies _ (by rfl) _ _ 31 (by rfl) W.heap.size 146 i0 _ 1 8 Tryz.underlying31 hi hz0 hz1 hz2 (by rfl) (by decide) (.slice va j vc) j _ (by rfl) (Ext.owns (by repeat (first | with_reducible exact Ext.refl _ | with_reducible refine Ext.drew ?_ | with_reducible refine Ext.alloc ?_ _)) HO0.out) ⟨_, 0, none⟩ 1 1 [.int .u64 (z : Int)] (by rfl) (by rfl) (World.news_of_block (by first | exact heap_alloc_new _ _ | exact at_drew (heap_alloc_new _ _))) (by simp [Value.oneCell']) (by decide) (by unfold maxLen; omega) (by omega) (by simp; omega) _ rfl ?_
      intro g cap w5 hown5 hgrow5 hat5 hlt5
      have HT5 : Hid (Turn (fun b => lH (.slice va j vc) = some b) wr w5) := Turn.grown (Turn.of_ext (by repeat (first | with_reducible exact Ext.refl _ | with_reducible refine Ext.drew ?_ | with_reducible refine Ext.alloc ?_ _))) hgrow5 (fun q hq _ => hq)
      have HOW : Hid (w5.ownsRow W.heap.size 146 1 (.slice (some ⟨g, 0, none⟩) (j + 1) cap) (j + 1) (_ ++ [.int .u64 (z : Int)])) := hown5
      have HAT : Hid (lH (.slice va j vc) = some g \/ wr.heap.size <= g) := by
       rcases hat5 with h | h
       ·exact .inl h
       ·exact .inr (by rw [h]; exact (Turn.of_ext (by repeat (first | with_reducible exact Ext.refl _ | with_reducible refine Ext.drew ?_ | with_reducible refine Ext.alloc ?_ _)) : Turn (fun _ => False) wr _).size)
      have HB5 : Hid _ := HT5.out.ref HB.out (fun e => HNR0.out e)
      have y1b : w5.cell? ⟨rb, 0, none⟩ = some (.slice va j vc) := cell_at HB5.out rfl
      have f1b := frozen_row HB5.out 0
      refine hK.out _ _ trivial (fun hHeld => ?_)
      clear hK K hown5 hgrow5 hat5
      try simp only [Act.put, lA, lB, lC, lD, lE, lF]
      refine zT 16 hHeld ?_
      refine wpAnyH_ready (rs := [17]) (by kernel_rfl) (by simp) ?_
      refine AllReadyH.cons (o := _) rfl (fun K hK => ?_) AllReadyH.nil
      (try simp only [lA, lB, lC])
      go_simp
      have hB6 : (w5.setCell ⟨rb, 0, none⟩ (.slice (some ⟨g, 0, none⟩) (j + 1) cap)).heap[rb]? = some (.cells #[.slice (some ⟨g, 0, none⟩) (j + 1) cap, .slice vb 0 vd] 176 (0, 0)) := setCell_row HB5.out _
      have hgP : g ≠ rb := by
       rcases HAT.out with h | h
       ·exact fun e => HNR0.out (by rw [<- e]; exact h)
       ·have := (Array.getElem?_eq_some_iff.1 HB.out).1
        omega
      have hO6 := owns_setCell HOW.out (a := ⟨rb, 0, none⟩) (by simpa [lH] using hgP) (.slice (some ⟨g, 0, none⟩) (j + 1) cap)
      have hO7 := owns_setCell (HT5.out.owns HO1.out (fun b hb e => HAP.out b e hb)) (a := ⟨rb, 0, none⟩) (fun e => HNR1.out e) (.slice (some ⟨g, 0, none⟩) (j + 1) cap)
      have hT6 : Turn (fun b => b = rb) W (w5.setCell ⟨rb, 0, none⟩ (.slice (some ⟨g, 0, none⟩) (j + 1) cap)) := Turn.setCell (S := fun b => b = rb) (p := ⟨rb, 0, none⟩) (HTW.out.trans' HT5.out (fun b hb e => by have := (World.ownsRow.lt HO0.out b e).1; omega)) (fun _ => rfl) _
      have hap6 : g ≠ rb /\ ∀ b, lH (.slice vb 0 vd) = some b -> b ≠ g := ⟨hgP, fun b hb e => by
       subst e
       rcases HAT.out with h | h
       ·exact HAP.out b h hb
       ·have := (World.ownsRow.lt HO1.out b hb).2
        omega⟩
      have HF6 : Hid _ := And.intro hB6 (And.intro hO6 (And.intro hO7 (And.intro hT6 hap6)))
      refine hK.out _ _ trivial (fun hHeld => ?_)
      clear hK K hB6 hgP hO6 hO7 hT6 hap6 y1b f1b hHeld
      try simp only [Act.put, lA, lB, lC, lD, lE, lF]
      refine wpAnyH_done (by kernel_rfl) ?_ _
      generalize World.setCell w5 _ _ = w6 at HF6 ⊢
      go_wp2
      go_roundw
      case rel =>
       have hr := HRel0.out w6 g cap HF6.out.2.1 HF6.out.2.2.1 HF6.out.2.2.2.2
       exact ⟨j + 1, _, _, by omega, by go_num, HF6.out.1, hr.1, hr.2.1, hr.2.2, HF6.out.2.2.2.1⟩
      case measure => simp [intOf]; omega
   ·have hq : Int.tdiv (j : Int) (L : Int) = 1 := by
     rw [Int.tdiv_eq_ediv_of_nonneg (by omega)]
     have h1 : (L : Int) <= j := by omega
     have : (j : Int) / (L : Int) = 1 := by
      rw [Int.ediv_eq_iff_of_pos (by omega)]
      omega
     exact this
    obtain ⟨t, ht⟩ : ∃ t, j - L = t := ⟨_, rfl⟩
    rw [Nat.min_eq_right (by omega)] at ho0
    rw [ht] at ho1
    have htl : t < L := by omega
    have HTJ : Hid (j = L + t) := by show _ = _; omega
    clear ht
    obtain ⟨va, vc, rfl⟩ := owns_slice ho0
    obtain ⟨vb, vd, rfl⟩ := owns_slice ho1
    have HO0 : Hid (wr.ownsRow W.heap.size 146 1 (.slice va L vc) L ((rawW D L).map (Value.int .u64))) := ho0
    have HO1 : Hid (wr.ownsRow W.heap.size 146 1 (.slice vb t vd) t (((rawW D j).drop L).map (Value.int .u64))) := ho1
    have HAP : Hid (∀ b, lH (.slice va L vc) = some b -> lH (.slice vb t vd) = some b -> False) := hap
    have HRel1 : Hid (∀ (w6 : World) (g cap : Nat), w6.ownsRow W.heap.size 146 1 (.slice (some ⟨g, 0, none⟩) (t + 1) cap) (t + 1) (((rawW D j).drop L).map (Value.int .u64) ++ [.int .u64 (z : Int)]) -> w6.ownsRow W.heap.size 146 1 (.slice va L vc) L ((rawW D L).map (Value.int .u64)) -> (g ≠ rb /\ ∀ b, lH (.slice va L vc) = some b -> b ≠ g) -> w6.ownsRow W.heap.size 146 1 (.slice va L vc) (min (j + 1) L) ((rawW D (min (j + 1) L)).map (Value.int .u64)) /\ w6.ownsRow W.heap.size 146 1 (.slice (some ⟨g, 0, none⟩) (t + 1) cap) (j + 1 - L) (((rawW D (j + 1)).drop L).map (Value.int .u64)) /\ ∀ b, lH (.slice va L vc) = some b -> lH (.slice (some ⟨g, 0, none⟩) (t + 1) cap) = some b -> False) := fun w6 g cap k1 k2 k3 => by
     have htj := HTJ.out
     refine ⟨?_, ?_, fun b e1 e2 => k3.2 b e1 (by simpa [lH] using e2.symm)⟩
     ·rw [Nat.min_eq_right (by omega)]; exact k2
     ·rw [show j + 1 - L = t + 1 by omega, HRW.out, List.drop_append_of_le_length (by rw [rawW_len]; omega), List.map_append]; exact k1
    clear ho0 ho1 hap
    go_wp2_with fail
    simp only [HA.out]
    have y0 : wr.cell? ⟨rb, 1, none⟩ = some (.slice vb t vd) := cell_at HB.out rfl
    refine wp_region_held_drew (S := (fun _ => True)) (by kernel_rfl) trivial (fun hHeld => ?_)
    refine zT 0 hHeld ?_
    refine zT 1 hHeld ?_
    refine zT 2 hHeld ?_
    refine zT 3 hHeld ?_
    refine zT 4 hHeld ?_
    refine zT 5 hHeld ?_
    refine zT 6 hHeld ?_
    refine zT 8 hHeld ?_
    refine zT 9 hHeld ?_
    refine zT 10 hHeld ?_
    refine zT 11 hHeld ?_
    refine zT 12 hHeld ?_
    refine wpAnyH_ready (rs := [7, 13]) (by kernel_rfl) (by simp) ?_
    refine AllReadyH.cons (o := _) rfl (fun K hK => ?_) (AllReadyH.cons (o := _) rfl (fun K hK => ?_) AllReadyH.nil)
    ·skip
     (try simp only [lA, lB, lC])
     go_simp
     refine hK.out _ _ trivial (fun hHeld => ?_)
     clear hK K
     try simp only [Act.put, lA, lB, lC, lD, lE, lF]
     refine wpAnyH_ready (rs := [13]) (by kernel_rfl) (by simp) ?_
     refine AllReadyH.cons (o := _) rfl (fun K hK => ?_) AllReadyH.nil
     (try simp only [lA, lB, lC])
     go_simp
     refine (take8_c (s.extract at_ bt) (by have := HES.out; omega) _).mono ?_
     rintro e w4 ⟨rfl, rfl⟩
     simp only [HBE.out]
     refine hK.out _ _ trivial (fun hHeld => ?_)
     clear hK K
     try simp only [Act.put, lA, lB, lC, lD, lE, lF]
     refine wpAnyH_ready (rs := [14]) (by kernel_rfl) (by simp) ?_
     refine AllReadyH.cons (o := _) rfl (fun K hK => ?_) AllReadyH.nil
     (try simp only [lA, lB, lC])
     go_simp
     refine hK.out _ _ trivial (fun hHeld => ?_)
     clear hK K
     try simp only [Act.put, lA, lB, lC, lD, lE, lF]
     refine wpAnyH_ready (rs := [15]) (by kernel_rfl) (by simp) ?_
     refine AllReadyH.cons (o := _) rfl (fun K hK => ?_) AllReadyH.nil
     refine step_append_lies _ (by rfl) _ _ 31 (by rfl) W.heap.size 146 i0 _ 1 8 Tryz.underlying31 hi hz0 hz1 hz2 (by rfl) (by decide) (.slice vb t vd) t _ (by rfl) (Ext.owns (by repeat (first | with_reducible exact Ext.refl _ | with_reducible refine Ext.drew ?_ | with_reducible refine Ext.alloc ?_ _)) HO1.out) ⟨_, 0, none⟩ 1 1 [.int .u64 (z : Int)] (by rfl) (by rfl) (World.news_of_block (by first | exact heap_alloc_new _ _ | exact at_drew (heap_alloc_new _ _))) (by simp [Value.oneCell']) (by decide) (by unfold maxLen; omega) (by omega) (by simp; omega) _ rfl ?_
     intro g cap w5 hown5 hgrow5 hat5 hlt5
     have HT5 : Hid (Turn (fun b => lH (.slice vb t vd) = some b) wr w5) := Turn.grown (Turn.of_ext (by repeat (first | with_reducible exact Ext.refl _ | with_reducible refine Ext.drew ?_ | with_reducible refine Ext.alloc ?_ _))) hgrow5 (fun q hq _ => hq)
     have HOW : Hid (w5.ownsRow W.heap.size 146 1 (.slice (some ⟨g, 0, none⟩) (t + 1) cap) (t + 1) (_ ++ [.int .u64 (z : Int)])) := hown5
     have HAT : Hid (lH (.slice vb t vd) = some g \/ wr.heap.size <= g) := by
      rcases hat5 with h | h
      ·exact .inl h
      ·exact .inr (by rw [h]; exact (Turn.of_ext (by repeat (first | with_reducible exact Ext.refl _ | with_reducible refine Ext.drew ?_ | with_reducible refine Ext.alloc ?_ _)) : Turn (fun _ => False) wr _).size)
     have HB5 : Hid _ := HT5.out.ref HB.out (fun e => HNR1.out e)
     have y1b : w5.cell? ⟨rb, 1, none⟩ = some (.slice vb t vd) := cell_at HB5.out rfl
     have f1b := frozen_row HB5.out 1
     refine hK.out _ _ trivial (fun hHeld => ?_)
     clear hK K hown5 hgrow5 hat5
     try simp only [Act.put, lA, lB, lC, lD, lE, lF]
     refine zT 16 hHeld ?_
     refine wpAnyH_ready (rs := [17]) (by kernel_rfl) (by simp) ?_
     refine AllReadyH.cons (o := _) rfl (fun K hK => ?_) AllReadyH.nil
     (try simp only [lA, lB, lC])
     go_simp
     have hB6 : (w5.setCell ⟨rb, 1, none⟩ (.slice (some ⟨g, 0, none⟩) (t + 1) cap)).heap[rb]? = some (.cells #[.slice va L vc, .slice (some ⟨g, 0, none⟩) (t + 1) cap] 176 (0, 0)) := setCell_row HB5.out _
     have hgP : g ≠ rb := by
      rcases HAT.out with h | h
      ·exact fun e => HNR1.out (by rw [<- e]; exact h)
      ·have := (Array.getElem?_eq_some_iff.1 HB.out).1
       omega
     have hO6 := owns_setCell HOW.out (a := ⟨rb, 1, none⟩) (by simpa [lH] using hgP) (.slice (some ⟨g, 0, none⟩) (t + 1) cap)
     have hO7 := owns_setCell (HT5.out.owns HO0.out (fun b hb e => HAP.out b hb e)) (a := ⟨rb, 1, none⟩) (fun e => HNR0.out e) (.slice (some ⟨g, 0, none⟩) (t + 1) cap)
     have hT6 : Turn (fun b => b = rb) W (w5.setCell ⟨rb, 1, none⟩ (.slice (some ⟨g, 0, none⟩) (t + 1) cap)) := Turn.setCell (S := fun b => b = rb) (p := ⟨rb, 1, none⟩) (HTW.out.trans' HT5.out (fun b hb e => by have := (World.ownsRow.lt HO1.out b e).1; omega)) (fun _ => rfl) _
     have hap6 : g ≠ rb /\ ∀ b, lH (.slice va L vc) = some b -> b ≠ g := ⟨hgP, fun b hb e => by
      subst e
      rcases HAT.out with h | h
      ·exact HAP.out b hb h
      ·have := (World.ownsRow.lt HO0.out b hb).2
       omega⟩
     have HF6 : Hid _ := And.intro hB6 (And.intro hO6 (And.intro hO7 (And.intro hT6 hap6)))
     refine hK.out _ _ trivial (fun hHeld => ?_)
     clear hK K hB6 hgP hO6 hO7 hT6 hap6 y1b f1b hHeld
     try simp only [Act.put, lA, lB, lC, lD, lE, lF]
     refine wpAnyH_done (by kernel_rfl) ?_ _
     generalize World.setCell w5 _ _ = w6 at HF6 ⊢
     go_wp2
     go_roundw
     case rel =>
      have hr := HRel1.out w6 g cap HF6.out.2.1 HF6.out.2.2.1 HF6.out.2.2.2.2
      exact ⟨j + 1, _, _, by omega, by go_num, HF6.out.1, hr.1, hr.2.1, hr.2.2, HF6.out.2.2.2.1⟩
     case measure => simp [intOf]; omega
    ·skip
     (try simp only [lA, lB, lC])
     go_simp
     refine (take8_c (s.extract at_ bt) (by have := HES.out; omega) _).mono ?_
     rintro e w4 ⟨rfl, rfl⟩
     simp only [HBE.out]
     refine hK.out _ _ trivial (fun hHeld => ?_)
     clear hK K
     try simp only [Act.put, lA, lB, lC, lD, lE, lF]
     refine wpAnyH_ready (rs := [7, 14]) (by kernel_rfl) (by simp) ?_
     refine AllReadyH.cons (o := _) rfl (fun K hK => ?_) (AllReadyH.cons (o := _) rfl (fun K hK => ?_) AllReadyH.nil)
     ·skip
      (try simp only [lA, lB, lC])
      go_simp
      refine hK.out _ _ trivial (fun hHeld => ?_)
      clear hK K
      try simp only [Act.put, lA, lB, lC, lD, lE, lF]
      refine wpAnyH_ready (rs := [14]) (by kernel_rfl) (by simp) ?_
      refine AllReadyH.cons (o := _) rfl (fun K hK => ?_) AllReadyH.nil
      (try simp only [lA, lB, lC])
      go_simp
      refine hK.out _ _ trivial (fun hHeld => ?_)
      clear hK K
      try simp only [Act.put, lA, lB, lC, lD, lE, lF]
      refine wpAnyH_ready (rs := [15]) (by kernel_rfl) (by simp) ?_
      refine AllReadyH.cons (o := _) rfl (fun K hK => ?_) AllReadyH.nil
      refine step_append_lies _ (by rfl) _ _ 31 (by rfl) W.heap.size 146 i0 _ 1 8 Tryz.underlying31 hi hz0 hz1 hz2 (by rfl) (by decide) (.slice vb t vd) t _ (by rfl) (Ext.owns (by repeat (first | with_reducible exact Ext.refl _ | with_reducible refine Ext.drew ?_ | with_reducible refine Ext.alloc ?_ _)) HO1.out) ⟨_, 0, none⟩ 1 1 [.int .u64 (z : Int)] (by rfl) (by rfl) (World.news_of_block (by first | exact heap_alloc_new _ _ | exact at_drew (heap_alloc_new _ _))) (by simp [Value.oneCell']) (by decide) (by unfold maxLen; omega) (by omega) (by simp; omega) _ rfl ?_
      intro g cap w5 hown5 hgrow5 hat5 hlt5
      have HT5 : Hid (Turn (fun b => lH (.slice vb t vd) = some b) wr w5) := Turn.grown (Turn.of_ext (by repeat (first | with_reducible exact Ext.refl _ | with_reducible refine Ext.drew ?_ | with_reducible refine Ext.alloc ?_ _))) hgrow5 (fun q hq _ => hq)
      have HOW : Hid (w5.ownsRow W.heap.size 146 1 (.slice (some ⟨g, 0, none⟩) (t + 1) cap) (t + 1) (_ ++ [.int .u64 (z : Int)])) := hown5
      have HAT : Hid (lH (.slice vb t vd) = some g \/ wr.heap.size <= g) := by
       rcases hat5 with h | h
       ·exact .inl h
       ·exact .inr (by rw [h]; exact (Turn.of_ext (by repeat (first | with_reducible exact Ext.refl _ | with_reducible refine Ext.drew ?_ | with_reducible refine Ext.alloc ?_ _)) : Turn (fun _ => False) wr _).size)
      have HB5 : Hid _ := HT5.out.ref HB.out (fun e => HNR1.out e)
      have y1b : w5.cell? ⟨rb, 1, none⟩ = some (.slice vb t vd) := cell_at HB5.out rfl
      have f1b := frozen_row HB5.out 1
      refine hK.out _ _ trivial (fun hHeld => ?_)
      clear hK K hown5 hgrow5 hat5
      try simp only [Act.put, lA, lB, lC, lD, lE, lF]
      refine zT 16 hHeld ?_
      refine wpAnyH_ready (rs := [17]) (by kernel_rfl) (by simp) ?_
      refine AllReadyH.cons (o := _) rfl (fun K hK => ?_) AllReadyH.nil
      (try simp only [lA, lB, lC])
      go_simp
      have hB6 : (w5.setCell ⟨rb, 1, none⟩ (.slice (some ⟨g, 0, none⟩) (t + 1) cap)).heap[rb]? = some (.cells #[.slice va L vc, .slice (some ⟨g, 0, none⟩) (t + 1) cap] 176 (0, 0)) := setCell_row HB5.out _
      have hgP : g ≠ rb := by
       rcases HAT.out with h | h
       ·exact fun e => HNR1.out (by rw [<- e]; exact h)
       ·have := (Array.getElem?_eq_some_iff.1 HB.out).1
        omega
      have hO6 := owns_setCell HOW.out (a := ⟨rb, 1, none⟩) (by simpa [lH] using hgP) (.slice (some ⟨g, 0, none⟩) (t + 1) cap)
      have hO7 := owns_setCell (HT5.out.owns HO0.out (fun b hb e => HAP.out b hb e)) (a := ⟨rb, 1, none⟩) (fun e => HNR0.out e) (.slice (some ⟨g, 0, none⟩) (t + 1) cap)
      have hT6 : Turn (fun b => b = rb) W (w5.setCell ⟨rb, 1, none⟩ (.slice (some ⟨g, 0, none⟩) (t + 1) cap)) := Turn.setCell (S := fun b => b = rb) (p := ⟨rb, 1, none⟩) (HTW.out.trans' HT5.out (fun b hb e => by have := (World.ownsRow.lt HO1.out b e).1; omega)) (fun _ => rfl) _
      have hap6 : g ≠ rb /\ ∀ b, lH (.slice va L vc) = some b -> b ≠ g := ⟨hgP, fun b hb e => by
       subst e
       rcases HAT.out with h | h
       ·exact HAP.out b hb h
       ·have := (World.ownsRow.lt HO0.out b hb).2
        omega⟩
      have HF6 : Hid _ := And.intro hB6 (And.intro hO6 (And.intro hO7 (And.intro hT6 hap6)))
      refine hK.out _ _ trivial (fun hHeld => ?_)
      clear hK K hB6 hgP hO6 hO7 hT6 hap6 y1b f1b hHeld
      try simp only [Act.put, lA, lB, lC, lD, lE, lF]
      refine wpAnyH_done (by kernel_rfl) ?_ _
      generalize World.setCell w5 _ _ = w6 at HF6 ⊢
      go_wp2
      go_roundw
      case rel =>
       have hr := HRel1.out w6 g cap HF6.out.2.1 HF6.out.2.2.1 HF6.out.2.2.2.2
       exact ⟨j + 1, _, _, by omega, by go_num, HF6.out.1, hr.1, hr.2.1, hr.2.2, HF6.out.2.2.2.1⟩
      case measure => simp [intOf]; omega
     ·skip
      (try simp only [lA, lB, lC])
      go_simp
      refine hK.out _ _ trivial (fun hHeld => ?_)
      clear hK K
      try simp only [Act.put, lA, lB, lC, lD, lE, lF]
      refine wpAnyH_ready (rs := [7]) (by kernel_rfl) (by simp) ?_
      refine AllReadyH.cons (o := _) rfl (fun K hK => ?_) AllReadyH.nil
      (try simp only [lA, lB, lC])
      go_simp
      refine hK.out _ _ trivial (fun hHeld => ?_)
      clear hK K
      try simp only [Act.put, lA, lB, lC, lD, lE, lF]
      refine wpAnyH_ready (rs := [15]) (by kernel_rfl) (by simp) ?_
      refine AllReadyH.cons (o := _) rfl (fun K hK => ?_) AllReadyH.nil
      refine step_append_lies _ (by rfl) _ _ 31 (by rfl) W.heap.size 146 i0 _ 1 8 Tryz.underlying31 hi hz0 hz1 hz2 (by rfl) (by decide) (.slice vb t vd) t _ (by rfl) (Ext.owns (by repeat (first | with_reducible exact Ext.refl _ | with_reducible refine Ext.drew ?_ | with_reducible refine Ext.alloc ?_ _)) HO1.out) ⟨_, 0, none⟩ 1 1 [.int .u64 (z : Int)] (by rfl) (by rfl) (World.news_of_block (by first | exact heap_alloc_new _ _ | exact at_drew (heap_alloc_new _ _))) (by simp [Value.oneCell']) (by decide) (by unfold maxLen; omega) (by omega) (by simp; omega) _ rfl ?_
      intro g cap w5 hown5 hgrow5 hat5 hlt5
      have HT5 : Hid (Turn (fun b => lH (.slice vb t vd) = some b) wr w5) := Turn.grown (Turn.of_ext (by repeat (first | with_reducible exact Ext.refl _ | with_reducible refine Ext.drew ?_ | with_reducible refine Ext.alloc ?_ _))) hgrow5 (fun q hq _ => hq)
      have HOW : Hid (w5.ownsRow W.heap.size 146 1 (.slice (some ⟨g, 0, none⟩) (t + 1) cap) (t + 1) (_ ++ [.int .u64 (z : Int)])) := hown5
      have HAT : Hid (lH (.slice vb t vd) = some g \/ wr.heap.size <= g) := by
       rcases hat5 with h | h
       ·exact .inl h
       ·exact .inr (by rw [h]; exact (Turn.of_ext (by repeat (first | with_reducible exact Ext.refl _ | with_reducible refine Ext.drew ?_ | with_reducible refine Ext.alloc ?_ _)) : Turn (fun _ => False) wr _).size)
      have HB5 : Hid _ := HT5.out.ref HB.out (fun e => HNR1.out e)
      have y1b : w5.cell? ⟨rb, 1, none⟩ = some (.slice vb t vd) := cell_at HB5.out rfl
      have f1b := frozen_row HB5.out 1
      refine hK.out _ _ trivial (fun hHeld => ?_)
      clear hK K hown5 hgrow5 hat5
      try simp only [Act.put, lA, lB, lC, lD, lE, lF]
      refine zT 16 hHeld ?_
      refine wpAnyH_ready (rs := [17]) (by kernel_rfl) (by simp) ?_
      refine AllReadyH.cons (o := _) rfl (fun K hK => ?_) AllReadyH.nil
      (try simp only [lA, lB, lC])
      go_simp
      have hB6 : (w5.setCell ⟨rb, 1, none⟩ (.slice (some ⟨g, 0, none⟩) (t + 1) cap)).heap[rb]? = some (.cells #[.slice va L vc, .slice (some ⟨g, 0, none⟩) (t + 1) cap] 176 (0, 0)) := setCell_row HB5.out _
      have hgP : g ≠ rb := by
       rcases HAT.out with h | h
       ·exact fun e => HNR1.out (by rw [<- e]; exact h)
       ·have := (Array.getElem?_eq_some_iff.1 HB.out).1
        omega
      have hO6 := owns_setCell HOW.out (a := ⟨rb, 1, none⟩) (by simpa [lH] using hgP) (.slice (some ⟨g, 0, none⟩) (t + 1) cap)
      have hO7 := owns_setCell (HT5.out.owns HO0.out (fun b hb e => HAP.out b hb e)) (a := ⟨rb, 1, none⟩) (fun e => HNR0.out e) (.slice (some ⟨g, 0, none⟩) (t + 1) cap)
      have hT6 : Turn (fun b => b = rb) W (w5.setCell ⟨rb, 1, none⟩ (.slice (some ⟨g, 0, none⟩) (t + 1) cap)) := Turn.setCell (S := fun b => b = rb) (p := ⟨rb, 1, none⟩) (HTW.out.trans' HT5.out (fun b hb e => by have := (World.ownsRow.lt HO1.out b e).1; omega)) (fun _ => rfl) _
      have hap6 : g ≠ rb /\ ∀ b, lH (.slice va L vc) = some b -> b ≠ g := ⟨hgP, fun b hb e => by
       subst e
       rcases HAT.out with h | h
       ·exact HAP.out b hb h
       ·have := (World.ownsRow.lt HO0.out b hb).2
        omega⟩
      have HF6 : Hid _ := And.intro hB6 (And.intro hO6 (And.intro hO7 (And.intro hT6 hap6)))
      refine hK.out _ _ trivial (fun hHeld => ?_)
      clear hK K hB6 hgP hO6 hO7 hT6 hap6 y1b f1b hHeld
      try simp only [Act.put, lA, lB, lC, lD, lE, lF]
      refine wpAnyH_done (by kernel_rfl) ?_ _
      generalize World.setCell w5 _ _ = w6 at HF6 ⊢
      go_wp2
      go_roundw
      case rel =>
       have hr := HRel1.out w6 g cap HF6.out.2.1 HF6.out.2.2.1 HF6.out.2.2.2.2
       exact ⟨j + 1, _, _, by omega, by go_num, HF6.out.1, hr.1, hr.2.1, hr.2.2, HF6.out.2.2.2.1⟩
      case measure => simp [intOf]; omega
  ·have hin : ¬ (j : Int) < 2 * (L : Int) := by omega
   have hjj : j = 2 * L := by omega
   rw [hjj, Nat.min_eq_right (by omega)] at ho0
   rw [hjj, show 2 * L - L = L by omega] at ho1
   obtain ⟨a0, c0, rfl⟩ : ∃ a0 c0, v0 = .slice (some ⟨a0, 0, none⟩) L c0 := by
    rcases owns_form ho0 with ⟨_, h, _⟩ | ⟨g, cap, h, _⟩
    ·omega
    ·exact ⟨g, cap, h⟩
   obtain ⟨a1, c1, rfl⟩ : ∃ a1 c1, v1 = .slice (some ⟨a1, 0, none⟩) L c1 := by
    rcases owns_form ho1 with ⟨_, h, _⟩ | ⟨g, cap, h, _⟩
    ·omega
    ·exact ⟨g, cap, h⟩
   have HO0 : Hid (wr.ownsRow W.heap.size 146 1 (.slice (some ⟨a0, 0, none⟩) L c0) L ((rawW D L).map (Value.int .u64))) := ho0
   have HO1 : Hid (wr.ownsRow W.heap.size 146 1 (.slice (some ⟨a1, 0, none⟩) L c1) L (((rawW D (2 * L)).drop L).map (Value.int .u64))) := ho1
   have b0 : wr.cell? ⟨rb, 0, none⟩ = some (.slice (some ⟨a0, 0, none⟩) L c0) := cell_at HB.out rfl
   have b1 : wr.cell? ⟨rb, 1, none⟩ = some (.slice (some ⟨a1, 0, none⟩) L c1) := cell_at HB.out rfl
   have f0 := frozen_row HB.out 0
   have f1 := frozen_row HB.out 1
   clear ho0 ho1 hap hb hjj hlt2 hj
   go_wp2
   have hb1 : ((wr.setCell ⟨rb, 0, none⟩ (.slice (some ⟨a0, 0, none⟩) L c0)).setCell ⟨rb, 1, none⟩ (.slice (some ⟨a1, 0, none⟩) L c1)).heap[rb]? = some (.cells #[.slice (some ⟨a0, 0, none⟩) L c0, .slice (some ⟨a1, 0, none⟩) L c1] 176 (0, 0)) := setCell_row (setCell_row HB.out _) _
   have k0 := cell_at hb1 (i := 0) rfl
   have k1 := cell_at hb1 (i := 1) rfl
   have hT6 : Turn (fun b => b = rb) W ((wr.setCell ⟨rb, 0, none⟩ (.slice (some ⟨a0, 0, none⟩) L c0)).setCell ⟨rb, 1, none⟩ (.slice (some ⟨a1, 0, none⟩) L c1)) := Turn.setCell (S := fun b => b = rb) (p := ⟨rb, 1, none⟩) (Turn.setCell (S := fun b => b = rb) (p := ⟨rb, 0, none⟩) HTW.out (fun _ => rfl) _) (fun _ => rfl) _
   have hO0 := owns_setCell (owns_setCell HO0.out (a := ⟨rb, 0, none⟩) (fun e => HNR0.out e) (.slice (some ⟨a0, 0, none⟩) L c0)) (a := ⟨rb, 1, none⟩) (fun e => HNR0.out e) (.slice (some ⟨a1, 0, none⟩) L c1)
   have hO1 := owns_setCell (owns_setCell HO1.out (a := ⟨rb, 0, none⟩) (fun e => HNR1.out e) (.slice (some ⟨a0, 0, none⟩) L c0)) (a := ⟨rb, 1, none⟩) (fun e => HNR1.out e) (.slice (some ⟨a1, 0, none⟩) L c1)
   generalize World.setCell (World.setCell wr _ _) _ _ = w6 at hb1 k0 k1 hT6 hO0 hO1 ⊢
   refine bodyPost_ret (v := .tuple #[.agg #[.slice (some ⟨a0, 0, none⟩) L c0, .slice (some ⟨a1, 0, none⟩) L c1], .int .i64 (1 + 2 * (L : Int) * 8)]) (by simp [results, Tryz.results186, go_sem, k0, k1]) rfl ⟨a0, c0, a1, c1, rfl, ?_, ?_, ?_⟩
   ·rw [<- List.map_take, rawW_take]
    exact owns_base hO0 HXW.out.le
   ·rw [<- List.map_drop]
    exact owns_base hO1 HXW.out.le
   ·exact Turn.ext ((Turn.of_ext (S := fun _ => False) HXW.out).trans' hT6 (fun b hb e => by have := HRB.out; omega))
end
end Go.Proofs.YtmnjhhachdlmkaaGreat
