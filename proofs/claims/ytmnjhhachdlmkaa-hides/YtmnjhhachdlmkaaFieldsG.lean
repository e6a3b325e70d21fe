import Derived.Test.YtmnjhhachdlmkaaFieldsA
namespace Go.Proofs.Ytmnjhhachdlmkaa
open Go.RowKit

/-- A new list of places. -/
def PS (w : World) (v : Value) (n : Nat) (ps : List Addr) : Prop := ∃ g t arr, v = .slice (some ⟨g, 0, none⟩) n n ∧ w.heap[g]? = some (.cells arr t (0, 0)) ∧ arr = (ps.map fun p => Value.pointer (some p)).toArray
theorem PS.ext {w w' : World} {v : Value} {n : Nat} {ps : List Addr} (h : PS w v n ps) (hx : Ext w w') : PS w' v n ps := by
  obtain ⟨g, t, arr, h1, h2, h3⟩ := h
  exact ⟨g, t, arr, h1, hx.block h2, h3⟩
/-- A list of fields that was made. -/
def RW (w : World) (v : Value) (n : Nat) (xs : List Value) : Prop := ∃ g cap, v = .slice (some ⟨g, 0, none⟩) n cap ∧ w.ownsRow 0 80 3 (.slice (some ⟨g, 0, none⟩) n cap) n xs
theorem RW.ext {w w' : World} {v : Value} {n : Nat} {xs : List Value} (h : RW w v n xs) (hx : Ext w w') : RW w' v n xs := by
  obtain ⟨g, cap, h1, h2⟩ := h
  exact ⟨g, cap, h1, hx.owns h2⟩

def frF (b : Nat) (v6 v7 v11 v18 v19 v23 v24 : Value) : Act := { tmps := #[.pointer (some ⟨b, 0, none⟩), undef, .slice none 0 0, .pointer (some ⟨b, 0, none⟩), .pointer (some ⟨b, 0, none⟩), .pointer (some ⟨b, 0, none⟩), v6, v7, .pointer (some ⟨b, 0, none⟩), .pointer (some ⟨b, 0, none⟩), .pointer (some ⟨b, 1, none⟩), v11, .pointer (some ⟨b, 0, none⟩), .pointer (some ⟨b, 0, none⟩), .pointer (some ⟨b, 5, none⟩), .pointer (some ⟨b, 0, none⟩), .pointer (some ⟨b, 0, none⟩), .pointer (some ⟨b, 6, none⟩), v18, v19, .pointer (some ⟨b, 0, none⟩), .pointer (some ⟨b, 0, none⟩), .pointer (some ⟨b, 7, none⟩), v23, v24, undef, undef], defers := [] }

set_option maxRecDepth 100000 in
set_option maxHeartbeats 20000000 in
theorem fetchFields_c (b : Nat) (w : World) : Calls Try.prog 110 #[.pointer (some ⟨b, 0, none⟩)] w fun e w' => Made w 8 (fl b fetchL) e w' := by
  go_enter Try.func110, Try.ntmps110
  go_wp2
  refine wp_region_any (by kernel_rfl) ?_
  change wpAny _ _ _ _ _ _ _ (World.drew _)
  refine wpAny_take (i := 0) (v := .pointer (some ⟨b, 0, none⟩)) rfl (by kernel_rfl) (by kernel_rfl) (by kernel_rfl) (fun _ _ _ h => h) (Or.inl ⟨by rfl, by intro w; go_simp⟩) ?_
  refine wpAny_take (i := 1) (v := .pointer (some ⟨b, 0, none⟩)) rfl (by kernel_rfl) (by kernel_rfl) (by kernel_rfl) (fun _ _ _ h => h) (Or.inl ⟨by rfl, by intro w; go_simp⟩) ?_
  refine wpAny_take (i := 2) (v := .pointer (some ⟨b, 0, none⟩)) rfl (by kernel_rfl) (by kernel_rfl) (by kernel_rfl) (fun _ _ _ h => h) (Or.inl ⟨by rfl, by intro w; go_simp⟩) ?_
  refine wpAny_take (i := 5) (v := .pointer (some ⟨b, 0, none⟩)) rfl (by kernel_rfl) (by kernel_rfl) (by kernel_rfl) (fun _ _ _ h => h) (Or.inl ⟨by rfl, by intro w; go_simp⟩) ?_
  refine wpAny_take (i := 6) (v := .pointer (some ⟨b, 0, none⟩)) rfl (by kernel_rfl) (by kernel_rfl) (by kernel_rfl) (fun _ _ _ h => h) (Or.inl ⟨by rfl, by intro w; go_simp⟩) ?_
  refine wpAny_take (i := 7) (v := .pointer (some ⟨b, 1, none⟩)) rfl (by kernel_rfl) (by kernel_rfl) (by kernel_rfl) (fun _ _ _ h => h) (Or.inl ⟨by rfl, by intro w; go_simp⟩) ?_
  refine wpAny_take (i := 9) (v := .pointer (some ⟨b, 0, none⟩)) rfl (by kernel_rfl) (by kernel_rfl) (by kernel_rfl) (fun _ _ _ h => h) (Or.inl ⟨by rfl, by intro w; go_simp⟩) ?_
  refine wpAny_take (i := 10) (v := .pointer (some ⟨b, 0, none⟩)) rfl (by kernel_rfl) (by kernel_rfl) (by kernel_rfl) (fun _ _ _ h => h) (Or.inl ⟨by rfl, by intro w; go_simp⟩) ?_
  refine wpAny_take (i := 11) (v := .pointer (some ⟨b, 5, none⟩)) rfl (by kernel_rfl) (by kernel_rfl) (by kernel_rfl) (fun _ _ _ h => h) (Or.inl ⟨by rfl, by intro w; go_simp⟩) ?_
  refine wpAny_take (i := 12) (v := .pointer (some ⟨b, 0, none⟩)) rfl (by kernel_rfl) (by kernel_rfl) (by kernel_rfl) (fun _ _ _ h => h) (Or.inl ⟨by rfl, by intro w; go_simp⟩) ?_
  refine wpAny_take (i := 13) (v := .pointer (some ⟨b, 0, none⟩)) rfl (by kernel_rfl) (by kernel_rfl) (by kernel_rfl) (fun _ _ _ h => h) (Or.inl ⟨by rfl, by intro w; go_simp⟩) ?_
  refine wpAny_take (i := 14) (v := .pointer (some ⟨b, 6, none⟩)) rfl (by kernel_rfl) (by kernel_rfl) (by kernel_rfl) (fun _ _ _ h => h) (Or.inl ⟨by rfl, by intro w; go_simp⟩) ?_
  refine wpAny_take (i := 17) (v := .pointer (some ⟨b, 0, none⟩)) rfl (by kernel_rfl) (by kernel_rfl) (by kernel_rfl) (fun _ _ _ h => h) (Or.inl ⟨by rfl, by intro w; go_simp⟩) ?_
  refine wpAny_take (i := 18) (v := .pointer (some ⟨b, 0, none⟩)) rfl (by kernel_rfl) (by kernel_rfl) (by kernel_rfl) (fun _ _ _ h => h) (Or.inl ⟨by rfl, by intro w; go_simp⟩) ?_
  refine wpAny_take (i := 19) (v := .pointer (some ⟨b, 7, none⟩)) rfl (by kernel_rfl) (by kernel_rfl) (by kernel_rfl) (fun _ _ _ h => h) (Or.inl ⟨by rfl, by intro w; go_simp⟩) ?_
  generalize hG : wpAny _ _ _ _ = G
  have L2211 : ∀ (v6 v7 v11 v18 v19 v23 v24 : Value) (W : World), Ext w W → RW W v7 1 (fcells [⟨b, 0, none⟩] 4 2147483647) → RW W v11 4 (fcells [⟨b, 1, none⟩, ⟨b, 1 + 1, none⟩, ⟨b, 1 + 2, none⟩, ⟨b, 1 + 3, none⟩] 1 255) → RW W v19 2 (fcells [⟨b, 5, none⟩, ⟨b, 6, none⟩] 4 2147483647) → RW W v24 1 (fcells [⟨b, 7, none⟩] 1 255) → G 3 #[true, true, true, true, true, true, true, true, true, true, true, true, true, true, true, true, true, true, true, true, true, true, false, false, false] (frF b v6 v7 v11 v18 v19 v23 v24) W := by
    intro v6 v7 v11 v18 v19 v23 v24 W hx h7 h11 h19 h24
    obtain ⟨g7, cap7, rfl, ho7⟩ := h7
    obtain ⟨g11, cap11, rfl, ho11⟩ := h11
    obtain ⟨g19, cap19, rfl, ho19⟩ := h19
    obtain ⟨g24, cap24, rfl, ho24⟩ := h24
    rw [← hG]
    unfold frF
    refine wpAny_ready (rs := [22]) (by kernel_rfl) (by simp) ?_
    refine AllReady.cons rfl (fun K hK => ?_) (AllReady.nil)
    · go_simp
      refine hK _ _ ?_
      clear hK K
      refine wpAny_ready (rs := [23]) (by kernel_rfl) (by simp) ?_
      refine AllReady.cons rfl (fun K hK => ?_) AllReady.nil
      go_simp
      refine (concat_m _ 4 [⟨g7, 1, cap7, _⟩, ⟨g11, 4, cap11, _⟩, ⟨g19, 2, cap19, _⟩, ⟨g24, 1, cap24, _⟩] _ 8 (fl b fetchL) rfl (by decide) (by decide) rfl (by decide) ?_ (four_ok (ok_of ho7 (by decide) (by decide) ((Ext.refl W).alloc _)) (ok_of ho11 (by decide) (by decide) ((Ext.refl W).alloc _)) (ok_of ho19 (by decide) (by decide) ((Ext.refl W).alloc _)) (ok_of ho24 (by decide) (by decide) ((Ext.refl W).alloc _))) (vals_at _ (at_new rfl) (by rfl))).mono ?_
      · rfl
      rintro e w' ⟨g, cap, rfl, ho, hx'⟩
      refine hK _ _ ?_
      clear hK K
      refine wpAny_ready (rs := [24]) (by kernel_rfl) (by simp) ?_
      refine AllReady.cons rfl (fun K hK => ?_) AllReady.nil
      go_simp
      refine hK _ _ ?_
      clear hK K
      refine wpAny_done (by kernel_rfl) ?_ _
      go_wp2
      go_ret
      exact ⟨g, cap, rfl, owns_base ho (Ext.le (hx.alloc _)), (hx.alloc _).trans hx'⟩
  have L2111 : ∀ (v6 v7 v11 v18 v19 v23 v24 : Value) (W : World), Ext w W → PS W v23 1 [⟨b, 7, none⟩] → RW W v7 1 (fcells [⟨b, 0, none⟩] 4 2147483647) → RW W v11 4 (fcells [⟨b, 1, none⟩, ⟨b, 1 + 1, none⟩, ⟨b, 1 + 2, none⟩, ⟨b, 1 + 3, none⟩] 1 255) → RW W v19 2 (fcells [⟨b, 5, none⟩, ⟨b, 6, none⟩] 4 2147483647) → G 4 #[true, true, true, true, true, true, true, true, true, true, true, true, true, true, true, true, true, true, true, true, true, false, false, false, false] (frF b v6 v7 v11 v18 v19 v23 v24) W := by
    intro v6 v7 v11 v18 v19 v23 v24 W hx h23 h7 h11 h19
    have k23 := h23
    obtain ⟨g23, t23, arr23, rfl, hh23, ha23⟩ := h23
    rw [← hG]
    unfold frF
    refine wpAny_ready (rs := [21]) (by kernel_rfl) (by simp) ?_
    refine AllReady.cons rfl (fun K hK => ?_) (AllReady.nil)
    · go_simp
      refine (octets_m _ 1 [⟨b, 7, none⟩] _ rfl (by decide) (by decide) (ptrs_at _ hh23 ha23)).mono ?_
      rintro e w' ⟨g, cap, rfl, ho, hx'⟩
      refine hK _ _ ?_
      clear hK K
      rw [hG]
      exact L2211 _ _ _ _ _ _ _ _ (hx.trans hx') (h7.ext hx') (h11.ext hx') (h19.ext hx') (⟨g, cap, rfl, owns_base ho (Nat.zero_le _)⟩)
  have L2110 : ∀ (v6 v7 v11 v18 v19 v23 v24 : Value) (W : World), Ext w W → RW W v7 1 (fcells [⟨b, 0, none⟩] 4 2147483647) → RW W v11 4 (fcells [⟨b, 1, none⟩, ⟨b, 1 + 1, none⟩, ⟨b, 1 + 2, none⟩, ⟨b, 1 + 3, none⟩] 1 255) → RW W v19 2 (fcells [⟨b, 5, none⟩, ⟨b, 6, none⟩] 4 2147483647) → G 5 #[true, true, true, true, true, true, true, true, true, true, true, true, true, true, true, true, true, true, true, true, false, false, false, false, false] (frF b v6 v7 v11 v18 v19 v23 v24) W := by
    intro v6 v7 v11 v18 v19 v23 v24 W hx h7 h11 h19
    rw [← hG]
    unfold frF
    refine wpAny_ready (rs := [20]) (by kernel_rfl) (by simp) ?_
    refine AllReady.cons rfl (fun K hK => ?_) (AllReady.nil)
    · go_simp
      refine hK _ _ ?_
      clear hK K
      rw [hG]
      exact L2111 _ _ _ _ _ _ _ _ (hx.alloc _) (⟨_, _, _, rfl, at_new rfl, rfl⟩) (h7.ext ((Ext.refl _).alloc _)) (h11.ext ((Ext.refl _).alloc _)) (h19.ext ((Ext.refl _).alloc _))
  have L1611 : ∀ (v6 v7 v11 v18 v19 v23 v24 : Value) (W : World), Ext w W → PS W v18 2 [⟨b, 5, none⟩, ⟨b, 6, none⟩] → PS W v23 1 [⟨b, 7, none⟩] → RW W v7 1 (fcells [⟨b, 0, none⟩] 4 2147483647) → RW W v11 4 (fcells [⟨b, 1, none⟩, ⟨b, 1 + 1, none⟩, ⟨b, 1 + 2, none⟩, ⟨b, 1 + 3, none⟩] 1 255) → G 5 #[true, true, true, true, true, true, true, true, true, true, true, true, true, true, true, true, false, true, true, true, true, false, false, false, false] (frF b v6 v7 v11 v18 v19 v23 v24) W := by
    intro v6 v7 v11 v18 v19 v23 v24 W hx h18 h23 h7 h11
    have k18 := h18
    obtain ⟨g18, t18, arr18, rfl, hh18, ha18⟩ := h18
    rw [← hG]
    unfold frF
    refine wpAny_ready (rs := [16]) (by kernel_rfl) (by simp) ?_
    refine AllReady.cons rfl (fun K hK => ?_) (AllReady.nil)
    · go_simp
      refine (numbers_m _ 2 [⟨b, 5, none⟩, ⟨b, 6, none⟩] _ rfl (by decide) (by decide) (ptrs_at _ hh18 ha18)).mono ?_
      rintro e w' ⟨g, cap, rfl, ho, hx'⟩
      refine hK _ _ ?_
      clear hK K
      rw [hG]
      exact L2111 _ _ _ _ _ _ _ _ (hx.trans hx') (h23.ext hx') (h7.ext hx') (h11.ext hx') (⟨g, cap, rfl, owns_base ho (Nat.zero_le _)⟩)
  have L1610 : ∀ (v6 v7 v11 v18 v19 v23 v24 : Value) (W : World), Ext w W → PS W v18 2 [⟨b, 5, none⟩, ⟨b, 6, none⟩] → RW W v7 1 (fcells [⟨b, 0, none⟩] 4 2147483647) → RW W v11 4 (fcells [⟨b, 1, none⟩, ⟨b, 1 + 1, none⟩, ⟨b, 1 + 2, none⟩, ⟨b, 1 + 3, none⟩] 1 255) → G 6 #[true, true, true, true, true, true, true, true, true, true, true, true, true, true, true, true, false, true, true, true, false, false, false, false, false] (frF b v6 v7 v11 v18 v19 v23 v24) W := by
    intro v6 v7 v11 v18 v19 v23 v24 W hx h18 h7 h11
    have k18 := h18
    obtain ⟨g18, t18, arr18, rfl, hh18, ha18⟩ := h18
    rw [← hG]
    unfold frF
    refine wpAny_ready (rs := [16, 20]) (by kernel_rfl) (by simp) ?_
    refine AllReady.cons rfl (fun K hK => ?_) (AllReady.cons rfl (fun K hK => ?_) (AllReady.nil))
    · go_simp
      refine (numbers_m _ 2 [⟨b, 5, none⟩, ⟨b, 6, none⟩] _ rfl (by decide) (by decide) (ptrs_at _ hh18 ha18)).mono ?_
      rintro e w' ⟨g, cap, rfl, ho, hx'⟩
      refine hK _ _ ?_
      clear hK K
      rw [hG]
      exact L2110 _ _ _ _ _ _ _ _ (hx.trans hx') (h7.ext hx') (h11.ext hx') (⟨g, cap, rfl, owns_base ho (Nat.zero_le _)⟩)
    · go_simp
      refine hK _ _ ?_
      clear hK K
      rw [hG]
      exact L1611 _ _ _ _ _ _ _ _ (hx.alloc _) (k18.ext ((Ext.refl _).alloc _)) (⟨_, _, _, rfl, at_new rfl, rfl⟩) (h7.ext ((Ext.refl _).alloc _)) (h11.ext ((Ext.refl _).alloc _))
  have L1601 : ∀ (v6 v7 v11 v18 v19 v23 v24 : Value) (W : World), Ext w W → PS W v23 1 [⟨b, 7, none⟩] → RW W v7 1 (fcells [⟨b, 0, none⟩] 4 2147483647) → RW W v11 4 (fcells [⟨b, 1, none⟩, ⟨b, 1 + 1, none⟩, ⟨b, 1 + 2, none⟩, ⟨b, 1 + 3, none⟩] 1 255) → G 6 #[true, true, true, true, true, true, true, true, true, true, true, true, true, true, true, false, false, true, true, true, true, false, false, false, false] (frF b v6 v7 v11 v18 v19 v23 v24) W := by
    intro v6 v7 v11 v18 v19 v23 v24 W hx h23 h7 h11
    rw [← hG]
    unfold frF
    refine wpAny_ready (rs := [15]) (by kernel_rfl) (by simp) ?_
    refine AllReady.cons rfl (fun K hK => ?_) (AllReady.nil)
    · go_simp
      refine hK _ _ ?_
      clear hK K
      rw [hG]
      exact L1611 _ _ _ _ _ _ _ _ (hx.alloc _) (⟨_, _, _, rfl, at_new rfl, rfl⟩) (h23.ext ((Ext.refl _).alloc _)) (h7.ext ((Ext.refl _).alloc _)) (h11.ext ((Ext.refl _).alloc _))
  have L1600 : ∀ (v6 v7 v11 v18 v19 v23 v24 : Value) (W : World), Ext w W → RW W v7 1 (fcells [⟨b, 0, none⟩] 4 2147483647) → RW W v11 4 (fcells [⟨b, 1, none⟩, ⟨b, 1 + 1, none⟩, ⟨b, 1 + 2, none⟩, ⟨b, 1 + 3, none⟩] 1 255) → G 7 #[true, true, true, true, true, true, true, true, true, true, true, true, true, true, true, false, false, true, true, true, false, false, false, false, false] (frF b v6 v7 v11 v18 v19 v23 v24) W := by
    intro v6 v7 v11 v18 v19 v23 v24 W hx h7 h11
    rw [← hG]
    unfold frF
    refine wpAny_ready (rs := [15, 20]) (by kernel_rfl) (by simp) ?_
    refine AllReady.cons rfl (fun K hK => ?_) (AllReady.cons rfl (fun K hK => ?_) (AllReady.nil))
    · go_simp
      refine hK _ _ ?_
      clear hK K
      rw [hG]
      exact L1610 _ _ _ _ _ _ _ _ (hx.alloc _) (⟨_, _, _, rfl, at_new rfl, rfl⟩) (h7.ext ((Ext.refl _).alloc _)) (h11.ext ((Ext.refl _).alloc _))
    · go_simp
      refine hK _ _ ?_
      clear hK K
      rw [hG]
      exact L1601 _ _ _ _ _ _ _ _ (hx.alloc _) (⟨_, _, _, rfl, at_new rfl, rfl⟩) (h7.ext ((Ext.refl _).alloc _)) (h11.ext ((Ext.refl _).alloc _))
  have L811 : ∀ (v6 v7 v11 v18 v19 v23 v24 : Value) (W : World), Ext w W → PS W v18 2 [⟨b, 5, none⟩, ⟨b, 6, none⟩] → PS W v23 1 [⟨b, 7, none⟩] → RW W v7 1 (fcells [⟨b, 0, none⟩] 4 2147483647) → G 6 #[true, true, true, true, true, true, true, true, false, true, true, true, true, true, true, true, false, true, true, true, true, false, false, false, false] (frF b v6 v7 v11 v18 v19 v23 v24) W := by
    intro v6 v7 v11 v18 v19 v23 v24 W hx h18 h23 h7
    rw [← hG]
    unfold frF
    refine wpAny_ready (rs := [8]) (by kernel_rfl) (by simp) ?_
    refine AllReady.cons rfl (fun K hK => ?_) (AllReady.nil)
    · go_simp
      refine (class_m b 1 _).mono ?_
      rintro e w' ⟨g, cap, rfl, ho, hx'⟩
      refine hK _ _ ?_
      clear hK K
      rw [hG]
      exact L1611 _ _ _ _ _ _ _ _ (hx.trans hx') (h18.ext hx') (h23.ext hx') (h7.ext hx') (⟨g, cap, rfl, owns_base ho (Nat.zero_le _)⟩)
  have L810 : ∀ (v6 v7 v11 v18 v19 v23 v24 : Value) (W : World), Ext w W → PS W v18 2 [⟨b, 5, none⟩, ⟨b, 6, none⟩] → RW W v7 1 (fcells [⟨b, 0, none⟩] 4 2147483647) → G 7 #[true, true, true, true, true, true, true, true, false, true, true, true, true, true, true, true, false, true, true, true, false, false, false, false, false] (frF b v6 v7 v11 v18 v19 v23 v24) W := by
    intro v6 v7 v11 v18 v19 v23 v24 W hx h18 h7
    rw [← hG]
    unfold frF
    refine wpAny_ready (rs := [8, 20]) (by kernel_rfl) (by simp) ?_
    refine AllReady.cons rfl (fun K hK => ?_) (AllReady.cons rfl (fun K hK => ?_) (AllReady.nil))
    · go_simp
      refine (class_m b 1 _).mono ?_
      rintro e w' ⟨g, cap, rfl, ho, hx'⟩
      refine hK _ _ ?_
      clear hK K
      rw [hG]
      exact L1610 _ _ _ _ _ _ _ _ (hx.trans hx') (h18.ext hx') (h7.ext hx') (⟨g, cap, rfl, owns_base ho (Nat.zero_le _)⟩)
    · go_simp
      refine hK _ _ ?_
      clear hK K
      rw [hG]
      exact L811 _ _ _ _ _ _ _ _ (hx.alloc _) (h18.ext ((Ext.refl _).alloc _)) (⟨_, _, _, rfl, at_new rfl, rfl⟩) (h7.ext ((Ext.refl _).alloc _))
  have L801 : ∀ (v6 v7 v11 v18 v19 v23 v24 : Value) (W : World), Ext w W → PS W v23 1 [⟨b, 7, none⟩] → RW W v7 1 (fcells [⟨b, 0, none⟩] 4 2147483647) → G 7 #[true, true, true, true, true, true, true, true, false, true, true, true, true, true, true, false, false, true, true, true, true, false, false, false, false] (frF b v6 v7 v11 v18 v19 v23 v24) W := by
    intro v6 v7 v11 v18 v19 v23 v24 W hx h23 h7
    rw [← hG]
    unfold frF
    refine wpAny_ready (rs := [8, 15]) (by kernel_rfl) (by simp) ?_
    refine AllReady.cons rfl (fun K hK => ?_) (AllReady.cons rfl (fun K hK => ?_) (AllReady.nil))
    · go_simp
      refine (class_m b 1 _).mono ?_
      rintro e w' ⟨g, cap, rfl, ho, hx'⟩
      refine hK _ _ ?_
      clear hK K
      rw [hG]
      exact L1601 _ _ _ _ _ _ _ _ (hx.trans hx') (h23.ext hx') (h7.ext hx') (⟨g, cap, rfl, owns_base ho (Nat.zero_le _)⟩)
    · go_simp
      refine hK _ _ ?_
      clear hK K
      rw [hG]
      exact L811 _ _ _ _ _ _ _ _ (hx.alloc _) (⟨_, _, _, rfl, at_new rfl, rfl⟩) (h23.ext ((Ext.refl _).alloc _)) (h7.ext ((Ext.refl _).alloc _))
  have L800 : ∀ (v6 v7 v11 v18 v19 v23 v24 : Value) (W : World), Ext w W → RW W v7 1 (fcells [⟨b, 0, none⟩] 4 2147483647) → G 8 #[true, true, true, true, true, true, true, true, false, true, true, true, true, true, true, false, false, true, true, true, false, false, false, false, false] (frF b v6 v7 v11 v18 v19 v23 v24) W := by
    intro v6 v7 v11 v18 v19 v23 v24 W hx h7
    rw [← hG]
    unfold frF
    refine wpAny_ready (rs := [8, 15, 20]) (by kernel_rfl) (by simp) ?_
    refine AllReady.cons rfl (fun K hK => ?_) (AllReady.cons rfl (fun K hK => ?_) (AllReady.cons rfl (fun K hK => ?_) (AllReady.nil)))
    · go_simp
      refine (class_m b 1 _).mono ?_
      rintro e w' ⟨g, cap, rfl, ho, hx'⟩
      refine hK _ _ ?_
      clear hK K
      rw [hG]
      exact L1600 _ _ _ _ _ _ _ _ (hx.trans hx') (h7.ext hx') (⟨g, cap, rfl, owns_base ho (Nat.zero_le _)⟩)
    · go_simp
      refine hK _ _ ?_
      clear hK K
      rw [hG]
      exact L810 _ _ _ _ _ _ _ _ (hx.alloc _) (⟨_, _, _, rfl, at_new rfl, rfl⟩) (h7.ext ((Ext.refl _).alloc _))
    · go_simp
      refine hK _ _ ?_
      clear hK K
      rw [hG]
      exact L801 _ _ _ _ _ _ _ _ (hx.alloc _) (⟨_, _, _, rfl, at_new rfl, rfl⟩) (h7.ext ((Ext.refl _).alloc _))
  have L411 : ∀ (v6 v7 v11 v18 v19 v23 v24 : Value) (W : World), Ext w W → PS W v6 1 [⟨b, 0, none⟩] → PS W v18 2 [⟨b, 5, none⟩, ⟨b, 6, none⟩] → PS W v23 1 [⟨b, 7, none⟩] → G 7 #[true, true, true, true, false, true, true, true, false, true, true, true, true, true, true, true, false, true, true, true, true, false, false, false, false] (frF b v6 v7 v11 v18 v19 v23 v24) W := by
    intro v6 v7 v11 v18 v19 v23 v24 W hx h6 h18 h23
    have k6 := h6
    obtain ⟨g6, t6, arr6, rfl, hh6, ha6⟩ := h6
    rw [← hG]
    unfold frF
    refine wpAny_ready (rs := [4]) (by kernel_rfl) (by simp) ?_
    refine AllReady.cons rfl (fun K hK => ?_) (AllReady.nil)
    · go_simp
      refine (numbers_m _ 1 [⟨b, 0, none⟩] _ rfl (by decide) (by decide) (ptrs_at _ hh6 ha6)).mono ?_
      rintro e w' ⟨g, cap, rfl, ho, hx'⟩
      refine hK _ _ ?_
      clear hK K
      rw [hG]
      exact L811 _ _ _ _ _ _ _ _ (hx.trans hx') (h18.ext hx') (h23.ext hx') (⟨g, cap, rfl, owns_base ho (Nat.zero_le _)⟩)
  have L410 : ∀ (v6 v7 v11 v18 v19 v23 v24 : Value) (W : World), Ext w W → PS W v6 1 [⟨b, 0, none⟩] → PS W v18 2 [⟨b, 5, none⟩, ⟨b, 6, none⟩] → G 8 #[true, true, true, true, false, true, true, true, false, true, true, true, true, true, true, true, false, true, true, true, false, false, false, false, false] (frF b v6 v7 v11 v18 v19 v23 v24) W := by
    intro v6 v7 v11 v18 v19 v23 v24 W hx h6 h18
    have k6 := h6
    obtain ⟨g6, t6, arr6, rfl, hh6, ha6⟩ := h6
    rw [← hG]
    unfold frF
    refine wpAny_ready (rs := [4, 20]) (by kernel_rfl) (by simp) ?_
    refine AllReady.cons rfl (fun K hK => ?_) (AllReady.cons rfl (fun K hK => ?_) (AllReady.nil))
    · go_simp
      refine (numbers_m _ 1 [⟨b, 0, none⟩] _ rfl (by decide) (by decide) (ptrs_at _ hh6 ha6)).mono ?_
      rintro e w' ⟨g, cap, rfl, ho, hx'⟩
      refine hK _ _ ?_
      clear hK K
      rw [hG]
      exact L810 _ _ _ _ _ _ _ _ (hx.trans hx') (h18.ext hx') (⟨g, cap, rfl, owns_base ho (Nat.zero_le _)⟩)
    · go_simp
      refine hK _ _ ?_
      clear hK K
      rw [hG]
      exact L411 _ _ _ _ _ _ _ _ (hx.alloc _) (k6.ext ((Ext.refl _).alloc _)) (h18.ext ((Ext.refl _).alloc _)) (⟨_, _, _, rfl, at_new rfl, rfl⟩)
  have L401 : ∀ (v6 v7 v11 v18 v19 v23 v24 : Value) (W : World), Ext w W → PS W v6 1 [⟨b, 0, none⟩] → PS W v23 1 [⟨b, 7, none⟩] → G 8 #[true, true, true, true, false, true, true, true, false, true, true, true, true, true, true, false, false, true, true, true, true, false, false, false, false] (frF b v6 v7 v11 v18 v19 v23 v24) W := by
    intro v6 v7 v11 v18 v19 v23 v24 W hx h6 h23
    have k6 := h6
    obtain ⟨g6, t6, arr6, rfl, hh6, ha6⟩ := h6
    rw [← hG]
    unfold frF
    refine wpAny_ready (rs := [4, 15]) (by kernel_rfl) (by simp) ?_
    refine AllReady.cons rfl (fun K hK => ?_) (AllReady.cons rfl (fun K hK => ?_) (AllReady.nil))
    · go_simp
      refine (numbers_m _ 1 [⟨b, 0, none⟩] _ rfl (by decide) (by decide) (ptrs_at _ hh6 ha6)).mono ?_
      rintro e w' ⟨g, cap, rfl, ho, hx'⟩
      refine hK _ _ ?_
      clear hK K
      rw [hG]
      exact L801 _ _ _ _ _ _ _ _ (hx.trans hx') (h23.ext hx') (⟨g, cap, rfl, owns_base ho (Nat.zero_le _)⟩)
    · go_simp
      refine hK _ _ ?_
      clear hK K
      rw [hG]
      exact L411 _ _ _ _ _ _ _ _ (hx.alloc _) (k6.ext ((Ext.refl _).alloc _)) (⟨_, _, _, rfl, at_new rfl, rfl⟩) (h23.ext ((Ext.refl _).alloc _))
  have L400 : ∀ (v6 v7 v11 v18 v19 v23 v24 : Value) (W : World), Ext w W → PS W v6 1 [⟨b, 0, none⟩] → G 9 #[true, true, true, true, false, true, true, true, false, true, true, true, true, true, true, false, false, true, true, true, false, false, false, false, false] (frF b v6 v7 v11 v18 v19 v23 v24) W := by
    intro v6 v7 v11 v18 v19 v23 v24 W hx h6
    have k6 := h6
    obtain ⟨g6, t6, arr6, rfl, hh6, ha6⟩ := h6
    rw [← hG]
    unfold frF
    refine wpAny_ready (rs := [4, 15, 20]) (by kernel_rfl) (by simp) ?_
    refine AllReady.cons rfl (fun K hK => ?_) (AllReady.cons rfl (fun K hK => ?_) (AllReady.cons rfl (fun K hK => ?_) (AllReady.nil)))
    · go_simp
      refine (numbers_m _ 1 [⟨b, 0, none⟩] _ rfl (by decide) (by decide) (ptrs_at _ hh6 ha6)).mono ?_
      rintro e w' ⟨g, cap, rfl, ho, hx'⟩
      refine hK _ _ ?_
      clear hK K
      rw [hG]
      exact L800 _ _ _ _ _ _ _ _ (hx.trans hx') (⟨g, cap, rfl, owns_base ho (Nat.zero_le _)⟩)
    · go_simp
      refine hK _ _ ?_
      clear hK K
      rw [hG]
      exact L410 _ _ _ _ _ _ _ _ (hx.alloc _) (k6.ext ((Ext.refl _).alloc _)) (⟨_, _, _, rfl, at_new rfl, rfl⟩)
    · go_simp
      refine hK _ _ ?_
      clear hK K
      rw [hG]
      exact L401 _ _ _ _ _ _ _ _ (hx.alloc _) (k6.ext ((Ext.refl _).alloc _)) (⟨_, _, _, rfl, at_new rfl, rfl⟩)
  have L311 : ∀ (v6 v7 v11 v18 v19 v23 v24 : Value) (W : World), Ext w W → PS W v18 2 [⟨b, 5, none⟩, ⟨b, 6, none⟩] → PS W v23 1 [⟨b, 7, none⟩] → G 8 #[true, true, true, false, false, true, true, true, false, true, true, true, true, true, true, true, false, true, true, true, true, false, false, false, false] (frF b v6 v7 v11 v18 v19 v23 v24) W := by
    intro v6 v7 v11 v18 v19 v23 v24 W hx h18 h23
    rw [← hG]
    unfold frF
    refine wpAny_ready (rs := [3]) (by kernel_rfl) (by simp) ?_
    refine AllReady.cons rfl (fun K hK => ?_) (AllReady.nil)
    · go_simp
      refine hK _ _ ?_
      clear hK K
      rw [hG]
      exact L411 _ _ _ _ _ _ _ _ (hx.alloc _) (⟨_, _, _, rfl, at_new rfl, rfl⟩) (h18.ext ((Ext.refl _).alloc _)) (h23.ext ((Ext.refl _).alloc _))
  have L310 : ∀ (v6 v7 v11 v18 v19 v23 v24 : Value) (W : World), Ext w W → PS W v18 2 [⟨b, 5, none⟩, ⟨b, 6, none⟩] → G 9 #[true, true, true, false, false, true, true, true, false, true, true, true, true, true, true, true, false, true, true, true, false, false, false, false, false] (frF b v6 v7 v11 v18 v19 v23 v24) W := by
    intro v6 v7 v11 v18 v19 v23 v24 W hx h18
    rw [← hG]
    unfold frF
    refine wpAny_ready (rs := [3, 20]) (by kernel_rfl) (by simp) ?_
    refine AllReady.cons rfl (fun K hK => ?_) (AllReady.cons rfl (fun K hK => ?_) (AllReady.nil))
    · go_simp
      refine hK _ _ ?_
      clear hK K
      rw [hG]
      exact L410 _ _ _ _ _ _ _ _ (hx.alloc _) (⟨_, _, _, rfl, at_new rfl, rfl⟩) (h18.ext ((Ext.refl _).alloc _))
    · go_simp
      refine hK _ _ ?_
      clear hK K
      rw [hG]
      exact L311 _ _ _ _ _ _ _ _ (hx.alloc _) (h18.ext ((Ext.refl _).alloc _)) (⟨_, _, _, rfl, at_new rfl, rfl⟩)
  have L301 : ∀ (v6 v7 v11 v18 v19 v23 v24 : Value) (W : World), Ext w W → PS W v23 1 [⟨b, 7, none⟩] → G 9 #[true, true, true, false, false, true, true, true, false, true, true, true, true, true, true, false, false, true, true, true, true, false, false, false, false] (frF b v6 v7 v11 v18 v19 v23 v24) W := by
    intro v6 v7 v11 v18 v19 v23 v24 W hx h23
    rw [← hG]
    unfold frF
    refine wpAny_ready (rs := [3, 15]) (by kernel_rfl) (by simp) ?_
    refine AllReady.cons rfl (fun K hK => ?_) (AllReady.cons rfl (fun K hK => ?_) (AllReady.nil))
    · go_simp
      refine hK _ _ ?_
      clear hK K
      rw [hG]
      exact L401 _ _ _ _ _ _ _ _ (hx.alloc _) (⟨_, _, _, rfl, at_new rfl, rfl⟩) (h23.ext ((Ext.refl _).alloc _))
    · go_simp
      refine hK _ _ ?_
      clear hK K
      rw [hG]
      exact L311 _ _ _ _ _ _ _ _ (hx.alloc _) (⟨_, _, _, rfl, at_new rfl, rfl⟩) (h23.ext ((Ext.refl _).alloc _))
  have L300 : ∀ (v6 v7 v11 v18 v19 v23 v24 : Value) (W : World), Ext w W → G 10 #[true, true, true, false, false, true, true, true, false, true, true, true, true, true, true, false, false, true, true, true, false, false, false, false, false] (frF b v6 v7 v11 v18 v19 v23 v24) W := by
    intro v6 v7 v11 v18 v19 v23 v24 W hx
    rw [← hG]
    unfold frF
    refine wpAny_ready (rs := [3, 15, 20]) (by kernel_rfl) (by simp) ?_
    refine AllReady.cons rfl (fun K hK => ?_) (AllReady.cons rfl (fun K hK => ?_) (AllReady.cons rfl (fun K hK => ?_) (AllReady.nil)))
    · go_simp
      refine hK _ _ ?_
      clear hK K
      rw [hG]
      exact L400 _ _ _ _ _ _ _ _ (hx.alloc _) (⟨_, _, _, rfl, at_new rfl, rfl⟩)
    · go_simp
      refine hK _ _ ?_
      clear hK K
      rw [hG]
      exact L310 _ _ _ _ _ _ _ _ (hx.alloc _) (⟨_, _, _, rfl, at_new rfl, rfl⟩)
    · go_simp
      refine hK _ _ ?_
      clear hK K
      rw [hG]
      exact L301 _ _ _ _ _ _ _ _ (hx.alloc _) (⟨_, _, _, rfl, at_new rfl, rfl⟩)
  exact Eq.mp (by kernel_rfl) (L300 undef undef undef undef undef undef undef w.drew (Ext.refl w).drew)
end Go.Proofs.Ytmnjhhachdlmkaa
