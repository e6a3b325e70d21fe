import Derived.Test.YtmnjhhachdlmkaaGreatK01
import Derived.Test.YtmnjhhachdlmkaaGreatK09
namespace Go.Proofs.YtmnjhhachdlmkaaGreat
-- FieldsG
section
set_option maxRecDepth 100000
set_option maxHeartbeats 20000000
open Go.RowKit
/-- A new list of places. -/
def PS (w : World) (v : Value) (n : Nat) (ps : List Addr) : Prop := ∃ g t arr, v = .slice (some ⟨g, 0, none⟩) n n /\ w.heap[g]? = some (.cells arr t (0, 0)) /\ arr = (ps.map fun p => Value.pointer (some p)).toArray
theorem PS.ext {w w' : World} {v : Value} {n : Nat} {ps : List Addr} (h : PS w v n ps) (hx : Ext w w') : PS w' v n ps := by
 obtain ⟨g, t, arr, h1, h2, h3⟩ := h
 exact ⟨g, t, arr, h1, hx.block h2, h3⟩
/-- A list of fields that was made. -/
def RW (w : World) (v : Value) (n : Nat) (xs : List Value) : Prop := ∃ g cap, v = .slice (some ⟨g, 0, none⟩) n cap /\ w.ownsRow 0 162 3 (.slice (some ⟨g, 0, none⟩) n cap) n xs
theorem RW.ext {w w' : World} {v : Value} {n : Nat} {xs : List Value} (h : RW w v n xs) (hx : Ext w w') : RW w' v n xs := by
 obtain ⟨g, cap, h1, h2⟩ := h
 exact ⟨g, cap, h1, hx.owns h2⟩
def frF (b : Nat) (v6 v7 v11 v18 v19 v23 v24 : Value) : Act := { tmps := #[.pointer (some ⟨b, 0, none⟩), undef, .slice none 0 0, .pointer (some ⟨b, 0, none⟩), .pointer (some ⟨b, 0, none⟩), .pointer (some ⟨b, 0, none⟩), v6, v7, .pointer (some ⟨b, 0, none⟩), .pointer (some ⟨b, 0, none⟩), .pointer (some ⟨b, 1, none⟩), v11, .pointer (some ⟨b, 0, none⟩), .pointer (some ⟨b, 0, none⟩), .pointer (some ⟨b, 5, none⟩), .pointer (some ⟨b, 0, none⟩), .pointer (some ⟨b, 0, none⟩), .pointer (some ⟨b, 6, none⟩), v18, v19, .pointer (some ⟨b, 0, none⟩), .pointer (some ⟨b, 0, none⟩), .pointer (some ⟨b, 7, none⟩), v23, v24, undef, undef], defers := [] }
theorem fetchFields_c (b : Nat) (w : World) : Calls Tryz.prog 218 #[.pointer (some ⟨b, 0, none⟩)] w fun e w' => Made w 8 (fl b fetchL) e w' := by
 go_enter Tryz.func218, Tryz.ntmps218
 go_wp2
 refine wp_region_any (by kernel_rfl) ?_
 change wpAny _ _ _ _ _ _ _ (World.drew _)
 refine wpAny_take (i := 0) (v := .pointer (some ⟨b, 0, none⟩)) rfl (by kernel_rfl) (by kernel_rfl) (by kernel_rfl) (fun _ _ _ h => h) (Or.inl ⟨by rfl, by intro w; go_simp⟩) ?_
 refine wpAny_take (i := 1) (v := .pointer (some ⟨b, 0, none⟩)) rfl (by kernel_rfl) (by kernel_rfl) (by kernel_rfl) (fun _ _ _ h => h) (Or.inl ⟨by rfl, by intro w; go_simp⟩) ?_
 refine wpAny_take (i := 2) (v := .pointer (some ⟨b, 0, none⟩)) rfl (by kernel_rfl) (by kernel_rfl) (by kernel_rfl) (fun _ _ _ h => h) (Or.inl ⟨by rfl, by intro w; go_simp⟩) ?_
 refine wpAny_take (i := 5) (v := .pointer (some ⟨b, 0, none⟩)) rfl (by kernel_rfl) (by kernel_rfl) (by kernel_rfl) (fun _ _ _ h => h) (Or.inl ⟨by rfl, by intro w; go_simp⟩) ?_
 refine wpAny_take (i := 6) (v := .pointer (some ⟨b, 0, none⟩)) rfl (by kernel_rfl) (by kernel_rfl) (by kernel_rfl) (fun _ _ _ h => h) (Or.inl ⟨by rfl, by intro w; go_simp⟩) ?_
 refine wpAny_take (i := 7) (v := .pointer (some ⟨b, 1, none⟩)) rfl (by kernel_rfl) (by kernel_rfl) (by kernel_rfl) (fun _ _ _ h => h) (Or.inl ⟨by rfl, by intro w; go_simp⟩) ?_
 refine wpAny_take (i := 9) (v := .pointer (some ⟨b, 0, none⟩)) rfl (by kernel_rfl) (by kernel_rfl) (by kernel_rfl) (fun _ _ _ h => h) (Or.inl ⟨by rfl, by intro w; go_simp⟩) ?_
 refine wpAny_take (i := 10) (v := .pointer (some ⟨b, 0, none⟩)) rfl (by kernel_rfl) (by kernel_rfl) (by kernel_rfl) (fun _ _ _ h => h) (Or.inl ⟨by rfl, by intro w; go_simp⟩) ?_
 refine wpAny_take (i := 11) (v := .pointer (some ⟨b, 5, none⟩)) rfl (by kernel_rfl) (by kernel_rfl) (by kernel_rfl) (fun _ _ _ h => h) (Or.inl ⟨by rfl, by intro w; go_simp⟩) ?_
 refine wpAny_take (i := 12) (v := .pointer (some ⟨b, 0, none⟩)) rfl (by kernel_rfl) (by kernel_rfl) (by kernel_rfl) (fun _ _ _ h => h) (Or.inl ⟨by rfl, by intro w; go_simp⟩) ?_
 refine wpAny_take (i := 13) (v := .pointer (some ⟨b, 0, none⟩)) rfl (by kernel_rfl) (by kernel_rfl) (by kernel_rfl) (fun _ _ _ h => h) (Or.inl ⟨by rfl, by intro w; go_simp⟩) ?_
 refine wpAny_take (i := 14) (v := .pointer (some ⟨b, 6, none⟩)) rfl (by kernel_rfl) (by kernel_rfl) (by kernel_rfl) (fun _ _ _ h => h) (Or.inl ⟨by rfl, by intro w; go_simp⟩) ?_
 refine wpAny_take (i := 17) (v := .pointer (some ⟨b, 0, none⟩)) rfl (by kernel_rfl) (by kernel_rfl) (by kernel_rfl) (fun _ _ _ h => h) (Or.inl ⟨by rfl, by intro w; go_simp⟩) ?_
 refine wpAny_take (i := 18) (v := .pointer (some ⟨b, 0, none⟩)) rfl (by kernel_rfl) (by kernel_rfl) (by kernel_rfl) (fun _ _ _ h => h) (Or.inl ⟨by rfl, by intro w; go_simp⟩) ?_
 refine wpAny_take (i := 19) (v := .pointer (some ⟨b, 7, none⟩)) rfl (by kernel_rfl) (by kernel_rfl) (by kernel_rfl) (fun _ _ _ h => h) (Or.inl ⟨by rfl, by intro w; go_simp⟩) ?_
 generalize hG : wpAny _ _ _ _ = G
 have L2211 : ∀ (v6 v7 v11 v18 v19 v23 v24 : Value) (W : World), Ext w W -> RW W v7 1 (fcells [⟨b, 0, none⟩] 4 2147483647) -> RW W v11 4 (fcells [⟨b, 1, none⟩, ⟨b, 1 + 1, none⟩, ⟨b, 1 + 2, none⟩, ⟨b, 1 + 3, none⟩] 1 255) -> RW W v19 2 (fcells [⟨b, 5, none⟩, ⟨b, 6, none⟩] 4 2147483647) -> RW W v24 1 (fcells [⟨b, 7, none⟩] 1 255) -> G 3 #[true, true, true, true, true, true, true, true, true, true, true, true, true, true, true, true, true, true, true, true, true, true, false, false, false] (frF b v6 v7 v11 v18 v19 v23 v24) W := by
  intro v6 v7 v11 v18 v19 v23 v24 W hx h7 h11 h19 h24
  obtain ⟨g7, cap7, rfl, ho7⟩ := h7
  obtain ⟨g11, cap11, rfl, ho11⟩ := h11
  obtain ⟨g19, cap19, rfl, ho19⟩ := h19
  obtain ⟨g24, cap24, rfl, ho24⟩ := h24
  rw [<- hG]
  unfold frF
  refine wpAny_ready (rs := [22]) (by kernel_rfl) (by simp) ?_
  refine AllReady.cons rfl (fun K hK => ?_) (AllReady.nil)
  ·go_simp
   refine hK _ _ ?_
   clear hK K
   refine wpAny_ready (rs := [23]) (by kernel_rfl) (by simp) ?_
   refine AllReady.cons rfl (fun K hK => ?_) AllReady.nil
   go_simp
   refine (concat_m _ 4 [⟨g7, 1, cap7, _⟩, ⟨g11, 4, cap11, _⟩, ⟨g19, 2, cap19, _⟩, ⟨g24, 1, cap24, _⟩] _ 8 (fl b fetchL) rfl (by decide) (by decide) rfl (by decide) ?_ (four_ok (ok_of ho7 (by decide) (by decide) ((Ext.refl W).alloc _)) (ok_of ho11 (by decide) (by decide) ((Ext.refl W).alloc _)) (ok_of ho19 (by decide) (by decide) ((Ext.refl W).alloc _)) (ok_of ho24 (by decide) (by decide) ((Ext.refl W).alloc _))) (vals_at _ (at_new rfl) (by rfl))).mono ?_
   ·rfl
   rintro e w' ⟨g, cap, rfl, ho, hx'⟩
   refine hK _ _ ?_
   clear hK K
   refine wpAny_ready (rs := [24]) (by kernel_rfl) (by simp) ?_
   refine AllReady.cons rfl (fun K hK => ?_) AllReady.nil
   go_simp
   refine hK _ _ ?_
   clear hK K
   refine wpAny_done (by kernel_rfl) ?_ _
   go_wp2
   go_ret
   exact ⟨g, cap, rfl, owns_base ho (Ext.le (hx.alloc _)), (hx.alloc _).trans hx'⟩
 have L2111 : ∀ (v6 v7 v11 v18 v19 v23 v24 : Value) (W : World), Ext w W -> PS W v23 1 [⟨b, 7, none⟩] -> RW W v7 1 (fcells [⟨b, 0, none⟩] 4 2147483647) -> RW W v11 4 (fcells [⟨b, 1, none⟩, ⟨b, 1 + 1, none⟩, ⟨b, 1 + 2, none⟩, ⟨b, 1 + 3, none⟩] 1 255) -> RW W v19 2 (fcells [⟨b, 5, none⟩, ⟨b, 6, none⟩] 4 2147483647) -> G 4 #[true, true, true, true, true, true, true, true, true, true, true, true, true, true, true, true, true, true, true, true, true, false, false, false, false] (frF b v6 v7 v11 v18 v19 v23 v24) W := by
  intro v6 v7 v11 v18 v19 v23 v24 W hx h23 h7 h11 h19
  have k23 := h23
  obtain ⟨g23, t23, arr23, rfl, hh23, ha23⟩ := h23
  rw [<- hG]
  unfold frF
  refine wpAny_ready (rs := [21]) (by kernel_rfl) (by simp) ?_
  refine AllReady.cons rfl (fun K hK => ?_) (AllReady.nil)
  ·go_simp
   refine (octets_m _ 1 [⟨b, 7, none⟩] _ rfl (by decide) (by decide) (ptrs_at _ hh23 ha23)).mono ?_
   rintro e w' ⟨g, cap, rfl, ho, hx'⟩
   refine hK _ _ ?_
   clear hK K
   rw [hG]
   exact L2211 _ _ _ _ _ _ _ _ (hx.trans hx') (h7.ext hx') (h11.ext hx') (h19.ext hx') (⟨g, cap, rfl, owns_base ho (Nat.zero_le _)⟩)
 have L2110 : ∀ (v6 v7 v11 v18 v19 v23 v24 : Value) (W : World), Ext w W -> RW W v7 1 (fcells [⟨b, 0, none⟩] 4 2147483647) -> RW W v11 4 (fcells [⟨b, 1, none⟩, ⟨b, 1 + 1, none⟩, ⟨b, 1 + 2, none⟩, ⟨b, 1 + 3, none⟩] 1 255) -> RW W v19 2 (fcells [⟨b, 5, none⟩, ⟨b, 6, none⟩] 4 2147483647) -> G 5 #[true, true, true, true, true, true, true, true, true, true, true, true, true, true, true, true, true, true, true, true, false, false, false, false, false] (frF b v6 v7 v11 v18 v19 v23 v24) W := by
  intro v6 v7 v11 v18 v19 v23 v24 W hx h7 h11 h19
  rw [<- hG]
  unfold frF
  refine wpAny_ready (rs := [20]) (by kernel_rfl) (by simp) ?_
  refine AllReady.cons rfl (fun K hK => ?_) (AllReady.nil)
  ·go_simp
   refine hK _ _ ?_
   clear hK K
   rw [hG]
   exact L2111 _ _ _ _ _ _ _ _ (hx.alloc _) (⟨_, _, _, rfl, at_new rfl, rfl⟩) (h7.ext ((Ext.refl _).alloc _)) (h11.ext ((Ext.refl _).alloc _)) (h19.ext ((Ext.refl _).alloc _))
 have L1611 : ∀ (v6 v7 v11 v18 v19 v23 v24 : Value) (W : World), Ext w W -> PS W v18 2 [⟨b, 5, none⟩, ⟨b, 6, none⟩] -> PS W v23 1 [⟨b, 7, none⟩] -> RW W v7 1 (fcells [⟨b, 0, none⟩] 4 2147483647) -> RW W v11 4 (fcells [⟨b, 1, none⟩, ⟨b, 1 + 1, none⟩, ⟨b, 1 + 2, none⟩, ⟨b, 1 + 3, none⟩] 1 255) -> G 5 #[true, true, true, true, true, true, true, true, true, true, true, true, true, true, true, true, false, true, true, true, true, false, false, false, false] (frF b v6 v7 v11 v18 v19 v23 v24) W := by
  intro v6 v7 v11 v18 v19 v23 v24 W hx h18 h23 h7 h11
  have k18 := h18
  obtain ⟨g18, t18, arr18, rfl, hh18, ha18⟩ := h18
  rw [<- hG]
  unfold frF
  refine wpAny_ready (rs := [16]) (by kernel_rfl) (by simp) ?_
  refine AllReady.cons rfl (fun K hK => ?_) (AllReady.nil)
  ·go_simp
   refine (numbers_m _ 2 [⟨b, 5, none⟩, ⟨b, 6, none⟩] _ rfl (by decide) (by decide) (ptrs_at _ hh18 ha18)).mono ?_
   rintro e w' ⟨g, cap, rfl, ho, hx'⟩
   refine hK _ _ ?_
   clear hK K
   rw [hG]
   exact L2111 _ _ _ _ _ _ _ _ (hx.trans hx') (h23.ext hx') (h7.ext hx') (h11.ext hx') (⟨g, cap, rfl, owns_base ho (Nat.zero_le _)⟩)
 have L1610 : ∀ (v6 v7 v11 v18 v19 v23 v24 : Value) (W : World), Ext w W -> PS W v18 2 [⟨b, 5, none⟩, ⟨b, 6, none⟩] -> RW W v7 1 (fcells [⟨b, 0, none⟩] 4 2147483647) -> RW W v11 4 (fcells [⟨b, 1, none⟩, ⟨b, 1 + 1, none⟩, ⟨b, 1 + 2, none⟩, ⟨b, 1 + 3, none⟩] 1 255) -> G 6 #[true, true, true, true, true, true, true, true, true, true, true, true, true, true, true, true, false, true, true, true, false, false, false, false, false] (frF b v6 v7 v11 v18 v19 v23 v24) W := by
  intro v6 v7 v11 v18 v19 v23 v24 W hx h18 h7 h11
  have k18 := h18
  obtain ⟨g18, t18, arr18, rfl, hh18, ha18⟩ := h18
  rw [<- hG]
  unfold frF
  refine wpAny_ready (rs := [16, 20]) (by kernel_rfl) (by simp) ?_
  refine AllReady.cons rfl (fun K hK => ?_) (AllReady.cons rfl (fun K hK => ?_) (AllReady.nil))
  ·go_simp
   refine (numbers_m _ 2 [⟨b, 5, none⟩, ⟨b, 6, none⟩] _ rfl (by decide) (by decide) (ptrs_at _ hh18 ha18)).mono ?_
   rintro e w' ⟨g, cap, rfl, ho, hx'⟩
   refine hK _ _ ?_
   clear hK K
   rw [hG]
   exact L2110 _ _ _ _ _ _ _ _ (hx.trans hx') (h7.ext hx') (h11.ext hx') (⟨g, cap, rfl, owns_base ho (Nat.zero_le _)⟩)
  ·go_simp
   refine hK _ _ ?_
   clear hK K
   rw [hG]
   exact L1611 _ _ _ _ _ _ _ _ (hx.alloc _) (k18.ext ((Ext.refl _).alloc _)) (⟨_, _, _, rfl, at_new rfl, rfl⟩) (h7.ext ((Ext.refl _).alloc _)) (h11.ext ((Ext.refl _).alloc _))
 have L1601 : ∀ (v6 v7 v11 v18 v19 v23 v24 : Value) (W : World), Ext w W -> PS W v23 1 [⟨b, 7, none⟩] -> RW W v7 1 (fcells [⟨b, 0, none⟩] 4 2147483647) -> RW W v11 4 (fcells [⟨b, 1, none⟩, ⟨b, 1 + 1, none⟩, ⟨b, 1 + 2, none⟩, ⟨b, 1 + 3, none⟩] 1 255) -> G 6 #[true, true, true, true, true, true, true, true, true, true, true, true, true, true, true, false, false, true, true, true, true, false, false, false, false] (frF b v6 v7 v11 v18 v19 v23 v24) W := by
  intro v6 v7 v11 v18 v19 v23 v24 W hx h23 h7 h11
  rw [<- hG]
  unfold frF
  refine wpAny_ready (rs := [15]) (by kernel_rfl) (by simp) ?_
  refine AllReady.cons rfl (fun K hK => ?_) (AllReady.nil)
  ·go_simp
   refine hK _ _ ?_
   clear hK K
   rw [hG]
   exact L1611 _ _ _ _ _ _ _ _ (hx.alloc _) (⟨_, _, _, rfl, at_new rfl, rfl⟩) (h23.ext ((Ext.refl _).alloc _)) (h7.ext ((Ext.refl _).alloc _)) (h11.ext ((Ext.refl _).alloc _))
 have L1600 : ∀ (v6 v7 v11 v18 v19 v23 v24 : Value) (W : World), Ext w W -> RW W v7 1 (fcells [⟨b, 0, none⟩] 4 2147483647) -> RW W v11 4 (fcells [⟨b, 1, none⟩, ⟨b, 1 + 1, none⟩, ⟨b, 1 + 2, none⟩, ⟨b, 1 + 3, none⟩] 1 255) -> G 7 #[true, true, true, true, true, true, true, true, true, true, true, true, true, true, true, false, false, true, true, true, false, false, false, false, false] (frF b v6 v7 v11 v18 v19 v23 v24) W := by
  intro v6 v7 v11 v18 v19 v23 v24 W hx h7 h11
  rw [<- hG]
  unfold frF
  refine wpAny_ready (rs := [15, 20]) (by kernel_rfl) (by simp) ?_
  refine AllReady.cons rfl (fun K hK => ?_) (AllReady.cons rfl (fun K hK => ?_) (AllReady.nil))
  ·go_simp
   refine hK _ _ ?_
   clear hK K
   rw [hG]
   exact L1610 _ _ _ _ _ _ _ _ (hx.alloc _) (⟨_, _, _, rfl, at_new rfl, rfl⟩) (h7.ext ((Ext.refl _).alloc _)) (h11.ext ((Ext.refl _).alloc _))
  ·go_simp
   refine hK _ _ ?_
   clear hK K
   rw [hG]
   exact L1601 _ _ _ _ _ _ _ _ (hx.alloc _) (⟨_, _, _, rfl, at_new rfl, rfl⟩) (h7.ext ((Ext.refl _).alloc _)) (h11.ext ((Ext.refl _).alloc _))
 have L811 : ∀ (v6 v7 v11 v18 v19 v23 v24 : Value) (W : World), Ext w W -> PS W v18 2 [⟨b, 5, none⟩, ⟨b, 6, none⟩] -> PS W v23 1 [⟨b, 7, none⟩] -> RW W v7 1 (fcells [⟨b, 0, none⟩] 4 2147483647) -> G 6 #[true, true, true, true, true, true, true, true, false, true, true, true, true, true, true, true, false, true, true, true, true, false, false, false, false] (frF b v6 v7 v11 v18 v19 v23 v24) W := by
  intro v6 v7 v11 v18 v19 v23 v24 W hx h18 h23 h7
  rw [<- hG]
  unfold frF
  refine wpAny_ready (rs := [8]) (by kernel_rfl) (by simp) ?_
  refine AllReady.cons rfl (fun K hK => ?_) (AllReady.nil)
  ·go_simp
   refine (class_m b 1 _).mono ?_
   rintro e w' ⟨g, cap, rfl, ho, hx'⟩
   refine hK _ _ ?_
   clear hK K
   rw [hG]
   exact L1611 _ _ _ _ _ _ _ _ (hx.trans hx') (h18.ext hx') (h23.ext hx') (h7.ext hx') (⟨g, cap, rfl, owns_base ho (Nat.zero_le _)⟩)
 have L810 : ∀ (v6 v7 v11 v18 v19 v23 v24 : Value) (W : World), Ext w W -> PS W v18 2 [⟨b, 5, none⟩, ⟨b, 6, none⟩] -> RW W v7 1 (fcells [⟨b, 0, none⟩] 4 2147483647) -> G 7 #[true, true, true, true, true, true, true, true, false, true, true, true, true, true, true, true, false, true, true, true, false, false, false, false, false] (frF b v6 v7 v11 v18 v19 v23 v24) W := by
  intro v6 v7 v11 v18 v19 v23 v24 W hx h18 h7
  rw [<- hG]
  unfold frF
  refine wpAny_ready (rs := [8, 20]) (by kernel_rfl) (by simp) ?_
  refine AllReady.cons rfl (fun K hK => ?_) (AllReady.cons rfl (fun K hK => ?_) (AllReady.nil))
  ·go_simp
   refine (class_m b 1 _).mono ?_
   rintro e w' ⟨g, cap, rfl, ho, hx'⟩
   refine hK _ _ ?_
   clear hK K
   rw [hG]
   exact L1610 _ _ _ _ _ _ _ _ (hx.trans hx') (h18.ext hx') (h7.ext hx') (⟨g, cap, rfl, owns_base ho (Nat.zero_le _)⟩)
  ·go_simp
   refine hK _ _ ?_
   clear hK K
   rw [hG]
   exact L811 _ _ _ _ _ _ _ _ (hx.alloc _) (h18.ext ((Ext.refl _).alloc _)) (⟨_, _, _, rfl, at_new rfl, rfl⟩) (h7.ext ((Ext.refl _).alloc _))
 have L801 : ∀ (v6 v7 v11 v18 v19 v23 v24 : Value) (W : World), Ext w W -> PS W v23 1 [⟨b, 7, none⟩] -> RW W v7 1 (fcells [⟨b, 0, none⟩] 4 2147483647) -> G 7 #[true, true, true, true, true, true, true, true, false, true, true, true, true, true, true, false, false, true, true, true, true, false, false, false, false] (frF b v6 v7 v11 v18 v19 v23 v24) W := by
  intro v6 v7 v11 v18 v19 v23 v24 W hx h23 h7
  rw [<- hG]
  unfold frF
  refine wpAny_ready (rs := [8, 15]) (by kernel_rfl) (by simp) ?_
  refine AllReady.cons rfl (fun K hK => ?_) (AllReady.cons rfl (fun K hK => ?_) (AllReady.nil))
  ·go_simp
   refine (class_m b 1 _).mono ?_
   rintro e w' ⟨g, cap, rfl, ho, hx'⟩
   refine hK _ _ ?_
   clear hK K
   rw [hG]
   exact L1601 _ _ _ _ _ _ _ _ (hx.trans hx') (h23.ext hx') (h7.ext hx') (⟨g, cap, rfl, owns_base ho (Nat.zero_le _)⟩)
  ·go_simp
   refine hK _ _ ?_
   clear hK K
   rw [hG]
   exact L811 _ _ _ _ _ _ _ _ (hx.alloc _) (⟨_, _, _, rfl, at_new rfl, rfl⟩) (h23.ext ((Ext.refl _).alloc _)) (h7.ext ((Ext.refl _).alloc _))
 have L800 : ∀ (v6 v7 v11 v18 v19 v23 v24 : Value) (W : World), Ext w W -> RW W v7 1 (fcells [⟨b, 0, none⟩] 4 2147483647) -> G 8 #[true, true, true, true, true, true, true, true, false, true, true, true, true, true, true, false, false, true, true, true, false, false, false, false, false] (frF b v6 v7 v11 v18 v19 v23 v24) W := by
  intro v6 v7 v11 v18 v19 v23 v24 W hx h7
  rw [<- hG]
  unfold frF
  refine wpAny_ready (rs := [8, 15, 20]) (by kernel_rfl) (by simp) ?_
  refine AllReady.cons rfl (fun K hK => ?_) (AllReady.cons rfl (fun K hK => ?_) (AllReady.cons rfl (fun K hK => ?_) (AllReady.nil)))
  ·go_simp
   refine (class_m b 1 _).mono ?_
   rintro e w' ⟨g, cap, rfl, ho, hx'⟩
   refine hK _ _ ?_
   clear hK K
   rw [hG]
   exact L1600 _ _ _ _ _ _ _ _ (hx.trans hx') (h7.ext hx') (⟨g, cap, rfl, owns_base ho (Nat.zero_le _)⟩)
  ·go_simp
   refine hK _ _ ?_
   clear hK K
   rw [hG]
   exact L810 _ _ _ _ _ _ _ _ (hx.alloc _) (⟨_, _, _, rfl, at_new rfl, rfl⟩) (h7.ext ((Ext.refl _).alloc _))
  ·go_simp
   refine hK _ _ ?_
   clear hK K
   rw [hG]
   exact L801 _ _ _ _ _ _ _ _ (hx.alloc _) (⟨_, _, _, rfl, at_new rfl, rfl⟩) (h7.ext ((Ext.refl _).alloc _))
 have L411 : ∀ (v6 v7 v11 v18 v19 v23 v24 : Value) (W : World), Ext w W -> PS W v6 1 [⟨b, 0, none⟩] -> PS W v18 2 [⟨b, 5, none⟩, ⟨b, 6, none⟩] -> PS W v23 1 [⟨b, 7, none⟩] -> G 7 #[true, true, true, true, false, true, true, true, false, true, true, true, true, true, true, true, false, true, true, true, true, false, false, false, false] (frF b v6 v7 v11 v18 v19 v23 v24) W := by
  intro v6 v7 v11 v18 v19 v23 v24 W hx h6 h18 h23
  have k6 := h6
  obtain ⟨g6, t6, arr6, rfl, hh6, ha6⟩ := h6
  rw [<- hG]
  unfold frF
  refine wpAny_ready (rs := [4]) (by kernel_rfl) (by simp) ?_
  refine AllReady.cons rfl (fun K hK => ?_) (AllReady.nil)
  ·go_simp
   refine (numbers_m _ 1 [⟨b, 0, none⟩] _ rfl (by decide) (by decide) (ptrs_at _ hh6 ha6)).mono ?_
   rintro e w' ⟨g, cap, rfl, ho, hx'⟩
   refine hK _ _ ?_
   clear hK K
   rw [hG]
   exact L811 _ _ _ _ _ _ _ _ (hx.trans hx') (h18.ext hx') (h23.ext hx') (⟨g, cap, rfl, owns_base ho (Nat.zero_le _)⟩)
 have L410 : ∀ (v6 v7 v11 v18 v19 v23 v24 : Value) (W : World), Ext w W -> PS W v6 1 [⟨b, 0, none⟩] -> PS W v18 2 [⟨b, 5, none⟩, ⟨b, 6, none⟩] -> G 8 #[true, true, true, true, false, true, true, true, false, true, true, true, true, true, true, true, false, true, true, true, false, false, false, false, false] (frF b v6 v7 v11 v18 v19 v23 v24) W := by
  intro v6 v7 v11 v18 v19 v23 v24 W hx h6 h18
  have k6 := h6
  obtain ⟨g6, t6, arr6, rfl, hh6, ha6⟩ := h6
  rw [<- hG]
  unfold frF
  refine wpAny_ready (rs := [4, 20]) (by kernel_rfl) (by simp) ?_
  refine AllReady.cons rfl (fun K hK => ?_) (AllReady.cons rfl (fun K hK => ?_) (AllReady.nil))
  ·go_simp
   refine (numbers_m _ 1 [⟨b, 0, none⟩] _ rfl (by decide) (by decide) (ptrs_at _ hh6 ha6)).mono ?_
   rintro e w' ⟨g, cap, rfl, ho, hx'⟩
   refine hK _ _ ?_
   clear hK K
   rw [hG]
   exact L810 _ _ _ _ _ _ _ _ (hx.trans hx') (h18.ext hx') (⟨g, cap, rfl, owns_base ho (Nat.zero_le _)⟩)
  ·go_simp
   refine hK _ _ ?_
   clear hK K
   rw [hG]
   exact L411 _ _ _ _ _ _ _ _ (hx.alloc _) (k6.ext ((Ext.refl _).alloc _)) (h18.ext ((Ext.refl _).alloc _)) (⟨_, _, _, rfl, at_new rfl, rfl⟩)
 have L401 : ∀ (v6 v7 v11 v18 v19 v23 v24 : Value) (W : World), Ext w W -> PS W v6 1 [⟨b, 0, none⟩] -> PS W v23 1 [⟨b, 7, none⟩] -> G 8 #[true, true, true, true, false, true, true, true, false, true, true, true, true, true, true, false, false, true, true, true, true, false, false, false, false] (frF b v6 v7 v11 v18 v19 v23 v24) W := by
  intro v6 v7 v11 v18 v19 v23 v24 W hx h6 h23
  have k6 := h6
  obtain ⟨g6, t6, arr6, rfl, hh6, ha6⟩ := h6
  rw [<- hG]
  unfold frF
  refine wpAny_ready (rs := [4, 15]) (by kernel_rfl) (by simp) ?_
  refine AllReady.cons rfl (fun K hK => ?_) (AllReady.cons rfl (fun K hK => ?_) (AllReady.nil))
  ·go_simp
   refine (numbers_m _ 1 [⟨b, 0, none⟩] _ rfl (by decide) (by decide) (ptrs_at _ hh6 ha6)).mono ?_
   rintro e w' ⟨g, cap, rfl, ho, hx'⟩
   refine hK _ _ ?_
   clear hK K
   rw [hG]
   exact L801 _ _ _ _ _ _ _ _ (hx.trans hx') (h23.ext hx') (⟨g, cap, rfl, owns_base ho (Nat.zero_le _)⟩)
  ·go_simp
   refine hK _ _ ?_
   clear hK K
   rw [hG]
   exact L411 _ _ _ _ _ _ _ _ (hx.alloc _) (k6.ext ((Ext.refl _).alloc _)) (⟨_, _, _, rfl, at_new rfl, rfl⟩) (h23.ext ((Ext.refl _).alloc _))
 have L400 : ∀ (v6 v7 v11 v18 v19 v23 v24 : Value) (W : World), Ext w W -> PS W v6 1 [⟨b, 0, none⟩] -> G 9 #[true, true, true, true, false, true, true, true, false, true, true, true, true, true, true, false, false, true, true, true, false, false, false, false, false] (frF b v6 v7 v11 v18 v19 v23 v24) W := by
  intro v6 v7 v11 v18 v19 v23 v24 W hx h6
  have k6 := h6
  obtain ⟨g6, t6, arr6, rfl, hh6, ha6⟩ := h6
  rw [<- hG]
  unfold frF
  refine wpAny_ready (rs := [4, 15, 20]) (by kernel_rfl) (by simp) ?_
  refine AllReady.cons rfl (fun K hK => ?_) (AllReady.cons rfl (fun K hK => ?_) (AllReady.cons rfl (fun K hK => ?_) (AllReady.nil)))
  ·go_simp
   refine (numbers_m _ 1 [⟨b, 0, none⟩] _ rfl (by decide) (by decide) (ptrs_at _ hh6 ha6)).mono ?_
   rintro e w' ⟨g, cap, rfl, ho, hx'⟩
   refine hK _ _ ?_
   clear hK K
   rw [hG]
   exact L800 _ _ _ _ _ _ _ _ (hx.trans hx') (⟨g, cap, rfl, owns_base ho (Nat.zero_le _)⟩)
  ·go_simp
   refine hK _ _ ?_
   clear hK K
   rw [hG]
   exact L410 _ _ _ _ _ _ _ _ (hx.alloc _) (k6.ext ((Ext.refl _).alloc _)) (⟨_, _, _, rfl, at_new rfl, rfl⟩)
  ·go_simp
   refine hK _ _ ?_
   clear hK K
   rw [hG]
   exact L401 _ _ _ _ _ _ _ _ (hx.alloc _) (k6.ext ((Ext.refl _).alloc _)) (⟨_, _, _, rfl, at_new rfl, rfl⟩)
 have L311 : ∀ (v6 v7 v11 v18 v19 v23 v24 : Value) (W : World), Ext w W -> PS W v18 2 [⟨b, 5, none⟩, ⟨b, 6, none⟩] -> PS W v23 1 [⟨b, 7, none⟩] -> G 8 #[true, true, true, false, false, true, true, true, false, true, true, true, true, true, true, true, false, true, true, true, true, false, false, false, false] (frF b v6 v7 v11 v18 v19 v23 v24) W := by
  intro v6 v7 v11 v18 v19 v23 v24 W hx h18 h23
  rw [<- hG]
  unfold frF
  refine wpAny_ready (rs := [3]) (by kernel_rfl) (by simp) ?_
  refine AllReady.cons rfl (fun K hK => ?_) (AllReady.nil)
  ·go_simp
   refine hK _ _ ?_
   clear hK K
   rw [hG]
   exact L411 _ _ _ _ _ _ _ _ (hx.alloc _) (⟨_, _, _, rfl, at_new rfl, rfl⟩) (h18.ext ((Ext.refl _).alloc _)) (h23.ext ((Ext.refl _).alloc _))
 have L310 : ∀ (v6 v7 v11 v18 v19 v23 v24 : Value) (W : World), Ext w W -> PS W v18 2 [⟨b, 5, none⟩, ⟨b, 6, none⟩] -> G 9 #[true, true, true, false, false, true, true, true, false, true, true, true, true, true, true, true, false, true, true, true, false, false, false, false, false] (frF b v6 v7 v11 v18 v19 v23 v24) W := by
  intro v6 v7 v11 v18 v19 v23 v24 W hx h18
  rw [<- hG]
  unfold frF
  refine wpAny_ready (rs := [3, 20]) (by kernel_rfl) (by simp) ?_
  refine AllReady.cons rfl (fun K hK => ?_) (AllReady.cons rfl (fun K hK => ?_) (AllReady.nil))
  ·go_simp
   refine hK _ _ ?_
   clear hK K
   rw [hG]
   exact L410 _ _ _ _ _ _ _ _ (hx.alloc _) (⟨_, _, _, rfl, at_new rfl, rfl⟩) (h18.ext ((Ext.refl _).alloc _))
  ·go_simp
   refine hK _ _ ?_
   clear hK K
   rw [hG]
   exact L311 _ _ _ _ _ _ _ _ (hx.alloc _) (h18.ext ((Ext.refl _).alloc _)) (⟨_, _, _, rfl, at_new rfl, rfl⟩)
 have L301 : ∀ (v6 v7 v11 v18 v19 v23 v24 : Value) (W : World), Ext w W -> PS W v23 1 [⟨b, 7, none⟩] -> G 9 #[true, true, true, false, false, true, true, true, false, true, true, true, true, true, true, false, false, true, true, true, true, false, false, false, false] (frF b v6 v7 v11 v18 v19 v23 v24) W := by
  intro v6 v7 v11 v18 v19 v23 v24 W hx h23
  rw [<- hG]
  unfold frF
  refine wpAny_ready (rs := [3, 15]) (by kernel_rfl) (by simp) ?_
  refine AllReady.cons rfl (fun K hK => ?_) (AllReady.cons rfl (fun K hK => ?_) (AllReady.nil))
  ·go_simp
   refine hK _ _ ?_
   clear hK K
   rw [hG]
   exact L401 _ _ _ _ _ _ _ _ (hx.alloc _) (⟨_, _, _, rfl, at_new rfl, rfl⟩) (h23.ext ((Ext.refl _).alloc _))
  ·go_simp
   refine hK _ _ ?_
   clear hK K
   rw [hG]
   exact L311 _ _ _ _ _ _ _ _ (hx.alloc _) (⟨_, _, _, rfl, at_new rfl, rfl⟩) (h23.ext ((Ext.refl _).alloc _))
 have L300 : ∀ (v6 v7 v11 v18 v19 v23 v24 : Value) (W : World), Ext w W -> G 10 #[true, true, true, false, false, true, true, true, false, true, true, true, true, true, true, false, false, true, true, true, false, false, false, false, false] (frF b v6 v7 v11 v18 v19 v23 v24) W := by
  intro v6 v7 v11 v18 v19 v23 v24 W hx
  rw [<- hG]
  unfold frF
  refine wpAny_ready (rs := [3, 15, 20]) (by kernel_rfl) (by simp) ?_
  refine AllReady.cons rfl (fun K hK => ?_) (AllReady.cons rfl (fun K hK => ?_) (AllReady.cons rfl (fun K hK => ?_) (AllReady.nil)))
  ·go_simp
   refine hK _ _ ?_
   clear hK K
   rw [hG]
   exact L400 _ _ _ _ _ _ _ _ (hx.alloc _) (⟨_, _, _, rfl, at_new rfl, rfl⟩)
  ·go_simp
   refine hK _ _ ?_
   clear hK K
   rw [hG]
   exact L310 _ _ _ _ _ _ _ _ (hx.alloc _) (⟨_, _, _, rfl, at_new rfl, rfl⟩)
  ·go_simp
   refine hK _ _ ?_
   clear hK K
   rw [hG]
   exact L301 _ _ _ _ _ _ _ _ (hx.alloc _) (⟨_, _, _, rfl, at_new rfl, rfl⟩)
 exact Eq.mp (by kernel_rfl) (L300 undef undef undef undef undef undef undef w.drew (Ext.refl w).drew)
end
-- Chk2
section
set_option maxRecDepth 100000
set_option maxHeartbeats 1600000
open Go.RowKit
/-- A request that bears something that it does not use. -/
theorem check_2a (s i ck cm cl cn f c p : Int) (h : (0 == i) = false) (w : World) :
  Calls Tryz.prog 55 #[.agg #[.int .i64 2, .int .i64 s, .int .i64 i, .int .i64 ck, .int .i64 cm, .int .i64 cl, .int .i64 cn, .int .i64 f, .int .i64 c, .int .i64 p]] w fun e w' => e = .returned (.tuple #[.nilIface, .int .i64 1]) /\ Ext w w' := by
 have hm1 := m_fetchPlain
 have heq := eqReq
 go_enter Tryz.func55, Tryz.ntmps55
 go_wp2_with (go_at_call 84; refine (ofKind_2 s i ck cm cl cn f c p _).mono ?_; rintro e w1 ⟨b, rfl, hb, hlt, hx⟩)
 have hr := hx.block (at_new rfl)
 have HR : Hid _ := hr
 have HB : Hid _ := hb
 have HX : Ext w w1 := (Ext.refl w).alloc _ |>.trans hx
 obtain ⟨q0, q1, q2, q3, q4, q5, q6, q7, q8, q9⟩ := req_cells hr
 clear hr hb hx
 refine wp_region_any (by kernel_rfl) ?_
 change wpAny _ _ _ _ _ _ _ (World.drew _)
 refine wpAny_ready (rs := [0]) (by kernel_rfl) (by simp) ?_
 refine AllReady.cons rfl (fun K hK => ?_) AllReady.nil
 go_simp
 refine hK _ _ ?_
 clear hK K
 refine wpAny_ready (rs := [1]) (by kernel_rfl) (by simp) ?_
 refine AllReady.cons rfl (fun K hK => ?_) AllReady.nil
 go_simp
 refine hK _ _ ?_
 clear hK K
 refine wpAny_ready (rs := [2]) (by kernel_rfl) (by simp) ?_
 refine AllReady.cons rfl (fun K hK => ?_) AllReady.nil
 go_simp
 refine hK _ _ ?_
 clear hK K
 refine wpAny_take (i := 3) (v := .iface 203 (.pointer (some ⟨b, 0, none⟩))) rfl (by kernel_rfl) (by kernel_rfl) (by kernel_rfl) (fun _ _ _ h => h) (Or.inl ⟨by rfl, by intro w; go_simp⟩) ?_
 refine wpAny_ready (rs := [4, 5]) (by kernel_rfl) (by simp) ?_
 refine AllReady.cons rfl (fun K hK => ?_) (AllReady.cons rfl (fun K hK => ?_) AllReady.nil)
 ·go_simp
  go_wp2_with (go_at_call 217; refine (fetchPlain_c b s ck cm cl cn f c p _ (by exact HB.out)).mono ?_; rintro e w2 ⟨rfl, hx2⟩; obtain ⟨r0, r1, r2, r3, r4, r5, r6, r7, r8, r9⟩ := req_cells (hx2.block (by exact HR.out)))
  refine wpAny_ready (rs := [5]) (by kernel_rfl) (by simp) ?_
  refine AllReady.cons rfl (fun K hK => ?_) AllReady.nil
  go_simp
  refine hK _ _ ?_
  clear hK K
  refine wpAny_ready (rs := [6]) (by kernel_rfl) (by simp) ?_
  refine AllReady.cons rfl (fun K hK => ?_) AllReady.nil
  go_simp
  refine hK _ _ ?_
  clear hK K
  refine wpAny_ready (rs := [7]) (by kernel_rfl) (by simp) ?_
  refine AllReady.cons rfl (fun K hK => ?_) AllReady.nil
  go_simp
  refine hK _ _ ?_
  clear hK K
  refine wpAny_ready (rs := [8]) (by kernel_rfl) (by simp) ?_
  refine AllReady.cons rfl (fun K hK => ?_) AllReady.nil
  go_simp
  refine hK _ _ ?_
  clear hK K
  refine wpAny_ready (rs := [9]) (by kernel_rfl) (by simp) ?_
  refine AllReady.cons rfl (fun K hK => ?_) AllReady.nil
  go_simp
  refine hK _ _ ?_
  clear hK K
  refine wpAny_ready (rs := [10]) (by kernel_rfl) (by simp) ?_
  refine AllReady.cons rfl (fun K hK => ?_) AllReady.nil
  go_simp
  refine hK _ _ ?_
  clear hK K
  refine wpAny_ready (rs := [11]) (by kernel_rfl) (by simp) ?_
  refine AllReady.cons rfl (fun K hK => ?_) AllReady.nil
  go_simp
  refine hK _ _ ?_
  clear hK K
  refine wpAny_ready (rs := [12]) (by kernel_rfl) (by simp) ?_
  refine AllReady.cons rfl (fun K hK => ?_) AllReady.nil
  go_simp
  refine hK _ _ ?_
  clear hK K
  refine wpAny_ready (rs := [13]) (by kernel_rfl) (by simp) ?_
  refine AllReady.cons rfl (fun K hK => ?_) AllReady.nil
  go_simp
  refine hK _ _ ?_
  clear hK K
  refine wpAny_done (by kernel_rfl) ?_ _
  go_wp2
  go_ret2
  exact ⟨rfl, HX.trans (Ext.drew (Ext.refl _) |>.trans hx2)⟩
 ·go_simp
  refine hK _ _ ?_
  clear hK K
  refine wpAny_ready (rs := [4]) (by kernel_rfl) (by simp) ?_
  refine AllReady.cons rfl (fun K hK => ?_) AllReady.nil
  go_simp
  go_wp2_with (go_at_call 217; refine (fetchPlain_c b s ck cm cl cn f c p _ (by exact HB.out)).mono ?_; rintro e w2 ⟨rfl, hx2⟩; obtain ⟨r0, r1, r2, r3, r4, r5, r6, r7, r8, r9⟩ := req_cells (hx2.block (by exact HR.out)))
  refine wpAny_ready (rs := [6]) (by kernel_rfl) (by simp) ?_
  refine AllReady.cons rfl (fun K hK => ?_) AllReady.nil
  go_simp
  refine hK _ _ ?_
  clear hK K
  refine wpAny_ready (rs := [7]) (by kernel_rfl) (by simp) ?_
  refine AllReady.cons rfl (fun K hK => ?_) AllReady.nil
  go_simp
  refine hK _ _ ?_
  clear hK K
  refine wpAny_ready (rs := [8]) (by kernel_rfl) (by simp) ?_
  refine AllReady.cons rfl (fun K hK => ?_) AllReady.nil
  go_simp
  refine hK _ _ ?_
  clear hK K
  refine wpAny_ready (rs := [9]) (by kernel_rfl) (by simp) ?_
  refine AllReady.cons rfl (fun K hK => ?_) AllReady.nil
  go_simp
  refine hK _ _ ?_
  clear hK K
  refine wpAny_ready (rs := [10]) (by kernel_rfl) (by simp) ?_
  refine AllReady.cons rfl (fun K hK => ?_) AllReady.nil
  go_simp
  refine hK _ _ ?_
  clear hK K
  refine wpAny_ready (rs := [11]) (by kernel_rfl) (by simp) ?_
  refine AllReady.cons rfl (fun K hK => ?_) AllReady.nil
  go_simp
  refine hK _ _ ?_
  clear hK K
  refine wpAny_ready (rs := [12]) (by kernel_rfl) (by simp) ?_
  refine AllReady.cons rfl (fun K hK => ?_) AllReady.nil
  go_simp
  refine hK _ _ ?_
  clear hK K
  refine wpAny_ready (rs := [13]) (by kernel_rfl) (by simp) ?_
  refine AllReady.cons rfl (fun K hK => ?_) AllReady.nil
  go_simp
  refine hK _ _ ?_
  clear hK K
  refine wpAny_done (by kernel_rfl) ?_ _
  go_wp2
  go_ret2
  exact ⟨rfl, HX.trans (Ext.drew (Ext.refl _) |>.trans hx2)⟩
theorem vals_fetch {W : World} {b : Nat} {s ck cm cl cn f c p : Int} {vals : Nat -> Int} (hW : W.heap[b]? = some (.cells #[.int .i64 s, .int .i64 ck, .int .i64 cm, .int .i64 cl, .int .i64 cn, .int .i64 f, .int .i64 c, .int .i64 p] 212 (0, 0))) (hv : vals 0 = s /\ vals 1 = ck /\ vals 2 = cm /\ vals 3 = cl /\ vals 4 = cn /\ vals 5 = f /\ vals 6 = c /\ vals 7 = p) : ∀ x ∈ fetchL, W.cell? ⟨b, x.1, none⟩ = some (.int .i64 (vals x.1)) := by
 obtain ⟨v0, v1, v2, v3, v4, v5, v6, v7⟩ := hv
 intro x hx
 simp only [fetchL, List.mem_cons, List.not_mem_nil, or_false] at hx
 rcases hx with rfl | rfl | rfl | rfl | rfl | rfl | rfl | rfl
 ·show W.cell? ⟨b, 0, none⟩ = some (.int .i64 (vals 0)); rw [v0]; exact cell_at hW rfl
 ·show W.cell? ⟨b, 1, none⟩ = some (.int .i64 (vals 1)); rw [v1]; exact cell_at hW rfl
 ·show W.cell? ⟨b, 2, none⟩ = some (.int .i64 (vals 2)); rw [v2]; exact cell_at hW rfl
 ·show W.cell? ⟨b, 3, none⟩ = some (.int .i64 (vals 3)); rw [v3]; exact cell_at hW rfl
 ·show W.cell? ⟨b, 4, none⟩ = some (.int .i64 (vals 4)); rw [v4]; exact cell_at hW rfl
 ·show W.cell? ⟨b, 5, none⟩ = some (.int .i64 (vals 5)); rw [v5]; exact cell_at hW rfl
 ·show W.cell? ⟨b, 6, none⟩ = some (.int .i64 (vals 6)); rw [v6]; exact cell_at hW rfl
 ·show W.cell? ⟨b, 7, none⟩ = some (.int .i64 (vals 7)); rw [v7]; exact cell_at hW rfl
/-- One that bears nothing besides: it fits, or not. -/
theorem check_2b (s ck cm cl cn f c p : Int) (vals : Nat -> Int) (hv : vals 0 = s /\ vals 1 = ck /\ vals 2 = cm /\ vals 3 = cl /\ vals 4 = cn /\ vals 5 = f /\ vals 6 = c /\ vals 7 = p) (w : World) :
  Calls Tryz.prog 55 #[.agg #[.int .i64 2, .int .i64 s, .int .i64 0, .int .i64 ck, .int .i64 cm, .int .i64 cl, .int .i64 cn, .int .i64 f, .int .i64 c, .int .i64 p]] w fun e w' =>
   (fitB vals fetchL = true /\ ∃ b, e = .returned (.tuple #[.iface 203 (.pointer (some ⟨b, 0, none⟩)), .int .i64 0]) /\ w.heap.size <= b /\ w'.heap[b]? = some (.cells #[.int .i64 s, .int .i64 ck, .int .i64 cm, .int .i64 cl, .int .i64 cn, .int .i64 f, .int .i64 c, .int .i64 p] 212 (0, 0)) /\ Ext w w') \/
   (fitB vals fetchL = false /\ e = .returned (.tuple #[.nilIface, .int .i64 1]) /\ Ext w w') := by
 have HV : Hid (vals 0 = s /\ vals 1 = ck /\ vals 2 = cm /\ vals 3 = cl /\ vals 4 = cn /\ vals 5 = f /\ vals 6 = c /\ vals 7 = p) := hv
 have hm1 := m_fetchPlain
 have hm2 := m_fetchFields
 have heq := eqReq
 clear hv
 go_enter Tryz.func55, Tryz.ntmps55
 go_wp2_with (go_at_call 84; refine (ofKind_2 s 0 ck cm cl cn f c p _).mono ?_; rintro e w1 ⟨b, rfl, hb, hlt, hx⟩)
 have HLB : Hid (w.heap.size <= b) := by
  show w.heap.size <= b
  have hlt' := hlt
  simp at hlt'
  omega
 have hr := hx.block (at_new rfl)
 have HR : Hid _ := hr
 have HB : Hid _ := hb
 have HX : Ext w w1 := (Ext.refl w).alloc _ |>.trans hx
 obtain ⟨q0, q1, q2, q3, q4, q5, q6, q7, q8, q9⟩ := req_cells hr
 clear hr hb hx
 have HVV : Hid _ := fun (W : World) hW => vals_fetch (W := W) (b := b) hW HV.out
 cases HB2 : fitB vals fetchL
 all_goals
  have HFB : Hid _ := HB2
  clear HB2
  go_region_with (first
   | (go_at_call 217; refine (fetchPlain_c b s ck cm cl cn f c p _ (by exact HB.out)).mono ?_; rintro e w2 ⟨rfl, hx2⟩; obtain ⟨r0, r1, r2, r3, r4, r5, r6, r7, r8, r9⟩ := req_cells (hx2.block (by exact HR.out)))
   | (go_at_call 218; refine (fetchFields_c b _).mono ?_; rintro e w3 ⟨g, cap, rfl, ho, hx3⟩)
   | (go_at_call 85; refine (fit_c b g cap 8 _ fetchL vals _ rfl (by decide) ho ?_).mono ?_; exact HVV.out _ (hx3.block (by exact hx2.block (by exact HB.out))); rw [HFB.out]; rintro e w4 ⟨rfl, hx4⟩))
  all_goals go_wp2
  all_goals go_ret2
 ·exact .inr ⟨HFB.out, rfl, HX.trans ((Ext.refl _).drew.trans (hx2.trans (hx3.trans hx4)))⟩
 ·exact .inr ⟨HFB.out, rfl, HX.trans ((Ext.refl _).drew.trans (hx2.trans (hx3.trans hx4)))⟩
 ·exact .inl ⟨HFB.out, b, rfl, HLB.out, (hx2.trans (hx3.trans hx4)).block (by exact HB.out), HX.trans ((Ext.refl _).drew.trans (hx2.trans (hx3.trans hx4)))⟩
 ·exact .inl ⟨HFB.out, b, rfl, HLB.out, (hx2.trans (hx3.trans hx4)).block (by exact HB.out), HX.trans ((Ext.refl _).drew.trans (hx2.trans (hx3.trans hx4)))⟩
end
-- Chk3
section
set_option maxRecDepth 100000
set_option maxHeartbeats 1600000
open Go.RowKit
/-- A request that bears something that it does not use. -/
theorem check_3a (s i ck cm cl cn f c p : Int) (h : (((0 == ck && (0 == cm && (0 == cl && 0 == cn))) && (0 == f && (0 == c && 0 == p)))) = false) (w : World) :
  Calls Tryz.prog 55 #[.agg #[.int .i64 3, .int .i64 s, .int .i64 i, .int .i64 ck, .int .i64 cm, .int .i64 cl, .int .i64 cn, .int .i64 f, .int .i64 c, .int .i64 p]] w fun e w' => e = .returned (.tuple #[.nilIface, .int .i64 1]) /\ Ext w w' := by
 have hm1 := m_releasePlain
 have heq := eqReq
 go_enter Tryz.func55, Tryz.ntmps55
 go_wp2_with (go_at_call 84; refine (ofKind_3 s i ck cm cl cn f c p _).mono ?_; rintro e w1 ⟨b, rfl, hb, hlt, hx⟩)
 have hr := hx.block (at_new rfl)
 have HR : Hid _ := hr
 have HB : Hid _ := hb
 have HX : Ext w w1 := (Ext.refl w).alloc _ |>.trans hx
 obtain ⟨q0, q1, q2, q3, q4, q5, q6, q7, q8, q9⟩ := req_cells hr
 clear hr hb hx
 refine wp_region_any (by kernel_rfl) ?_
 change wpAny _ _ _ _ _ _ _ (World.drew _)
 refine wpAny_ready (rs := [0]) (by kernel_rfl) (by simp) ?_
 refine AllReady.cons rfl (fun K hK => ?_) AllReady.nil
 go_simp
 refine hK _ _ ?_
 clear hK K
 refine wpAny_ready (rs := [1]) (by kernel_rfl) (by simp) ?_
 refine AllReady.cons rfl (fun K hK => ?_) AllReady.nil
 go_simp
 refine hK _ _ ?_
 clear hK K
 refine wpAny_ready (rs := [2]) (by kernel_rfl) (by simp) ?_
 refine AllReady.cons rfl (fun K hK => ?_) AllReady.nil
 go_simp
 refine hK _ _ ?_
 clear hK K
 refine wpAny_take (i := 3) (v := .iface 205 (.pointer (some ⟨b, 0, none⟩))) rfl (by kernel_rfl) (by kernel_rfl) (by kernel_rfl) (fun _ _ _ h => h) (Or.inl ⟨by rfl, by intro w; go_simp⟩) ?_
 refine wpAny_ready (rs := [4, 5]) (by kernel_rfl) (by simp) ?_
 refine AllReady.cons rfl (fun K hK => ?_) (AllReady.cons rfl (fun K hK => ?_) AllReady.nil)
 ·go_simp
  go_wp2_with (go_at_call 219; refine (releasePlain_c b s i _ (by exact HB.out)).mono ?_; rintro e w2 ⟨rfl, hx2⟩; obtain ⟨r0, r1, r2, r3, r4, r5, r6, r7, r8, r9⟩ := req_cells (hx2.block (by exact HR.out)))
  refine wpAny_ready (rs := [5]) (by kernel_rfl) (by simp) ?_
  refine AllReady.cons rfl (fun K hK => ?_) AllReady.nil
  go_simp
  refine hK _ _ ?_
  clear hK K
  refine wpAny_ready (rs := [6]) (by kernel_rfl) (by simp) ?_
  refine AllReady.cons rfl (fun K hK => ?_) AllReady.nil
  go_simp
  refine hK _ _ ?_
  clear hK K
  refine wpAny_ready (rs := [7]) (by kernel_rfl) (by simp) ?_
  refine AllReady.cons rfl (fun K hK => ?_) AllReady.nil
  go_simp
  refine hK _ _ ?_
  clear hK K
  refine wpAny_ready (rs := [8]) (by kernel_rfl) (by simp) ?_
  refine AllReady.cons rfl (fun K hK => ?_) AllReady.nil
  go_simp
  refine hK _ _ ?_
  clear hK K
  refine wpAny_ready (rs := [9]) (by kernel_rfl) (by simp) ?_
  refine AllReady.cons rfl (fun K hK => ?_) AllReady.nil
  go_simp
  refine hK _ _ ?_
  clear hK K
  refine wpAny_ready (rs := [10]) (by kernel_rfl) (by simp) ?_
  refine AllReady.cons rfl (fun K hK => ?_) AllReady.nil
  go_simp
  refine hK _ _ ?_
  clear hK K
  refine wpAny_ready (rs := [11]) (by kernel_rfl) (by simp) ?_
  refine AllReady.cons rfl (fun K hK => ?_) AllReady.nil
  go_simp
  refine hK _ _ ?_
  clear hK K
  refine wpAny_ready (rs := [12]) (by kernel_rfl) (by simp) ?_
  refine AllReady.cons rfl (fun K hK => ?_) AllReady.nil
  go_simp
  refine hK _ _ ?_
  clear hK K
  refine wpAny_ready (rs := [13]) (by kernel_rfl) (by simp) ?_
  refine AllReady.cons rfl (fun K hK => ?_) AllReady.nil
  go_simp
  refine hK _ _ ?_
  clear hK K
  refine wpAny_done (by kernel_rfl) ?_ _
  go_wp2
  go_ret2
  exact ⟨rfl, HX.trans (Ext.drew (Ext.refl _) |>.trans hx2)⟩
 ·go_simp
  refine hK _ _ ?_
  clear hK K
  refine wpAny_ready (rs := [4]) (by kernel_rfl) (by simp) ?_
  refine AllReady.cons rfl (fun K hK => ?_) AllReady.nil
  go_simp
  go_wp2_with (go_at_call 219; refine (releasePlain_c b s i _ (by exact HB.out)).mono ?_; rintro e w2 ⟨rfl, hx2⟩; obtain ⟨r0, r1, r2, r3, r4, r5, r6, r7, r8, r9⟩ := req_cells (hx2.block (by exact HR.out)))
  refine wpAny_ready (rs := [6]) (by kernel_rfl) (by simp) ?_
  refine AllReady.cons rfl (fun K hK => ?_) AllReady.nil
  go_simp
  refine hK _ _ ?_
  clear hK K
  refine wpAny_ready (rs := [7]) (by kernel_rfl) (by simp) ?_
  refine AllReady.cons rfl (fun K hK => ?_) AllReady.nil
  go_simp
  refine hK _ _ ?_
  clear hK K
  refine wpAny_ready (rs := [8]) (by kernel_rfl) (by simp) ?_
  refine AllReady.cons rfl (fun K hK => ?_) AllReady.nil
  go_simp
  refine hK _ _ ?_
  clear hK K
  refine wpAny_ready (rs := [9]) (by kernel_rfl) (by simp) ?_
  refine AllReady.cons rfl (fun K hK => ?_) AllReady.nil
  go_simp
  refine hK _ _ ?_
  clear hK K
  refine wpAny_ready (rs := [10]) (by kernel_rfl) (by simp) ?_
  refine AllReady.cons rfl (fun K hK => ?_) AllReady.nil
  go_simp
  refine hK _ _ ?_
  clear hK K
  refine wpAny_ready (rs := [11]) (by kernel_rfl) (by simp) ?_
  refine AllReady.cons rfl (fun K hK => ?_) AllReady.nil
  go_simp
  refine hK _ _ ?_
  clear hK K
  refine wpAny_ready (rs := [12]) (by kernel_rfl) (by simp) ?_
  refine AllReady.cons rfl (fun K hK => ?_) AllReady.nil
  go_simp
  refine hK _ _ ?_
  clear hK K
  refine wpAny_ready (rs := [13]) (by kernel_rfl) (by simp) ?_
  refine AllReady.cons rfl (fun K hK => ?_) AllReady.nil
  go_simp
  refine hK _ _ ?_
  clear hK K
  refine wpAny_done (by kernel_rfl) ?_ _
  go_wp2
  go_ret2
  exact ⟨rfl, HX.trans (Ext.drew (Ext.refl _) |>.trans hx2)⟩
theorem vals_release {W : World} {b : Nat} {s i : Int} {vals : Nat -> Int} (hW : W.heap[b]? = some (.cells #[.int .i64 s, .int .i64 i] 214 (0, 0))) (hv : vals 0 = s /\ vals 1 = i) : ∀ x ∈ releaseL, W.cell? ⟨b, x.1, none⟩ = some (.int .i64 (vals x.1)) := by
 obtain ⟨v0, v1⟩ := hv
 intro x hx
 simp only [releaseL, List.mem_cons, List.not_mem_nil, or_false] at hx
 rcases hx with rfl | rfl
 ·show W.cell? ⟨b, 0, none⟩ = some (.int .i64 (vals 0)); rw [v0]; exact cell_at hW rfl
 ·show W.cell? ⟨b, 1, none⟩ = some (.int .i64 (vals 1)); rw [v1]; exact cell_at hW rfl
/-- One that bears nothing besides: it fits, or not. -/
theorem check_3b (s i : Int) (vals : Nat -> Int) (hv : vals 0 = s /\ vals 1 = i) (w : World) :
  Calls Tryz.prog 55 #[.agg #[.int .i64 3, .int .i64 s, .int .i64 i, .int .i64 0, .int .i64 0, .int .i64 0, .int .i64 0, .int .i64 0, .int .i64 0, .int .i64 0]] w fun e w' =>
   (fitB vals releaseL = true /\ ∃ b, e = .returned (.tuple #[.iface 205 (.pointer (some ⟨b, 0, none⟩)), .int .i64 0]) /\ w.heap.size <= b /\ w'.heap[b]? = some (.cells #[.int .i64 s, .int .i64 i] 214 (0, 0)) /\ Ext w w') \/
   (fitB vals releaseL = false /\ e = .returned (.tuple #[.nilIface, .int .i64 1]) /\ Ext w w') := by
 have HV : Hid (vals 0 = s /\ vals 1 = i) := hv
 have hm1 := m_releasePlain
 have hm2 := m_releaseFields
 have heq := eqReq
 clear hv
 go_enter Tryz.func55, Tryz.ntmps55
 go_wp2_with (go_at_call 84; refine (ofKind_3 s i 0 0 0 0 0 0 0 _).mono ?_; rintro e w1 ⟨b, rfl, hb, hlt, hx⟩)
 have HLB : Hid (w.heap.size <= b) := by
  show w.heap.size <= b
  have hlt' := hlt
  simp at hlt'
  omega
 have hr := hx.block (at_new rfl)
 have HR : Hid _ := hr
 have HB : Hid _ := hb
 have HX : Ext w w1 := (Ext.refl w).alloc _ |>.trans hx
 obtain ⟨q0, q1, q2, q3, q4, q5, q6, q7, q8, q9⟩ := req_cells hr
 clear hr hb hx
 have HVV : Hid _ := fun (W : World) hW => vals_release (W := W) (b := b) hW HV.out
 cases HB2 : fitB vals releaseL
 all_goals
  have HFB : Hid _ := HB2
  clear HB2
  go_region_with (first
   | (go_at_call 219; refine (releasePlain_c b s i _ (by exact HB.out)).mono ?_; rintro e w2 ⟨rfl, hx2⟩; obtain ⟨r0, r1, r2, r3, r4, r5, r6, r7, r8, r9⟩ := req_cells (hx2.block (by exact HR.out)))
   | (go_at_call 220; refine (releaseFields_c b _).mono ?_; rintro e w3 ⟨g, cap, rfl, ho, hx3⟩)
   | (go_at_call 85; refine (fit_c b g cap 2 _ releaseL vals _ rfl (by decide) ho ?_).mono ?_; exact HVV.out _ (hx3.block (by exact hx2.block (by exact HB.out))); rw [HFB.out]; rintro e w4 ⟨rfl, hx4⟩))
  all_goals go_wp2
  all_goals go_ret2
 ·exact .inr ⟨HFB.out, rfl, HX.trans ((Ext.refl _).drew.trans (hx2.trans (hx3.trans hx4)))⟩
 ·exact .inr ⟨HFB.out, rfl, HX.trans ((Ext.refl _).drew.trans (hx2.trans (hx3.trans hx4)))⟩
 ·exact .inl ⟨HFB.out, b, rfl, HLB.out, (hx2.trans (hx3.trans hx4)).block (by exact HB.out), HX.trans ((Ext.refl _).drew.trans (hx2.trans (hx3.trans hx4)))⟩
 ·exact .inl ⟨HFB.out, b, rfl, HLB.out, (hx2.trans (hx3.trans hx4)).block (by exact HB.out), HX.trans ((Ext.refl _).drew.trans (hx2.trans (hx3.trans hx4)))⟩
end
-- Chk4
section
set_option maxRecDepth 100000
set_option maxHeartbeats 1600000
open Go.RowKit
/-- A request that bears something that it does not use. -/
theorem check_4a (s i ck cm cl cn f c p : Int) (h : ((0 == s && (0 == i && (0 == f && (0 == c && 0 == p))))) = false) (w : World) :
  Calls Tryz.prog 55 #[.agg #[.int .i64 4, .int .i64 s, .int .i64 i, .int .i64 ck, .int .i64 cm, .int .i64 cl, .int .i64 cn, .int .i64 f, .int .i64 c, .int .i64 p]] w fun e w' => e = .returned (.tuple #[.nilIface, .int .i64 1]) /\ Ext w w' := by
 have hm1 := m_statusPlain
 have heq := eqReq
 go_enter Tryz.func55, Tryz.ntmps55
 go_wp2_with (go_at_call 84; refine (ofKind_4 s i ck cm cl cn f c p _).mono ?_; rintro e w1 ⟨b, rfl, hb, hlt, hx⟩)
 have hr := hx.block (at_new rfl)
 have HR : Hid _ := hr
 have HB : Hid _ := hb
 have HX : Ext w w1 := (Ext.refl w).alloc _ |>.trans hx
 obtain ⟨q0, q1, q2, q3, q4, q5, q6, q7, q8, q9⟩ := req_cells hr
 clear hr hb hx
 refine wp_region_any (by kernel_rfl) ?_
 change wpAny _ _ _ _ _ _ _ (World.drew _)
 refine wpAny_ready (rs := [0]) (by kernel_rfl) (by simp) ?_
 refine AllReady.cons rfl (fun K hK => ?_) AllReady.nil
 go_simp
 refine hK _ _ ?_
 clear hK K
 refine wpAny_ready (rs := [1]) (by kernel_rfl) (by simp) ?_
 refine AllReady.cons rfl (fun K hK => ?_) AllReady.nil
 go_simp
 refine hK _ _ ?_
 clear hK K
 refine wpAny_ready (rs := [2]) (by kernel_rfl) (by simp) ?_
 refine AllReady.cons rfl (fun K hK => ?_) AllReady.nil
 go_simp
 refine hK _ _ ?_
 clear hK K
 refine wpAny_take (i := 3) (v := .iface 207 (.pointer (some ⟨b, 0, none⟩))) rfl (by kernel_rfl) (by kernel_rfl) (by kernel_rfl) (fun _ _ _ h => h) (Or.inl ⟨by rfl, by intro w; go_simp⟩) ?_
 refine wpAny_ready (rs := [4, 5]) (by kernel_rfl) (by simp) ?_
 refine AllReady.cons rfl (fun K hK => ?_) (AllReady.cons rfl (fun K hK => ?_) AllReady.nil)
 ·go_simp
  go_wp2_with (go_at_call 221; refine (statusPlain_c b ck cm cl cn _ (by exact HB.out)).mono ?_; rintro e w2 ⟨rfl, hx2⟩; obtain ⟨r0, r1, r2, r3, r4, r5, r6, r7, r8, r9⟩ := req_cells (hx2.block (by exact HR.out)))
  refine wpAny_ready (rs := [5]) (by kernel_rfl) (by simp) ?_
  refine AllReady.cons rfl (fun K hK => ?_) AllReady.nil
  go_simp
  refine hK _ _ ?_
  clear hK K
  refine wpAny_ready (rs := [6]) (by kernel_rfl) (by simp) ?_
  refine AllReady.cons rfl (fun K hK => ?_) AllReady.nil
  go_simp
  refine hK _ _ ?_
  clear hK K
  refine wpAny_ready (rs := [7]) (by kernel_rfl) (by simp) ?_
  refine AllReady.cons rfl (fun K hK => ?_) AllReady.nil
  go_simp
  refine hK _ _ ?_
  clear hK K
  refine wpAny_ready (rs := [8]) (by kernel_rfl) (by simp) ?_
  refine AllReady.cons rfl (fun K hK => ?_) AllReady.nil
  go_simp
  refine hK _ _ ?_
  clear hK K
  refine wpAny_ready (rs := [9]) (by kernel_rfl) (by simp) ?_
  refine AllReady.cons rfl (fun K hK => ?_) AllReady.nil
  go_simp
  refine hK _ _ ?_
  clear hK K
  refine wpAny_ready (rs := [10]) (by kernel_rfl) (by simp) ?_
  refine AllReady.cons rfl (fun K hK => ?_) AllReady.nil
  go_simp
  refine hK _ _ ?_
  clear hK K
  refine wpAny_ready (rs := [11]) (by kernel_rfl) (by simp) ?_
  refine AllReady.cons rfl (fun K hK => ?_) AllReady.nil
  go_simp
  refine hK _ _ ?_
  clear hK K
  refine wpAny_ready (rs := [12]) (by kernel_rfl) (by simp) ?_
  refine AllReady.cons rfl (fun K hK => ?_) AllReady.nil
  go_simp
  refine hK _ _ ?_
  clear hK K
  refine wpAny_ready (rs := [13]) (by kernel_rfl) (by simp) ?_
  refine AllReady.cons rfl (fun K hK => ?_) AllReady.nil
  go_simp
  refine hK _ _ ?_
  clear hK K
  refine wpAny_done (by kernel_rfl) ?_ _
  go_wp2
  go_ret2
  exact ⟨rfl, HX.trans (Ext.drew (Ext.refl _) |>.trans hx2)⟩
 ·go_simp
  refine hK _ _ ?_
  clear hK K
  refine wpAny_ready (rs := [4]) (by kernel_rfl) (by simp) ?_
  refine AllReady.cons rfl (fun K hK => ?_) AllReady.nil
  go_simp
  go_wp2_with (go_at_call 221; refine (statusPlain_c b ck cm cl cn _ (by exact HB.out)).mono ?_; rintro e w2 ⟨rfl, hx2⟩; obtain ⟨r0, r1, r2, r3, r4, r5, r6, r7, r8, r9⟩ := req_cells (hx2.block (by exact HR.out)))
  refine wpAny_ready (rs := [6]) (by kernel_rfl) (by simp) ?_
  refine AllReady.cons rfl (fun K hK => ?_) AllReady.nil
  go_simp
  refine hK _ _ ?_
  clear hK K
  refine wpAny_ready (rs := [7]) (by kernel_rfl) (by simp) ?_
  refine AllReady.cons rfl (fun K hK => ?_) AllReady.nil
  go_simp
  refine hK _ _ ?_
  clear hK K
  refine wpAny_ready (rs := [8]) (by kernel_rfl) (by simp) ?_
  refine AllReady.cons rfl (fun K hK => ?_) AllReady.nil
  go_simp
  refine hK _ _ ?_
  clear hK K
  refine wpAny_ready (rs := [9]) (by kernel_rfl) (by simp) ?_
  refine AllReady.cons rfl (fun K hK => ?_) AllReady.nil
  go_simp
  refine hK _ _ ?_
  clear hK K
  refine wpAny_ready (rs := [10]) (by kernel_rfl) (by simp) ?_
  refine AllReady.cons rfl (fun K hK => ?_) AllReady.nil
  go_simp
  refine hK _ _ ?_
  clear hK K
  refine wpAny_ready (rs := [11]) (by kernel_rfl) (by simp) ?_
  refine AllReady.cons rfl (fun K hK => ?_) AllReady.nil
  go_simp
  refine hK _ _ ?_
  clear hK K
  refine wpAny_ready (rs := [12]) (by kernel_rfl) (by simp) ?_
  refine AllReady.cons rfl (fun K hK => ?_) AllReady.nil
  go_simp
  refine hK _ _ ?_
  clear hK K
  refine wpAny_ready (rs := [13]) (by kernel_rfl) (by simp) ?_
  refine AllReady.cons rfl (fun K hK => ?_) AllReady.nil
  go_simp
  refine hK _ _ ?_
  clear hK K
  refine wpAny_done (by kernel_rfl) ?_ _
  go_wp2
  go_ret2
  exact ⟨rfl, HX.trans (Ext.drew (Ext.refl _) |>.trans hx2)⟩
theorem vals_status {W : World} {b : Nat} {ck cm cl cn : Int} {vals : Nat -> Int} (hW : W.heap[b]? = some (.cells #[.int .i64 ck, .int .i64 cm, .int .i64 cl, .int .i64 cn] 216 (0, 0))) (hv : vals 0 = ck /\ vals 1 = cm /\ vals 2 = cl /\ vals 3 = cn) : ∀ x ∈ statusL, W.cell? ⟨b, x.1, none⟩ = some (.int .i64 (vals x.1)) := by
 obtain ⟨v0, v1, v2, v3⟩ := hv
 intro x hx
 simp only [statusL, List.mem_cons, List.not_mem_nil, or_false] at hx
 rcases hx with rfl | rfl | rfl | rfl
 ·show W.cell? ⟨b, 0, none⟩ = some (.int .i64 (vals 0)); rw [v0]; exact cell_at hW rfl
 ·show W.cell? ⟨b, 1, none⟩ = some (.int .i64 (vals 1)); rw [v1]; exact cell_at hW rfl
 ·show W.cell? ⟨b, 2, none⟩ = some (.int .i64 (vals 2)); rw [v2]; exact cell_at hW rfl
 ·show W.cell? ⟨b, 3, none⟩ = some (.int .i64 (vals 3)); rw [v3]; exact cell_at hW rfl
/-- One that bears nothing besides: it fits, or not. -/
theorem check_4b (ck cm cl cn : Int) (vals : Nat -> Int) (hv : vals 0 = ck /\ vals 1 = cm /\ vals 2 = cl /\ vals 3 = cn) (w : World) :
  Calls Tryz.prog 55 #[.agg #[.int .i64 4, .int .i64 0, .int .i64 0, .int .i64 ck, .int .i64 cm, .int .i64 cl, .int .i64 cn, .int .i64 0, .int .i64 0, .int .i64 0]] w fun e w' =>
   (fitB vals statusL = true /\ ∃ b, e = .returned (.tuple #[.iface 207 (.pointer (some ⟨b, 0, none⟩)), .int .i64 0]) /\ w.heap.size <= b /\ w'.heap[b]? = some (.cells #[.int .i64 ck, .int .i64 cm, .int .i64 cl, .int .i64 cn] 216 (0, 0)) /\ Ext w w') \/
   (fitB vals statusL = false /\ e = .returned (.tuple #[.nilIface, .int .i64 1]) /\ Ext w w') := by
 have HV : Hid (vals 0 = ck /\ vals 1 = cm /\ vals 2 = cl /\ vals 3 = cn) := hv
 have hm1 := m_statusPlain
 have hm2 := m_statusFields
 have heq := eqReq
 clear hv
 go_enter Tryz.func55, Tryz.ntmps55
 go_wp2_with (go_at_call 84; refine (ofKind_4 0 0 ck cm cl cn 0 0 0 _).mono ?_; rintro e w1 ⟨b, rfl, hb, hlt, hx⟩)
 have HLB : Hid (w.heap.size <= b) := by
  show w.heap.size <= b
  have hlt' := hlt
  simp at hlt'
  omega
 have hr := hx.block (at_new rfl)
 have HR : Hid _ := hr
 have HB : Hid _ := hb
 have HX : Ext w w1 := (Ext.refl w).alloc _ |>.trans hx
 obtain ⟨q0, q1, q2, q3, q4, q5, q6, q7, q8, q9⟩ := req_cells hr
 clear hr hb hx
 have HVV : Hid _ := fun (W : World) hW => vals_status (W := W) (b := b) hW HV.out
 cases HB2 : fitB vals statusL
 all_goals
  have HFB : Hid _ := HB2
  clear HB2
  go_region_with (first
   | (go_at_call 221; refine (statusPlain_c b ck cm cl cn _ (by exact HB.out)).mono ?_; rintro e w2 ⟨rfl, hx2⟩; obtain ⟨r0, r1, r2, r3, r4, r5, r6, r7, r8, r9⟩ := req_cells (hx2.block (by exact HR.out)))
   | (go_at_call 222; refine (statusFields_c b _).mono ?_; rintro e w3 ⟨g, cap, rfl, ho, hx3⟩)
   | (go_at_call 85; refine (fit_c b g cap 4 _ statusL vals _ rfl (by decide) ho ?_).mono ?_; exact HVV.out _ (hx3.block (by exact hx2.block (by exact HB.out))); rw [HFB.out]; rintro e w4 ⟨rfl, hx4⟩))
  all_goals go_wp2
  all_goals go_ret2
 ·exact .inr ⟨HFB.out, rfl, HX.trans ((Ext.refl _).drew.trans (hx2.trans (hx3.trans hx4)))⟩
 ·exact .inr ⟨HFB.out, rfl, HX.trans ((Ext.refl _).drew.trans (hx2.trans (hx3.trans hx4)))⟩
 ·exact .inl ⟨HFB.out, b, rfl, HLB.out, (hx2.trans (hx3.trans hx4)).block (by exact HB.out), HX.trans ((Ext.refl _).drew.trans (hx2.trans (hx3.trans hx4)))⟩
 ·exact .inl ⟨HFB.out, b, rfl, HLB.out, (hx2.trans (hx3.trans hx4)).block (by exact HB.out), HX.trans ((Ext.refl _).drew.trans (hx2.trans (hx3.trans hx4)))⟩
end
-- GAk
section
set_option maxRecDepth 100000
set_option maxHeartbeats 1600000
open Go.RowKit Go.Maps
def reqV (kk s i kd m k n f c p : Int) : Value := .agg #[.int .i64 kk, .int .i64 s, .int .i64 i, .int .i64 kd, .int .i64 m, .int .i64 k, .int .i64 n, .int .i64 f, .int .i64 c, .int .i64 p]
theorem dealerBad_c (B : Nat) (w : World) :
  Calls Tryz.prog 54 #[.pointer (some ⟨B, 0, none⟩), .nilIface, .int .i64 1] w fun e w' => e = .returned (replyV 1 0 0 (.slice none 0 0)) /\ Ext w w' := by
 unfold replyV
 go_enter Tryz.func54, Tryz.ntmps54
 go_wp2
 have hr2 : (w.alloc (.cells #[.int .i64 0, .int .i64 0, .int .i64 0, .slice none 0 0] 33)).heap[w.heap.size]? = some (.cells #[.int .i64 0, .int .i64 0, .int .i64 0, .slice none 0 0] 33 (0, 0)) := heap_alloc_new _ _
 have o0 := cell_at hr2 (i := 0) rfl
 have o1 := cell_at hr2 (i := 1) rfl
 have o2 := cell_at hr2 (i := 2) rfl
 have o3 := cell_at hr2 (i := 3) rfl
 refine bodyPost_ret (v := .agg #[.int .i64 1, .int .i64 0, .int .i64 0, .slice none 0 0]) (by simp [results, Tryz.results54, go_sem]) rfl ⟨rfl, ?_⟩
 first
  | exact ext4 ((Ext.refl w).alloc _) (Nat.le_refl _) _ _ _ _
  | exact (Ext.refl w).alloc _
/-- Ask, of a request that Check gives as one of the types. -/
theorem askOk_c {F : Nat -> Prop} {n0 : Nat} {Pp : World -> World -> Int -> Int -> Int -> Value -> Prop} (hok : AnsOk F n0 Pp) (B : Nat) (tt : TypeId) (Q : World -> Nat -> Prop) (kk s i kd m k n f c p : Int) (w : World) (hn0 : n0 <= w.heap.size)
  (hck : ∀ w', Ext w w' -> Calls Tryz.prog 55 #[.agg #[.int .i64 kk, .int .i64 s, .int .i64 i, .int .i64 kd, .int .i64 m, .int .i64 k, .int .i64 n, .int .i64 f, .int .i64 c, .int .i64 p]] w' fun e w'' => ∃ rb, e = .returned (.tuple #[.iface tt (.pointer (some ⟨rb, 0, none⟩)), .int .i64 0]) /\ w'.heap.size <= rb /\ Q w'' rb /\ Ext w' w'')
  (hin : ∀ w' rb, Ext w w' -> w.heap.size <= rb -> Q w' rb -> Answers 54 #[.pointer (some ⟨B, 0, none⟩), .iface tt (.pointer (some ⟨rb, 0, none⟩)), .int .i64 0] w' Pp) :
  Answers 20 #[.pointer (some ⟨B, 0, none⟩), reqV kk s i kd m k n f c p] w Pp := by
 unfold Answers at *
 have HOk : Hid (AnsOk F n0 Pp) := hok
 have HC : Hid (∀ w', Ext w w' -> _) := hck
 have HIn : Hid (∀ w' rb, Ext w w' -> w.heap.size <= rb -> Q w' rb -> _) := hin
 clear hok hck hin
 unfold replyV at HIn ⊢
 unfold reqV
 go_enter Tryz.func20, Tryz.ntmps20
 go_wp2_with fail
 have hres0 : ((w.alloc (.cells #[.int .i64 kk, .int .i64 s, .int .i64 i, .int .i64 kd, .int .i64 m, .int .i64 k, .int .i64 n, .int .i64 f, .int .i64 c, .int .i64 p] 51)).alloc (.cells #[.int .i64 0, .int .i64 0, .int .i64 0, .slice none 0 0] 33)).heap[w.heap.size + 1]? = some (.cells #[.int .i64 0, .int .i64 0, .int .i64 0, .slice none 0 0] 33 (0, 0)) := at_new (by simp)
 have hXW : Ext w ((w.alloc (.cells #[.int .i64 kk, .int .i64 s, .int .i64 i, .int .i64 kd, .int .i64 m, .int .i64 k, .int .i64 n, .int .i64 f, .int .i64 c, .int .i64 p] 51)).alloc (.cells #[.int .i64 0, .int .i64 0, .int .i64 0, .slice none 0 0] 33)) := ((Ext.refl w).alloc _).alloc _
 generalize World.alloc (World.alloc w _) _ = W at hres0 hXW ⊢
 refine (HC.out W hXW).mono ?_
 rintro e w1 ⟨rb, rfl, hrb, hq, hx1⟩
 have hres1 := hx1.block hres0
 have hl1 := (Array.getElem?_eq_some_iff.1 hres1).1
 have HX1 : Hid (Ext w w1) := hXW.trans hx1
 have HQ : Hid (Q w1 rb) := hq
 have hrb2 : w.heap.size <= rb := Nat.le_trans hXW.le hrb
 have HRS : Hid _ := hres1
 clear hx1 hXW hq hres0 hres1 hrb
 go_wp2_with fail
 refine (HIn.out _ rb HX1.out hrb2 HQ.out).mono ?_
 rintro e w2 ⟨cc, cf, cn, va, vl, vc, rfl, hl2⟩
 have HL2 : Hid _ := hl2
 have q3 := HOk.out.turn _ _ _ _ _ _ hl2
 have hr2 : w2.heap[w.heap.size + 1]? = some (.cells #[.int .i64 0, .int .i64 0, .int .i64 0, .slice none 0 0] 33 (0, 0)) := q3.ref HRS.out (fun e => by have := HOk.out.lt _ e; omega)
 have o0 := cell_at hr2 (i := 0) rfl
 have o1 := cell_at hr2 (i := 1) rfl
 have o2 := cell_at hr2 (i := 2) rfl
 have o3 := cell_at hr2 (i := 3) rfl
 have f0 := frozen_row hr2 0
 have f1 := frozen_row hr2 1
 have f2 := frozen_row hr2 2
 have f3 := frozen_row hr2 3
 clear q3 hr2 hl2
 go_wp2
 refine bodyPost_ret (v := .agg #[.int .i64 cc, .int .i64 cf, .int .i64 cn, .slice va vl vc]) (by simp [results, Tryz.results20, go_sem, o0, o1, o2, o3]) rfl ⟨cc, cf, cn, va, vl, vc, rfl, ?_⟩
 exact HOk.out.step _ _ _ _ (w.heap.size + 1) _ _ _ _ hn0 HX1.out HL2.out (set4' (Ext.refl _) _ _ _ _) (by omega) hl1
/-- Ask, of what is not well formed. -/
theorem askBad_c (B : Nat) (kk s i kd m k n f c p : Int) (w : World)
  (hck : ∀ w', Ext w w' -> Calls Tryz.prog 55 #[.agg #[.int .i64 kk, .int .i64 s, .int .i64 i, .int .i64 kd, .int .i64 m, .int .i64 k, .int .i64 n, .int .i64 f, .int .i64 c, .int .i64 p]] w' fun e w'' => e = .returned (.tuple #[.nilIface, .int .i64 1]) /\ Ext w' w'') :
  Calls Tryz.prog 20 #[.pointer (some ⟨B, 0, none⟩), reqV kk s i kd m k n f c p] w fun e w' => e = .returned (replyV 1 0 0 (.slice none 0 0)) /\ Ext w w' := by
 have HC : Hid (∀ w', Ext w w' -> _) := hck
 have HD : Hid (∀ w', _) := fun w' => dealerBad_c B w'
 clear hck
 unfold replyV at HD ⊢
 unfold reqV
 go_enter Tryz.func20, Tryz.ntmps20
 go_wp2_with fail
 have hres0 : ((w.alloc (.cells #[.int .i64 kk, .int .i64 s, .int .i64 i, .int .i64 kd, .int .i64 m, .int .i64 k, .int .i64 n, .int .i64 f, .int .i64 c, .int .i64 p] 51)).alloc (.cells #[.int .i64 0, .int .i64 0, .int .i64 0, .slice none 0 0] 33)).heap[w.heap.size + 1]? = some (.cells #[.int .i64 0, .int .i64 0, .int .i64 0, .slice none 0 0] 33 (0, 0)) := at_new (by simp)
 have hXW : Ext w ((w.alloc (.cells #[.int .i64 kk, .int .i64 s, .int .i64 i, .int .i64 kd, .int .i64 m, .int .i64 k, .int .i64 n, .int .i64 f, .int .i64 c, .int .i64 p] 51)).alloc (.cells #[.int .i64 0, .int .i64 0, .int .i64 0, .slice none 0 0] 33)) := ((Ext.refl w).alloc _).alloc _
 generalize World.alloc (World.alloc w _) _ = W at hres0 hXW ⊢
 refine (HC.out W hXW).mono ?_
 rintro e w1 ⟨rfl, hx1⟩
 have HX1 : Hid (Ext w w1) := hXW.trans hx1
 have HRS : Hid _ := hx1.block hres0
 clear hx1 hXW hres0
 go_wp2_with fail
 refine (HD.out _).mono ?_
 rintro e w2 ⟨rfl, hx2⟩
 have hr2 := hx2.block HRS.out
 have o0 := cell_at hr2 (i := 0) rfl
 have o1 := cell_at hr2 (i := 1) rfl
 have o2 := cell_at hr2 (i := 2) rfl
 have o3 := cell_at hr2 (i := 3) rfl
 have f0 := frozen_row hr2 0
 have f1 := frozen_row hr2 1
 have f2 := frozen_row hr2 2
 have f3 := frozen_row hr2 3
 have HX2 : Hid (Ext w w2) := HX1.out.trans hx2
 clear hr2 hx2
 go_wp2
 refine bodyPost_ret (v := .agg #[.int .i64 1, .int .i64 0, .int .i64 0, .slice none 0 0]) (by simp [results, Tryz.results20, go_sem, o0, o1, o2, o3]) rfl ⟨rfl, ?_⟩
 exact ext4 HX2.out (by omega) _ _ _ _
end
end Go.Proofs.YtmnjhhachdlmkaaGreat
