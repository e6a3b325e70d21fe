import Derived.Test.YtmnjhhachdlmkaaFieldsA
namespace Go.Proofs.Ytmnjhhachdlmkaa
open Go.RowKit

set_option maxRecDepth 100000 in
set_option maxHeartbeats 8000000 in
theorem leaseFields_c (b : Nat) (w : World) : Calls Try.prog 102 #[.pointer (some ⟨b, 0, none⟩)] w fun e w' => Made w 7 (fl b leaseL) e w' := by
  go_enter Try.func102, Try.ntmps102
  go_wp2
  go_region_with (first
    | (go_at_call_of 104 (2 : Nat); refine (numbers_m _ 2 [⟨b, 0, none⟩, ⟨b, 1, none⟩] _ rfl (by decide) (by decide) ?_).mono ?_; exact ptrs_at _ (by repeat (first | (with_reducible refine at_drew ?_) | ((with_reducible refine at_new ?_); (simp; done)) | (with_reducible refine at_old ?_) | (with_reducible (apply Ext.block; assumption)))) (by rfl); rintro e w1 ⟨g1, cap1, rfl, ho1, hx1⟩)
    | (go_at_call 105; refine (class_m b 2 _).mono ?_; rintro e w2 ⟨g2, cap2, rfl, ho2, hx2⟩)
    | (go_at_call_of 104 (1 : Nat); refine (numbers_m _ 1 [⟨b, 6, none⟩] _ rfl (by decide) (by decide) ?_).mono ?_; exact ptrs_at _ (by repeat (first | (with_reducible refine at_drew ?_) | ((with_reducible refine at_new ?_); (simp; done)) | (with_reducible refine at_old ?_) | (with_reducible (apply Ext.block; assumption)))) (by rfl); rintro e w3 ⟨g3, cap3, rfl, ho3, hx3⟩)
    | (go_at_call 103; refine (concat_m _ 3 [⟨g1, 2, cap1, _⟩, ⟨g2, 4, cap2, _⟩, ⟨g3, 1, cap3, _⟩] _ 7 (fl b leaseL) rfl (by decide) (by decide) rfl (by decide) ?_ (three_ok (ok_of ho1 (by decide) (by decide) (by repeat (first | (with_reducible exact Ext.refl _) | (with_reducible assumption) | (with_reducible refine Ext.drew ?_) | (with_reducible refine Ext.alloc ?_ _) | (with_reducible (apply Ext.chain; assumption))))) (ok_of ho2 (by decide) (by decide) (by repeat (first | (with_reducible exact Ext.refl _) | (with_reducible assumption) | (with_reducible refine Ext.drew ?_) | (with_reducible refine Ext.alloc ?_ _) | (with_reducible (apply Ext.chain; assumption))))) (ok_of ho3 (by decide) (by decide) (by repeat (first | (with_reducible exact Ext.refl _) | (with_reducible assumption) | (with_reducible refine Ext.drew ?_) | (with_reducible refine Ext.alloc ?_ _) | (with_reducible (apply Ext.chain; assumption)))))) ?_).mono ?_; rfl; exact vals_at _ (by with_reducible exact at_new (by simp)) (by rfl); rintro e w4 ⟨g4, cap4, rfl, ho4, hx4⟩))
  all_goals go_wp2
  all_goals go_ret
  all_goals exact ⟨g4, cap4, rfl, owns_base ho4 (Ext.le (by repeat (first | (with_reducible exact Ext.refl _) | (with_reducible assumption) | (with_reducible refine Ext.drew ?_) | (with_reducible refine Ext.alloc ?_ _) | (with_reducible (apply Ext.chain; assumption))))), Ext.trans (by repeat (first | (with_reducible exact Ext.refl _) | (with_reducible assumption) | (with_reducible refine Ext.drew ?_) | (with_reducible refine Ext.alloc ?_ _) | (with_reducible (apply Ext.chain; assumption)))) hx4⟩
end Go.Proofs.Ytmnjhhachdlmkaa
