import Derived.Test.YtmnjhhachdlmkaaRight
import Derived.Test.YtmnjhhachdlmkaaChkA
import Derived.Test.YtmnjhhachdlmkaaRefW
import Derived.Test.YtmnjhhachdlmkaaDec
namespace Go.Proofs.Ytmnjhhachdlmkaa
open Go.RowKit

set_option maxRecDepth 100000 in
set_option maxHeartbeats 800000 in
theorem check_no (k s i ck cm cl cn f c p : Int) (h1 : (k == 1) = false) (h2 : (k == 2) = false) (h3 : (k == 3) = false) (h4 : (k == 4) = false) (w : World) :
    Calls Try.prog 22 #[.agg #[.int .i64 k, .int .i64 s, .int .i64 i, .int .i64 ck, .int .i64 cm, .int .i64 cl, .int .i64 cn, .int .i64 f, .int .i64 c, .int .i64 p]] w fun e w' =>
      e = .returned (.tuple #[.nilIface, .int .i64 1]) ∧ Ext w w' := by
  go_enter Try.func22, Try.ntmps22
  go_wp2_with (go_at_call 36; refine (ofKind_no k s i ck cm cl cn f c p h1 h2 h3 h4 _).mono ?_; rintro e w1 ⟨rfl, hx⟩)
  have HX : Ext w w1 := (Ext.refl w).alloc _ |>.trans hx
  clear hx
  go_quiet (fail)
  go_wp2
  go_ret2
  exact ⟨rfl, HX.drewN _⟩

set_option maxRecDepth 100000 in
theorem dealerWrite_bad (k s i ck cm cl cn f c p : Int)
    (hc : ∀ w, Calls Try.prog 22 #[.agg #[.int .i64 k, .int .i64 s, .int .i64 i, .int .i64 ck, .int .i64 cm, .int .i64 cl, .int .i64 cn, .int .i64 f, .int .i64 c, .int .i64 p]] w fun e w' => e = .returned (.tuple #[.nilIface, .int .i64 1]) ∧ Ext w w') (w : World) :
    Calls Try.prog 6 #[.agg #[.int .i64 k, .int .i64 s, .int .i64 i, .int .i64 ck, .int .i64 cm, .int .i64 cl, .int .i64 cn, .int .i64 f, .int .i64 c, .int .i64 p]] w fun e w' => e = .returned (.tuple #[.string ⟨#[]⟩, .int .i64 1]) ∧ Ext w w' := by
  have HC : Hid (∀ w, Calls _ _ _ w _) := hc
  clear hc
  go_enter Try.func6, Try.ntmps6
  go_wp2_with (go_at_call 22; refine (HC.out _).mono ?_; rintro e w1 ⟨rfl, hx⟩)
  go_ret2
  exact ⟨rfl, (Ext.refl w).alloc _ |>.trans hx⟩

set_option maxRecDepth 100000 in
theorem refWrite_bad (k s i ck cm cl cn f c p : Int)
    (hc : ∀ w, Calls Try.prog 24 #[.agg #[.int .i64 k, .int .i64 s, .int .i64 i, .int .i64 ck, .int .i64 cm, .int .i64 cl, .int .i64 cn, .int .i64 f, .int .i64 c, .int .i64 p]] w fun e w' => e = .returned (.bool false) ∧ Ext w w') (w : World) :
    Calls Try.prog 7 #[.agg #[.int .i64 k, .int .i64 s, .int .i64 i, .int .i64 ck, .int .i64 cm, .int .i64 cl, .int .i64 cn, .int .i64 f, .int .i64 c, .int .i64 p]] w fun e w' => e = .returned (.tuple #[.string ⟨#[]⟩, .int .i64 1]) ∧ Ext w w' := by
  have HC : Hid (∀ w, Calls _ _ _ w _) := hc
  clear hc
  go_enter Try.func7, Try.ntmps7
  go_wp2_with (go_at_call 24; refine (HC.out _).mono ?_; rintro e w1 ⟨rfl, hx⟩)
  go_ret2
  exact ⟨rfl, (Ext.refl w).alloc _ |>.trans hx⟩

set_option maxRecDepth 100000 in
theorem wireRead_empty (s : ByteArray) (h : s.toList.isEmpty = true) (w : World) : Calls Try.prog 27 #[.string s] w fun e w' => e = .returned (.tuple #[.nilIface, .int .i64 1]) ∧ Ext w w' := by
  go_enter Try.func27, Try.ntmps27
  go_wp2
  go_ret2
  exact ⟨rfl, Ext.refl w⟩

set_option maxRecDepth 100000 in
set_option maxHeartbeats 800000 in
theorem wireRead_no (s : ByteArray) (_hs : s.size ≤ maxLen) (h1 : 0 < s.size) (hne : s.toList.isEmpty = false) (k : Nat) (hk : (s[0]).toNat = k) (hk2 : k < 256) (k1 : ((k : Int) == 1) = false) (k2 : ((k : Int) == 2) = false) (k3 : ((k : Int) == 3) = false) (k4 : ((k : Int) == 4) = false) (w : World) :
    Calls Try.prog 27 #[.string s] w fun e w' => e = .returned (.tuple #[.nilIface, .int .i64 1]) ∧ Ext w w' := by
  unfold maxLen at _hs
  go_enter Try.func27, Try.ntmps27
  go_wp2_with (go_at_call 36; refine (ofKind_no k 0 0 0 0 0 0 0 0 0 k1 k2 k3 k4 _).mono ?_; rintro e w1 ⟨rfl, hx⟩)
  go_quiet (fail)
  go_wp2
  go_ret2
  exact ⟨rfl, hx.drewN _⟩

set_option maxRecDepth 100000 in
theorem refRead_empty (s : ByteArray) (h : s.toList.isEmpty = true) (w : World) : Calls Try.prog 9 #[.string s] w fun e w' =>
    e = .returned (.tuple #[.agg #[.int .i64 0, .int .i64 0, .int .i64 0, .int .i64 0, .int .i64 0, .int .i64 0, .int .i64 0, .int .i64 0, .int .i64 0, .int .i64 0], .int .i64 1]) ∧ Ext w w' := by
  go_enter Try.func9, Try.ntmps9
  go_wp2
  refine bodyPost_ret (v := .tuple #[.agg #[.int .i64 0, .int .i64 0, .int .i64 0, .int .i64 0, .int .i64 0, .int .i64 0, .int .i64 0, .int .i64 0, .int .i64 0, .int .i64 0], .int .i64 1]) (by simp [results, Try.results9, go_sem]) rfl ⟨rfl, ?_⟩
  repeat (first | exact Ext.refl _ | refine Ext.alloc ?_ _ | refine Ext.setCell ?_ (by simp) _ | refine Ext.drew ?_)

set_option maxRecDepth 100000 in
set_option maxHeartbeats 800000 in
theorem refRead_no (s : ByteArray) (hs : s.size ≤ maxLen) (h1 : 0 < s.size) (hne : s.toList.isEmpty = false) (k : Nat) (hk : (s[0]).toNat = k) (hk2 : k < 256) (hu : usesOf k = ⟨#[]⟩) (w : World) :
    Calls Try.prog 9 #[.string s] w fun e w' =>
      e = .returned (.tuple #[.agg #[.int .i64 0, .int .i64 0, .int .i64 0, .int .i64 0, .int .i64 0, .int .i64 0, .int .i64 0, .int .i64 0, .int .i64 0, .int .i64 0], .int .i64 1]) ∧ Ext w w' := by
  have HU : Hid (usesOf k = ⟨#[]⟩) := hu
  unfold maxLen at hs
  clear hu
  go_enter Try.func9, Try.ntmps9
  go_wp2_with (go_at_call 25; refine (uses_c k _).mono ?_; rw [HU.out]; rintro e w1 ⟨rfl, rfl⟩)
  refine wp_loop_rounds 1 ?_
  rw [rounds_succ]
  go_wp2_with (go_at_call 24; refine (right_no k 0 0 0 0 0 0 0 0 0 HU.out _).mono ?_; rintro e w1 ⟨rfl, hx1⟩; obtain ⟨la, ca0, ca1, ca2, ca3, ca4, ca5, ca6, ca7, ca8, ca9, fa0, fa1, fa2, fa3, fa4, fa5, fa6, fa7, fa8, fa9⟩ := req_all (W := w1) (g := w.heap.size) (t := 25) (v0 := .int .i64 0) (v1 := .int .i64 0) (v2 := .int .i64 0) (v3 := .int .i64 0) (v4 := .int .i64 0) (v5 := .int .i64 0) (v6 := .int .i64 0) (v7 := .int .i64 0) (v8 := .int .i64 0) (v9 := .int .i64 0) (hx1.block (at_old (at_new rfl))))
  refine bodyPost_ret (v := .tuple #[.agg #[.int .i64 0, .int .i64 0, .int .i64 0, .int .i64 0, .int .i64 0, .int .i64 0, .int .i64 0, .int .i64 0, .int .i64 0, .int .i64 0], .int .i64 1]) (by simp [results, Try.results9, go_sem, *]) rfl ⟨rfl, ?_⟩
  repeat (first | (with_reducible exact Ext.refl _) | (with_reducible assumption) | (with_reducible refine Ext.drew ?_) | (with_reducible refine Ext.alloc ?_ _) | (with_reducible refine Ext.setCell ?_ (by simp) _) | (with_reducible (apply Ext.chain; assumption)))
end Go.Proofs.Ytmnjhhachdlmkaa
