import Derived.Test.YtmnjhhachdlmkaaLeaves
import Derived.Test.YtmnjhhachdlmkaaEqs
import Derived.BigGuardPart
namespace Go.Proofs.Ytmnjhhachdlmkaa
open Go.RowKit

/-- All its numbers are such as may be. -/
def inB (s i ck cm cl cn f c p : Int) (z : Bool) : Bool := isNum s && (isNum i && (isNum f && (isNum c && (isByt p && (isByt ck && (isByt cm && (isByt cl && (isByt cn && z))))))))

theorem uses_1 (w : World) : Calls Try.prog 25 #[.int .i64 1] w fun e w' => e = .returned (.string ⟨#[83, 73, 75, 67]⟩) ∧ w = w' := uses_c 1 w

set_option maxRecDepth 100000 in
set_option maxHeartbeats 1600000 in
theorem right_1 (s i ck cm cl cn f c p : Int) (w : World) :
    Calls Try.prog 24 #[.agg #[.int .i64 1, .int .i64 s, .int .i64 i, .int .i64 ck, .int .i64 cm, .int .i64 cl, .int .i64 cn, .int .i64 f, .int .i64 c, .int .i64 p]] w fun e w' =>
      e = .returned (.bool (inB s i ck cm cl cn f c p (f == 0 && p == 0))) ∧ Ext w w' := by
  have heq := eqReq
  go_enter Try.func24, Try.ntmps24
  go_wp2_with (go_at_call 25; refine (uses_1 _).mono ?_; rintro e w1 ⟨rfl, rfl⟩)
  refine wp_loop_rounds 5 ?_
  rw [rounds_succ]
  go_wp2
  rw [rounds_succ]
  go_wp2
  rw [rounds_succ]
  go_wp2
  rw [rounds_succ]
  go_wp2
  rw [rounds_succ]
  go_wp2_with (first
    | (go_at_call 39; refine (isNumber_c _ _).mono ?_; rintro e w1 ⟨rfl, rfl⟩)
    | (go_at_call 40; refine (isByte_c _ _).mono ?_; rintro e w1 ⟨rfl, rfl⟩))
  all_goals go_ret
  all_goals refine ⟨ret_bool ?_, ((Ext.refl _).alloc _).alloc _⟩
  all_goals simp [inB, *]

theorem uses_2 (w : World) : Calls Try.prog 25 #[.int .i64 2] w fun e w' => e = .returned (.string ⟨#[83, 75, 70, 67, 80]⟩) ∧ w = w' := uses_c 2 w

set_option maxRecDepth 100000 in
set_option maxHeartbeats 1600000 in
theorem right_2 (s i ck cm cl cn f c p : Int) (w : World) :
    Calls Try.prog 24 #[.agg #[.int .i64 2, .int .i64 s, .int .i64 i, .int .i64 ck, .int .i64 cm, .int .i64 cl, .int .i64 cn, .int .i64 f, .int .i64 c, .int .i64 p]] w fun e w' =>
      e = .returned (.bool (inB s i ck cm cl cn f c p (i == 0))) ∧ Ext w w' := by
  have heq := eqReq
  go_enter Try.func24, Try.ntmps24
  go_wp2_with (go_at_call 25; refine (uses_2 _).mono ?_; rintro e w1 ⟨rfl, rfl⟩)
  refine wp_loop_rounds 6 ?_
  rw [rounds_succ]
  go_wp2
  rw [rounds_succ]
  go_wp2
  rw [rounds_succ]
  go_wp2
  rw [rounds_succ]
  go_wp2
  rw [rounds_succ]
  go_wp2
  rw [rounds_succ]
  go_wp2_with (first
    | (go_at_call 39; refine (isNumber_c _ _).mono ?_; rintro e w1 ⟨rfl, rfl⟩)
    | (go_at_call 40; refine (isByte_c _ _).mono ?_; rintro e w1 ⟨rfl, rfl⟩))
  all_goals go_ret
  all_goals refine ⟨ret_bool ?_, ((Ext.refl _).alloc _).alloc _⟩
  all_goals simp [inB, *]

theorem uses_3 (w : World) : Calls Try.prog 25 #[.int .i64 3] w fun e w' => e = .returned (.string ⟨#[83, 73]⟩) ∧ w = w' := uses_c 3 w

set_option maxRecDepth 100000 in
set_option maxHeartbeats 1600000 in
theorem right_3 (s i ck cm cl cn f c p : Int) (w : World) :
    Calls Try.prog 24 #[.agg #[.int .i64 3, .int .i64 s, .int .i64 i, .int .i64 ck, .int .i64 cm, .int .i64 cl, .int .i64 cn, .int .i64 f, .int .i64 c, .int .i64 p]] w fun e w' =>
      e = .returned (.bool (inB s i ck cm cl cn f c p ((ck == 0 && (cm == 0 && (cl == 0 && cn == 0))) && (f == 0 && (c == 0 && p == 0))))) ∧ Ext w w' := by
  have heq := eqReq
  go_enter Try.func24, Try.ntmps24
  go_wp2_with (go_at_call 25; refine (uses_3 _).mono ?_; rintro e w1 ⟨rfl, rfl⟩)
  refine wp_loop_rounds 3 ?_
  rw [rounds_succ]
  go_wp2
  rw [rounds_succ]
  go_wp2
  rw [rounds_succ]
  go_wp2_with (first
    | (go_at_call 39; refine (isNumber_c _ _).mono ?_; rintro e w1 ⟨rfl, rfl⟩)
    | (go_at_call 40; refine (isByte_c _ _).mono ?_; rintro e w1 ⟨rfl, rfl⟩))
  all_goals go_ret
  all_goals refine ⟨ret_bool ?_, ((Ext.refl _).alloc _).alloc _⟩
  all_goals simp [inB, *]

theorem uses_4 (w : World) : Calls Try.prog 25 #[.int .i64 4] w fun e w' => e = .returned (.string ⟨#[75]⟩) ∧ w = w' := uses_c 4 w

set_option maxRecDepth 100000 in
set_option maxHeartbeats 1600000 in
theorem right_4 (s i ck cm cl cn f c p : Int) (w : World) :
    Calls Try.prog 24 #[.agg #[.int .i64 4, .int .i64 s, .int .i64 i, .int .i64 ck, .int .i64 cm, .int .i64 cl, .int .i64 cn, .int .i64 f, .int .i64 c, .int .i64 p]] w fun e w' =>
      e = .returned (.bool (inB s i ck cm cl cn f c p (s == 0 && (i == 0 && (f == 0 && (c == 0 && p == 0)))))) ∧ Ext w w' := by
  have heq := eqReq
  go_enter Try.func24, Try.ntmps24
  go_wp2_with (go_at_call 25; refine (uses_4 _).mono ?_; rintro e w1 ⟨rfl, rfl⟩)
  refine wp_loop_rounds 2 ?_
  rw [rounds_succ]
  go_wp2
  rw [rounds_succ]
  go_wp2_with (first
    | (go_at_call 39; refine (isNumber_c _ _).mono ?_; rintro e w1 ⟨rfl, rfl⟩)
    | (go_at_call 40; refine (isByte_c _ _).mono ?_; rintro e w1 ⟨rfl, rfl⟩))
  all_goals go_ret
  all_goals refine ⟨ret_bool ?_, ((Ext.refl _).alloc _).alloc _⟩
  all_goals simp [inB, *]

set_option maxRecDepth 100000 in
theorem right_no (k s i ck cm cl cn f c p : Int) (h : usesOf k = ⟨#[]⟩) (w : World) :
    Calls Try.prog 24 #[.agg #[.int .i64 k, .int .i64 s, .int .i64 i, .int .i64 ck, .int .i64 cm, .int .i64 cl, .int .i64 cn, .int .i64 f, .int .i64 c, .int .i64 p]] w fun e w' =>
      e = .returned (.bool false) ∧ Ext w w' := by
  have HU : Hid (usesOf k = ⟨#[]⟩) := h
  clear h
  go_enter Try.func24, Try.ntmps24
  go_wp2_with (go_at_call 25; refine (uses_c k _).mono ?_; rw [HU.out]; rintro e w1 ⟨rfl, rfl⟩)
  go_ret
  exact ⟨rfl, ((Ext.refl _).alloc _).alloc _⟩
end Go.Proofs.Ytmnjhhachdlmkaa
