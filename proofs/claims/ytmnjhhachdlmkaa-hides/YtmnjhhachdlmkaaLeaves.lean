import Derived.Test.YtmnjhhachdlmkaaBase
import Derived.Laws.Bits64
import Derived.Test.YtmnjhhachdlmkaaNums
namespace Go.Proofs.Ytmnjhhachdlmkaa
open Go.RowKit

theorem isByte_c (n : Int) (w : World) : Calls Try.prog 40 #[.int .i64 n] w fun e w' => e = .returned (.bool (isByt n)) ∧ w = w' := by
  go_enter Try.func40, Try.ntmps40
  go_wp2
  all_goals go_ret
  all_goals (refine ⟨ret_bool ?_, rfl⟩; simp [isByt, *]; try omega)

theorem isNumber_c (n : Int) (w : World) : Calls Try.prog 39 #[.int .i64 n] w fun e w' => e = .returned (.bool (isNum n)) ∧ w = w' := by
  go_enter Try.func39, Try.ntmps39
  go_wp2
  all_goals go_ret
  all_goals (refine ⟨ret_bool ?_, rfl⟩; simp [isNum, *]; try omega)

theorem num_c (n : Int) (w : World) : Calls Try.prog 12 #[.int .i64 n] w fun e w' => e = .returned (.int .i64 n) ∧ w = w' := by
  go_enter Try.func12, Try.ntmps12
  go_wp2
  go_ret
  exact ⟨rfl, rfl⟩

/-- What a request of a kind uses, as the reference's text has it. -/
def usesOf (k : Int) : ByteArray := if k = 1 then ⟨#[83, 73, 75, 67]⟩ else if k = 2 then ⟨#[83, 75, 70, 67, 80]⟩ else if k = 3 then ⟨#[83, 73]⟩ else if k = 4 then ⟨#[75]⟩ else ⟨#[]⟩

theorem uses_c (k : Int) (w : World) : Calls Try.prog 25 #[.int .i64 k] w fun e w' => e = .returned (.string (usesOf k)) ∧ w = w' := by
  go_enter Try.func25, Try.ntmps25
  go_wp2
  all_goals go_ret
  · have h : k = 1 := by simp_all
    subst h; exact ⟨rfl, rfl⟩
  · have h : k = 2 := by simp_all
    subst h; exact ⟨rfl, rfl⟩
  · have h : k = 3 := by simp_all
    subst h; exact ⟨rfl, rfl⟩
  · have h : k = 4 := by simp_all
    subst h; exact ⟨rfl, rfl⟩
  · refine ⟨ret_str ?_, rfl⟩
    have h1 : ¬ k = 1 := by simp_all
    have h2 : ¬ k = 2 := by simp_all
    have h3 : ¬ k = 3 := by simp_all
    have h4 : ¬ k = 4 := by simp_all
    simp [usesOf, h1, h2, h3, h4]

theorem be_take_lt (s : ByteArray) (k n : Nat) (h : k ≤ n) : be (s.data.toList.take k) < 256 ^ n := by
  refine Nat.lt_of_lt_of_le (be_lt _) (Nat.pow_le_pow_right (by omega) ?_)
  exact Nat.le_trans (List.length_take_le _ _) h

theorem number_step (s : ByteArray) (k : Nat) (hk : k < 4) (h : k < s.size) :
    wrap64 (wrap64 (256 * (be (s.data.toList.take k) : Int)) + wrap64 (s[k].toNat : Int)) = (be (s.data.toList.take (k + 1)) : Int) := by
  rw [take_snoc s k h, be_snoc, Int.natCast_add, Int.natCast_mul]
  have h1 := be_take_lt s k 3 (by omega)
  have h2 := s[k].toNat_lt
  generalize be (List.take k s.data.toList) = b at *
  generalize s[k].toNat = c at *
  rw [w64 (x := (c : Int)) (by omega) (by omega), w64 (x := 256 * (b : Int)) (by omega) (by omega), w64 (by omega) (by omega)]
  omega

set_option maxHeartbeats 400000 in
theorem number_c (s : ByteArray) (h : 4 ≤ s.size) (hm : s.size ≤ maxLen) (w : World) : Calls Try.prog 28 #[.string s] w fun e w' =>
    e = .returned (.int .i64 (be (s.data.toList.take 4))) ∧ w = w' := by
  unfold maxLen at hm
  go_enter Try.func28, Try.ntmps28
  go_wp2
  go_loop [3, 4] (fun n i => ∃ k : Nat, k ≤ 4 ∧ i = .int .i64 k ∧ n = .int .i64 (be (s.data.toList.take k))) (fun _ i => 4 - (intOf i).toNat)
  case atStart => exact ⟨0, Nat.zero_le _, rfl, rfl⟩
  case round =>
    obtain ⟨k, hk, rfl, rfl⟩ := hrel
    by_cases hlt : k < 4
    · have hlt' : k < s.size := by omega
      go_wp2
      go_round
      case rel => exact ⟨k + 1, by omega, by go_num, by rw [number_step s k hlt hlt']⟩
      case measure => simp [intOf]; omega
    · obtain rfl : k = 4 := by omega
      go_wp2
      go_ret
      exact ⟨rfl, rfl⟩

theorem take_step (s : ByteArray) (k : Nat) (hk : k < 4) (h : k < s.size) :
    bits BinOp.or IntKind.u64 (IntKind.u64.wrap ((be (s.data.toList.take k) : Int) * 256)) (IntKind.u64.wrap (s[k].toNat : Int)) = (be (s.data.toList.take (k + 1)) : Int) := by
  rw [take_snoc s k h, be_snoc]
  have h1 := be_take_lt s k 3 (by omega)
  have h2 := s[k].toNat_lt
  generalize be (List.take k s.data.toList) = b at *
  generalize s[k].toNat = c at *
  rw [IntKind.wrap_u64, IntKind.wrap_u64, Int.emod_eq_of_lt (by omega) (by omega), Int.emod_eq_of_lt (by omega) (by omega)]
  have e : ((b : Int) * 256) = ((b * 256 : Nat) : Int) := by omega
  rw [e, u64_or_nat _ _ (by omega) (by omega), nat_join 8 _ _ (by omega) (by omega)]

set_option maxHeartbeats 400000 in
theorem take_c (s : ByteArray) (h : s.size ≤ 4) (w : World) : Calls Try.prog 45 #[.string s] w fun e w' =>
    e = .returned (.int .u64 (be s.data.toList)) ∧ w = w' := by
  go_enter Try.func45, Try.ntmps45
  go_wp2
  go_loop [3, 4, 7] (fun n _ i => ∃ k : Nat, k ≤ s.size ∧ i = .int .i64 k ∧ n = .int .u64 (be (s.data.toList.take k))) (fun _ _ i => s.size - (intOf i).toNat)
  case atStart => exact ⟨0, Nat.zero_le _, rfl, rfl⟩
  case round =>
    obtain ⟨k, hk, rfl, rfl⟩ := hrel
    by_cases hlt : k < s.size
    · go_wp2
      go_round
      case rel => exact ⟨k + 1, by omega, by go_num, by rw [take_step s k (by omega) hlt]⟩
      case measure => simp [intOf]; omega
    · go_wp2
      go_ret
      exact ⟨ret_int (by rw [List.take_of_length_le (by simp; omega)]), rfl⟩
end Go.Proofs.Ytmnjhhachdlmkaa
