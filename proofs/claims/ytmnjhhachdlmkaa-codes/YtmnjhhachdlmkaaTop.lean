import Derived.Test.YtmnjhhachdlmkaaPairs
import Derived.Test.YtmnjhhachdlmkaaReads
import Derived.Test.YtmnjhhachdlmkaaRP0
import Derived.Test.YtmnjhhachdlmkaaWP0
namespace Go.Proofs.Ytmnjhhachdlmkaa
open Go.RowKit

theorem writePair (k s i ck cm cl cn f c p : Int) : ∃ (S : ByteArray) (E : Int),
    (∀ w, Calls Try.prog 6 #[.agg #[.int .i64 k, .int .i64 s, .int .i64 i, .int .i64 ck, .int .i64 cm, .int .i64 cl, .int .i64 cn, .int .i64 f, .int .i64 c, .int .i64 p]] w fun e w' => e = .returned (.tuple #[.string S, .int .i64 E]) ∧ Ext w w') ∧
    (∀ w, Calls Try.prog 7 #[.agg #[.int .i64 k, .int .i64 s, .int .i64 i, .int .i64 ck, .int .i64 cm, .int .i64 cl, .int .i64 cn, .int .i64 f, .int .i64 c, .int .i64 p]] w fun e w' => e = .returned (.tuple #[.string S, .int .i64 E]) ∧ Ext w w') := by
  by_cases h1 : k = 1
  · subst h1; exact writePair_1 s i ck cm cl cn f c p
  by_cases h2 : k = 2
  · subst h2; exact writePair_2 s i ck cm cl cn f c p
  by_cases h3 : k = 3
  · subst h3; exact writePair_3 s i ck cm cl cn f c p
  by_cases h4 : k = 4
  · subst h4; exact writePair_4 s i ck cm cl cn f c p
  refine ⟨⟨#[]⟩, 1, fun w => dealerWrite_bad _ _ _ _ _ _ _ _ _ _ (fun w => check_no k s i ck cm cl cn f c p (by simpa using h1) (by simpa using h2) (by simpa using h3) (by simpa using h4) w) w, fun w => refWrite_bad _ _ _ _ _ _ _ _ _ _ (fun w => right_no k s i ck cm cl cn f c p (by simp [usesOf, h1, h2, h3, h4]) w) w⟩

theorem readPair (str : ByteArray) (hs : str.size ≤ maxLen) : ∃ (k s i ck cm cl cn f c p E : Int),
    (∀ w, Calls Try.prog 8 #[.string str] w fun e w' => e = .returned (.tuple #[.agg #[.int .i64 k, .int .i64 s, .int .i64 i, .int .i64 ck, .int .i64 cm, .int .i64 cl, .int .i64 cn, .int .i64 f, .int .i64 c, .int .i64 p], .int .i64 E]) ∧ Ext w w') ∧
    (∀ w, Calls Try.prog 9 #[.string str] w fun e w' => e = .returned (.tuple #[.agg #[.int .i64 k, .int .i64 s, .int .i64 i, .int .i64 ck, .int .i64 cm, .int .i64 cl, .int .i64 cn, .int .i64 f, .int .i64 c, .int .i64 p], .int .i64 E]) ∧ Ext w w') := by
  by_cases h0 : str.size = 0
  · have he : str.toList.isEmpty = true := by
      rw [ByteArray.toList_eq, List.isEmpty_iff, ← List.length_eq_zero_iff]; simpa using h0
    exact ⟨0, 0, 0, 0, 0, 0, 0, 0, 0, 0, 1, fun w => dealerRead_bad str (fun w => wireRead_empty str he w) w, fun w => refRead_empty str he w⟩
  have hp : 0 < str.size := by omega
  have hne : str.toList.isEmpty = false := by
    rw [ByteArray.toList_eq, List.isEmpty_eq_false_iff]; intro h; apply h0; rw [← ByteArray.size_data, ← Array.length_toList, h]; rfl
  by_cases h1 : (str[0]).toNat = 1
  · exact readPair_1 str hs hp h1
  by_cases h2 : (str[0]).toNat = 2
  · exact readPair_2 str hs hp h2
  by_cases h3 : (str[0]).toNat = 3
  · exact readPair_3 str hs hp h3
  by_cases h4 : (str[0]).toNat = 4
  · exact readPair_4 str hs hp h4
  have hu : usesOf (((str[0]).toNat : Nat) : Int) = ⟨#[]⟩ := by
    unfold usesOf
    rw [if_neg (by omega), if_neg (by omega), if_neg (by omega), if_neg (by omega)]
  exact ⟨0, 0, 0, 0, 0, 0, 0, 0, 0, 0, 1, fun w => dealerRead_bad str (fun w => wireRead_no str hs hp hne _ rfl (UInt8.toNat_lt _) (by simp; omega) (by simp; omega) (by simp; omega) (by simp; omega) w) w, fun w => refRead_no str hs hp hne _ rfl (UInt8.toNat_lt _) hu w⟩
end Go.Proofs.Ytmnjhhachdlmkaa
