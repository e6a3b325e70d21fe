import Derived.Test.YtmnjhhachdlmkaaBad
import Derived.Test.YtmnjhhachdlmkaaChk1
import Derived.Test.YtmnjhhachdlmkaaWW1
import Derived.Test.YtmnjhhachdlmkaaRefWs
import Derived.Test.YtmnjhhachdlmkaaChk2
import Derived.Test.YtmnjhhachdlmkaaWW2
import Derived.Test.YtmnjhhachdlmkaaChk3
import Derived.Test.YtmnjhhachdlmkaaWW3
import Derived.Test.YtmnjhhachdlmkaaChk4
import Derived.Test.YtmnjhhachdlmkaaWW4
namespace Go.Proofs.Ytmnjhhachdlmkaa
open Go.RowKit

set_option maxRecDepth 100000 in
theorem dealerWrite_1 (s i ck cm cl cn c : Nat) (h_s : s ≤ 2147483647) (h_i : i ≤ 2147483647) (h_c : c ≤ 2147483647) (h_ck : ck ≤ 255) (h_cm : cm ≤ 255) (h_cl : cl ≤ 255) (h_cn : cn ≤ 255) (w : World) :
    Calls Try.prog 6 #[.agg #[.int .i64 1, .int .i64 (s : Int), .int .i64 (i : Int), .int .i64 (ck : Int), .int .i64 (cm : Int), .int .i64 (cl : Int), .int .i64 (cn : Int), .int .i64 0, .int .i64 (c : Int), .int .i64 0]] w fun e w' => e = .returned (.tuple #[.string ⟨([1] ++ (bytesOf s 4 ++ (bytesOf i 4 ++ ([UInt8.ofNat ck, UInt8.ofNat cm, UInt8.ofNat cl, UInt8.ofNat cn] ++ (bytesOf c 4))))).toArray⟩, .int .i64 0]) ∧ Ext w w' := by
  have hfit : fitB (fun j => (([s, i, ck, cm, cl, cn, c] : List Nat).getD j 0 : Int)) leaseL = true := by simp [fitB, leaseL]; omega
  have HC : Hid (∀ w, Calls Try.prog 22 #[.agg #[.int .i64 1, .int .i64 (s : Int), .int .i64 (i : Int), .int .i64 (ck : Int), .int .i64 (cm : Int), .int .i64 (cl : Int), .int .i64 (cn : Int), .int .i64 0, .int .i64 (c : Int), .int .i64 0]] w fun e w' => ∃ b, e = .returned (.tuple #[.iface 96 (.pointer (some ⟨b, 0, none⟩)), .int .i64 0]) ∧ w'.heap[b]? = some (.cells #[.int .i64 (s : Int), .int .i64 (i : Int), .int .i64 (ck : Int), .int .i64 (cm : Int), .int .i64 (cl : Int), .int .i64 (cn : Int), .int .i64 (c : Int)] 98 (0, 0)) ∧ Ext w w') := fun w =>
    (check_1b s i ck cm cl cn c (fun j => (([s, i, ck, cm, cl, cn, c] : List Nat).getD j 0 : Int)) (by simp) w).mono fun e w' h => by
      rcases h with ⟨_, h⟩ | ⟨h, _⟩
      · exact h
      · rw [hfit] at h; simp at h
  have hby : [1] ++ flatB (fun j => ([s, i, ck, cm, cl, cn, c] : List Nat).getD j 0) leaseL = [1] ++ (bytesOf s 4 ++ (bytesOf i 4 ++ ([UInt8.ofNat ck, UInt8.ofNat cm, UInt8.ofNat cl, UInt8.ofNat cn] ++ (bytesOf c 4)))) := by simp [flatB, leaseL, bytesOf]
  have HW : Hid (∀ b w, w.heap[b]? = some (.cells #[.int .i64 (s : Int), .int .i64 (i : Int), .int .i64 (ck : Int), .int .i64 (cm : Int), .int .i64 (cl : Int), .int .i64 (cn : Int), .int .i64 (c : Int)] 98 (0, 0)) → Calls Try.prog 23 #[.iface 96 (.pointer (some ⟨b, 0, none⟩))] w fun e w' => e = .returned (.string ⟨([1] ++ (bytesOf s 4 ++ (bytesOf i 4 ++ ([UInt8.ofNat ck, UInt8.ofNat cm, UInt8.ofNat cl, UInt8.ofNat cn] ++ (bytesOf c 4))))).toArray⟩) ∧ Ext w w') := fun b w hb => by
    have h := wireWrite_1 b s i ck cm cl cn c (fun j => ([s, i, ck, cm, cl, cn, c] : List Nat).getD j 0) (by simp) (fun j => by
      show ([s, i, ck, cm, cl, cn, c] : List Nat).getD j 0 ≤ 2147483647
      match j with
      | 0 => simp; omega
      | 1 => simp; omega
      | 2 => simp; omega
      | 3 => simp; omega
      | 4 => simp; omega
      | 5 => simp; omega
      | 6 => simp; omega
      | j + 7 => simp) w hb
    rw [hby] at h
    exact h
  clear hfit hby
  generalize hS : (⟨([1] ++ (bytesOf s 4 ++ (bytesOf i 4 ++ ([UInt8.ofNat ck, UInt8.ofNat cm, UInt8.ofNat cl, UInt8.ofNat cn] ++ (bytesOf c 4))))).toArray⟩ : ByteArray) = S at *
  clear hS
  go_enter Try.func6, Try.ntmps6
  go_wp2_with (first
    | (go_at_call 22; refine (HC.out _).mono ?_; rintro e w1 ⟨b, rfl, hb, hx⟩; have HB : Hid _ := hb; clear hb)
    | (go_at_call 23; refine (HW.out b _ HB.out).mono ?_; rintro e w2 ⟨rfl, hx2⟩))
  go_ret2
  exact ⟨rfl, ((Ext.refl w).alloc _).trans (hx.trans hx2)⟩

/-- Both write the same. -/
theorem writePair_1 (s i ck cm cl cn f c p : Int) : ∃ (S : ByteArray) (E : Int),
    (∀ w, Calls Try.prog 6 #[.agg #[.int .i64 1, .int .i64 s, .int .i64 i, .int .i64 ck, .int .i64 cm, .int .i64 cl, .int .i64 cn, .int .i64 f, .int .i64 c, .int .i64 p]] w fun e w' => e = .returned (.tuple #[.string S, .int .i64 E]) ∧ Ext w w') ∧
    (∀ w, Calls Try.prog 7 #[.agg #[.int .i64 1, .int .i64 s, .int .i64 i, .int .i64 ck, .int .i64 cm, .int .i64 cl, .int .i64 cn, .int .i64 f, .int .i64 c, .int .i64 p]] w fun e w' => e = .returned (.tuple #[.string S, .int .i64 E]) ∧ Ext w w') := by
  by_cases hz : ((0 == f && 0 == p)) = false
  · refine ⟨⟨#[]⟩, 1, fun w => dealerWrite_bad _ _ _ _ _ _ _ _ _ _ (fun w => check_1a s i ck cm cl cn f c p hz w) w, fun w => refWrite_bad _ _ _ _ _ _ _ _ _ _ (fun w => (right_1 s i ck cm cl cn f c p w).mono fun e w' h => ?_) w⟩
    have hf : inB s i ck cm cl cn f c p (f == 0 && p == 0) = false := by
      cases hq : inB s i ck cm cl cn f c p (f == 0 && p == 0)
      · rfl
      · exfalso
        simp [inB] at hq
        simp at hz
        omega
    rw [hf] at h
    exact h
  · have hz' : f = 0 ∧ p = 0 := by simp at hz; omega
    obtain ⟨rfl, rfl⟩ := hz'
    by_cases hb : 0 ≤ s ∧ s ≤ 2147483647 ∧ 0 ≤ i ∧ i ≤ 2147483647 ∧ 0 ≤ ck ∧ ck ≤ 255 ∧ 0 ≤ cm ∧ cm ≤ 255 ∧ 0 ≤ cl ∧ cl ≤ 255 ∧ 0 ≤ cn ∧ cn ≤ 255 ∧ 0 ≤ c ∧ c ≤ 2147483647
    · obtain ⟨p_s, q_s, p_i, q_i, p_ck, q_ck, p_cm, q_cm, p_cl, q_cl, p_cn, q_cn, p_c, q_c⟩ := hb
      obtain ⟨s, rfl⟩ := Int.eq_ofNat_of_zero_le p_s
      obtain ⟨i, rfl⟩ := Int.eq_ofNat_of_zero_le p_i
      obtain ⟨ck, rfl⟩ := Int.eq_ofNat_of_zero_le p_ck
      obtain ⟨cm, rfl⟩ := Int.eq_ofNat_of_zero_le p_cm
      obtain ⟨cl, rfl⟩ := Int.eq_ofNat_of_zero_le p_cl
      obtain ⟨cn, rfl⟩ := Int.eq_ofNat_of_zero_le p_cn
      obtain ⟨c, rfl⟩ := Int.eq_ofNat_of_zero_le p_c
      exact ⟨_, 0, fun w => dealerWrite_1 s i ck cm cl cn c (by omega) (by omega) (by omega) (by omega) (by omega) (by omega) (by omega) w, fun w => refWrite_1 s i ck cm cl cn c (by omega) (by omega) (by omega) (by omega) (by omega) (by omega) (by omega) (by simp [inB, isNum, isByt]; omega) w⟩
    · refine ⟨⟨#[]⟩, 1, fun w => dealerWrite_bad _ _ _ _ _ _ _ _ _ _ (fun w => (check_1b s i ck cm cl cn c (fun j => ([s, i, ck, cm, cl, cn, c] : List Int).getD j 0) (by simp) w).mono fun e w' h => ?_) w, fun w => refWrite_bad _ _ _ _ _ _ _ _ _ _ (fun w => (right_1 s i ck cm cl cn 0 c 0 w).mono fun e w' h => ?_) w⟩
      · rcases h with ⟨h, _⟩ | ⟨_, h⟩
        · exfalso
          simp [fitB, leaseL] at h
          omega
        · exact h
      · have hf : inB s i ck cm cl cn 0 c 0 ((0 : Int) == 0 && (0 : Int) == 0) = false := by
          cases hq : inB s i ck cm cl cn 0 c 0 ((0 : Int) == 0 && (0 : Int) == 0)
          · rfl
          · exfalso
            simp [inB, isNum, isByt] at hq
            omega
        rw [hf] at h
        exact h

set_option maxRecDepth 100000 in
theorem dealerWrite_2 (s ck cm cl cn f c p : Nat) (h_s : s ≤ 2147483647) (h_f : f ≤ 2147483647) (h_c : c ≤ 2147483647) (h_ck : ck ≤ 255) (h_cm : cm ≤ 255) (h_cl : cl ≤ 255) (h_cn : cn ≤ 255) (h_p : p ≤ 255) (w : World) :
    Calls Try.prog 6 #[.agg #[.int .i64 2, .int .i64 (s : Int), .int .i64 0, .int .i64 (ck : Int), .int .i64 (cm : Int), .int .i64 (cl : Int), .int .i64 (cn : Int), .int .i64 (f : Int), .int .i64 (c : Int), .int .i64 (p : Int)]] w fun e w' => e = .returned (.tuple #[.string ⟨([2] ++ (bytesOf s 4 ++ ([UInt8.ofNat ck, UInt8.ofNat cm, UInt8.ofNat cl, UInt8.ofNat cn] ++ (bytesOf f 4 ++ (bytesOf c 4 ++ ([UInt8.ofNat p])))))).toArray⟩, .int .i64 0]) ∧ Ext w w' := by
  have hfit : fitB (fun j => (([s, ck, cm, cl, cn, f, c, p] : List Nat).getD j 0 : Int)) fetchL = true := by simp [fitB, fetchL]; omega
  have HC : Hid (∀ w, Calls Try.prog 22 #[.agg #[.int .i64 2, .int .i64 (s : Int), .int .i64 0, .int .i64 (ck : Int), .int .i64 (cm : Int), .int .i64 (cl : Int), .int .i64 (cn : Int), .int .i64 (f : Int), .int .i64 (c : Int), .int .i64 (p : Int)]] w fun e w' => ∃ b, e = .returned (.tuple #[.iface 99 (.pointer (some ⟨b, 0, none⟩)), .int .i64 0]) ∧ w'.heap[b]? = some (.cells #[.int .i64 (s : Int), .int .i64 (ck : Int), .int .i64 (cm : Int), .int .i64 (cl : Int), .int .i64 (cn : Int), .int .i64 (f : Int), .int .i64 (c : Int), .int .i64 (p : Int)] 101 (0, 0)) ∧ Ext w w') := fun w =>
    (check_2b s ck cm cl cn f c p (fun j => (([s, ck, cm, cl, cn, f, c, p] : List Nat).getD j 0 : Int)) (by simp) w).mono fun e w' h => by
      rcases h with ⟨_, h⟩ | ⟨h, _⟩
      · exact h
      · rw [hfit] at h; simp at h
  have hby : [2] ++ flatB (fun j => ([s, ck, cm, cl, cn, f, c, p] : List Nat).getD j 0) fetchL = [2] ++ (bytesOf s 4 ++ ([UInt8.ofNat ck, UInt8.ofNat cm, UInt8.ofNat cl, UInt8.ofNat cn] ++ (bytesOf f 4 ++ (bytesOf c 4 ++ ([UInt8.ofNat p]))))) := by simp [flatB, fetchL, bytesOf]
  have HW : Hid (∀ b w, w.heap[b]? = some (.cells #[.int .i64 (s : Int), .int .i64 (ck : Int), .int .i64 (cm : Int), .int .i64 (cl : Int), .int .i64 (cn : Int), .int .i64 (f : Int), .int .i64 (c : Int), .int .i64 (p : Int)] 101 (0, 0)) → Calls Try.prog 23 #[.iface 99 (.pointer (some ⟨b, 0, none⟩))] w fun e w' => e = .returned (.string ⟨([2] ++ (bytesOf s 4 ++ ([UInt8.ofNat ck, UInt8.ofNat cm, UInt8.ofNat cl, UInt8.ofNat cn] ++ (bytesOf f 4 ++ (bytesOf c 4 ++ ([UInt8.ofNat p])))))).toArray⟩) ∧ Ext w w') := fun b w hb => by
    have h := wireWrite_2 b s ck cm cl cn f c p (fun j => ([s, ck, cm, cl, cn, f, c, p] : List Nat).getD j 0) (by simp) (fun j => by
      show ([s, ck, cm, cl, cn, f, c, p] : List Nat).getD j 0 ≤ 2147483647
      match j with
      | 0 => simp; omega
      | 1 => simp; omega
      | 2 => simp; omega
      | 3 => simp; omega
      | 4 => simp; omega
      | 5 => simp; omega
      | 6 => simp; omega
      | 7 => simp; omega
      | j + 8 => simp) w hb
    rw [hby] at h
    exact h
  clear hfit hby
  generalize hS : (⟨([2] ++ (bytesOf s 4 ++ ([UInt8.ofNat ck, UInt8.ofNat cm, UInt8.ofNat cl, UInt8.ofNat cn] ++ (bytesOf f 4 ++ (bytesOf c 4 ++ ([UInt8.ofNat p])))))).toArray⟩ : ByteArray) = S at *
  clear hS
  go_enter Try.func6, Try.ntmps6
  go_wp2_with (first
    | (go_at_call 22; refine (HC.out _).mono ?_; rintro e w1 ⟨b, rfl, hb, hx⟩; have HB : Hid _ := hb; clear hb)
    | (go_at_call 23; refine (HW.out b _ HB.out).mono ?_; rintro e w2 ⟨rfl, hx2⟩))
  go_ret2
  exact ⟨rfl, ((Ext.refl w).alloc _).trans (hx.trans hx2)⟩

/-- Both write the same. -/
theorem writePair_2 (s i ck cm cl cn f c p : Int) : ∃ (S : ByteArray) (E : Int),
    (∀ w, Calls Try.prog 6 #[.agg #[.int .i64 2, .int .i64 s, .int .i64 i, .int .i64 ck, .int .i64 cm, .int .i64 cl, .int .i64 cn, .int .i64 f, .int .i64 c, .int .i64 p]] w fun e w' => e = .returned (.tuple #[.string S, .int .i64 E]) ∧ Ext w w') ∧
    (∀ w, Calls Try.prog 7 #[.agg #[.int .i64 2, .int .i64 s, .int .i64 i, .int .i64 ck, .int .i64 cm, .int .i64 cl, .int .i64 cn, .int .i64 f, .int .i64 c, .int .i64 p]] w fun e w' => e = .returned (.tuple #[.string S, .int .i64 E]) ∧ Ext w w') := by
  by_cases hz : (0 == i) = false
  · refine ⟨⟨#[]⟩, 1, fun w => dealerWrite_bad _ _ _ _ _ _ _ _ _ _ (fun w => check_2a s i ck cm cl cn f c p hz w) w, fun w => refWrite_bad _ _ _ _ _ _ _ _ _ _ (fun w => (right_2 s i ck cm cl cn f c p w).mono fun e w' h => ?_) w⟩
    have hf : inB s i ck cm cl cn f c p (i == 0) = false := by
      cases hq : inB s i ck cm cl cn f c p (i == 0)
      · rfl
      · exfalso
        simp [inB] at hq
        simp at hz
        omega
    rw [hf] at h
    exact h
  · have hz' : i = 0 := by simp at hz; omega
    obtain ⟨rfl⟩ := hz'
    by_cases hb : 0 ≤ s ∧ s ≤ 2147483647 ∧ 0 ≤ ck ∧ ck ≤ 255 ∧ 0 ≤ cm ∧ cm ≤ 255 ∧ 0 ≤ cl ∧ cl ≤ 255 ∧ 0 ≤ cn ∧ cn ≤ 255 ∧ 0 ≤ f ∧ f ≤ 2147483647 ∧ 0 ≤ c ∧ c ≤ 2147483647 ∧ 0 ≤ p ∧ p ≤ 255
    · obtain ⟨p_s, q_s, p_ck, q_ck, p_cm, q_cm, p_cl, q_cl, p_cn, q_cn, p_f, q_f, p_c, q_c, p_p, q_p⟩ := hb
      obtain ⟨s, rfl⟩ := Int.eq_ofNat_of_zero_le p_s
      obtain ⟨ck, rfl⟩ := Int.eq_ofNat_of_zero_le p_ck
      obtain ⟨cm, rfl⟩ := Int.eq_ofNat_of_zero_le p_cm
      obtain ⟨cl, rfl⟩ := Int.eq_ofNat_of_zero_le p_cl
      obtain ⟨cn, rfl⟩ := Int.eq_ofNat_of_zero_le p_cn
      obtain ⟨f, rfl⟩ := Int.eq_ofNat_of_zero_le p_f
      obtain ⟨c, rfl⟩ := Int.eq_ofNat_of_zero_le p_c
      obtain ⟨p, rfl⟩ := Int.eq_ofNat_of_zero_le p_p
      exact ⟨_, 0, fun w => dealerWrite_2 s ck cm cl cn f c p (by omega) (by omega) (by omega) (by omega) (by omega) (by omega) (by omega) (by omega) w, fun w => refWrite_2 s ck cm cl cn f c p (by omega) (by omega) (by omega) (by omega) (by omega) (by omega) (by omega) (by omega) (by simp [inB, isNum, isByt]; omega) w⟩
    · refine ⟨⟨#[]⟩, 1, fun w => dealerWrite_bad _ _ _ _ _ _ _ _ _ _ (fun w => (check_2b s ck cm cl cn f c p (fun j => ([s, ck, cm, cl, cn, f, c, p] : List Int).getD j 0) (by simp) w).mono fun e w' h => ?_) w, fun w => refWrite_bad _ _ _ _ _ _ _ _ _ _ (fun w => (right_2 s 0 ck cm cl cn f c p w).mono fun e w' h => ?_) w⟩
      · rcases h with ⟨h, _⟩ | ⟨_, h⟩
        · exfalso
          simp [fitB, fetchL] at h
          omega
        · exact h
      · have hf : inB s 0 ck cm cl cn f c p ((0 : Int) == 0) = false := by
          cases hq : inB s 0 ck cm cl cn f c p ((0 : Int) == 0)
          · rfl
          · exfalso
            simp [inB, isNum, isByt] at hq
            omega
        rw [hf] at h
        exact h

set_option maxRecDepth 100000 in
theorem dealerWrite_3 (s i : Nat) (h_s : s ≤ 2147483647) (h_i : i ≤ 2147483647)  (w : World) :
    Calls Try.prog 6 #[.agg #[.int .i64 3, .int .i64 (s : Int), .int .i64 (i : Int), .int .i64 0, .int .i64 0, .int .i64 0, .int .i64 0, .int .i64 0, .int .i64 0, .int .i64 0]] w fun e w' => e = .returned (.tuple #[.string ⟨([3] ++ (bytesOf s 4 ++ (bytesOf i 4))).toArray⟩, .int .i64 0]) ∧ Ext w w' := by
  have hfit : fitB (fun j => (([s, i] : List Nat).getD j 0 : Int)) releaseL = true := by simp [fitB, releaseL]; omega
  have HC : Hid (∀ w, Calls Try.prog 22 #[.agg #[.int .i64 3, .int .i64 (s : Int), .int .i64 (i : Int), .int .i64 0, .int .i64 0, .int .i64 0, .int .i64 0, .int .i64 0, .int .i64 0, .int .i64 0]] w fun e w' => ∃ b, e = .returned (.tuple #[.iface 102 (.pointer (some ⟨b, 0, none⟩)), .int .i64 0]) ∧ w'.heap[b]? = some (.cells #[.int .i64 (s : Int), .int .i64 (i : Int)] 104 (0, 0)) ∧ Ext w w') := fun w =>
    (check_3b s i (fun j => (([s, i] : List Nat).getD j 0 : Int)) (by simp) w).mono fun e w' h => by
      rcases h with ⟨_, h⟩ | ⟨h, _⟩
      · exact h
      · rw [hfit] at h; simp at h
  have hby : [3] ++ flatB (fun j => ([s, i] : List Nat).getD j 0) releaseL = [3] ++ (bytesOf s 4 ++ (bytesOf i 4)) := by simp [flatB, releaseL, bytesOf]
  have HW : Hid (∀ b w, w.heap[b]? = some (.cells #[.int .i64 (s : Int), .int .i64 (i : Int)] 104 (0, 0)) → Calls Try.prog 23 #[.iface 102 (.pointer (some ⟨b, 0, none⟩))] w fun e w' => e = .returned (.string ⟨([3] ++ (bytesOf s 4 ++ (bytesOf i 4))).toArray⟩) ∧ Ext w w') := fun b w hb => by
    have h := wireWrite_3 b s i (fun j => ([s, i] : List Nat).getD j 0) (by simp) (fun j => by
      show ([s, i] : List Nat).getD j 0 ≤ 2147483647
      match j with
      | 0 => simp; omega
      | 1 => simp; omega
      | j + 2 => simp) w hb
    rw [hby] at h
    exact h
  clear hfit hby
  generalize hS : (⟨([3] ++ (bytesOf s 4 ++ (bytesOf i 4))).toArray⟩ : ByteArray) = S at *
  clear hS
  go_enter Try.func6, Try.ntmps6
  go_wp2_with (first
    | (go_at_call 22; refine (HC.out _).mono ?_; rintro e w1 ⟨b, rfl, hb, hx⟩; have HB : Hid _ := hb; clear hb)
    | (go_at_call 23; refine (HW.out b _ HB.out).mono ?_; rintro e w2 ⟨rfl, hx2⟩))
  go_ret2
  exact ⟨rfl, ((Ext.refl w).alloc _).trans (hx.trans hx2)⟩

/-- Both write the same. -/
theorem writePair_3 (s i ck cm cl cn f c p : Int) : ∃ (S : ByteArray) (E : Int),
    (∀ w, Calls Try.prog 6 #[.agg #[.int .i64 3, .int .i64 s, .int .i64 i, .int .i64 ck, .int .i64 cm, .int .i64 cl, .int .i64 cn, .int .i64 f, .int .i64 c, .int .i64 p]] w fun e w' => e = .returned (.tuple #[.string S, .int .i64 E]) ∧ Ext w w') ∧
    (∀ w, Calls Try.prog 7 #[.agg #[.int .i64 3, .int .i64 s, .int .i64 i, .int .i64 ck, .int .i64 cm, .int .i64 cl, .int .i64 cn, .int .i64 f, .int .i64 c, .int .i64 p]] w fun e w' => e = .returned (.tuple #[.string S, .int .i64 E]) ∧ Ext w w') := by
  by_cases hz : (((0 == ck && (0 == cm && (0 == cl && 0 == cn))) && (0 == f && (0 == c && 0 == p)))) = false
  · refine ⟨⟨#[]⟩, 1, fun w => dealerWrite_bad _ _ _ _ _ _ _ _ _ _ (fun w => check_3a s i ck cm cl cn f c p hz w) w, fun w => refWrite_bad _ _ _ _ _ _ _ _ _ _ (fun w => (right_3 s i ck cm cl cn f c p w).mono fun e w' h => ?_) w⟩
    have hf : inB s i ck cm cl cn f c p ((ck == 0 && (cm == 0 && (cl == 0 && cn == 0))) && (f == 0 && (c == 0 && p == 0))) = false := by
      cases hq : inB s i ck cm cl cn f c p ((ck == 0 && (cm == 0 && (cl == 0 && cn == 0))) && (f == 0 && (c == 0 && p == 0)))
      · rfl
      · exfalso
        simp [inB] at hq
        simp at hz
        omega
    rw [hf] at h
    exact h
  · have hz' : ck = 0 ∧ cm = 0 ∧ cl = 0 ∧ cn = 0 ∧ f = 0 ∧ c = 0 ∧ p = 0 := by simp at hz; omega
    obtain ⟨rfl, rfl, rfl, rfl, rfl, rfl, rfl⟩ := hz'
    by_cases hb : 0 ≤ s ∧ s ≤ 2147483647 ∧ 0 ≤ i ∧ i ≤ 2147483647
    · obtain ⟨p_s, q_s, p_i, q_i⟩ := hb
      obtain ⟨s, rfl⟩ := Int.eq_ofNat_of_zero_le p_s
      obtain ⟨i, rfl⟩ := Int.eq_ofNat_of_zero_le p_i
      exact ⟨_, 0, fun w => dealerWrite_3 s i (by omega) (by omega) w, fun w => refWrite_3 s i (by omega) (by omega) (by simp [inB, isNum, isByt]; omega) w⟩
    · refine ⟨⟨#[]⟩, 1, fun w => dealerWrite_bad _ _ _ _ _ _ _ _ _ _ (fun w => (check_3b s i (fun j => ([s, i] : List Int).getD j 0) (by simp) w).mono fun e w' h => ?_) w, fun w => refWrite_bad _ _ _ _ _ _ _ _ _ _ (fun w => (right_3 s i 0 0 0 0 0 0 0 w).mono fun e w' h => ?_) w⟩
      · rcases h with ⟨h, _⟩ | ⟨_, h⟩
        · exfalso
          simp [fitB, releaseL] at h
          omega
        · exact h
      · have hf : inB s i 0 0 0 0 0 0 0 (((0 : Int) == 0 && ((0 : Int) == 0 && ((0 : Int) == 0 && (0 : Int) == 0))) && ((0 : Int) == 0 && ((0 : Int) == 0 && (0 : Int) == 0))) = false := by
          cases hq : inB s i 0 0 0 0 0 0 0 (((0 : Int) == 0 && ((0 : Int) == 0 && ((0 : Int) == 0 && (0 : Int) == 0))) && ((0 : Int) == 0 && ((0 : Int) == 0 && (0 : Int) == 0)))
          · rfl
          · exfalso
            simp [inB, isNum, isByt] at hq
            omega
        rw [hf] at h
        exact h

set_option maxRecDepth 100000 in
theorem dealerWrite_4 (ck cm cl cn : Nat)  (h_ck : ck ≤ 255) (h_cm : cm ≤ 255) (h_cl : cl ≤ 255) (h_cn : cn ≤ 255) (w : World) :
    Calls Try.prog 6 #[.agg #[.int .i64 4, .int .i64 0, .int .i64 0, .int .i64 (ck : Int), .int .i64 (cm : Int), .int .i64 (cl : Int), .int .i64 (cn : Int), .int .i64 0, .int .i64 0, .int .i64 0]] w fun e w' => e = .returned (.tuple #[.string ⟨([4] ++ [UInt8.ofNat ck, UInt8.ofNat cm, UInt8.ofNat cl, UInt8.ofNat cn]).toArray⟩, .int .i64 0]) ∧ Ext w w' := by
  have hfit : fitB (fun j => (([ck, cm, cl, cn] : List Nat).getD j 0 : Int)) statusL = true := by simp [fitB, statusL]; omega
  have HC : Hid (∀ w, Calls Try.prog 22 #[.agg #[.int .i64 4, .int .i64 0, .int .i64 0, .int .i64 (ck : Int), .int .i64 (cm : Int), .int .i64 (cl : Int), .int .i64 (cn : Int), .int .i64 0, .int .i64 0, .int .i64 0]] w fun e w' => ∃ b, e = .returned (.tuple #[.iface 105 (.pointer (some ⟨b, 0, none⟩)), .int .i64 0]) ∧ w'.heap[b]? = some (.cells #[.int .i64 (ck : Int), .int .i64 (cm : Int), .int .i64 (cl : Int), .int .i64 (cn : Int)] 107 (0, 0)) ∧ Ext w w') := fun w =>
    (check_4b ck cm cl cn (fun j => (([ck, cm, cl, cn] : List Nat).getD j 0 : Int)) (by simp) w).mono fun e w' h => by
      rcases h with ⟨_, h⟩ | ⟨h, _⟩
      · exact h
      · rw [hfit] at h; simp at h
  have hby : [4] ++ flatB (fun j => ([ck, cm, cl, cn] : List Nat).getD j 0) statusL = [4] ++ [UInt8.ofNat ck, UInt8.ofNat cm, UInt8.ofNat cl, UInt8.ofNat cn] := by simp [flatB, statusL, bytesOf]
  have HW : Hid (∀ b w, w.heap[b]? = some (.cells #[.int .i64 (ck : Int), .int .i64 (cm : Int), .int .i64 (cl : Int), .int .i64 (cn : Int)] 107 (0, 0)) → Calls Try.prog 23 #[.iface 105 (.pointer (some ⟨b, 0, none⟩))] w fun e w' => e = .returned (.string ⟨([4] ++ [UInt8.ofNat ck, UInt8.ofNat cm, UInt8.ofNat cl, UInt8.ofNat cn]).toArray⟩) ∧ Ext w w') := fun b w hb => by
    have h := wireWrite_4 b ck cm cl cn (fun j => ([ck, cm, cl, cn] : List Nat).getD j 0) (by simp) (fun j => by
      show ([ck, cm, cl, cn] : List Nat).getD j 0 ≤ 2147483647
      match j with
      | 0 => simp; omega
      | 1 => simp; omega
      | 2 => simp; omega
      | 3 => simp; omega
      | j + 4 => simp) w hb
    rw [hby] at h
    exact h
  clear hfit hby
  generalize hS : (⟨([4] ++ [UInt8.ofNat ck, UInt8.ofNat cm, UInt8.ofNat cl, UInt8.ofNat cn]).toArray⟩ : ByteArray) = S at *
  clear hS
  go_enter Try.func6, Try.ntmps6
  go_wp2_with (first
    | (go_at_call 22; refine (HC.out _).mono ?_; rintro e w1 ⟨b, rfl, hb, hx⟩; have HB : Hid _ := hb; clear hb)
    | (go_at_call 23; refine (HW.out b _ HB.out).mono ?_; rintro e w2 ⟨rfl, hx2⟩))
  go_ret2
  exact ⟨rfl, ((Ext.refl w).alloc _).trans (hx.trans hx2)⟩

/-- Both write the same. -/
theorem writePair_4 (s i ck cm cl cn f c p : Int) : ∃ (S : ByteArray) (E : Int),
    (∀ w, Calls Try.prog 6 #[.agg #[.int .i64 4, .int .i64 s, .int .i64 i, .int .i64 ck, .int .i64 cm, .int .i64 cl, .int .i64 cn, .int .i64 f, .int .i64 c, .int .i64 p]] w fun e w' => e = .returned (.tuple #[.string S, .int .i64 E]) ∧ Ext w w') ∧
    (∀ w, Calls Try.prog 7 #[.agg #[.int .i64 4, .int .i64 s, .int .i64 i, .int .i64 ck, .int .i64 cm, .int .i64 cl, .int .i64 cn, .int .i64 f, .int .i64 c, .int .i64 p]] w fun e w' => e = .returned (.tuple #[.string S, .int .i64 E]) ∧ Ext w w') := by
  by_cases hz : ((0 == s && (0 == i && (0 == f && (0 == c && 0 == p))))) = false
  · refine ⟨⟨#[]⟩, 1, fun w => dealerWrite_bad _ _ _ _ _ _ _ _ _ _ (fun w => check_4a s i ck cm cl cn f c p hz w) w, fun w => refWrite_bad _ _ _ _ _ _ _ _ _ _ (fun w => (right_4 s i ck cm cl cn f c p w).mono fun e w' h => ?_) w⟩
    have hf : inB s i ck cm cl cn f c p (s == 0 && (i == 0 && (f == 0 && (c == 0 && p == 0)))) = false := by
      cases hq : inB s i ck cm cl cn f c p (s == 0 && (i == 0 && (f == 0 && (c == 0 && p == 0))))
      · rfl
      · exfalso
        simp [inB] at hq
        simp at hz
        omega
    rw [hf] at h
    exact h
  · have hz' : s = 0 ∧ i = 0 ∧ f = 0 ∧ c = 0 ∧ p = 0 := by simp at hz; omega
    obtain ⟨rfl, rfl, rfl, rfl, rfl⟩ := hz'
    by_cases hb : 0 ≤ ck ∧ ck ≤ 255 ∧ 0 ≤ cm ∧ cm ≤ 255 ∧ 0 ≤ cl ∧ cl ≤ 255 ∧ 0 ≤ cn ∧ cn ≤ 255
    · obtain ⟨p_ck, q_ck, p_cm, q_cm, p_cl, q_cl, p_cn, q_cn⟩ := hb
      obtain ⟨ck, rfl⟩ := Int.eq_ofNat_of_zero_le p_ck
      obtain ⟨cm, rfl⟩ := Int.eq_ofNat_of_zero_le p_cm
      obtain ⟨cl, rfl⟩ := Int.eq_ofNat_of_zero_le p_cl
      obtain ⟨cn, rfl⟩ := Int.eq_ofNat_of_zero_le p_cn
      exact ⟨_, 0, fun w => dealerWrite_4 ck cm cl cn (by omega) (by omega) (by omega) (by omega) w, fun w => refWrite_4 ck cm cl cn (by omega) (by omega) (by omega) (by omega) (by simp [inB, isNum, isByt]; omega) w⟩
    · refine ⟨⟨#[]⟩, 1, fun w => dealerWrite_bad _ _ _ _ _ _ _ _ _ _ (fun w => (check_4b ck cm cl cn (fun j => ([ck, cm, cl, cn] : List Int).getD j 0) (by simp) w).mono fun e w' h => ?_) w, fun w => refWrite_bad _ _ _ _ _ _ _ _ _ _ (fun w => (right_4 0 0 ck cm cl cn 0 0 0 w).mono fun e w' h => ?_) w⟩
      · rcases h with ⟨h, _⟩ | ⟨_, h⟩
        · exfalso
          simp [fitB, statusL] at h
          omega
        · exact h
      · have hf : inB 0 0 ck cm cl cn 0 0 0 ((0 : Int) == 0 && ((0 : Int) == 0 && ((0 : Int) == 0 && ((0 : Int) == 0 && (0 : Int) == 0)))) = false := by
          cases hq : inB 0 0 ck cm cl cn 0 0 0 ((0 : Int) == 0 && ((0 : Int) == 0 && ((0 : Int) == 0 && ((0 : Int) == 0 && (0 : Int) == 0))))
          · rfl
          · exfalso
            simp [inB, isNum, isByt] at hq
            omega
        rw [hf] at h
        exact h
end Go.Proofs.Ytmnjhhachdlmkaa
