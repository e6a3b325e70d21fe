import Derived.Test.YtmnjhhachdlmkaaTurn
import Derived.Test.YtmnjhhachdlmkaaDisk
import Derived.Test.YtmnjhhachdlmkaaLen
namespace Go.Proofs.Ytmnjhhachdlmkaa

section
open Go.RowKit

theorem openD_c (w : World) : Calls Try.prog 42 #[] w fun e w' => e = .returned (.pointer (some ⟨w.heap.size, 0, none⟩)) ∧ w' = w.alloc (.cells #[.slice none 0 0, .slice none 0 0, .slice none 0 0, .bool false, .int .i64 0, .bool false] 94) := by
  go_enter Try.func42, Try.ntmps42
  go_wp2
  go_ret
  exact ⟨rfl, rfl⟩
theorem opened_c (w : World) : Calls Try.prog 31 #[] w fun e w' => e = .returned (.pointer (some ⟨w.heap.size, 0, none⟩)) ∧ w' = w.alloc (.cells #[.slice none 0 0, .slice none 0 0, .slice none 0 0, .bool false, .int .i64 0, .bool false] 94) := by
  go_enter Try.func31, Try.ntmps31
  go_wp2_with fail
  refine (openD_c w).mono ?_
  rintro e w1 ⟨rfl, rfl⟩
  go_wp2
  go_ret
  exact ⟨rfl, rfl⟩
set_option maxHeartbeats 800000 in
theorem keepLease_c (s i kd m k n c : Int) (w : World) : Calls Try.prog 34 #[.int .i64 s, .int .i64 i, clsV kd m k n, .int .i64 c] w fun e w' => e = .returned (.agg #[.int .i64 1, .int .i64 s, .int .i64 i, .int .i64 kd, .int .i64 m, .int .i64 k, .int .i64 n, .int .i64 0, .int .i64 c, .int .i64 0]) ∧ Ext w w' := by
  unfold clsV
  go_enter Try.func34, Try.ntmps34
  go_wp2
  refine bodyPost_ret (v := .agg #[.int .i64 1, .int .i64 s, .int .i64 i, .int .i64 kd, .int .i64 m, .int .i64 k, .int .i64 n, .int .i64 0, .int .i64 c, .int .i64 0]) (by simp [results, Try.results34, go_sem]) rfl ⟨rfl, ?_⟩
  (repeat (first | exact Ext.refl _ | refine Ext.drew ?_ | refine Ext.alloc ?_ _ | refine Ext.setCell ?_ (by simp) _))
set_option maxHeartbeats 800000 in
theorem keepFetch_c (s kd m k n f c p : Int) (w : World) : Calls Try.prog 35 #[.int .i64 s, clsV kd m k n, .int .i64 f, .int .i64 c, .int .i64 p] w fun e w' => e = .returned (.agg #[.int .i64 2, .int .i64 s, .int .i64 0, .int .i64 kd, .int .i64 m, .int .i64 k, .int .i64 n, .int .i64 f, .int .i64 c, .int .i64 p]) ∧ Ext w w' := by
  unfold clsV
  go_enter Try.func35, Try.ntmps35
  go_wp2
  refine bodyPost_ret (v := .agg #[.int .i64 2, .int .i64 s, .int .i64 0, .int .i64 kd, .int .i64 m, .int .i64 k, .int .i64 n, .int .i64 f, .int .i64 c, .int .i64 p]) (by simp [results, Try.results35, go_sem]) rfl ⟨rfl, ?_⟩
  (repeat (first | exact Ext.refl _ | refine Ext.drew ?_ | refine Ext.alloc ?_ _ | refine Ext.setCell ?_ (by simp) _))
theorem pick8_c (c : Int) (hc0 : -9223372036854775808 ≤ c) (hc1 : c ≤ 9223372036854775807) (w : World) : Calls Try.prog 21 #[.int .i64 c, .int .i64 8] w fun e w' => ∃ q : Nat, q < 8 ∧ e = .returned (.int .i64 q) ∧ w = w' := by
  go_enter Try.func21, Try.ntmps21
  go_wp2
  · go_ret
    refine ⟨((-(c + 1)) % 8).toNat, by omega, ret_int ?_, rfl⟩
    have h0 : (0 : Int) ≤ -(c + 1) := by omega
    rw [← Int.neg_tmod, Int.tmod_eq_emod_of_nonneg h0]
    omega
  · go_ret
    exact ⟨(c % 8).toNat, by omega, ret_int (by omega), rfl⟩
end

section
open Go.RowKit

theorem sizes3 {a b c a' b' c' : Int} (h1 : a = a') (h2 : b = b') (h3 : c = c') : Ending.returned (.tuple #[.int .i64 a, .int .i64 b, .int .i64 c]) = .returned (.tuple #[.int .i64 a', .int .i64 b', .int .i64 c']) := by rw [h1, h2, h3]

set_option maxRecDepth 100000 in
set_option maxHeartbeats 1600000 in
theorem sizes_c {kd m k n : Nat} {s : Sh} (hc : ofCls kd m k n s) (hs : s.ok) (w : World) : Calls Try.prog 14 #[clsV kd m k n] w fun e w' => e = .returned (.tuple #[.int .i64 (s.x : Int), .int .i64 (s.y : Int), .int .i64 (s.z : Int)]) ∧ Ext w w' := by
  obtain ⟨h1, h2, h3, h4, h5, h6, h7, h8, h9⟩ := hs
  unfold clsV
  rcases hc with ⟨rfl, rfl, rfl, rfl⟩ | ⟨hk, rfl⟩
  · simp only [Sh.x, Sh.y, Sh.z, Nat.mul_one]
    clear h1 h2 h3 h4 h5 h6 h7 h8 h9
    go_enter Try.func14, Try.ntmps14
    go_wp2
    go_quiet (fail)
    go_wp2
    go_ret3
    exact ⟨rfl, Ext.drewN ((Ext.refl w).alloc _) _⟩
  · simp only [Sh.x, Sh.y, Sh.z, Nat.one_mul]
    simp only at h3 h4 h5 h6 h7 h8
    have e1 : wrap64 ((m : Int) * (k : Int)) = ((m * k : Nat) : Int) := by rw [show ∀ z : Int, wrap64 z = IntKind.i64.wrap z from fun z => by rw [IntKind.wrap_i64, wrap64], ← Int.natCast_mul]; exact wrap_small (by have := mul_le9 h4 h6; omega)
    have e2 : wrap64 ((k : Int) * (n : Int)) = ((k * n : Nat) : Int) := by rw [show ∀ z : Int, wrap64 z = IntKind.i64.wrap z from fun z => by rw [IntKind.wrap_i64, wrap64], ← Int.natCast_mul]; exact wrap_small (by have := mul_le9 h6 h8; omega)
    have e3 : wrap64 ((m : Int) * (n : Int)) = ((m * n : Nat) : Int) := by rw [show ∀ z : Int, wrap64 z = IntKind.i64.wrap z from fun z => by rw [IntKind.wrap_i64, wrap64], ← Int.natCast_mul]; exact wrap_small (by have := mul_le9 h4 h8; omega)
    have hkd : ¬ (kd : Int) = 2 := by omega
    have HE : Hid _ := And.intro e1 (And.intro e2 e3)
    clear e1 e2 e3 h1 h2 h3 h4 h5 h6 h7 h8 h9 hk
    go_enter Try.func14, Try.ntmps14
    go_wp2
    go_quiet (fail)
    go_wp2
    go_ret3
    obtain ⟨e1, e2, e3⟩ := HE.out
    exact ⟨sizes3 e1 e2 e3, Ext.drewN ((Ext.refl w).alloc _) _⟩

theorem plus_c (kd m k n : Int) (x y : Int) (w : World) : Calls Try.prog 17 #[clsV kd m k n, .int .u64 x, .int .u64 y] w fun e w' => e = .returned (.int .u64 (if kd = 2 then bits .xor .u64 x y else IntKind.u64.wrap (x + y))) ∧ Ext w w' := by
  unfold clsV
  by_cases hk : kd = 2
  · subst hk
    rw [if_pos rfl]
    go_enter Try.func17, Try.ntmps17
    go_wp2
    go_ret
    exact ⟨rfl, (Ext.refl w).alloc _⟩
  · rw [if_neg hk]
    go_enter Try.func17, Try.ntmps17
    go_wp2
    go_ret
    exact ⟨rfl, (Ext.refl w).alloc _⟩

set_option maxRecDepth 100000 in
set_option maxHeartbeats 800000 in
theorem sameWords_c (b off cap b2 off2 cap2 n : Nat) (zs : List Int) (hn : zs.length = n) (hsm : n ≤ 1000) (w : World) (hz : WordsAt w b off zs) (hy : WordsAt w b2 off2 zs) :
    Calls Try.prog 19 #[.slice (some ⟨b, off, none⟩) n cap, .slice (some ⟨b2, off2, none⟩) n cap2] w fun e w' => e = .returned (.bool true) ∧ Ext w w' := by
  have HZ : Hid (WordsAt w b off zs) := hz
  have HY : Hid (WordsAt w b2 off2 zs) := hy
  have HN : Hid (zs.length = n) := hn
  clear hz hy hn
  go_enter Try.func19, Try.ntmps19
  go_wp2
  go_loopw [5] (fun i wr => ∃ j : Nat, j ≤ n ∧ i = .int .i64 j ∧ Ext w wr) (fun i _ => n - (intOf i).toNat)
  case atStart => exact ⟨0, Nat.zero_le _, rfl, Ext.refl _⟩
  case round =>
    obtain ⟨j, hj, rfl, hx⟩ := hrel
    by_cases hlt : j < n
    · have e0 := hx.cell (HZ.out j (by rw [HN.out]; exact hlt))
      have e1 := hx.cell (HY.out j (by rw [HN.out]; exact hlt))
      generalize zs.getD j 0 = z at *
      have hk0 : (0 : Int) ≤ (j : Int) := by omega
      have hk1 : (j : Int) < n := by omega
      have HX : Hid (Ext w wr) := hx
      clear hx
      go_wp2
      go_quiet (fail)
      go_wp2
      go_roundw
      case rel => exact ⟨j + 1, by omega, by go_num, Ext.drewN HX.out _⟩
      case measure => simp [intOf]; omega
    · go_wp2
      go_ret
      exact ⟨rfl, hx⟩
end
end Go.Proofs.Ytmnjhhachdlmkaa
