import Derived.Test.YtmnjhhachdlmkaaRefW
namespace Go.Proofs.Ytmnjhhachdlmkaa
open Go.RowKit

set_option maxRecDepth 100000 in
set_option maxHeartbeats 6400000 in
theorem refWrite_1 (s i ck cm cl cn c : Nat) (h_s : s ≤ 2147483647) (h_i : i ≤ 2147483647) (h_c : c ≤ 2147483647) (h_ck : ck ≤ 255) (h_cm : cm ≤ 255) (h_cl : cl ≤ 255) (h_cn : cn ≤ 255)
    (hR : inB s i ck cm cl cn 0 c 0 ((0 : Int) == 0 && (0 : Int) == 0) = true) (w : World) :
    Calls Try.prog 7 #[.agg #[.int .i64 1, .int .i64 s, .int .i64 i, .int .i64 ck, .int .i64 cm, .int .i64 cl, .int .i64 cn, .int .i64 0, .int .i64 c, .int .i64 0]] w fun e w' =>
      e = .returned (.tuple #[.string ⟨([1] ++ (bytesOf s 4 ++ (bytesOf i 4 ++ ([UInt8.ofNat ck, UInt8.ofNat cm, UInt8.ofNat cl, UInt8.ofNat cn] ++ (bytesOf c 4))))).toArray⟩, .int .i64 0]) ∧ Ext w w' := by
  have HR : Hid _ := hR
  clear hR
  have k1 := conv1
  have k4 := conv4
  have k4' := conv4'
  have x0 : ((⟨#[83, 73, 75, 67]⟩ : ByteArray)[0]).toNat = 83 := rfl
  have x1 : ((⟨#[83, 73, 75, 67]⟩ : ByteArray)[1]).toNat = 73 := rfl
  have x2 : ((⟨#[83, 73, 75, 67]⟩ : ByteArray)[2]).toNat = 75 := rfl
  have x3 : ((⟨#[83, 73, 75, 67]⟩ : ByteArray)[3]).toNat = 67 := rfl
  have l_s : (⟨(bytesOf s 4).toArray⟩ : ByteArray).size = 4 := by simp [ByteArray.size, len_bytesOf]
  have l_i : (⟨(bytesOf i 4).toArray⟩ : ByteArray).size = 4 := by simp [ByteArray.size, len_bytesOf]
  have l_c : (⟨(bytesOf c 4).toArray⟩ : ByteArray).size = 4 := by simp [ByteArray.size, len_bytesOf]
  go_enter Try.func7, Try.ntmps7
  go_wp2_with (first
    | (go_at_call 24; refine (right_1 s i ck cm cl cn 0 c 0 _).mono ?_; rw [HR.out]; rintro e w1 ⟨rfl, hx1⟩; obtain ⟨rz, r0, r1, r2, r3, r4, r5, r6, r7, r8, r9⟩ := req_cells' (W := w1) (g := w.heap.size) (t := 25) (k := .int .i64 1) (s := .int .i64 s) (i := .int .i64 i) (ck := .int .i64 ck) (cm := .int .i64 cm) (cl := .int .i64 cl) (cn := .int .i64 cn) (f := .int .i64 0) (c := .int .i64 c) (p := .int .i64 0) (by repeat (first | (with_reducible refine at_drew ?_) | ((with_reducible refine at_new ?_); (simp; done)) | (with_reducible refine at_old ?_) | (with_reducible (apply Ext.block; assumption)))))
    | (go_at_call 25; refine (uses_1 _).mono ?_; rintro e w1 ⟨rfl, rfl⟩))
  refine wp_loop_rounds 5 ?_
  rw [rounds_succ]
  go_wp2_with ((go_at_call_of 26 (Value.int IntKind.i64 (s : Int)); refine (four_c s h_s _).mono ?_; rintro e w1 ⟨rfl, hx1⟩; obtain ⟨rz, r0, r1, r2, r3, r4, r5, r6, r7, r8, r9⟩ := req_cells' (W := w1) (g := w.heap.size) (t := 25) (k := .int .i64 1) (s := .int .i64 s) (i := .int .i64 i) (ck := .int .i64 ck) (cm := .int .i64 cm) (cl := .int .i64 cl) (cn := .int .i64 cn) (f := .int .i64 0) (c := .int .i64 c) (p := .int .i64 0) (by repeat (first | (with_reducible refine at_drew ?_) | ((with_reducible refine at_new ?_); (simp; done)) | (with_reducible refine at_old ?_) | (with_reducible (apply Ext.block; assumption))))))
  rw [rounds_succ]
  go_wp2_with ((go_at_call_of 26 (Value.int IntKind.i64 (i : Int)); refine (four_c i h_i _).mono ?_; rintro e w1 ⟨rfl, hx1⟩; obtain ⟨rz, r0, r1, r2, r3, r4, r5, r6, r7, r8, r9⟩ := req_cells' (W := w1) (g := w.heap.size) (t := 25) (k := .int .i64 1) (s := .int .i64 s) (i := .int .i64 i) (ck := .int .i64 ck) (cm := .int .i64 cm) (cl := .int .i64 cl) (cn := .int .i64 cn) (f := .int .i64 0) (c := .int .i64 c) (p := .int .i64 0) (by repeat (first | (with_reducible refine at_drew ?_) | ((with_reducible refine at_new ?_); (simp; done)) | (with_reducible refine at_old ?_) | (with_reducible (apply Ext.block; assumption))))))
  rw [rounds_succ]
  go_wp2
  rw [rounds_succ]
  go_wp2_with ((go_at_call_of 26 (Value.int IntKind.i64 (c : Int)); refine (four_c c h_c _).mono ?_; rintro e w1 ⟨rfl, hx1⟩; obtain ⟨rz, r0, r1, r2, r3, r4, r5, r6, r7, r8, r9⟩ := req_cells' (W := w1) (g := w.heap.size) (t := 25) (k := .int .i64 1) (s := .int .i64 s) (i := .int .i64 i) (ck := .int .i64 ck) (cm := .int .i64 cm) (cl := .int .i64 cl) (cn := .int .i64 cn) (f := .int .i64 0) (c := .int .i64 c) (p := .int .i64 0) (by repeat (first | (with_reducible refine at_drew ?_) | ((with_reducible refine at_new ?_); (simp; done)) | (with_reducible refine at_old ?_) | (with_reducible (apply Ext.block; assumption))))))
  rw [rounds_succ]
  go_wp2
  go_ret2
  refine ⟨?_, by repeat (first | (with_reducible exact Ext.refl _) | (with_reducible assumption) | (with_reducible refine Ext.drew ?_) | (with_reducible refine Ext.alloc ?_ _) | (with_reducible (apply Ext.chain; assumption)))⟩
  simp [ByteArray.ext_iff]

set_option maxRecDepth 100000 in
set_option maxHeartbeats 6400000 in
theorem refWrite_2 (s ck cm cl cn f c p : Nat) (h_s : s ≤ 2147483647) (h_f : f ≤ 2147483647) (h_c : c ≤ 2147483647) (h_ck : ck ≤ 255) (h_cm : cm ≤ 255) (h_cl : cl ≤ 255) (h_cn : cn ≤ 255) (h_p : p ≤ 255)
    (hR : inB s 0 ck cm cl cn f c p ((0 : Int) == 0) = true) (w : World) :
    Calls Try.prog 7 #[.agg #[.int .i64 2, .int .i64 s, .int .i64 0, .int .i64 ck, .int .i64 cm, .int .i64 cl, .int .i64 cn, .int .i64 f, .int .i64 c, .int .i64 p]] w fun e w' =>
      e = .returned (.tuple #[.string ⟨([2] ++ (bytesOf s 4 ++ ([UInt8.ofNat ck, UInt8.ofNat cm, UInt8.ofNat cl, UInt8.ofNat cn] ++ (bytesOf f 4 ++ (bytesOf c 4 ++ ([UInt8.ofNat p])))))).toArray⟩, .int .i64 0]) ∧ Ext w w' := by
  have HR : Hid _ := hR
  clear hR
  have k1 := conv1
  have k4 := conv4
  have k4' := conv4'
  have x0 : ((⟨#[83, 75, 70, 67, 80]⟩ : ByteArray)[0]).toNat = 83 := rfl
  have x1 : ((⟨#[83, 75, 70, 67, 80]⟩ : ByteArray)[1]).toNat = 75 := rfl
  have x2 : ((⟨#[83, 75, 70, 67, 80]⟩ : ByteArray)[2]).toNat = 70 := rfl
  have x3 : ((⟨#[83, 75, 70, 67, 80]⟩ : ByteArray)[3]).toNat = 67 := rfl
  have x4 : ((⟨#[83, 75, 70, 67, 80]⟩ : ByteArray)[4]).toNat = 80 := rfl
  have l_s : (⟨(bytesOf s 4).toArray⟩ : ByteArray).size = 4 := by simp [ByteArray.size, len_bytesOf]
  have l_f : (⟨(bytesOf f 4).toArray⟩ : ByteArray).size = 4 := by simp [ByteArray.size, len_bytesOf]
  have l_c : (⟨(bytesOf c 4).toArray⟩ : ByteArray).size = 4 := by simp [ByteArray.size, len_bytesOf]
  go_enter Try.func7, Try.ntmps7
  go_wp2_with (first
    | (go_at_call 24; refine (right_2 s 0 ck cm cl cn f c p _).mono ?_; rw [HR.out]; rintro e w1 ⟨rfl, hx1⟩; obtain ⟨rz, r0, r1, r2, r3, r4, r5, r6, r7, r8, r9⟩ := req_cells' (W := w1) (g := w.heap.size) (t := 25) (k := .int .i64 2) (s := .int .i64 s) (i := .int .i64 0) (ck := .int .i64 ck) (cm := .int .i64 cm) (cl := .int .i64 cl) (cn := .int .i64 cn) (f := .int .i64 f) (c := .int .i64 c) (p := .int .i64 p) (by repeat (first | (with_reducible refine at_drew ?_) | ((with_reducible refine at_new ?_); (simp; done)) | (with_reducible refine at_old ?_) | (with_reducible (apply Ext.block; assumption)))))
    | (go_at_call 25; refine (uses_2 _).mono ?_; rintro e w1 ⟨rfl, rfl⟩))
  refine wp_loop_rounds 6 ?_
  rw [rounds_succ]
  go_wp2_with ((go_at_call_of 26 (Value.int IntKind.i64 (s : Int)); refine (four_c s h_s _).mono ?_; rintro e w1 ⟨rfl, hx1⟩; obtain ⟨rz, r0, r1, r2, r3, r4, r5, r6, r7, r8, r9⟩ := req_cells' (W := w1) (g := w.heap.size) (t := 25) (k := .int .i64 2) (s := .int .i64 s) (i := .int .i64 0) (ck := .int .i64 ck) (cm := .int .i64 cm) (cl := .int .i64 cl) (cn := .int .i64 cn) (f := .int .i64 f) (c := .int .i64 c) (p := .int .i64 p) (by repeat (first | (with_reducible refine at_drew ?_) | ((with_reducible refine at_new ?_); (simp; done)) | (with_reducible refine at_old ?_) | (with_reducible (apply Ext.block; assumption))))))
  rw [rounds_succ]
  go_wp2
  rw [rounds_succ]
  go_wp2_with ((go_at_call_of 26 (Value.int IntKind.i64 (f : Int)); refine (four_c f h_f _).mono ?_; rintro e w1 ⟨rfl, hx1⟩; obtain ⟨rz, r0, r1, r2, r3, r4, r5, r6, r7, r8, r9⟩ := req_cells' (W := w1) (g := w.heap.size) (t := 25) (k := .int .i64 2) (s := .int .i64 s) (i := .int .i64 0) (ck := .int .i64 ck) (cm := .int .i64 cm) (cl := .int .i64 cl) (cn := .int .i64 cn) (f := .int .i64 f) (c := .int .i64 c) (p := .int .i64 p) (by repeat (first | (with_reducible refine at_drew ?_) | ((with_reducible refine at_new ?_); (simp; done)) | (with_reducible refine at_old ?_) | (with_reducible (apply Ext.block; assumption))))))
  rw [rounds_succ]
  go_wp2_with ((go_at_call_of 26 (Value.int IntKind.i64 (c : Int)); refine (four_c c h_c _).mono ?_; rintro e w1 ⟨rfl, hx1⟩; obtain ⟨rz, r0, r1, r2, r3, r4, r5, r6, r7, r8, r9⟩ := req_cells' (W := w1) (g := w.heap.size) (t := 25) (k := .int .i64 2) (s := .int .i64 s) (i := .int .i64 0) (ck := .int .i64 ck) (cm := .int .i64 cm) (cl := .int .i64 cl) (cn := .int .i64 cn) (f := .int .i64 f) (c := .int .i64 c) (p := .int .i64 p) (by repeat (first | (with_reducible refine at_drew ?_) | ((with_reducible refine at_new ?_); (simp; done)) | (with_reducible refine at_old ?_) | (with_reducible (apply Ext.block; assumption))))))
  rw [rounds_succ]
  go_wp2
  rw [rounds_succ]
  go_wp2
  go_ret2
  refine ⟨?_, by repeat (first | (with_reducible exact Ext.refl _) | (with_reducible assumption) | (with_reducible refine Ext.drew ?_) | (with_reducible refine Ext.alloc ?_ _) | (with_reducible (apply Ext.chain; assumption)))⟩
  simp [ByteArray.ext_iff]

set_option maxRecDepth 100000 in
set_option maxHeartbeats 6400000 in
theorem refWrite_3 (s i : Nat) (h_s : s ≤ 2147483647) (h_i : i ≤ 2147483647) 
    (hR : inB s i 0 0 0 0 0 0 0 (((0 : Int) == 0 && ((0 : Int) == 0 && ((0 : Int) == 0 && (0 : Int) == 0))) && ((0 : Int) == 0 && ((0 : Int) == 0 && (0 : Int) == 0))) = true) (w : World) :
    Calls Try.prog 7 #[.agg #[.int .i64 3, .int .i64 s, .int .i64 i, .int .i64 0, .int .i64 0, .int .i64 0, .int .i64 0, .int .i64 0, .int .i64 0, .int .i64 0]] w fun e w' =>
      e = .returned (.tuple #[.string ⟨([3] ++ (bytesOf s 4 ++ (bytesOf i 4))).toArray⟩, .int .i64 0]) ∧ Ext w w' := by
  have HR : Hid _ := hR
  clear hR
  have k1 := conv1
  have k4 := conv4
  have k4' := conv4'
  have x0 : ((⟨#[83, 73]⟩ : ByteArray)[0]).toNat = 83 := rfl
  have x1 : ((⟨#[83, 73]⟩ : ByteArray)[1]).toNat = 73 := rfl
  have l_s : (⟨(bytesOf s 4).toArray⟩ : ByteArray).size = 4 := by simp [ByteArray.size, len_bytesOf]
  have l_i : (⟨(bytesOf i 4).toArray⟩ : ByteArray).size = 4 := by simp [ByteArray.size, len_bytesOf]
  go_enter Try.func7, Try.ntmps7
  go_wp2_with (first
    | (go_at_call 24; refine (right_3 s i 0 0 0 0 0 0 0 _).mono ?_; rw [HR.out]; rintro e w1 ⟨rfl, hx1⟩; obtain ⟨rz, r0, r1, r2, r3, r4, r5, r6, r7, r8, r9⟩ := req_cells' (W := w1) (g := w.heap.size) (t := 25) (k := .int .i64 3) (s := .int .i64 s) (i := .int .i64 i) (ck := .int .i64 0) (cm := .int .i64 0) (cl := .int .i64 0) (cn := .int .i64 0) (f := .int .i64 0) (c := .int .i64 0) (p := .int .i64 0) (by repeat (first | (with_reducible refine at_drew ?_) | ((with_reducible refine at_new ?_); (simp; done)) | (with_reducible refine at_old ?_) | (with_reducible (apply Ext.block; assumption)))))
    | (go_at_call 25; refine (uses_3 _).mono ?_; rintro e w1 ⟨rfl, rfl⟩))
  refine wp_loop_rounds 3 ?_
  rw [rounds_succ]
  go_wp2_with ((go_at_call_of 26 (Value.int IntKind.i64 (s : Int)); refine (four_c s h_s _).mono ?_; rintro e w1 ⟨rfl, hx1⟩; obtain ⟨rz, r0, r1, r2, r3, r4, r5, r6, r7, r8, r9⟩ := req_cells' (W := w1) (g := w.heap.size) (t := 25) (k := .int .i64 3) (s := .int .i64 s) (i := .int .i64 i) (ck := .int .i64 0) (cm := .int .i64 0) (cl := .int .i64 0) (cn := .int .i64 0) (f := .int .i64 0) (c := .int .i64 0) (p := .int .i64 0) (by repeat (first | (with_reducible refine at_drew ?_) | ((with_reducible refine at_new ?_); (simp; done)) | (with_reducible refine at_old ?_) | (with_reducible (apply Ext.block; assumption))))))
  rw [rounds_succ]
  go_wp2_with ((go_at_call_of 26 (Value.int IntKind.i64 (i : Int)); refine (four_c i h_i _).mono ?_; rintro e w1 ⟨rfl, hx1⟩; obtain ⟨rz, r0, r1, r2, r3, r4, r5, r6, r7, r8, r9⟩ := req_cells' (W := w1) (g := w.heap.size) (t := 25) (k := .int .i64 3) (s := .int .i64 s) (i := .int .i64 i) (ck := .int .i64 0) (cm := .int .i64 0) (cl := .int .i64 0) (cn := .int .i64 0) (f := .int .i64 0) (c := .int .i64 0) (p := .int .i64 0) (by repeat (first | (with_reducible refine at_drew ?_) | ((with_reducible refine at_new ?_); (simp; done)) | (with_reducible refine at_old ?_) | (with_reducible (apply Ext.block; assumption))))))
  rw [rounds_succ]
  go_wp2
  go_ret2
  refine ⟨?_, by repeat (first | (with_reducible exact Ext.refl _) | (with_reducible assumption) | (with_reducible refine Ext.drew ?_) | (with_reducible refine Ext.alloc ?_ _) | (with_reducible (apply Ext.chain; assumption)))⟩
  simp [ByteArray.ext_iff]

set_option maxRecDepth 100000 in
set_option maxHeartbeats 6400000 in
theorem refWrite_4 (ck cm cl cn : Nat)  (h_ck : ck ≤ 255) (h_cm : cm ≤ 255) (h_cl : cl ≤ 255) (h_cn : cn ≤ 255)
    (hR : inB 0 0 ck cm cl cn 0 0 0 ((0 : Int) == 0 && ((0 : Int) == 0 && ((0 : Int) == 0 && ((0 : Int) == 0 && (0 : Int) == 0)))) = true) (w : World) :
    Calls Try.prog 7 #[.agg #[.int .i64 4, .int .i64 0, .int .i64 0, .int .i64 ck, .int .i64 cm, .int .i64 cl, .int .i64 cn, .int .i64 0, .int .i64 0, .int .i64 0]] w fun e w' =>
      e = .returned (.tuple #[.string ⟨([4] ++ [UInt8.ofNat ck, UInt8.ofNat cm, UInt8.ofNat cl, UInt8.ofNat cn]).toArray⟩, .int .i64 0]) ∧ Ext w w' := by
  have HR : Hid _ := hR
  clear hR
  have k1 := conv1
  have k4 := conv4
  have k4' := conv4'
  have x0 : ((⟨#[75]⟩ : ByteArray)[0]).toNat = 75 := rfl
  go_enter Try.func7, Try.ntmps7
  go_wp2_with (first
    | (go_at_call 24; refine (right_4 0 0 ck cm cl cn 0 0 0 _).mono ?_; rw [HR.out]; rintro e w1 ⟨rfl, hx1⟩; obtain ⟨rz, r0, r1, r2, r3, r4, r5, r6, r7, r8, r9⟩ := req_cells' (W := w1) (g := w.heap.size) (t := 25) (k := .int .i64 4) (s := .int .i64 0) (i := .int .i64 0) (ck := .int .i64 ck) (cm := .int .i64 cm) (cl := .int .i64 cl) (cn := .int .i64 cn) (f := .int .i64 0) (c := .int .i64 0) (p := .int .i64 0) (by repeat (first | (with_reducible refine at_drew ?_) | ((with_reducible refine at_new ?_); (simp; done)) | (with_reducible refine at_old ?_) | (with_reducible (apply Ext.block; assumption)))))
    | (go_at_call 25; refine (uses_4 _).mono ?_; rintro e w1 ⟨rfl, rfl⟩))
  refine wp_loop_rounds 2 ?_
  rw [rounds_succ]
  go_wp2
  rw [rounds_succ]
  go_wp2
  go_ret2
  refine ⟨?_, by repeat (first | (with_reducible exact Ext.refl _) | (with_reducible assumption) | (with_reducible refine Ext.drew ?_) | (with_reducible refine Ext.alloc ?_ _) | (with_reducible (apply Ext.chain; assumption)))⟩
  simp [ByteArray.ext_iff]
end Go.Proofs.Ytmnjhhachdlmkaa
