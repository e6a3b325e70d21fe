import Derived.Test.YtmnjhhachdlmkaaRight
import Derived.Test.YtmnjhhachdlmkaaDec
namespace Go.Proofs.Ytmnjhhachdlmkaa
open Go.RowKit

set_option maxRecDepth 100000 in
set_option maxHeartbeats 6400000 in
theorem refRead_3 (str : ByteArray) (hs : str.size ≤ maxLen) (h1 : 0 < str.size) (hk : (str[0]).toNat = 3) (w : World) :
    Calls Try.prog 9 #[.string str] w fun e w' =>
      (∃ s i : Nat, decTo releaseL (str.extract 1 str.size).data.toList = some ([s, i], []) ∧ e = .returned (.tuple #[.agg #[.int .i64 3, .int .i64 (s : Int), .int .i64 (i : Int), .int .i64 0, .int .i64 0, .int .i64 0, .int .i64 0, .int .i64 0, .int .i64 0, .int .i64 0], .int .i64 0]) ∧ Ext w w') ∨
      ((∀ vs, decTo releaseL (str.extract 1 str.size).data.toList ≠ some (vs, [])) ∧ e = .returned (.tuple #[.agg #[.int .i64 0, .int .i64 0, .int .i64 0, .int .i64 0, .int .i64 0, .int .i64 0, .int .i64 0, .int .i64 0, .int .i64 0, .int .i64 0], .int .i64 1]) ∧ Ext w w') := by
  have hne : str.toList.isEmpty = false := by
    rw [ByteArray.toList_eq]
    cases hx : str.data.toList with
    | nil => have : str.size = 0 := by rw [← ByteArray.size_data, ← Array.length_toList, hx]; rfl
             omega
    | cons _ _ => rfl
  have x0 : ((⟨#[83, 73]⟩ : ByteArray)[0]).toNat = 83 := rfl
  have x1 : ((⟨#[83, 73]⟩ : ByteArray)[1]).toNat = 73 := rfl
  have hes : (str.extract 1 str.size).size ≤ 9223372036854775807 := by rw [ByteArray.size_extract]; unfold maxLen at hs; omega
  unfold maxLen at hs
  have HBAD : Hid (∀ T : List UInt8, T.length ≠ szs releaseL → ∀ vs, decTo releaseL T ≠ some (vs, [])) := fun T h vs h' => h ((decTo_iff _ _ _).1 h').1
  go_enter Try.func9, Try.ntmps9
  go_wp2_with (go_at_call 25; refine (uses_3 _).mono ?_; rintro e w1 ⟨rfl, rfl⟩)
  generalize hT0 : str.extract 1 str.size = t0 at *
  have HT0 : Hid (str.extract 1 str.size = t0) := hT0
  clear hT0
  have l0 : t0.data.toList.length = t0.size := by simp
  have L0 : Hid _ := l0
  clear l0
  refine wp_loop_rounds 3 ?_
  rw [rounds_succ]
  by_cases c0 : t0.size < 4
  · go_wp2
    refine bodyPost_ret (v := .tuple #[.agg #[.int .i64 0, .int .i64 0, .int .i64 0, .int .i64 0, .int .i64 0, .int .i64 0, .int .i64 0, .int .i64 0, .int .i64 0, .int .i64 0], .int .i64 1]) (by simp [results, Try.results9, go_sem]) rfl (.inr ⟨HBAD.out _ ?_, rfl, ?_⟩)
    · rw [HT0.out, L0.out]; simp only [szs, releaseL]; simp; omega
    · repeat (first | exact Ext.refl _ | refine Ext.alloc ?_ _ | refine Ext.setCell ?_ (by simp) _ | refine Ext.drew ?_)
  · skip
    go_wp2_with (go_at_call 28; refine (number_c t0 (by omega) (by unfold maxLen; omega) _).mono ?_; rintro e w1 ⟨rfl, rfl⟩)
    generalize hv : be (List.take 4 t0.data.toList) = s at *
    have V_s : Hid (be (List.take 4 t0.data.toList) = s) := hv
    clear hv
    have e0 : (t0.extract 4 t0.size).data.toList = t0.data.toList.drop 4 := extract_hi t0 4
    have s0 : (t0.extract 4 t0.size).size + 4 = t0.size := by rw [ByteArray.size_extract]; omega
    generalize t0.extract 4 t0.size = t1 at *
    have E0 : Hid (t1.data.toList = t0.data.toList.drop 4) := e0
    have S0 : Hid (t1.size + 4 = t0.size) := s0
    have S0a : t1.size ≤ t0.size := by omega
    clear e0 s0
    rw [rounds_succ]
    by_cases c1 : t1.size < 4
    · go_wp2
      refine bodyPost_ret (v := .tuple #[.agg #[.int .i64 0, .int .i64 0, .int .i64 0, .int .i64 0, .int .i64 0, .int .i64 0, .int .i64 0, .int .i64 0, .int .i64 0, .int .i64 0], .int .i64 1]) (by simp [results, Try.results9, go_sem]) rfl (.inr ⟨HBAD.out _ ?_, rfl, ?_⟩)
      · rw [HT0.out, L0.out]; simp only [szs, releaseL]; simp; have := S0.out; omega
      · repeat (first | exact Ext.refl _ | refine Ext.alloc ?_ _ | refine Ext.setCell ?_ (by simp) _ | refine Ext.drew ?_)
    · skip
      go_wp2_with (go_at_call 28; refine (number_c t1 (by omega) (by unfold maxLen; omega) _).mono ?_; rintro e w1 ⟨rfl, rfl⟩)
      generalize hv : be (List.take 4 t1.data.toList) = i at *
      have V_i : Hid (be (List.take 4 t1.data.toList) = i) := hv
      clear hv
      have e1 : (t1.extract 4 t1.size).data.toList = t1.data.toList.drop 4 := extract_hi t1 4
      have s1 : (t1.extract 4 t1.size).size + 4 = t1.size := by rw [ByteArray.size_extract]; omega
      generalize t1.extract 4 t1.size = t2 at *
      have E1 : Hid (t2.data.toList = t1.data.toList.drop 4) := e1
      have S1 : Hid (t2.size + 4 = t1.size) := s1
      have S1a : t2.size ≤ t1.size := by omega
      clear e1 s1
      rw [rounds_succ]
      have D0 : t0.data.toList = List.drop 0 t0.data.toList := rfl
      have f_s : be (List.take 4 (List.drop 0 t0.data.toList)) = s := by rw [← D0]; exact V_s.out
      have D1 : t1.data.toList = List.drop 4 t0.data.toList := by rw [E0.out, D0, List.drop_drop]
      have f_i : be (List.take 4 (List.drop 4 t0.data.toList)) = i := by rw [← D1]; exact V_i.out
      have HVAL : Hid (valsOf releaseL t0.data.toList = [s, i]) := by
        show valsOf releaseL t0.data.toList = [s, i]
        rw [← f_s, ← f_i]
        simp [releaseL, valsOf]
      have HBD : Hid (bounded releaseL t0.data.toList ↔ inB s i 0 0 0 0 0 0 0 (((0 : Int) == 0 && ((0 : Int) == 0 && ((0 : Int) == 0 && (0 : Int) == 0))) && ((0 : Int) == 0 && ((0 : Int) == 0 && (0 : Int) == 0))) = true) := by
        show bounded releaseL t0.data.toList ↔ inB s i 0 0 0 0 0 0 0 (((0 : Int) == 0 && ((0 : Int) == 0 && ((0 : Int) == 0 && (0 : Int) == 0))) && ((0 : Int) == 0 && ((0 : Int) == 0 && (0 : Int) == 0))) = true
        have hb : bounded releaseL t0.data.toList ↔ ((s : Int) ≤ 2147483647 ∧ (i : Int) ≤ 2147483647) := by
          rw [← f_s, ← f_i]
          simp [releaseL, bounded]
        rw [hb]
        simp [inB, isNum, isByt]
        try omega
      clear f_s f_i D0 D1
      cases hB : inB s i 0 0 0 0 0 0 0 (((0 : Int) == 0 && ((0 : Int) == 0 && ((0 : Int) == 0 && (0 : Int) == 0))) && ((0 : Int) == 0 && ((0 : Int) == 0 && (0 : Int) == 0)))
      · have HBB : Hid _ := hB
        clear hB
        go_wp2_with (go_at_call 24; refine (right_3 s i 0 0 0 0 0 0 0 _).mono ?_; rw [HBB.out]; rintro e w1 ⟨rfl, hx1⟩; obtain ⟨la, ca0, ca1, ca2, ca3, ca4, ca5, ca6, ca7, ca8, ca9, fa0, fa1, fa2, fa3, fa4, fa5, fa6, fa7, fa8, fa9⟩ := req_all (W := w1) (g := w.heap.size) (t := 25) (v0 := .int .i64 0) (v1 := .int .i64 0) (v2 := .int .i64 0) (v3 := .int .i64 0) (v4 := .int .i64 0) (v5 := .int .i64 0) (v6 := .int .i64 0) (v7 := .int .i64 0) (v8 := .int .i64 0) (v9 := .int .i64 0) (by repeat (first | (with_reducible refine at_drew ?_) | ((with_reducible refine at_new ?_); (simp; done)) | (with_reducible refine at_old ?_) | (with_reducible (apply Ext.block; assumption)))); obtain ⟨lb, cb0, cb1, cb2, cb3, cb4, cb5, cb6, cb7, cb8, cb9, _⟩ := req_all (W := w1) (g := w.heap.size + 1) (t := 25) (v0 := .int .i64 3) (v1 := .int .i64 (s : Int)) (v2 := .int .i64 (i : Int)) (v3 := .int .i64 0) (v4 := .int .i64 0) (v5 := .int .i64 0) (v6 := .int .i64 0) (v7 := .int .i64 0) (v8 := .int .i64 0) (v9 := .int .i64 0) (by repeat (first | (with_reducible refine at_drew ?_) | ((with_reducible refine at_new ?_); (simp; done)) | (with_reducible refine at_old ?_) | (with_reducible (apply Ext.block; assumption)))))
        refine bodyPost_ret (v := .tuple #[.agg #[.int .i64 0, .int .i64 0, .int .i64 0, .int .i64 0, .int .i64 0, .int .i64 0, .int .i64 0, .int .i64 0, .int .i64 0, .int .i64 0], .int .i64 1]) (by simp [results, Try.results9, go_sem, *]) rfl (.inr ⟨?_, rfl, ?_⟩)
        · intro vs h
          rw [HT0.out] at h
          have h3 := HBD.out.1 ((decTo_iff _ _ _).1 h).2.2
          rw [HBB.out] at h3
          simp at h3
        · repeat (first | (with_reducible exact Ext.refl _) | (with_reducible assumption) | (with_reducible refine Ext.drew ?_) | (with_reducible refine Ext.alloc ?_ _) | (with_reducible refine Ext.setCell ?_ (by simp) _) | (with_reducible (apply Ext.chain; assumption)))
      · have HBB : Hid _ := hB
        clear hB
        by_cases ce : t2.size = 0
        · have hem : t2.toList.isEmpty = true := by
            rw [ByteArray.toList_eq, List.isEmpty_iff, ← List.length_eq_zero_iff]; simpa using ce
          have CE : Hid _ := ce
          clear ce
          go_wp2_with (go_at_call 24; refine (right_3 s i 0 0 0 0 0 0 0 _).mono ?_; rw [HBB.out]; rintro e w1 ⟨rfl, hx1⟩; obtain ⟨la, ca0, ca1, ca2, ca3, ca4, ca5, ca6, ca7, ca8, ca9, fa0, fa1, fa2, fa3, fa4, fa5, fa6, fa7, fa8, fa9⟩ := req_all (W := w1) (g := w.heap.size) (t := 25) (v0 := .int .i64 0) (v1 := .int .i64 0) (v2 := .int .i64 0) (v3 := .int .i64 0) (v4 := .int .i64 0) (v5 := .int .i64 0) (v6 := .int .i64 0) (v7 := .int .i64 0) (v8 := .int .i64 0) (v9 := .int .i64 0) (by repeat (first | (with_reducible refine at_drew ?_) | ((with_reducible refine at_new ?_); (simp; done)) | (with_reducible refine at_old ?_) | (with_reducible (apply Ext.block; assumption)))); obtain ⟨lb, cb0, cb1, cb2, cb3, cb4, cb5, cb6, cb7, cb8, cb9, _⟩ := req_all (W := w1) (g := w.heap.size + 1) (t := 25) (v0 := .int .i64 3) (v1 := .int .i64 (s : Int)) (v2 := .int .i64 (i : Int)) (v3 := .int .i64 0) (v4 := .int .i64 0) (v5 := .int .i64 0) (v6 := .int .i64 0) (v7 := .int .i64 0) (v8 := .int .i64 0) (v9 := .int .i64 0) (by repeat (first | (with_reducible refine at_drew ?_) | ((with_reducible refine at_new ?_); (simp; done)) | (with_reducible refine at_old ?_) | (with_reducible (apply Ext.block; assumption)))))
          refine bodyPost_ret (v := .tuple #[.agg #[.int .i64 3, .int .i64 (s : Int), .int .i64 (i : Int), .int .i64 0, .int .i64 0, .int .i64 0, .int .i64 0, .int .i64 0, .int .i64 0, .int .i64 0], .int .i64 0]) (by simp [results, Try.results9, go_sem, *]) rfl (.inl ⟨s, i, ?_, rfl, ?_⟩)
          · rw [HT0.out]
            refine (decTo_iff _ _ _).2 ⟨?_, HVAL.out.symm, HBD.out.2 HBB.out⟩
            rw [L0.out]; simp only [szs, releaseL]; simp; have := CE.out; have := S0.out; have := S1.out; omega
          · repeat (first | (with_reducible exact Ext.refl _) | (with_reducible assumption) | (with_reducible refine Ext.drew ?_) | (with_reducible refine Ext.alloc ?_ _) | (with_reducible refine Ext.setCell ?_ (by simp) _) | (with_reducible (apply Ext.chain; assumption)))
        · have hem : t2.toList.isEmpty = false := by
            rw [ByteArray.toList_eq, List.isEmpty_eq_false_iff]; intro h; apply ce; rw [← ByteArray.size_data, ← Array.length_toList, h]; rfl
          have CE : Hid (1 ≤ t2.size) := by show 1 ≤ t2.size; omega
          clear ce
          go_wp2_with (go_at_call 24; refine (right_3 s i 0 0 0 0 0 0 0 _).mono ?_; rw [HBB.out]; rintro e w1 ⟨rfl, hx1⟩; obtain ⟨la, ca0, ca1, ca2, ca3, ca4, ca5, ca6, ca7, ca8, ca9, fa0, fa1, fa2, fa3, fa4, fa5, fa6, fa7, fa8, fa9⟩ := req_all (W := w1) (g := w.heap.size) (t := 25) (v0 := .int .i64 0) (v1 := .int .i64 0) (v2 := .int .i64 0) (v3 := .int .i64 0) (v4 := .int .i64 0) (v5 := .int .i64 0) (v6 := .int .i64 0) (v7 := .int .i64 0) (v8 := .int .i64 0) (v9 := .int .i64 0) (by repeat (first | (with_reducible refine at_drew ?_) | ((with_reducible refine at_new ?_); (simp; done)) | (with_reducible refine at_old ?_) | (with_reducible (apply Ext.block; assumption)))); obtain ⟨lb, cb0, cb1, cb2, cb3, cb4, cb5, cb6, cb7, cb8, cb9, _⟩ := req_all (W := w1) (g := w.heap.size + 1) (t := 25) (v0 := .int .i64 3) (v1 := .int .i64 (s : Int)) (v2 := .int .i64 (i : Int)) (v3 := .int .i64 0) (v4 := .int .i64 0) (v5 := .int .i64 0) (v6 := .int .i64 0) (v7 := .int .i64 0) (v8 := .int .i64 0) (v9 := .int .i64 0) (by repeat (first | (with_reducible refine at_drew ?_) | ((with_reducible refine at_new ?_); (simp; done)) | (with_reducible refine at_old ?_) | (with_reducible (apply Ext.block; assumption)))))
          refine bodyPost_ret (v := .tuple #[.agg #[.int .i64 0, .int .i64 0, .int .i64 0, .int .i64 0, .int .i64 0, .int .i64 0, .int .i64 0, .int .i64 0, .int .i64 0, .int .i64 0], .int .i64 1]) (by simp [results, Try.results9, go_sem, *]) rfl (.inr ⟨HBAD.out _ ?_, rfl, ?_⟩)
          · rw [HT0.out, L0.out]; simp only [szs, releaseL]; simp; have := CE.out; have := S0.out; have := S1.out; omega
          · repeat (first | (with_reducible exact Ext.refl _) | (with_reducible assumption) | (with_reducible refine Ext.drew ?_) | (with_reducible refine Ext.alloc ?_ _) | (with_reducible refine Ext.setCell ?_ (by simp) _) | (with_reducible (apply Ext.chain; assumption)))
end Go.Proofs.Ytmnjhhachdlmkaa
