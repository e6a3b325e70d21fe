import Derived.Test.YtmnjhhachdlmkaaRight
import Derived.Test.YtmnjhhachdlmkaaDec
namespace Go.Proofs.Ytmnjhhachdlmkaa
open Go.RowKit

set_option maxRecDepth 100000 in
set_option maxHeartbeats 6400000 in
theorem refRead_4 (str : ByteArray) (hs : str.size ≤ maxLen) (h1 : 0 < str.size) (hk : (str[0]).toNat = 4) (w : World) :
    Calls Try.prog 9 #[.string str] w fun e w' =>
      (∃ ck cm cl cn : Nat, decTo statusL (str.extract 1 str.size).data.toList = some ([ck, cm, cl, cn], []) ∧ e = .returned (.tuple #[.agg #[.int .i64 4, .int .i64 0, .int .i64 0, .int .i64 (ck : Int), .int .i64 (cm : Int), .int .i64 (cl : Int), .int .i64 (cn : Int), .int .i64 0, .int .i64 0, .int .i64 0], .int .i64 0]) ∧ Ext w w') ∨
      ((∀ vs, decTo statusL (str.extract 1 str.size).data.toList ≠ some (vs, [])) ∧ e = .returned (.tuple #[.agg #[.int .i64 0, .int .i64 0, .int .i64 0, .int .i64 0, .int .i64 0, .int .i64 0, .int .i64 0, .int .i64 0, .int .i64 0, .int .i64 0], .int .i64 1]) ∧ Ext w w') := by
  have hne : str.toList.isEmpty = false := by
    rw [ByteArray.toList_eq]
    cases hx : str.data.toList with
    | nil => have : str.size = 0 := by rw [← ByteArray.size_data, ← Array.length_toList, hx]; rfl
             omega
    | cons _ _ => rfl
  have x0 : ((⟨#[75]⟩ : ByteArray)[0]).toNat = 75 := rfl
  have hes : (str.extract 1 str.size).size ≤ 9223372036854775807 := by rw [ByteArray.size_extract]; unfold maxLen at hs; omega
  unfold maxLen at hs
  have HBAD : Hid (∀ T : List UInt8, T.length ≠ szs statusL → ∀ vs, decTo statusL T ≠ some (vs, [])) := fun T h vs h' => h ((decTo_iff _ _ _).1 h').1
  go_enter Try.func9, Try.ntmps9
  go_wp2_with (go_at_call 25; refine (uses_4 _).mono ?_; rintro e w1 ⟨rfl, rfl⟩)
  generalize hT0 : str.extract 1 str.size = t0 at *
  have HT0 : Hid (str.extract 1 str.size = t0) := hT0
  clear hT0
  have l0 : t0.data.toList.length = t0.size := by simp
  have L0 : Hid _ := l0
  clear l0
  refine wp_loop_rounds 2 ?_
  rw [rounds_succ]
  by_cases c0 : t0.size < 4
  · go_wp2
    refine bodyPost_ret (v := .tuple #[.agg #[.int .i64 0, .int .i64 0, .int .i64 0, .int .i64 0, .int .i64 0, .int .i64 0, .int .i64 0, .int .i64 0, .int .i64 0, .int .i64 0], .int .i64 1]) (by simp [results, Try.results9, go_sem]) rfl (.inr ⟨HBAD.out _ ?_, rfl, ?_⟩)
    · rw [HT0.out, L0.out]; simp only [szs, statusL]; simp; omega
    · repeat (first | exact Ext.refl _ | refine Ext.alloc ?_ _ | refine Ext.setCell ?_ (by simp) _ | refine Ext.drew ?_)
  · skip
    have b0a : ∀ q, q < 4 → q < t0.size := by omega
    have i00 : (0 : Int) < (t0.size : Int) := by omega
    have i01 : (1 : Int) < (t0.size : Int) := by omega
    have i02 : (2 : Int) < (t0.size : Int) := by omega
    have i03 : (3 : Int) < (t0.size : Int) := by omega
    have j00 : 0 < t0.size := by omega
    have j01 : 1 < t0.size := by omega
    have j02 : 2 < t0.size := by omega
    have j03 : 3 < t0.size := by omega
    go_wp2
    refine wp_region_any (by kernel_rfl) ?_
    change wpAny _ _ _ _ _ _ _ (World.drew _)
    refine wpAny_take (i := 0) (v := .string t0) rfl (by kernel_rfl) (by kernel_rfl) (by kernel_rfl) (fun _ _ _ h => h) (Or.inl ⟨by rfl, by intro w; go_simp⟩) ?_
    refine wpAny_take (i := 1) (v := .int .u8 ((t0[0]'j00).toNat : Int)) rfl (by kernel_rfl) (by kernel_rfl) (by kernel_rfl) (fun _ _ _ h => h) (Or.inl ⟨by rfl, by intro w; go_simp⟩) ?_
    refine wpAny_take (i := 2) (v := .int .i64 (IntKind.i64.wrap ((t0[0]'j00).toNat : Int))) rfl (by kernel_rfl) (by kernel_rfl) (by kernel_rfl) (fun _ _ _ h => h) (Or.inl ⟨by rfl, by intro w; go_simp⟩) ?_
    refine wpAny_take (i := 3) (v := .string t0) rfl (by kernel_rfl) (by kernel_rfl) (by kernel_rfl) (fun _ _ _ h => h) (Or.inl ⟨by rfl, by intro w; go_simp⟩) ?_
    refine wpAny_take (i := 4) (v := .int .u8 ((t0[1]'j01).toNat : Int)) rfl (by kernel_rfl) (by kernel_rfl) (by kernel_rfl) (fun _ _ _ h => h) (Or.inl ⟨by rfl, by intro w; go_simp⟩) ?_
    refine wpAny_take (i := 5) (v := .int .i64 (IntKind.i64.wrap ((t0[1]'j01).toNat : Int))) rfl (by kernel_rfl) (by kernel_rfl) (by kernel_rfl) (fun _ _ _ h => h) (Or.inl ⟨by rfl, by intro w; go_simp⟩) ?_
    refine wpAny_take (i := 6) (v := .string t0) rfl (by kernel_rfl) (by kernel_rfl) (by kernel_rfl) (fun _ _ _ h => h) (Or.inl ⟨by rfl, by intro w; go_simp⟩) ?_
    refine wpAny_take (i := 7) (v := .int .u8 ((t0[2]'j02).toNat : Int)) rfl (by kernel_rfl) (by kernel_rfl) (by kernel_rfl) (fun _ _ _ h => h) (Or.inl ⟨by rfl, by intro w; go_simp⟩) ?_
    refine wpAny_take (i := 8) (v := .int .i64 (IntKind.i64.wrap ((t0[2]'j02).toNat : Int))) rfl (by kernel_rfl) (by kernel_rfl) (by kernel_rfl) (fun _ _ _ h => h) (Or.inl ⟨by rfl, by intro w; go_simp⟩) ?_
    refine wpAny_take (i := 9) (v := .string t0) rfl (by kernel_rfl) (by kernel_rfl) (by kernel_rfl) (fun _ _ _ h => h) (Or.inl ⟨by rfl, by intro w; go_simp⟩) ?_
    refine wpAny_take (i := 10) (v := .int .u8 ((t0[3]'j03).toNat : Int)) rfl (by kernel_rfl) (by kernel_rfl) (by kernel_rfl) (fun _ _ _ h => h) (Or.inl ⟨by rfl, by intro w; go_simp⟩) ?_
    refine wpAny_take (i := 11) (v := .int .i64 (IntKind.i64.wrap ((t0[3]'j03).toNat : Int))) rfl (by kernel_rfl) (by kernel_rfl) (by kernel_rfl) (fun _ _ _ h => h) (Or.inl ⟨by rfl, by intro w; go_simp⟩) ?_
    refine wpAny_take (i := 12) (v := .agg #[.int .i64 (IntKind.i64.wrap ((t0[0]'j00).toNat : Int)), .int .i64 (IntKind.i64.wrap ((t0[1]'j01).toNat : Int)), .int .i64 (IntKind.i64.wrap ((t0[2]'j02).toNat : Int)), .int .i64 (IntKind.i64.wrap ((t0[3]'j03).toNat : Int))]) rfl (by kernel_rfl) (by kernel_rfl) (by kernel_rfl) (fun _ _ _ h => h) (Or.inl ⟨by rfl, by intro w; go_simp⟩) ?_
    refine wpAny_take (i := 13) (v := .pointer (some ⟨w.heap.size + 1, 3, none⟩)) rfl (by kernel_rfl) (by kernel_rfl) (by kernel_rfl) (fun _ _ _ h => h) (Or.inl ⟨by rfl, by intro w; go_simp⟩) ?_
    refine wpAny_ready (rs := [14]) (by kernel_rfl) (by simp) ?_
    refine AllReady.cons rfl (fun K hK => ?_) AllReady.nil
    go_simp
    refine hK _ _ ?_
    clear hK K
    refine wpAny_done (by kernel_rfl) ?_ _
    have w00 : IntKind.i64.wrap ((t0[0]'j00).toNat : Int) = ((t0[0]'j00).toNat : Int) := i64w (by omega) (by have := UInt8.toNat_lt (t0[0]'j00); omega)
    have w01 : IntKind.i64.wrap ((t0[1]'j01).toNat : Int) = ((t0[1]'j01).toNat : Int) := i64w (by omega) (by have := UInt8.toNat_lt (t0[1]'j01); omega)
    have w02 : IntKind.i64.wrap ((t0[2]'j02).toNat : Int) = ((t0[2]'j02).toNat : Int) := i64w (by omega) (by have := UInt8.toNat_lt (t0[2]'j02); omega)
    have w03 : IntKind.i64.wrap ((t0[3]'j03).toNat : Int) = ((t0[3]'j03).toNat : Int) := i64w (by omega) (by have := UInt8.toNat_lt (t0[3]'j03); omega)
    simp only [w00, w01, w02, w03]
    clear w00 w01 w02 w03
    generalize hv : (t0[0]'j00).toNat = ck at *
    have V_ck : Hid ((t0[0]'j00).toNat = ck) := hv
    clear hv
    have B_ck : ck < 256 := by rw [← V_ck.out]; exact UInt8.toNat_lt _
    generalize hv : (t0[1]'j01).toNat = cm at *
    have V_cm : Hid ((t0[1]'j01).toNat = cm) := hv
    clear hv
    have B_cm : cm < 256 := by rw [← V_cm.out]; exact UInt8.toNat_lt _
    generalize hv : (t0[2]'j02).toNat = cl at *
    have V_cl : Hid ((t0[2]'j02).toNat = cl) := hv
    clear hv
    have B_cl : cl < 256 := by rw [← V_cl.out]; exact UInt8.toNat_lt _
    generalize hv : (t0[3]'j03).toNat = cn at *
    have V_cn : Hid ((t0[3]'j03).toNat = cn) := hv
    clear hv
    have B_cn : cn < 256 := by rw [← V_cn.out]; exact UInt8.toNat_lt _
    go_wp2
    have e0 : (t0.extract 4 t0.size).data.toList = t0.data.toList.drop 4 := extract_hi t0 4
    have s0 : (t0.extract 4 t0.size).size + 4 = t0.size := by rw [ByteArray.size_extract]; omega
    generalize t0.extract 4 t0.size = t1 at *
    have E0 : Hid (t1.data.toList = t0.data.toList.drop 4) := e0
    have S0 : Hid (t1.size + 4 = t0.size) := s0
    have S0a : t1.size ≤ t0.size := by omega
    clear e0 s0
    rw [rounds_succ]
    have D0 : t0.data.toList = List.drop 0 t0.data.toList := rfl
    have f_ck : be (List.take 1 (List.drop 0 t0.data.toList)) = ck := by rw [show 0 = 0 + 0 from rfl, ← List.drop_drop, ← D0, be_one t0 0 j00]; exact V_ck.out
    have f_cm : be (List.take 1 (List.drop 1 t0.data.toList)) = cm := by rw [show 1 = 0 + 1 from rfl, ← List.drop_drop, ← D0, be_one t0 1 j01]; exact V_cm.out
    have f_cl : be (List.take 1 (List.drop 2 t0.data.toList)) = cl := by rw [show 2 = 0 + 2 from rfl, ← List.drop_drop, ← D0, be_one t0 2 j02]; exact V_cl.out
    have f_cn : be (List.take 1 (List.drop 3 t0.data.toList)) = cn := by rw [show 3 = 0 + 3 from rfl, ← List.drop_drop, ← D0, be_one t0 3 j03]; exact V_cn.out
    have HVAL : Hid (valsOf statusL t0.data.toList = [ck, cm, cl, cn]) := by
      show valsOf statusL t0.data.toList = [ck, cm, cl, cn]
      rw [← f_ck, ← f_cm, ← f_cl, ← f_cn]
      simp [statusL, valsOf, List.drop_drop]
    have HBD : Hid (bounded statusL t0.data.toList ↔ inB 0 0 ck cm cl cn 0 0 0 ((0 : Int) == 0 && ((0 : Int) == 0 && ((0 : Int) == 0 && ((0 : Int) == 0 && (0 : Int) == 0)))) = true) := by
      show bounded statusL t0.data.toList ↔ inB 0 0 ck cm cl cn 0 0 0 ((0 : Int) == 0 && ((0 : Int) == 0 && ((0 : Int) == 0 && ((0 : Int) == 0 && (0 : Int) == 0)))) = true
      have hb : bounded statusL t0.data.toList ↔ ((ck : Int) ≤ 255 ∧ (cm : Int) ≤ 255 ∧ (cl : Int) ≤ 255 ∧ (cn : Int) ≤ 255) := by
        rw [← f_ck, ← f_cm, ← f_cl, ← f_cn]
        simp [statusL, bounded, List.drop_drop]
      rw [hb]
      simp [inB, isNum, isByt]
      try omega
    clear f_ck f_cm f_cl f_cn D0
    cases hB : inB 0 0 ck cm cl cn 0 0 0 ((0 : Int) == 0 && ((0 : Int) == 0 && ((0 : Int) == 0 && ((0 : Int) == 0 && (0 : Int) == 0))))
    · have HBB : Hid _ := hB
      clear hB
      go_wp2_with (go_at_call 24; refine (right_4 0 0 ck cm cl cn 0 0 0 _).mono ?_; rw [HBB.out]; rintro e w1 ⟨rfl, hx1⟩; obtain ⟨la, ca0, ca1, ca2, ca3, ca4, ca5, ca6, ca7, ca8, ca9, fa0, fa1, fa2, fa3, fa4, fa5, fa6, fa7, fa8, fa9⟩ := req_all (W := w1) (g := w.heap.size) (t := 25) (v0 := .int .i64 0) (v1 := .int .i64 0) (v2 := .int .i64 0) (v3 := .int .i64 0) (v4 := .int .i64 0) (v5 := .int .i64 0) (v6 := .int .i64 0) (v7 := .int .i64 0) (v8 := .int .i64 0) (v9 := .int .i64 0) (by repeat (first | (with_reducible refine at_drew ?_) | ((with_reducible refine at_new ?_); (simp; done)) | (with_reducible refine at_old ?_) | (with_reducible (apply Ext.block; assumption)))); obtain ⟨lb, cb0, cb1, cb2, cb3, cb4, cb5, cb6, cb7, cb8, cb9, _⟩ := req_all (W := w1) (g := w.heap.size + 1) (t := 25) (v0 := .int .i64 4) (v1 := .int .i64 0) (v2 := .int .i64 0) (v3 := .int .i64 (ck : Int)) (v4 := .int .i64 (cm : Int)) (v5 := .int .i64 (cl : Int)) (v6 := .int .i64 (cn : Int)) (v7 := .int .i64 0) (v8 := .int .i64 0) (v9 := .int .i64 0) (by repeat (first | (with_reducible refine at_drew ?_) | ((with_reducible refine at_new ?_); (simp; done)) | (with_reducible refine at_old ?_) | (with_reducible (apply Ext.block; assumption)))))
      refine bodyPost_ret (v := .tuple #[.agg #[.int .i64 0, .int .i64 0, .int .i64 0, .int .i64 0, .int .i64 0, .int .i64 0, .int .i64 0, .int .i64 0, .int .i64 0, .int .i64 0], .int .i64 1]) (by simp [results, Try.results9, go_sem, *]) rfl (.inr ⟨?_, rfl, ?_⟩)
      · intro vs h
        rw [HT0.out] at h
        have h3 := HBD.out.1 ((decTo_iff _ _ _).1 h).2.2
        rw [HBB.out] at h3
        simp at h3
      · repeat (first | (with_reducible exact Ext.refl _) | (with_reducible assumption) | (with_reducible refine Ext.drew ?_) | (with_reducible refine Ext.alloc ?_ _) | (with_reducible refine Ext.setCell ?_ (by simp) _) | (with_reducible (apply Ext.chain; assumption)))
    · have HBB : Hid _ := hB
      clear hB
      by_cases ce : t1.size = 0
      · have hem : t1.toList.isEmpty = true := by
          rw [ByteArray.toList_eq, List.isEmpty_iff, ← List.length_eq_zero_iff]; simpa using ce
        have CE : Hid _ := ce
        clear ce
        go_wp2_with (go_at_call 24; refine (right_4 0 0 ck cm cl cn 0 0 0 _).mono ?_; rw [HBB.out]; rintro e w1 ⟨rfl, hx1⟩; obtain ⟨la, ca0, ca1, ca2, ca3, ca4, ca5, ca6, ca7, ca8, ca9, fa0, fa1, fa2, fa3, fa4, fa5, fa6, fa7, fa8, fa9⟩ := req_all (W := w1) (g := w.heap.size) (t := 25) (v0 := .int .i64 0) (v1 := .int .i64 0) (v2 := .int .i64 0) (v3 := .int .i64 0) (v4 := .int .i64 0) (v5 := .int .i64 0) (v6 := .int .i64 0) (v7 := .int .i64 0) (v8 := .int .i64 0) (v9 := .int .i64 0) (by repeat (first | (with_reducible refine at_drew ?_) | ((with_reducible refine at_new ?_); (simp; done)) | (with_reducible refine at_old ?_) | (with_reducible (apply Ext.block; assumption)))); obtain ⟨lb, cb0, cb1, cb2, cb3, cb4, cb5, cb6, cb7, cb8, cb9, _⟩ := req_all (W := w1) (g := w.heap.size + 1) (t := 25) (v0 := .int .i64 4) (v1 := .int .i64 0) (v2 := .int .i64 0) (v3 := .int .i64 (ck : Int)) (v4 := .int .i64 (cm : Int)) (v5 := .int .i64 (cl : Int)) (v6 := .int .i64 (cn : Int)) (v7 := .int .i64 0) (v8 := .int .i64 0) (v9 := .int .i64 0) (by repeat (first | (with_reducible refine at_drew ?_) | ((with_reducible refine at_new ?_); (simp; done)) | (with_reducible refine at_old ?_) | (with_reducible (apply Ext.block; assumption)))))
        refine bodyPost_ret (v := .tuple #[.agg #[.int .i64 4, .int .i64 0, .int .i64 0, .int .i64 (ck : Int), .int .i64 (cm : Int), .int .i64 (cl : Int), .int .i64 (cn : Int), .int .i64 0, .int .i64 0, .int .i64 0], .int .i64 0]) (by simp [results, Try.results9, go_sem, *]) rfl (.inl ⟨ck, cm, cl, cn, ?_, rfl, ?_⟩)
        · rw [HT0.out]
          refine (decTo_iff _ _ _).2 ⟨?_, HVAL.out.symm, HBD.out.2 HBB.out⟩
          rw [L0.out]; simp only [szs, statusL]; simp; have := CE.out; have := S0.out; omega
        · repeat (first | (with_reducible exact Ext.refl _) | (with_reducible assumption) | (with_reducible refine Ext.drew ?_) | (with_reducible refine Ext.alloc ?_ _) | (with_reducible refine Ext.setCell ?_ (by simp) _) | (with_reducible (apply Ext.chain; assumption)))
      · have hem : t1.toList.isEmpty = false := by
          rw [ByteArray.toList_eq, List.isEmpty_eq_false_iff]; intro h; apply ce; rw [← ByteArray.size_data, ← Array.length_toList, h]; rfl
        have CE : Hid (1 ≤ t1.size) := by show 1 ≤ t1.size; omega
        clear ce
        go_wp2_with (go_at_call 24; refine (right_4 0 0 ck cm cl cn 0 0 0 _).mono ?_; rw [HBB.out]; rintro e w1 ⟨rfl, hx1⟩; obtain ⟨la, ca0, ca1, ca2, ca3, ca4, ca5, ca6, ca7, ca8, ca9, fa0, fa1, fa2, fa3, fa4, fa5, fa6, fa7, fa8, fa9⟩ := req_all (W := w1) (g := w.heap.size) (t := 25) (v0 := .int .i64 0) (v1 := .int .i64 0) (v2 := .int .i64 0) (v3 := .int .i64 0) (v4 := .int .i64 0) (v5 := .int .i64 0) (v6 := .int .i64 0) (v7 := .int .i64 0) (v8 := .int .i64 0) (v9 := .int .i64 0) (by repeat (first | (with_reducible refine at_drew ?_) | ((with_reducible refine at_new ?_); (simp; done)) | (with_reducible refine at_old ?_) | (with_reducible (apply Ext.block; assumption)))); obtain ⟨lb, cb0, cb1, cb2, cb3, cb4, cb5, cb6, cb7, cb8, cb9, _⟩ := req_all (W := w1) (g := w.heap.size + 1) (t := 25) (v0 := .int .i64 4) (v1 := .int .i64 0) (v2 := .int .i64 0) (v3 := .int .i64 (ck : Int)) (v4 := .int .i64 (cm : Int)) (v5 := .int .i64 (cl : Int)) (v6 := .int .i64 (cn : Int)) (v7 := .int .i64 0) (v8 := .int .i64 0) (v9 := .int .i64 0) (by repeat (first | (with_reducible refine at_drew ?_) | ((with_reducible refine at_new ?_); (simp; done)) | (with_reducible refine at_old ?_) | (with_reducible (apply Ext.block; assumption)))))
        refine bodyPost_ret (v := .tuple #[.agg #[.int .i64 0, .int .i64 0, .int .i64 0, .int .i64 0, .int .i64 0, .int .i64 0, .int .i64 0, .int .i64 0, .int .i64 0, .int .i64 0], .int .i64 1]) (by simp [results, Try.results9, go_sem, *]) rfl (.inr ⟨HBAD.out _ ?_, rfl, ?_⟩)
        · rw [HT0.out, L0.out]; simp only [szs, statusL]; simp; have := CE.out; have := S0.out; omega
        · repeat (first | (with_reducible exact Ext.refl _) | (with_reducible assumption) | (with_reducible refine Ext.drew ?_) | (with_reducible refine Ext.alloc ?_ _) | (with_reducible refine Ext.setCell ?_ (by simp) _) | (with_reducible (apply Ext.chain; assumption)))
end Go.Proofs.Ytmnjhhachdlmkaa
