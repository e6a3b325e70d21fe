import Derived.Test.YtmnjhhachdlmkaaRight
import Derived.Test.YtmnjhhachdlmkaaDec
namespace Go.Proofs.Ytmnjhhachdlmkaa
open Go.RowKit

set_option maxRecDepth 100000 in
set_option maxHeartbeats 6400000 in
theorem refRead_1 (str : ByteArray) (hs : str.size ≤ maxLen) (h1 : 0 < str.size) (hk : (str[0]).toNat = 1) (w : World) :
    Calls Try.prog 9 #[.string str] w fun e w' =>
      (∃ s i ck cm cl cn c : Nat, decTo leaseL (str.extract 1 str.size).data.toList = some ([s, i, ck, cm, cl, cn, c], []) ∧ e = .returned (.tuple #[.agg #[.int .i64 1, .int .i64 (s : Int), .int .i64 (i : Int), .int .i64 (ck : Int), .int .i64 (cm : Int), .int .i64 (cl : Int), .int .i64 (cn : Int), .int .i64 0, .int .i64 (c : Int), .int .i64 0], .int .i64 0]) ∧ Ext w w') ∨
      ((∀ vs, decTo leaseL (str.extract 1 str.size).data.toList ≠ some (vs, [])) ∧ e = .returned (.tuple #[.agg #[.int .i64 0, .int .i64 0, .int .i64 0, .int .i64 0, .int .i64 0, .int .i64 0, .int .i64 0, .int .i64 0, .int .i64 0, .int .i64 0], .int .i64 1]) ∧ Ext w w') := by
  have hne : str.toList.isEmpty = false := by
    rw [ByteArray.toList_eq]
    cases hx : str.data.toList with
    | nil => have : str.size = 0 := by rw [← ByteArray.size_data, ← Array.length_toList, hx]; rfl
             omega
    | cons _ _ => rfl
  have x0 : ((⟨#[83, 73, 75, 67]⟩ : ByteArray)[0]).toNat = 83 := rfl
  have x1 : ((⟨#[83, 73, 75, 67]⟩ : ByteArray)[1]).toNat = 73 := rfl
  have x2 : ((⟨#[83, 73, 75, 67]⟩ : ByteArray)[2]).toNat = 75 := rfl
  have x3 : ((⟨#[83, 73, 75, 67]⟩ : ByteArray)[3]).toNat = 67 := rfl
  have hes : (str.extract 1 str.size).size ≤ 9223372036854775807 := by rw [ByteArray.size_extract]; unfold maxLen at hs; omega
  unfold maxLen at hs
  have HBAD : Hid (∀ T : List UInt8, T.length ≠ szs leaseL → ∀ vs, decTo leaseL T ≠ some (vs, [])) := fun T h vs h' => h ((decTo_iff _ _ _).1 h').1
  go_enter Try.func9, Try.ntmps9
  go_wp2_with (go_at_call 25; refine (uses_1 _).mono ?_; rintro e w1 ⟨rfl, rfl⟩)
  generalize hT0 : str.extract 1 str.size = t0 at *
  have HT0 : Hid (str.extract 1 str.size = t0) := hT0
  clear hT0
  have l0 : t0.data.toList.length = t0.size := by simp
  have L0 : Hid _ := l0
  clear l0
  refine wp_loop_rounds 5 ?_
  rw [rounds_succ]
  by_cases c0 : t0.size < 4
  · go_wp2
    refine bodyPost_ret (v := .tuple #[.agg #[.int .i64 0, .int .i64 0, .int .i64 0, .int .i64 0, .int .i64 0, .int .i64 0, .int .i64 0, .int .i64 0, .int .i64 0, .int .i64 0], .int .i64 1]) (by simp [results, Try.results9, go_sem]) rfl (.inr ⟨HBAD.out _ ?_, rfl, ?_⟩)
    · rw [HT0.out, L0.out]; simp only [szs, leaseL]; simp; omega
    · repeat (first | exact Ext.refl _ | refine Ext.alloc ?_ _ | refine Ext.setCell ?_ (by simp) _ | refine Ext.drew ?_)
  · skip
    go_wp2_with (go_at_call 28; refine (number_c t0 (by omega) (by unfold maxLen; omega) _).mono ?_; rintro e w1 ⟨rfl, rfl⟩)
    generalize hv : be (List.take 4 t0.data.toList) = s at *
    have V_s : Hid (be (List.take 4 t0.data.toList) = s) := hv
    clear hv
    have e0 : (t0.extract 4 t0.size).data.toList = t0.data.toList.drop 4 := extract_hi t0 4
    have s0 : (t0.extract 4 t0.size).size + 4 = t0.size := by rw [ByteArray.size_extract]; omega
    generalize t0.extract 4 t0.size = t1 at *
    have E0 : Hid (t1.data.toList = t0.data.toList.drop 4) := e0
    have S0 : Hid (t1.size + 4 = t0.size) := s0
    have S0a : t1.size ≤ t0.size := by omega
    clear e0 s0
    rw [rounds_succ]
    by_cases c1 : t1.size < 4
    · go_wp2
      refine bodyPost_ret (v := .tuple #[.agg #[.int .i64 0, .int .i64 0, .int .i64 0, .int .i64 0, .int .i64 0, .int .i64 0, .int .i64 0, .int .i64 0, .int .i64 0, .int .i64 0], .int .i64 1]) (by simp [results, Try.results9, go_sem]) rfl (.inr ⟨HBAD.out _ ?_, rfl, ?_⟩)
      · rw [HT0.out, L0.out]; simp only [szs, leaseL]; simp; have := S0.out; omega
      · repeat (first | exact Ext.refl _ | refine Ext.alloc ?_ _ | refine Ext.setCell ?_ (by simp) _ | refine Ext.drew ?_)
    · skip
      go_wp2_with (go_at_call 28; refine (number_c t1 (by omega) (by unfold maxLen; omega) _).mono ?_; rintro e w1 ⟨rfl, rfl⟩)
      generalize hv : be (List.take 4 t1.data.toList) = i at *
      have V_i : Hid (be (List.take 4 t1.data.toList) = i) := hv
      clear hv
      have e1 : (t1.extract 4 t1.size).data.toList = t1.data.toList.drop 4 := extract_hi t1 4
      have s1 : (t1.extract 4 t1.size).size + 4 = t1.size := by rw [ByteArray.size_extract]; omega
      generalize t1.extract 4 t1.size = t2 at *
      have E1 : Hid (t2.data.toList = t1.data.toList.drop 4) := e1
      have S1 : Hid (t2.size + 4 = t1.size) := s1
      have S1a : t2.size ≤ t1.size := by omega
      clear e1 s1
      rw [rounds_succ]
      by_cases c2 : t2.size < 4
      · go_wp2
        refine bodyPost_ret (v := .tuple #[.agg #[.int .i64 0, .int .i64 0, .int .i64 0, .int .i64 0, .int .i64 0, .int .i64 0, .int .i64 0, .int .i64 0, .int .i64 0, .int .i64 0], .int .i64 1]) (by simp [results, Try.results9, go_sem]) rfl (.inr ⟨HBAD.out _ ?_, rfl, ?_⟩)
        · rw [HT0.out, L0.out]; simp only [szs, leaseL]; simp; have := S0.out; have := S1.out; omega
        · repeat (first | exact Ext.refl _ | refine Ext.alloc ?_ _ | refine Ext.setCell ?_ (by simp) _ | refine Ext.drew ?_)
      · skip
        have b2a : ∀ q, q < 4 → q < t2.size := by omega
        have i20 : (0 : Int) < (t2.size : Int) := by omega
        have i21 : (1 : Int) < (t2.size : Int) := by omega
        have i22 : (2 : Int) < (t2.size : Int) := by omega
        have i23 : (3 : Int) < (t2.size : Int) := by omega
        have j20 : 0 < t2.size := by omega
        have j21 : 1 < t2.size := by omega
        have j22 : 2 < t2.size := by omega
        have j23 : 3 < t2.size := by omega
        go_wp2
        refine wp_region_any (by kernel_rfl) ?_
        change wpAny _ _ _ _ _ _ _ (World.drew _)
        refine wpAny_take (i := 0) (v := .string t2) rfl (by kernel_rfl) (by kernel_rfl) (by kernel_rfl) (fun _ _ _ h => h) (Or.inl ⟨by rfl, by intro w; go_simp⟩) ?_
        refine wpAny_take (i := 1) (v := .int .u8 ((t2[0]'j20).toNat : Int)) rfl (by kernel_rfl) (by kernel_rfl) (by kernel_rfl) (fun _ _ _ h => h) (Or.inl ⟨by rfl, by intro w; go_simp⟩) ?_
        refine wpAny_take (i := 2) (v := .int .i64 (IntKind.i64.wrap ((t2[0]'j20).toNat : Int))) rfl (by kernel_rfl) (by kernel_rfl) (by kernel_rfl) (fun _ _ _ h => h) (Or.inl ⟨by rfl, by intro w; go_simp⟩) ?_
        refine wpAny_take (i := 3) (v := .string t2) rfl (by kernel_rfl) (by kernel_rfl) (by kernel_rfl) (fun _ _ _ h => h) (Or.inl ⟨by rfl, by intro w; go_simp⟩) ?_
        refine wpAny_take (i := 4) (v := .int .u8 ((t2[1]'j21).toNat : Int)) rfl (by kernel_rfl) (by kernel_rfl) (by kernel_rfl) (fun _ _ _ h => h) (Or.inl ⟨by rfl, by intro w; go_simp⟩) ?_
        refine wpAny_take (i := 5) (v := .int .i64 (IntKind.i64.wrap ((t2[1]'j21).toNat : Int))) rfl (by kernel_rfl) (by kernel_rfl) (by kernel_rfl) (fun _ _ _ h => h) (Or.inl ⟨by rfl, by intro w; go_simp⟩) ?_
        refine wpAny_take (i := 6) (v := .string t2) rfl (by kernel_rfl) (by kernel_rfl) (by kernel_rfl) (fun _ _ _ h => h) (Or.inl ⟨by rfl, by intro w; go_simp⟩) ?_
        refine wpAny_take (i := 7) (v := .int .u8 ((t2[2]'j22).toNat : Int)) rfl (by kernel_rfl) (by kernel_rfl) (by kernel_rfl) (fun _ _ _ h => h) (Or.inl ⟨by rfl, by intro w; go_simp⟩) ?_
        refine wpAny_take (i := 8) (v := .int .i64 (IntKind.i64.wrap ((t2[2]'j22).toNat : Int))) rfl (by kernel_rfl) (by kernel_rfl) (by kernel_rfl) (fun _ _ _ h => h) (Or.inl ⟨by rfl, by intro w; go_simp⟩) ?_
        refine wpAny_take (i := 9) (v := .string t2) rfl (by kernel_rfl) (by kernel_rfl) (by kernel_rfl) (fun _ _ _ h => h) (Or.inl ⟨by rfl, by intro w; go_simp⟩) ?_
        refine wpAny_take (i := 10) (v := .int .u8 ((t2[3]'j23).toNat : Int)) rfl (by kernel_rfl) (by kernel_rfl) (by kernel_rfl) (fun _ _ _ h => h) (Or.inl ⟨by rfl, by intro w; go_simp⟩) ?_
        refine wpAny_take (i := 11) (v := .int .i64 (IntKind.i64.wrap ((t2[3]'j23).toNat : Int))) rfl (by kernel_rfl) (by kernel_rfl) (by kernel_rfl) (fun _ _ _ h => h) (Or.inl ⟨by rfl, by intro w; go_simp⟩) ?_
        refine wpAny_take (i := 12) (v := .agg #[.int .i64 (IntKind.i64.wrap ((t2[0]'j20).toNat : Int)), .int .i64 (IntKind.i64.wrap ((t2[1]'j21).toNat : Int)), .int .i64 (IntKind.i64.wrap ((t2[2]'j22).toNat : Int)), .int .i64 (IntKind.i64.wrap ((t2[3]'j23).toNat : Int))]) rfl (by kernel_rfl) (by kernel_rfl) (by kernel_rfl) (fun _ _ _ h => h) (Or.inl ⟨by rfl, by intro w; go_simp⟩) ?_
        refine wpAny_take (i := 13) (v := .pointer (some ⟨w.heap.size + 1, 3, none⟩)) rfl (by kernel_rfl) (by kernel_rfl) (by kernel_rfl) (fun _ _ _ h => h) (Or.inl ⟨by rfl, by intro w; go_simp⟩) ?_
        refine wpAny_ready (rs := [14]) (by kernel_rfl) (by simp) ?_
        refine AllReady.cons rfl (fun K hK => ?_) AllReady.nil
        go_simp
        refine hK _ _ ?_
        clear hK K
        refine wpAny_done (by kernel_rfl) ?_ _
        have w20 : IntKind.i64.wrap ((t2[0]'j20).toNat : Int) = ((t2[0]'j20).toNat : Int) := i64w (by omega) (by have := UInt8.toNat_lt (t2[0]'j20); omega)
        have w21 : IntKind.i64.wrap ((t2[1]'j21).toNat : Int) = ((t2[1]'j21).toNat : Int) := i64w (by omega) (by have := UInt8.toNat_lt (t2[1]'j21); omega)
        have w22 : IntKind.i64.wrap ((t2[2]'j22).toNat : Int) = ((t2[2]'j22).toNat : Int) := i64w (by omega) (by have := UInt8.toNat_lt (t2[2]'j22); omega)
        have w23 : IntKind.i64.wrap ((t2[3]'j23).toNat : Int) = ((t2[3]'j23).toNat : Int) := i64w (by omega) (by have := UInt8.toNat_lt (t2[3]'j23); omega)
        simp only [w20, w21, w22, w23]
        clear w20 w21 w22 w23
        generalize hv : (t2[0]'j20).toNat = ck at *
        have V_ck : Hid ((t2[0]'j20).toNat = ck) := hv
        clear hv
        have B_ck : ck < 256 := by rw [← V_ck.out]; exact UInt8.toNat_lt _
        generalize hv : (t2[1]'j21).toNat = cm at *
        have V_cm : Hid ((t2[1]'j21).toNat = cm) := hv
        clear hv
        have B_cm : cm < 256 := by rw [← V_cm.out]; exact UInt8.toNat_lt _
        generalize hv : (t2[2]'j22).toNat = cl at *
        have V_cl : Hid ((t2[2]'j22).toNat = cl) := hv
        clear hv
        have B_cl : cl < 256 := by rw [← V_cl.out]; exact UInt8.toNat_lt _
        generalize hv : (t2[3]'j23).toNat = cn at *
        have V_cn : Hid ((t2[3]'j23).toNat = cn) := hv
        clear hv
        have B_cn : cn < 256 := by rw [← V_cn.out]; exact UInt8.toNat_lt _
        go_wp2
        have e2 : (t2.extract 4 t2.size).data.toList = t2.data.toList.drop 4 := extract_hi t2 4
        have s2 : (t2.extract 4 t2.size).size + 4 = t2.size := by rw [ByteArray.size_extract]; omega
        generalize t2.extract 4 t2.size = t3 at *
        have E2 : Hid (t3.data.toList = t2.data.toList.drop 4) := e2
        have S2 : Hid (t3.size + 4 = t2.size) := s2
        have S2a : t3.size ≤ t2.size := by omega
        clear e2 s2
        rw [rounds_succ]
        by_cases c3 : t3.size < 4
        · go_wp2
          refine bodyPost_ret (v := .tuple #[.agg #[.int .i64 0, .int .i64 0, .int .i64 0, .int .i64 0, .int .i64 0, .int .i64 0, .int .i64 0, .int .i64 0, .int .i64 0, .int .i64 0], .int .i64 1]) (by simp [results, Try.results9, go_sem]) rfl (.inr ⟨HBAD.out _ ?_, rfl, ?_⟩)
          · rw [HT0.out, L0.out]; simp only [szs, leaseL]; simp; have := S0.out; have := S1.out; have := S2.out; omega
          · repeat (first | exact Ext.refl _ | refine Ext.alloc ?_ _ | refine Ext.setCell ?_ (by simp) _ | refine Ext.drew ?_)
        · skip
          go_wp2_with (go_at_call 28; refine (number_c t3 (by omega) (by unfold maxLen; omega) _).mono ?_; rintro e w1 ⟨rfl, rfl⟩)
          generalize hv : be (List.take 4 t3.data.toList) = c at *
          have V_c : Hid (be (List.take 4 t3.data.toList) = c) := hv
          clear hv
          have e3 : (t3.extract 4 t3.size).data.toList = t3.data.toList.drop 4 := extract_hi t3 4
          have s3 : (t3.extract 4 t3.size).size + 4 = t3.size := by rw [ByteArray.size_extract]; omega
          generalize t3.extract 4 t3.size = t4 at *
          have E3 : Hid (t4.data.toList = t3.data.toList.drop 4) := e3
          have S3 : Hid (t4.size + 4 = t3.size) := s3
          have S3a : t4.size ≤ t3.size := by omega
          clear e3 s3
          rw [rounds_succ]
          have D0 : t0.data.toList = List.drop 0 t0.data.toList := rfl
          have f_s : be (List.take 4 (List.drop 0 t0.data.toList)) = s := by rw [← D0]; exact V_s.out
          have D1 : t1.data.toList = List.drop 4 t0.data.toList := by rw [E0.out, D0, List.drop_drop]
          have f_i : be (List.take 4 (List.drop 4 t0.data.toList)) = i := by rw [← D1]; exact V_i.out
          have D2 : t2.data.toList = List.drop 8 t0.data.toList := by rw [E1.out, D1, List.drop_drop]
          have f_ck : be (List.take 1 (List.drop 8 t0.data.toList)) = ck := by rw [show 8 = 8 + 0 from rfl, ← List.drop_drop, ← D2, be_one t2 0 j20]; exact V_ck.out
          have f_cm : be (List.take 1 (List.drop 9 t0.data.toList)) = cm := by rw [show 9 = 8 + 1 from rfl, ← List.drop_drop, ← D2, be_one t2 1 j21]; exact V_cm.out
          have f_cl : be (List.take 1 (List.drop 10 t0.data.toList)) = cl := by rw [show 10 = 8 + 2 from rfl, ← List.drop_drop, ← D2, be_one t2 2 j22]; exact V_cl.out
          have f_cn : be (List.take 1 (List.drop 11 t0.data.toList)) = cn := by rw [show 11 = 8 + 3 from rfl, ← List.drop_drop, ← D2, be_one t2 3 j23]; exact V_cn.out
          have D3 : t3.data.toList = List.drop 12 t0.data.toList := by rw [E2.out, D2, List.drop_drop]
          have f_c : be (List.take 4 (List.drop 12 t0.data.toList)) = c := by rw [← D3]; exact V_c.out
          have HVAL : Hid (valsOf leaseL t0.data.toList = [s, i, ck, cm, cl, cn, c]) := by
            show valsOf leaseL t0.data.toList = [s, i, ck, cm, cl, cn, c]
            rw [← f_s, ← f_i, ← f_ck, ← f_cm, ← f_cl, ← f_cn, ← f_c]
            simp [leaseL, valsOf, List.drop_drop]
          have HBD : Hid (bounded leaseL t0.data.toList ↔ inB s i ck cm cl cn 0 c 0 ((0 : Int) == 0 && (0 : Int) == 0) = true) := by
            show bounded leaseL t0.data.toList ↔ inB s i ck cm cl cn 0 c 0 ((0 : Int) == 0 && (0 : Int) == 0) = true
            have hb : bounded leaseL t0.data.toList ↔ ((s : Int) ≤ 2147483647 ∧ (i : Int) ≤ 2147483647 ∧ (ck : Int) ≤ 255 ∧ (cm : Int) ≤ 255 ∧ (cl : Int) ≤ 255 ∧ (cn : Int) ≤ 255 ∧ (c : Int) ≤ 2147483647) := by
              rw [← f_s, ← f_i, ← f_ck, ← f_cm, ← f_cl, ← f_cn, ← f_c]
              simp [leaseL, bounded, List.drop_drop]
            rw [hb]
            simp [inB, isNum, isByt]
            try omega
          clear f_s f_i f_ck f_cm f_cl f_cn f_c D0 D1 D2 D3
          cases hB : inB s i ck cm cl cn 0 c 0 ((0 : Int) == 0 && (0 : Int) == 0)
          · have HBB : Hid _ := hB
            clear hB
            go_wp2_with (go_at_call 24; refine (right_1 s i ck cm cl cn 0 c 0 _).mono ?_; rw [HBB.out]; rintro e w1 ⟨rfl, hx1⟩; obtain ⟨la, ca0, ca1, ca2, ca3, ca4, ca5, ca6, ca7, ca8, ca9, fa0, fa1, fa2, fa3, fa4, fa5, fa6, fa7, fa8, fa9⟩ := req_all (W := w1) (g := w.heap.size) (t := 25) (v0 := .int .i64 0) (v1 := .int .i64 0) (v2 := .int .i64 0) (v3 := .int .i64 0) (v4 := .int .i64 0) (v5 := .int .i64 0) (v6 := .int .i64 0) (v7 := .int .i64 0) (v8 := .int .i64 0) (v9 := .int .i64 0) (by repeat (first | (with_reducible refine at_drew ?_) | ((with_reducible refine at_new ?_); (simp; done)) | (with_reducible refine at_old ?_) | (with_reducible (apply Ext.block; assumption)))); obtain ⟨lb, cb0, cb1, cb2, cb3, cb4, cb5, cb6, cb7, cb8, cb9, _⟩ := req_all (W := w1) (g := w.heap.size + 1) (t := 25) (v0 := .int .i64 1) (v1 := .int .i64 (s : Int)) (v2 := .int .i64 (i : Int)) (v3 := .int .i64 (ck : Int)) (v4 := .int .i64 (cm : Int)) (v5 := .int .i64 (cl : Int)) (v6 := .int .i64 (cn : Int)) (v7 := .int .i64 0) (v8 := .int .i64 (c : Int)) (v9 := .int .i64 0) (by repeat (first | (with_reducible refine at_drew ?_) | ((with_reducible refine at_new ?_); (simp; done)) | (with_reducible refine at_old ?_) | (with_reducible (apply Ext.block; assumption)))))
            refine bodyPost_ret (v := .tuple #[.agg #[.int .i64 0, .int .i64 0, .int .i64 0, .int .i64 0, .int .i64 0, .int .i64 0, .int .i64 0, .int .i64 0, .int .i64 0, .int .i64 0], .int .i64 1]) (by simp [results, Try.results9, go_sem, *]) rfl (.inr ⟨?_, rfl, ?_⟩)
            · intro vs h
              rw [HT0.out] at h
              have h3 := HBD.out.1 ((decTo_iff _ _ _).1 h).2.2
              rw [HBB.out] at h3
              simp at h3
            · repeat (first | (with_reducible exact Ext.refl _) | (with_reducible assumption) | (with_reducible refine Ext.drew ?_) | (with_reducible refine Ext.alloc ?_ _) | (with_reducible refine Ext.setCell ?_ (by simp) _) | (with_reducible (apply Ext.chain; assumption)))
          · have HBB : Hid _ := hB
            clear hB
            by_cases ce : t4.size = 0
            · have hem : t4.toList.isEmpty = true := by
                rw [ByteArray.toList_eq, List.isEmpty_iff, ← List.length_eq_zero_iff]; simpa using ce
              have CE : Hid _ := ce
              clear ce
              go_wp2_with (go_at_call 24; refine (right_1 s i ck cm cl cn 0 c 0 _).mono ?_; rw [HBB.out]; rintro e w1 ⟨rfl, hx1⟩; obtain ⟨la, ca0, ca1, ca2, ca3, ca4, ca5, ca6, ca7, ca8, ca9, fa0, fa1, fa2, fa3, fa4, fa5, fa6, fa7, fa8, fa9⟩ := req_all (W := w1) (g := w.heap.size) (t := 25) (v0 := .int .i64 0) (v1 := .int .i64 0) (v2 := .int .i64 0) (v3 := .int .i64 0) (v4 := .int .i64 0) (v5 := .int .i64 0) (v6 := .int .i64 0) (v7 := .int .i64 0) (v8 := .int .i64 0) (v9 := .int .i64 0) (by repeat (first | (with_reducible refine at_drew ?_) | ((with_reducible refine at_new ?_); (simp; done)) | (with_reducible refine at_old ?_) | (with_reducible (apply Ext.block; assumption)))); obtain ⟨lb, cb0, cb1, cb2, cb3, cb4, cb5, cb6, cb7, cb8, cb9, _⟩ := req_all (W := w1) (g := w.heap.size + 1) (t := 25) (v0 := .int .i64 1) (v1 := .int .i64 (s : Int)) (v2 := .int .i64 (i : Int)) (v3 := .int .i64 (ck : Int)) (v4 := .int .i64 (cm : Int)) (v5 := .int .i64 (cl : Int)) (v6 := .int .i64 (cn : Int)) (v7 := .int .i64 0) (v8 := .int .i64 (c : Int)) (v9 := .int .i64 0) (by repeat (first | (with_reducible refine at_drew ?_) | ((with_reducible refine at_new ?_); (simp; done)) | (with_reducible refine at_old ?_) | (with_reducible (apply Ext.block; assumption)))))
              refine bodyPost_ret (v := .tuple #[.agg #[.int .i64 1, .int .i64 (s : Int), .int .i64 (i : Int), .int .i64 (ck : Int), .int .i64 (cm : Int), .int .i64 (cl : Int), .int .i64 (cn : Int), .int .i64 0, .int .i64 (c : Int), .int .i64 0], .int .i64 0]) (by simp [results, Try.results9, go_sem, *]) rfl (.inl ⟨s, i, ck, cm, cl, cn, c, ?_, rfl, ?_⟩)
              · rw [HT0.out]
                refine (decTo_iff _ _ _).2 ⟨?_, HVAL.out.symm, HBD.out.2 HBB.out⟩
                rw [L0.out]; simp only [szs, leaseL]; simp; have := CE.out; have := S0.out; have := S1.out; have := S2.out; have := S3.out; omega
              · repeat (first | (with_reducible exact Ext.refl _) | (with_reducible assumption) | (with_reducible refine Ext.drew ?_) | (with_reducible refine Ext.alloc ?_ _) | (with_reducible refine Ext.setCell ?_ (by simp) _) | (with_reducible (apply Ext.chain; assumption)))
            · have hem : t4.toList.isEmpty = false := by
                rw [ByteArray.toList_eq, List.isEmpty_eq_false_iff]; intro h; apply ce; rw [← ByteArray.size_data, ← Array.length_toList, h]; rfl
              have CE : Hid (1 ≤ t4.size) := by show 1 ≤ t4.size; omega
              clear ce
              go_wp2_with (go_at_call 24; refine (right_1 s i ck cm cl cn 0 c 0 _).mono ?_; rw [HBB.out]; rintro e w1 ⟨rfl, hx1⟩; obtain ⟨la, ca0, ca1, ca2, ca3, ca4, ca5, ca6, ca7, ca8, ca9, fa0, fa1, fa2, fa3, fa4, fa5, fa6, fa7, fa8, fa9⟩ := req_all (W := w1) (g := w.heap.size) (t := 25) (v0 := .int .i64 0) (v1 := .int .i64 0) (v2 := .int .i64 0) (v3 := .int .i64 0) (v4 := .int .i64 0) (v5 := .int .i64 0) (v6 := .int .i64 0) (v7 := .int .i64 0) (v8 := .int .i64 0) (v9 := .int .i64 0) (by repeat (first | (with_reducible refine at_drew ?_) | ((with_reducible refine at_new ?_); (simp; done)) | (with_reducible refine at_old ?_) | (with_reducible (apply Ext.block; assumption)))); obtain ⟨lb, cb0, cb1, cb2, cb3, cb4, cb5, cb6, cb7, cb8, cb9, _⟩ := req_all (W := w1) (g := w.heap.size + 1) (t := 25) (v0 := .int .i64 1) (v1 := .int .i64 (s : Int)) (v2 := .int .i64 (i : Int)) (v3 := .int .i64 (ck : Int)) (v4 := .int .i64 (cm : Int)) (v5 := .int .i64 (cl : Int)) (v6 := .int .i64 (cn : Int)) (v7 := .int .i64 0) (v8 := .int .i64 (c : Int)) (v9 := .int .i64 0) (by repeat (first | (with_reducible refine at_drew ?_) | ((with_reducible refine at_new ?_); (simp; done)) | (with_reducible refine at_old ?_) | (with_reducible (apply Ext.block; assumption)))))
              refine bodyPost_ret (v := .tuple #[.agg #[.int .i64 0, .int .i64 0, .int .i64 0, .int .i64 0, .int .i64 0, .int .i64 0, .int .i64 0, .int .i64 0, .int .i64 0, .int .i64 0], .int .i64 1]) (by simp [results, Try.results9, go_sem, *]) rfl (.inr ⟨HBAD.out _ ?_, rfl, ?_⟩)
              · rw [HT0.out, L0.out]; simp only [szs, leaseL]; simp; have := CE.out; have := S0.out; have := S1.out; have := S2.out; have := S3.out; omega
              · repeat (first | (with_reducible exact Ext.refl _) | (with_reducible assumption) | (with_reducible refine Ext.drew ?_) | (with_reducible refine Ext.alloc ?_ _) | (with_reducible refine Ext.setCell ?_ (by simp) _) | (with_reducible (apply Ext.chain; assumption)))
end Go.Proofs.Ytmnjhhachdlmkaa
