import Derived.Test.YtmnjhhachdlmkaaGreatK15
import Derived.Test.YtmnjhhachdlmkaaGreatK20
import Derived.Test.YtmnjhhachdlmkaaGreatK17
namespace Go.Proofs.YtmnjhhachdlmkaaGreat
set_option linter.unusedVariables false
set_option linter.unusedSimpArgs false
open List renaming getElem_toArray -> lA, getElem_cons_succ -> lB, getElem_cons_zero -> lC, setIfInBounds_toArray -> lD, set_cons_zero -> lE, set_cons_succ -> lF
open World renaming block_lt_of_cell? -> lG
-- VBn
section
set_option maxRecDepth 100000
set_option maxHeartbeats 1600000
open Go.RowKit Go.Maps
theorem bent_c (s : ByteArray) (at' how b : Int) (hs : s.size <= 2000000000) (h1 : -9223372036854775808 <= at' /\ at' <= 9223372036854775807) (h2 : -9223372036854775808 <= how /\ how <= 9223372036854775807) (h3 : -9223372036854775808 <= b /\ b <= 9223372036854775807) (w : World) :
  Calls Tryz.prog 31 #[.string s, .int .i64 at', .int .i64 how, .int .i64 b] w fun e w' => ∃ t : ByteArray, e = .returned (.string t) /\ t.size <= s.size + 1 /\ Ext w w' := by
 have HB : Hid _ := fun w => pick_c b 256 (by decide) (by decide) h3.1 h3.2 w
 have HH : Hid _ := fun w => pick_c how 3 (by decide) (by decide) h2.1 h2.2 w
 have HA : Hid _ := fun w => pick_c at' (s.size + 1) (by omega) (by omega) h1.1 h1.2 w
 have lb := pickN_lt b (show 0 < 256 by decide)
 have lh := pickN_lt how (show 0 < 3 by decide)
 have la := pickN_lt at' (show 0 < s.size + 1 by omega)
 generalize pickN b 256 = pb at *
 generalize pickN how 3 = ph at *
 generalize pickN at' (s.size + 1) = pa at *
 clear h1 h2 h3
 go_enter Tryz.func31, Tryz.ntmps31
 go_wp2_with fail
 refine (HB.out _).mono ?_
 rintro e w1 ⟨rfl, rfl⟩
 have hcv : (convert 136 9 (.slice (some ⟨w.heap.size, 0, none⟩) 1 1)).run Tryz.prog (w.alloc (.cells #[.int .u8 (pb : Int)] 5)) = .ok (.string ⟨#[UInt8.ofNat pb]⟩) (w.alloc (.cells #[.int .u8 (pb : Int)] 5)) := by
  refine run_convert_bytes_back (P := Tryz.prog) _ 136 9 5 ⟨w.heap.size, 0, none⟩ 1 [UInt8.ofNat pb] Tryz.underlying136 Tryz.underlying5 Tryz.underlying9 (fun j hj => ?_)
  obtain rfl : j = 0 := by simp at hj; exact hj
  refine (cell_of_row _ _ 0 _ _ _ (heap_alloc_new w _)).trans ?_
  simp
  omega
 have hsz1 : (⟨#[UInt8.ofNat pb]⟩ : ByteArray).size = 1 := rfl
 have HX1 : Hid (Ext w (w.alloc (.cells #[.int .u8 (pb : Int)] 5))) := (Ext.refl w).alloc _
 go_wp2_with fail
 generalize (⟨#[UInt8.ofNat pb]⟩ : ByteArray) = ch at *
 generalize World.alloc w _ = W at HX1 hcv ⊢
 clear hcv
 have hns : ¬ 9223372036854775807 < s.size + ch.size := by omega
 refine (HA.out _).mono ?_
 rintro e w2 ⟨rfl, rfl⟩
 by_cases he : s.toList.isEmpty = true
 ·have he2 : (s.toList == []) = true := by simpa using he
  go_wp2_with fail
  go_ret
  exact ⟨_, rfl, by rw [ByteArray.size_append]; omega, HX1.out⟩
 ·have he2 : (s.toList == []) = false := by simpa using he
  have hss : s.size ≠ 0 := fun h => he (by
   rw [ByteArray.toList_eq]
   have : s.data.toList.length = 0 := by simpa using h
   rw [List.length_eq_zero_iff.1 this]
   rfl)
  by_cases hp : pa = s.size
  ·have hpI : (pa : Int) = (s.size : Int) := by omega
   rw [hpI]
   clear he
   go_wp2_with fail
   go_ret
   exact ⟨_, rfl, by rw [ByteArray.size_append]; omega, HX1.out⟩
  ·have hpI : ¬ (pa : Int) = (s.size : Int) := by omega
   have hp0 : (0 : Int) <= (pa : Int) := by omega
   have hp1 : (pa : Int) <= (s.size : Int) := by omega
   have hp2 : (pa : Int) + 1 <= (s.size : Int) := by omega
   have z1 : (s.extract 0 pa).size = pa := by simp; omega
   have hwp : IntKind.i64.wrap ((pa : Int) + 1) = (pa : Int) + 1 := by rw [IntKind.wrap_i64]; omega
   have htn : ((pa : Int) + 1).toNat = pa + 1 := by omega
   have z2 : (s.extract pa s.size).size = s.size - pa := by simp
   have z3 : (s.extract (pa + 1) s.size).size = s.size - (pa + 1) := by simp
   obtain rfl | rfl | rfl : ph = 0 \/ ph = 1 \/ ph = 2 := by omega
   ·clear he hp
    have y1 : ¬ 9223372036854775807 < (s.extract 0 pa).size + ch.size := by rw [z1]; omega
    have y2 : ¬ 9223372036854775807 < (s.extract 0 pa ++ ch).size + (s.extract pa s.size).size := by rw [ByteArray.size_append, z1, z2]; omega
    have HZ : Hid ((s.extract 0 pa).size = pa /\ (s.extract pa s.size).size = s.size - pa /\ (s.extract (pa + 1) s.size).size = s.size - (pa + 1) /\ ch.size = 1) := ⟨z1, z2, z3, hsz1⟩
    clear z1 z2 z3 hns
    go_wp2_with fail
    refine (HH.out _).mono ?_
    rintro e w3 ⟨rfl, rfl⟩
    go_wp2_with fail
    refine wp_region_held_drew (S := (fun _ => True)) (by kernel_rfl) trivial (fun hHeld => ?_)
    refine wpAnyH_take (i := 0) (oi := _) (v := ?x0q1) rfl (by kernel_rfl) (by kernel_rfl) (by kernel_rfl) (fun _ _ _ h => h) (Or.inl ⟨by rfl, ?hy⟩) hHeld ?_
    case hy => (intro w hSw; (try dsimp only at hSw); go_simp; (try rw [hwp]); (try rw [if_pos (by omega)]); (try rw [htn]); (try rw [if_neg (by simp only [ByteArray.size_append, ByteArray.size_extract]; omega)]); (try rw [if_neg (by omega)]); try with_reducible rfl)
    try simp only [Act.put, lA, lB, lC, lD, lE, lF]
    refine wpAnyH_take (i := 1) (oi := _) (v := ?x1q2) rfl (by kernel_rfl) (by kernel_rfl) (by kernel_rfl) (fun _ _ _ h => h) (Or.inl ⟨by rfl, ?hy⟩) hHeld ?_
    case hy => (intro w hSw; (try dsimp only at hSw); go_simp; (try rw [hwp]); (try rw [if_pos (by omega)]); (try rw [htn]); (try rw [if_neg (by simp only [ByteArray.size_append, ByteArray.size_extract]; omega)]); (try rw [if_neg (by omega)]); try with_reducible rfl)
    try simp only [Act.put, lA, lB, lC, lD, lE, lF]
    refine wpAnyH_take (i := 2) (oi := _) (v := ?x2q3) rfl (by kernel_rfl) (by kernel_rfl) (by kernel_rfl) (fun _ _ _ h => h) (Or.inl ⟨by rfl, ?hy⟩) hHeld ?_
    case hy => (intro w hSw; (try dsimp only at hSw); go_simp; (try rw [hwp]); (try rw [if_pos (by omega)]); (try rw [htn]); (try rw [if_neg (by simp only [ByteArray.size_append, ByteArray.size_extract]; omega)]); (try rw [if_neg (by omega)]); try with_reducible rfl)
    try simp only [Act.put, lA, lB, lC, lD, lE, lF]
    refine wpAnyH_take (i := 3) (oi := _) (v := ?x3q4) rfl (by kernel_rfl) (by kernel_rfl) (by kernel_rfl) (fun _ _ _ h => h) (Or.inl ⟨by rfl, ?hy⟩) hHeld ?_
    case hy => (intro w hSw; (try dsimp only at hSw); go_simp; (try rw [hwp]); (try rw [if_pos (by omega)]); (try rw [htn]); (try rw [if_neg (by simp only [ByteArray.size_append, ByteArray.size_extract]; omega)]); (try rw [if_neg (by omega)]); try with_reducible rfl)
    try simp only [Act.put, lA, lB, lC, lD, lE, lF]
    refine wpAnyH_take (i := 4) (oi := _) (v := ?x4q5) rfl (by kernel_rfl) (by kernel_rfl) (by kernel_rfl) (fun _ _ _ h => h) (Or.inl ⟨by rfl, ?hy⟩) hHeld ?_
    case hy => (intro w hSw; (try dsimp only at hSw); go_simp; (try rw [hwp]); (try rw [if_pos (by omega)]); (try rw [htn]); (try rw [if_neg (by simp only [ByteArray.size_append, ByteArray.size_extract]; omega)]); (try rw [if_neg (by omega)]); try with_reducible rfl)
    try simp only [Act.put, lA, lB, lC, lD, lE, lF]
    refine wpAnyH_take (i := 5) (oi := _) (v := ?x5q6) rfl (by kernel_rfl) (by kernel_rfl) (by kernel_rfl) (fun _ _ _ h => h) (Or.inl ⟨by rfl, ?hy⟩) hHeld ?_
    case hy => (intro w hSw; (try dsimp only at hSw); go_simp; (try rw [hwp]); (try rw [if_pos (by omega)]); (try rw [htn]); (try rw [if_neg (by simp only [ByteArray.size_append, ByteArray.size_extract]; omega)]); (try rw [if_neg (by omega)]); try with_reducible rfl)
    try simp only [Act.put, lA, lB, lC, lD, lE, lF]
    refine wpAnyH_take (i := 6) (oi := _) (v := ?x6q7) rfl (by kernel_rfl) (by kernel_rfl) (by kernel_rfl) (fun _ _ _ h => h) (Or.inl ⟨by rfl, ?hy⟩) hHeld ?_
    case hy => (intro w hSw; (try dsimp only at hSw); go_simp; (try rw [hwp]); (try rw [if_pos (by omega)]); (try rw [htn]); (try rw [if_neg (by simp only [ByteArray.size_append, ByteArray.size_extract]; omega)]); (try rw [if_neg (by omega)]); try with_reducible rfl)
    try simp only [Act.put, lA, lB, lC, lD, lE, lF]
    refine wpAnyH_take (i := 7) (oi := _) (v := ?x7q8) rfl (by kernel_rfl) (by kernel_rfl) (by kernel_rfl) (fun _ _ _ h => h) (Or.inl ⟨by rfl, ?hy⟩) hHeld ?_
    case hy => (intro w hSw; (try dsimp only at hSw); go_simp; (try rw [hwp]); (try rw [if_pos (by omega)]); (try rw [htn]); (try rw [if_neg (by simp only [ByteArray.size_append, ByteArray.size_extract]; omega)]); (try rw [if_neg (by omega)]); try with_reducible rfl)
    try simp only [Act.put, lA, lB, lC, lD, lE, lF]
    refine wpAnyH_take (i := 8) (oi := _) (v := ?x8q9) rfl (by kernel_rfl) (by kernel_rfl) (by kernel_rfl) (fun _ _ _ h => h) (Or.inl ⟨by rfl, ?hy⟩) hHeld ?_
    case hy => (intro w hSw; (try dsimp only at hSw); go_simp; (try rw [hwp]); (try rw [if_pos (by omega)]); (try rw [htn]); (try rw [if_neg (by simp only [ByteArray.size_append, ByteArray.size_extract]; omega)]); (try rw [if_neg (by omega)]); try with_reducible rfl)
    try simp only [Act.put, lA, lB, lC, lD, lE, lF]
    refine wpAnyH_take (i := 9) (oi := _) (v := ?x9q10) rfl (by kernel_rfl) (by kernel_rfl) (by kernel_rfl) (fun _ _ _ h => h) (Or.inl ⟨by rfl, ?hy⟩) hHeld ?_
    case hy => (intro w hSw; (try dsimp only at hSw); go_simp; (try rw [hwp]); (try rw [if_pos (by omega)]); (try rw [htn]); (try rw [if_neg (by simp only [ByteArray.size_append, ByteArray.size_extract]; omega)]); (try rw [if_neg (by omega)]); try with_reducible rfl)
    try simp only [Act.put, lA, lB, lC, lD, lE, lF]
    refine wpAnyH_done (by kernel_rfl) ?_ _
    go_wp2_with fail
    go_ret
    exact ⟨_, rfl, by obtain ⟨z1, z2, z3, z4⟩ := HZ.out; simp only [ByteArray.size_append, z1, z2, z3, z4]; omega, Ext.drew HX1.out⟩
   ·clear he hp
    have y1 : ¬ 9223372036854775807 < (s.extract 0 pa).size + (s.extract (pa + 1) s.size).size := by rw [z1, z3]; omega
    have HZ : Hid ((s.extract 0 pa).size = pa /\ (s.extract pa s.size).size = s.size - pa /\ (s.extract (pa + 1) s.size).size = s.size - (pa + 1) /\ ch.size = 1) := ⟨z1, z2, z3, hsz1⟩
    clear z1 z2 z3 hns
    go_wp2_with fail
    refine (HH.out _).mono ?_
    rintro e w3 ⟨rfl, rfl⟩
    go_wp2_with fail
    refine wp_region_held_drew (S := (fun _ => True)) (by kernel_rfl) trivial (fun hHeld => ?_)
    refine wpAnyH_take (i := 0) (oi := _) (v := ?x0q11) rfl (by kernel_rfl) (by kernel_rfl) (by kernel_rfl) (fun _ _ _ h => h) (Or.inl ⟨by rfl, ?hy⟩) hHeld ?_
    case hy => (intro w hSw; (try dsimp only at hSw); go_simp; (try rw [hwp]); (try rw [if_pos (by omega)]); (try rw [htn]); (try rw [if_neg (by simp only [ByteArray.size_append, ByteArray.size_extract]; omega)]); (try rw [if_neg (by omega)]); try with_reducible rfl)
    try simp only [Act.put, lA, lB, lC, lD, lE, lF]
    refine wpAnyH_take (i := 1) (oi := _) (v := ?x1q12) rfl (by kernel_rfl) (by kernel_rfl) (by kernel_rfl) (fun _ _ _ h => h) (Or.inl ⟨by rfl, ?hy⟩) hHeld ?_
    case hy => (intro w hSw; (try dsimp only at hSw); go_simp; (try rw [hwp]); (try rw [if_pos (by omega)]); (try rw [htn]); (try rw [if_neg (by simp only [ByteArray.size_append, ByteArray.size_extract]; omega)]); (try rw [if_neg (by omega)]); try with_reducible rfl)
    try simp only [Act.put, lA, lB, lC, lD, lE, lF]
    refine wpAnyH_take (i := 2) (oi := _) (v := ?x2q13) rfl (by kernel_rfl) (by kernel_rfl) (by kernel_rfl) (fun _ _ _ h => h) (Or.inl ⟨by rfl, ?hy⟩) hHeld ?_
    case hy => (intro w hSw; (try dsimp only at hSw); go_simp; (try rw [hwp]); (try rw [if_pos (by omega)]); (try rw [htn]); (try rw [if_neg (by simp only [ByteArray.size_append, ByteArray.size_extract]; omega)]); (try rw [if_neg (by omega)]); try with_reducible rfl)
    try simp only [Act.put, lA, lB, lC, lD, lE, lF]
    refine wpAnyH_take (i := 3) (oi := _) (v := ?x3q14) rfl (by kernel_rfl) (by kernel_rfl) (by kernel_rfl) (fun _ _ _ h => h) (Or.inl ⟨by rfl, ?hy⟩) hHeld ?_
    case hy => (intro w hSw; (try dsimp only at hSw); go_simp; (try rw [hwp]); (try rw [if_pos (by omega)]); (try rw [htn]); (try rw [if_neg (by simp only [ByteArray.size_append, ByteArray.size_extract]; omega)]); (try rw [if_neg (by omega)]); try with_reducible rfl)
    try simp only [Act.put, lA, lB, lC, lD, lE, lF]
    refine wpAnyH_take (i := 4) (oi := _) (v := ?x4q15) rfl (by kernel_rfl) (by kernel_rfl) (by kernel_rfl) (fun _ _ _ h => h) (Or.inl ⟨by rfl, ?hy⟩) hHeld ?_
    case hy => (intro w hSw; (try dsimp only at hSw); go_simp; (try rw [hwp]); (try rw [if_pos (by omega)]); (try rw [htn]); (try rw [if_neg (by simp only [ByteArray.size_append, ByteArray.size_extract]; omega)]); (try rw [if_neg (by omega)]); try with_reducible rfl)
    try simp only [Act.put, lA, lB, lC, lD, lE, lF]
    refine wpAnyH_take (i := 5) (oi := _) (v := ?x5q16) rfl (by kernel_rfl) (by kernel_rfl) (by kernel_rfl) (fun _ _ _ h => h) (Or.inl ⟨by rfl, ?hy⟩) hHeld ?_
    case hy => (intro w hSw; (try dsimp only at hSw); go_simp; (try rw [hwp]); (try rw [if_pos (by omega)]); (try rw [htn]); (try rw [if_neg (by simp only [ByteArray.size_append, ByteArray.size_extract]; omega)]); (try rw [if_neg (by omega)]); try with_reducible rfl)
    try simp only [Act.put, lA, lB, lC, lD, lE, lF]
    refine wpAnyH_take (i := 6) (oi := _) (v := ?x6q17) rfl (by kernel_rfl) (by kernel_rfl) (by kernel_rfl) (fun _ _ _ h => h) (Or.inl ⟨by rfl, ?hy⟩) hHeld ?_
    case hy => (intro w hSw; (try dsimp only at hSw); go_simp; (try rw [hwp]); (try rw [if_pos (by omega)]); (try rw [htn]); (try rw [if_neg (by simp only [ByteArray.size_append, ByteArray.size_extract]; omega)]); (try rw [if_neg (by omega)]); try with_reducible rfl)
    try simp only [Act.put, lA, lB, lC, lD, lE, lF]
    refine wpAnyH_take (i := 7) (oi := _) (v := ?x7q18) rfl (by kernel_rfl) (by kernel_rfl) (by kernel_rfl) (fun _ _ _ h => h) (Or.inl ⟨by rfl, ?hy⟩) hHeld ?_
    case hy => (intro w hSw; (try dsimp only at hSw); go_simp; (try rw [hwp]); (try rw [if_pos (by omega)]); (try rw [htn]); (try rw [if_neg (by simp only [ByteArray.size_append, ByteArray.size_extract]; omega)]); (try rw [if_neg (by omega)]); try with_reducible rfl)
    try simp only [Act.put, lA, lB, lC, lD, lE, lF]
    refine wpAnyH_take (i := 8) (oi := _) (v := ?x8q19) rfl (by kernel_rfl) (by kernel_rfl) (by kernel_rfl) (fun _ _ _ h => h) (Or.inl ⟨by rfl, ?hy⟩) hHeld ?_
    case hy => (intro w hSw; (try dsimp only at hSw); go_simp; (try rw [hwp]); (try rw [if_pos (by omega)]); (try rw [htn]); (try rw [if_neg (by simp only [ByteArray.size_append, ByteArray.size_extract]; omega)]); (try rw [if_neg (by omega)]); try with_reducible rfl)
    try simp only [Act.put, lA, lB, lC, lD, lE, lF]
    refine wpAnyH_done (by kernel_rfl) ?_ _
    go_wp2_with fail
    go_ret
    exact ⟨_, rfl, by obtain ⟨z1, z2, z3, z4⟩ := HZ.out; simp only [ByteArray.size_append, z1, z2, z3, z4]; omega, Ext.drew HX1.out⟩
   ·clear he hp
    have y1 : ¬ 9223372036854775807 < (s.extract 0 pa).size + ch.size := by rw [z1]; omega
    have y2 : ¬ 9223372036854775807 < (s.extract 0 pa ++ ch).size + (s.extract (pa + 1) s.size).size := by rw [ByteArray.size_append, z1, z3]; omega
    have HZ : Hid ((s.extract 0 pa).size = pa /\ (s.extract pa s.size).size = s.size - pa /\ (s.extract (pa + 1) s.size).size = s.size - (pa + 1) /\ ch.size = 1) := ⟨z1, z2, z3, hsz1⟩
    clear z1 z2 z3 hns
    go_wp2_with fail
    refine (HH.out _).mono ?_
    rintro e w3 ⟨rfl, rfl⟩
    go_wp2_with fail
    refine wp_region_held_drew (S := (fun _ => True)) (by kernel_rfl) trivial (fun hHeld => ?_)
    refine wpAnyH_take (i := 0) (oi := _) (v := ?x0q20) rfl (by kernel_rfl) (by kernel_rfl) (by kernel_rfl) (fun _ _ _ h => h) (Or.inl ⟨by rfl, ?hy⟩) hHeld ?_
    case hy => (intro w hSw; (try dsimp only at hSw); go_simp; (try rw [hwp]); (try rw [if_pos (by omega)]); (try rw [htn]); (try rw [if_neg (by simp only [ByteArray.size_append, ByteArray.size_extract]; omega)]); (try rw [if_neg (by omega)]); try with_reducible rfl)
    try simp only [Act.put, lA, lB, lC, lD, lE, lF]
    refine wpAnyH_take (i := 1) (oi := _) (v := ?x1q21) rfl (by kernel_rfl) (by kernel_rfl) (by kernel_rfl) (fun _ _ _ h => h) (Or.inl ⟨by rfl, ?hy⟩) hHeld ?_
    case hy => (intro w hSw; (try dsimp only at hSw); go_simp; (try rw [hwp]); (try rw [if_pos (by omega)]); (try rw [htn]); (try rw [if_neg (by simp only [ByteArray.size_append, ByteArray.size_extract]; omega)]); (try rw [if_neg (by omega)]); try with_reducible rfl)
    try simp only [Act.put, lA, lB, lC, lD, lE, lF]
    refine wpAnyH_take (i := 2) (oi := _) (v := ?x2q22) rfl (by kernel_rfl) (by kernel_rfl) (by kernel_rfl) (fun _ _ _ h => h) (Or.inl ⟨by rfl, ?hy⟩) hHeld ?_
    case hy => (intro w hSw; (try dsimp only at hSw); go_simp; (try rw [hwp]); (try rw [if_pos (by omega)]); (try rw [htn]); (try rw [if_neg (by simp only [ByteArray.size_append, ByteArray.size_extract]; omega)]); (try rw [if_neg (by omega)]); try with_reducible rfl)
    try simp only [Act.put, lA, lB, lC, lD, lE, lF]
    refine wpAnyH_take (i := 3) (oi := _) (v := ?x3q23) rfl (by kernel_rfl) (by kernel_rfl) (by kernel_rfl) (fun _ _ _ h => h) (Or.inl ⟨by rfl, ?hy⟩) hHeld ?_
    case hy => (intro w hSw; (try dsimp only at hSw); go_simp; (try rw [hwp]); (try rw [if_pos (by omega)]); (try rw [htn]); (try rw [if_neg (by simp only [ByteArray.size_append, ByteArray.size_extract]; omega)]); (try rw [if_neg (by omega)]); try with_reducible rfl)
    try simp only [Act.put, lA, lB, lC, lD, lE, lF]
    refine wpAnyH_take (i := 4) (oi := _) (v := ?x4q24) rfl (by kernel_rfl) (by kernel_rfl) (by kernel_rfl) (fun _ _ _ h => h) (Or.inl ⟨by rfl, ?hy⟩) hHeld ?_
    case hy => (intro w hSw; (try dsimp only at hSw); go_simp; (try rw [hwp]); (try rw [if_pos (by omega)]); (try rw [htn]); (try rw [if_neg (by simp only [ByteArray.size_append, ByteArray.size_extract]; omega)]); (try rw [if_neg (by omega)]); try with_reducible rfl)
    try simp only [Act.put, lA, lB, lC, lD, lE, lF]
    refine wpAnyH_take (i := 5) (oi := _) (v := ?x5q25) rfl (by kernel_rfl) (by kernel_rfl) (by kernel_rfl) (fun _ _ _ h => h) (Or.inl ⟨by rfl, ?hy⟩) hHeld ?_
    case hy => (intro w hSw; (try dsimp only at hSw); go_simp; (try rw [hwp]); (try rw [if_pos (by omega)]); (try rw [htn]); (try rw [if_neg (by simp only [ByteArray.size_append, ByteArray.size_extract]; omega)]); (try rw [if_neg (by omega)]); try with_reducible rfl)
    try simp only [Act.put, lA, lB, lC, lD, lE, lF]
    refine wpAnyH_take (i := 6) (oi := _) (v := ?x6q26) rfl (by kernel_rfl) (by kernel_rfl) (by kernel_rfl) (fun _ _ _ h => h) (Or.inl ⟨by rfl, ?hy⟩) hHeld ?_
    case hy => (intro w hSw; (try dsimp only at hSw); go_simp; (try rw [hwp]); (try rw [if_pos (by omega)]); (try rw [htn]); (try rw [if_neg (by simp only [ByteArray.size_append, ByteArray.size_extract]; omega)]); (try rw [if_neg (by omega)]); try with_reducible rfl)
    try simp only [Act.put, lA, lB, lC, lD, lE, lF]
    refine wpAnyH_take (i := 7) (oi := _) (v := ?x7q27) rfl (by kernel_rfl) (by kernel_rfl) (by kernel_rfl) (fun _ _ _ h => h) (Or.inl ⟨by rfl, ?hy⟩) hHeld ?_
    case hy => (intro w hSw; (try dsimp only at hSw); go_simp; (try rw [hwp]); (try rw [if_pos (by omega)]); (try rw [htn]); (try rw [if_neg (by simp only [ByteArray.size_append, ByteArray.size_extract]; omega)]); (try rw [if_neg (by omega)]); try with_reducible rfl)
    try simp only [Act.put, lA, lB, lC, lD, lE, lF]
    refine wpAnyH_take (i := 8) (oi := _) (v := ?x8q28) rfl (by kernel_rfl) (by kernel_rfl) (by kernel_rfl) (fun _ _ _ h => h) (Or.inl ⟨by rfl, ?hy⟩) hHeld ?_
    case hy => (intro w hSw; (try dsimp only at hSw); go_simp; (try rw [hwp]); (try rw [if_pos (by omega)]); (try rw [htn]); (try rw [if_neg (by simp only [ByteArray.size_append, ByteArray.size_extract]; omega)]); (try rw [if_neg (by omega)]); try with_reducible rfl)
    try simp only [Act.put, lA, lB, lC, lD, lE, lF]
    refine wpAnyH_take (i := 9) (oi := _) (v := ?x9q29) rfl (by kernel_rfl) (by kernel_rfl) (by kernel_rfl) (fun _ _ _ h => h) (Or.inl ⟨by rfl, ?hy⟩) hHeld ?_
    case hy => (intro w hSw; (try dsimp only at hSw); go_simp; (try rw [hwp]); (try rw [if_pos (by omega)]); (try rw [htn]); (try rw [if_neg (by simp only [ByteArray.size_append, ByteArray.size_extract]; omega)]); (try rw [if_neg (by omega)]); try with_reducible rfl)
    try simp only [Act.put, lA, lB, lC, lD, lE, lF]
    refine wpAnyH_take (i := 10) (oi := _) (v := ?x10q30) rfl (by kernel_rfl) (by kernel_rfl) (by kernel_rfl) (fun _ _ _ h => h) (Or.inl ⟨by rfl, ?hy⟩) hHeld ?_
    case hy => (intro w hSw; (try dsimp only at hSw); go_simp; (try rw [hwp]); (try rw [if_pos (by omega)]); (try rw [htn]); (try rw [if_neg (by simp only [ByteArray.size_append, ByteArray.size_extract]; omega)]); (try rw [if_neg (by omega)]); try with_reducible rfl)
    try simp only [Act.put, lA, lB, lC, lD, lE, lF]
    refine wpAnyH_done (by kernel_rfl) ?_ _
    go_wp2_with fail
    go_ret
    exact ⟨_, rfl, by obtain ⟨z1, z2, z3, z4⟩ := HZ.out; simp only [ByteArray.size_append, z1, z2, z3, z4]; omega, Ext.drew HX1.out⟩
end
-- VBt
section
set_option maxRecDepth 100000
set_option maxHeartbeats 6400000
open Go.RowKit Go.Maps
theorem bentTop_c (sa : Option Addr) (n cap : Nat) (hn : n <= 150000) (at' how by' : Int) (h1 : inI at') (h2 : inI how) (h3 : inI by') (ma : Option Addr) (mn mcap : Nat) (hmn : mn <= 150000) (w : World) (hs : KScriptAt w w.heap.size sa n) (hm : KScriptAt w w.heap.size ma mn) :
  Calls Tryz.prog 9 #[.slice sa n cap, .int .i64 at', .int .i64 how, .int .i64 by', .slice ma mn mcap] w fun e w' => e = .returned (.bool true) /\ Turn (fun b => w.heap.size <= b) w w' := by
 have HSc : Hid (KScriptAt w w.heap.size sa n) := hs
 have HMo : Hid (KScriptAt w w.heap.size ma mn) := hm
 have HI : Hid (inI at' /\ inI how /\ inI by') := ⟨h1, h2, h3⟩
 clear hs hm h1 h2 h3
 go_enter Tryz.func9, Tryz.ntmps9
 go_wp2_with fail
 refine (began_c w).mono ?_
 rintro e w1 ⟨P, B, rfl, b1, b2, b3, b4, b5, b6⟩
 have HR0 : Hid (RunsOf w w1 P 0 DS.opened [] (fun b => b = P \/ b = B)) := runs_began b1 b2 b3 b4 b5 b6
 clear b1 b2 b3 b4 b5 b6
 go_wp2_with fail
 go_loopw [12] (fun i wr => ∃ j : Nat, j <= n /\ i = .int .i64 j /\ ∃ d fs G, RunsOf w wr P j d fs G) (fun i _ => n - (intOf i).toNat)
 case atStart => exact ⟨0, Nat.zero_le _, rfl, _, _, _, HR0.out⟩
 case round =>
  obtain ⟨j, hj, rfl, d, fs, G, hR⟩ := hrel
  have HR : Hid (RunsOf w wr P j d fs G) := hR
  clear hR HR0
  by_cases hlt : j < n
  ·obtain ⟨b, off, rfl, hb, kd, a, b', c, n', ra, rl, rcap, D, hst, hbo⟩ := script_at HSc.out HR.out.turn hlt
   have HSt : Hid (StepAt wr b (off + j * 6) kd a b' c n' ra rl rcap D) := hst
   obtain ⟨s0, s1, s2, s3, s4, s5, i1, i2, i3, i4, i5, hDl, hrl, hdw⟩ := hst
   have hbl := lG wr _ s0
   have hj0 : (0 : Int) <= (j : Int) := by omega
   have hj1 : (j : Int) < n := by omega
   have HStp : Hid (∀ w', Ext wr w' -> _) := fun w' hx => stepR_x kd a b' c n' ra rl rcap D i1 i2 i3 i4 i5 hDl (by omega) HR.out.ok (by omega) w' (HR.out.run.ext hx) (hdw.ext hx)
   have HNx : Hid (RunOk (stepR d fs kd a b' c n' D).2.1 (stepR d fs kd a b' c n' D).2.2 (j + 1) /\ Keep4 (stepR d fs kd a b' c n' D).2.1) := ⟨stepR_run HR.out.ok (by omega) kd a b' c n' D, keep4_step HR.out.keep HR.out.ok (by omega) kd a b' c n' D⟩
   clear i1 i2 i3 i4 i5 hDl hrl hdw hbo
   generalize stepR d fs kd a b' c n' D = p at *
   obtain ⟨⟨pc, pf, pn, pz⟩, d', fs'⟩ := p
   unfold StepRP stepV replyV at *
   simp only at *
   go_wp2_with fail
   refine (HStp.out _ (Ext.refl _)).mono ?_
   rintro e w2 ⟨xa, xl, xc, G', rfl, hz, hx⟩
   have HN2 : Hid (RunsOf w w2 P (j + 1) d' fs' G') := HR.out.next hx HNx.out.1 HNx.out.2
   clear hx hz
   go_wp2_with fail
   refine ⟨⟨j + 1, by omega, by go_num, d', fs', G', HN2.out.ext ((Ext.refl _).alloc _)⟩, by simp [intOf]; omega⟩
  ·obtain rfl : n = j := by omega
   have hops := HR.out.ok.ops
   have hlen := HR.out.ok.len
   obtain ⟨⟨B1, F1, fv, r1, r2, r3, r4, r5, r6⟩, r7, r8⟩ := HR.out.run
   have HQ : Hid (RunAt wr P B1 fv /\ DealX wr B1 F1 d /\ FileRow wr 0 fv fs) := ⟨r1, r2, r3⟩
   have p0 := cell_at r1 (i := 0) rfl
   have p1 := cell_at r1 (i := 1) rfl
   have hPl := lG wr _ p0
   obtain ⟨M, hM1, hM2⟩ := HR.out.ok.sz
   have HDk : Hid (∀ w', Ext wr w' -> _) := fun w' hx => disk_x (by omega) (r2.ext hx)
   have HDn : Hid (∀ w' dv, Ext wr w' -> w'.ownsRow 0 134 4 dv d.ops.length (opCells d.ops) -> _) := fun w' dv hx hrow => done_x (by omega) hM1 (by omega) w' (hx.owns r3) hrow
   have HSz : Hid ((doneS fs d.ops).length <= 10000000 /\ ∀ f ∈ doneS fs d.ops, f.2.size <= 999000000) := ⟨by have := doneS_len fs d.ops; omega, fun f hf => by have := doneS_size hM1 d.ops f hf; omega⟩
   have HT : Hid (Turn (fun b => w.heap.size <= b) w wr) := HR.out.turn
   clear r1 r2 r3 r4 r5 r6 r7 r8 hM1 hM2 hops hlen HR
   go_wp2_with fail
   refine (HDk.out _ (Ext.refl _)).mono ?_
   rintro e w2 ⟨dv, rfl, ho2, hx2⟩
   have HX2 : Hid (Ext wr w2) := hx2
   have HO2 : Hid (w2.ownsRow 0 134 4 dv d.ops.length (opCells d.ops)) := owns_base ho2 (Nat.zero_le _)
   have p2 := hx2.cell p1
   have hP2 := lG w2 _ p2
   clear ho2 hx2 p0 p1 hPl
   go_wp2_with fail
   refine (HDn.out _ _ HX2.out HO2.out).mono ?_
   rintro e w3 ⟨v3, rfl, hr3, hx3⟩
   obtain ⟨fa, fcap, rfl⟩ := owns_slice hr3
   have HX3 : Hid (Ext wr w3) := HX2.out.trans hx3
   generalize hgs : doneS fs d.ops = gs at *
   have HR3 : Hid (FileRow w3 wr.heap.size (.slice fa gs.length fcap) gs) := owns_base hr3 HX2.out.le
   obtain ⟨gn, hgn⟩ : ∃ gn, gs.length = gn := ⟨_, rfl⟩
   have HGn : Hid (gs.length = gn) := hgn
   rw [hgn] at HR3 ⊢
   clear hr3 hx3 hgs p2 hP2 hgn
   by_cases hg0 : gn = 0
   ·subst hg0
    go_wp2_with fail
    refine (anything_c (N0 := w.heap.size) fa 0 fcap gs HGn.out (by omega) (fun f hf => by have := HSz.out.2 f hf; omega) ma mn mcap (by omega) w3 (by have := HT.out.size; have := HX3.out.le; omega) HR3.out.at.2 (HMo.out.turn (HT.out.trans (Turn.of_ext HX3.out)))).mono ?_
    rintro e w4 ⟨rfl, ht4⟩
    have HT4 : Hid (Turn (fun b => w.heap.size <= b) w w4) := (HT.out.trans (Turn.of_ext HX3.out)).trans' ht4 (fun b hb e => by have := HT.out.size; have := HX3.out.le; omega)
    clear ht4
    go_wp2_with fail
    go_ret
    exact ⟨rfl, HT4.out⟩
   ·have hgp : (0 : Int) < (gn : Int) := by omega
    obtain ⟨g, rfl, hgw⟩ : ∃ g, fa = some ⟨g, 0, none⟩ /\ wr.heap.size <= g := by
     rcases owns_form HR3.out with ⟨he, hl, _⟩ | ⟨g, cap', he, hb, _, _⟩
     ·exact absurd (HGn.out.symm.trans hl) hg0
     ·injection he with e1 e2 e3
      exact ⟨g, e1, hb⟩
    have HPk : Hid _ := fun w => pick_c at' gn (by omega) (by have := HSz.out.1; have := HGn.out; omega) HI.out.1.1 HI.out.1.2 w
    have HPk2 : Hid _ := fun w => pick_c at' 1099511627776 (by decide) (by decide) HI.out.1.1 HI.out.1.2 w
    have lp := pickN_lt at' (show 0 < gn by omega)
    have lp2 := pickN_lt at' (show 0 < 1099511627776 by decide)
    generalize pickN at' gn = pi at *
    generalize pickN at' 1099511627776 = pq at *
    have hpil : pi < gs.length := by rw [HGn.out]; exact lp
    obtain ⟨f0, f1⟩ := HR3.out.cells pi hpil
    have hgl := lG w3 _ f0
    have hfr := World.ownsRow.frozenAt (show w3.ownsRow wr.heap.size 74 2 (.slice (some ⟨g, 0, none⟩) gn fcap) gn (fileCells gs) by have h := HR3.out; unfold FileRow at h; rw [HGn.out] at h; exact h) (pi * 2 + 1)
    have HG : Hid (wr.heap.size <= g) := hgw
    have hp0 : (0 : Int) <= (pi : Int) := by omega
    have hp1 : (pi : Int) < gn := by omega
    have hdv : Int.tdiv (pq : Int) (gn : Int) = ((pq / gn : Nat) : Int) := by rw [Int.tdiv_eq_ediv_of_nonneg (by omega)]; rfl
    have hdq : pq / gn <= pq := Nat.div_le_self _ _
    generalize pq / gn = qd at *
    have HBe : Hid (∀ w, _) := fun w => bent_c gs[pi].2 (qd : Int) how by' (by have := HSz.out.2 _ (List.getElem_mem hpil); omega) (by omega) HI.out.2.1 HI.out.2.2 w
    have HSt : Hid (∀ (w2 : World) (t : ByteArray), t.size <= gs[pi].2.size + 1 -> FileRow w2 wr.heap.size (.slice (some ⟨g, 0, none⟩) gn fcap) gs -> FileRow (w2.setCell ⟨g, pi * 2 + 1, none⟩ (.string t)) wr.heap.size (.slice (some ⟨g, 0, none⟩) gn fcap) (gs.set pi (gs[pi].1, t)) /\ (gs.set pi (gs[pi].1, t)).length = gn /\ ∀ f ∈ gs.set pi (gs[pi].1, t), f.2.size <= 1000000000) := fun w2 t ht h => by
     refine ⟨?_, by rw [List.length_set]; exact HGn.out, fun f hf => ?_⟩
     ·have h' := h
      unfold FileRow at h' ⊢
      rw [List.length_set, show fileCells (gs.set pi (gs[pi].1, t)) = (fileCells gs).set (pi * 2 + 1) (.string t) from fileCells_set gs pi hpil t]
      rw [HGn.out] at h' ⊢
      exact owns_set h' _ _
     ·have hsz := HSz.out.2 _ (List.getElem_mem hpil)
      rcases List.mem_or_eq_of_mem_set hf with h | rfl
      ·have := HSz.out.2 f h; omega
      ·simp only; omega
    generalize gs[pi].2 = fb at *
    generalize gs[pi].1 = fn at *
    clear hpil f0 hgw
    go_wp2_with fail
    refine (HPk.out _).mono ?_
    rintro e w4 ⟨rfl, rfl⟩
    go_wp2_with fail
    refine wp_region_held_drew (S := (fun _ => True)) (by kernel_rfl) trivial (fun hHeld => ?_)
    refine zT 0 hHeld ?_
    refine zT 1 hHeld ?_
    refine zT 2 hHeld ?_
    refine zT 3 hHeld ?_
    refine zT 4 hHeld ?_
    refine zT 5 hHeld ?_
    refine zT 7 hHeld ?_
    refine zT 9 hHeld ?_
    refine zT 10 hHeld ?_
    refine zT 12 hHeld ?_
    refine zT 13 hHeld ?_
    refine wpAnyH_ready (rs := [6, 8]) (by kernel_rfl) (by simp) ?_
    refine AllReadyH.cons (o := _) rfl (fun K hK => ?_) (AllReadyH.cons (o := _) rfl (fun K hK => ?_) AllReadyH.nil)
    ·skip
     (try simp only [lA, lB, lC])
     go_simp
     refine hK.out _ _ trivial (fun hHeld => ?_)
     clear hK K
     try simp only [Act.put, lA, lB, lC, lD, lE, lF]
     refine wpAnyH_ready (rs := [8]) (by kernel_rfl) (by simp) ?_
     refine AllReadyH.cons (o := _) rfl (fun K hK => ?_) AllReadyH.nil
     (try simp only [lA, lB, lC])
     go_simp
     refine (HPk2.out _).mono ?_
     rintro e w4 ⟨rfl, rfl⟩
     refine hK.out _ _ trivial (fun hHeld => ?_)
     clear hK K
     try simp only [Act.put, lA, lB, lC, lD, lE, lF]
     refine zT 11 hHeld ?_
     refine wpAnyH_ready (rs := [14]) (by kernel_rfl) (by simp) ?_
     refine AllReadyH.cons (o := _) rfl (fun K hK => ?_) AllReadyH.nil
     (try simp only [lA, lB, lC])
     go_simp
     rw [show IntKind.i64.wrap ((qd : Nat) : Int) = ((qd : Nat) : Int) by rw [IntKind.wrap_i64]; omega]
     refine (HBe.out _).mono ?_
     rintro e w5 ⟨t5, rfl, hs5, hx5⟩
     have HX5 : Hid (Ext w3 w5) := (Ext.drew (Ext.refl w3)).trans hx5
     have HS5 : Hid _ := hs5
     have g1 := HX5.out.cell f1
     have gf := (HX5.out.frozen (p := ⟨g, pi * 2 + 1, none⟩) hgl).trans hfr
     have hg5 := lG w5 _ g1
     clear hs5 hx5
     refine hK.out _ _ trivial (fun hHeld => ?_)
     clear hK K
     try simp only [Act.put, lA, lB, lC, lD, lE, lF]
     refine zT 15 hHeld ?_
     refine zT 16 hHeld ?_
     refine wpAnyH_ready (rs := [17]) (by kernel_rfl) (by simp) ?_
     refine AllReadyH.cons (o := _) rfl (fun K hK => ?_) AllReadyH.nil
     (try simp only [lA, lB, lC])
     go_simp
     refine hK.out _ _ trivial (fun hHeld => ?_)
     clear hK K
     try simp only [Act.put, lA, lB, lC, lD, lE, lF]
     refine wpAnyH_done (by kernel_rfl) ?_ _
     obtain ⟨hFR, hFl, hFz⟩ := HSt.out w5 t5 HS5.out (HX5.out.owns HR3.out)
     have hT6 : Turn (fun b => w.heap.size <= b) w (w5.setCell ⟨g, pi * 2 + 1, none⟩ (.string t5)) := (HT.out.trans (Turn.of_ext (HX3.out.trans HX5.out))).setCell (fun _ => by show w.heap.size <= g; have := HG.out; have := HT.out.size; omega) _
     generalize World.setCell w5 _ _ = w6 at hFR hT6 ⊢
     have HT6 : Hid (Turn (fun b => w.heap.size <= b) w w6) := hT6
     have HF6 : Hid _ := And.intro hFR.at.2 (And.intro hFl hFz)
     clear hFR hFl hFz hT6 hHeld g1 gf hg5
     go_wp2_with fail
     refine (anything_c (N0 := w.heap.size) _ gn fcap _ HF6.out.2.1 (by have := HSz.out.1; have := HGn.out; omega) HF6.out.2.2 ma mn mcap (by omega) w6 HT6.out.size HF6.out.1 (HMo.out.turn HT6.out)).mono ?_
     rintro e w7 ⟨rfl, ht7⟩
     have HT7 : Hid (Turn (fun b => w.heap.size <= b) w w7) := HT6.out.trans' ht7 (fun b hb e => by have := HT6.out.size; omega)
     clear ht7
     go_wp2_with fail
     go_ret
     exact ⟨rfl, HT7.out⟩
    ·skip
     (try simp only [lA, lB, lC])
     go_simp
     refine (HPk2.out _).mono ?_
     rintro e w4 ⟨rfl, rfl⟩
     refine hK.out _ _ trivial (fun hHeld => ?_)
     clear hK K
     try simp only [Act.put, lA, lB, lC, lD, lE, lF]
     refine zT 11 hHeld ?_
     refine wpAnyH_ready (rs := [6]) (by kernel_rfl) (by simp) ?_
     refine AllReadyH.cons (o := _) rfl (fun K hK => ?_) AllReadyH.nil
     (try simp only [lA, lB, lC])
     go_simp
     refine hK.out _ _ trivial (fun hHeld => ?_)
     clear hK K
     try simp only [Act.put, lA, lB, lC, lD, lE, lF]
     refine wpAnyH_ready (rs := [14]) (by kernel_rfl) (by simp) ?_
     refine AllReadyH.cons (o := _) rfl (fun K hK => ?_) AllReadyH.nil
     (try simp only [lA, lB, lC])
     go_simp
     rw [show IntKind.i64.wrap ((qd : Nat) : Int) = ((qd : Nat) : Int) by rw [IntKind.wrap_i64]; omega]
     refine (HBe.out _).mono ?_
     rintro e w5 ⟨t5, rfl, hs5, hx5⟩
     have HX5 : Hid (Ext w3 w5) := (Ext.drew (Ext.refl w3)).trans hx5
     have HS5 : Hid _ := hs5
     have g1 := HX5.out.cell f1
     have gf := (HX5.out.frozen (p := ⟨g, pi * 2 + 1, none⟩) hgl).trans hfr
     have hg5 := lG w5 _ g1
     clear hs5 hx5
     refine hK.out _ _ trivial (fun hHeld => ?_)
     clear hK K
     try simp only [Act.put, lA, lB, lC, lD, lE, lF]
     refine zT 15 hHeld ?_
     refine zT 16 hHeld ?_
     refine wpAnyH_ready (rs := [17]) (by kernel_rfl) (by simp) ?_
     refine AllReadyH.cons (o := _) rfl (fun K hK => ?_) AllReadyH.nil
     (try simp only [lA, lB, lC])
     go_simp
     refine hK.out _ _ trivial (fun hHeld => ?_)
     clear hK K
     try simp only [Act.put, lA, lB, lC, lD, lE, lF]
     refine wpAnyH_done (by kernel_rfl) ?_ _
     obtain ⟨hFR, hFl, hFz⟩ := HSt.out w5 t5 HS5.out (HX5.out.owns HR3.out)
     have hT6 : Turn (fun b => w.heap.size <= b) w (w5.setCell ⟨g, pi * 2 + 1, none⟩ (.string t5)) := (HT.out.trans (Turn.of_ext (HX3.out.trans HX5.out))).setCell (fun _ => by show w.heap.size <= g; have := HG.out; have := HT.out.size; omega) _
     generalize World.setCell w5 _ _ = w6 at hFR hT6 ⊢
     have HT6 : Hid (Turn (fun b => w.heap.size <= b) w w6) := hT6
     have HF6 : Hid _ := And.intro hFR.at.2 (And.intro hFl hFz)
     clear hFR hFl hFz hT6 hHeld g1 gf hg5
     go_wp2_with fail
     refine (anything_c (N0 := w.heap.size) _ gn fcap _ HF6.out.2.1 (by have := HSz.out.1; have := HGn.out; omega) HF6.out.2.2 ma mn mcap (by omega) w6 HT6.out.size HF6.out.1 (HMo.out.turn HT6.out)).mono ?_
     rintro e w7 ⟨rfl, ht7⟩
     have HT7 : Hid (Turn (fun b => w.heap.size <= b) w w7) := HT6.out.trans' ht7 (fun b hb e => by have := HT6.out.size; omega)
     clear ht7
     go_wp2_with fail
     go_ret
     exact ⟨rfl, HT7.out⟩
end
-- VZe
section
set_option maxRecDepth 100000
open Go.ChangeShapes Go.WideShapes Go.ChangeAt Go.RowKit Go.Joins
theorem bent_contract (H : Type) (enc : TypeId × Value -> H) (W : World) (base : Nat) (args : Array Value) (ds gs : List (DataW H)) (before : List MemPlace)
  (hval : ∀ (j : Nat) t v, Tryz.f9.params[j]? = some t -> args[j]? = some v -> Value.okWide Tryz.prog W .any base t v)
  (hW : DataW.Whole enc Tryz.prog Tryz.f9.params.toList Rows.bentSpec.vars false W args.toList ds gs before) (hk : Rows.uptoSmall H (ds ++ gs) = true) :
  Calls Tryz.prog 9 args W fun e W' => ∃ v, e = .returned v /\ Rows.bentSpec.post enc Tryz.prog Tryz.f9 false true false false W args v W' := by
 have hW' := hW
 obtain ⟨p, q, hA0, hV, rfl, hfz, hnd⟩ := hW
 have hA : DataW.TrodAll enc Tryz.prog W 0 (fun _ => true) true Tryz.f9.params.toList args.toList ds p := hA0
 rw [Tryz.params9] at hA hval
 obtain ⟨v0, vs0, d0, ds0, p0, q0, hargs, rfl, rfl, h0, r0⟩ := trodAll_cons hA
 obtain ⟨v1, vs1, d1, ds1, p1, q1, rfl, rfl, rfl, h1, r1⟩ := trodAll_cons r0
 obtain ⟨v2, vs2, d2, ds2, p2, q2, rfl, rfl, rfl, h2, r2⟩ := trodAll_cons r1
 obtain ⟨v3, vs3, d3, ds3, p3, q3, rfl, rfl, rfl, h3, r3⟩ := trodAll_cons r2
 obtain ⟨v4, vs4, d4, ds4, p4, q4, rfl, rfl, rfl, h4, r4⟩ := trodAll_cons r3
 obtain ⟨rfl, rfl, rfl⟩ := trodAll_nil r4
 obtain rfl : args = #[v0, v1, v2, v3, v4] := by cases args; simp_all
 obtain ⟨rfl, rfl⟩ := trodVars_none hV
 have k0 := h0
 have lt0 : ∀ x ∈ p0, x.block < W.heap.size := by obtain ⟨m, hm⟩ := k0; exact DataW.trod_lt m _ _ _ hm
 have k1 := h1
 have lt1 : ∀ x ∈ p1, x.block < W.heap.size := by obtain ⟨m, hm⟩ := k1; exact DataW.trod_lt m _ _ _ hm
 have k2 := h2
 have lt2 : ∀ x ∈ p2, x.block < W.heap.size := by obtain ⟨m, hm⟩ := k2; exact DataW.trod_lt m _ _ _ hm
 have k3 := h3
 have lt3 : ∀ x ∈ p3, x.block < W.heap.size := by obtain ⟨m, hm⟩ := k3; exact DataW.trod_lt m _ _ _ hm
 have k4 := h4
 have lt4 : ∀ x ∈ p4, x.block < W.heap.size := by obtain ⟨m, hm⟩ := k4; exact DataW.trod_lt m _ _ _ hm
 have hbulk : Rows.uptoBulkAll ([d0, d1, d2, d3, d4] ++ []) <= 1048576 := of_decide_eq_true hk
 simp only [List.append_nil, Rows.uptoBulkAll] at hbulk
 obtain ⟨a0, len0, cap0, rfl⟩ := okWide_slice Tryz.underlying27 (hval 0 27 v0 rfl rfl)
 obtain ⟨hn0, hs0⟩ : len0 <= 150000 /\ KScriptAt W W.heap.size a0 len0 := by
  obtain ⟨fuel, hf⟩ := h0
  obtain ⟨a, n, cap, hv, hn, hs⟩ := open_kscript (y := (d0, p0)) hf (show Rows.uptoBulk d0 <= 1048576 by omega)
  injection hv with e1 e2 e3
  subst e1; subst e2
  exact ⟨hn, hs⟩
 obtain ⟨c1, rfl, _, _, hwf1⟩ := open_int Tryz.underlying3 (hval 1 3 v1 rfl rfl) h1
 have hc1 : inI c1 := inI_lit hwf1
 obtain ⟨c2, rfl, _, _, hwf2⟩ := open_int Tryz.underlying3 (hval 2 3 v2 rfl rfl) h2
 have hc2 : inI c2 := inI_lit hwf2
 obtain ⟨c3, rfl, _, _, hwf3⟩ := open_int Tryz.underlying3 (hval 3 3 v3 rfl rfl) h3
 have hc3 : inI c3 := inI_lit hwf3
 obtain ⟨a4, len4, cap4, rfl⟩ := okWide_slice Tryz.underlying27 (hval 4 27 v4 rfl rfl)
 obtain ⟨hn4, hs4⟩ : len4 <= 150000 /\ KScriptAt W W.heap.size a4 len4 := by
  obtain ⟨fuel, hf⟩ := h4
  obtain ⟨a, n, cap, hv, hn, hs⟩ := open_kscript (y := (d4, p4)) hf (show Rows.uptoBulk d4 <= 1048576 by omega)
  injection hv with e1 e2 e3
  subst e1; subst e2
  exact ⟨hn, hs⟩
 clear hA0 h0 h1 h2 h3 h4
 refine (bentTop_c a0 len0 cap0 hn0 c1 c2 c3 hc1 hc2 hc3 a4 len4 cap4 hn4 W hs0 hs4).mono fun e W' ⟨he, ht⟩ => ?_
 have bel : Below W.heap.size W W' := ext_of_turn ht
 subst he
 exact ⟨_, rfl, _, _, _, [], _, [], hW', trodAll_mk1 (shut_bool Tryz.underlying4 _), (trodAll_cons_mk (Below.trod laidOutK (by kernel_rfl) (of_decide_eq_true (by kernel_rfl)) k0 bel lt0) (trodAll_cons_mk (Below.trod laidOutK (by kernel_rfl) (of_decide_eq_true (by kernel_rfl)) k1 bel lt1) (trodAll_cons_mk (Below.trod laidOutK (by kernel_rfl) (of_decide_eq_true (by kernel_rfl)) k2 bel lt2) (trodAll_cons_mk (Below.trod laidOutK (by kernel_rfl) (of_decide_eq_true (by kernel_rfl)) k3 bel lt3) (trodAll_cons_mk (Below.trod laidOutK (by kernel_rfl) (of_decide_eq_true (by kernel_rfl)) k4 bel lt4) trodAll_mk0))))), rfl, bel.frame _, fun h => by cases h⟩
theorem bent_lifted (os : Os) (started : os.Started) (H : Type) (enc : TypeId × Value -> H) (F : Stop.Interp) :
  ReturnsInHanded {} Tryz.checked os 9 .any ((Rows.OpenSpec.upto Rows.bentSpec).pre6 enc Tryz.prog Tryz.f9 Rows.bentUptoRow.domain false) (((Rows.OpenSpec.upto Rows.bentSpec).at F).post enc Tryz.prog Tryz.f9 false true false false) := by
 refine returnsInHanded_of_cond (C := Tryz.checked) (s := Rows.OpenSpec.upto Rows.bentSpec) (k := Rows.uptoSmall) rfl ownK started (by kernel_rfl) Tryz.func9
  (OpenSpec.witness (enc := enc) (C := Tryz.checked) (s := Rows.OpenSpec.upto Rows.bentSpec) (k := Rows.uptoSmall) rfl false ⟨#[], #[.slice none 0 0, .int .i64 0, .int .i64 0, .int .i64 0, .slice none 0 0], []⟩ 8 (by kernel_rfl) (by kernel_rfl) (by kernel_rfl)
    (x := ([.nil, .lit (.int .i64 0), .lit (.int .i64 0), .lit (.int .i64 0), .nil], [], [])) (by kernel_rfl) rfl (by kernel_rfl)) ?_
 intro W base args ds gs before hval hW _ hk _
 exact bent_contract H enc W base args ds gs before hval hW hk
theorem bent_over : Rows.bentUptoRow.holds Tryz.pinned (Rows.OpenSpec.upto Rows.bentSpec) :=
 OpenClaim.holds_of_cond 9 Tryz.f9 rfl rfl rfl rfl rfl rfl rfl ⟨rfl, rfl, rfl, rfl, rfl⟩ rfl rfl rfl rfl rfl (by kernel_rfl) Tryz.func9 (by kernel_rfl)
  (of_decide_eq_true (by kernel_rfl)) (by unfold Func.isWrapper; first | (rw [if_pos (by decide +kernel)]; kernel_rfl) | (rw [if_neg (by decide +kernel)]; exact ⟨rfl, rfl⟩))
  (fun os started H enc _ F => bent_lifted os started H enc F)
theorem bent_holds : Rows.BentUptoSaid := bent_over
end
-- VZx
section

end
end Go.Proofs.YtmnjhhachdlmkaaGreat
