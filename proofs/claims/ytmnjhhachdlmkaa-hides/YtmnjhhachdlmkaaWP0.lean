import Derived.Test.YtmnjhhachdlmkaaWP
namespace Go.Proofs.Ytmnjhhachdlmkaa
open Go.RowKit

set_option maxRecDepth 100000 in
set_option maxHeartbeats 1600000 in
theorem wirePrint_zero (code frm cnt : Int) (a : Option Addr) (len cap : Nat) (zs : List Nat) (h0 : len = 0) (hl : len = zs.length) (_hcap : len ≤ cap) (_hreach : cap * 8 ≤ 140737488351232) (w : World) :
    Calls Try.prog 29 #[.agg #[.int .i64 code, .int .i64 frm, .int .i64 cnt, .slice a len cap]] w fun e w' => e = .returned (.string ⟨(headB code frm cnt zs).toArray⟩) ∧ Ext w w' := by
  obtain ⟨i0, hi, hz0, hz1, hz2⟩ := info_parts infoU8
  have HL0 : Hid (len = 0) := h0
  have HL : Hid (len = zs.length) := hl
  have hlen : len * 8 ≤ 140737488351232 := by omega
  clear hl h0
  go_enter Try.func29, Try.ntmps29
  go_wp2_with (at_make; refine wpList_make_own _ rfl _ _ 62 rfl w.heap.size 5 i0 _ 1 Try.underlying62 hi hz0 hz1 _ _ _ (9 + 8 * len) rfl rfl (by omega) ?m1 ?m2 ?m3 ?_)
  case m1 => rw [hz2]; omega
  case m2 => unfold maxLen; omega
  case m3 => simp
  intro w1 ho1 hg1
  have hx1 : Ext w w1 := Ext.grown ((Ext.refl w).alloc _) hg1 (fun k h => by cases h)
  have hr1 : w1.heap[w.heap.size]? = some (.cells #[.int .i64 code, .int .i64 frm, .int .i64 cnt, .slice a len cap] 29 (0, 0)) := (hg1.block _ (by simp) (by simp)).trans (at_new rfl)
  obtain ⟨q0, q1, q2, q3, q4⟩ := reply_cells hr1
  have HR1 : Hid _ := hr1
  have HO1 : Hid (w1.ownsRow w.heap.size 5 1 (.slice (some ⟨w.heap.size + 1, 0, none⟩) 0 (9 + 8 * len)) 0 (byteV [])) := by
    refine ⟨rfl, ?_⟩
    rcases ho1.2 with ⟨h, _⟩ | h
    · simp at h
    · exact .inr h
  clear hr1 ho1 hg1
  have hsz1 := hx1.le
  go_wp2_with fail
  refine (put_1 w.heap.size 0 1 _ _ rfl [] code _ HO1.out hsz1 (by omega)).mono ?_
  rintro e w2 ⟨g2, cap2, rfl, ho2, hb2, hk2⟩
  have hr2 := hk2.block _ _ _ _ HR1.out (by decide)
  obtain ⟨q0, q1, q2, q3, q4⟩ := reply_cells hr2
  have hx2 : Ext w w2 := Below.trans hx1 hb2
  have hsz2 := hx2.le
  have HO2 : Hid _ := ho2
  have HR2 : Hid _ := hr2
  clear hr2 ho2 hb2 hk2
  go_wp2_with fail
  refine (put_4 w.heap.size 1 5 _ _ rfl _ frm _ HO2.out hsz2 (by omega)).mono ?_
  rintro e w3 ⟨g3, cap3, rfl, ho3, hb3, hk3⟩
  have hr3 := hk3.block _ _ _ _ HR2.out (by decide)
  obtain ⟨q0, q1, q2, q3, q4⟩ := reply_cells hr3
  have hx3 : Ext w w3 := Below.trans hx2 hb3
  have hsz3 := hx3.le
  have HO3 : Hid _ := ho3
  have HR3 : Hid _ := hr3
  clear hr3 ho3 hb3 hk3
  go_wp2_with fail
  refine (put_4 w.heap.size 5 9 _ _ rfl _ cnt _ HO3.out hsz3 (by omega)).mono ?_
  rintro e w4 ⟨g4, cap4, rfl, ho4, hb4, hk4⟩
  have hr4 := hk4.block _ _ _ _ HR3.out (by decide)
  obtain ⟨q0, q1, q2, q3, q4⟩ := reply_cells hr4
  have hx4 : Ext w w4 := Below.trans hx3 hb4
  have hsz4 := hx4.le
  have HO4 : Hid (w4.ownsRow w.heap.size 5 1 (.slice (some ⟨g4, 0, none⟩) 9 cap4) 9 (byteV (headB code frm cnt (zs.take 0)))) := by
    have e : headB code frm cnt (zs.take 0) = [] ++ bytesI code 1 ++ bytesI frm 4 ++ bytesI cnt 4 := by simp [headB]
    rw [e]; exact ho4
  clear hr4 ho4 hb4 hk4
  go_wp2
  go_loopw [3, 5, 30] (fun u _ i wr => ∃ (k g' cap' : Nat), k ≤ len ∧ u = .slice (some ⟨g', 0, none⟩) (9 + 8 * k) cap' ∧ i = .int .i64 k ∧ wr.ownsRow w.heap.size 5 1 (.slice (some ⟨g', 0, none⟩) (9 + 8 * k) cap') (9 + 8 * k) (byteV (headB code frm cnt (zs.take k))) ∧ Ext w wr) (fun _ _ i _ => len - (intOf i).toNat)
  case atStart => exact ⟨0, g4, cap4, Nat.zero_le _, rfl, rfl, HO4.out, hx4⟩
  case round =>
    obtain ⟨k, g', cap', hk, rfl, rfl, hor, hxr⟩ := hrel
    have HOR : Hid _ := hor
    clear hor
    by_cases hlt : k < len
    · have := HL0.out; omega
    · obtain rfl : len = k := by omega
      have eT : zs.take len = zs := List.take_of_length_le (by have := HL.out; omega)
      have hcv := conv_own (l := headB code frm cnt (zs.take len)) (by rw [eT]; simp only [headB, List.length_append, len_bytesI, len_flat8]; have := HL.out; omega) HOR.out
      rw [eT] at hcv
      clear eT
      go_wp2
      go_ret
      exact ⟨rfl, hxr⟩
end Go.Proofs.Ytmnjhhachdlmkaa
