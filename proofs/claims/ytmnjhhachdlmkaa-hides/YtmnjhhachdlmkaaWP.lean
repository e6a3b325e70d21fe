import Derived.Test.YtmnjhhachdlmkaaWW
namespace Go.Proofs.Ytmnjhhachdlmkaa
open Go.RowKit

/-- A reply's bytes. -/
def printB (code frm cnt : Int) (zs : List Nat) : List UInt8 := bytesI code 1 ++ (bytesI frm 4 ++ (bytesI cnt 4 ++ zs.flatMap fun z => bytesOf z 8))
def headB (code frm cnt : Int) (zs : List Nat) : List UInt8 := bytesI code 1 ++ bytesI frm 4 ++ bytesI cnt 4 ++ zs.flatMap fun z => bytesOf z 8
theorem len_flat8 (zs : List Nat) : (zs.flatMap fun z => bytesOf z 8).length = 8 * zs.length := by
  induction zs with
  | nil => rfl
  | cons z t ih => simp [len_bytesOf] at ih ⊢; omega

theorem put_I (base n g cap : Nat) (l : List UInt8) (x : Int) (sz : Nat) (hs : sz ≤ 8) (hn1 : 1 ≤ n + sz) (w : World)
    (hown : w.ownsRow base 5 1 (.slice (some ⟨g, 0, none⟩) n cap) n (byteV l)) (hb : base ≤ w.heap.size) (hn : n + sz ≤ 140737488355328) :
    Calls Try.prog 38 #[.slice (some ⟨g, 0, none⟩) n cap, .int .u64 (IntKind.u64.wrap x), .int .i64 (sz : Int)] w fun e w' =>
      ∃ g' cap', e = .returned (.slice (some ⟨g', 0, none⟩) (n + sz) cap') ∧ w'.ownsRow base 5 1 (.slice (some ⟨g', 0, none⟩) (n + sz) cap') (n + sz) (byteV (l ++ bytesI x sz)) ∧ Below base w w' ∧ Keeps w w' := by
  have h := put_s base n g cap l (x % 18446744073709551616).toNat sz hs hn1 (by omega) w hown hb hn
  rw [Int.toNat_of_nonneg (by omega), ← IntKind.wrap_u64] at h
  exact h

theorem put_1 (base n m g cap : Nat) (hm : m = n + 1) (l : List UInt8) (x : Int) (w : World)
    (hown : w.ownsRow base 5 1 (.slice (some ⟨g, 0, none⟩) n cap) n (byteV l)) (hb : base ≤ w.heap.size) (hn : m ≤ 140737488355328) :
    Calls Try.prog 38 #[.slice (some ⟨g, 0, none⟩) n cap, .int .u64 (IntKind.u64.wrap x), .int .i64 1] w fun e w' =>
      ∃ g' cap', e = .returned (.slice (some ⟨g', 0, none⟩) m cap') ∧ w'.ownsRow base 5 1 (.slice (some ⟨g', 0, none⟩) m cap') m (byteV (l ++ bytesI x 1)) ∧ Below base w w' ∧ Keeps w w' := by
  subst hm
  exact put_I base n g cap l x 1 (by decide) (by omega) w hown hb hn
theorem put_4 (base n m g cap : Nat) (hm : m = n + 4) (l : List UInt8) (x : Int) (w : World)
    (hown : w.ownsRow base 5 1 (.slice (some ⟨g, 0, none⟩) n cap) n (byteV l)) (hb : base ≤ w.heap.size) (hn : m ≤ 140737488355328) :
    Calls Try.prog 38 #[.slice (some ⟨g, 0, none⟩) n cap, .int .u64 (IntKind.u64.wrap x), .int .i64 4] w fun e w' =>
      ∃ g' cap', e = .returned (.slice (some ⟨g', 0, none⟩) m cap') ∧ w'.ownsRow base 5 1 (.slice (some ⟨g', 0, none⟩) m cap') m (byteV (l ++ bytesI x 4)) ∧ Below base w w' ∧ Keeps w w' := by
  subst hm
  exact put_I base n g cap l x 4 (by decide) (by omega) w hown hb hn
theorem put_8 (base n m g cap : Nat) (hm : m = n + 8) (l : List UInt8) (x : Nat) (hx : x ≤ 18446744073709551615) (w : World)
    (hown : w.ownsRow base 5 1 (.slice (some ⟨g, 0, none⟩) n cap) n (byteV l)) (hb : base ≤ w.heap.size) (hn : m ≤ 140737488355328) :
    Calls Try.prog 38 #[.slice (some ⟨g, 0, none⟩) n cap, .int .u64 (x : Int), .int .i64 8] w fun e w' =>
      ∃ g' cap', e = .returned (.slice (some ⟨g', 0, none⟩) m cap') ∧ w'.ownsRow base 5 1 (.slice (some ⟨g', 0, none⟩) m cap') m (byteV (l ++ bytesOf x 8)) ∧ Below base w w' ∧ Keeps w w' := by
  subst hm
  exact put_s base n g cap l x 8 (by decide) (by omega) hx w hown hb hn

theorem reply_cells {W : World} {g : Nat} {t : TypeId} {a b c d : Value} (h : W.heap[g]? = some (.cells #[a, b, c, d] t (0, 0))) :
    g < W.heap.size ∧ W.cell? ⟨g, 0, none⟩ = some a ∧ W.cell? ⟨g, 1, none⟩ = some b ∧ W.cell? ⟨g, 2, none⟩ = some c ∧ W.cell? ⟨g, 3, none⟩ = some d :=
  ⟨(Array.getElem?_eq_some_iff.1 h).1, cell_at h rfl, cell_at h rfl, cell_at h rfl, cell_at h rfl⟩

set_option maxRecDepth 100000 in
set_option maxHeartbeats 1600000 in
theorem wirePrint_some (code frm cnt : Int) (b off len cap : Nat) (zs : List Nat) (hl : len = zs.length) (hcap : len ≤ cap) (hreach : cap * 8 ≤ 140737488351232) (w : World)
    (hz : ∀ i, i < len → w.cell? ⟨b, off + i, none⟩ = some (.int .u64 (zs.getD i 0 : Nat))) (hzb : ∀ z ∈ zs, z ≤ 18446744073709551615) :
    Calls Try.prog 29 #[.agg #[.int .i64 code, .int .i64 frm, .int .i64 cnt, .slice (some ⟨b, off, none⟩) len cap]] w fun e w' => e = .returned (.string ⟨(headB code frm cnt zs).toArray⟩) ∧ Ext w w' := by
  obtain ⟨i0, hi, hz0, hz1, hz2⟩ := info_parts infoU8
  have HZ : Hid (∀ i, i < len → w.cell? ⟨b, off + i, none⟩ = some (.int .u64 (zs.getD i 0 : Nat))) := hz
  have HZB : Hid (∀ z ∈ zs, z ≤ 18446744073709551615) := hzb
  have HL : Hid (len = zs.length) := hl
  have hlen : len * 8 ≤ 140737488351232 := by omega
  clear hz hzb hl
  go_enter Try.func29, Try.ntmps29
  go_wp2_with (at_make; refine wpList_make_own _ rfl _ _ 62 rfl w.heap.size 5 i0 _ 1 Try.underlying62 hi hz0 hz1 _ _ _ (9 + 8 * len) rfl rfl (by omega) ?m1 ?m2 ?m3 ?_)
  case m1 => rw [hz2]; omega
  case m2 => unfold maxLen; omega
  case m3 => simp
  intro w1 ho1 hg1
  have hx1 : Ext w w1 := Ext.grown ((Ext.refl w).alloc _) hg1 (fun k h => by cases h)
  have hr1 : w1.heap[w.heap.size]? = some (.cells #[.int .i64 code, .int .i64 frm, .int .i64 cnt, .slice (some ⟨b, off, none⟩) len cap] 29 (0, 0)) := (hg1.block _ (by simp) (by simp)).trans (at_new rfl)
  obtain ⟨q0, q1, q2, q3, q4⟩ := reply_cells hr1
  have HR1 : Hid _ := hr1
  have HO1 : Hid (w1.ownsRow w.heap.size 5 1 (.slice (some ⟨w.heap.size + 1, 0, none⟩) 0 (9 + 8 * len)) 0 (byteV [])) := by
    refine ⟨rfl, ?_⟩
    rcases ho1.2 with ⟨h, _⟩ | h
    · simp at h
    · exact .inr h
  clear hr1 ho1 hg1
  have hsz1 := hx1.le
  go_wp2_with fail
  refine (put_1 w.heap.size 0 1 _ _ rfl [] code _ HO1.out hsz1 (by omega)).mono ?_
  rintro e w2 ⟨g2, cap2, rfl, ho2, hb2, hk2⟩
  have hr2 := hk2.block _ _ _ _ HR1.out (by decide)
  obtain ⟨q0, q1, q2, q3, q4⟩ := reply_cells hr2
  have hx2 : Ext w w2 := Below.trans hx1 hb2
  have hsz2 := hx2.le
  have HO2 : Hid _ := ho2
  have HR2 : Hid _ := hr2
  clear hr2 ho2 hb2 hk2
  go_wp2_with fail
  refine (put_4 w.heap.size 1 5 _ _ rfl _ frm _ HO2.out hsz2 (by omega)).mono ?_
  rintro e w3 ⟨g3, cap3, rfl, ho3, hb3, hk3⟩
  have hr3 := hk3.block _ _ _ _ HR2.out (by decide)
  obtain ⟨q0, q1, q2, q3, q4⟩ := reply_cells hr3
  have hx3 : Ext w w3 := Below.trans hx2 hb3
  have hsz3 := hx3.le
  have HO3 : Hid _ := ho3
  have HR3 : Hid _ := hr3
  clear hr3 ho3 hb3 hk3
  go_wp2_with fail
  refine (put_4 w.heap.size 5 9 _ _ rfl _ cnt _ HO3.out hsz3 (by omega)).mono ?_
  rintro e w4 ⟨g4, cap4, rfl, ho4, hb4, hk4⟩
  have hr4 := hk4.block _ _ _ _ HR3.out (by decide)
  obtain ⟨q0, q1, q2, q3, q4⟩ := reply_cells hr4
  have hx4 : Ext w w4 := Below.trans hx3 hb4
  have hsz4 := hx4.le
  have HO4 : Hid (w4.ownsRow w.heap.size 5 1 (.slice (some ⟨g4, 0, none⟩) 9 cap4) 9 (byteV (headB code frm cnt (zs.take 0)))) := by
    have e : headB code frm cnt (zs.take 0) = [] ++ bytesI code 1 ++ bytesI frm 4 ++ bytesI cnt 4 := by simp [headB]
    rw [e]; exact ho4
  clear hr4 ho4 hb4 hk4
  go_wp2
  go_loopw [3, 5, 30] (fun u _ i wr => ∃ (k g' cap' : Nat), k ≤ len ∧ u = .slice (some ⟨g', 0, none⟩) (9 + 8 * k) cap' ∧ i = .int .i64 k ∧ wr.ownsRow w.heap.size 5 1 (.slice (some ⟨g', 0, none⟩) (9 + 8 * k) cap') (9 + 8 * k) (byteV (headB code frm cnt (zs.take k))) ∧ Ext w wr) (fun _ _ i _ => len - (intOf i).toNat)
  case atStart => exact ⟨0, g4, cap4, Nat.zero_le _, rfl, rfl, HO4.out, hx4⟩
  case round =>
    obtain ⟨k, g', cap', hk, rfl, rfl, hor, hxr⟩ := hrel
    have HOR : Hid _ := hor
    clear hor
    by_cases hlt : k < len
    · have hkl : k < zs.length := by have := HL.out; omega
      have e0 : wr.cell? ⟨b, off + k, none⟩ = some (.int .u64 ((zs[k] : Nat) : Int)) := by
        have h := hxr.cell (HZ.out k hlt)
        rw [List.getD_eq_getElem?_getD, List.getElem?_eq_getElem hkl] at h
        exact h
      have hzk := HZB.out zs[k] (List.getElem_mem hkl)
      have HT : Hid (headB code frm cnt (zs.take (k + 1)) = headB code frm cnt (zs.take k) ++ bytesOf zs[k] 8) := by
        show headB code frm cnt (zs.take (k + 1)) = _
        rw [List.take_succ_eq_append_getElem hkl]
        simp only [headB, List.flatMap_append, List.flatMap_cons, List.flatMap_nil, List.append_nil, List.append_assoc]
      have HZK : Hid (zs[k] ≤ 18446744073709551615) := hzk
      clear hzk
      generalize zs[k] = z at *
      have hszr := hxr.le
      go_wp2_with (go_at_call 38; refine (put_8 w.heap.size (9 + 8 * k) (9 + 8 * (k + 1)) g' cap' (by omega) _ z HZK.out _ HOR.out hszr (by omega)).mono ?_; rintro e w5 ⟨g5, cap5, rfl, ho5, hb5, hk5⟩)
      have R1 : w5.ownsRow w.heap.size 5 1 (.slice (some ⟨g5, 0, none⟩) (9 + 8 * (k + 1)) cap5) (9 + 8 * (k + 1)) (byteV (headB code frm cnt (zs.take (k + 1)))) := by rw [HT.out]; exact ho5
      have R2 : Ext w w5 := Below.trans hxr hb5
      clear ho5 hb5 hk5
      go_roundw
      case rel => exact ⟨k + 1, g5, cap5, by omega, rfl, by go_num, R1, R2⟩
      case measure => simp [intOf]; omega
    · obtain rfl : len = k := by omega
      have eT : zs.take len = zs := List.take_of_length_le (by have := HL.out; omega)
      have hcv := conv_own (l := headB code frm cnt (zs.take len)) (by rw [eT]; simp only [headB, List.length_append, len_bytesI, len_flat8]; have := HL.out; omega) HOR.out
      rw [eT] at hcv
      clear eT
      go_wp2
      go_ret
      exact ⟨rfl, hxr⟩
end Go.Proofs.Ytmnjhhachdlmkaa
