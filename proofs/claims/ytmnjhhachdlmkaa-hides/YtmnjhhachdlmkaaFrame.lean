import Derived.Test.YtmnjhhachdlmkaaLeaves
import Derived.Test.YtmnjhhachdlmkaaWW
import Derived.Lib.AppendStr
import Derived.Deep.AppendLies
namespace Go.Proofs.Ytmnjhhachdlmkaa
open Go.RowKit

/-- The sum of a record, as it is reckoned. -/
def fnvI (l : List UInt8) : Int := l.foldl (fun h b => IntKind.u64.wrap (bits .xor .u64 h (b.toNat : Int) * 1099511628211)) 14695981039346656037
theorem fnvI_snoc (l : List UInt8) (b : UInt8) : fnvI (l ++ [b]) = IntKind.u64.wrap (bits .xor .u64 (fnvI l) (b.toNat : Int) * 1099511628211) := by simp [fnvI]
theorem fnvI_range (l : List UInt8) : 0 ≤ fnvI l ∧ fnvI l ≤ 18446744073709551615 := by
  rcases List.eq_nil_or_concat l with rfl | ⟨t, b, rfl⟩
  · decide
  · rw [List.concat_eq_append, fnvI_snoc, IntKind.wrap_u64]; omega

set_option maxHeartbeats 400000 in
theorem sum_c (s : ByteArray) (hs : s.size ≤ 1000000000) (w : World) : Calls Try.prog 81 #[.string s] w fun e w' => e = .returned (.int .u64 (fnvI s.data.toList)) ∧ w = w' := by
  go_enter Try.func81, Try.ntmps81
  go_wp2
  go_loop [3, 4, 7] (fun h _ i => ∃ k : Nat, k ≤ s.size ∧ i = .int .i64 k ∧ h = .int .u64 (fnvI (s.data.toList.take k))) (fun _ _ i => s.size - (intOf i).toNat)
  case atStart => exact ⟨0, Nat.zero_le _, rfl, rfl⟩
  case round =>
    obtain ⟨k, hk, rfl, rfl⟩ := hrel
    by_cases hlt : k < s.size
    · have HS : Hid (fnvI (s.data.toList.take (k + 1)) = IntKind.u64.wrap (bits .xor .u64 (fnvI (s.data.toList.take k)) ((s[k]).toNat : Int) * 1099511628211)) := by
        have hl : k < s.data.toList.length := by simpa using hlt
        show fnvI (s.data.toList.take (k + 1)) = _
        rw [List.take_succ_eq_append_getElem hl, fnvI_snoc]
        rfl
      have hbw : IntKind.u64.wrap ((s[k]).toNat : Int) = ((s[k]).toNat : Int) := by rw [IntKind.wrap_u64]; have := (s[k]).toNat_lt; omega
      generalize fnvI (s.data.toList.take k) = h at *
      go_wp2
      go_round
      case rel => exact ⟨k + 1, by omega, by go_num, by rw [HS.out]⟩
      case measure => simp [intOf]; omega
    · go_wp2
      go_ret
      exact ⟨ret_int (by rw [List.take_of_length_le (by simp; omega)]), rfl⟩

def frameB (l : List UInt8) : List UInt8 := (bytesOf l.length 4 ++ bytesOf (fnvI l).toNat 8) ++ l
theorem len_frameB (l : List UInt8) : (frameB l).length = 12 + l.length := by simp [frameB, len_bytesOf]; omega

theorem strCells_eq (s : ByteArray) : Lib.strCells s = byteV s.data.toList := by
  unfold Lib.strCells byteV
  rfl

set_option maxRecDepth 100000 in
set_option maxHeartbeats 800000 in
theorem frame_c (s : ByteArray) (hs : s.size ≤ 1000000000) (w : World) : Calls Try.prog 70 #[.string s] w fun e w' => e = .returned (.string ⟨(frameB s.data.toList).toArray⟩) ∧ Ext w w' := by
  obtain ⟨i0, hi, hz0, hz1, hz2⟩ := info_parts infoU8
  have hr := fnvI_range s.data.toList
  obtain ⟨h, hh⟩ : ∃ h : Nat, fnvI s.data.toList = (h : Int) := ⟨(fnvI s.data.toList).toNat, by omega⟩
  have HS : Hid _ := sum_c s hs
  rw [hh] at HS hr
  have HF : Hid (frameB s.data.toList = (bytesOf s.size 4 ++ bytesOf h 8) ++ s.data.toList) := by
    show frameB s.data.toList = _
    simp [frameB, hh]
  clear hh
  have hwr : IntKind.u64.wrap (s.size : Int) = (s.size : Int) := by rw [IntKind.wrap_u64]; omega
  go_enter Try.func70, Try.ntmps70
  go_wp2_with fail
  refine (put_b w.heap.size 0 (.slice none 0 0) [] s.size 4 (by omega) (by omega) w (World.ownsRow_nil _ _ _ _) (Nat.le_refl _) (by omega)).mono ?_
  rintro e w1 ⟨v1, rfl, ho1, hb1, _⟩
  have hl1 := hb1.size
  have hx1 : Ext w w1 := hb1
  clear hb1
  go_wp2_with fail
  refine (HS.out _).mono ?_
  rintro e w1' ⟨rfl, rfl⟩
  go_wp2_with fail
  refine (put_b w.heap.size _ v1 ([] ++ bytesOf s.size 4) h 8 (by omega) (by omega) w1 ho1 hl1 (by omega)).mono ?_
  rintro e w2 ⟨v2, rfl, ho2, hb2, _⟩
  have hl2 := hb2.size
  have hx2 : Ext w w2 := Below.trans hx1 hb2
  obtain ⟨g2, cp2, rfl, hg2, hg2'⟩ := ho2.form (by omega)
  clear ho1 hb2 hx1
  go_wp2_with (at_builtin; refine Lib.wpList_append_own_string _ rfl _ _ 62 9 rfl w.heap.size 5 i0 Try.underlying62 Try.underlying9 hi hz0 hz1 hz2 _ _ _ rfl ho2 s rfl ?c1 ?c2 ?c3 ?_)
  case c1 => unfold maxLen; omega
  case c2 => omega
  case c3 => omega
  intro v3 w3 ho3 hg3 _
  have hx3 : Ext w w3 := Ext.grown hx2 hg3 (fun k hk => by simp [Value.ownBlock] at hk; omega)
  obtain ⟨g3, cp3, rfl, _, _⟩ := ho3.form (by omega)
  have hcv : (convert 62 9 (.slice (some ⟨g3, 0, none⟩) (12 + s.size) cp3)).run Try.prog w3 = .ok (.string ⟨(frameB s.data.toList).toArray⟩) w3 := by
    refine conv_own (base := w.heap.size) (by rw [len_frameB]; simp) ?_
    rw [HF.out]
    have h3 := ho3
    rw [strCells_eq] at h3
    simpa [byteV_append] using h3
  clear ho3 hg3 ho2
  go_wp2
  go_ret
  exact ⟨rfl, hx3⟩
end Go.Proofs.Ytmnjhhachdlmkaa
