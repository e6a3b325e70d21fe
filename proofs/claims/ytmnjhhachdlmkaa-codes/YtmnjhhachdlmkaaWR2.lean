import Derived.Test.YtmnjhhachdlmkaaFill
import Derived.Test.YtmnjhhachdlmkaaMeth
import Derived.Test.YtmnjhhachdlmkaaFieldsG
namespace Go.Proofs.Ytmnjhhachdlmkaa
open Go.RowKit

theorem lok_fetch : ∀ (k : Nat) (h : k < fetchL.length), fetchL[k].1 = k ∧ 1 ≤ fetchL[k].2.1 ∧ fetchL[k].2.1 ≤ 4 ∧ 0 ≤ fetchL[k].2.2 ∧ fetchL[k].2.2 ≤ 2147483647 := by decide

set_option maxRecDepth 100000 in
set_option maxHeartbeats 3200000 in
theorem wireRead_2 (s : ByteArray) (hs : s.size ≤ maxLen) (h1 : 0 < s.size) (hk : (s[0]).toNat = 2) (w : World) :
    Calls Try.prog 27 #[.string s] w fun e w' =>
      (∃ vs b, decTo fetchL (s.extract 1 s.size).data.toList = some (vs, []) ∧ e = .returned (.tuple #[.iface 99 (.pointer (some ⟨b, 0, none⟩)), .int .i64 0]) ∧ w'.heap[b]? = some (.cells (cellsTo vs 8) 101 (0, 0)) ∧ Ext w w') ∨
      ((∀ vs, decTo fetchL (s.extract 1 s.size).data.toList ≠ some (vs, [])) ∧ e = .returned (.tuple #[.nilIface, .int .i64 1]) ∧ Ext w w') := by
  have hne : s.toList.isEmpty = false := by
    rw [ByteArray.toList_eq]
    cases hx : s.data.toList with
    | nil => have : s.size = 0 := by rw [← ByteArray.size_data, ← Array.length_toList, hx]; rfl
             omega
    | cons _ _ => rfl
  have hse : (s.extract 1 s.size).size ≤ maxLen := by rw [ByteArray.size_extract]; omega
  have HS : Hid ((s.extract 1 s.size).size ≤ maxLen) := hse
  unfold maxLen at hs
  clear hse
  have hm2 := m_fetchFields
  go_enter Try.func27, Try.ntmps27
  go_wp2_with (go_at_call 36; refine (ofKind_2 0 0 0 0 0 0 0 0 0 _).mono ?_; rintro e w1 ⟨b, rfl, hb, hlt, hx⟩)
  have HB : Hid _ := hb
  have hltw : w.heap.size ≤ b := hlt
  clear hb hlt
  by_cases HD : ∃ vs, decTo fetchL (s.extract 1 s.size).data.toList = some (vs, [])
  · obtain ⟨vs, hd⟩ := HD
    have HDD : Hid _ := hd
    clear hd
    go_region_with (first
      | (go_at_call 110; refine (fetchFields_c b _).mono ?_; rintro e w2 ⟨g, cap, rfl, ho, hx2⟩)
      | (go_at_call 41; refine (fill_yes b g cap 8 _ w.heap.size 101 fetchL (s.extract 1 s.size) _ rfl (by decide) (by decide) lok_fetch HS.out ho (by exact hx2.block (by exact HB.out)) hltw (by exact Nat.le_trans hx.le hx2.le) vs HDD.out).mono ?_; rintro e w3 ⟨rfl, hb3, hbel⟩))
    all_goals go_wp2
    all_goals go_ret2
    all_goals exact .inl ⟨vs, b, HDD.out, rfl, hb3, Below.trans ((hx.drew).trans hx2) hbel⟩
  · have HDD : Hid (∀ vs, decTo fetchL (s.extract 1 s.size).data.toList ≠ some (vs, [])) := fun vs h => HD ⟨vs, h⟩
    clear HD
    go_region_with (first
      | (go_at_call 110; refine (fetchFields_c b _).mono ?_; rintro e w2 ⟨g, cap, rfl, ho, hx2⟩)
      | (go_at_call 41; refine (fill_no b g cap 8 _ w.heap.size 101 fetchL (s.extract 1 s.size) _ rfl (by decide) (by decide) lok_fetch HS.out ho (by exact hx2.block (by exact HB.out)) hltw (by exact Nat.le_trans hx.le hx2.le) HDD.out).mono ?_; rintro e w3 ⟨rfl, hbel⟩))
    all_goals go_wp2
    all_goals go_ret2
    all_goals exact .inr ⟨HDD.out, rfl, Below.trans ((hx.drew).trans hx2) hbel⟩
end Go.Proofs.Ytmnjhhachdlmkaa
