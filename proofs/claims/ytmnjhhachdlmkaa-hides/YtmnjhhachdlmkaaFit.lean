import Derived.Test.YtmnjhhachdlmkaaFieldsA
namespace Go.Proofs.Ytmnjhhachdlmkaa
open Go.RowKit

def fitB (vals : Nat → Int) (l : List (Nat × Int × Int)) : Bool := l.all fun x => decide (0 ≤ vals x.1) && decide (vals x.1 ≤ x.2.2)
theorem fitB_snoc (vals : Nat → Int) (l : List (Nat × Int × Int)) (x : Nat × Int × Int) : fitB vals (l ++ [x]) = (fitB vals l && (decide (0 ≤ vals x.1) && decide (vals x.1 ≤ x.2.2))) := by simp [fitB]
theorem fitB_part {vals : Nat → Int} {l : List (Nat × Int × Int)} {k : Nat} (hk : k < l.length) (h : (decide (0 ≤ vals l[k].1) && decide (vals l[k].1 ≤ l[k].2.2)) = false) : fitB vals l = false := by
  simp only [fitB, List.all_eq_false]
  exact ⟨l[k], List.getElem_mem hk, by simp at h ⊢; exact h⟩

theorem fl_length (b : Nat) (l : List (Nat × Int × Int)) : (fl b l).length = l.length * 3 := by
  induction l with
  | nil => rfl
  | cons x t ih => simp [fl] at ih ⊢; omega
theorem fl_at (b : Nat) (l : List (Nat × Int × Int)) (k : Nat) (hk : k < l.length) :
    (fl b l)[k * 3]? = some (.pointer (some ⟨b, l[k].1, none⟩)) ∧ (fl b l)[k * 3 + 1]? = some (.int .i64 l[k].2.1) ∧ (fl b l)[k * 3 + 2]? = some (.int .i64 l[k].2.2) := by
  induction l generalizing k with
  | nil => simp at hk
  | cons x t ih =>
    have e : fl b (x :: t) = [.pointer (some ⟨b, x.1, none⟩), .int .i64 x.2.1, .int .i64 x.2.2] ++ fl b t := rfl
    cases k with
    | zero => rw [e]; simp
    | succ k =>
      have h := ih k (by simpa using hk)
      rw [e]
      have e1 : (k + 1) * 3 = k * 3 + 3 := by omega
      rw [e1]
      simp only [List.getElem_cons_succ]
      refine ⟨?_, ?_, ?_⟩
      · rw [List.getElem?_append_right (by simp)]; simpa using h.1
      · rw [List.getElem?_append_right (by simp)]; simpa [show k * 3 + 3 + 1 - 3 = k * 3 + 1 by omega] using h.2.1
      · rw [List.getElem?_append_right (by simp)]; simpa [show k * 3 + 3 + 2 - 3 = k * 3 + 2 by omega] using h.2.2

set_option maxRecDepth 100000 in
set_option maxHeartbeats 800000 in
theorem fit_c (b g cap m base : Nat) (l : List (Nat × Int × Int)) (vals : Nat → Int) (w : World) (hm : l.length = m) (hm2 : m ≤ 100)
    (ho : w.ownsRow base 80 3 (.slice (some ⟨g, 0, none⟩) m cap) m (fl b l)) (hv : ∀ x ∈ l, w.cell? ⟨b, x.1, none⟩ = some (.int .i64 (vals x.1))) :
    Calls Try.prog 37 #[.slice (some ⟨g, 0, none⟩) m cap] w fun e w' => e = .returned (.bool (fitB vals l)) ∧ Ext w w' := by
  have HO : Hid (∀ k (h : k < l.length), w.cell? ⟨g, k * 3, none⟩ = some (.pointer (some ⟨b, l[k].1, none⟩)) ∧ w.cell? ⟨g, k * 3 + 1, none⟩ = some (.int .i64 l[k].2.1) ∧ w.cell? ⟨g, k * 3 + 2, none⟩ = some (.int .i64 l[k].2.2)) := by
    intro k h
    have hf := fl_at b l k h
    rw [ho.cellAt _ (by omega), ho.cellAt _ (by omega), ho.cellAt _ (by omega)]
    exact hf
  have HV : Hid (∀ x ∈ l, w.cell? ⟨b, x.1, none⟩ = some (.int .i64 (vals x.1))) := hv
  have HM : Hid (l.length = m) := hm
  clear ho hv hm
  go_enter Try.func37, Try.ntmps37
  go_wp2
  go_loopw [4, 7] (fun _ i wr => ∃ k : Nat, k ≤ m ∧ i = .int .i64 k ∧ fitB vals (l.take k) = true ∧ Ext w wr) (fun _ i _ => m - (intOf i).toNat)
  case atStart => exact ⟨0, Nat.zero_le _, rfl, rfl, Ext.refl _⟩
  case round =>
    obtain ⟨k, hk, rfl, hfit, hx⟩ := hrel
    have HF : Hid (fitB vals (l.take k) = true) := hfit
    clear hfit
    by_cases hlt : k < m
    · have hkl : k < l.length := by have := HM.out; omega
      obtain ⟨d0, d1, d2⟩ := HO.out k hkl
      have d3 := HV.out l[k] (List.getElem_mem hkl)
      have e0 := hx.cell d0
      have e1 := hx.cell d1
      have e2 := hx.cell d2
      have e3 := hx.cell d3
      have HP : Hid ((decide (0 ≤ vals l[k].1) && decide (vals l[k].1 ≤ l[k].2.2)) = false → fitB vals l = false) := fitB_part hkl
      have HT : Hid (fitB vals (l.take (k + 1)) = (fitB vals (l.take k) && (decide (0 ≤ vals l[k].1) && decide (vals l[k].1 ≤ l[k].2.2)))) := by
        show fitB vals (l.take (k + 1)) = _
        rw [List.take_succ_eq_append_getElem hkl, fitB_snoc]
      have hbl : b < wr.heap.size := World.block_lt_of_cell? wr _ e3
      have hgl : g < wr.heap.size := World.block_lt_of_cell? wr _ e0
      clear d0 d1 d2 d3
      generalize vals l[k].1 = x at *
      generalize l[k].2.2 = mo at *
      generalize l[k].2.1 = sz at *
      generalize l[k].1 = o at *
      by_cases h0 : 0 ≤ x
      · have hd : decide (x < 0) = false := by simpa using h0
        by_cases h1 : x ≤ mo
        · have hd1 : decide (mo < x) = false := by simp; omega
          go_wp2
          go_quiet (fail)
          go_wp2
          go_roundw
          case rel => exact ⟨k + 1, by omega, by go_num, by rw [HT.out, HF.out]; simp [h0, h1], (hx.alloc _).drewN _⟩
          case measure => simp [intOf]; omega
        · have hd1 : decide (mo < x) = true := by simp; omega
          go_wp2
          go_quiet (fail)
          go_wp2
          go_ret
          exact ⟨ret_bool (HP.out (by simp [h1])).symm, (hx.alloc _).drewN _⟩
      · have hd : decide (x < 0) = true := by simp; omega
        go_wp2
        go_quiet (fail)
        go_wp2
        go_ret
        exact ⟨ret_bool (HP.out (by simp; intro; omega)).symm, (hx.alloc _).drewN _⟩
    · obtain rfl : m = k := by omega
      go_wp2
      go_ret
      refine ⟨ret_bool ?_, hx⟩
      have := HF.out
      rw [List.take_of_length_le (by have := HM.out; omega)] at this
      exact this.symm
end Go.Proofs.Ytmnjhhachdlmkaa
