import Derived.Test.YtmnjhhachdlmkaaBase
import Derived.Lib.AppendZerosOnto
namespace Go.Proofs.Ytmnjhhachdlmkaa
open Go.RowKit

theorem infoField : (Try.prog.info? 80).map (fun i => (i.zero, i.size, i.bytes)) = some (some (.agg #[.pointer none, .int .i64 0, .int .i64 0]), 3, 24) := by kernel_rfl

/-- The cells of a list of fields: of each number of a request where it stands, its size, its most. -/
def fcells (ps : List Addr) (sz mo : Int) : List Value := ps.flatMap fun p => [.pointer (some p), .int .i64 sz, .int .i64 mo]
theorem fcells_snoc (ps : List Addr) (p : Addr) (sz mo : Int) : fcells (ps ++ [p]) sz mo = fcells ps sz mo ++ [.pointer (some p), .int .i64 sz, .int .i64 mo] := by simp [fcells]

theorem cells_three_new (w : World) (a b c : Value) (t : TypeId) : ∀ j u, [a, b, c][j]? = some u → (w.alloc (.cells #[a, b, c] t)).cell? ((⟨w.heap.size, 0, none⟩ : Addr).add j) = some u := by
  intro j u hj
  match j, hj with
  | 0, hj => simp at hj; subst hj; simp [Addr.add]
  | 1, hj => simp at hj; subst hj; simp [Addr.add]
  | 2, hj => simp at hj; subst hj; simp [Addr.add]

set_option maxRecDepth 100000 in
set_option maxHeartbeats 400000 in
theorem alike_c (g m : Nat) (ps : List Addr) (sz mo : Int) (w : World) (hM : ps.length = m) (hm : m ≤ 100) (hc : ∀ i p, ps[i]? = some p → w.cell? ⟨g, i, none⟩ = some (.pointer (some p))) :
    Calls Try.prog 107 #[.int .i64 sz, .int .i64 mo, .slice (some ⟨g, 0, none⟩) m m] w fun e w' =>
      ∃ v, e = .returned v ∧ w'.ownsRow w.heap.size 80 3 v m (fcells ps sz mo) ∧ Ext w w' := by
  obtain ⟨i0, hi, hz0, hz1, hz2⟩ := info_parts infoField
  have HM : Hid (ps.length = m) := hM
  have HCC : Hid (∀ i p, ps[i]? = some p → w.cell? ⟨g, i, none⟩ = some (.pointer (some p))) := hc
  clear hM hc
  go_enter Try.func107, Try.ntmps107
  go_wp2
  go_loopw [7, 9, 12] (fun u _ i wr => ∃ k : Nat, k ≤ m ∧ i = .int .i64 k ∧ wr.ownsRow w.heap.size 80 3 u k (fcells (ps.take k) sz mo) ∧ Ext w wr) (fun _ _ i _ => m - (intOf i).toNat)
  case atStart => exact ⟨0, Nat.zero_le _, rfl, World.ownsRow_nil _ _ _ _, Ext.refl _⟩
  case round =>
    obtain ⟨k, hk, rfl, ho, hx⟩ := hrel
    by_cases hlt : k < m
    · have hkl : k < ps.length := by have := HM.out; omega
      have hcx : wr.cell? ⟨g, k, none⟩ = some (.pointer (some ps[k])) := hx.cell (HCC.out k _ (List.getElem?_eq_getElem hkl))
      have HP : Hid (ps.take (k + 1) = ps.take k ++ [ps[k]]) := List.take_succ_eq_append_getElem hkl
      generalize ps[k] = p at *
      have hsz := hx.le
      go_wp2_with (at_builtin; refine wpList_append_own _ rfl _ _ 76 rfl w.heap.size 80 i0 _ 3 24 Try.underlying76 hi hz0 hz1 hz2 rfl (by decide) _ _ _ rfl (ho.alloc _) ⟨wr.heap.size, 0, none⟩ 1 1 [.pointer (some p), .int .i64 sz, .int .i64 mo] rfl rfl ?c1 ?c2 ?c3 ?c4 ?c5 ?_)
      case c1 => exact cells_three_new _ _ _ _ _
      case c2 => intro u hu; simp at hu; rcases hu with rfl | rfl | rfl <;> rfl
      case c3 => unfold maxLen; omega
      case c4 => omega
      case c5 => simp; omega
      · intro v' w1 hown' hgrow _
        have R : w1.ownsRow w.heap.size 80 3 v' (k + 1) (fcells (ps.take (k + 1)) sz mo) := by
          rw [HP.out, fcells_snoc]; exact hown'
        have R2 : Ext w w1 := Ext.grown (hx.alloc _) hgrow (fun k hk => (ho.lt k hk).1)
        clear hown' hgrow ho hx
        go_wp2
        go_roundw
        case rel => exact ⟨k + 1, by omega, by go_num, R, R2⟩
        case measure => simp [intOf]; omega
    · obtain rfl : m = k := by omega
      go_wp2
      go_ret
      refine ⟨_, rfl, ?_, hx⟩
      have e : ps.take m = ps := List.take_of_length_le (by have := HM.out; omega)
      rw [e] at ho; exact ho

theorem numbers_c (g m : Nat) (ps : List Addr) (w : World) (hM : ps.length = m) (hm : m ≤ 100) (hc : ∀ i p, ps[i]? = some p → w.cell? ⟨g, i, none⟩ = some (.pointer (some p))) :
    Calls Try.prog 104 #[.slice (some ⟨g, 0, none⟩) m m] w fun e w' =>
      ∃ v, e = .returned v ∧ w'.ownsRow w.heap.size 80 3 v m (fcells ps 4 2147483647) ∧ Ext w w' := by
  have H := alike_c g m ps 4 2147483647 w hM hm hc
  have HH : Hid (Calls _ _ _ _ _) := H
  clear H hc hM
  go_enter Try.func104, Try.ntmps104
  go_wp2_with fail
  refine HH.out.mono ?_
  rintro e w' ⟨v, rfl, h1, h2⟩
  go_wp2
  go_ret
  exact ⟨v, rfl, h1, h2⟩

theorem octets_c (g m : Nat) (ps : List Addr) (w : World) (hM : ps.length = m) (hm : m ≤ 100) (hc : ∀ i p, ps[i]? = some p → w.cell? ⟨g, i, none⟩ = some (.pointer (some p))) :
    Calls Try.prog 108 #[.slice (some ⟨g, 0, none⟩) m m] w fun e w' =>
      ∃ v, e = .returned v ∧ w'.ownsRow w.heap.size 80 3 v m (fcells ps 1 255) ∧ Ext w w' := by
  have H := alike_c g m ps 1 255 w hM hm hc
  have HH : Hid (Calls _ _ _ _ _) := H
  clear H hc hM
  go_enter Try.func108, Try.ntmps108
  go_wp2_with fail
  refine HH.out.mono ?_
  rintro e w' ⟨v, rfl, h1, h2⟩
  go_wp2
  go_ret
  exact ⟨v, rfl, h1, h2⟩

end Go.Proofs.Ytmnjhhachdlmkaa
