import Derived.Test.YtmnjhhachdlmkaaFill
namespace Go.Proofs.Ytmnjhhachdlmkaa
open Go.RowKit

def szs : List (Nat × Int × Int) → Nat
  | [] => 0
  | x :: t => x.2.1.toNat + szs t
def valsOf : List (Nat × Int × Int) → List UInt8 → List Nat
  | [], _ => []
  | x :: t, r => be (r.take x.2.1.toNat) :: valsOf t (r.drop x.2.1.toNat)
def bounded : List (Nat × Int × Int) → List UInt8 → Prop
  | [], _ => True
  | x :: t, r => (be (r.take x.2.1.toNat) : Int) ≤ x.2.2 ∧ bounded t (r.drop x.2.1.toNat)

theorem decTo_iff (l : List (Nat × Int × Int)) (r : List UInt8) (vs : List Nat) : decTo l r = some (vs, []) ↔ r.length = szs l ∧ vs = valsOf l r ∧ bounded l r := by
  induction l generalizing r vs with
  | nil => simp [decTo, szs, valsOf, bounded]; constructor <;> rintro ⟨h1, h2⟩ <;> simp_all
  | cons x t ih =>
    simp only [decTo, szs, valsOf, bounded]
    by_cases h1 : r.length < x.2.1.toNat
    · rw [step1_no (.inl h1)]
      simp; intro h; omega
    · by_cases h2 : x.2.2 < (be (r.take x.2.1.toNat) : Int)
      · rw [step1_no (.inr h2)]
        simp; intro _ _ h; omega
      · rw [step1_yes h1 h2]
        simp only [Option.bind_some, Option.map_eq_some_iff]
        constructor
        · rintro ⟨q, hq, he⟩
          simp at he
          obtain ⟨he1, he2⟩ := he
          have := (ih (r.drop x.2.1.toNat) q.1).1 (by rw [hq]; rw [← he2])
          simp at this
          refine ⟨by omega, by rw [← he1, this.2.1], by omega, this.2.2⟩
        · rintro ⟨h3, h4, h5, h6⟩
          refine ⟨(valsOf t (r.drop x.2.1.toNat), []), (ih _ _).2 ⟨by simp; omega, rfl, h6⟩, by simp [h4]⟩

theorem be_one (t : ByteArray) (j : Nat) (h : j < t.size) : be ((t.data.toList.drop j).take 1) = (t[j]).toNat := by
  have hl : j < t.data.toList.length := by simpa using h
  rw [List.drop_eq_getElem_cons hl]
  simp [be]
  rfl
theorem req_all {W : World} {g : Nat} {t : TypeId} {v0 v1 v2 v3 v4 v5 v6 v7 v8 v9 : Value} (h : W.heap[g]? = some (.cells #[v0, v1, v2, v3, v4, v5, v6, v7, v8, v9] t (0, 0))) :
    g < W.heap.size ∧ W.cell? ⟨g, 0, none⟩ = some v0 ∧ W.cell? ⟨g, 1, none⟩ = some v1 ∧ W.cell? ⟨g, 2, none⟩ = some v2 ∧ W.cell? ⟨g, 3, none⟩ = some v3 ∧ W.cell? ⟨g, 4, none⟩ = some v4 ∧ W.cell? ⟨g, 5, none⟩ = some v5 ∧ W.cell? ⟨g, 6, none⟩ = some v6 ∧ W.cell? ⟨g, 7, none⟩ = some v7 ∧ W.cell? ⟨g, 8, none⟩ = some v8 ∧ W.cell? ⟨g, 9, none⟩ = some v9 ∧ W.frozen? ⟨g, 0, none⟩ = false ∧ W.frozen? ⟨g, 1, none⟩ = false ∧ W.frozen? ⟨g, 2, none⟩ = false ∧ W.frozen? ⟨g, 3, none⟩ = false ∧ W.frozen? ⟨g, 4, none⟩ = false ∧ W.frozen? ⟨g, 5, none⟩ = false ∧ W.frozen? ⟨g, 6, none⟩ = false ∧ W.frozen? ⟨g, 7, none⟩ = false ∧ W.frozen? ⟨g, 8, none⟩ = false ∧ W.frozen? ⟨g, 9, none⟩ = false :=
  ⟨(Array.getElem?_eq_some_iff.1 h).1, cell_at h rfl, cell_at h rfl, cell_at h rfl, cell_at h rfl, cell_at h rfl, cell_at h rfl, cell_at h rfl, cell_at h rfl, cell_at h rfl, cell_at h rfl, frozen_of_row W g 0 _ t h, frozen_of_row W g 1 _ t h, frozen_of_row W g 2 _ t h, frozen_of_row W g 3 _ t h, frozen_of_row W g 4 _ t h, frozen_of_row W g 5 _ t h, frozen_of_row W g 6 _ t h, frozen_of_row W g 7 _ t h, frozen_of_row W g 8 _ t h, frozen_of_row W g 9 _ t h⟩
end Go.Proofs.Ytmnjhhachdlmkaa
