import Derived.Test.YtmnjhhachdlmkaaRight
import Derived.Test.YtmnjhhachdlmkaaFour
import Derived.Test.YtmnjhhachdlmkaaChkA
namespace Go.Proofs.Ytmnjhhachdlmkaa
open Go.RowKit

theorem conv_ints (W : World) (ns : List Int) (n : Nat) (hn : ns.length = n) :
    (convert 62 9 (.slice (some ⟨W.heap.size, 0, none⟩) n n)).run Try.prog (W.alloc (.cells (ns.map (Value.int .u8)).toArray 5)) =
      .ok (.string ⟨(ns.map fun n => UInt8.ofNat n.toNat).toArray⟩) (W.alloc (.cells (ns.map (Value.int .u8)).toArray 5)) := by
  subst hn
  rw [run_convert_bytes_string _ 62 9 5 _ _ _ Try.underlying62 Try.underlying5 Try.underlying9]
  have hl := run_loadCells_list (P := Try.prog) (W.alloc (.cells (ns.map (Value.int .u8)).toArray 5)) ⟨W.heap.size, 0, none⟩ (ns.map (Value.int .u8)) (fun j v hj => by
    have e : (⟨W.heap.size, 0, none⟩ : Addr).add j = ⟨W.heap.size, j, none⟩ := by unfold Addr.add; split <;> simp_all
    rw [e, cell_of_row _ _ j _ _ (0, 0) (heap_alloc_new W _)]
    simpa using hj)
  simp only [List.length_map] at hl
  rw [run_bytesToString _ _ _ _ ns hl]
  congr 2
  have key : ∀ (l : List Int) (b : ByteArray), l.foldl (fun r n => r.push (UInt8.ofNat n.toNat)) b = ⟨b.data ++ (l.map fun n => UInt8.ofNat n.toNat).toArray⟩ := by
    intro l
    induction l with
    | nil => intro b; simp
    | cons x t ih => intro b; rw [List.foldl_cons, ih]; simp [ByteArray.push]
  rw [key]
  simp

theorem conv1 (W : World) (a : Int) :
    (convert 62 9 (.slice (some ⟨W.heap.size, 0, none⟩) 1 1)).run Try.prog (W.alloc (.cells #[.int .u8 a] 5)) =
      .ok (.string ⟨#[UInt8.ofNat a.toNat]⟩) (W.alloc (.cells #[.int .u8 a] 5)) := conv_ints W [a] 1 rfl
theorem conv4 (W : World) (a b c d : Int) :
    (convert 62 9 (.slice (some ⟨W.heap.size, 0, none⟩) 4 4)).run Try.prog (W.alloc (.cells #[.int .u8 a, .int .u8 b, .int .u8 c, .int .u8 d] 5)) =
      .ok (.string ⟨#[UInt8.ofNat a.toNat, UInt8.ofNat b.toNat, UInt8.ofNat c.toNat, UInt8.ofNat d.toNat]⟩) (W.alloc (.cells #[.int .u8 a, .int .u8 b, .int .u8 c, .int .u8 d] 5)) := conv_ints W [a, b, c, d] 4 rfl


theorem conv4' (W : World) (o : Obj) (a b c d : Int) :
    (convert 62 9 (.slice (some ⟨W.heap.size + 1, 0, none⟩) 4 4)).run Try.prog ((W.alloc o).alloc (.cells #[.int .u8 a, .int .u8 b, .int .u8 c, .int .u8 d] 5)) =
      .ok (.string ⟨#[UInt8.ofNat a.toNat, UInt8.ofNat b.toNat, UInt8.ofNat c.toNat, UInt8.ofNat d.toNat]⟩) ((W.alloc o).alloc (.cells #[.int .u8 a, .int .u8 b, .int .u8 c, .int .u8 d] 5)) := by
  have h := conv4 (W.alloc o) a b c d
  rw [World.size_alloc] at h
  exact h

theorem req_cells' {W : World} {g : Nat} {t : TypeId} {k s i ck cm cl cn f c p : Value} (h : W.heap[g]? = some (.cells #[k, s, i, ck, cm, cl, cn, f, c, p] t (0, 0))) :
    g < W.heap.size ∧ W.cell? ⟨g, 0, none⟩ = some k ∧ W.cell? ⟨g, 1, none⟩ = some s ∧ W.cell? ⟨g, 2, none⟩ = some i ∧ W.cell? ⟨g, 3, none⟩ = some ck ∧ W.cell? ⟨g, 4, none⟩ = some cm ∧ W.cell? ⟨g, 5, none⟩ = some cl ∧ W.cell? ⟨g, 6, none⟩ = some cn ∧ W.cell? ⟨g, 7, none⟩ = some f ∧ W.cell? ⟨g, 8, none⟩ = some c ∧ W.cell? ⟨g, 9, none⟩ = some p :=
  ⟨(Array.getElem?_eq_some_iff.1 h).1, req_cells h⟩
end Go.Proofs.Ytmnjhhachdlmkaa
