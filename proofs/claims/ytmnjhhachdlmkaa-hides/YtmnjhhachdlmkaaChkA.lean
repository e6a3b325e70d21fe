import Derived.Test.YtmnjhhachdlmkaaFieldsA
import Derived.Test.YtmnjhhachdlmkaaKind
import Derived.Test.YtmnjhhachdlmkaaFit
import Derived.Test.YtmnjhhachdlmkaaMeth
import Derived.Test.YtmnjhhachdlmkaaEqs
namespace Go.Proofs.Ytmnjhhachdlmkaa
open Go.RowKit

theorem req_cells {W : World} {g : Nat} {t : TypeId} {k s i ck cm cl cn f c p : Value} (h : W.heap[g]? = some (.cells #[k, s, i, ck, cm, cl, cn, f, c, p] t (0, 0))) :
    W.cell? ⟨g, 0, none⟩ = some k ∧ W.cell? ⟨g, 1, none⟩ = some s ∧ W.cell? ⟨g, 2, none⟩ = some i ∧ W.cell? ⟨g, 3, none⟩ = some ck ∧ W.cell? ⟨g, 4, none⟩ = some cm ∧ W.cell? ⟨g, 5, none⟩ = some cl ∧ W.cell? ⟨g, 6, none⟩ = some cn ∧ W.cell? ⟨g, 7, none⟩ = some f ∧ W.cell? ⟨g, 8, none⟩ = some c ∧ W.cell? ⟨g, 9, none⟩ = some p :=
  ⟨cell_at h rfl, cell_at h rfl, cell_at h rfl, cell_at h rfl, cell_at h rfl, cell_at h rfl, cell_at h rfl, cell_at h rfl, cell_at h rfl, cell_at h rfl⟩

end Go.Proofs.Ytmnjhhachdlmkaa
