import Derived.Test.YtmnjhhachdlmkaaBase
import Derived.Test.YtmnjhhachdlmkaaNums
import Derived.Laws.IdiomStrings
namespace Go.Proofs.Ytmnjhhachdlmkaa
open Go.RowKit

/-- string(b), b's cells the bytes l. -/
theorem conv_at (W : World) (g cap n : Nat) (l : List UInt8) (hl : l.length = n) (hc : ∀ j u, (byteV l)[j]? = some u → W.cell? ⟨g, j, none⟩ = some u) :
    (convert 62 9 (.slice (some ⟨g, 0, none⟩) n cap)).run Try.prog W = .ok (.string ⟨l.toArray⟩) W := by
  subst hl
  refine run_convert_bytes_back W 62 9 5 ⟨g, 0, none⟩ cap l Try.underlying62 Try.underlying5 Try.underlying9 ?_
  intro j hj
  have e : (⟨g, 0, none⟩ : Addr).add j = ⟨g, j, none⟩ := by unfold Addr.add; split <;> simp_all
  rw [e]
  exact hc j _ (by simp [byteV, List.getElem?_eq_getElem hj])

theorem conv_own {W : World} {base g cap n : Nat} {l : List UInt8} (hl : l.length = n) (ho : W.ownsRow base 5 1 (.slice (some ⟨g, 0, none⟩) n cap) n (byteV l)) :
    (convert 62 9 (.slice (some ⟨g, 0, none⟩) n cap)).run Try.prog W = .ok (.string ⟨l.toArray⟩) W :=
  conv_at W g cap n l hl fun j u hu => by
    have hj := (List.getElem?_eq_some_iff.1 hu).1
    rw [ho.cellAt j (by rw [len_byteV] at hj; omega)]; exact hu

theorem low_c (n : Int) (w : World) : Calls Try.prog 30 #[.int .i64 n] w fun e w' => e = .returned (.int .u8 (n % 256)) ∧ w = w' := by
  go_enter Try.func30, Try.ntmps30
  go_wp2
  go_ret
  refine ⟨?_, rfl⟩
  show Ending.returned (.int .u8 (bits BinOp.and IntKind.i64 n 255 % 256)) = _
  rw [i64_and255]
  exact ret_int (by omega)

set_option maxRecDepth 100000 in
set_option maxHeartbeats 800000 in
theorem four_c (n : Nat) (h1 : n ≤ 2147483647) (w : World) : Calls Try.prog 26 #[.int .i64 (n : Int)] w fun e w' =>
    e = .returned (.string ⟨(bytesOf n 4).toArray⟩) ∧ Ext w w' := by
  have hcv : (convert 62 9 (.slice (some ⟨w.heap.size, 0, none⟩) 4 4)).run Try.prog (w.alloc (.cells #[.int .u8 ((n : Int) / 256 / 256 / 256 % 256), .int .u8 ((n : Int) / 256 / 256 % 256), .int .u8 ((n : Int) / 256 % 256), .int .u8 ((n : Int) % 256)] 5)) =
      .ok (.string ⟨(bytesOf n 4).toArray⟩) (w.alloc (.cells #[.int .u8 ((n : Int) / 256 / 256 / 256 % 256), .int .u8 ((n : Int) / 256 / 256 % 256), .int .u8 ((n : Int) / 256 % 256), .int .u8 ((n : Int) % 256)] 5)) := by
    refine conv_at _ _ 4 4 (bytesOf n 4) (len_bytesOf n 4) ?_
    intro j u hu
    rw [← four_bytes] at hu
    rw [cell_of_row _ _ j _ _ (0, 0) (heap_alloc_new w _)]
    simpa using hu
  generalize hS : (⟨(bytesOf n 4).toArray⟩ : ByteArray) = S at *
  clear hS
  go_enter Try.func26, Try.ntmps26
  go_wp2
  refine wp_loop_rounds 5 ?_
  rw [rounds_succ]
  go_wp2
  rw [rounds_succ]
  go_wp2
  rw [rounds_succ]
  go_wp2
  rw [rounds_succ]
  go_wp2
  rw [rounds_succ]
  go_wp2
  go_ret
  exact ⟨rfl, (Ext.refl w).alloc _⟩
end Go.Proofs.Ytmnjhhachdlmkaa
