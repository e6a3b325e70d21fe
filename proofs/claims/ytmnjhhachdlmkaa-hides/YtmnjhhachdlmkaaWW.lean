import Derived.Test.YtmnjhhachdlmkaaPut
import Derived.Test.YtmnjhhachdlmkaaFour
import Derived.Test.YtmnjhhachdlmkaaFit
import Derived.Test.YtmnjhhachdlmkaaKind
import Derived.Test.YtmnjhhachdlmkaaMeth
namespace Go.Proofs.Ytmnjhhachdlmkaa
open Go.RowKit

theorem put_s (base n g cap : Nat) (l : List UInt8) (x : Nat) (sz : Nat) (hs : sz ≤ 8) (hn1 : 1 ≤ n + sz) (hx1 : x ≤ 18446744073709551615) (w : World)
    (hown : w.ownsRow base 5 1 (.slice (some ⟨g, 0, none⟩) n cap) n (byteV l)) (hb : base ≤ w.heap.size) (hn : n + sz ≤ 140737488355328) :
    Calls Try.prog 38 #[.slice (some ⟨g, 0, none⟩) n cap, .int .u64 (x : Int), .int .i64 (sz : Int)] w fun e w' =>
      ∃ g' cap', e = .returned (.slice (some ⟨g', 0, none⟩) (n + sz) cap') ∧ w'.ownsRow base 5 1 (.slice (some ⟨g', 0, none⟩) (n + sz) cap') (n + sz) (byteV (l ++ bytesOf x sz)) ∧ Below base w w' ∧ Keeps w w' :=
  (put_b base n _ l x sz hs hx1 w hown hb hn).mono fun e w' ⟨v', h1, h2, h3, h4⟩ => by
    obtain ⟨g', cap', rfl, h5⟩ := row_form h2 (by omega)
    exact ⟨g', cap', h1, h5, h3, h4⟩

/-- The bytes of all numbers of a request. -/
def flatB (vals : Nat → Nat) (l : List (Nat × Int × Int)) : List UInt8 := l.flatMap fun x => bytesOf (vals x.1) x.2.1.toNat
theorem flatB_snoc (vals : Nat → Nat) (l : List (Nat × Int × Int)) (x : Nat × Int × Int) : flatB vals (l ++ [x]) = flatB vals l ++ bytesOf (vals x.1) x.2.1.toNat := by simp [flatB]
def sizes8 (l : List (Nat × Int × Int)) : Prop := ∀ x ∈ l, 1 ≤ x.2.1 ∧ x.2.1 ≤ 8
theorem len_flatB (vals : Nat → Nat) (l : List (Nat × Int × Int)) (h : sizes8 l) : (flatB vals l).length ≤ l.length * 8 := by
  induction l with
  | nil => simp [flatB]
  | cons x t ih =>
    have h1 := ih (fun y hy => h y (by simp [hy]))
    have h2 := h x (by simp)
    simp [flatB, len_bytesOf] at h1 ⊢
    omega
end Go.Proofs.Ytmnjhhachdlmkaa
