import Derived.Test.YtmnjhhachdlmkaaRP0
import Derived.Test.YtmnjhhachdlmkaaWP0
namespace Go.Proofs.Ytmnjhhachdlmkaa
open Go.RowKit

/-- What is known of a list of words that came in. -/
def WordsIn (w : World) (a : Option Addr) (len cap : Nat) (zs : List Nat) : Prop :=
  len = zs.length ∧ len ≤ cap ∧ cap * 8 ≤ 140737488351232 ∧ (∀ z ∈ zs, z ≤ 18446744073709551615) ∧
  (len = 0 ∨ ∃ b off, a = some ⟨b, off, none⟩ ∧ ∀ i, i < len → w.cell? ⟨b, off + i, none⟩ = some (.int .u64 (zs.getD i 0 : Nat)))

theorem wirePrint_c (code frm cnt : Int) (a : Option Addr) (len cap : Nat) (zs : List Nat) (w : World) (h : WordsIn w a len cap zs) :
    Calls Try.prog 29 #[.agg #[.int .i64 code, .int .i64 frm, .int .i64 cnt, .slice a len cap]] w fun e w' => e = .returned (.string ⟨(headB code frm cnt zs).toArray⟩) ∧ Ext w w' := by
  obtain ⟨h1, h2, h3, h4, h5⟩ := h
  rcases h5 with h5 | ⟨b, off, rfl, h5⟩
  · exact wirePrint_zero code frm cnt a len cap zs h5 h1 h2 h3 w
  · exact wirePrint_some code frm cnt b off len cap zs h1 h2 h3 w h5 h4
theorem refPrint_c (code frm cnt : Int) (a : Option Addr) (len cap : Nat) (zs : List Nat) (w : World) (h : WordsIn w a len cap zs) :
    Calls Try.prog 11 #[.agg #[.int .i64 code, .int .i64 frm, .int .i64 cnt, .slice a len cap]] w fun e w' => e = .returned (.string ⟨(headB code frm cnt zs).toArray⟩) ∧ Ext w w' := by
  obtain ⟨h1, h2, h3, h4, h5⟩ := h
  rcases h5 with h5 | ⟨b, off, rfl, h5⟩
  · exact refPrint_zero code frm cnt a len cap zs h5 h1 h2 h3 w
  · exact refPrint_some code frm cnt b off len cap zs h1 h2 h3 w h5 h4
theorem WordsIn.ext {w w' : World} {a : Option Addr} {len cap : Nat} {zs : List Nat} (h : WordsIn w a len cap zs) (hx : Ext w w') : WordsIn w' a len cap zs := by
  obtain ⟨h1, h2, h3, h4, h5⟩ := h
  refine ⟨h1, h2, h3, h4, ?_⟩
  rcases h5 with h5 | ⟨b, off, rfl, h5⟩
  · exact .inl h5
  · exact .inr ⟨b, off, rfl, fun i hi => hx.cell (h5 i hi)⟩

set_option maxRecDepth 100000 in
theorem dealerPrint_c (code frm cnt : Int) (a : Option Addr) (len cap : Nat) (zs : List Nat) (w : World) (h : WordsIn w a len cap zs) :
    Calls Try.prog 10 #[.agg #[.int .i64 code, .int .i64 frm, .int .i64 cnt, .slice a len cap]] w fun e w' => e = .returned (.string ⟨(headB code frm cnt zs).toArray⟩) ∧ Ext w w' := by
  have HH : Hid (WordsIn w a len cap zs) := h
  clear h
  generalize hS : (⟨(headB code frm cnt zs).toArray⟩ : ByteArray) = S
  have HS : Hid _ := hS
  clear hS
  go_enter Try.func10, Try.ntmps10
  go_wp2_with fail
  refine (wirePrint_c code frm cnt a len cap zs _ (HH.out.ext ((Ext.refl w).alloc _))).mono ?_
  rw [HS.out]
  rintro e w1 ⟨rfl, hx⟩
  go_wp2
  go_ret
  exact ⟨rfl, ((Ext.refl w).alloc _).trans hx⟩
end Go.Proofs.Ytmnjhhachdlmkaa
