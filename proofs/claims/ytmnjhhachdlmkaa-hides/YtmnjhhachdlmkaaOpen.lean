import Derived.Test.YtmnjhhachdlmkaaProg
import Derived.Test.YtmnjhhachdlmkaaTopP
import Derived.ProofKit
import Derived.OpenShut
import Derived.Lib.SmallJoins
import Derived.SizedLaws
namespace Go.Proofs.Ytmnjhhachdlmkaa
open Go.ChangeShapes Go.WideShapes Go.ChangeAt Go.RowKit Go.Joins

theorem list4 {cs : List Value} (h : cs.length = 4) : ∃ c0 c1 c2 c3, cs = [c0, c1, c2, c3] := by
  match cs, h with
  | [c0, c1, c2, c3], _ => exact ⟨c0, c1, c2, c3, rfl⟩
theorem list10 {cs : List Value} (h : cs.length = 10) : ∃ c0 c1 c2 c3 c4 c5 c6 c7 c8 c9, cs = [c0, c1, c2, c3, c4, c5, c6, c7, c8, c9] := by
  match cs, h with
  | [c0, c1, c2, c3, c4, c5, c6, c7, c8, c9], _ => exact ⟨c0, c1, c2, c3, c4, c5, c6, c7, c8, c9, rfl⟩

section
variable {H : Type} {enc : TypeId × Value → H} {W : World} {base : Nat} {spare : Nat → Bool} {held : Bool}

theorem cellsInt : Try.prog.cellsOf 3 = 1 := by kernel_rfl
theorem cellsErr : Try.prog.cellsOf 26 = 1 := by kernel_rfl
theorem cellsU64 : Try.prog.cellsOf 47 = 1 := by kernel_rfl
theorem cellsWords : Try.prog.cellsOf 27 = 1 := by kernel_rfl
theorem cellsCls : Try.prog.cellsOf 23 = 4 := by kernel_rfl
theorem cellsReq : Try.prog.cellsOf 25 = 10 := by kernel_rfl
theorem cellsRep : Try.prog.cellsOf 29 = 4 := by kernel_rfl

theorem open_cls {fuel : Nat} {cs : List Value} {x : DataW H × List MemPlace} (h : DataW.trod enc Try.prog W base spare held fuel 23 cs = some x) :
    ∃ a b c d : Int, cs = [.int .i64 a, .int .i64 b, .int .i64 c, .int .i64 d] := by
  obtain ⟨y0, y1, y2, y3, n, _, hl, h0, h1, h2, h3⟩ := trod_struct4 Try.underlying23 h
  rw [cellsCls] at hl
  obtain ⟨c0, c1, c2, c3, rfl⟩ := list4 hl
  clear hl h
  simp [cellsInt] at h0 h1 h2 h3
  obtain ⟨a, e0, _⟩ := DataW.trod_int Try.underlying3 h0
  obtain ⟨b, e1, _⟩ := DataW.trod_int Try.underlying3 h1
  obtain ⟨c, e2, _⟩ := DataW.trod_int Try.underlying3 h2
  obtain ⟨d, e3, _⟩ := DataW.trod_int Try.underlying3 h3
  simp at e0 e1 e2 e3
  exact ⟨a, b, c, d, by rw [e0, e1, e2, e3]⟩

theorem open_req {fuel : Nat} {cs : List Value} {x : DataW H × List MemPlace} (h : DataW.trod enc Try.prog W base spare held fuel 25 cs = some x) :
    ∃ k s i ck cm cl cn f c p : Int, cs = [.int .i64 k, .int .i64 s, .int .i64 i, .int .i64 ck, .int .i64 cm, .int .i64 cl, .int .i64 cn, .int .i64 f, .int .i64 c, .int .i64 p] := by
  obtain ⟨xs, n, _, _, hl, hxl, hf⟩ := DataW.trod_struct Try.underlying25 h
  rw [cellsReq] at hl
  obtain ⟨c0, c1, c2, c3, c4, c5, c6, c7, c8, c9, rfl⟩ := list10 hl
  clear hl h
  have h0 := hf 0 _ rfl
  have h1 := hf 1 _ rfl
  have h2 := hf 2 _ rfl
  have h3 := hf 3 _ rfl
  have h4 := hf 4 _ rfl
  have h5 := hf 5 _ rfl
  have h6 := hf 6 _ rfl
  have hx : ∀ j, j < 7 → ∃ y, xs[j]? = some y := fun j hj => ⟨_, List.getElem?_eq_getElem (by rw [hxl]; exact hj)⟩
  obtain ⟨y0, e0⟩ := hx 0 (by decide)
  obtain ⟨y1, e1⟩ := hx 1 (by decide)
  obtain ⟨y2, e2⟩ := hx 2 (by decide)
  obtain ⟨y3, e3⟩ := hx 3 (by decide)
  obtain ⟨y4, e4⟩ := hx 4 (by decide)
  obtain ⟨y5, e5⟩ := hx 5 (by decide)
  obtain ⟨y6, e6⟩ := hx 6 (by decide)
  rw [e0] at h0
  rw [e1] at h1
  rw [e2] at h2
  rw [e3] at h3
  rw [e4] at h4
  rw [e5] at h5
  rw [e6] at h6
  simp [cellsInt, cellsCls] at h0 h1 h2 h3 h4 h5 h6
  obtain ⟨k, d0, _⟩ := DataW.trod_int Try.underlying3 h0
  obtain ⟨s, d1, _⟩ := DataW.trod_int Try.underlying3 h1
  obtain ⟨i, d2, _⟩ := DataW.trod_int Try.underlying3 h2
  obtain ⟨ck, cm, cl, cn, d3⟩ := open_cls h3
  obtain ⟨f, d4, _⟩ := DataW.trod_int Try.underlying3 h4
  obtain ⟨c, d5, _⟩ := DataW.trod_int Try.underlying3 h5
  obtain ⟨p, d6, _⟩ := DataW.trod_int Try.underlying3 h6
  simp at d0 d1 d2 d3 d4 d5 d6
  obtain ⟨d3a, d3b, d3c, d3d⟩ := d3
  exact ⟨k, s, i, ck, cm, cl, cn, f, c, p, by rw [d0, d1, d2, d3a, d3b, d3c, d3d, d4, d5, d6]⟩

theorem open_reply {fuel : Nat} {cs : List Value} {x : DataW H × List MemPlace} (h : DataW.trod enc Try.prog W base spare held fuel 29 cs = some x) :
    ∃ (code frm cnt : Int) (v : Value) (n : Nat) (y : DataW H × List MemPlace), cs = [.int .i64 code, .int .i64 frm, .int .i64 cnt, v] ∧ x.1 = .agg [.lit (.int .i64 code), .lit (.int .i64 frm), .lit (.int .i64 cnt), y.1] ∧ DataW.trod enc Try.prog W base spare held n 27 [v] = some y := by
  obtain ⟨y0, y1, y2, y3, n, hx, hl, h0, h1, h2, h3⟩ := trod_struct4 Try.underlying29 h
  rw [cellsRep] at hl
  obtain ⟨c0, c1, c2, c3, rfl⟩ := list4 hl
  clear hl h
  simp [cellsInt, cellsErr, cellsWords] at h0 h1 h2 h3
  obtain ⟨a, e0, f0, _⟩ := DataW.trod_int Try.underlying26 h0
  obtain ⟨b, e1, f1, _⟩ := DataW.trod_int Try.underlying3 h1
  obtain ⟨c, e2, f2, _⟩ := DataW.trod_int Try.underlying3 h2
  simp at e0 e1 e2
  refine ⟨a, b, c, c3, n, y3, by rw [e0, e1, e2], ?_, h3⟩
  rw [hx, f0, f1, f2]

theorem words_in {fuel : Nat} {v : Value} {y : DataW H × List MemPlace} (h : DataW.trod enc Try.prog W 0 (fun _ => true) true fuel 27 [v] = some y)
    (hw : ∀ elems sp, y.1 = .slice elems sp → (elems.length + sp.length) * 8 ≤ 140737488351232) : ∃ a len cap zs, v = .slice a len cap ∧ WordsIn W a len cap zs := by
  rcases open_ints Try.underlying27 Try.underlying47 cellsU64 h with ⟨hcs, _⟩ | ⟨x, l, c, zs, hcs, _, hl, hm, hz, hy, hcell, hwz⟩
  · simp at hcs
    exact ⟨none, 0, 0, [], hcs, rfl, Nat.le_refl _, by omega, by simp, .inl rfl⟩
  · simp at hcs
    simp at hz
    have hb := hw _ _ (by rw [hy])
    have hsum : (lits (H := H) .u64 (zs.take l)).length + (lits (H := H) .u64 (zs.drop l)).length = zs.length := by simp [lits]; omega
    rw [hsum, hz] at hb
    have hnn : ∀ n ∈ zs, 0 ≤ n ∧ n ≤ 18446744073709551615 := fun n hn => by simpa [Lit.wf, IntKind.min, IntKind.max, IntKind.signed, IntKind.bits] using hwz n hn
    refine ⟨some x, l, c, (zs.take l).map Int.toNat, hcs, by simp; omega, hl, hb, ?_, ?_⟩
    · intro z hz'
      simp only [List.mem_map] at hz'
      obtain ⟨n, hn, rfl⟩ := hz'
      have := hnn n (List.mem_of_mem_take hn)
      omega
    · by_cases h0 : l = 0
      · exact .inl h0
      · right
        obtain ⟨b, off, spot⟩ := x
        have hc0 := hcell 0 (by omega)
        have hspot : spot = none := by simpa [Addr.add] using World.cell?_spot hc0
        subst hspot
        refine ⟨b, off, rfl, fun i hi => ?_⟩
        have hci := hcell i (by omega)
        have e : (⟨b, off, none⟩ : Addr).add i = ⟨b, off + i, none⟩ := by unfold Addr.add; split <;> simp_all
        rw [e] at hci
        rw [hci]
        have hil : i < zs.length := by omega
        have hn := hnn zs[i] (List.getElem_mem hil)
        have e2 : zs.getD i 0 = zs[i] := by simp [List.getD_eq_getElem?_getD, List.getElem?_eq_getElem hil]
        have e3 : ((zs.take l).map Int.toNat).getD i 0 = zs[i].toNat := by
          simp [List.getD_eq_getElem?_getD, hi, List.getElem?_eq_getElem hil]
        rw [e2, e3, Int.toNat_of_nonneg hn.1]
end
end Go.Proofs.Ytmnjhhachdlmkaa
