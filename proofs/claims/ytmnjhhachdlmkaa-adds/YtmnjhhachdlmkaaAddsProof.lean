import Derived.Test.YtmnjhhachdlmkaaRows
import Derived.Test.YtmnjhhachdlmkaaAddsW
import Derived.Test.YtmnjhhachdlmkaaLawC
import Derived.Test.YtmnjhhachdlmkaaOpen
import Derived.ShutString
import Derived.ChangeOld
namespace Go.Proofs.Ytmnjhhachdlmkaa
open Go.ChangeShapes Go.WideShapes Go.ChangeAt Go.RowKit Go.Joins

theorem ownA : ownKnob Try.prog.godebug = none := by kernel_rfl
theorem laidOutA : laidOutB Try.prog = true := by kernel_rfl
theorem bytesU64A : Try.prog.bytesOf 47 = 8 := by kernel_rfl

theorem adds_calls (c : Int) (hc0 : -9223372036854775808 ≤ c) (hc1 : c ≤ 9223372036854775807) (a : Option Addr) (len cap : Nat) (zs : List Nat) (w : World) (hz : WordsIn w a len cap zs) :
    Calls Try.prog 4 #[.int .i64 c, .slice a len cap] w fun e w' => e = .returned (.bool true) ∧ Below w.heap.size w w' := by
  obtain ⟨h1, h2, h3, h4, h5⟩ := hz
  refine adds_c c (fun w => lawClass_c c hc0 hc1 w) a len cap (zs.map (fun (z : Nat) => (z : Int))) (by simp [h1]) ?_ (by omega) w ?_
  · intro z hz
    simp only [List.mem_map] at hz
    obtain ⟨n, hn, rfl⟩ := hz
    have := h4 n hn
    omega
  · rcases h5 with h | ⟨b, off, h, hw⟩
    · exact .inl h
    · refine .inr ⟨b, off, h, fun i hi => ?_⟩
      have hi' : i < len := by simpa [h1] using hi
      rw [hw i hi']
      have hl : i < zs.length := by omega
      simp [List.getD_eq_getElem?_getD, List.getElem?_eq_getElem hl]

set_option maxRecDepth 100000 in
theorem adds_lifted (os : Os) (started : os.Started) (H : Type) (enc : TypeId × Value → H) :
    ReturnsInHanded {} Try.checked os 4 .any (Rows.addsSpec.pre6 enc Try.prog Try.f4 Rows.addsRow.domain false) (Rows.addsSpec.post enc Try.prog Try.f4 false true false false) := by
  refine returnsInHanded_of_change_sized (C := Try.checked) ownA started (by kernel_rfl) Try.func4
    (ChangeSpec.witness6 (enc := enc) (C := Try.checked) false ⟨#[], #[.int .i64 0, .slice none 0 0], []⟩ 8 (by kernel_rfl) (by kernel_rfl) (by kernel_rfl) (by kernel_rfl)) ?_
  intro W base args ds gs before hval0 hW hcnd hsz0 _
  have hval : ∀ (j : Nat) t v, Try.f4.params[j]? = some t → args[j]? = some v → Value.okWide Try.prog W .any base t v := hval0
  have hsz : (DataW.weightsEach Try.prog (Try.f4.params.toList ++ Rows.addsSpec.plain.varTypes Try.prog) (ds ++ gs)).all (· ≤ reachBytes) = true := hsz0
  have hW' := hW
  obtain ⟨p, q, hA0, hV, rfl, hfz, hnd⟩ := hW
  have hA : DataW.TrodAll enc Try.prog W 0 (fun _ => true) true Try.f4.params.toList args.toList ds p := hA0
  rw [Try.params4] at hA hval hsz
  obtain ⟨v0, vs0, d0, ds0, p0, q0, hargs, rfl, rfl, h0, r0⟩ := trodAll_cons hA
  obtain ⟨v1, vs1, d1, ds1, p1, q1, rfl, rfl, rfl, h1, r1⟩ := trodAll_cons r0
  obtain ⟨rfl, rfl, rfl⟩ := trodAll_nil r1
  obtain rfl : args = #[v0, v1] := by cases args; simp_all
  obtain ⟨rfl, rfl⟩ := trodVars_none hV
  have k0 := h0
  have k1 := h1
  have lt0 : ∀ x ∈ p0, x.block < W.heap.size := by obtain ⟨m, hm⟩ := k0; exact DataW.trod_lt m _ _ _ hm
  have lt1 : ∀ x ∈ p1, x.block < W.heap.size := by obtain ⟨m, hm⟩ := k1; exact DataW.trod_lt m _ _ _ hm
  obtain ⟨c, rfl, _, _, hwf⟩ := open_int Try.underlying3 (hval 0 3 v0 rfl rfl) h0
  have hc : -9223372036854775808 ≤ c ∧ c ≤ 9223372036854775807 := by simpa [Lit.wf, IntKind.min, IntKind.max, IntKind.signed, IntKind.bits] using hwf
  obtain ⟨a0, len0, cap0, rfl⟩ := okWide_slice Try.underlying27 (hval 1 27 v1 rfl rfl)
  obtain ⟨a, len, cap, zs, hv, hz⟩ : ∃ (a : Option Addr) (len cap : Nat) (zs : List Nat), Value.slice a0 len0 cap0 = .slice a len cap ∧ WordsIn W a len cap zs := by
    obtain ⟨fuel, hf⟩ := h1
    refine words_in (y := (d1, p1)) hf (fun elems sp hd => ?_)
    have hx' : d1 = .slice elems sp := hd
    have hm := List.all_eq_true.1 hsz _ (DataW.weights_mem_each (j := 1) (t := 27) (d := d1) rfl rfl ((elems.length + sp.length) * Try.prog.bytesOf 47) (by
      rw [hx']
      simp [DataW.weights, Try.underlying27]))
    rw [bytesU64A] at hm
    have hm2 : (elems.length + sp.length) * 8 ≤ reachBytes := of_decide_eq_true hm
    unfold reachBytes at hm2
    exact hm2
  injection hv with e1 e2 e3
  subst e1; subst e2; subst e3
  clear hA0 hval0 hsz0 h0 h1
  refine (adds_calls c hc.1 hc.2 _ _ _ zs W hz).mono fun e W' ⟨he, bel⟩ => ?_
  subst he
  exact ⟨_, rfl, _, _, _, [], _, [], hW', trodAll_mk1 (shut_bool Try.underlying4 _), (trodAll_cons_mk (Below.trod laidOutA (by kernel_rfl) (of_decide_eq_true (by kernel_rfl)) k0 bel lt0) (trodAll_cons_mk (Below.trod laidOutA (by kernel_rfl) (of_decide_eq_true (by kernel_rfl)) k1 bel lt1) trodAll_mk0)), rfl, bel.frame _, fun h => by cases h⟩

theorem adds_over : Rows.addsRow.holds Try.pinned (OpenSpec.ofChange Rows.addsSpec) :=
  OpenClaim.holds_of_wide 4 Try.f4 rfl rfl rfl rfl rfl rfl rfl ⟨rfl, rfl, rfl, rfl, rfl⟩ rfl rfl rfl rfl rfl (by kernel_rfl) Try.func4 (by kernel_rfl)
    (of_decide_eq_true (by kernel_rfl)) (by unfold Func.isWrapper; first | (rw [if_pos (by decide +kernel)]; kernel_rfl) | (rw [if_neg (by decide +kernel)]; exact ⟨rfl, rfl⟩))
    (fun os started H enc _ => adds_lifted os started H enc)

theorem adds_holds : Rows.AddsSaid := adds_over
#print axioms adds_holds
end Go.Proofs.Ytmnjhhachdlmkaa
