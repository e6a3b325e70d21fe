import Derived.Test.YtmnjhhachdlmkaaRows
import Derived.Test.YtmnjhhachdlmkaaHidesW
import Derived.Test.YtmnjhhachdlmkaaLawC
import Derived.Test.YtmnjhhachdlmkaaOpen
import Derived.ShutString
import Derived.ChangeOld
namespace Go.Proofs.Ytmnjhhachdlmkaa
open Go.ChangeShapes Go.WideShapes Go.ChangeAt Go.RowKit Go.Joins

theorem ownH : ownKnob Try.prog.godebug = none := by kernel_rfl
theorem laidOutH : laidOutB Try.prog = true := by kernel_rfl
theorem bytesU64H : Try.prog.bytesOf 47 = 8 := by kernel_rfl

theorem wordsIn_ok {a : Option Addr} {len cap : Nat} {zs : List Nat} {w : World} (hz : WordsIn w a len cap zs) :
    (zs.map (fun (z : Nat) => (z : Int))).length = len ∧ inU64 (zs.map (fun (z : Nat) => (z : Int))) ∧ len ≤ 100000000000000 ∧ (len = 0 ∨ ∃ b off, a = some ⟨b, off, none⟩ ∧ WordsAt w b off (zs.map (fun (z : Nat) => (z : Int)))) := by
  obtain ⟨h1, h2, h3, h4, h5⟩ := hz
  refine ⟨by simp [h1], ?_, by omega, ?_⟩
  · intro z hz
    simp only [List.mem_map] at hz
    obtain ⟨n, hn, rfl⟩ := hz
    have := h4 n hn
    omega
  · rcases h5 with h | ⟨b, off, h, hw⟩
    · exact .inl h
    · refine .inr ⟨b, off, h, fun i hi => ?_⟩
      have hi' : i < len := by simpa [h1] using hi
      rw [hw i hi']
      have hl : i < zs.length := by omega
      simp [List.getD_eq_getElem?_getD, List.getElem?_eq_getElem hl]

theorem hides_calls (c pa : Int) (hc0 : -9223372036854775808 ≤ c) (hc1 : c ≤ 9223372036854775807) (hp0 : -9223372036854775808 ≤ pa) (hp1 : pa ≤ 9223372036854775807) (a : Option Addr) (len cap : Nat) (zs : List Nat) (a2 : Option Addr) (len2 cap2 : Nat) (zs2 : List Nat) (w : World) (hz : WordsIn w a len cap zs) (hz2 : WordsIn w a2 len2 cap2 zs2) :
    Calls Try.prog 5 #[.int .i64 c, .slice a len cap, .slice a2 len2 cap2, .int .i64 pa] w fun e w' => e = .returned (.bool true) ∧ Below w.heap.size w w' := by
  obtain ⟨q, hq, hpk⟩ := pick2_c pa hp0 hp1
  obtain ⟨h1, h2, h3, h4⟩ := wordsIn_ok hz
  obtain ⟨k1, k2, k3, k4⟩ := wordsIn_ok hz2
  exact hides_c c pa q hq hpk (fun w => lawClass_c c hc0 hc1 w) a len cap _ h1 h2 h3 a2 len2 cap2 _ k1 k2 k3 w h4 k4

set_option maxRecDepth 100000 in
theorem hides_lifted (os : Os) (started : os.Started) (H : Type) (enc : TypeId × Value → H) :
    ReturnsInHanded {} Try.checked os 5 .any (Rows.hidesSpec.pre6 enc Try.prog Try.f5 Rows.hidesRow.domain false) (Rows.hidesSpec.post enc Try.prog Try.f5 false true false false) := by
  refine returnsInHanded_of_change_sized (C := Try.checked) ownH started (by kernel_rfl) Try.func5
    (ChangeSpec.witness6 (enc := enc) (C := Try.checked) false ⟨#[], #[.int .i64 0, .slice none 0 0, .slice none 0 0, .int .i64 0], []⟩ 8 (by kernel_rfl) (by kernel_rfl) (by kernel_rfl) (by kernel_rfl)) ?_
  intro W base args ds gs before hval0 hW hcnd hsz0 _
  have hval : ∀ (j : Nat) t v, Try.f5.params[j]? = some t → args[j]? = some v → Value.okWide Try.prog W .any base t v := hval0
  have hsz : (DataW.weightsEach Try.prog (Try.f5.params.toList ++ Rows.hidesSpec.plain.varTypes Try.prog) (ds ++ gs)).all (· ≤ reachBytes) = true := hsz0
  have hW' := hW
  obtain ⟨p, q, hA0, hV, rfl, hfz, hnd⟩ := hW
  have hA : DataW.TrodAll enc Try.prog W 0 (fun _ => true) true Try.f5.params.toList args.toList ds p := hA0
  rw [Try.params5] at hA hval hsz
  obtain ⟨v0, vs0, d0, ds0, p0, q0, hargs, rfl, rfl, h0, r0⟩ := trodAll_cons hA
  obtain ⟨v1, vs1, d1, ds1, p1, q1, rfl, rfl, rfl, h1, r1⟩ := trodAll_cons r0
  obtain ⟨v2, vs2, d2, ds2, p2, q2, rfl, rfl, rfl, h2, r2⟩ := trodAll_cons r1
  obtain ⟨v3, vs3, d3, ds3, p3, q3, rfl, rfl, rfl, h3, r3⟩ := trodAll_cons r2
  obtain ⟨rfl, rfl, rfl⟩ := trodAll_nil r3
  obtain rfl : args = #[v0, v1, v2, v3] := by cases args; simp_all
  obtain ⟨rfl, rfl⟩ := trodVars_none hV
  have k0 := h0
  have k1 := h1
  have k2 := h2
  have k3 := h3
  have lt0 : ∀ x ∈ p0, x.block < W.heap.size := by obtain ⟨m, hm⟩ := k0; exact DataW.trod_lt m _ _ _ hm
  have lt1 : ∀ x ∈ p1, x.block < W.heap.size := by obtain ⟨m, hm⟩ := k1; exact DataW.trod_lt m _ _ _ hm
  have lt2 : ∀ x ∈ p2, x.block < W.heap.size := by obtain ⟨m, hm⟩ := k2; exact DataW.trod_lt m _ _ _ hm
  have lt3 : ∀ x ∈ p3, x.block < W.heap.size := by obtain ⟨m, hm⟩ := k3; exact DataW.trod_lt m _ _ _ hm
  obtain ⟨c, rfl, _, _, hwf⟩ := open_int Try.underlying3 (hval 0 3 v0 rfl rfl) h0
  have hc : -9223372036854775808 ≤ c ∧ c ≤ 9223372036854775807 := by simpa [Lit.wf, IntKind.min, IntKind.max, IntKind.signed, IntKind.bits] using hwf
  obtain ⟨pa, rfl, _, _, hwf3⟩ := open_int Try.underlying3 (hval 3 3 v3 rfl rfl) h3
  have hpa : -9223372036854775808 ≤ pa ∧ pa ≤ 9223372036854775807 := by simpa [Lit.wf, IntKind.min, IntKind.max, IntKind.signed, IntKind.bits] using hwf3
  obtain ⟨a0, len0, cap0, rfl⟩ := okWide_slice Try.underlying27 (hval 1 27 v1 rfl rfl)
  obtain ⟨b0, mlen0, mcap0, rfl⟩ := okWide_slice Try.underlying27 (hval 2 27 v2 rfl rfl)
  obtain ⟨a, len, cap, zs, hv, hz⟩ : ∃ (a : Option Addr) (len cap : Nat) (zs : List Nat), Value.slice a0 len0 cap0 = .slice a len cap ∧ WordsIn W a len cap zs := by
    obtain ⟨fuel, hf⟩ := h1
    refine words_in (y := (d1, p1)) hf (fun elems sp hd => ?_)
    have hx' : d1 = .slice elems sp := hd
    have hm := List.all_eq_true.1 hsz _ (DataW.weights_mem_each (j := 1) (t := 27) (d := d1) rfl rfl ((elems.length + sp.length) * Try.prog.bytesOf 47) (by
      rw [hx']
      simp [DataW.weights, Try.underlying27]))
    rw [bytesU64H] at hm
    have hm2 : (elems.length + sp.length) * 8 ≤ reachBytes := of_decide_eq_true hm
    unfold reachBytes at hm2
    exact hm2
  obtain ⟨b, mlen, mcap, ys, hv2, hy⟩ : ∃ (a : Option Addr) (len cap : Nat) (zs : List Nat), Value.slice b0 mlen0 mcap0 = .slice a len cap ∧ WordsIn W a len cap zs := by
    obtain ⟨fuel, hf⟩ := h2
    refine words_in (y := (d2, p2)) hf (fun elems sp hd => ?_)
    have hx' : d2 = .slice elems sp := hd
    have hm := List.all_eq_true.1 hsz _ (DataW.weights_mem_each (j := 2) (t := 27) (d := d2) rfl rfl ((elems.length + sp.length) * Try.prog.bytesOf 47) (by
      rw [hx']
      simp [DataW.weights, Try.underlying27]))
    rw [bytesU64H] at hm
    have hm2 : (elems.length + sp.length) * 8 ≤ reachBytes := of_decide_eq_true hm
    unfold reachBytes at hm2
    exact hm2
  injection hv with e1 e2 e3
  subst e1; subst e2; subst e3
  injection hv2 with e1 e2 e3
  subst e1; subst e2; subst e3
  clear hA0 hval0 hsz0 h0 h1 h2 h3
  refine (hides_calls c pa hc.1 hc.2 hpa.1 hpa.2 _ _ _ zs _ _ _ ys W hz hy).mono fun e W' ⟨he, bel⟩ => ?_
  subst he
  exact ⟨_, rfl, _, _, _, [], _, [], hW', trodAll_mk1 (shut_bool Try.underlying4 _), (trodAll_cons_mk (Below.trod laidOutH (by kernel_rfl) (of_decide_eq_true (by kernel_rfl)) k0 bel lt0) (trodAll_cons_mk (Below.trod laidOutH (by kernel_rfl) (of_decide_eq_true (by kernel_rfl)) k1 bel lt1) (trodAll_cons_mk (Below.trod laidOutH (by kernel_rfl) (of_decide_eq_true (by kernel_rfl)) k2 bel lt2) (trodAll_cons_mk (Below.trod laidOutH (by kernel_rfl) (of_decide_eq_true (by kernel_rfl)) k3 bel lt3) trodAll_mk0)))), rfl, bel.frame _, fun h => by cases h⟩

theorem hides_over : Rows.hidesRow.holds Try.pinned (OpenSpec.ofChange Rows.hidesSpec) :=
  OpenClaim.holds_of_wide 5 Try.f5 rfl rfl rfl rfl rfl rfl rfl ⟨rfl, rfl, rfl, rfl, rfl⟩ rfl rfl rfl rfl rfl (by kernel_rfl) Try.func5 (by kernel_rfl)
    (of_decide_eq_true (by kernel_rfl)) (by unfold Func.isWrapper; first | (rw [if_pos (by decide +kernel)]; kernel_rfl) | (rw [if_neg (by decide +kernel)]; exact ⟨rfl, rfl⟩))
    (fun os started H enc _ => hides_lifted os started H enc)

theorem hides_holds : Rows.HidesSaid := hides_over
#print axioms hides_holds
end Go.Proofs.Ytmnjhhachdlmkaa
