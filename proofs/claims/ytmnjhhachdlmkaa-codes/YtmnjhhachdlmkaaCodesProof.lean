import Derived.Test.YtmnjhhachdlmkaaRows
import Derived.Test.YtmnjhhachdlmkaaTop
import Derived.Test.YtmnjhhachdlmkaaLaw
import Derived.Test.YtmnjhhachdlmkaaOpen
import Derived.ShutString
import Derived.ChangeOld
namespace Go.Proofs.Ytmnjhhachdlmkaa
open Go.ChangeShapes Go.WideShapes Go.ChangeAt Go.RowKit Go.Joins
open Go.ChangeMaps (open_string shut_string)

theorem own : ownKnob Try.prog.godebug = none := by kernel_rfl
theorem laidOut : laidOutB Try.prog = true := by kernel_rfl
theorem bytesU64 : Try.prog.bytesOf 47 = 8 := by kernel_rfl

theorem codes_calls (k s i ck cm cl cn f c p : Int) (str : ByteArray) (hs : str.size ≤ maxLen) (code frm cnt : Int) (a : Option Addr) (len cap : Nat) (zs : List Nat) (w : World) (hz : WordsIn w a len cap zs) :
    Calls Try.prog 3 #[.agg #[.int .i64 k, .int .i64 s, .int .i64 i, .int .i64 ck, .int .i64 cm, .int .i64 cl, .int .i64 cn, .int .i64 f, .int .i64 c, .int .i64 p], .string str, .agg #[.int .i64 code, .int .i64 frm, .int .i64 cnt, .slice a len cap]] w
      fun e w' => e = .returned (.bool true) ∧ Below w.heap.size w w' :=
  codes_walk k s i ck cm cl cn f c p str code frm cnt a len cap zs w hz (writePair k s i ck cm cl cn f c p) (readPair str hs)

set_option maxRecDepth 100000 in
theorem codes_lifted (os : Os) (started : os.Started) (H : Type) (enc : TypeId × Value → H) :
    ReturnsInHanded {} Try.checked os 3 .any (Rows.codesSpec.pre6 enc Try.prog Try.f3 Rows.codesRow.domain false) (Rows.codesSpec.post enc Try.prog Try.f3 false true false false) := by
  refine returnsInHanded_of_change_sized (C := Try.checked) own started (by kernel_rfl) Try.func3
    (ChangeSpec.witness6 (enc := enc) (C := Try.checked) false ⟨#[], #[.agg #[.int .i64 0, .int .i64 0, .int .i64 0, .int .i64 0, .int .i64 0, .int .i64 0, .int .i64 0, .int .i64 0, .int .i64 0, .int .i64 0], .string .empty, .agg #[.int .i64 0, .int .i64 0, .int .i64 0, .slice none 0 0]], []⟩ 8 (by kernel_rfl) (by kernel_rfl) (by kernel_rfl) (by kernel_rfl)) ?_
  intro W base args ds gs before hval0 hW hcnd hsz0 _
  have hval : ∀ (j : Nat) t v, Try.f3.params[j]? = some t → args[j]? = some v → Value.okWide Try.prog W .any base t v := hval0
  have hsz : (DataW.weightsEach Try.prog (Try.f3.params.toList ++ Rows.codesSpec.plain.varTypes Try.prog) (ds ++ gs)).all (· ≤ reachBytes) = true := hsz0
  have hW' := hW
  obtain ⟨p, q, hA0, hV, rfl, hfz, hnd⟩ := hW
  have hA : DataW.TrodAll enc Try.prog W 0 (fun _ => true) true Try.f3.params.toList args.toList ds p := hA0
  rw [Try.params3] at hA hval hsz
  obtain ⟨v0, vs0, d0, ds0, p0, q0, hargs, rfl, rfl, h0, r0⟩ := trodAll_cons hA
  obtain ⟨v1, vs1, d1, ds1, p1, q1, rfl, rfl, rfl, h1, r1⟩ := trodAll_cons r0
  obtain ⟨v2, vs2, d2, ds2, p2, q2, rfl, rfl, rfl, h2, r2⟩ := trodAll_cons r1
  obtain ⟨rfl, rfl, rfl⟩ := trodAll_nil r2
  obtain rfl : args = #[v0, v1, v2] := by cases args; simp_all
  obtain ⟨rfl, rfl⟩ := trodVars_none hV
  have k0 := h0
  have k1 := h1
  have k2 := h2
  have lt0 : ∀ x ∈ p0, x.block < W.heap.size := by obtain ⟨m, hm⟩ := k0; exact DataW.trod_lt m _ _ _ hm
  have lt1 : ∀ x ∈ p1, x.block < W.heap.size := by obtain ⟨m, hm⟩ := k1; exact DataW.trod_lt m _ _ _ hm
  have lt2 : ∀ x ∈ p2, x.block < W.heap.size := by obtain ⟨m, hm⟩ := k2; exact DataW.trod_lt m _ _ _ hm
  obtain ⟨cs0, rfl, _⟩ := okWide_struct Try.underlying25 (hval 0 25 v0 rfl rfl)
  obtain ⟨cs2, rfl, _⟩ := okWide_struct Try.underlying29 (hval 2 29 v2 rfl rfl)
  obtain ⟨str, rfl, rfl, rfl, hstr⟩ := open_string Try.underlying9 (hval 1 9 v1 rfl rfl) h1
  obtain ⟨k, s, i, ck, cm, cl, cn, f, c, pp, e0⟩ : ∃ k s i ck cm cl cn f c p : Int, cs0 = #[.int .i64 k, .int .i64 s, .int .i64 i, .int .i64 ck, .int .i64 cm, .int .i64 cl, .int .i64 cn, .int .i64 f, .int .i64 c, .int .i64 p] := by
    obtain ⟨fuel, hf⟩ := h0
    obtain ⟨k, s, i, ck, cm, cl, cn, f, c, p, e⟩ := open_req hf
    exact ⟨k, s, i, ck, cm, cl, cn, f, c, p, Array.ext' e⟩
  obtain ⟨code, frm, cnt, a, len, cap, zs, e2, hz⟩ : ∃ (code frm cnt : Int) (a : Option Addr) (len cap : Nat) (zs : List Nat), cs2 = #[.int .i64 code, .int .i64 frm, .int .i64 cnt, .slice a len cap] ∧ WordsIn W a len cap zs := by
    obtain ⟨fuel, hf⟩ := h2
    obtain ⟨code, frm, cnt, v, n, y, e, hx, hy⟩ := open_reply hf
    obtain ⟨a, len, cap, zs, rfl, hz⟩ := words_in hy (fun elems sp hd => by
      have hx' : d2 = .agg [.lit (.int .i64 code), .lit (.int .i64 frm), .lit (.int .i64 cnt), .slice elems sp] := by rw [← hd]; exact hx
      have hm := List.all_eq_true.1 hsz _ (DataW.weights_mem_each (j := 2) (t := 29) (d := d2) rfl rfl ((elems.length + sp.length) * Try.prog.bytesOf 47) (by
        rw [hx']
        simp [DataW.weights, DataW.weightsEach, Try.underlying29, Try.underlying27]))
      rw [bytesU64] at hm
      have hm2 : (elems.length + sp.length) * 8 ≤ reachBytes := of_decide_eq_true hm
      unfold reachBytes at hm2
      exact hm2)
    exact ⟨code, frm, cnt, a, len, cap, zs, Array.ext' e, hz⟩
  subst e0
  subst e2
  clear hA0 hval0 hsz0 h0 h1 h2
  refine (codes_calls k s i ck cm cl cn f c pp str hstr code frm cnt a len cap zs W hz).mono fun e W' ⟨he, bel⟩ => ?_
  subst he
  exact ⟨_, rfl, _, _, _, [], _, [], hW', trodAll_mk1 (shut_bool Try.underlying4 _), (trodAll_cons_mk (Below.trod laidOut (by kernel_rfl) (of_decide_eq_true (by kernel_rfl)) k0 bel lt0) (trodAll_cons_mk (Below.trod laidOut (by kernel_rfl) (of_decide_eq_true (by kernel_rfl)) k1 bel lt1) (trodAll_cons_mk (Below.trod laidOut (by kernel_rfl) (of_decide_eq_true (by kernel_rfl)) k2 bel lt2) trodAll_mk0))), rfl, bel.frame _, fun h => by cases h⟩

theorem codes_over : Rows.codesRow.holds Try.pinned (OpenSpec.ofChange Rows.codesSpec) :=
  OpenClaim.holds_of_wide 3 Try.f3 rfl rfl rfl rfl rfl rfl rfl ⟨rfl, rfl, rfl, rfl, rfl⟩ rfl rfl rfl rfl rfl (by kernel_rfl) Try.func3 (by kernel_rfl)
    (of_decide_eq_true (by kernel_rfl)) (by unfold Func.isWrapper; first | (rw [if_pos (by decide +kernel)]; kernel_rfl) | (rw [if_neg (by decide +kernel)]; exact ⟨rfl, rfl⟩))
    (fun os started H enc _ => codes_lifted os started H enc)

theorem codes_holds : Rows.CodesSaid := codes_over
#print axioms codes_holds
end Go.Proofs.Ytmnjhhachdlmkaa
