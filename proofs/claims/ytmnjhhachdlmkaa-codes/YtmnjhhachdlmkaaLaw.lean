import Derived.Test.YtmnjhhachdlmkaaTopP
import Derived.Test.YtmnjhhachdlmkaaLeaves
import Derived.Test.YtmnjhhachdlmkaaEqs
import Derived.Test.YtmnjhhachdlmkaaDec
namespace Go.Proofs.Ytmnjhhachdlmkaa
open Go.RowKit

set_option maxRecDepth 100000 in
set_option maxHeartbeats 3200000 in
theorem codes_walk (k s i ck cm cl cn f c p : Int) (str : ByteArray) (code frm cnt : Int) (a : Option Addr) (len cap : Nat) (zs : List Nat) (w : World) (hz : WordsIn w a len cap zs)
    (hW : ∃ (S : ByteArray) (E : Int),
      (∀ w, Calls Try.prog 6 #[.agg #[.int .i64 k, .int .i64 s, .int .i64 i, .int .i64 ck, .int .i64 cm, .int .i64 cl, .int .i64 cn, .int .i64 f, .int .i64 c, .int .i64 p]] w fun e w' => e = .returned (.tuple #[.string S, .int .i64 E]) ∧ Ext w w') ∧
      (∀ w, Calls Try.prog 7 #[.agg #[.int .i64 k, .int .i64 s, .int .i64 i, .int .i64 ck, .int .i64 cm, .int .i64 cl, .int .i64 cn, .int .i64 f, .int .i64 c, .int .i64 p]] w fun e w' => e = .returned (.tuple #[.string S, .int .i64 E]) ∧ Ext w w'))
    (hR : ∃ (k s i ck cm cl cn f c p E : Int),
      (∀ w, Calls Try.prog 8 #[.string str] w fun e w' => e = .returned (.tuple #[.agg #[.int .i64 k, .int .i64 s, .int .i64 i, .int .i64 ck, .int .i64 cm, .int .i64 cl, .int .i64 cn, .int .i64 f, .int .i64 c, .int .i64 p], .int .i64 E]) ∧ Ext w w') ∧
      (∀ w, Calls Try.prog 9 #[.string str] w fun e w' => e = .returned (.tuple #[.agg #[.int .i64 k, .int .i64 s, .int .i64 i, .int .i64 ck, .int .i64 cm, .int .i64 cl, .int .i64 cn, .int .i64 f, .int .i64 c, .int .i64 p], .int .i64 E]) ∧ Ext w w')) :
    Calls Try.prog 3 #[.agg #[.int .i64 k, .int .i64 s, .int .i64 i, .int .i64 ck, .int .i64 cm, .int .i64 cl, .int .i64 cn, .int .i64 f, .int .i64 c, .int .i64 p], .string str, .agg #[.int .i64 code, .int .i64 frm, .int .i64 cnt, .slice a len cap]] w
      fun e w' => e = .returned (.bool true) ∧ Ext w w' := by
  obtain ⟨S, E, hW1, hW2⟩ := hW
  obtain ⟨k', s', i', ck', cm', cl', cn', f', c', p', E', hR1, hR2⟩ := hR
  have W1 : Hid (∀ w, Calls _ _ _ w _) := hW1
  have W2 : Hid (∀ w, Calls _ _ _ w _) := hW2
  have R1 : Hid (∀ w, Calls _ _ _ w _) := hR1
  have R2 : Hid (∀ w, Calls _ _ _ w _) := hR2
  have HZ : Hid (WordsIn w a len cap zs) := hz
  have heq := eqReq
  clear hW1 hW2 hR1 hR2 hz
  go_enter Try.func3, Try.ntmps3
  go_wp2_with fail
  refine (W1.out _).mono ?_
  rintro e w1 ⟨rfl, hx1⟩
  have X1 : Ext w w1 := ((Ext.refl w).alloc _ |>.alloc _).trans hx1
  have A1 : w1.heap[w.heap.size]? = some (.cells #[.int .i64 k, .int .i64 s, .int .i64 i, .int .i64 ck, .int .i64 cm, .int .i64 cl, .int .i64 cn, .int .i64 f, .int .i64 c, .int .i64 p] 25 (0, 0)) := hx1.block (at_old (at_new rfl))
  have B1 : w1.heap[w.heap.size + 1]? = some (.cells #[.int .i64 code, .int .i64 frm, .int .i64 cnt, .slice a len cap] 29 (0, 0)) := hx1.block (at_new (by simp))
  obtain ⟨la, ca0, ca1, ca2, ca3, ca4, ca5, ca6, ca7, ca8, ca9, _⟩ := req_all A1
  have HA1 : Hid _ := A1
  have HB1 : Hid _ := B1
  clear A1 B1 hx1
  go_wp2_with fail
  refine (W2.out _).mono ?_
  rintro e w2 ⟨rfl, hx2⟩
  have X2 := X1.trans hx2
  have HB2 : Hid (w2.heap[w.heap.size + 1]? = some (.cells #[.int .i64 code, .int .i64 frm, .int .i64 cnt, .slice a len cap] 29 (0, 0))) := hx2.block (by exact HB1.out)
  clear la ca0 ca1 ca2 ca3 ca4 ca5 ca6 ca7 ca8 ca9 hx2
  go_wp2_with fail
  refine (R1.out _).mono ?_
  rintro e w3 ⟨rfl, hx3⟩
  have X3 := X2.trans hx3
  have HB3 : Hid (w3.heap[w.heap.size + 1]? = some (.cells #[.int .i64 code, .int .i64 frm, .int .i64 cnt, .slice a len cap] 29 (0, 0))) := hx3.block (by exact HB2.out)
  clear hx3
  go_wp2_with fail
  refine (R2.out _).mono ?_
  rintro e w4 ⟨rfl, hx4⟩
  have X4 := X3.trans (((Ext.refl w3).alloc _).trans hx4)
  have HB4 : Hid (w4.heap[w.heap.size + 1]? = some (.cells #[.int .i64 code, .int .i64 frm, .int .i64 cnt, .slice a len cap] 29 (0, 0))) := hx4.block (at_old (by exact HB3.out))
  have HC4 : Hid (w4.heap[w3.heap.size]? = some (.cells #[.int .i64 k', .int .i64 s', .int .i64 i', .int .i64 ck', .int .i64 cm', .int .i64 cl', .int .i64 cn', .int .i64 f', .int .i64 c', .int .i64 p'] 25 (0, 0))) := hx4.block (at_new rfl)
  obtain ⟨q0, q1, q2, q3, q4⟩ := reply_cells HB4.out
  clear hx4
  go_wp2_with fail
  refine (dealerPrint_c code frm cnt a len cap zs _ (HZ.out.ext (X4.alloc _))).mono ?_
  rintro e w5 ⟨rfl, hx5⟩
  have X5 := (X4.alloc (.cells #[.int .i64 k', .int .i64 s', .int .i64 i', .int .i64 ck', .int .i64 cm', .int .i64 cl', .int .i64 cn', .int .i64 f', .int .i64 c', .int .i64 p'] 25)).trans hx5
  have HB5 : Hid (w5.heap[w.heap.size + 1]? = some (.cells #[.int .i64 code, .int .i64 frm, .int .i64 cnt, .slice a len cap] 29 (0, 0))) := hx5.block (at_old (by exact HB4.out))
  have HC5 : Hid (w5.heap[w3.heap.size]? = some (.cells #[.int .i64 k', .int .i64 s', .int .i64 i', .int .i64 ck', .int .i64 cm', .int .i64 cl', .int .i64 cn', .int .i64 f', .int .i64 c', .int .i64 p'] 25 (0, 0))) := hx5.block (at_old (by exact HC4.out))
  have HD5 : Hid (w5.heap[w4.heap.size]? = some (.cells #[.int .i64 k', .int .i64 s', .int .i64 i', .int .i64 ck', .int .i64 cm', .int .i64 cl', .int .i64 cn', .int .i64 f', .int .i64 c', .int .i64 p'] 25 (0, 0))) := hx5.block (at_new rfl)
  clear q0 q1 q2 q3 q4 hx5
  obtain ⟨q0, q1, q2, q3, q4⟩ := reply_cells HB5.out
  go_wp2_with fail
  refine (refPrint_c code frm cnt a len cap zs _ (HZ.out.ext X5)).mono ?_
  rintro e w6 ⟨rfl, hx6⟩
  have X6 := X5.trans hx6
  obtain ⟨lc, cc0, cc1, cc2, cc3, cc4, cc5, cc6, cc7, cc8, cc9, _⟩ := req_all (hx6.block (by exact HC5.out))
  obtain ⟨ld, cd0, cd1, cd2, cd3, cd4, cd5, cd6, cd7, cd8, cd9, _⟩ := req_all (hx6.block (by exact HD5.out))
  clear q0 q1 q2 q3 q4 hx6
  generalize (⟨(headB code frm cnt zs).toArray⟩ : ByteArray) = PB at *
  go_wp2_with (go_at_call 12; refine (num_c _ _).mono ?_; rintro e w7 ⟨rfl, rfl⟩)
  go_ret
  exact ⟨ret_bool (by simp), X6⟩
end Go.Proofs.Ytmnjhhachdlmkaa
