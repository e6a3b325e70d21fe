import Derived.BigGuardPart
import Derived.Test.YtmnjhhachdlmkaaGreatK01
import Derived.Test.YtmnjhhachdlmkaaGreatK02
import Derived.Test.YtmnjhhachdlmkaaGreatK16
namespace Go.Proofs.YtmnjhhachdlmkaaGreat
open List renaming getElem_toArray -> lA, getElem_cons_succ -> lB, getElem_cons_zero -> lC, setIfInBounds_toArray -> lD, set_cons_zero -> lE, set_cons_succ -> lF
open World renaming block_lt_of_cell? -> lG
-- Right
section
set_option maxRecDepth 100000
set_option maxHeartbeats 1600000
open Go.RowKit
/-- All its numbers are such as may be. -/
def inB (s i ck cm cl cn f c p : Int) (z : Bool) : Bool := isNum s && (isNum i && (isNum f && (isNum c && (isByt p && (isByt ck && (isByt cm && (isByt cl && (isByt cn && z))))))))
theorem uses_1 (w : World) : Calls Tryz.prog 151 #[.int .i64 1] w fun e w' => e = .returned (.string ⟨#[83, 73, 75, 67]⟩) /\ w = w' := uses_c 1 w
theorem right_1 (s i ck cm cl cn f c p : Int) (w : World) :
  Calls Tryz.prog 153 #[.agg #[.int .i64 1, .int .i64 s, .int .i64 i, .int .i64 ck, .int .i64 cm, .int .i64 cl, .int .i64 cn, .int .i64 f, .int .i64 c, .int .i64 p]] w fun e w' =>
   e = .returned (.bool (inB s i ck cm cl cn f c p (f == 0 && p == 0))) /\ Ext w w' := by
 have heq := eqReq
 go_enter Tryz.func153, Tryz.ntmps153
 go_wp2_with (go_at_call 151; refine (uses_1 _).mono ?_; rintro e w1 ⟨rfl, rfl⟩)
 refine wp_loop_rounds 5 ?_
 rw [rounds_succ]
 go_wp2
 rw [rounds_succ]
 go_wp2
 rw [rounds_succ]
 go_wp2
 rw [rounds_succ]
 go_wp2
 rw [rounds_succ]
 go_wp2_with (first
  | (go_at_call 181; refine (isNumber_c _ _).mono ?_; rintro e w1 ⟨rfl, rfl⟩)
  | (go_at_call 182; refine (isByte_c _ _).mono ?_; rintro e w1 ⟨rfl, rfl⟩))
 all_goals go_ret
 all_goals refine ⟨ret_bool ?_, ((Ext.refl _).alloc _).alloc _⟩
 all_goals simp [inB, *]
theorem uses_2 (w : World) : Calls Tryz.prog 151 #[.int .i64 2] w fun e w' => e = .returned (.string ⟨#[83, 75, 70, 67, 80]⟩) /\ w = w' := uses_c 2 w
theorem right_2 (s i ck cm cl cn f c p : Int) (w : World) :
  Calls Tryz.prog 153 #[.agg #[.int .i64 2, .int .i64 s, .int .i64 i, .int .i64 ck, .int .i64 cm, .int .i64 cl, .int .i64 cn, .int .i64 f, .int .i64 c, .int .i64 p]] w fun e w' =>
   e = .returned (.bool (inB s i ck cm cl cn f c p (i == 0))) /\ Ext w w' := by
 have heq := eqReq
 go_enter Tryz.func153, Tryz.ntmps153
 go_wp2_with (go_at_call 151; refine (uses_2 _).mono ?_; rintro e w1 ⟨rfl, rfl⟩)
 refine wp_loop_rounds 6 ?_
 rw [rounds_succ]
 go_wp2
 rw [rounds_succ]
 go_wp2
 rw [rounds_succ]
 go_wp2
 rw [rounds_succ]
 go_wp2
 rw [rounds_succ]
 go_wp2
 rw [rounds_succ]
 go_wp2_with (first
  | (go_at_call 181; refine (isNumber_c _ _).mono ?_; rintro e w1 ⟨rfl, rfl⟩)
  | (go_at_call 182; refine (isByte_c _ _).mono ?_; rintro e w1 ⟨rfl, rfl⟩))
 all_goals go_ret
 all_goals refine ⟨ret_bool ?_, ((Ext.refl _).alloc _).alloc _⟩
 all_goals simp [inB, *]
theorem uses_3 (w : World) : Calls Tryz.prog 151 #[.int .i64 3] w fun e w' => e = .returned (.string ⟨#[83, 73]⟩) /\ w = w' := uses_c 3 w
theorem right_3 (s i ck cm cl cn f c p : Int) (w : World) :
  Calls Tryz.prog 153 #[.agg #[.int .i64 3, .int .i64 s, .int .i64 i, .int .i64 ck, .int .i64 cm, .int .i64 cl, .int .i64 cn, .int .i64 f, .int .i64 c, .int .i64 p]] w fun e w' =>
   e = .returned (.bool (inB s i ck cm cl cn f c p ((ck == 0 && (cm == 0 && (cl == 0 && cn == 0))) && (f == 0 && (c == 0 && p == 0))))) /\ Ext w w' := by
 have heq := eqReq
 go_enter Tryz.func153, Tryz.ntmps153
 go_wp2_with (go_at_call 151; refine (uses_3 _).mono ?_; rintro e w1 ⟨rfl, rfl⟩)
 refine wp_loop_rounds 3 ?_
 rw [rounds_succ]
 go_wp2
 rw [rounds_succ]
 go_wp2
 rw [rounds_succ]
 go_wp2_with (first
  | (go_at_call 181; refine (isNumber_c _ _).mono ?_; rintro e w1 ⟨rfl, rfl⟩)
  | (go_at_call 182; refine (isByte_c _ _).mono ?_; rintro e w1 ⟨rfl, rfl⟩))
 all_goals go_ret
 all_goals refine ⟨ret_bool ?_, ((Ext.refl _).alloc _).alloc _⟩
 all_goals simp [inB, *]
theorem uses_4 (w : World) : Calls Tryz.prog 151 #[.int .i64 4] w fun e w' => e = .returned (.string ⟨#[75]⟩) /\ w = w' := uses_c 4 w
theorem right_4 (s i ck cm cl cn f c p : Int) (w : World) :
  Calls Tryz.prog 153 #[.agg #[.int .i64 4, .int .i64 s, .int .i64 i, .int .i64 ck, .int .i64 cm, .int .i64 cl, .int .i64 cn, .int .i64 f, .int .i64 c, .int .i64 p]] w fun e w' =>
   e = .returned (.bool (inB s i ck cm cl cn f c p (s == 0 && (i == 0 && (f == 0 && (c == 0 && p == 0)))))) /\ Ext w w' := by
 have heq := eqReq
 go_enter Tryz.func153, Tryz.ntmps153
 go_wp2_with (go_at_call 151; refine (uses_4 _).mono ?_; rintro e w1 ⟨rfl, rfl⟩)
 refine wp_loop_rounds 2 ?_
 rw [rounds_succ]
 go_wp2
 rw [rounds_succ]
 go_wp2_with (first
  | (go_at_call 181; refine (isNumber_c _ _).mono ?_; rintro e w1 ⟨rfl, rfl⟩)
  | (go_at_call 182; refine (isByte_c _ _).mono ?_; rintro e w1 ⟨rfl, rfl⟩))
 all_goals go_ret
 all_goals refine ⟨ret_bool ?_, ((Ext.refl _).alloc _).alloc _⟩
 all_goals simp [inB, *]
theorem right_no (k s i ck cm cl cn f c p : Int) (h : usesOf k = ⟨#[]⟩) (w : World) :
  Calls Tryz.prog 153 #[.agg #[.int .i64 k, .int .i64 s, .int .i64 i, .int .i64 ck, .int .i64 cm, .int .i64 cl, .int .i64 cn, .int .i64 f, .int .i64 c, .int .i64 p]] w fun e w' =>
   e = .returned (.bool false) /\ Ext w w' := by
 have HU : Hid (usesOf k = ⟨#[]⟩) := h
 clear h
 go_enter Tryz.func153, Tryz.ntmps153
 go_wp2_with (go_at_call 151; refine (uses_c k _).mono ?_; rw [HU.out]; rintro e w1 ⟨rfl, rfl⟩)
 go_ret
 exact ⟨rfl, ((Ext.refl _).alloc _).alloc _⟩
end
-- HAk
section
set_option maxRecDepth 100000
set_option maxHeartbeats 1600000
open Go.RowKit Go.Maps
/-- An answer to a request, and what there is behind it (none: as it was). -/
structure Ans where
 c : Int
 f : Int
 n : Int
 zs : List Int
 next : Option (List Stk × List LsV)
/-- The reference's answer, as it lies. -/
structure RefSo (G : Nat -> Prop) (A : Ans) (w w' : World) (pv v : Value) : Prop where
 row : w'.ownsRow w.heap.size 146 1 v A.zs.length (A.zs.map (Value.int .u64))
 ext : Ext w w'
 next : (A.next = none /\ pv = .pointer none) \/ ∃ S' ls' q, A.next = some (S', ls') /\ pv = .pointer (some ⟨q, 0, none⟩) /\ RefAt w' (grow G w w') q S' ls'
theorem RefAt.mono {G G' : Nat -> Prop} {w : World} {p : Nat} {S : List Stk} {ls : List LsV} (h : RefAt w G p S ls) (hg : ∀ b, G b -> G' b) : RefAt w G' p S ls := by
 obtain ⟨stv, lsv, css, h1, h2, h3, h4, h5, h6⟩ := h
 exact ⟨stv, lsv, css, h1, hg _ h2, h3.mono hg, h4, fun i hi => let ⟨cs, k1, k2⟩ := h5 i hi; ⟨cs, k1, k2.mono hg⟩, h6.mono hg⟩
theorem RefSo.step {G : Nat -> Prop} {A : Ans} {w w1 w2 : World} {pv v : Value} (h : RefSo G A w1 w2 pv v) (hx : Ext w w1) (hG : ∀ b, G b -> b < w.heap.size) {g : Nat} (hg : w.heap.size <= g) (hg1 : g < w1.heap.size) (a b c d : Value) : RefSo G A w ((((w2.setCell ⟨g, 0, none⟩ a).setCell ⟨g, 1, none⟩ b).setCell ⟨g, 2, none⟩ c).setCell ⟨g, 3, none⟩ d) pv v := by
 obtain ⟨h1, h2, h3⟩ := h
 have ht := set4' (g := g) (Ext.refl w2) a b c d
 refine ⟨owns_base (ht.owns h1 (fun q hq e => by have := (World.ownsRow.lt h1 q hq).1; omega)) hx.le, ext4 (hx.trans h2) hg a b c d, ?_⟩
 rcases h3 with h3 | ⟨S', ls', q, hn, e, hr⟩
 ·exact .inl h3
 ·refine .inr ⟨S', ls', q, hn, e, (hr.turn ht (fun b hb e => ?_)).mono (fun b hb => ?_)⟩
  ·rcases hb with hb | hb
   ·have := hG b hb; omega
   ·omega
  ·rcases hb with hb | hb
   ·exact .inl hb
   ·exact .inr ⟨Nat.le_trans hx.le hb.1, Nat.lt_of_lt_of_le hb.2 ht.size⟩
def Ans.code (c : Int) : Ans := ⟨c, 0, 0, [], none⟩
theorem refSo_code (G : Nat -> Prop) (c : Int) {w w' : World} (hx : Ext w w') : RefSo G (.code c) w w' (.pointer none) (.slice none 0 0) := ⟨World.ownsRow_nil _ _ _ _, hx, .inl ⟨rfl, rfl⟩⟩
theorem askedBad_c {G : Nat -> Prop} (p : Nat) (kk s i kd m k n f c pp : Int) (hR : ∀ w', Calls Tryz.prog 153 #[reqV kk s i kd m k n f c pp] w' fun e w'' => e = .returned (.bool false) /\ Ext w' w'') (w : World) (hG : ∀ b, G b -> b < w.heap.size) :
  Calls Tryz.prog 149 #[.pointer (some ⟨p, 0, none⟩), reqV kk s i kd m k n f c pp] w fun e w' => ∃ pv v, e = .returned (.tuple #[pv, replyV 1 0 0 v]) /\ RefSo G (.code 1) w w' pv v := by
 have HRt : Hid (∀ w', _) := hR
 have HCo : Hid (∀ w', _) := fun w' => refCode_c 1 w'
 have HG : Hid (∀ b, G b -> b < w.heap.size) := hG
 clear hR hG
 unfold replyV at *
 unfold reqV at *
 go_enter Tryz.func149, Tryz.ntmps149
 go_wp2_with fail
 have hres0 : ((w.alloc (.cells #[.int .i64 kk, .int .i64 s, .int .i64 i, .int .i64 kd, .int .i64 m, .int .i64 k, .int .i64 n, .int .i64 f, .int .i64 c, .int .i64 pp] 51)).alloc (.cells #[.int .i64 0, .int .i64 0, .int .i64 0, .slice none 0 0] 33)).heap[w.heap.size + 1]? = some (.cells #[.int .i64 0, .int .i64 0, .int .i64 0, .slice none 0 0] 33 (0, 0)) := at_new (by simp)
 have hreq0 : ((w.alloc (.cells #[.int .i64 kk, .int .i64 s, .int .i64 i, .int .i64 kd, .int .i64 m, .int .i64 k, .int .i64 n, .int .i64 f, .int .i64 c, .int .i64 pp] 51)).alloc (.cells #[.int .i64 0, .int .i64 0, .int .i64 0, .slice none 0 0] 33)).heap[w.heap.size]? = some (.cells #[.int .i64 kk, .int .i64 s, .int .i64 i, .int .i64 kd, .int .i64 m, .int .i64 k, .int .i64 n, .int .i64 f, .int .i64 c, .int .i64 pp] 51 (0, 0)) := at_old (heap_alloc_new _ _)
 have hXW : Ext w ((w.alloc (.cells #[.int .i64 kk, .int .i64 s, .int .i64 i, .int .i64 kd, .int .i64 m, .int .i64 k, .int .i64 n, .int .i64 f, .int .i64 c, .int .i64 pp] 51)).alloc (.cells #[.int .i64 0, .int .i64 0, .int .i64 0, .slice none 0 0] 33)) := ((Ext.refl w).alloc _).alloc _
 generalize World.alloc (World.alloc w _) _ = W at hres0 hreq0 hXW ⊢
 have r0 : W.cell? ⟨w.heap.size, 0, none⟩ = some (.int .i64 kk) := cell_at hreq0 rfl
 have r1 : W.cell? ⟨w.heap.size, 1, none⟩ = some (.int .i64 s) := cell_at hreq0 rfl
 have r2 : W.cell? ⟨w.heap.size, 2, none⟩ = some (.int .i64 i) := cell_at hreq0 rfl
 have r3 : W.cell? ⟨w.heap.size, 3, none⟩ = some (.int .i64 kd) := cell_at hreq0 rfl
 have r4 : W.cell? ⟨w.heap.size, 4, none⟩ = some (.int .i64 m) := cell_at hreq0 rfl
 have r5 : W.cell? ⟨w.heap.size, 5, none⟩ = some (.int .i64 k) := cell_at hreq0 rfl
 have r6 : W.cell? ⟨w.heap.size, 6, none⟩ = some (.int .i64 n) := cell_at hreq0 rfl
 have r7 : W.cell? ⟨w.heap.size, 7, none⟩ = some (.int .i64 f) := cell_at hreq0 rfl
 have r8 : W.cell? ⟨w.heap.size, 8, none⟩ = some (.int .i64 c) := cell_at hreq0 rfl
 have r9 : W.cell? ⟨w.heap.size, 9, none⟩ = some (.int .i64 pp) := cell_at hreq0 rfl
 have hrl0 := lG W _ r0
 go_wp2_with fail
 refine (HRt.out W).mono ?_
 rintro e w1 ⟨rfl, hx1⟩
 have HX1 : Hid (Ext w w1) := hXW.trans hx1
 have HRS : Hid _ := hx1.block hres0
 have HRQ : Hid _ := hx1.block hreq0
 clear hx1 hXW hres0 hreq0 r0 r1 r2 r3 r4 r5 r6 r7 r8 r9
 have r0 : w1.cell? ⟨w.heap.size, 0, none⟩ = some (.int .i64 kk) := cell_at HRQ.out rfl
 have r1 : w1.cell? ⟨w.heap.size, 1, none⟩ = some (.int .i64 s) := cell_at HRQ.out rfl
 have r2 : w1.cell? ⟨w.heap.size, 2, none⟩ = some (.int .i64 i) := cell_at HRQ.out rfl
 have r3 : w1.cell? ⟨w.heap.size, 3, none⟩ = some (.int .i64 kd) := cell_at HRQ.out rfl
 have r4 : w1.cell? ⟨w.heap.size, 4, none⟩ = some (.int .i64 m) := cell_at HRQ.out rfl
 have r5 : w1.cell? ⟨w.heap.size, 5, none⟩ = some (.int .i64 k) := cell_at HRQ.out rfl
 have r6 : w1.cell? ⟨w.heap.size, 6, none⟩ = some (.int .i64 n) := cell_at HRQ.out rfl
 have r7 : w1.cell? ⟨w.heap.size, 7, none⟩ = some (.int .i64 f) := cell_at HRQ.out rfl
 have r8 : w1.cell? ⟨w.heap.size, 8, none⟩ = some (.int .i64 c) := cell_at HRQ.out rfl
 have r9 : w1.cell? ⟨w.heap.size, 9, none⟩ = some (.int .i64 pp) := cell_at HRQ.out rfl
 have hrl := lG w1 _ r0
 have hrl1 : w.heap.size + 1 < w1.heap.size := (Array.getElem?_eq_some_iff.1 HRS.out).1
 go_wp2_with fail
 refine (HCo.out _).mono ?_
 rintro e w9 ⟨rfl, hx9⟩
 have hr9 := hx9.block HRS.out
 have o0 := cell_at hr9 (i := 0) rfl
 have f0 := frozen_row hr9 0
 have o1 := cell_at hr9 (i := 1) rfl
 have f1 := frozen_row hr9 1
 have o2 := cell_at hr9 (i := 2) rfl
 have f2 := frozen_row hr9 2
 have o3 := cell_at hr9 (i := 3) rfl
 have f3 := frozen_row hr9 3
 have HX9 : Hid (Ext w1 w9) := hx9
 clear hr9 hx9
 go_wp2
 refine bodyPost_ret (v := .tuple #[.pointer none, .agg #[.int .i64 1, .int .i64 0, .int .i64 0, .slice none 0 0]]) (by simp [results, Tryz.results149, go_sem, o0, o1, o2, o3]) rfl ?_
 exact ⟨_, _, rfl, (refSo_code G 1 HX9.out).step HX1.out HG.out (by omega) hrl1 _ _ _ _⟩
theorem askedLease_c {G : Nat -> Prop} (A : Ans) (p : Nat) (kk s i kd m k n f c pp : Int) (hkk : kk = 1) (hR : ∀ w', Calls Tryz.prog 153 #[reqV kk s i kd m k n f c pp] w' fun e w'' => e = .returned (.bool true) /\ Ext w' w'') (w : World) (hG : ∀ b, G b -> b < w.heap.size)
  (hin : ∀ w', Ext w w' -> Calls Tryz.prog 177 #[.pointer (some ⟨p, 0, none⟩), reqV kk s i kd m k n f c pp] w' fun e w'' => ∃ pa va vl vc, e = .returned (.tuple #[.pointer pa, replyV A.c A.f A.n (.slice va vl vc)]) /\ RefSo G A w' w'' (.pointer pa) (.slice va vl vc)) :
  Calls Tryz.prog 149 #[.pointer (some ⟨p, 0, none⟩), reqV kk s i kd m k n f c pp] w fun e w' => ∃ pv v, e = .returned (.tuple #[pv, replyV A.c A.f A.n v]) /\ RefSo G A w w' pv v := by
 have HRt : Hid (∀ w', _) := hR
 have HC : Hid (∀ w', Ext w w' -> _) := hin
 have HG : Hid (∀ b, G b -> b < w.heap.size) := hG
 clear hR hG hin
 have hk1 : (kk == 1) = true := by rw [hkk]; rfl
 have hk2 : (kk == 2) = false := by rw [hkk]; rfl
 have hk3 : (kk == 3) = false := by rw [hkk]; rfl
 clear hkk
 unfold replyV at *
 unfold reqV at *
 go_enter Tryz.func149, Tryz.ntmps149
 go_wp2_with fail
 have hres0 : ((w.alloc (.cells #[.int .i64 kk, .int .i64 s, .int .i64 i, .int .i64 kd, .int .i64 m, .int .i64 k, .int .i64 n, .int .i64 f, .int .i64 c, .int .i64 pp] 51)).alloc (.cells #[.int .i64 0, .int .i64 0, .int .i64 0, .slice none 0 0] 33)).heap[w.heap.size + 1]? = some (.cells #[.int .i64 0, .int .i64 0, .int .i64 0, .slice none 0 0] 33 (0, 0)) := at_new (by simp)
 have hreq0 : ((w.alloc (.cells #[.int .i64 kk, .int .i64 s, .int .i64 i, .int .i64 kd, .int .i64 m, .int .i64 k, .int .i64 n, .int .i64 f, .int .i64 c, .int .i64 pp] 51)).alloc (.cells #[.int .i64 0, .int .i64 0, .int .i64 0, .slice none 0 0] 33)).heap[w.heap.size]? = some (.cells #[.int .i64 kk, .int .i64 s, .int .i64 i, .int .i64 kd, .int .i64 m, .int .i64 k, .int .i64 n, .int .i64 f, .int .i64 c, .int .i64 pp] 51 (0, 0)) := at_old (heap_alloc_new _ _)
 have hXW : Ext w ((w.alloc (.cells #[.int .i64 kk, .int .i64 s, .int .i64 i, .int .i64 kd, .int .i64 m, .int .i64 k, .int .i64 n, .int .i64 f, .int .i64 c, .int .i64 pp] 51)).alloc (.cells #[.int .i64 0, .int .i64 0, .int .i64 0, .slice none 0 0] 33)) := ((Ext.refl w).alloc _).alloc _
 generalize World.alloc (World.alloc w _) _ = W at hres0 hreq0 hXW ⊢
 have r0 : W.cell? ⟨w.heap.size, 0, none⟩ = some (.int .i64 kk) := cell_at hreq0 rfl
 have r1 : W.cell? ⟨w.heap.size, 1, none⟩ = some (.int .i64 s) := cell_at hreq0 rfl
 have r2 : W.cell? ⟨w.heap.size, 2, none⟩ = some (.int .i64 i) := cell_at hreq0 rfl
 have r3 : W.cell? ⟨w.heap.size, 3, none⟩ = some (.int .i64 kd) := cell_at hreq0 rfl
 have r4 : W.cell? ⟨w.heap.size, 4, none⟩ = some (.int .i64 m) := cell_at hreq0 rfl
 have r5 : W.cell? ⟨w.heap.size, 5, none⟩ = some (.int .i64 k) := cell_at hreq0 rfl
 have r6 : W.cell? ⟨w.heap.size, 6, none⟩ = some (.int .i64 n) := cell_at hreq0 rfl
 have r7 : W.cell? ⟨w.heap.size, 7, none⟩ = some (.int .i64 f) := cell_at hreq0 rfl
 have r8 : W.cell? ⟨w.heap.size, 8, none⟩ = some (.int .i64 c) := cell_at hreq0 rfl
 have r9 : W.cell? ⟨w.heap.size, 9, none⟩ = some (.int .i64 pp) := cell_at hreq0 rfl
 have hrl0 := lG W _ r0
 go_wp2_with fail
 refine (HRt.out W).mono ?_
 rintro e w1 ⟨rfl, hx1⟩
 have HX1 : Hid (Ext w w1) := hXW.trans hx1
 have HRS : Hid _ := hx1.block hres0
 have HRQ : Hid _ := hx1.block hreq0
 clear hx1 hXW hres0 hreq0 r0 r1 r2 r3 r4 r5 r6 r7 r8 r9
 have r0 : w1.cell? ⟨w.heap.size, 0, none⟩ = some (.int .i64 kk) := cell_at HRQ.out rfl
 have r1 : w1.cell? ⟨w.heap.size, 1, none⟩ = some (.int .i64 s) := cell_at HRQ.out rfl
 have r2 : w1.cell? ⟨w.heap.size, 2, none⟩ = some (.int .i64 i) := cell_at HRQ.out rfl
 have r3 : w1.cell? ⟨w.heap.size, 3, none⟩ = some (.int .i64 kd) := cell_at HRQ.out rfl
 have r4 : w1.cell? ⟨w.heap.size, 4, none⟩ = some (.int .i64 m) := cell_at HRQ.out rfl
 have r5 : w1.cell? ⟨w.heap.size, 5, none⟩ = some (.int .i64 k) := cell_at HRQ.out rfl
 have r6 : w1.cell? ⟨w.heap.size, 6, none⟩ = some (.int .i64 n) := cell_at HRQ.out rfl
 have r7 : w1.cell? ⟨w.heap.size, 7, none⟩ = some (.int .i64 f) := cell_at HRQ.out rfl
 have r8 : w1.cell? ⟨w.heap.size, 8, none⟩ = some (.int .i64 c) := cell_at HRQ.out rfl
 have r9 : w1.cell? ⟨w.heap.size, 9, none⟩ = some (.int .i64 pp) := cell_at HRQ.out rfl
 have hrl := lG w1 _ r0
 have hrl1 : w.heap.size + 1 < w1.heap.size := (Array.getElem?_eq_some_iff.1 HRS.out).1
 go_wp2_with fail
 refine (HC.out _ HX1.out).mono ?_
 rintro e w9 ⟨pa, va, vl, vc, rfl, hso⟩
 have hr9 := hso.ext.block HRS.out
 have o0 := cell_at hr9 (i := 0) rfl
 have f0 := frozen_row hr9 0
 have o1 := cell_at hr9 (i := 1) rfl
 have f1 := frozen_row hr9 1
 have o2 := cell_at hr9 (i := 2) rfl
 have f2 := frozen_row hr9 2
 have o3 := cell_at hr9 (i := 3) rfl
 have f3 := frozen_row hr9 3
 have HSO : Hid _ := hso
 clear hr9 hso
 go_wp2
 refine bodyPost_ret (v := .tuple #[.pointer pa, .agg #[.int .i64 A.c, .int .i64 A.f, .int .i64 A.n, .slice va vl vc]]) (by simp [results, Tryz.results149, go_sem, o0, o1, o2, o3]) rfl ?_
 exact ⟨_, _, rfl, HSO.out.step HX1.out HG.out (by omega) hrl1 _ _ _ _⟩
theorem askedRelease_c {G : Nat -> Prop} (A : Ans) (p : Nat) (kk s i kd m k n f c pp : Int) (hkk : kk = 3) (hR : ∀ w', Calls Tryz.prog 153 #[reqV kk s i kd m k n f c pp] w' fun e w'' => e = .returned (.bool true) /\ Ext w' w'') (w : World) (hG : ∀ b, G b -> b < w.heap.size)
  (hin : ∀ w', Ext w w' -> Calls Tryz.prog 179 #[.pointer (some ⟨p, 0, none⟩), reqV kk s i kd m k n f c pp] w' fun e w'' => ∃ pa va vl vc, e = .returned (.tuple #[.pointer pa, replyV A.c A.f A.n (.slice va vl vc)]) /\ RefSo G A w' w'' (.pointer pa) (.slice va vl vc)) :
  Calls Tryz.prog 149 #[.pointer (some ⟨p, 0, none⟩), reqV kk s i kd m k n f c pp] w fun e w' => ∃ pv v, e = .returned (.tuple #[pv, replyV A.c A.f A.n v]) /\ RefSo G A w w' pv v := by
 have HRt : Hid (∀ w', _) := hR
 have HC : Hid (∀ w', Ext w w' -> _) := hin
 have HG : Hid (∀ b, G b -> b < w.heap.size) := hG
 clear hR hG hin
 have hk1 : (kk == 1) = false := by rw [hkk]; rfl
 have hk2 : (kk == 2) = false := by rw [hkk]; rfl
 have hk3 : (kk == 3) = true := by rw [hkk]; rfl
 clear hkk
 unfold replyV at *
 unfold reqV at *
 go_enter Tryz.func149, Tryz.ntmps149
 go_wp2_with fail
 have hres0 : ((w.alloc (.cells #[.int .i64 kk, .int .i64 s, .int .i64 i, .int .i64 kd, .int .i64 m, .int .i64 k, .int .i64 n, .int .i64 f, .int .i64 c, .int .i64 pp] 51)).alloc (.cells #[.int .i64 0, .int .i64 0, .int .i64 0, .slice none 0 0] 33)).heap[w.heap.size + 1]? = some (.cells #[.int .i64 0, .int .i64 0, .int .i64 0, .slice none 0 0] 33 (0, 0)) := at_new (by simp)
 have hreq0 : ((w.alloc (.cells #[.int .i64 kk, .int .i64 s, .int .i64 i, .int .i64 kd, .int .i64 m, .int .i64 k, .int .i64 n, .int .i64 f, .int .i64 c, .int .i64 pp] 51)).alloc (.cells #[.int .i64 0, .int .i64 0, .int .i64 0, .slice none 0 0] 33)).heap[w.heap.size]? = some (.cells #[.int .i64 kk, .int .i64 s, .int .i64 i, .int .i64 kd, .int .i64 m, .int .i64 k, .int .i64 n, .int .i64 f, .int .i64 c, .int .i64 pp] 51 (0, 0)) := at_old (heap_alloc_new _ _)
 have hXW : Ext w ((w.alloc (.cells #[.int .i64 kk, .int .i64 s, .int .i64 i, .int .i64 kd, .int .i64 m, .int .i64 k, .int .i64 n, .int .i64 f, .int .i64 c, .int .i64 pp] 51)).alloc (.cells #[.int .i64 0, .int .i64 0, .int .i64 0, .slice none 0 0] 33)) := ((Ext.refl w).alloc _).alloc _
 generalize World.alloc (World.alloc w _) _ = W at hres0 hreq0 hXW ⊢
 have r0 : W.cell? ⟨w.heap.size, 0, none⟩ = some (.int .i64 kk) := cell_at hreq0 rfl
 have r1 : W.cell? ⟨w.heap.size, 1, none⟩ = some (.int .i64 s) := cell_at hreq0 rfl
 have r2 : W.cell? ⟨w.heap.size, 2, none⟩ = some (.int .i64 i) := cell_at hreq0 rfl
 have r3 : W.cell? ⟨w.heap.size, 3, none⟩ = some (.int .i64 kd) := cell_at hreq0 rfl
 have r4 : W.cell? ⟨w.heap.size, 4, none⟩ = some (.int .i64 m) := cell_at hreq0 rfl
 have r5 : W.cell? ⟨w.heap.size, 5, none⟩ = some (.int .i64 k) := cell_at hreq0 rfl
 have r6 : W.cell? ⟨w.heap.size, 6, none⟩ = some (.int .i64 n) := cell_at hreq0 rfl
 have r7 : W.cell? ⟨w.heap.size, 7, none⟩ = some (.int .i64 f) := cell_at hreq0 rfl
 have r8 : W.cell? ⟨w.heap.size, 8, none⟩ = some (.int .i64 c) := cell_at hreq0 rfl
 have r9 : W.cell? ⟨w.heap.size, 9, none⟩ = some (.int .i64 pp) := cell_at hreq0 rfl
 have hrl0 := lG W _ r0
 go_wp2_with fail
 refine (HRt.out W).mono ?_
 rintro e w1 ⟨rfl, hx1⟩
 have HX1 : Hid (Ext w w1) := hXW.trans hx1
 have HRS : Hid _ := hx1.block hres0
 have HRQ : Hid _ := hx1.block hreq0
 clear hx1 hXW hres0 hreq0 r0 r1 r2 r3 r4 r5 r6 r7 r8 r9
 have r0 : w1.cell? ⟨w.heap.size, 0, none⟩ = some (.int .i64 kk) := cell_at HRQ.out rfl
 have r1 : w1.cell? ⟨w.heap.size, 1, none⟩ = some (.int .i64 s) := cell_at HRQ.out rfl
 have r2 : w1.cell? ⟨w.heap.size, 2, none⟩ = some (.int .i64 i) := cell_at HRQ.out rfl
 have r3 : w1.cell? ⟨w.heap.size, 3, none⟩ = some (.int .i64 kd) := cell_at HRQ.out rfl
 have r4 : w1.cell? ⟨w.heap.size, 4, none⟩ = some (.int .i64 m) := cell_at HRQ.out rfl
 have r5 : w1.cell? ⟨w.heap.size, 5, none⟩ = some (.int .i64 k) := cell_at HRQ.out rfl
 have r6 : w1.cell? ⟨w.heap.size, 6, none⟩ = some (.int .i64 n) := cell_at HRQ.out rfl
 have r7 : w1.cell? ⟨w.heap.size, 7, none⟩ = some (.int .i64 f) := cell_at HRQ.out rfl
 have r8 : w1.cell? ⟨w.heap.size, 8, none⟩ = some (.int .i64 c) := cell_at HRQ.out rfl
 have r9 : w1.cell? ⟨w.heap.size, 9, none⟩ = some (.int .i64 pp) := cell_at HRQ.out rfl
 have hrl := lG w1 _ r0
 have hrl1 : w.heap.size + 1 < w1.heap.size := (Array.getElem?_eq_some_iff.1 HRS.out).1
 go_wp2_with fail
 refine (HC.out _ HX1.out).mono ?_
 rintro e w9 ⟨pa, va, vl, vc, rfl, hso⟩
 have hr9 := hso.ext.block HRS.out
 have o0 := cell_at hr9 (i := 0) rfl
 have f0 := frozen_row hr9 0
 have o1 := cell_at hr9 (i := 1) rfl
 have f1 := frozen_row hr9 1
 have o2 := cell_at hr9 (i := 2) rfl
 have f2 := frozen_row hr9 2
 have o3 := cell_at hr9 (i := 3) rfl
 have f3 := frozen_row hr9 3
 have HSO : Hid _ := hso
 clear hr9 hso
 go_wp2
 refine bodyPost_ret (v := .tuple #[.pointer pa, .agg #[.int .i64 A.c, .int .i64 A.f, .int .i64 A.n, .slice va vl vc]]) (by simp [results, Tryz.results149, go_sem, o0, o1, o2, o3]) rfl ?_
 exact ⟨_, _, rfl, HSO.out.step HX1.out HG.out (by omega) hrl1 _ _ _ _⟩
theorem askedFetch_c {G : Nat -> Prop} (A : Ans) (p : Nat) (kk s i kd m k n f c pp : Int) (hkk : kk = 2) (hR : ∀ w', Calls Tryz.prog 153 #[reqV kk s i kd m k n f c pp] w' fun e w'' => e = .returned (.bool true) /\ Ext w' w'') (w : World) (hG : ∀ b, G b -> b < w.heap.size)
  (hin : ∀ w', Ext w w' -> Calls Tryz.prog 178 #[.pointer (some ⟨p, 0, none⟩), reqV kk s i kd m k n f c pp] w' fun e w'' => ∃ va vl vc, e = .returned (replyV A.c A.f A.n (.slice va vl vc)) /\ RefSo G A w' w'' (.pointer none) (.slice va vl vc)) :
  Calls Tryz.prog 149 #[.pointer (some ⟨p, 0, none⟩), reqV kk s i kd m k n f c pp] w fun e w' => ∃ pv v, e = .returned (.tuple #[pv, replyV A.c A.f A.n v]) /\ RefSo G A w w' pv v := by
 have HRt : Hid (∀ w', _) := hR
 have HC : Hid (∀ w', Ext w w' -> _) := hin
 have HG : Hid (∀ b, G b -> b < w.heap.size) := hG
 clear hR hG hin
 have hk1 : (kk == 1) = false := by rw [hkk]; rfl
 have hk2 : (kk == 2) = true := by rw [hkk]; rfl
 clear hkk
 unfold replyV at *
 unfold reqV at *
 go_enter Tryz.func149, Tryz.ntmps149
 go_wp2_with fail
 have hres0 : ((w.alloc (.cells #[.int .i64 kk, .int .i64 s, .int .i64 i, .int .i64 kd, .int .i64 m, .int .i64 k, .int .i64 n, .int .i64 f, .int .i64 c, .int .i64 pp] 51)).alloc (.cells #[.int .i64 0, .int .i64 0, .int .i64 0, .slice none 0 0] 33)).heap[w.heap.size + 1]? = some (.cells #[.int .i64 0, .int .i64 0, .int .i64 0, .slice none 0 0] 33 (0, 0)) := at_new (by simp)
 have hreq0 : ((w.alloc (.cells #[.int .i64 kk, .int .i64 s, .int .i64 i, .int .i64 kd, .int .i64 m, .int .i64 k, .int .i64 n, .int .i64 f, .int .i64 c, .int .i64 pp] 51)).alloc (.cells #[.int .i64 0, .int .i64 0, .int .i64 0, .slice none 0 0] 33)).heap[w.heap.size]? = some (.cells #[.int .i64 kk, .int .i64 s, .int .i64 i, .int .i64 kd, .int .i64 m, .int .i64 k, .int .i64 n, .int .i64 f, .int .i64 c, .int .i64 pp] 51 (0, 0)) := at_old (heap_alloc_new _ _)
 have hXW : Ext w ((w.alloc (.cells #[.int .i64 kk, .int .i64 s, .int .i64 i, .int .i64 kd, .int .i64 m, .int .i64 k, .int .i64 n, .int .i64 f, .int .i64 c, .int .i64 pp] 51)).alloc (.cells #[.int .i64 0, .int .i64 0, .int .i64 0, .slice none 0 0] 33)) := ((Ext.refl w).alloc _).alloc _
 generalize World.alloc (World.alloc w _) _ = W at hres0 hreq0 hXW ⊢
 have r0 : W.cell? ⟨w.heap.size, 0, none⟩ = some (.int .i64 kk) := cell_at hreq0 rfl
 have r1 : W.cell? ⟨w.heap.size, 1, none⟩ = some (.int .i64 s) := cell_at hreq0 rfl
 have r2 : W.cell? ⟨w.heap.size, 2, none⟩ = some (.int .i64 i) := cell_at hreq0 rfl
 have r3 : W.cell? ⟨w.heap.size, 3, none⟩ = some (.int .i64 kd) := cell_at hreq0 rfl
 have r4 : W.cell? ⟨w.heap.size, 4, none⟩ = some (.int .i64 m) := cell_at hreq0 rfl
 have r5 : W.cell? ⟨w.heap.size, 5, none⟩ = some (.int .i64 k) := cell_at hreq0 rfl
 have r6 : W.cell? ⟨w.heap.size, 6, none⟩ = some (.int .i64 n) := cell_at hreq0 rfl
 have r7 : W.cell? ⟨w.heap.size, 7, none⟩ = some (.int .i64 f) := cell_at hreq0 rfl
 have r8 : W.cell? ⟨w.heap.size, 8, none⟩ = some (.int .i64 c) := cell_at hreq0 rfl
 have r9 : W.cell? ⟨w.heap.size, 9, none⟩ = some (.int .i64 pp) := cell_at hreq0 rfl
 have hrl0 := lG W _ r0
 go_wp2_with fail
 refine (HRt.out W).mono ?_
 rintro e w1 ⟨rfl, hx1⟩
 have HX1 : Hid (Ext w w1) := hXW.trans hx1
 have HRS : Hid _ := hx1.block hres0
 have HRQ : Hid _ := hx1.block hreq0
 clear hx1 hXW hres0 hreq0 r0 r1 r2 r3 r4 r5 r6 r7 r8 r9
 have r0 : w1.cell? ⟨w.heap.size, 0, none⟩ = some (.int .i64 kk) := cell_at HRQ.out rfl
 have r1 : w1.cell? ⟨w.heap.size, 1, none⟩ = some (.int .i64 s) := cell_at HRQ.out rfl
 have r2 : w1.cell? ⟨w.heap.size, 2, none⟩ = some (.int .i64 i) := cell_at HRQ.out rfl
 have r3 : w1.cell? ⟨w.heap.size, 3, none⟩ = some (.int .i64 kd) := cell_at HRQ.out rfl
 have r4 : w1.cell? ⟨w.heap.size, 4, none⟩ = some (.int .i64 m) := cell_at HRQ.out rfl
 have r5 : w1.cell? ⟨w.heap.size, 5, none⟩ = some (.int .i64 k) := cell_at HRQ.out rfl
 have r6 : w1.cell? ⟨w.heap.size, 6, none⟩ = some (.int .i64 n) := cell_at HRQ.out rfl
 have r7 : w1.cell? ⟨w.heap.size, 7, none⟩ = some (.int .i64 f) := cell_at HRQ.out rfl
 have r8 : w1.cell? ⟨w.heap.size, 8, none⟩ = some (.int .i64 c) := cell_at HRQ.out rfl
 have r9 : w1.cell? ⟨w.heap.size, 9, none⟩ = some (.int .i64 pp) := cell_at HRQ.out rfl
 have hrl := lG w1 _ r0
 have hrl1 : w.heap.size + 1 < w1.heap.size := (Array.getElem?_eq_some_iff.1 HRS.out).1
 go_wp2_with fail
 refine (HC.out _ HX1.out).mono ?_
 rintro e w9 ⟨va, vl, vc, rfl, hso⟩
 have hr9 := hso.ext.block HRS.out
 have o0 := cell_at hr9 (i := 0) rfl
 have f0 := frozen_row hr9 0
 have o1 := cell_at hr9 (i := 1) rfl
 have f1 := frozen_row hr9 1
 have o2 := cell_at hr9 (i := 2) rfl
 have f2 := frozen_row hr9 2
 have o3 := cell_at hr9 (i := 3) rfl
 have f3 := frozen_row hr9 3
 have HSO : Hid _ := hso
 clear hr9 hso
 go_wp2
 refine bodyPost_ret (v := .tuple #[.pointer none, .agg #[.int .i64 A.c, .int .i64 A.f, .int .i64 A.n, .slice va vl vc]]) (by simp [results, Tryz.results149, go_sem, o0, o1, o2, o3]) rfl ?_
 exact ⟨_, _, rfl, HSO.out.step HX1.out HG.out (by omega) hrl1 _ _ _ _⟩
theorem askedStatusNo_c {G : Nat -> Prop} (p : Nat) (S : List Stk) (ls : List LsV) (kk s i kd m k n f c pp : Int) (hkk : kk = 4) (hR : ∀ w', Calls Tryz.prog 153 #[reqV kk s i kd m k n f c pp] w' fun e w'' => e = .returned (.bool true) /\ Ext w' w'') (hS : S.length <= 100) (hf : S.findIdx? (fun x => x.is kd m k n) = none) (w : World) (hG : ∀ b, G b -> b < w.heap.size) (h : RefAt w G p S ls) :
  Calls Tryz.prog 149 #[.pointer (some ⟨p, 0, none⟩), reqV kk s i kd m k n f c pp] w fun e w' => ∃ pv v, e = .returned (.tuple #[pv, replyV 2 0 0 v]) /\ RefSo G (.code 2) w w' pv v := by
 have HRt : Hid (∀ w', _) := hR
 have HCo : Hid (∀ w', _) := fun w' => refCode_c 2 w'
 have HFi : Hid (∀ w', Ext w w' -> Calls Tryz.prog 147 #[.pointer (some ⟨p, 0, none⟩), .agg #[.int .i64 kd, .int .i64 m, .int .i64 k, .int .i64 n]] w' fun e w'' => e = .returned (.int .i64 (-1)) /\ Ext w' w'') := fun w' hx => by
  have := refFind_c p S ls kd m k n hS w' (h.ext hx)
  rw [hf] at this
  exact this
 have HG : Hid (∀ b, G b -> b < w.heap.size) := hG
 clear hR hG h hf
 have hk1 : (kk == 1) = false := by rw [hkk]; rfl
 have hk2 : (kk == 2) = false := by rw [hkk]; rfl
 have hk3 : (kk == 3) = false := by rw [hkk]; rfl
 clear hkk
 unfold replyV at *
 unfold reqV at *
 go_enter Tryz.func149, Tryz.ntmps149
 go_wp2_with fail
 have hres0 : ((w.alloc (.cells #[.int .i64 kk, .int .i64 s, .int .i64 i, .int .i64 kd, .int .i64 m, .int .i64 k, .int .i64 n, .int .i64 f, .int .i64 c, .int .i64 pp] 51)).alloc (.cells #[.int .i64 0, .int .i64 0, .int .i64 0, .slice none 0 0] 33)).heap[w.heap.size + 1]? = some (.cells #[.int .i64 0, .int .i64 0, .int .i64 0, .slice none 0 0] 33 (0, 0)) := at_new (by simp)
 have hreq0 : ((w.alloc (.cells #[.int .i64 kk, .int .i64 s, .int .i64 i, .int .i64 kd, .int .i64 m, .int .i64 k, .int .i64 n, .int .i64 f, .int .i64 c, .int .i64 pp] 51)).alloc (.cells #[.int .i64 0, .int .i64 0, .int .i64 0, .slice none 0 0] 33)).heap[w.heap.size]? = some (.cells #[.int .i64 kk, .int .i64 s, .int .i64 i, .int .i64 kd, .int .i64 m, .int .i64 k, .int .i64 n, .int .i64 f, .int .i64 c, .int .i64 pp] 51 (0, 0)) := at_old (heap_alloc_new _ _)
 have hXW : Ext w ((w.alloc (.cells #[.int .i64 kk, .int .i64 s, .int .i64 i, .int .i64 kd, .int .i64 m, .int .i64 k, .int .i64 n, .int .i64 f, .int .i64 c, .int .i64 pp] 51)).alloc (.cells #[.int .i64 0, .int .i64 0, .int .i64 0, .slice none 0 0] 33)) := ((Ext.refl w).alloc _).alloc _
 generalize World.alloc (World.alloc w _) _ = W at hres0 hreq0 hXW ⊢
 have r0 : W.cell? ⟨w.heap.size, 0, none⟩ = some (.int .i64 kk) := cell_at hreq0 rfl
 have r1 : W.cell? ⟨w.heap.size, 1, none⟩ = some (.int .i64 s) := cell_at hreq0 rfl
 have r2 : W.cell? ⟨w.heap.size, 2, none⟩ = some (.int .i64 i) := cell_at hreq0 rfl
 have r3 : W.cell? ⟨w.heap.size, 3, none⟩ = some (.int .i64 kd) := cell_at hreq0 rfl
 have r4 : W.cell? ⟨w.heap.size, 4, none⟩ = some (.int .i64 m) := cell_at hreq0 rfl
 have r5 : W.cell? ⟨w.heap.size, 5, none⟩ = some (.int .i64 k) := cell_at hreq0 rfl
 have r6 : W.cell? ⟨w.heap.size, 6, none⟩ = some (.int .i64 n) := cell_at hreq0 rfl
 have r7 : W.cell? ⟨w.heap.size, 7, none⟩ = some (.int .i64 f) := cell_at hreq0 rfl
 have r8 : W.cell? ⟨w.heap.size, 8, none⟩ = some (.int .i64 c) := cell_at hreq0 rfl
 have r9 : W.cell? ⟨w.heap.size, 9, none⟩ = some (.int .i64 pp) := cell_at hreq0 rfl
 have hrl0 := lG W _ r0
 go_wp2_with fail
 refine (HRt.out W).mono ?_
 rintro e w1 ⟨rfl, hx1⟩
 have HX1 : Hid (Ext w w1) := hXW.trans hx1
 have HRS : Hid _ := hx1.block hres0
 have HRQ : Hid _ := hx1.block hreq0
 clear hx1 hXW hres0 hreq0 r0 r1 r2 r3 r4 r5 r6 r7 r8 r9
 have r0 : w1.cell? ⟨w.heap.size, 0, none⟩ = some (.int .i64 kk) := cell_at HRQ.out rfl
 have r1 : w1.cell? ⟨w.heap.size, 1, none⟩ = some (.int .i64 s) := cell_at HRQ.out rfl
 have r2 : w1.cell? ⟨w.heap.size, 2, none⟩ = some (.int .i64 i) := cell_at HRQ.out rfl
 have r3 : w1.cell? ⟨w.heap.size, 3, none⟩ = some (.int .i64 kd) := cell_at HRQ.out rfl
 have r4 : w1.cell? ⟨w.heap.size, 4, none⟩ = some (.int .i64 m) := cell_at HRQ.out rfl
 have r5 : w1.cell? ⟨w.heap.size, 5, none⟩ = some (.int .i64 k) := cell_at HRQ.out rfl
 have r6 : w1.cell? ⟨w.heap.size, 6, none⟩ = some (.int .i64 n) := cell_at HRQ.out rfl
 have r7 : w1.cell? ⟨w.heap.size, 7, none⟩ = some (.int .i64 f) := cell_at HRQ.out rfl
 have r8 : w1.cell? ⟨w.heap.size, 8, none⟩ = some (.int .i64 c) := cell_at HRQ.out rfl
 have r9 : w1.cell? ⟨w.heap.size, 9, none⟩ = some (.int .i64 pp) := cell_at HRQ.out rfl
 have hrl := lG w1 _ r0
 have hrl1 : w.heap.size + 1 < w1.heap.size := (Array.getElem?_eq_some_iff.1 HRS.out).1
 go_wp2_with fail
 refine (HFi.out _ HX1.out).mono ?_
 rintro e w2 ⟨rfl, hx2⟩
 have HX2 : Hid (Ext w1 w2) := hx2
 clear hx2
 go_wp2_with fail
 refine (HCo.out _).mono ?_
 rintro e w9 ⟨rfl, hx9⟩
 have HX9 : Hid (Ext w1 w9) := HX2.out.trans hx9
 have hr9 := HX9.out.block HRS.out
 have o0 := cell_at hr9 (i := 0) rfl
 have f0 := frozen_row hr9 0
 have o1 := cell_at hr9 (i := 1) rfl
 have f1 := frozen_row hr9 1
 have o2 := cell_at hr9 (i := 2) rfl
 have f2 := frozen_row hr9 2
 have o3 := cell_at hr9 (i := 3) rfl
 have f3 := frozen_row hr9 3
 clear hr9 hx9
 go_wp2
 refine bodyPost_ret (v := .tuple #[.pointer none, .agg #[.int .i64 2, .int .i64 0, .int .i64 0, .slice none 0 0]]) (by simp [results, Tryz.results149, go_sem, o0, o1, o2, o3]) rfl ?_
 exact ⟨_, _, rfl, (refSo_code G 2 HX9.out).step HX1.out HG.out (by omega) hrl1 _ _ _ _⟩
theorem askedStatus_c {G : Nat -> Prop} (p ix : Nat) (S : List Stk) (ls : List LsV) (kk s i kd m k n f c pp : Int) (hkk : kk = 4) (hR : ∀ w', Calls Tryz.prog 153 #[reqV kk s i kd m k n f c pp] w' fun e w'' => e = .returned (.bool true) /\ Ext w' w'') (hS : S.length <= 100) (hix : ix < S.length) (hf : S.findIdx? (fun x => x.is kd m k n) = some ix) (w : World) (hG : ∀ b, G b -> b < w.heap.size) (h : RefAt w G p S ls) :
  Calls Tryz.prog 149 #[.pointer (some ⟨p, 0, none⟩), reqV kk s i kd m k n f c pp] w fun e w' => ∃ pv v, e = .returned (.tuple #[pv, replyV 0 S[ix].leased S[ix].ts.length v]) /\ RefSo G ⟨0, S[ix].leased, S[ix].ts.length, [], none⟩ w w' pv v := by
 have HRt : Hid (∀ w', _) := hR
 have HFi : Hid (∀ w', Ext w w' -> Calls Tryz.prog 147 #[.pointer (some ⟨p, 0, none⟩), .agg #[.int .i64 kd, .int .i64 m, .int .i64 k, .int .i64 n]] w' fun e w'' => e = .returned (.int .i64 (ix : Int)) /\ Ext w' w'') := fun w' hx => by
  have := refFind_c p S ls kd m k n hS w' (h.ext hx)
  rw [hf] at this
  exact this
 have HG : Hid (∀ b, G b -> b < w.heap.size) := hG
 obtain ⟨stv, lsv, css0, h1, h2, h3, h4, h5, h6⟩ := h
 have c0 : w.cell? ⟨p, 0, none⟩ = some stv := cell_at h1 rfl
 have hp : p < w.heap.size := lG w _ c0
 obtain ⟨g, cap, ta, tcap, vs, rfl, hcap, _, ⟨_, _, _, _, s4, s5, _⟩, _, _, _⟩ := stock_row h3 h4 h5 ix hix
 have hgl := lG w _ s4
 obtain ⟨len, hl⟩ : ∃ len, S.length = len := ⟨_, rfl⟩
 obtain ⟨tn, htn⟩ : ∃ tn, S[ix].ts.length = tn := ⟨_, rfl⟩
 obtain ⟨sl, hsl⟩ : ∃ sl, S[ix].leased = sl := ⟨_, rfl⟩
 have HE : Hid (S[ix].ts.length = tn /\ S[ix].leased = sl) := ⟨htn, hsl⟩
 rw [hl] at c0 hcap
 have hixl : ix < len := by omega
 rw [htn] at s4
 rw [hsl] at s5
 have hk0 : (0 : Int) <= (ix : Int) := by omega
 have hk1 : (ix : Int) < len := by omega
 clear hR hG hf h1 h2 h3 h4 h5 h6 hl htn hsl
 have hk1 : (kk == 1) = false := by rw [hkk]; rfl
 have hk2 : (kk == 2) = false := by rw [hkk]; rfl
 have hk3 : (kk == 3) = false := by rw [hkk]; rfl
 clear hkk
 unfold replyV at *
 unfold reqV at *
 go_enter Tryz.func149, Tryz.ntmps149
 go_wp2_with fail
 have hres0 : ((w.alloc (.cells #[.int .i64 kk, .int .i64 s, .int .i64 i, .int .i64 kd, .int .i64 m, .int .i64 k, .int .i64 n, .int .i64 f, .int .i64 c, .int .i64 pp] 51)).alloc (.cells #[.int .i64 0, .int .i64 0, .int .i64 0, .slice none 0 0] 33)).heap[w.heap.size + 1]? = some (.cells #[.int .i64 0, .int .i64 0, .int .i64 0, .slice none 0 0] 33 (0, 0)) := at_new (by simp)
 have hreq0 : ((w.alloc (.cells #[.int .i64 kk, .int .i64 s, .int .i64 i, .int .i64 kd, .int .i64 m, .int .i64 k, .int .i64 n, .int .i64 f, .int .i64 c, .int .i64 pp] 51)).alloc (.cells #[.int .i64 0, .int .i64 0, .int .i64 0, .slice none 0 0] 33)).heap[w.heap.size]? = some (.cells #[.int .i64 kk, .int .i64 s, .int .i64 i, .int .i64 kd, .int .i64 m, .int .i64 k, .int .i64 n, .int .i64 f, .int .i64 c, .int .i64 pp] 51 (0, 0)) := at_old (heap_alloc_new _ _)
 have hXW : Ext w ((w.alloc (.cells #[.int .i64 kk, .int .i64 s, .int .i64 i, .int .i64 kd, .int .i64 m, .int .i64 k, .int .i64 n, .int .i64 f, .int .i64 c, .int .i64 pp] 51)).alloc (.cells #[.int .i64 0, .int .i64 0, .int .i64 0, .slice none 0 0] 33)) := ((Ext.refl w).alloc _).alloc _
 generalize World.alloc (World.alloc w _) _ = W at hres0 hreq0 hXW ⊢
 have r0 : W.cell? ⟨w.heap.size, 0, none⟩ = some (.int .i64 kk) := cell_at hreq0 rfl
 have r1 : W.cell? ⟨w.heap.size, 1, none⟩ = some (.int .i64 s) := cell_at hreq0 rfl
 have r2 : W.cell? ⟨w.heap.size, 2, none⟩ = some (.int .i64 i) := cell_at hreq0 rfl
 have r3 : W.cell? ⟨w.heap.size, 3, none⟩ = some (.int .i64 kd) := cell_at hreq0 rfl
 have r4 : W.cell? ⟨w.heap.size, 4, none⟩ = some (.int .i64 m) := cell_at hreq0 rfl
 have r5 : W.cell? ⟨w.heap.size, 5, none⟩ = some (.int .i64 k) := cell_at hreq0 rfl
 have r6 : W.cell? ⟨w.heap.size, 6, none⟩ = some (.int .i64 n) := cell_at hreq0 rfl
 have r7 : W.cell? ⟨w.heap.size, 7, none⟩ = some (.int .i64 f) := cell_at hreq0 rfl
 have r8 : W.cell? ⟨w.heap.size, 8, none⟩ = some (.int .i64 c) := cell_at hreq0 rfl
 have r9 : W.cell? ⟨w.heap.size, 9, none⟩ = some (.int .i64 pp) := cell_at hreq0 rfl
 have hrl0 := lG W _ r0
 go_wp2_with fail
 refine (HRt.out W).mono ?_
 rintro e w1 ⟨rfl, hx1⟩
 have HX1 : Hid (Ext w w1) := hXW.trans hx1
 have HRS : Hid _ := hx1.block hres0
 have HRQ : Hid _ := hx1.block hreq0
 clear hx1 hXW hres0 hreq0 r0 r1 r2 r3 r4 r5 r6 r7 r8 r9
 have r0 : w1.cell? ⟨w.heap.size, 0, none⟩ = some (.int .i64 kk) := cell_at HRQ.out rfl
 have r1 : w1.cell? ⟨w.heap.size, 1, none⟩ = some (.int .i64 s) := cell_at HRQ.out rfl
 have r2 : w1.cell? ⟨w.heap.size, 2, none⟩ = some (.int .i64 i) := cell_at HRQ.out rfl
 have r3 : w1.cell? ⟨w.heap.size, 3, none⟩ = some (.int .i64 kd) := cell_at HRQ.out rfl
 have r4 : w1.cell? ⟨w.heap.size, 4, none⟩ = some (.int .i64 m) := cell_at HRQ.out rfl
 have r5 : w1.cell? ⟨w.heap.size, 5, none⟩ = some (.int .i64 k) := cell_at HRQ.out rfl
 have r6 : w1.cell? ⟨w.heap.size, 6, none⟩ = some (.int .i64 n) := cell_at HRQ.out rfl
 have r7 : w1.cell? ⟨w.heap.size, 7, none⟩ = some (.int .i64 f) := cell_at HRQ.out rfl
 have r8 : w1.cell? ⟨w.heap.size, 8, none⟩ = some (.int .i64 c) := cell_at HRQ.out rfl
 have r9 : w1.cell? ⟨w.heap.size, 9, none⟩ = some (.int .i64 pp) := cell_at HRQ.out rfl
 have hrl := lG w1 _ r0
 have hrl1 : w.heap.size + 1 < w1.heap.size := (Array.getElem?_eq_some_iff.1 HRS.out).1
 go_wp2_with fail
 refine (HFi.out _ HX1.out).mono ?_
 rintro e w2 ⟨rfl, hx2⟩
 have HX2 : Hid (Ext w1 w2) := hx2
 have hr9 := hx2.block HRS.out
 have o0 := cell_at hr9 (i := 0) rfl
 have f0 := frozen_row hr9 0
 have o1 := cell_at hr9 (i := 1) rfl
 have f1 := frozen_row hr9 1
 have o2 := cell_at hr9 (i := 2) rfl
 have f2 := frozen_row hr9 2
 have o3 := cell_at hr9 (i := 3) rfl
 have f3 := frozen_row hr9 3
 have c0 := (HX1.out.trans hx2).cell c0
 have s4 := (HX1.out.trans hx2).cell s4
 have s5 := (HX1.out.trans hx2).cell s5
 have hrl2 : w.heap.size + 1 < w2.heap.size := lG w2 _ o0
 have hpn : w.heap.size + 1 ≠ p := by omega
 have hgn : w.heap.size + 1 ≠ g := by omega
 clear hr9 hx2 r0 r1 r2 r3 r4 r5 r6 r7 r8 r9
 go_wp2_with fail
 refine wp_region_held_drew (S := (fun w' => w'.cell? ⟨p, 0, none⟩ = some (.slice (some ⟨g, 0, none⟩) len cap) /\ w'.cell? ⟨g, ix * 7 + 4, none⟩ = some (.slice ta tn tcap) /\ w'.cell? ⟨g, ix * 7 + 5, none⟩ = some (.int .i64 (sl : Int)))) (by kernel_rfl) ⟨c0, s4, s5⟩ (fun hHeld => ?_)
 refine wpAnyH_take (i := 0) (oi := _) (v := ?v0) rfl (by kernel_rfl) (by kernel_rfl) (by kernel_rfl) (fun _ _ _ h => h) (Or.inl ⟨by rfl, ?hy⟩) hHeld ?_
 case hy => (intro w hSw; (try dsimp only at hSw); go_simp; try with_reducible rfl)
 try simp only [Act.put, lA, lC, lD, lE, lF]
 refine wpAnyH_take (i := 1) (oi := _) (v := ?v1) rfl (by kernel_rfl) (by kernel_rfl) (by kernel_rfl) (fun _ _ _ h => h) (Or.inl ⟨by rfl, ?hy⟩) hHeld ?_
 case hy => (intro w hSw; (try dsimp only at hSw); go_simp; try with_reducible rfl)
 try simp only [Act.put, lA, lB, lC, lD, lE, lF]
 refine wpAnyH_take (i := 2) (oi := _) (v := ?v2) rfl (by kernel_rfl) (by kernel_rfl) (by kernel_rfl) (fun _ _ _ h => h) (Or.inl ⟨by rfl, ?hy⟩) hHeld ?_
 case hy => (intro w hSw; (try dsimp only at hSw); go_simp; try with_reducible rfl)
 try simp only [Act.put, lA, lB, lC, lD, lE, lF]
 refine wpAnyH_take (i := 3) (oi := _) (v := ?v3) rfl (by kernel_rfl) (by kernel_rfl) (by kernel_rfl) (fun _ _ _ h => h) (Or.inl ⟨by rfl, ?hy⟩) hHeld ?_
 case hy => (intro w hSw; (try dsimp only at hSw); go_simp; try with_reducible rfl)
 try simp only [Act.put, lA, lB, lC, lD, lE, lF]
 refine wpAnyH_take (i := 4) (oi := _) (v := ?v4) rfl (by kernel_rfl) (by kernel_rfl) (by kernel_rfl) (fun _ _ _ h => h) (Or.inl ⟨by rfl, ?hy⟩) hHeld ?_
 case hy => (intro w hSw; (try dsimp only at hSw); go_simp; try with_reducible rfl)
 try simp only [Act.put, lA, lB, lC, lD, lE, lF]
 refine wpAnyH_take (i := 5) (oi := _) (v := ?v5) rfl (by kernel_rfl) (by kernel_rfl) (by kernel_rfl) (fun _ _ _ h => h) (Or.inl ⟨by rfl, ?hy⟩) hHeld ?_
 case hy => (intro w hSw; (try dsimp only at hSw); go_simp; try with_reducible rfl)
 try simp only [Act.put, lA, lB, lC, lD, lE, lF]
 refine wpAnyH_take (i := 6) (oi := _) (v := ?v6) rfl (by kernel_rfl) (by kernel_rfl) (by kernel_rfl) (fun _ _ _ h => h) (Or.inl ⟨by rfl, ?hy⟩) hHeld ?_
 case hy => (intro w hSw; (try dsimp only at hSw); go_simp; try with_reducible rfl)
 try simp only [Act.put, lA, lB, lC, lD, lE, lF]
 refine wpAnyH_take (i := 7) (oi := _) (v := ?v7) rfl (by kernel_rfl) (by kernel_rfl) (by kernel_rfl) (fun _ _ _ h => h) (Or.inl ⟨by rfl, ?hy⟩) hHeld ?_
 case hy => (intro w hSw; (try dsimp only at hSw); go_simp; try with_reducible rfl)
 try simp only [Act.put, lA, lB, lC, lD, lE, lF]
 refine wpAnyH_take (i := 8) (oi := _) (v := ?v8) rfl (by kernel_rfl) (by kernel_rfl) (by kernel_rfl) (fun _ _ _ h => h) (Or.inl ⟨by rfl, ?hy⟩) hHeld ?_
 case hy => (intro w hSw; (try dsimp only at hSw); go_simp; try with_reducible rfl)
 try simp only [Act.put, lA, lB, lC, lD, lE, lF]
 refine wpAnyH_take (i := 9) (oi := _) (v := ?v9) rfl (by kernel_rfl) (by kernel_rfl) (by kernel_rfl) (fun _ _ _ h => h) (Or.inl ⟨by rfl, ?hy⟩) hHeld ?_
 case hy => (intro w hSw; (try dsimp only at hSw); go_simp; try with_reducible rfl)
 try simp only [Act.put, lA, lB, lC, lD, lE, lF]
 refine wpAnyH_take (i := 10) (oi := _) (v := ?v10) rfl (by kernel_rfl) (by kernel_rfl) (by kernel_rfl) (fun _ _ _ h => h) (Or.inl ⟨by rfl, ?hy⟩) hHeld ?_
 case hy => (intro w hSw; (try dsimp only at hSw); go_simp; try with_reducible rfl)
 try simp only [Act.put, lA, lB, lC, lD, lE, lF]
 refine wpAnyH_take (i := 11) (oi := _) (v := ?v11) rfl (by kernel_rfl) (by kernel_rfl) (by kernel_rfl) (fun _ _ _ h => h) (Or.inl ⟨by rfl, ?hy⟩) hHeld ?_
 case hy => (intro w hSw; (try dsimp only at hSw); go_simp; try with_reducible rfl)
 try simp only [Act.put, lA, lB, lC, lD, lE, lF]
 refine wpAnyH_take (i := 12) (oi := _) (v := ?v12) rfl (by kernel_rfl) (by kernel_rfl) (by kernel_rfl) (fun _ _ _ h => h) (Or.inl ⟨by rfl, ?hy⟩) hHeld ?_
 case hy => (intro w hSw; (try dsimp only at hSw); go_simp; try with_reducible rfl)
 try simp only [Act.put, lA, lB, lC, lD, lE, lF]
 refine wpAnyH_take (i := 13) (oi := _) (v := ?v13) rfl (by kernel_rfl) (by kernel_rfl) (by kernel_rfl) (fun _ _ _ h => h) (Or.inl ⟨by rfl, ?hy⟩) hHeld ?_
 case hy => (intro w hSw; (try dsimp only at hSw); go_simp; try with_reducible rfl)
 try simp only [Act.put, lA, lB, lC, lD, lE, lF]
 refine wpAnyH_take (i := 14) (oi := _) (v := ?v14) rfl (by kernel_rfl) (by kernel_rfl) (by kernel_rfl) (fun _ _ _ h => h) (Or.inl ⟨by rfl, ?hy⟩) hHeld ?_
 case hy => (intro w hSw; (try dsimp only at hSw); go_simp; try with_reducible rfl)
 try simp only [Act.put, lA, lB, lC, lD, lE, lF]
 refine wpAnyH_take (i := 15) (oi := _) (v := ?v15) rfl (by kernel_rfl) (by kernel_rfl) (by kernel_rfl) (fun _ _ _ h => h) (Or.inl ⟨by rfl, ?hy⟩) hHeld ?_
 case hy => (intro w hSw; (try dsimp only at hSw); go_simp; try with_reducible rfl)
 try simp only [Act.put, lA, lB, lC, lD, lE, lF]
 refine wpAnyH_take (i := 16) (oi := _) (v := ?v16) rfl (by kernel_rfl) (by kernel_rfl) (by kernel_rfl) (fun _ _ _ h => h) (Or.inl ⟨by rfl, ?hy⟩) hHeld ?_
 case hy => (intro w hSw; (try dsimp only at hSw); go_simp; try with_reducible rfl)
 try simp only [Act.put, lA, lB, lC, lD, lE, lF]
 refine wpAnyH_take (i := 17) (oi := _) (v := ?v17) rfl (by kernel_rfl) (by kernel_rfl) (by kernel_rfl) (fun _ _ _ h => h) (Or.inl ⟨by rfl, ?hy⟩) hHeld ?_
 case hy => (intro w hSw; (try dsimp only at hSw); go_simp; try with_reducible rfl)
 try simp only [Act.put, lA, lB, lC, lD, lE, lF]
 refine wpAnyH_take (i := 18) (oi := _) (v := ?v18) rfl (by kernel_rfl) (by kernel_rfl) (by kernel_rfl) (fun _ _ _ h => h) (Or.inl ⟨by rfl, ?hy⟩) hHeld ?_
 case hy => (intro w hSw; (try dsimp only at hSw); go_simp; try with_reducible rfl)
 try simp only [Act.put, lA, lB, lC, lD, lE, lF]
 refine wpAnyH_ready (rs := [19]) (by kernel_rfl) (by simp) ?_
 refine AllReadyH.cons (o := _) rfl (fun K hK => ?_) AllReadyH.nil
 (try simp only [lA, lB, lC])
 go_simp
 refine hK.out _ _ ?hs4 (fun hHeld => ?_)
 case hs4 =>
  exact ⟨set4far _ _ _ _ hpn c0, set4far _ _ _ _ hgn s4, set4far _ _ _ _ hgn s5⟩
 clear hK K
 try simp only [Act.put, lA, lB, lC, lD, lE, lF]
 refine wpAnyH_done (by kernel_rfl) ?_ _
 go_wp2
 refine bodyPost_ret (v := .tuple #[.pointer none, .agg #[.int .i64 0, .int .i64 sl, .int .i64 tn, .slice none 0 0]]) (by simp [results, Tryz.results149, go_sem, o0, o1, o2, o3]) rfl ?_
 refine ⟨.pointer none, .slice none 0 0, by rw [HE.out.1, HE.out.2], ?_⟩
 exact ⟨World.ownsRow_nil _ _ _ _, Ext.drew (ext4 (HX1.out.trans HX2.out) (by omega) _ _ _ _), .inl ⟨rfl, rfl⟩⟩
end
end Go.Proofs.YtmnjhhachdlmkaaGreat
