import Derived.Test.YtmnjhhachdlmkaaTri3
import Derived.Test.YtmnjhhachdlmkaaConcatW
namespace Go.Proofs.Ytmnjhhachdlmkaa

section
open Go.RowKit

/-- A class as a value. -/
def clsV (kd m k n : Int) : Value := .agg #[.int .i64 kd, .int .i64 m, .int .i64 k, .int .i64 n]
/-- Is it one? -/
def isCls (kd m k n : Int) : Bool :=
  if kd = 0 then decide (m = 1) && (decide (k = 1) && decide (n = 1))
  else if kd = 1 then (decide (1 ≤ m) && decide (m ≤ 3)) && ((decide (1 ≤ k) && decide (k ≤ 3)) && (decide (1 ≤ n) && decide (n ≤ 3)))
  else if kd = 2 then (decide (1 ≤ m) && decide (m ≤ 3)) && (decide (k = 1) && decide (n = 1))
  else false
set_option maxHeartbeats 400000 in
theorem isClass_c (kd m k n : Int) (w : World) : Calls Try.prog 46 #[clsV kd m k n] w fun e w' => e = .returned (.bool (isCls kd m k n)) ∧ Ext w w' := by
  unfold clsV
  go_enter Try.func46, Try.ntmps46
  go_wp2_with (first | (go_at_call 51; refine (isSide_c _ _).mono ?_; rintro e w' ⟨rfl, rfl⟩) | go_in)
  all_goals go_ret
  all_goals (refine ⟨ret_bool (Bool.eq_iff_iff.2 ?_), (Ext.refl w).alloc _⟩; simp_all [isCls])
  all_goals (try omega)

theorem shapeB_c (m k n : Int) (w : World) : Calls Try.prog 52 #[clsV 2 m k n] w fun e w' => e = .returned (.agg #[.int .i64 m, .int .i64 1, .int .i64 1, .int .i64 1]) ∧ Ext w w' := by
  unfold clsV
  go_enter Try.func52, Try.ntmps52
  go_wp2
  refine bodyPost_ret (v := .agg #[.int .i64 m, .int .i64 1, .int .i64 1, .int .i64 1]) (by simp [results, Try.results52, go_sem]) rfl ⟨rfl, ?_⟩
  (repeat (first | exact Ext.refl _ | refine Ext.drew ?_ | refine Ext.alloc ?_ _ | refine Ext.setCell ?_ (by simp) _))
theorem shapeW_c (kd m k n : Int) (h : ¬ kd = 2) (w : World) : Calls Try.prog 52 #[clsV kd m k n] w fun e w' => e = .returned (.agg #[.int .i64 1, .int .i64 m, .int .i64 k, .int .i64 n]) ∧ Ext w w' := by
  unfold clsV
  go_enter Try.func52, Try.ntmps52
  go_wp2
  refine bodyPost_ret (v := .agg #[.int .i64 1, .int .i64 m, .int .i64 k, .int .i64 n]) (by simp [results, Try.results52, go_sem]) rfl ⟨rfl, ?_⟩
  (repeat (first | exact Ext.refl _ | refine Ext.drew ?_ | refine Ext.alloc ?_ _ | refine Ext.setCell ?_ (by simp) _))

theorem arithmeticOf_c (kd m k n : Int) (w : World) : Calls Try.prog 55 #[clsV kd m k n] w fun e w' => e = .returned (if kd = 2 then .iface 144 (.agg #[]) else .iface 145 (.agg #[])) ∧ Ext w w' := by
  unfold clsV
  go_enter Try.func55, Try.ntmps55
  go_wp2
  all_goals go_ret
  all_goals (refine ⟨?_, (Ext.refl w).alloc _⟩; simp_all)

theorem mul_le9 {a b : Nat} (h1 : a ≤ 3) (h2 : b ≤ 3) : a * b ≤ 9 := Nat.mul_le_mul h1 h2
theorem mul_le27 {a b c : Nat} (h1 : a ≤ 3) (h2 : b ≤ 3) (h3 : c ≤ 3) : a * b * c ≤ 27 := Nat.mul_le_mul (mul_le9 h1 h2) h3
theorem wrap3 {a b c : Nat} (h1 : a ≤ 3) (h2 : b ≤ 3) (h3 : c ≤ 3) : IntKind.i64.wrap (IntKind.i64.wrap ((a : Int) * b) * c) = ((a * b * c : Nat) : Int) := by
  have e1 : IntKind.i64.wrap ((a : Int) * b) = ((a * b : Nat) : Int) := by
    rw [← Int.natCast_mul]; exact wrap_small (by have := mul_le9 h1 h2; omega)
  rw [e1, ← Int.natCast_mul]; exact wrap_small (by have := mul_le27 h1 h2 h3; omega)
end

section
open Go.RowKit

set_option maxRecDepth 100000 in
set_option maxHeartbeats 3200000 in
theorem lengths_c (p m k n : Nat) (hp : p ≤ 3) (hm : m ≤ 3) (hk : k ≤ 3) (hn : n ≤ 3) (w : World) :
    Calls Try.prog 53 #[.agg #[.int .i64 p, .int .i64 m, .int .i64 k, .int .i64 n]] w fun e w' =>
      e = .returned (.tuple #[.int .i64 (p * m * k : Nat), .int .i64 (p * k * n : Nat), .int .i64 (p * m * n : Nat)]) ∧ Ext w w' := by
  have e1 := wrap3 hp hm hk
  have e2 := wrap3 hp hk hn
  have e3 := wrap3 hp hm hn
  have HE : Hid _ := And.intro e1 (And.intro e2 e3)
  clear e1 e2 e3 hp hm hk hn
  go_enter Try.func53, Try.ntmps53
  go_wp2
  generalize hW : World.alloc w _ = W
  have hxW : Ext w W := hW ▸ (Ext.refl w).alloc _
  have hb : W.heap[w.heap.size]? = some (.cells #[.int .i64 p, .int .i64 m, .int .i64 k, .int .i64 n] 122) := by rw [← hW]; exact heap_alloc_new w _
  have s0 : W.cell? ⟨w.heap.size, 0, none⟩ = some (.int .i64 p) := by rw [cell_of_row W _ 0 _ _ _ hb]; rfl
  have s1 : W.cell? ⟨w.heap.size, 1, none⟩ = some (.int .i64 m) := by rw [cell_of_row W _ 1 _ _ _ hb]; rfl
  have s2 : W.cell? ⟨w.heap.size, 2, none⟩ = some (.int .i64 k) := by rw [cell_of_row W _ 2 _ _ _ hb]; rfl
  have s3 : W.cell? ⟨w.heap.size, 3, none⟩ = some (.int .i64 n) := by rw [cell_of_row W _ 3 _ _ _ hb]; rfl
  clear hb
  have HXW : Hid (Ext w W) := hxW
  clear hxW hW
  go_region_held3 (fun w' => (w'.cell? ⟨w.heap.size, 0, none⟩ = some (.int .i64 p) ∧ w'.cell? ⟨w.heap.size, 1, none⟩ = some (.int .i64 m) ∧ w'.cell? ⟨w.heap.size, 2, none⟩ = some (.int .i64 k) ∧ w'.cell? ⟨w.heap.size, 3, none⟩ = some (.int .i64 n)) ∧ Ext W w')
    ((refine and_cell4 s0 s1 s2 s3 ?_; (repeat (first | with_reducible exact Ext.refl _ | with_reducible assumption | with_reducible refine Ext.drew ?_ | with_reducible refine Ext.alloc ?_ _)); done))
    (fail)
  go_wp2
  go_ret3
  obtain ⟨e1, e2, e3⟩ := HE.out
  exact ⟨by rw [← e1, ← e2, ← e3]; rfl, HXW.out.drew⟩

/-- What a class' triples are made of: bits?, products, m, k, n. -/
structure Sh where
  bt : Bool
  p : Nat
  m : Nat
  k : Nat
  n : Nat
def Sh.ok (s : Sh) : Prop := 1 ≤ s.p ∧ s.p ≤ 3 ∧ 1 ≤ s.m ∧ s.m ≤ 3 ∧ 1 ≤ s.k ∧ s.k ≤ 3 ∧ 1 ≤ s.n ∧ s.n ≤ 3 ∧ (s.p = 1 ∨ s.m = 1 ∧ s.k = 1 ∧ s.n = 1)
def Sh.x (s : Sh) : Nat := s.p * s.m * s.k
def Sh.y (s : Sh) : Nat := s.p * s.k * s.n
def Sh.z (s : Sh) : Nat := s.p * s.m * s.n
def Sh.val (s : Sh) : Value := .agg #[.int .i64 s.p, .int .i64 s.m, .int .i64 s.k, .int .i64 s.n]
def Sh.num (s : Sh) : Value := .iface (if s.bt then 144 else 145) (.agg #[])
/-- A class and its shape. -/
def ofCls (kd m k n : Nat) (s : Sh) : Prop := (kd = 2 ∧ s = ⟨true, m, 1, 1, 1⟩ ∧ k = 1 ∧ n = 1) ∨ ((kd = 0 ∨ kd = 1) ∧ s = ⟨false, 1, m, k, n⟩)

theorem ofCls.mk {kd m k n : Nat} (h : isCls kd m k n = true) : ∃ s, ofCls kd m k n s ∧ s.ok := by
  unfold isCls at h
  split at h
  · refine ⟨⟨false, 1, m, k, n⟩, .inr ⟨.inl (by omega), rfl⟩, ?_⟩
    simp at h; simp [Sh.ok]; omega
  · split at h
    · refine ⟨⟨false, 1, m, k, n⟩, .inr ⟨.inr (by omega), rfl⟩, ?_⟩
      simp at h; simp [Sh.ok]; omega
    · split at h
      · simp at h
        refine ⟨⟨true, m, 1, 1, 1⟩, .inl ⟨by omega, rfl, by omega, by omega⟩, ?_⟩
        simp [Sh.ok]; omega
      · cases h
theorem shapeS_c {kd m k n : Nat} {s : Sh} (h : ofCls kd m k n s) (w : World) : Calls Try.prog 52 #[clsV kd m k n] w fun e w' => e = .returned s.val ∧ Ext w w' := by
  rcases h with ⟨rfl, rfl, _, _⟩ | ⟨h, rfl⟩
  · exact shapeB_c m k n w
  · exact shapeW_c kd m k n (by omega) w
theorem arithS_c {kd m k n : Nat} {s : Sh} (h : ofCls kd m k n s) (w : World) : Calls Try.prog 55 #[clsV kd m k n] w fun e w' => e = .returned s.num ∧ Ext w w' := by
  refine (arithmeticOf_c kd m k n w).mono ?_
  rintro e w' ⟨rfl, hx⟩
  refine ⟨?_, hx⟩
  rcases h with ⟨rfl, rfl, _, _⟩ | ⟨h, rfl⟩
  · rfl
  · rw [if_neg (by omega)]; rfl
theorem lengthsS_c {s : Sh} (h : s.ok) (w : World) : Calls Try.prog 53 #[s.val] w fun e w' => e = .returned (.tuple #[.int .i64 (s.x : Int), .int .i64 (s.y : Int), .int .i64 (s.z : Int)]) ∧ Ext w w' :=
  lengths_c s.p s.m s.k s.n h.2.1 h.2.2.2.1 h.2.2.2.2.2.1 h.2.2.2.2.2.2.2.1 w
theorem Sh.le {s : Sh} (h : s.ok) : 1 ≤ s.x ∧ s.x ≤ 9 ∧ 1 ≤ s.y ∧ s.y ≤ 9 ∧ 1 ≤ s.z ∧ s.z ≤ 9 := by
  obtain ⟨h1, h2, h3, h4, h5, h6, h7, h8, h9⟩ := h
  unfold Sh.x Sh.y Sh.z
  rcases h9 with e | ⟨e1, e2, e3⟩
  · rw [e]
    simp only [Nat.one_mul]
    exact ⟨Nat.mul_le_mul h3 h5, Nat.mul_le_mul h4 h6, Nat.mul_le_mul h5 h7, Nat.mul_le_mul h6 h8, Nat.mul_le_mul h3 h7, Nat.mul_le_mul h4 h8⟩
  · rw [e1, e2, e3]
    simp only [Nat.mul_one]
    omega

set_option maxRecDepth 100000 in
set_option maxHeartbeats 800000 in
theorem wordsOf_c {kd m k n : Nat} {s : Sh} (h : ofCls kd m k n s) (hs : s.ok) (w : World) : Calls Try.prog 54 #[clsV kd m k n] w fun e w' => e = .returned (.int .i64 (s.x + s.y + s.z : Nat)) ∧ Ext w w' := by
  have hle := Sh.le hs
  have HS : Hid _ := shapeS_c h
  have HL : Hid _ := lengthsS_c hs
  generalize s.x = x at *
  generalize s.y = y at *
  generalize s.z = z at *
  generalize s.val = sv at *
  clear h hs
  unfold clsV
  go_enter Try.func54, Try.ntmps54
  go_wp2_with (first | (go_at_call 52; refine (HS.out _).mono ?_; rintro e w1 ⟨rfl, hx1⟩) | (go_at_call 53; refine (HL.out _).mono ?_; rintro e w2 ⟨rfl, hx2⟩) | go_in)
  go_ret
  refine ⟨ret_int (by go_num), ?_⟩
  (repeat (first | with_reducible exact Ext.refl _ | with_reducible assumption | with_reducible refine Ext.drew ?_ | with_reducible refine Ext.alloc ?_ _ | with_reducible (apply Ext.chain; assumption)))
end
end Go.Proofs.Ytmnjhhachdlmkaa
