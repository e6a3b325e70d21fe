import Derived.Test.YtmnjhhachdlmkaaBase
namespace Go.Proofs.Ytmnjhhachdlmkaa
open Go.RowKit

/-- What is kept of a request that was read or checked: a block of its own, behind an interface value. -/
def Own (w : World) (t s : TypeId) (cs : Array Value) (e : Ending) (w' : World) : Prop :=
  ∃ b, e = .returned (.iface t (.pointer (some ⟨b, 0, none⟩))) ∧ w'.heap[b]? = some (.cells cs s (0, 0)) ∧ w.heap.size ≤ b ∧ Ext w w'

set_option maxRecDepth 100000 in
theorem ofKind_1 (s i ck cm cl cn f c p : Int) (w : World) :
    Calls Try.prog 36 #[.agg #[.int .i64 1, .int .i64 s, .int .i64 i, .int .i64 ck, .int .i64 cm, .int .i64 cl, .int .i64 cn, .int .i64 f, .int .i64 c, .int .i64 p]] w fun e w' =>
      Own w 96 98 #[.int .i64 s, .int .i64 i, .int .i64 ck, .int .i64 cm, .int .i64 cl, .int .i64 cn, .int .i64 c] e w' := by
  go_enter Try.func36, Try.ntmps36
  go_wp2
  go_ret
  exact ⟨_, rfl, at_new (by simp), by simp, ((Ext.refl w).alloc _).alloc _⟩

set_option maxRecDepth 100000 in
theorem ofKind_2 (s i ck cm cl cn f c p : Int) (w : World) :
    Calls Try.prog 36 #[.agg #[.int .i64 2, .int .i64 s, .int .i64 i, .int .i64 ck, .int .i64 cm, .int .i64 cl, .int .i64 cn, .int .i64 f, .int .i64 c, .int .i64 p]] w fun e w' =>
      Own w 99 101 #[.int .i64 s, .int .i64 ck, .int .i64 cm, .int .i64 cl, .int .i64 cn, .int .i64 f, .int .i64 c, .int .i64 p] e w' := by
  go_enter Try.func36, Try.ntmps36
  go_wp2
  go_ret
  exact ⟨_, rfl, at_new (by simp), by simp, ((Ext.refl w).alloc _).alloc _⟩

set_option maxRecDepth 100000 in
theorem ofKind_3 (s i ck cm cl cn f c p : Int) (w : World) :
    Calls Try.prog 36 #[.agg #[.int .i64 3, .int .i64 s, .int .i64 i, .int .i64 ck, .int .i64 cm, .int .i64 cl, .int .i64 cn, .int .i64 f, .int .i64 c, .int .i64 p]] w fun e w' =>
      Own w 102 104 #[.int .i64 s, .int .i64 i] e w' := by
  go_enter Try.func36, Try.ntmps36
  go_wp2
  go_ret
  exact ⟨_, rfl, at_new (by simp), by simp, ((Ext.refl w).alloc _).alloc _⟩

set_option maxRecDepth 100000 in
theorem ofKind_4 (s i ck cm cl cn f c p : Int) (w : World) :
    Calls Try.prog 36 #[.agg #[.int .i64 4, .int .i64 s, .int .i64 i, .int .i64 ck, .int .i64 cm, .int .i64 cl, .int .i64 cn, .int .i64 f, .int .i64 c, .int .i64 p]] w fun e w' =>
      Own w 105 107 #[.int .i64 ck, .int .i64 cm, .int .i64 cl, .int .i64 cn] e w' := by
  go_enter Try.func36, Try.ntmps36
  go_wp2
  go_ret
  exact ⟨_, rfl, at_new (by simp), by simp, ((Ext.refl w).alloc _).alloc _⟩

set_option maxRecDepth 100000 in
theorem ofKind_no (k s i ck cm cl cn f c p : Int) (h1 : (k == 1) = false) (h2 : (k == 2) = false) (h3 : (k == 3) = false) (h4 : (k == 4) = false) (w : World) :
    Calls Try.prog 36 #[.agg #[.int .i64 k, .int .i64 s, .int .i64 i, .int .i64 ck, .int .i64 cm, .int .i64 cl, .int .i64 cn, .int .i64 f, .int .i64 c, .int .i64 p]] w fun e w' =>
      e = .returned .nilIface ∧ Ext w w' := by
  go_enter Try.func36, Try.ntmps36
  go_wp2
  go_ret
  exact ⟨rfl, (Ext.refl w).alloc _⟩

theorem cell_at {W : World} {b i : Nat} {cs : Array Value} {t : TypeId} {v : Value} (h : W.heap[b]? = some (.cells cs t (0, 0))) (hv : cs[i]? = some v) : W.cell? ⟨b, i, none⟩ = some v := by
  rw [cell_of_row W b i cs t (0, 0) h]; exact hv

set_option maxRecDepth 100000 in
set_option maxHeartbeats 800000 in
theorem leasePlain_c (b : Nat) (s i ck cm cl cn c : Int) (w : World) (h : w.heap[b]? = some (.cells #[.int .i64 s, .int .i64 i, .int .i64 ck, .int .i64 cm, .int .i64 cl, .int .i64 cn, .int .i64 c] 98 (0, 0))) :
    Calls Try.prog 101 #[.pointer (some ⟨b, 0, none⟩)] w fun e w' =>
      e = .returned (.agg #[.int .i64 1, .int .i64 s, .int .i64 i, .int .i64 ck, .int .i64 cm, .int .i64 cl, .int .i64 cn, .int .i64 0, .int .i64 c, .int .i64 0]) ∧ Ext w w' := by
  have c0 : w.cell? ⟨b, 0, none⟩ = some (.int .i64 s) := cell_at h rfl
  have c1 : w.cell? ⟨b, 1, none⟩ = some (.int .i64 i) := cell_at h rfl
  have c2 : w.cell? ⟨b, 2, none⟩ = some (.int .i64 ck) := cell_at h rfl
  have c3 : w.cell? ⟨b, 3, none⟩ = some (.int .i64 cm) := cell_at h rfl
  have c4 : w.cell? ⟨b, 4, none⟩ = some (.int .i64 cl) := cell_at h rfl
  have c5 : w.cell? ⟨b, 5, none⟩ = some (.int .i64 cn) := cell_at h rfl
  have c6 : w.cell? ⟨b, 6, none⟩ = some (.int .i64 c) := cell_at h rfl
  have hlt : b < w.heap.size := (Array.getElem?_eq_some_iff.1 h).1
  clear h
  go_enter Try.func101, Try.ntmps101
  go_wp2
  go_region
  all_goals go_wp2
  all_goals refine bodyPost_ret (v := .agg #[.int .i64 1, .int .i64 s, .int .i64 i, .int .i64 ck, .int .i64 cm, .int .i64 cl, .int .i64 cn, .int .i64 0, .int .i64 c, .int .i64 0]) (by simp [results, Try.results101, go_sem]) rfl ⟨rfl, ?_⟩
  all_goals (repeat (first | exact Ext.refl _ | refine Ext.drew ?_ | refine Ext.alloc ?_ _ | refine Ext.setCell ?_ (by simp) _))

set_option maxRecDepth 100000 in
set_option maxHeartbeats 800000 in
theorem fetchPlain_c (b : Nat) (s ck cm cl cn f c p : Int) (w : World) (h : w.heap[b]? = some (.cells #[.int .i64 s, .int .i64 ck, .int .i64 cm, .int .i64 cl, .int .i64 cn, .int .i64 f, .int .i64 c, .int .i64 p] 101 (0, 0))) :
    Calls Try.prog 109 #[.pointer (some ⟨b, 0, none⟩)] w fun e w' =>
      e = .returned (.agg #[.int .i64 2, .int .i64 s, .int .i64 0, .int .i64 ck, .int .i64 cm, .int .i64 cl, .int .i64 cn, .int .i64 f, .int .i64 c, .int .i64 p]) ∧ Ext w w' := by
  have c0 : w.cell? ⟨b, 0, none⟩ = some (.int .i64 s) := cell_at h rfl
  have c1 : w.cell? ⟨b, 1, none⟩ = some (.int .i64 ck) := cell_at h rfl
  have c2 : w.cell? ⟨b, 2, none⟩ = some (.int .i64 cm) := cell_at h rfl
  have c3 : w.cell? ⟨b, 3, none⟩ = some (.int .i64 cl) := cell_at h rfl
  have c4 : w.cell? ⟨b, 4, none⟩ = some (.int .i64 cn) := cell_at h rfl
  have c5 : w.cell? ⟨b, 5, none⟩ = some (.int .i64 f) := cell_at h rfl
  have c6 : w.cell? ⟨b, 6, none⟩ = some (.int .i64 c) := cell_at h rfl
  have c7 : w.cell? ⟨b, 7, none⟩ = some (.int .i64 p) := cell_at h rfl
  have hlt : b < w.heap.size := (Array.getElem?_eq_some_iff.1 h).1
  clear h
  go_enter Try.func109, Try.ntmps109
  go_wp2
  go_region
  all_goals go_wp2
  all_goals refine bodyPost_ret (v := .agg #[.int .i64 2, .int .i64 s, .int .i64 0, .int .i64 ck, .int .i64 cm, .int .i64 cl, .int .i64 cn, .int .i64 f, .int .i64 c, .int .i64 p]) (by simp [results, Try.results109, go_sem]) rfl ⟨rfl, ?_⟩
  all_goals (repeat (first | exact Ext.refl _ | refine Ext.drew ?_ | refine Ext.alloc ?_ _ | refine Ext.setCell ?_ (by simp) _))

set_option maxRecDepth 100000 in
set_option maxHeartbeats 800000 in
theorem releasePlain_c (b : Nat) (s i : Int) (w : World) (h : w.heap[b]? = some (.cells #[.int .i64 s, .int .i64 i] 104 (0, 0))) :
    Calls Try.prog 111 #[.pointer (some ⟨b, 0, none⟩)] w fun e w' =>
      e = .returned (.agg #[.int .i64 3, .int .i64 s, .int .i64 i, .int .i64 0, .int .i64 0, .int .i64 0, .int .i64 0, .int .i64 0, .int .i64 0, .int .i64 0]) ∧ Ext w w' := by
  have c0 : w.cell? ⟨b, 0, none⟩ = some (.int .i64 s) := cell_at h rfl
  have c1 : w.cell? ⟨b, 1, none⟩ = some (.int .i64 i) := cell_at h rfl
  have hlt : b < w.heap.size := (Array.getElem?_eq_some_iff.1 h).1
  clear h
  go_enter Try.func111, Try.ntmps111
  go_wp2
  go_region
  all_goals go_wp2
  all_goals refine bodyPost_ret (v := .agg #[.int .i64 3, .int .i64 s, .int .i64 i, .int .i64 0, .int .i64 0, .int .i64 0, .int .i64 0, .int .i64 0, .int .i64 0, .int .i64 0]) (by simp [results, Try.results111, go_sem]) rfl ⟨rfl, ?_⟩
  all_goals (repeat (first | exact Ext.refl _ | refine Ext.drew ?_ | refine Ext.alloc ?_ _ | refine Ext.setCell ?_ (by simp) _))

set_option maxRecDepth 100000 in
set_option maxHeartbeats 800000 in
theorem statusPlain_c (b : Nat) (ck cm cl cn : Int) (w : World) (h : w.heap[b]? = some (.cells #[.int .i64 ck, .int .i64 cm, .int .i64 cl, .int .i64 cn] 107 (0, 0))) :
    Calls Try.prog 113 #[.pointer (some ⟨b, 0, none⟩)] w fun e w' =>
      e = .returned (.agg #[.int .i64 4, .int .i64 0, .int .i64 0, .int .i64 ck, .int .i64 cm, .int .i64 cl, .int .i64 cn, .int .i64 0, .int .i64 0, .int .i64 0]) ∧ Ext w w' := by
  have c0 : w.cell? ⟨b, 0, none⟩ = some (.int .i64 ck) := cell_at h rfl
  have c1 : w.cell? ⟨b, 1, none⟩ = some (.int .i64 cm) := cell_at h rfl
  have c2 : w.cell? ⟨b, 2, none⟩ = some (.int .i64 cl) := cell_at h rfl
  have c3 : w.cell? ⟨b, 3, none⟩ = some (.int .i64 cn) := cell_at h rfl
  have hlt : b < w.heap.size := (Array.getElem?_eq_some_iff.1 h).1
  clear h
  go_enter Try.func113, Try.ntmps113
  go_wp2
  all_goals go_wp2
  all_goals refine bodyPost_ret (v := .agg #[.int .i64 4, .int .i64 0, .int .i64 0, .int .i64 ck, .int .i64 cm, .int .i64 cl, .int .i64 cn, .int .i64 0, .int .i64 0, .int .i64 0]) (by simp [results, Try.results113, go_sem]) rfl ⟨rfl, ?_⟩
  all_goals (repeat (first | exact Ext.refl _ | refine Ext.drew ?_ | refine Ext.alloc ?_ _ | refine Ext.setCell ?_ (by simp) _))

end Go.Proofs.Ytmnjhhachdlmkaa
