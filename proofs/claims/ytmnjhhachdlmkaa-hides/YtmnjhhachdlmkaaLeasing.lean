import Derived.Test.YtmnjhhachdlmkaaNamed
import Derived.Test.YtmnjhhachdlmkaaWW1
namespace Go.Proofs.Ytmnjhhachdlmkaa
open Go.RowKit Go.Maps

theorem isCount_c (n : Int) (w : World) : Calls Try.prog 83 #[.int .i64 n] w fun e w' => e = .returned (.bool (decide (1 ≤ n) && decide (n ≤ 40))) ∧ w = w' := by
  go_enter Try.func83, Try.ntmps83
  go_wp2
  all_goals go_ret
  all_goals (refine ⟨ret_bool ?_, rfl⟩; simp [*]; try omega)

theorem and_c4 {a b : World} {p1 p2 p3 p4 : Addr} {v1 v2 v3 v4 : Value} (h1 : a.cell? p1 = some v1) (h2 : a.cell? p2 = some v2) (h3 : a.cell? p3 = some v3) (h4 : a.cell? p4 = some v4) (h : Ext a b) :
    (b.cell? p1 = some v1 ∧ b.cell? p2 = some v2 ∧ b.cell? p3 = some v3 ∧ b.cell? p4 = some v4) ∧ Ext a b := ⟨⟨h.cell h1, h.cell h2, h.cell h3, h.cell h4⟩, h⟩

/-- One stock of a class. -/
structure One (w : World) (B gk gs cs mb : Nat) (lv dv : Value) (kd m k n : Int) (made leased : Int) : Prop where
  deal : DealAt w B (.slice (some ⟨gs, 0, none⟩) 1 cs) lv dv false 0 true
  row : w.cell? ⟨gs, 0, none⟩ = some (.pointer (some ⟨gk, 0, none⟩))
  stk : w.heap[gk]? = some (.cells #[.int .i64 kd, .int .i64 m, .int .i64 k, .int .i64 n, .int .i64 made, .int .i64 leased, .map (some mb)] 171 (0, 0))
theorem One.ext {w w' : World} {B gk gs cs mb : Nat} {lv dv : Value} {kd m k n made leased : Int} (h : One w B gk gs cs mb lv dv kd m k n made leased) (hx : Ext w w') : One w' B gk gs cs mb lv dv kd m k n made leased :=
  ⟨hx.block h.deal, hx.cell h.row, hx.block h.stk⟩
theorem One.find {w : World} {B gk gs cs mb : Nat} {lv dv : Value} {kd m k n made leased : Int} (h : One w B gk gs cs mb lv dv kd m k n made leased) :
    Calls Try.prog 78 #[.pointer (some ⟨B, 0, none⟩), .agg #[.int .i64 kd, .int .i64 m, .int .i64 k, .int .i64 n]] w fun e w' => e = .returned (.pointer (some ⟨gk, 0, none⟩)) ∧ Ext w w' := by
  have hs : StocksAt w (.slice (some ⟨gs, 0, none⟩) 1 cs) [⟨gk, kd, m, k, n⟩] := by
    refine ⟨.inr ⟨gs, cs, rfl, ?_⟩, ?_⟩
    · intro i hi
      simp at hi
      subst hi
      exact h.row
    · intro s hs
      simp at hs
      subst hs
      refine ⟨?_, ?_, ?_, ?_⟩
      · rw [cell_of_row w _ 0 _ _ _ h.stk]; rfl
      · rw [cell_of_row w _ 1 _ _ _ h.stk]; rfl
      · rw [cell_of_row w _ 2 _ _ _ h.stk]; rfl
      · rw [cell_of_row w _ 3 _ _ _ h.stk]; rfl
  have := find_c B [⟨gk, kd, m, k, n⟩] kd m k n _ lv dv false 0 true w h.deal hs (by simp)
  have e : foundV [⟨gk, kd, m, k, n⟩] kd m k n = .pointer (some ⟨gk, 0, none⟩) := found_at _ 0 (by simp) (by simp) (by simp [StkV.is])
  rw [e] at this
  exact this

set_option maxRecDepth 100000 in
set_option maxHeartbeats 1600000 in
theorem leasingAgainst_c (B gk gs cs mb rb : Nat) (dv : Value) (kd m k n ss ii : Int) (w : World) (h : One w B gk gs cs mb (.slice none 0 0) dv kd m k n 1 0)
    (hr : w.heap[rb]? = some (.cells #[.int .i64 ss, .int .i64 ii, .int .i64 kd, .int .i64 m, .int .i64 k, .int .i64 n, .int .i64 1] 98 (0, 0))) :
    Calls Try.prog 126 #[.agg #[.pointer (some ⟨rb, 0, none⟩)], .pointer (some ⟨B, 0, none⟩)] w fun e w' => e = .returned (.int .i64 0) ∧ Ext w w' := by
  have H : Hid _ := h
  have HR : Hid _ := hr
  have r0 := cell_at hr (i := 0) rfl
  have r1 := cell_at hr (i := 1) rfl
  have r2 := cell_at hr (i := 2) rfl
  have r3 := cell_at hr (i := 3) rfl
  have r4 := cell_at hr (i := 4) rfl
  have r5 := cell_at hr (i := 5) rfl
  have r6 := cell_at hr (i := 6) rfl
  have hrl := World.block_lt_of_cell? w _ r0
  clear h hr
  go_enter Try.func126, Try.ntmps126
  go_wp2_with fail
  refine (One.find (H.out.ext ((Ext.refl w).alloc _))).mono ?_
  rintro e w1 ⟨rfl, hx1⟩
  have q0 := cell_in hx1 0 rfl
  have HX1 : Hid (Ext w w1) := ((Ext.refl w).alloc _).trans hx1
  have HR1 : Hid (w1.heap[rb]? = _) := HX1.out.block HR.out
  have H1 : Hid _ := H.out.ext HX1.out
  have r0 := HX1.out.cell r0
  have r1 := HX1.out.cell r1
  have r6 := HX1.out.cell r6
  have k4 : w1.cell? ⟨gk, 4, none⟩ = some (.int .i64 1) := cell_at H1.out.stk rfl
  have k5 : w1.cell? ⟨gk, 5, none⟩ = some (.int .i64 0) := cell_at H1.out.stk rfl
  obtain ⟨_, c1, _⟩ := DealAt.cells H1.out.deal
  clear hx1 r2 r3 r4 r5
  go_wp2_with fail
  go_region_held3 (fun w' => (w'.cell? ⟨w.heap.size, 0, none⟩ = some (.pointer (some ⟨rb, 0, none⟩)) ∧ w'.cell? ⟨rb, 0, none⟩ = some (.int .i64 ss) ∧ w'.cell? ⟨rb, 1, none⟩ = some (.int .i64 ii) ∧ w'.cell? ⟨rb, 6, none⟩ = some (.int .i64 1)) ∧ Ext w1 w')
    ((refine and_c4 q0 r0 r1 r6 ?_; (repeat (first | with_reducible exact Ext.refl _ | with_reducible assumption | with_reducible refine Ext.drew ?_ | with_reducible refine Ext.alloc ?_ _ | with_reducible (apply Ext.chain; assumption))); done))
    (first | (go_at_call 75; refine (named0_c B ss ii _ dv false 0 true _ (Ext.block ((Ext.refl w1).drew) H1.out.deal)).mono ?_; rintro e w1' ⟨rfl, rfl⟩))
  rename_i hh
  have hD : Ext w1 w1.drew := hh.2
  clear hh
  generalize w1.drew = w2 at hD ⊢
  have HX2 : Hid (Ext w w2) := HX1.out.trans hD
  have H2 : Hid _ := H1.out.ext hD
  have q0 := hD.cell q0
  have r6 := hD.cell r6
  have k4 := hD.cell k4
  have k5 := hD.cell k5
  have c1 := hD.cell c1
  clear hD r0 r1
  go_wp2_with fail
  refine (isCount_c 1 w2).mono ?_
  rintro e w1' ⟨rfl, rfl⟩
  go_wp2
  go_region_held3 (fun w' => (w'.cell? ⟨w.heap.size, 0, none⟩ = some (.pointer (some ⟨rb, 0, none⟩)) ∧ w'.cell? ⟨gk, 4, none⟩ = some (.int .i64 1) ∧ w'.cell? ⟨gk, 5, none⟩ = some (.int .i64 0) ∧ w'.cell? ⟨rb, 6, none⟩ = some (.int .i64 1)) ∧ Ext w2 w')
    ((refine and_c4 q0 k4 k5 r6 ?_; (repeat (first | with_reducible exact Ext.refl _ | with_reducible assumption | with_reducible refine Ext.drew ?_ | with_reducible refine Ext.alloc ?_ _ | with_reducible (apply Ext.chain; assumption))); done))
    (fail)
  rename_i hh
  have hD : Ext w2 w2.drew := hh.2
  clear hh
  generalize w2.drew = w3 at hD ⊢
  have HX3 : Hid (Ext w w3) := HX2.out.trans hD
  have c1 := hD.cell c1
  clear hD
  go_wp2
  go_ret
  exact ⟨rfl, HX3.out⟩

theorem infoLease : (Try.prog.info? 158).map (fun i => (i.zero, i.size, i.bytes)) = some (some (.agg #[.int .i64 0, .int .i64 0, .int .i64 0, .int .i64 0, .int .i64 0, .int .i64 0, .int .i64 0, .int .i64 0, .bool false]), 9, 72) := by kernel_rfl

set_option maxRecDepth 100000 in
set_option maxHeartbeats 3200000 in
theorem leasingApply_c (B gk gs cs mb rb : Nat) (dv : Value) (kd m k n ss ii : Int) (hBgs : B ≠ gs) (hgkgs : gk ≠ gs) (w : World) (h : One w B gk gs cs mb (.slice none 0 0) dv kd m k n 1 0)
    (hr : w.heap[rb]? = some (.cells #[.int .i64 ss, .int .i64 ii, .int .i64 kd, .int .i64 m, .int .i64 k, .int .i64 n, .int .i64 1] 98 (0, 0))) :
    Calls Try.prog 127 #[.agg #[.pointer (some ⟨rb, 0, none⟩)], .pointer (some ⟨B, 0, none⟩)] w fun e w' => ∃ g cap, e = .returned (.tuple #[]) ∧ One w' B gk gs cs mb (.slice (some ⟨g, 0, none⟩) 1 cap) dv kd m k n 1 1 ∧
      (∀ i v, (LsV.cells ⟨ss, ii, kd, m, k, n, 0, 1, false⟩)[i]? = some v → w'.cell? ⟨g, i, none⟩ = some v) ∧ Turn (fun b => b = B ∨ b = gk) w w' ∧ w.heap.size ≤ g := by
  have H : Hid _ := h
  have HR : Hid _ := hr
  have r0 := cell_at hr (i := 0) rfl
  have r1 := cell_at hr (i := 1) rfl
  have r2 := cell_at hr (i := 2) rfl
  have r3 := cell_at hr (i := 3) rfl
  have r4 := cell_at hr (i := 4) rfl
  have r5 := cell_at hr (i := 5) rfl
  have r6 := cell_at hr (i := 6) rfl
  have hrl := World.block_lt_of_cell? w _ r0
  clear h hr
  go_enter Try.func127, Try.ntmps127
  go_wp2_with fail
  refine (One.find (H.out.ext ((Ext.refl w).alloc _))).mono ?_
  rintro e w1 ⟨rfl, hx1⟩
  have q0 := cell_in hx1 0 rfl
  have HX1 : Hid (Ext w w1) := ((Ext.refl w).alloc _).trans hx1
  have HR1 : Hid (w1.heap[rb]? = _) := HX1.out.block HR.out
  have H1 : Hid _ := H.out.ext HX1.out
  have r0 := HX1.out.cell r0
  have r1 := HX1.out.cell r1
  have r2 := HX1.out.cell r2
  have r3 := HX1.out.cell r3
  have r4 := HX1.out.cell r4
  have r5 := HX1.out.cell r5
  have r6 := HX1.out.cell r6
  have k5 : w1.cell? ⟨gk, 5, none⟩ = some (.int .i64 0) := cell_at H1.out.stk rfl
  obtain ⟨_, c1, _⟩ := DealAt.cells H1.out.deal
  clear hx1
  go_wp2_with fail
  refine wp_region_held_drew (S := (fun w' => w'.cell? ⟨w.heap.size, 0, none⟩ = some (.pointer (some ⟨rb, 0, none⟩)) ∧ w'.cell? ⟨rb, 0, none⟩ = some (.int .i64 ss) ∧ w'.cell? ⟨rb, 1, none⟩ = some (.int .i64 ii) ∧ w'.cell? ⟨rb, 2, none⟩ = some (.int .i64 kd) ∧ w'.cell? ⟨rb, 3, none⟩ = some (.int .i64 m) ∧ w'.cell? ⟨rb, 4, none⟩ = some (.int .i64 k) ∧ w'.cell? ⟨rb, 5, none⟩ = some (.int .i64 n) ∧ w'.cell? ⟨rb, 6, none⟩ = some (.int .i64 1) ∧ w'.cell? ⟨gk, 5, none⟩ = some (.int .i64 0))) (by kernel_rfl) ⟨q0, r0, r1, r2, r3, r4, r5, r6, k5⟩ (fun hHeld => ?_)
  refine wpAnyH_take (i := 0) (oi := _) (v := ?v0) rfl (by kernel_rfl) (by kernel_rfl) (by kernel_rfl) (fun _ _ _ h => h) (Or.inl ⟨by rfl, ?hy⟩) hHeld ?_
  case hy => (intro w hSw; (try dsimp only at hSw); go_simp; try with_reducible rfl)
  try simp only [Act.put, List.getElem_toArray, List.getElem_cons_zero, List.setIfInBounds_toArray, List.set_cons_zero, List.set_cons_succ]
  refine wpAnyH_take (i := 1) (oi := _) (v := ?v1) rfl (by kernel_rfl) (by kernel_rfl) (by kernel_rfl) (fun _ _ _ h => h) (Or.inl ⟨by rfl, ?hy⟩) hHeld ?_
  case hy => (intro w hSw; (try dsimp only at hSw); go_simp; try with_reducible rfl)
  try simp only [Act.put, List.getElem_toArray, List.getElem_cons_succ, List.getElem_cons_zero, List.setIfInBounds_toArray, List.set_cons_zero, List.set_cons_succ]
  refine wpAnyH_take (i := 2) (oi := _) (v := ?v2) rfl (by kernel_rfl) (by kernel_rfl) (by kernel_rfl) (fun _ _ _ h => h) (Or.inl ⟨by rfl, ?hy⟩) hHeld ?_
  case hy => (intro w hSw; (try dsimp only at hSw); go_simp; try with_reducible rfl)
  try simp only [Act.put, List.getElem_toArray, List.getElem_cons_succ, List.getElem_cons_zero, List.setIfInBounds_toArray, List.set_cons_zero, List.set_cons_succ]
  refine wpAnyH_take (i := 3) (oi := _) (v := ?v3) rfl (by kernel_rfl) (by kernel_rfl) (by kernel_rfl) (fun _ _ _ h => h) (Or.inl ⟨by rfl, ?hy⟩) hHeld ?_
  case hy => (intro w hSw; (try dsimp only at hSw); go_simp; try with_reducible rfl)
  try simp only [Act.put, List.getElem_toArray, List.getElem_cons_succ, List.getElem_cons_zero, List.setIfInBounds_toArray, List.set_cons_zero, List.set_cons_succ]
  refine wpAnyH_take (i := 5) (oi := _) (v := ?v5) rfl (by kernel_rfl) (by kernel_rfl) (by kernel_rfl) (fun _ _ _ h => h) (Or.inl ⟨by rfl, ?hy⟩) hHeld ?_
  case hy => (intro w hSw; (try dsimp only at hSw); go_simp; try with_reducible rfl)
  try simp only [Act.put, List.getElem_toArray, List.getElem_cons_succ, List.getElem_cons_zero, List.setIfInBounds_toArray, List.set_cons_zero, List.set_cons_succ]
  refine wpAnyH_take (i := 6) (oi := _) (v := ?v6) rfl (by kernel_rfl) (by kernel_rfl) (by kernel_rfl) (fun _ _ _ h => h) (Or.inl ⟨by rfl, ?hy⟩) hHeld ?_
  case hy => (intro w hSw; (try dsimp only at hSw); go_simp; try with_reducible rfl)
  try simp only [Act.put, List.getElem_toArray, List.getElem_cons_succ, List.getElem_cons_zero, List.setIfInBounds_toArray, List.set_cons_zero, List.set_cons_succ]
  refine wpAnyH_take (i := 7) (oi := _) (v := ?v7) rfl (by kernel_rfl) (by kernel_rfl) (by kernel_rfl) (fun _ _ _ h => h) (Or.inl ⟨by rfl, ?hy⟩) hHeld ?_
  case hy => (intro w hSw; (try dsimp only at hSw); go_simp; try with_reducible rfl)
  try simp only [Act.put, List.getElem_toArray, List.getElem_cons_succ, List.getElem_cons_zero, List.setIfInBounds_toArray, List.set_cons_zero, List.set_cons_succ]
  refine wpAnyH_take (i := 8) (oi := _) (v := ?v8) rfl (by kernel_rfl) (by kernel_rfl) (by kernel_rfl) (fun _ _ _ h => h) (Or.inl ⟨by rfl, ?hy⟩) hHeld ?_
  case hy => (intro w hSw; (try dsimp only at hSw); go_simp; try with_reducible rfl)
  try simp only [Act.put, List.getElem_toArray, List.getElem_cons_succ, List.getElem_cons_zero, List.setIfInBounds_toArray, List.set_cons_zero, List.set_cons_succ]
  refine wpAnyH_take (i := 9) (oi := _) (v := ?v9) rfl (by kernel_rfl) (by kernel_rfl) (by kernel_rfl) (fun _ _ _ h => h) (Or.inl ⟨by rfl, ?hy⟩) hHeld ?_
  case hy => (intro w hSw; (try dsimp only at hSw); go_simp; try with_reducible rfl)
  try simp only [Act.put, List.getElem_toArray, List.getElem_cons_succ, List.getElem_cons_zero, List.setIfInBounds_toArray, List.set_cons_zero, List.set_cons_succ]
  refine wpAnyH_take (i := 10) (oi := _) (v := ?v10) rfl (by kernel_rfl) (by kernel_rfl) (by kernel_rfl) (fun _ _ _ h => h) (Or.inl ⟨by rfl, ?hy⟩) hHeld ?_
  case hy => (intro w hSw; (try dsimp only at hSw); go_simp; try with_reducible rfl)
  try simp only [Act.put, List.getElem_toArray, List.getElem_cons_succ, List.getElem_cons_zero, List.setIfInBounds_toArray, List.set_cons_zero, List.set_cons_succ]
  refine wpAnyH_take (i := 11) (oi := _) (v := ?v11) rfl (by kernel_rfl) (by kernel_rfl) (by kernel_rfl) (fun _ _ _ h => h) (Or.inl ⟨by rfl, ?hy⟩) hHeld ?_
  case hy => (intro w hSw; (try dsimp only at hSw); go_simp; try with_reducible rfl)
  try simp only [Act.put, List.getElem_toArray, List.getElem_cons_succ, List.getElem_cons_zero, List.setIfInBounds_toArray, List.set_cons_zero, List.set_cons_succ]
  refine wpAnyH_take (i := 12) (oi := _) (v := ?v12) rfl (by kernel_rfl) (by kernel_rfl) (by kernel_rfl) (fun _ _ _ h => h) (Or.inl ⟨by rfl, ?hy⟩) hHeld ?_
  case hy => (intro w hSw; (try dsimp only at hSw); go_simp; try with_reducible rfl)
  try simp only [Act.put, List.getElem_toArray, List.getElem_cons_succ, List.getElem_cons_zero, List.setIfInBounds_toArray, List.set_cons_zero, List.set_cons_succ]
  refine wpAnyH_take (i := 13) (oi := _) (v := ?v13) rfl (by kernel_rfl) (by kernel_rfl) (by kernel_rfl) (fun _ _ _ h => h) (Or.inl ⟨by rfl, ?hy⟩) hHeld ?_
  case hy => (intro w hSw; (try dsimp only at hSw); go_simp; try with_reducible rfl)
  try simp only [Act.put, List.getElem_toArray, List.getElem_cons_succ, List.getElem_cons_zero, List.setIfInBounds_toArray, List.set_cons_zero, List.set_cons_succ]
  refine wpAnyH_take (i := 14) (oi := _) (v := ?v14) rfl (by kernel_rfl) (by kernel_rfl) (by kernel_rfl) (fun _ _ _ h => h) (Or.inl ⟨by rfl, ?hy⟩) hHeld ?_
  case hy => (intro w hSw; (try dsimp only at hSw); go_simp; try with_reducible rfl)
  try simp only [Act.put, List.getElem_toArray, List.getElem_cons_succ, List.getElem_cons_zero, List.setIfInBounds_toArray, List.set_cons_zero, List.set_cons_succ]
  refine wpAnyH_take (i := 15) (oi := _) (v := ?v15) rfl (by kernel_rfl) (by kernel_rfl) (by kernel_rfl) (fun _ _ _ h => h) (Or.inl ⟨by rfl, ?hy⟩) hHeld ?_
  case hy => (intro w hSw; (try dsimp only at hSw); go_simp; try with_reducible rfl)
  try simp only [Act.put, List.getElem_toArray, List.getElem_cons_succ, List.getElem_cons_zero, List.setIfInBounds_toArray, List.set_cons_zero, List.set_cons_succ]
  refine wpAnyH_take (i := 16) (oi := _) (v := ?v16) rfl (by kernel_rfl) (by kernel_rfl) (by kernel_rfl) (fun _ _ _ h => h) (Or.inl ⟨by rfl, ?hy⟩) hHeld ?_
  case hy => (intro w hSw; (try dsimp only at hSw); go_simp; try with_reducible rfl)
  try simp only [Act.put, List.getElem_toArray, List.getElem_cons_succ, List.getElem_cons_zero, List.setIfInBounds_toArray, List.set_cons_zero, List.set_cons_succ]
  refine wpAnyH_take (i := 17) (oi := _) (v := ?v17) rfl (by kernel_rfl) (by kernel_rfl) (by kernel_rfl) (fun _ _ _ h => h) (Or.inl ⟨by rfl, ?hy⟩) hHeld ?_
  case hy => (intro w hSw; (try dsimp only at hSw); go_simp; try with_reducible rfl)
  try simp only [Act.put, List.getElem_toArray, List.getElem_cons_succ, List.getElem_cons_zero, List.setIfInBounds_toArray, List.set_cons_zero, List.set_cons_succ]
  refine wpAnyH_take (i := 18) (oi := _) (v := ?v18) rfl (by kernel_rfl) (by kernel_rfl) (by kernel_rfl) (fun _ _ _ h => h) (Or.inl ⟨by rfl, ?hy⟩) hHeld ?_
  case hy => (intro w hSw; (try dsimp only at hSw); go_simp; try with_reducible rfl)
  try simp only [Act.put, List.getElem_toArray, List.getElem_cons_succ, List.getElem_cons_zero, List.setIfInBounds_toArray, List.set_cons_zero, List.set_cons_succ]
  refine wpAnyH_take (i := 19) (oi := _) (v := ?v19) rfl (by kernel_rfl) (by kernel_rfl) (by kernel_rfl) (fun _ _ _ h => h) (Or.inl ⟨by rfl, ?hy⟩) hHeld ?_
  case hy => (intro w hSw; (try dsimp only at hSw); go_simp; try with_reducible rfl)
  try simp only [Act.put, List.getElem_toArray, List.getElem_cons_succ, List.getElem_cons_zero, List.setIfInBounds_toArray, List.set_cons_zero, List.set_cons_succ]
  refine wpAnyH_take (i := 20) (oi := _) (v := ?v20) rfl (by kernel_rfl) (by kernel_rfl) (by kernel_rfl) (fun _ _ _ h => h) (Or.inl ⟨by rfl, ?hy⟩) hHeld ?_
  case hy => (intro w hSw; (try dsimp only at hSw); go_simp; try with_reducible rfl)
  try simp only [Act.put, List.getElem_toArray, List.getElem_cons_succ, List.getElem_cons_zero, List.setIfInBounds_toArray, List.set_cons_zero, List.set_cons_succ]
  refine wpAnyH_take (i := 21) (oi := _) (v := ?v21) rfl (by kernel_rfl) (by kernel_rfl) (by kernel_rfl) (fun _ _ _ h => h) (Or.inl ⟨by rfl, ?hy⟩) hHeld ?_
  case hy => (intro w hSw; (try dsimp only at hSw); go_simp; try with_reducible rfl)
  try simp only [Act.put, List.getElem_toArray, List.getElem_cons_succ, List.getElem_cons_zero, List.setIfInBounds_toArray, List.set_cons_zero, List.set_cons_succ]
  refine wpAnyH_take (i := 22) (oi := _) (v := ?v22) rfl (by kernel_rfl) (by kernel_rfl) (by kernel_rfl) (fun _ _ _ h => h) (Or.inl ⟨by rfl, ?hy⟩) hHeld ?_
  case hy => (intro w hSw; (try dsimp only at hSw); go_simp; try with_reducible rfl)
  try simp only [Act.put, List.getElem_toArray, List.getElem_cons_succ, List.getElem_cons_zero, List.setIfInBounds_toArray, List.set_cons_zero, List.set_cons_succ]
  refine wpAnyH_take (i := 23) (oi := _) (v := ?v23) rfl (by kernel_rfl) (by kernel_rfl) (by kernel_rfl) (fun _ _ _ h => h) (Or.inl ⟨by rfl, ?hy⟩) hHeld ?_
  case hy => (intro w hSw; (try dsimp only at hSw); go_simp; try with_reducible rfl)
  try simp only [Act.put, List.getElem_toArray, List.getElem_cons_succ, List.getElem_cons_zero, List.setIfInBounds_toArray, List.set_cons_zero, List.set_cons_succ]
  refine wpAnyH_take (i := 24) (oi := _) (v := ?v24) rfl (by kernel_rfl) (by kernel_rfl) (by kernel_rfl) (fun _ _ _ h => h) (Or.inl ⟨by rfl, ?hy⟩) hHeld ?_
  case hy => (intro w hSw; (try dsimp only at hSw); go_simp; try with_reducible rfl)
  try simp only [Act.put, List.getElem_toArray, List.getElem_cons_succ, List.getElem_cons_zero, List.setIfInBounds_toArray, List.set_cons_zero, List.set_cons_succ]
  refine wpAnyH_take (i := 25) (oi := _) (v := ?v25) rfl (by kernel_rfl) (by kernel_rfl) (by kernel_rfl) (fun _ _ _ h => h) (Or.inl ⟨by rfl, ?hy⟩) hHeld ?_
  case hy => (intro w hSw; (try dsimp only at hSw); go_simp; try with_reducible rfl)
  try simp only [Act.put, List.getElem_toArray, List.getElem_cons_succ, List.getElem_cons_zero, List.setIfInBounds_toArray, List.set_cons_zero, List.set_cons_succ]
  refine wpAnyH_take (i := 26) (oi := _) (v := ?v26) rfl (by kernel_rfl) (by kernel_rfl) (by kernel_rfl) (fun _ _ _ h => h) (Or.inl ⟨by rfl, ?hy⟩) hHeld ?_
  case hy => (intro w hSw; (try dsimp only at hSw); go_simp; try with_reducible rfl)
  try simp only [Act.put, List.getElem_toArray, List.getElem_cons_succ, List.getElem_cons_zero, List.setIfInBounds_toArray, List.set_cons_zero, List.set_cons_succ]
  refine wpAnyH_take (i := 27) (oi := _) (v := ?v27) rfl (by kernel_rfl) (by kernel_rfl) (by kernel_rfl) (fun _ _ _ h => h) (Or.inl ⟨by rfl, ?hy⟩) hHeld ?_
  case hy => (intro w hSw; (try dsimp only at hSw); go_simp; try with_reducible rfl)
  try simp only [Act.put, List.getElem_toArray, List.getElem_cons_succ, List.getElem_cons_zero, List.setIfInBounds_toArray, List.set_cons_zero, List.set_cons_succ]
  refine wpAnyH_take (i := 28) (oi := _) (v := ?v28) rfl (by kernel_rfl) (by kernel_rfl) (by kernel_rfl) (fun _ _ _ h => h) (Or.inl ⟨by rfl, ?hy⟩) hHeld ?_
  case hy => (intro w hSw; (try dsimp only at hSw); go_simp; try with_reducible rfl)
  try simp only [Act.put, List.getElem_toArray, List.getElem_cons_succ, List.getElem_cons_zero, List.setIfInBounds_toArray, List.set_cons_zero, List.set_cons_succ]
  refine wpAnyH_take (i := 29) (oi := _) (v := ?v29) rfl (by kernel_rfl) (by kernel_rfl) (by kernel_rfl) (fun _ _ _ h => h) (Or.inl ⟨by rfl, ?hy⟩) hHeld ?_
  case hy => (intro w hSw; (try dsimp only at hSw); go_simp; try with_reducible rfl)
  try simp only [Act.put, List.getElem_toArray, List.getElem_cons_succ, List.getElem_cons_zero, List.setIfInBounds_toArray, List.set_cons_zero, List.set_cons_succ]
  have hB1 := DealAt.lt H1.out.deal
  have SD : Hid (∀ w', Ext w1 w' → (fun w' => w'.cell? ⟨w.heap.size, 0, none⟩ = some (.pointer (some ⟨rb, 0, none⟩)) ∧ w'.cell? ⟨rb, 0, none⟩ = some (.int .i64 ss) ∧ w'.cell? ⟨rb, 1, none⟩ = some (.int .i64 ii) ∧ w'.cell? ⟨rb, 2, none⟩ = some (.int .i64 kd) ∧ w'.cell? ⟨rb, 3, none⟩ = some (.int .i64 m) ∧ w'.cell? ⟨rb, 4, none⟩ = some (.int .i64 k) ∧ w'.cell? ⟨rb, 5, none⟩ = some (.int .i64 n) ∧ w'.cell? ⟨rb, 6, none⟩ = some (.int .i64 1) ∧ w'.cell? ⟨gk, 5, none⟩ = some (.int .i64 0)) w') := fun w' hx => ⟨hx.cell q0, hx.cell r0, hx.cell r1, hx.cell r2, hx.cell r3, hx.cell r4, hx.cell r5, hx.cell r6, hx.cell k5⟩
  have hlw := World.block_lt_of_cell? w1 _ q0
  have hnw : B ≠ w.heap.size := by have := DealAt.lt H.out.deal; omega
  have hnr : B ≠ rb := fun e => by have h1 := H.out.deal; have h2 := HR.out; unfold DealAt at h1; rw [e, h2] at h1; simp at h1
  have hnk : B ≠ gk := fun e => by have h1 := H.out.deal; have h2 := H.out.stk; unfold DealAt at h1; rw [e, h2] at h1; simp at h1
  have hns : B ≠ gs := hBgs
  obtain ⟨i0, hi, hz0, hz1, hz2⟩ := info_parts infoLease
  have hrl1 := World.block_lt_of_cell? w1 _ r0
  have hkl1 := World.block_lt_of_cell? w1 _ k5
  refine wpAnyH_ready (rs := [4, 30]) (by kernel_rfl) (by simp) ?_
  refine AllReadyH.cons (o := _) rfl (fun K hK => ?_) (AllReadyH.cons (o := _) rfl (fun K hK => ?_) AllReadyH.nil)
  · (try simp only [List.getElem_toArray, List.getElem_cons_succ, List.getElem_cons_zero])
    go_simp
    refine hK.out _ _ ?hs1 (fun hHeld => ?_)
    case hs1 => exact SD.out _ (Ext.drew (Ext.refl _))
    clear hK K
    try simp only [Act.put, List.getElem_toArray, List.getElem_cons_succ, List.getElem_cons_zero, List.setIfInBounds_toArray, List.set_cons_zero, List.set_cons_succ]
    refine wpAnyH_ready (rs := [30]) (by kernel_rfl) (by simp) ?_
    refine AllReadyH.cons (o := _) rfl (fun K hK => ?_) AllReadyH.nil
    (try simp only [List.getElem_toArray, List.getElem_cons_succ, List.getElem_cons_zero])
    go_simp
    refine hK.out _ _ ?hs2 (fun hHeld => ?_)
    case hs2 => exact SD.out _ (Ext.drew (Ext.alloc (Ext.refl _) _))
    clear hK K
    try simp only [Act.put, List.getElem_toArray, List.getElem_cons_succ, List.getElem_cons_zero, List.setIfInBounds_toArray, List.set_cons_zero, List.set_cons_succ]
    refine wpAnyH_ready (rs := [31]) (by kernel_rfl) (by simp) ?_
    refine AllReadyH.cons (o := _) rfl (fun K hK => ?_) AllReadyH.nil
    refine step_append_lies _ (by rfl) _ _ 85 (by rfl) w.heap.size 158 i0 _ 9 72 Try.underlying85 hi hz0 hz1 hz2 (by rfl) (by decide) (.slice none 0 0) 0 [] (by rfl) (World.ownsRow_nil _ _ _ _) ⟨_, 0, none⟩ 1 1 (LsV.cells ⟨ss, ii, kd, m, k, n, 0, 1, false⟩) (by rfl) (by rfl) (World.news_of_block (at_drew (heap_alloc_new _ _))) (by simp [Value.oneCell', LsV.cells]) (by decide) (by simp [maxLen]) (by omega) ?hbase _ rfl ?_
    case hbase => exact Nat.le_trans HX1.out.le (Ext.le (Ext.drew (Ext.alloc (Ext.refl _) _)))
    intro g cap3 w2 hown2 hgrow hat hlt2
    have hx2 : Ext w1 w2 := Ext.grown (Ext.drew (Ext.alloc (Ext.refl _) _)) hgrow (by simp [Value.ownBlock])
    have HX2 : Hid (Ext w1 w2) := hx2
    have HD2 : Hid (One w2 B gk gs cs mb (.slice none 0 0) dv kd m k n 1 0) := H1.out.ext hx2
    have c1b := (DealAt.cells HD2.out.deal).2.1
    have f1b := frozen_row HD2.out.deal 1
    have HOW : Hid (w2.ownsRow w.heap.size 158 9 (.slice (some ⟨g, 0, none⟩) 1 cap3) 1 (LsV.cells ⟨ss, ii, kd, m, k, n, 0, 1, false⟩)) := hown2
    have HG : Hid (w1.heap.size < g) := by
      show w1.heap.size < g
      rcases hat with h | h
      · simp [Value.ownBlock] at h
      · rw [h]; simp
    refine hK.out _ _ ?hs3 (fun hHeld => ?_)
    case hs3 => exact SD.out _ hx2
    clear hK K hown2 hgrow hat hx2
    try simp only [Act.put, List.getElem_toArray, List.getElem_cons_succ, List.getElem_cons_zero, List.setIfInBounds_toArray, List.set_cons_zero, List.set_cons_succ]
    refine wpAnyH_take (i := 32) (oi := _) (v := ?v32) rfl (by kernel_rfl) (by kernel_rfl) (by kernel_rfl) (fun _ _ _ h => h) (Or.inl ⟨by rfl, ?hy⟩) hHeld ?_
    case hy => (intro w hSw; (try dsimp only at hSw); go_simp; try with_reducible rfl)
    try simp only [Act.put, List.getElem_toArray, List.getElem_cons_succ, List.getElem_cons_zero, List.setIfInBounds_toArray, List.set_cons_zero, List.set_cons_succ]
    refine wpAnyH_take (i := 33) (oi := _) (v := ?v33) rfl (by kernel_rfl) (by kernel_rfl) (by kernel_rfl) (fun _ _ _ h => h) (Or.inl ⟨by rfl, ?hy⟩) hHeld ?_
    case hy => (intro w hSw; (try dsimp only at hSw); go_simp; try with_reducible rfl)
    try simp only [Act.put, List.getElem_toArray, List.getElem_cons_succ, List.getElem_cons_zero, List.setIfInBounds_toArray, List.set_cons_zero, List.set_cons_succ]
    refine wpAnyH_ready (rs := [34]) (by kernel_rfl) (by simp) ?_
    refine AllReadyH.cons (o := _) rfl (fun K hK => ?_) AllReadyH.nil
    (try simp only [List.getElem_toArray, List.getElem_cons_succ, List.getElem_cons_zero])
    go_simp
    refine hK.out _ _ ?hs4 (fun hHeld => ?_)
    case hs4 =>
      have h1 := SD.out _ HX2.out
      obtain ⟨s0, s1, s2, s3, s4, s5, s6, s7, s8⟩ := h1
      exact ⟨(World.cell?_setCell_far _ _ _ _ hnw).trans s0, (World.cell?_setCell_far _ _ _ _ hnr).trans s1, (World.cell?_setCell_far _ _ _ _ hnr).trans s2, (World.cell?_setCell_far _ _ _ _ hnr).trans s3, (World.cell?_setCell_far _ _ _ _ hnr).trans s4, (World.cell?_setCell_far _ _ _ _ hnr).trans s5, (World.cell?_setCell_far _ _ _ _ hnr).trans s6, (World.cell?_setCell_far _ _ _ _ hnr).trans s7, (World.cell?_setCell_far _ _ _ _ hnk).trans s8⟩
    clear hK K
    try simp only [Act.put, List.getElem_toArray, List.getElem_cons_succ, List.getElem_cons_zero, List.setIfInBounds_toArray, List.set_cons_zero, List.set_cons_succ]
    refine wpAnyH_done (by kernel_rfl) ?_ _
    have q0 := hHeld.1
    have r6 := hHeld.2.2.2.2.2.2.2.1
    have k5 := hHeld.2.2.2.2.2.2.2.2
    have HB3 : Hid ((w2.setCell ⟨B, 1, none⟩ (.slice (some ⟨g, 0, none⟩) 1 cap3)).heap[gk]? = some (.cells #[.int .i64 kd, .int .i64 m, .int .i64 k, .int .i64 n, .int .i64 1, .int .i64 0, .map (some mb)] 171 (0, 0))) := (Below.heap_setCell _ _ _ gk (by show gk ≠ B; exact fun e => hnk e.symm)).trans HD2.out.stk
    have f5 := frozen_row HB3.out 5
    have HD3 : Hid (DealAt (w2.setCell ⟨B, 1, none⟩ (.slice (some ⟨g, 0, none⟩) 1 cap3)) B (.slice (some ⟨gs, 0, none⟩) 1 cs) (.slice (some ⟨g, 0, none⟩) 1 cap3) dv false 0 true) := setCell_row HD2.out.deal _
    have hgB : g ≠ B := by have := HG.out; omega
    have HOW3 : Hid ((w2.setCell ⟨B, 1, none⟩ (.slice (some ⟨g, 0, none⟩) 1 cap3)).ownsRow w.heap.size 158 9 (.slice (some ⟨g, 0, none⟩) 1 cap3) 1 (LsV.cells ⟨ss, ii, kd, m, k, n, 0, 1, false⟩)) := owns_setCell HOW.out (by simpa [Value.ownBlock] using hgB) _
    have HRow3 : Hid ((w2.setCell ⟨B, 1, none⟩ (.slice (some ⟨g, 0, none⟩) 1 cap3)).cell? ⟨gs, 0, none⟩ = some (.pointer (some ⟨gk, 0, none⟩))) := (World.cell?_setCell_far _ _ _ _ hns).trans HD2.out.row
    have HT3 : Hid (Turn (fun b => b = B ∨ b = gk) w (w2.setCell ⟨B, 1, none⟩ (.slice (some ⟨g, 0, none⟩) 1 cap3))) := Turn.setCell (S := fun b => b = B ∨ b = gk) (p := ⟨B, 1, none⟩) (Turn.of_ext (HX1.out.trans HX2.out)) (fun _ => .inl rfl) _
    generalize World.setCell w2 _ _ = w3 at *
    clear hHeld c1b f1b c1 r0 r1 r2 r3 r4 r5
    go_wp2_with fail
    go_region
    all_goals go_wp2
    all_goals go_end0
    all_goals
      refine ⟨g, cap3, rfl, ⟨?_, ?_, ?_⟩, ?_, ?_, ?_⟩
      · exact at_drew ((Below.heap_setCell _ _ _ B (by show B ≠ gk; exact hnk)).trans HD3.out)
      · exact (World.cell?_setCell_far _ _ _ _ (by show gk ≠ gs; exact hgkgs)).trans HRow3.out
      · exact at_drew (setCell_row HB3.out _)
      · intro i v hv
        have hi9 : i < 9 := by have := (List.getElem?_eq_some_iff.1 hv).1; simpa [LsV.cells] using this
        have h1 := World.ownsRow.cellAt HOW3.out i (by omega)
        have hgk : gk ≠ g := by have := HG.out; omega
        exact (World.cell?_setCell_far _ _ _ _ (by show gk ≠ g; exact hgk)).trans (h1.trans hv)
      · exact Turn.drew (Turn.setCell (S := fun b => b = B ∨ b = gk) (p := ⟨gk, 5, none⟩) HT3.out (fun _ => .inr rfl) _)
      · have := HG.out; have := HX1.out.le; omega
  · (try simp only [List.getElem_toArray, List.getElem_cons_succ, List.getElem_cons_zero])
    go_simp
    refine hK.out _ _ ?hs1 (fun hHeld => ?_)
    case hs1 => exact SD.out _ (Ext.drew (Ext.alloc (Ext.refl _) _))
    clear hK K
    try simp only [Act.put, List.getElem_toArray, List.getElem_cons_succ, List.getElem_cons_zero, List.setIfInBounds_toArray, List.set_cons_zero, List.set_cons_succ]
    refine wpAnyH_ready (rs := [4]) (by kernel_rfl) (by simp) ?_
    refine AllReadyH.cons (o := _) rfl (fun K hK => ?_) AllReadyH.nil
    (try simp only [List.getElem_toArray, List.getElem_cons_succ, List.getElem_cons_zero])
    go_simp
    refine hK.out _ _ ?hs2 (fun hHeld => ?_)
    case hs2 => exact SD.out _ (Ext.drew (Ext.alloc (Ext.refl _) _))
    clear hK K
    try simp only [Act.put, List.getElem_toArray, List.getElem_cons_succ, List.getElem_cons_zero, List.setIfInBounds_toArray, List.set_cons_zero, List.set_cons_succ]
    refine wpAnyH_ready (rs := [31]) (by kernel_rfl) (by simp) ?_
    refine AllReadyH.cons (o := _) rfl (fun K hK => ?_) AllReadyH.nil
    refine step_append_lies _ (by rfl) _ _ 85 (by rfl) w.heap.size 158 i0 _ 9 72 Try.underlying85 hi hz0 hz1 hz2 (by rfl) (by decide) (.slice none 0 0) 0 [] (by rfl) (World.ownsRow_nil _ _ _ _) ⟨_, 0, none⟩ 1 1 (LsV.cells ⟨ss, ii, kd, m, k, n, 0, 1, false⟩) (by rfl) (by rfl) (World.news_of_block (at_drew (heap_alloc_new _ _))) (by simp [Value.oneCell', LsV.cells]) (by decide) (by simp [maxLen]) (by omega) ?hbase _ rfl ?_
    case hbase => exact Nat.le_trans HX1.out.le (Ext.le (Ext.drew (Ext.alloc (Ext.refl _) _)))
    intro g cap3 w2 hown2 hgrow hat hlt2
    have hx2 : Ext w1 w2 := Ext.grown (Ext.drew (Ext.alloc (Ext.refl _) _)) hgrow (by simp [Value.ownBlock])
    have HX2 : Hid (Ext w1 w2) := hx2
    have HD2 : Hid (One w2 B gk gs cs mb (.slice none 0 0) dv kd m k n 1 0) := H1.out.ext hx2
    have c1b := (DealAt.cells HD2.out.deal).2.1
    have f1b := frozen_row HD2.out.deal 1
    have HOW : Hid (w2.ownsRow w.heap.size 158 9 (.slice (some ⟨g, 0, none⟩) 1 cap3) 1 (LsV.cells ⟨ss, ii, kd, m, k, n, 0, 1, false⟩)) := hown2
    have HG : Hid (w1.heap.size < g) := by
      show w1.heap.size < g
      rcases hat with h | h
      · simp [Value.ownBlock] at h
      · rw [h]; simp
    refine hK.out _ _ ?hs3 (fun hHeld => ?_)
    case hs3 => exact SD.out _ hx2
    clear hK K hown2 hgrow hat hx2
    try simp only [Act.put, List.getElem_toArray, List.getElem_cons_succ, List.getElem_cons_zero, List.setIfInBounds_toArray, List.set_cons_zero, List.set_cons_succ]
    refine wpAnyH_take (i := 32) (oi := _) (v := ?v32) rfl (by kernel_rfl) (by kernel_rfl) (by kernel_rfl) (fun _ _ _ h => h) (Or.inl ⟨by rfl, ?hy⟩) hHeld ?_
    case hy => (intro w hSw; (try dsimp only at hSw); go_simp; try with_reducible rfl)
    try simp only [Act.put, List.getElem_toArray, List.getElem_cons_succ, List.getElem_cons_zero, List.setIfInBounds_toArray, List.set_cons_zero, List.set_cons_succ]
    refine wpAnyH_take (i := 33) (oi := _) (v := ?v33) rfl (by kernel_rfl) (by kernel_rfl) (by kernel_rfl) (fun _ _ _ h => h) (Or.inl ⟨by rfl, ?hy⟩) hHeld ?_
    case hy => (intro w hSw; (try dsimp only at hSw); go_simp; try with_reducible rfl)
    try simp only [Act.put, List.getElem_toArray, List.getElem_cons_succ, List.getElem_cons_zero, List.setIfInBounds_toArray, List.set_cons_zero, List.set_cons_succ]
    refine wpAnyH_ready (rs := [34]) (by kernel_rfl) (by simp) ?_
    refine AllReadyH.cons (o := _) rfl (fun K hK => ?_) AllReadyH.nil
    (try simp only [List.getElem_toArray, List.getElem_cons_succ, List.getElem_cons_zero])
    go_simp
    refine hK.out _ _ ?hs4 (fun hHeld => ?_)
    case hs4 =>
      have h1 := SD.out _ HX2.out
      obtain ⟨s0, s1, s2, s3, s4, s5, s6, s7, s8⟩ := h1
      exact ⟨(World.cell?_setCell_far _ _ _ _ hnw).trans s0, (World.cell?_setCell_far _ _ _ _ hnr).trans s1, (World.cell?_setCell_far _ _ _ _ hnr).trans s2, (World.cell?_setCell_far _ _ _ _ hnr).trans s3, (World.cell?_setCell_far _ _ _ _ hnr).trans s4, (World.cell?_setCell_far _ _ _ _ hnr).trans s5, (World.cell?_setCell_far _ _ _ _ hnr).trans s6, (World.cell?_setCell_far _ _ _ _ hnr).trans s7, (World.cell?_setCell_far _ _ _ _ hnk).trans s8⟩
    clear hK K
    try simp only [Act.put, List.getElem_toArray, List.getElem_cons_succ, List.getElem_cons_zero, List.setIfInBounds_toArray, List.set_cons_zero, List.set_cons_succ]
    refine wpAnyH_done (by kernel_rfl) ?_ _
    have q0 := hHeld.1
    have r6 := hHeld.2.2.2.2.2.2.2.1
    have k5 := hHeld.2.2.2.2.2.2.2.2
    have HB3 : Hid ((w2.setCell ⟨B, 1, none⟩ (.slice (some ⟨g, 0, none⟩) 1 cap3)).heap[gk]? = some (.cells #[.int .i64 kd, .int .i64 m, .int .i64 k, .int .i64 n, .int .i64 1, .int .i64 0, .map (some mb)] 171 (0, 0))) := (Below.heap_setCell _ _ _ gk (by show gk ≠ B; exact fun e => hnk e.symm)).trans HD2.out.stk
    have f5 := frozen_row HB3.out 5
    have HD3 : Hid (DealAt (w2.setCell ⟨B, 1, none⟩ (.slice (some ⟨g, 0, none⟩) 1 cap3)) B (.slice (some ⟨gs, 0, none⟩) 1 cs) (.slice (some ⟨g, 0, none⟩) 1 cap3) dv false 0 true) := setCell_row HD2.out.deal _
    have hgB : g ≠ B := by have := HG.out; omega
    have HOW3 : Hid ((w2.setCell ⟨B, 1, none⟩ (.slice (some ⟨g, 0, none⟩) 1 cap3)).ownsRow w.heap.size 158 9 (.slice (some ⟨g, 0, none⟩) 1 cap3) 1 (LsV.cells ⟨ss, ii, kd, m, k, n, 0, 1, false⟩)) := owns_setCell HOW.out (by simpa [Value.ownBlock] using hgB) _
    have HRow3 : Hid ((w2.setCell ⟨B, 1, none⟩ (.slice (some ⟨g, 0, none⟩) 1 cap3)).cell? ⟨gs, 0, none⟩ = some (.pointer (some ⟨gk, 0, none⟩))) := (World.cell?_setCell_far _ _ _ _ hns).trans HD2.out.row
    have HT3 : Hid (Turn (fun b => b = B ∨ b = gk) w (w2.setCell ⟨B, 1, none⟩ (.slice (some ⟨g, 0, none⟩) 1 cap3))) := Turn.setCell (S := fun b => b = B ∨ b = gk) (p := ⟨B, 1, none⟩) (Turn.of_ext (HX1.out.trans HX2.out)) (fun _ => .inl rfl) _
    generalize World.setCell w2 _ _ = w3 at *
    clear hHeld c1b f1b c1 r0 r1 r2 r3 r4 r5
    go_wp2_with fail
    go_region
    all_goals go_wp2
    all_goals go_end0
    all_goals
      refine ⟨g, cap3, rfl, ⟨?_, ?_, ?_⟩, ?_, ?_, ?_⟩
      · exact at_drew ((Below.heap_setCell _ _ _ B (by show B ≠ gk; exact hnk)).trans HD3.out)
      · exact (World.cell?_setCell_far _ _ _ _ (by show gk ≠ gs; exact hgkgs)).trans HRow3.out
      · exact at_drew (setCell_row HB3.out _)
      · intro i v hv
        have hi9 : i < 9 := by have := (List.getElem?_eq_some_iff.1 hv).1; simpa [LsV.cells] using this
        have h1 := World.ownsRow.cellAt HOW3.out i (by omega)
        have hgk : gk ≠ g := by have := HG.out; omega
        exact (World.cell?_setCell_far _ _ _ _ (by show gk ≠ g; exact hgk)).trans (h1.trans hv)
      · exact Turn.drew (Turn.setCell (S := fun b => b = B ∨ b = gk) (p := ⟨gk, 5, none⟩) HT3.out (fun _ => .inr rfl) _)
      · have := HG.out; have := HX1.out.le; omega
end Go.Proofs.Ytmnjhhachdlmkaa
