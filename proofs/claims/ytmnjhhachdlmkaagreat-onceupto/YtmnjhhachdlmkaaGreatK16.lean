import Derived.Test.YtmnjhhachdlmkaaGreatK15
namespace Go.Proofs.YtmnjhhachdlmkaaGreat
set_option linter.unusedVariables false
set_option linter.unusedSimpArgs false
open List renaming getElem_toArray -> lA, getElem_cons_succ -> lB, getElem_cons_zero -> lC, setIfInBounds_toArray -> lD, set_cons_zero -> lE, set_cons_succ -> lF
open World renaming block_lt_of_cell? -> lG
-- VKc
section
set_option maxRecDepth 100000
set_option maxHeartbeats 16000000
open Go.RowKit
def clsK (c : Int) : Nat × Nat × Nat × Nat := [(0, 1, 1, 1), (2, 1, 1, 1), (1, 1, 2, 1), (1, 2, 3, 2), (2, 3, 1, 1), (1, 1, 1, 1), (1, 3, 1, 3), (1, 3, 3, 3)].getD (pickN c 8) (0, 1, 1, 1)
theorem clsK_cls (c : Int) : isCls (clsK c).1 (clsK c).2.1 (clsK c).2.2.1 (clsK c).2.2.2 = true := by
 unfold clsK
 have h := pickN_lt c (show 0 < 8 by decide)
 generalize pickN c 8 = q at h
 obtain rfl | rfl | rfl | rfl | rfl | rfl | rfl | rfl : q = 0 \/ q = 1 \/ q = 2 \/ q = 3 \/ q = 4 \/ q = 5 \/ q = 6 \/ q = 7 := by omega
 all_goals decide
theorem infoEight : (Tryz.prog.info? 137).map (·.size) = some 32 := by kernel_rfl
theorem wpList_store_eight {ops : Array Oper} {rest : List Oper} {o : Oper} {a : Act} {w : World} {Q : Exit -> Act -> World -> Prop} (B : World) (hgd : o.guard = none) (x y : Operand) (ho : o.op = .store 137 x y)
  (g : Nat) (cells : Array Value) (hx : a.eval x = .pointer (some ⟨g, 0, none⟩)) (hy : a.eval y = .agg cells) (hs : cells.size = 32) (h1 : cells.all (·.oneCell') = true)
  (t : TypeId) (old : Array Value) (hg : w.heap[g]? = some (.cells old t (0, 0))) (hold : old.size = 32) (hB : Ext B w) (hgB : B.heap.size <= g)
  (h : ∀ w3, w3.heap[g]? = some (.cells cells t (0, 0)) -> Ext B w3 -> wpList Tryz.prog ops Q rest (a.put o.dst undef) w3) :
  wpList Tryz.prog ops Q (o :: rest) a w := by
 refine wpList_plain hgd fun K hK => ?_
 refine wp_store_row 137 x y ho g cells hx hy t old hg (by rw [infoEight, hs]) (by rw [hold, hs]) h1 (hK _ _ (h _ (setRow_heap _ _ _ _ _ _ hg) ?_))
 exact ⟨by rw [setRow_os]; exact Below.os hB, by rw [setRow_tape]; exact Below.tape hB, by rw [setRow_output]; exact Below.output hB, by rw [setRow_size]; exact hB.le, fun k hk => by rw [setRow_other _ _ _ _ (by omega)]; exact Below.block hB k hk⟩
def eightV : Array Value := #[.int .i64 0, .int .i64 1, .int .i64 1, .int .i64 1, .int .i64 2, .int .i64 1, .int .i64 1, .int .i64 1, .int .i64 1, .int .i64 1, .int .i64 2, .int .i64 1, .int .i64 1, .int .i64 2, .int .i64 3, .int .i64 2, .int .i64 2, .int .i64 3, .int .i64 1, .int .i64 1, .int .i64 1, .int .i64 1, .int .i64 1, .int .i64 1, .int .i64 1, .int .i64 3, .int .i64 1, .int .i64 3, .int .i64 1, .int .i64 3, .int .i64 3, .int .i64 3]
theorem wpList_value {P : Program} {ops : Array Oper} {rest : List Oper} {o : Oper} {a : Act} {w : World} {Q : Exit -> Act -> World -> Prop} (hg : o.guard = none) (v : Value) (h : (execOp a.eval o).run P w = .ok (.value v) w) (hn : wpList P ops Q rest (a.put o.dst v) w) : wpList P ops Q (o :: rest) a w :=
 wpList_plain hg fun K hK => by unfold Oper.wp; rw [h]; exact hK _ _ hn
theorem wpList_world {P : Program} {ops : Array Oper} {rest : List Oper} {o : Oper} {a : Act} {w w' : World} {Q : Exit -> Act -> World -> Prop} (hg : o.guard = none) (v : Value) (h : (execOp a.eval o).run P w = .ok (.value v) w') (hn : wpList P ops Q rest (a.put o.dst v) w') : wpList P ops Q (o :: rest) a w :=
 wpList_plain hg fun K hK => by unfold Oper.wp; rw [h]; exact hK _ _ hn
theorem keepClass_c (c : Int) (hc0 : -9223372036854775808 <= c) (hc1 : c <= 9223372036854775807) (w : World) : Calls Tryz.prog 32 #[.int .i64 c] w fun e w' => e = .returned (clsV (clsK c).1 (clsK c).2.1 (clsK c).2.2.1 (clsK c).2.2.2) /\ Ext w w' := by
 unfold clsV
 have HPk : Hid _ := pick_c c 8 (by decide) (by decide) hc0 hc1
 unfold clsK
 have hq := pickN_lt c (show 0 < 8 by decide)
 clear hc0 hc1
 go_enter Tryz.func32, Tryz.ntmps32
 iterate 11 (first | go_values | go_skip | go_guarded | go_step | go_upon | go_back)
 have hr0 : (w.alloc (.cells #[.int .i64 0, .int .i64 0, .int .i64 0, .int .i64 0] 49)).heap[w.heap.size]? = some (.cells #[.int .i64 0, .int .i64 0, .int .i64 0, .int .i64 0] 49 (0, 0)) := heap_alloc_new w _
 have hX0 : Ext w (w.alloc (.cells #[.int .i64 0, .int .i64 0, .int .i64 0, .int .i64 0] 49)) := (Ext.refl w).alloc _
 generalize World.alloc w _ = W0 at hr0 hX0 ⊢
 refine wpList_value rfl (.agg #[.int .i64 0, .int .i64 1, .int .i64 1, .int .i64 1]) (by kernel_rfl) ?_
 refine wpList_value rfl (.agg #[.int .i64 2, .int .i64 1, .int .i64 1, .int .i64 1]) (by kernel_rfl) ?_
 refine wpList_value rfl (.agg #[.int .i64 1, .int .i64 1, .int .i64 2, .int .i64 1]) (by kernel_rfl) ?_
 refine wpList_value rfl (.agg #[.int .i64 1, .int .i64 2, .int .i64 3, .int .i64 2]) (by kernel_rfl) ?_
 refine wpList_value rfl (.agg #[.int .i64 2, .int .i64 3, .int .i64 1, .int .i64 1]) (by kernel_rfl) ?_
 refine wpList_value rfl (.agg #[.int .i64 1, .int .i64 1, .int .i64 1, .int .i64 1]) (by kernel_rfl) ?_
 refine wpList_value rfl (.agg #[.int .i64 1, .int .i64 3, .int .i64 1, .int .i64 3]) (by kernel_rfl) ?_
 refine wpList_value rfl (.agg #[.int .i64 1, .int .i64 3, .int .i64 3, .int .i64 3]) (by kernel_rfl) ?_
 refine wpList_value rfl (.agg eightV) (by kernel_rfl) ?_
 refine wpList_world (w' := World.alloc W0 (.cells (Array.replicate 32 (.int .i64 0)) 137)) rfl (.pointer (some ⟨W0.heap.size, 0, none⟩)) ?al ?_
 case al => kernel_rfl
 have hg1 : (World.alloc W0 (.cells (Array.replicate 32 (.int .i64 0)) 137)).heap[W0.heap.size]? = some (.cells (Array.replicate 32 (.int .i64 0)) 137 (0, 0)) := heap_alloc_new W0 _
 have hx1 : Ext W0 (World.alloc W0 (.cells (Array.replicate 32 (.int .i64 0)) 137)) := (Ext.refl W0).alloc _
 generalize World.alloc W0 _ = W1 at hg1 hx1 ⊢
 obtain ⟨g, hgE⟩ : ∃ g, W0.heap.size = g := ⟨_, rfl⟩
 rw [hgE] at hg1 ⊢
 simp only [Act.put, lD, lE, lF]
 refine wpList_store_eight W0 rfl (.tmp 3) (.tmp 12) rfl g eightV rfl rfl rfl ?one 137 (Array.replicate 32 (.int .i64 0)) hg1 ?sz hx1 (by omega) ?_
 case one => simp [eightV, Value.oneCell']
 case sz => simp
 intro w3 hg3 hx3
 simp only [Act.put]
 have hr3 := hx3.block hr0
 have hx4 : Ext w w3 := hX0.trans hx3
 have HG3 : Hid (w3.heap[g]? = some (.cells eightV 137 (0, 0)) /\ w3.heap[w.heap.size]? = some (.cells #[.int .i64 0, .int .i64 0, .int .i64 0, .int .i64 0] 49 (0, 0)) /\ Ext w w3) := ⟨hg3, hr3, hx4⟩
 have hgw : w.heap.size < g := by have := lG W0 ⟨w.heap.size, 0, none⟩ (cell_of_row W0 _ 0 _ _ _ hr0); rw [hgE] at this; exact this
 clear hg3 hr3 hx3 hx4 hx1 hg1 hr0 hX0 hgE
 go_wp2_with fail
 refine (HPk.out _).mono ?_
 rintro e w4 ⟨rfl, rfl⟩
 obtain ⟨q, hqe⟩ : ∃ q, pickN c 8 = q := ⟨_, rfl⟩
 rw [hqe] at hq
 simp only [hqe]
 have hr3 := HG3.out.2.1
 have r0 := (cell_of_row w3 _ 0 _ _ _ hr3).trans (show _ = some (.int .i64 0) from rfl)
 have r1 := (cell_of_row w3 _ 1 _ _ _ hr3).trans (show _ = some (.int .i64 0) from rfl)
 have r2 := (cell_of_row w3 _ 2 _ _ _ hr3).trans (show _ = some (.int .i64 0) from rfl)
 have r3 := (cell_of_row w3 _ 3 _ _ _ hr3).trans (show _ = some (.int .i64 0) from rfl)
 have key : ∀ i, w3.frozen? ⟨w.heap.size, i, none⟩ = false := fun i => by
  unfold World.frozen?
  rw [hr3]
  simp
 have f0 := key 0
 have f1 := key 1
 have f2 := key 2
 have f3 := key 3
 clear key hr3
 have hne : w.heap.size ≠ g := by omega
 obtain rfl | rfl | rfl | rfl | rfl | rfl | rfl | rfl : q = 0 \/ q = 1 \/ q = 2 \/ q = 3 \/ q = 4 \/ q = 5 \/ q = 6 \/ q = 7 := by omega
 ·have e0 : w3.cell? ⟨g, 0, none⟩ = some (.int .i64 0) := (cell_of_row w3 _ 0 _ _ _ HG3.out.1).trans rfl
  have e1 : w3.cell? ⟨g, 1, none⟩ = some (.int .i64 1) := (cell_of_row w3 _ 1 _ _ _ HG3.out.1).trans rfl
  have e2 : w3.cell? ⟨g, 2, none⟩ = some (.int .i64 1) := (cell_of_row w3 _ 2 _ _ _ HG3.out.1).trans rfl
  have e3 : w3.cell? ⟨g, 3, none⟩ = some (.int .i64 1) := (cell_of_row w3 _ 3 _ _ _ HG3.out.1).trans rfl
  go_wp2
  have hs := four_set (g := w.heap.size) (b0 := .int .i64 0) (b1 := .int .i64 1) (b2 := .int .i64 1) (b3 := .int .i64 1) ⟨r0, r1, r2, r3⟩
  have hxe : Ext w ((((w3.setCell ⟨w.heap.size, 0, none⟩ (.int .i64 0)).setCell ⟨w.heap.size, 1, none⟩ (.int .i64 1)).setCell ⟨w.heap.size, 2, none⟩ (.int .i64 1)).setCell ⟨w.heap.size, 3, none⟩ (.int .i64 1)) := Ext.setCell (Ext.setCell (Ext.setCell (Ext.setCell HG3.out.2.2 (Nat.le_refl _) _) (Nat.le_refl _) _) (Nat.le_refl _) _) (Nat.le_refl _) _
  generalize World.setCell _ _ _ = V at hs hxe ⊢
  obtain ⟨s0, s1, s2, s3⟩ := hs
  clear e0 e1 e2 e3 r0 r1 r2 r3 f0 f1 f2 f3
  refine bodyPost_ret (v := .agg #[.int .i64 0, .int .i64 1, .int .i64 1, .int .i64 1]) ?_ rfl ⟨by rw [hqe]; rfl, hxe⟩
  simp [results, Tryz.results32, go_sem, s0, s1, s2, s3]
 ·have e0 : w3.cell? ⟨g, 4, none⟩ = some (.int .i64 2) := (cell_of_row w3 _ 4 _ _ _ HG3.out.1).trans rfl
  have e1 : w3.cell? ⟨g, 5, none⟩ = some (.int .i64 1) := (cell_of_row w3 _ 5 _ _ _ HG3.out.1).trans rfl
  have e2 : w3.cell? ⟨g, 6, none⟩ = some (.int .i64 1) := (cell_of_row w3 _ 6 _ _ _ HG3.out.1).trans rfl
  have e3 : w3.cell? ⟨g, 7, none⟩ = some (.int .i64 1) := (cell_of_row w3 _ 7 _ _ _ HG3.out.1).trans rfl
  go_wp2
  have hs := four_set (g := w.heap.size) (b0 := .int .i64 2) (b1 := .int .i64 1) (b2 := .int .i64 1) (b3 := .int .i64 1) ⟨r0, r1, r2, r3⟩
  have hxe : Ext w ((((w3.setCell ⟨w.heap.size, 0, none⟩ (.int .i64 2)).setCell ⟨w.heap.size, 1, none⟩ (.int .i64 1)).setCell ⟨w.heap.size, 2, none⟩ (.int .i64 1)).setCell ⟨w.heap.size, 3, none⟩ (.int .i64 1)) := Ext.setCell (Ext.setCell (Ext.setCell (Ext.setCell HG3.out.2.2 (Nat.le_refl _) _) (Nat.le_refl _) _) (Nat.le_refl _) _) (Nat.le_refl _) _
  generalize World.setCell _ _ _ = V at hs hxe ⊢
  obtain ⟨s0, s1, s2, s3⟩ := hs
  clear e0 e1 e2 e3 r0 r1 r2 r3 f0 f1 f2 f3
  refine bodyPost_ret (v := .agg #[.int .i64 2, .int .i64 1, .int .i64 1, .int .i64 1]) ?_ rfl ⟨by rw [hqe]; rfl, hxe⟩
  simp [results, Tryz.results32, go_sem, s0, s1, s2, s3]
 ·have e0 : w3.cell? ⟨g, 8, none⟩ = some (.int .i64 1) := (cell_of_row w3 _ 8 _ _ _ HG3.out.1).trans rfl
  have e1 : w3.cell? ⟨g, 9, none⟩ = some (.int .i64 1) := (cell_of_row w3 _ 9 _ _ _ HG3.out.1).trans rfl
  have e2 : w3.cell? ⟨g, 10, none⟩ = some (.int .i64 2) := (cell_of_row w3 _ 10 _ _ _ HG3.out.1).trans rfl
  have e3 : w3.cell? ⟨g, 11, none⟩ = some (.int .i64 1) := (cell_of_row w3 _ 11 _ _ _ HG3.out.1).trans rfl
  go_wp2
  have hs := four_set (g := w.heap.size) (b0 := .int .i64 1) (b1 := .int .i64 1) (b2 := .int .i64 2) (b3 := .int .i64 1) ⟨r0, r1, r2, r3⟩
  have hxe : Ext w ((((w3.setCell ⟨w.heap.size, 0, none⟩ (.int .i64 1)).setCell ⟨w.heap.size, 1, none⟩ (.int .i64 1)).setCell ⟨w.heap.size, 2, none⟩ (.int .i64 2)).setCell ⟨w.heap.size, 3, none⟩ (.int .i64 1)) := Ext.setCell (Ext.setCell (Ext.setCell (Ext.setCell HG3.out.2.2 (Nat.le_refl _) _) (Nat.le_refl _) _) (Nat.le_refl _) _) (Nat.le_refl _) _
  generalize World.setCell _ _ _ = V at hs hxe ⊢
  obtain ⟨s0, s1, s2, s3⟩ := hs
  clear e0 e1 e2 e3 r0 r1 r2 r3 f0 f1 f2 f3
  refine bodyPost_ret (v := .agg #[.int .i64 1, .int .i64 1, .int .i64 2, .int .i64 1]) ?_ rfl ⟨by rw [hqe]; rfl, hxe⟩
  simp [results, Tryz.results32, go_sem, s0, s1, s2, s3]
 ·have e0 : w3.cell? ⟨g, 12, none⟩ = some (.int .i64 1) := (cell_of_row w3 _ 12 _ _ _ HG3.out.1).trans rfl
  have e1 : w3.cell? ⟨g, 13, none⟩ = some (.int .i64 2) := (cell_of_row w3 _ 13 _ _ _ HG3.out.1).trans rfl
  have e2 : w3.cell? ⟨g, 14, none⟩ = some (.int .i64 3) := (cell_of_row w3 _ 14 _ _ _ HG3.out.1).trans rfl
  have e3 : w3.cell? ⟨g, 15, none⟩ = some (.int .i64 2) := (cell_of_row w3 _ 15 _ _ _ HG3.out.1).trans rfl
  go_wp2
  have hs := four_set (g := w.heap.size) (b0 := .int .i64 1) (b1 := .int .i64 2) (b2 := .int .i64 3) (b3 := .int .i64 2) ⟨r0, r1, r2, r3⟩
  have hxe : Ext w ((((w3.setCell ⟨w.heap.size, 0, none⟩ (.int .i64 1)).setCell ⟨w.heap.size, 1, none⟩ (.int .i64 2)).setCell ⟨w.heap.size, 2, none⟩ (.int .i64 3)).setCell ⟨w.heap.size, 3, none⟩ (.int .i64 2)) := Ext.setCell (Ext.setCell (Ext.setCell (Ext.setCell HG3.out.2.2 (Nat.le_refl _) _) (Nat.le_refl _) _) (Nat.le_refl _) _) (Nat.le_refl _) _
  generalize World.setCell _ _ _ = V at hs hxe ⊢
  obtain ⟨s0, s1, s2, s3⟩ := hs
  clear e0 e1 e2 e3 r0 r1 r2 r3 f0 f1 f2 f3
  refine bodyPost_ret (v := .agg #[.int .i64 1, .int .i64 2, .int .i64 3, .int .i64 2]) ?_ rfl ⟨by rw [hqe]; rfl, hxe⟩
  simp [results, Tryz.results32, go_sem, s0, s1, s2, s3]
 ·have e0 : w3.cell? ⟨g, 16, none⟩ = some (.int .i64 2) := (cell_of_row w3 _ 16 _ _ _ HG3.out.1).trans rfl
  have e1 : w3.cell? ⟨g, 17, none⟩ = some (.int .i64 3) := (cell_of_row w3 _ 17 _ _ _ HG3.out.1).trans rfl
  have e2 : w3.cell? ⟨g, 18, none⟩ = some (.int .i64 1) := (cell_of_row w3 _ 18 _ _ _ HG3.out.1).trans rfl
  have e3 : w3.cell? ⟨g, 19, none⟩ = some (.int .i64 1) := (cell_of_row w3 _ 19 _ _ _ HG3.out.1).trans rfl
  go_wp2
  have hs := four_set (g := w.heap.size) (b0 := .int .i64 2) (b1 := .int .i64 3) (b2 := .int .i64 1) (b3 := .int .i64 1) ⟨r0, r1, r2, r3⟩
  have hxe : Ext w ((((w3.setCell ⟨w.heap.size, 0, none⟩ (.int .i64 2)).setCell ⟨w.heap.size, 1, none⟩ (.int .i64 3)).setCell ⟨w.heap.size, 2, none⟩ (.int .i64 1)).setCell ⟨w.heap.size, 3, none⟩ (.int .i64 1)) := Ext.setCell (Ext.setCell (Ext.setCell (Ext.setCell HG3.out.2.2 (Nat.le_refl _) _) (Nat.le_refl _) _) (Nat.le_refl _) _) (Nat.le_refl _) _
  generalize World.setCell _ _ _ = V at hs hxe ⊢
  obtain ⟨s0, s1, s2, s3⟩ := hs
  clear e0 e1 e2 e3 r0 r1 r2 r3 f0 f1 f2 f3
  refine bodyPost_ret (v := .agg #[.int .i64 2, .int .i64 3, .int .i64 1, .int .i64 1]) ?_ rfl ⟨by rw [hqe]; rfl, hxe⟩
  simp [results, Tryz.results32, go_sem, s0, s1, s2, s3]
 ·have e0 : w3.cell? ⟨g, 20, none⟩ = some (.int .i64 1) := (cell_of_row w3 _ 20 _ _ _ HG3.out.1).trans rfl
  have e1 : w3.cell? ⟨g, 21, none⟩ = some (.int .i64 1) := (cell_of_row w3 _ 21 _ _ _ HG3.out.1).trans rfl
  have e2 : w3.cell? ⟨g, 22, none⟩ = some (.int .i64 1) := (cell_of_row w3 _ 22 _ _ _ HG3.out.1).trans rfl
  have e3 : w3.cell? ⟨g, 23, none⟩ = some (.int .i64 1) := (cell_of_row w3 _ 23 _ _ _ HG3.out.1).trans rfl
  go_wp2
  have hs := four_set (g := w.heap.size) (b0 := .int .i64 1) (b1 := .int .i64 1) (b2 := .int .i64 1) (b3 := .int .i64 1) ⟨r0, r1, r2, r3⟩
  have hxe : Ext w ((((w3.setCell ⟨w.heap.size, 0, none⟩ (.int .i64 1)).setCell ⟨w.heap.size, 1, none⟩ (.int .i64 1)).setCell ⟨w.heap.size, 2, none⟩ (.int .i64 1)).setCell ⟨w.heap.size, 3, none⟩ (.int .i64 1)) := Ext.setCell (Ext.setCell (Ext.setCell (Ext.setCell HG3.out.2.2 (Nat.le_refl _) _) (Nat.le_refl _) _) (Nat.le_refl _) _) (Nat.le_refl _) _
  generalize World.setCell _ _ _ = V at hs hxe ⊢
  obtain ⟨s0, s1, s2, s3⟩ := hs
  clear e0 e1 e2 e3 r0 r1 r2 r3 f0 f1 f2 f3
  refine bodyPost_ret (v := .agg #[.int .i64 1, .int .i64 1, .int .i64 1, .int .i64 1]) ?_ rfl ⟨by rw [hqe]; rfl, hxe⟩
  simp [results, Tryz.results32, go_sem, s0, s1, s2, s3]
 ·have e0 : w3.cell? ⟨g, 24, none⟩ = some (.int .i64 1) := (cell_of_row w3 _ 24 _ _ _ HG3.out.1).trans rfl
  have e1 : w3.cell? ⟨g, 25, none⟩ = some (.int .i64 3) := (cell_of_row w3 _ 25 _ _ _ HG3.out.1).trans rfl
  have e2 : w3.cell? ⟨g, 26, none⟩ = some (.int .i64 1) := (cell_of_row w3 _ 26 _ _ _ HG3.out.1).trans rfl
  have e3 : w3.cell? ⟨g, 27, none⟩ = some (.int .i64 3) := (cell_of_row w3 _ 27 _ _ _ HG3.out.1).trans rfl
  go_wp2
  have hs := four_set (g := w.heap.size) (b0 := .int .i64 1) (b1 := .int .i64 3) (b2 := .int .i64 1) (b3 := .int .i64 3) ⟨r0, r1, r2, r3⟩
  have hxe : Ext w ((((w3.setCell ⟨w.heap.size, 0, none⟩ (.int .i64 1)).setCell ⟨w.heap.size, 1, none⟩ (.int .i64 3)).setCell ⟨w.heap.size, 2, none⟩ (.int .i64 1)).setCell ⟨w.heap.size, 3, none⟩ (.int .i64 3)) := Ext.setCell (Ext.setCell (Ext.setCell (Ext.setCell HG3.out.2.2 (Nat.le_refl _) _) (Nat.le_refl _) _) (Nat.le_refl _) _) (Nat.le_refl _) _
  generalize World.setCell _ _ _ = V at hs hxe ⊢
  obtain ⟨s0, s1, s2, s3⟩ := hs
  clear e0 e1 e2 e3 r0 r1 r2 r3 f0 f1 f2 f3
  refine bodyPost_ret (v := .agg #[.int .i64 1, .int .i64 3, .int .i64 1, .int .i64 3]) ?_ rfl ⟨by rw [hqe]; rfl, hxe⟩
  simp [results, Tryz.results32, go_sem, s0, s1, s2, s3]
 ·have e0 : w3.cell? ⟨g, 28, none⟩ = some (.int .i64 1) := (cell_of_row w3 _ 28 _ _ _ HG3.out.1).trans rfl
  have e1 : w3.cell? ⟨g, 29, none⟩ = some (.int .i64 3) := (cell_of_row w3 _ 29 _ _ _ HG3.out.1).trans rfl
  have e2 : w3.cell? ⟨g, 30, none⟩ = some (.int .i64 3) := (cell_of_row w3 _ 30 _ _ _ HG3.out.1).trans rfl
  have e3 : w3.cell? ⟨g, 31, none⟩ = some (.int .i64 3) := (cell_of_row w3 _ 31 _ _ _ HG3.out.1).trans rfl
  go_wp2
  have hs := four_set (g := w.heap.size) (b0 := .int .i64 1) (b1 := .int .i64 3) (b2 := .int .i64 3) (b3 := .int .i64 3) ⟨r0, r1, r2, r3⟩
  have hxe : Ext w ((((w3.setCell ⟨w.heap.size, 0, none⟩ (.int .i64 1)).setCell ⟨w.heap.size, 1, none⟩ (.int .i64 3)).setCell ⟨w.heap.size, 2, none⟩ (.int .i64 3)).setCell ⟨w.heap.size, 3, none⟩ (.int .i64 3)) := Ext.setCell (Ext.setCell (Ext.setCell (Ext.setCell HG3.out.2.2 (Nat.le_refl _) _) (Nat.le_refl _) _) (Nat.le_refl _) _) (Nat.le_refl _) _
  generalize World.setCell _ _ _ = V at hs hxe ⊢
  obtain ⟨s0, s1, s2, s3⟩ := hs
  clear e0 e1 e2 e3 r0 r1 r2 r3 f0 f1 f2 f3
  refine bodyPost_ret (v := .agg #[.int .i64 1, .int .i64 3, .int .i64 3, .int .i64 3]) ?_ rfl ⟨by rw [hqe]; rfl, hxe⟩
  simp [results, Tryz.results32, go_sem, s0, s1, s2, s3]
end
-- VKf
section
set_option maxRecDepth 100000
set_option maxHeartbeats 1600000
open Go.RowKit
def fillW (rz : List Int) (i : Nat) : Int := if rz.length = 0 then (i : Int) * 2654435761 else IntKind.u64.wrap ((i : Int) * 2654435761 / 7 + rz.getD (i % rz.length) 0)
def fillS (rz : List Int) (n : Nat) : List Int := (List.range n).map (fillW rz)
def fillTo (rz : List Int) (n j : Nat) : List Int := fillS rz j ++ List.replicate (n - j) 0
theorem fillS_len (rz : List Int) (n : Nat) : (fillS rz n).length = n := by simp [fillS]
theorem fillTo_len (rz : List Int) {n j : Nat} (h : j <= n) : (fillTo rz n j).length = n := by simp [fillTo, fillS_len]; omega
theorem fillTo_set (rz : List Int) {n j : Nat} (h : j < n) : (fillTo rz n j).set j (fillW rz j) = fillTo rz n (j + 1) := by
 unfold fillTo
 rw [List.set_append_right _ _ (by rw [fillS_len]; exact Nat.le_refl _), fillS_len, Nat.sub_self]
 obtain ⟨q, hq⟩ : ∃ q, n - j = q + 1 := ⟨n - j - 1, by omega⟩
 rw [hq, show n - (j + 1) = q by omega, List.replicate_succ, lE]
 unfold fillS
 rw [List.range_succ, List.map_append, List.append_assoc]
 rfl
theorem fillTo_full (rz : List Int) (n : Nat) : fillTo rz n n = fillS rz n := by simp [fillTo]
theorem fillTo_none (rz : List Int) (n : Nat) : fillTo rz n 0 = List.replicate n 0 := by simp [fillTo, fillS]
theorem fillW_u64 (rz : List Int) {i : Nat} (h : i <= 100000) : 0 <= fillW rz i /\ fillW rz i <= 18446744073709551615 := by
 unfold fillW
 split
 ·omega
 ·exact ⟨(u64w _).1, (u64w _).2⟩
theorem fillS_u64 (rz : List Int) {n : Nat} (h : n <= 100000) : inU64 (fillS rz n) := fun z hz => by
 obtain ⟨i, hi, rfl⟩ := List.mem_map.1 hz
 exact fillW_u64 rz (by have := List.mem_range.1 hi; omega)
theorem keepFilled_c (a : Option Addr) (rl rcap n : Nat) (rz : List Int) (hrl : rz.length = rl) (hrm : rl <= 100000000000000) (hn : n <= 100000) (w : World) (hr : rl = 0 \/ ∃ b off, a = some ⟨b, off, none⟩ /\ WordsAt w b off rz) :
  Calls Tryz.prog 66 #[.slice a rl rcap, .int .i64 n] w fun e w' => ∃ g, e = .returned (.slice (some ⟨g, 0, none⟩) n n) /\ w'.ownsRow w.heap.size 146 1 (.slice (some ⟨g, 0, none⟩) n n) n ((fillS rz n).map (Value.int .u64)) /\ Ext w w' := by
 have HRL : Hid (rz.length = rl) := hrl
 have HR : Hid _ := hr
 clear hrl hr
 go_enter Tryz.func66, Tryz.ntmps66
 obtain ⟨i0, hi, hz0, hz1, hz2⟩ := info_parts infoU64
 go_wp2_with (at_make; refine wpList_make_full _ rfl _ _ 31 rfl w.heap.size 146 i0 (.int .u64 0) 1 Tryz.underlying31 hi hz0 hz1 _ _ _ _ n rfl rfl rfl rfl (by rw [hz2]; omega) (by unfold maxLen; omega) (Nat.le_refl _) ?_)
 intro w1 ho1 hg1
 have hx1 : Ext w w1 := Ext.grown (Ext.refl w) hg1 (by simp)
 have ho2 : w1.ownsRow w.heap.size 146 1 (.slice (some ⟨w.heap.size, 0, none⟩) n n) n ((List.replicate n (0 : Int)).map (Value.int .u64)) := by
  rw [List.map_replicate, <- toList_madeCells_one]; simpa [Value.cells] using ho1
 obtain ⟨g, hgE⟩ : ∃ g, w.heap.size = g := ⟨_, rfl⟩
 have HO1 : Hid (w1.ownsRow w.heap.size 146 1 (.slice (some ⟨g, 0, none⟩) n n) n ((List.replicate n (0 : Int)).map (Value.int .u64))) := by rw [<- hgE]; exact ho2
 have HX1 : Hid (Ext w w1) := hx1
 have hgw : w.heap.size <= g := by omega
 rw [hgE]
 clear ho1 ho2 hg1 hx1 hgE
 go_wp2_with fail
 go_loopw [6] (fun i wr => ∃ (j : Nat), j <= n /\ i = .int .i64 j /\ wr.ownsRow w.heap.size 146 1 (.slice (some ⟨g, 0, none⟩) n n) n ((fillTo rz n j).map (Value.int .u64)) /\ Ext w wr) (fun i _ => n - (intOf i).toNat)
 case atStart => exact ⟨0, Nat.zero_le _, rfl, by rw [fillTo_none]; exact HO1.out, HX1.out⟩
 case round =>
  obtain ⟨j, hj, rfl, ho, hx⟩ := hrel
  obtain ⟨D, hDe⟩ : ∃ D, fillTo rz n j = D := ⟨_, rfl⟩
  rw [hDe] at ho
  have HD : Hid (D.length = n /\ fillTo rz n j = D) := ⟨by rw [<- hDe]; exact fillTo_len rz hj, hDe⟩
  have HO : Hid (wr.ownsRow w.heap.size 146 1 (.slice (some ⟨g, 0, none⟩) n n) n (D.map (Value.int .u64))) := ho
  have HX : Hid (Ext w wr) := hx
  clear hDe ho hx
  by_cases hlt : j < n
  ·have c0 : wr.cell? ⟨g, j, none⟩ = some (.int .u64 (D.getD j 0)) := by
    have := owns_words HO.out j (by rw [HD.out.1]; exact hlt)
    simpa using this
   have f0 : wr.frozen? ⟨g, j, none⟩ = false := HO.out.frozenAt j
   have hk0 : (0 : Int) <= (j : Int) := by omega
   have hk1 : (j : Int) < n := by omega
   have hwj : IntKind.u64.wrap (j : Int) = (j : Int) := by rw [IntKind.wrap_u64]; omega
   by_cases hr0 : rl = 0
   ·subst hr0
    go_wp2
    go_roundw
    case rel => exact ⟨j + 1, by omega, by go_num, by rw [<- fillTo_set rz hlt, HD.out.2, show fillW rz j = (j : Int) * 2654435761 by unfold fillW; rw [if_pos HRL.out], List.map_set]; exact (HO.out.stored j _).1, Ext.setCell HX.out (by show w.heap.size <= g; exact hgw) _⟩
    case measure => simp [intOf]; omega
   ·have hrp : (0 : Int) < (rl : Int) := by omega
    obtain ⟨b, off, ha, hwa⟩ := HR.out.resolve_left hr0
    subst ha
    have hjm : j % rl < rl := Nat.mod_lt _ (by omega)
    have q0 := HX.out.cell (hwa (j % rl) (by rw [HRL.out]; exact hjm))
    have hmod : Int.tmod (j : Int) (rl : Int) = ((j % rl : Nat) : Int) := by rw [Int.tmod_eq_emod_of_nonneg (by omega)]; rfl
    have hbl := lG wr _ q0
    have hrne : ¬ ((rl : Int) = 0) := by omega
    have HW : Hid (fillW rz j = IntKind.u64.wrap ((j : Int) * 2654435761 / 7 + rz.getD (j % rl) 0)) := by show fillW rz j = _; unfold fillW; rw [HRL.out, if_neg hr0]
    generalize rz.getD (j % rl) 0 = z at *
    generalize j % rl = jm at *
    have hm0 : (0 : Int) <= (jm : Int) := by omega
    have hm1 : (jm : Int) < rl := by omega
    have hbw : b < w.heap.size := by
     have := lG w _ (hwa 0 (by rw [HRL.out]; omega))
     exact this
    have hbg : g ≠ b := by omega
    clear hwa
    go_wp2_with fail
    have c1 : (wr.setCell ⟨g, j, none⟩ (.int .u64 ((j : Int) * 2654435761))).cell? ⟨g, j, none⟩ = some (.int .u64 ((j : Int) * 2654435761)) := World.cell?_setCell_same _ _ _ c0
    have q1 := (World.cell?_setCell_far wr ⟨g, j, none⟩ _ (.int .u64 ((j : Int) * 2654435761)) (by show g ≠ b; exact hbg)).trans q0
    have f1 : (wr.setCell ⟨g, j, none⟩ (.int .u64 ((j : Int) * 2654435761))).frozen? ⟨g, j, none⟩ = false := (World.ownsRow.frozenAt (HO.out.stored j (.int .u64 ((j : Int) * 2654435761))).1 j)
    have HO2 : Hid ((wr.setCell ⟨g, j, none⟩ (.int .u64 ((j : Int) * 2654435761))).ownsRow w.heap.size 146 1 (.slice (some ⟨g, 0, none⟩) n n) n ((D.set j ((j : Int) * 2654435761)).map (Value.int .u64))) := by
     have := (HO.out.stored j (.int .u64 ((j : Int) * 2654435761))).1
     rw [List.map_set]; exact this
    have HX2 : Hid (Ext w (wr.setCell ⟨g, j, none⟩ (.int .u64 ((j : Int) * 2654435761)))) := Ext.setCell HX.out (by show w.heap.size <= g; exact hgw) _
    generalize World.setCell wr _ _ = V at c1 q1 f1 HO2 HX2 ⊢
    clear c0 q0 f0 HO HX
    go_region
    all_goals go_wp2
    all_goals go_roundw
    all_goals first
     | (simp [intOf]; omega)
     | exact ⟨j + 1, by omega, by go_num, World.ownsRow.drew (by rw [<- fillTo_set rz hlt, HD.out.2, HW.out, <- List.set_set (a := (j : Int) * 2654435761), List.map_set]; exact (HO2.out.stored j _).1), Ext.drew (Ext.setCell HX2.out (by show w.heap.size <= g; exact hgw) _)⟩
  ·obtain rfl : j = n := by omega
   go_wp2
   go_ret
   exact ⟨g, rfl, by rw [<- fillTo_full, HD.out.2]; exact HO.out, HX.out⟩
def Sh.dr (s : Sh) : Nat := 2 * s.x + 2 * s.y + s.z
theorem keepDraws_c {kd m k n : Nat} {s : Sh} (hc : ofCls kd m k n s) (hs : s.ok) (q : Nat) (hq : q <= 40) (a : Option Addr) (rl rcap : Nat) (rz : List Int) (hrl : rz.length = rl) (hrm : rl <= 100000000000000) (w : World) (hr : rl = 0 \/ ∃ b off, a = some ⟨b, off, none⟩ /\ WordsAt w b off rz) :
  Calls Tryz.prog 35 #[clsV kd m k n, .slice a rl rcap, .int .i64 q] w fun e w' => ∃ g, e = .returned (.slice (some ⟨g, 0, none⟩) (q * s.dr) (q * s.dr)) /\ w'.ownsRow w.heap.size 146 1 (.slice (some ⟨g, 0, none⟩) (q * s.dr) (q * s.dr)) (q * s.dr) ((fillS rz (q * s.dr)).map (Value.int .u64)) /\ Ext w w' := by
 have hle := Sh.le hs
 have hdr : s.dr <= 1000 := by unfold Sh.dr; omega
 have hN : q * s.dr <= 100000 := by have := Nat.mul_le_mul hq hdr; omega
 have HS : Hid _ := sizes_c hc hs
 have HF : Hid (∀ N w', N = q * s.dr -> Ext w w' -> _) := fun N w' hN' hx => keepFilled_c a rl rcap N rz hrl hrm (by omega) w' (hr.imp id (fun ⟨b, off, h1, h2⟩ => ⟨b, off, h1, h2.ext hx⟩))
 have HN : Hid (wrap64 ((q : Int) * (2 * (s.x : Int) + 2 * (s.y : Int) + (s.z : Int))) = ((q * s.dr : Nat) : Int)) := by
  show wrap64 _ = _
  rw [show 2 * (s.x : Int) + 2 * (s.y : Int) + (s.z : Int) = ((s.dr : Nat) : Int) by unfold Sh.dr; omega, <- Int.natCast_mul, show ∀ z : Int, wrap64 z = IntKind.i64.wrap z from fun z => by rw [IntKind.wrap_i64, wrap64]]
  exact wrap_small (by omega)
 clear hr hc hs
 generalize q * s.dr = N at *
 generalize s.x = x at *
 generalize s.y = y at *
 generalize s.z = z at *
 unfold clsV at *
 go_enter Tryz.func35, Tryz.ntmps35
 go_wp2_with fail
 refine (HS.out _).mono ?_
 rintro e w1 ⟨rfl, hx1⟩
 have HX1 : Hid (Ext w w1) := ((Ext.refl w).alloc _).trans hx1
 clear hx1
 go_wp2_with fail
 rw [HN.out]
 refine (HF.out _ _ rfl HX1.out).mono ?_
 rintro e w2 ⟨g, rfl, h3, h4⟩
 have HQ : Hid _ := And.intro h3 h4
 clear h3 h4
 go_wp2
 go_ret
 obtain ⟨h3, h4⟩ := HQ.out
 exact ⟨g, rfl, owns_base h3 HX1.out.le, HX1.out.trans h4⟩
end
-- VKr
section
set_option maxRecDepth 100000
set_option maxHeartbeats 16000000
open Go.RowKit
def stepV (kd a b c n : Int) (dr : Value) : Value := .agg #[.int .i64 kd, .int .i64 a, .int .i64 b, .int .i64 c, .int .i64 n, dr]
def reqOf (kd a b c n : Int) : Value :=
 let q := clsK (pickN c 4)
 if pickN kd 7 = 1 then reqV 1 (1 + pickN a 3 : Nat) (pickN b 4) q.1 q.2.1 q.2.2.1 q.2.2.2 0 (pickN n 6) 0
 else if pickN kd 7 = 2 then reqV 3 (1 + pickN a 3 : Nat) (pickN b 4) 0 0 0 0 0 0 0
 else reqV 2 (1 + pickN a 3 : Nat) 0 q.1 q.2.1 q.2.2.1 q.2.2.2 (pickN b 12) (pickN n 6) (pickN (Int.tdiv a 3) 3)
def inI (z : Int) : Prop := -9223372036854775808 <= z /\ z <= 9223372036854775807
theorem inI_div {a : Int} (h : inI a) : inI (Int.tdiv a 3) := by
 unfold inI at *
 rcases Int.le_total 0 a with h0 | h0
 ·rw [Int.tdiv_eq_ediv_of_nonneg h0]; omega
 ·rw [show a = -(-a) by omega, Int.neg_tdiv, Int.tdiv_eq_ediv_of_nonneg (show 0 <= -a by omega)]; omega
theorem ten_set {w w2 : World} {b : Nat} {t : TypeId} (hr : w2.heap[b]? = some (.cells #[.int .i64 0, .int .i64 0, .int .i64 0, .int .i64 0, .int .i64 0, .int .i64 0, .int .i64 0, .int .i64 0, .int .i64 0, .int .i64 0] t (0, 0))) (hx : Ext w w2) (hb : w.heap.size <= b) (v0 v1 v2 v3 v4 v5 v6 v7 v8 v9 : Value) : ((((((((((w2.setCell ⟨b, 0, none⟩ v0).setCell ⟨b, 1, none⟩ v1).setCell ⟨b, 2, none⟩ v2).setCell ⟨b, 3, none⟩ v3).setCell ⟨b, 4, none⟩ v4).setCell ⟨b, 5, none⟩ v5).setCell ⟨b, 6, none⟩ v6).setCell ⟨b, 7, none⟩ v7).setCell ⟨b, 8, none⟩ v8).setCell ⟨b, 9, none⟩ v9).heap[b]? = some (.cells #[v0, v1, v2, v3, v4, v5, v6, v7, v8, v9] t (0, 0)) /\ Ext w ((((((((((w2.setCell ⟨b, 0, none⟩ v0).setCell ⟨b, 1, none⟩ v1).setCell ⟨b, 2, none⟩ v2).setCell ⟨b, 3, none⟩ v3).setCell ⟨b, 4, none⟩ v4).setCell ⟨b, 5, none⟩ v5).setCell ⟨b, 6, none⟩ v6).setCell ⟨b, 7, none⟩ v7).setCell ⟨b, 8, none⟩ v8).setCell ⟨b, 9, none⟩ v9) :=
 ⟨by have h := (setCell_row (i := 9) (setCell_row (i := 8) (setCell_row (i := 7) (setCell_row (i := 6) (setCell_row (i := 5) (setCell_row (i := 4) (setCell_row (i := 3) (setCell_row (i := 2) (setCell_row (i := 1) (setCell_row (i := 0) hr v0) v1) v2) v3) v4) v5) v6) v7) v8) v9); simpa using h, (Ext.setCell (Ext.setCell (Ext.setCell (Ext.setCell (Ext.setCell (Ext.setCell (Ext.setCell (Ext.setCell (Ext.setCell (Ext.setCell hx hb _) hb _) hb _) hb _) hb _) hb _) hb _) hb _) hb _) hb _)⟩
theorem ten_far {w2 : World} {b c i : Nat} (h : b ≠ c) {v0 v1 v2 v3 v4 v5 v6 v7 v8 v9 : Value} : ((((((((((w2.setCell ⟨b, 0, none⟩ v0).setCell ⟨b, 1, none⟩ v1).setCell ⟨b, 2, none⟩ v2).setCell ⟨b, 3, none⟩ v3).setCell ⟨b, 4, none⟩ v4).setCell ⟨b, 5, none⟩ v5).setCell ⟨b, 6, none⟩ v6).setCell ⟨b, 7, none⟩ v7).setCell ⟨b, 8, none⟩ v8).setCell ⟨b, 9, none⟩ v9).cell? ⟨c, i, none⟩ = w2.cell? ⟨c, i, none⟩ := by
 iterate 10 rw [World.cell?_setCell_far _ _ _ _ h]
theorem keepRequest_c (kd a b c n : Int) (dr : Value) (h1 : inI kd) (h2 : inI a) (h3 : inI b) (h4 : inI c) (h5 : inI n) (w : World) : Calls Tryz.prog 19 #[stepV kd a b c n dr] w fun e w' => e = .returned (reqOf kd a b c n) /\ Ext w w' := by
 have HA : Hid _ := fun w => pick_c a 3 (by decide) (by decide) h2.1 h2.2 w
 have HB : Hid _ := fun w => pick_c b 4 (by decide) (by decide) h3.1 h3.2 w
 have HC : Hid _ := fun w => pick_c c 4 (by decide) (by decide) h4.1 h4.2 w
 have HN : Hid _ := fun w => pick_c n 6 (by decide) (by decide) h5.1 h5.2 w
 have HK : Hid _ := fun w => pick_c kd 7 (by decide) (by decide) h1.1 h1.2 w
 have HF : Hid _ := fun w => pick_c b 12 (by decide) (by decide) h3.1 h3.2 w
 have HP : Hid _ := fun w => pick_c (Int.tdiv a 3) 3 (by decide) (by decide) (inI_div h2).1 (inI_div h2).2 w
 have la := pickN_lt a (show 0 < 3 by decide)
 have lb := pickN_lt b (show 0 < 4 by decide)
 have lc := pickN_lt c (show 0 < 4 by decide)
 have ln := pickN_lt n (show 0 < 6 by decide)
 have lk := pickN_lt kd (show 0 < 7 by decide)
 have lf := pickN_lt b (show 0 < 12 by decide)
 have lp := pickN_lt (Int.tdiv a 3) (show 0 < 3 by decide)
 have hdv : IntKind.i64.wrap (Int.tdiv a 3) = Int.tdiv a 3 := by have := inI_div h2; unfold inI at this; rw [IntKind.wrap_i64]; omega
 have HL : Hid _ := fun w => keepClass_c (pickN c 4) (by omega) (by omega) w
 unfold reqOf stepV
 simp only
 generalize pickN a 3 = pa at *
 generalize pickN b 4 = pb at *
 generalize pickN c 4 = pc at *
 generalize pickN n 6 = pn at *
 generalize pickN kd 7 = pk at *
 generalize pickN b 12 = pf at *
 generalize pickN (Int.tdiv a 3) 3 = pp at *
 generalize clsK pc = q at *
 obtain ⟨q1, q2, q3, q4⟩ := q
 simp only at *
 clear h1 h2 h3 h4 h5
 go_enter Tryz.func19, Tryz.ntmps19
 go_wp2_with fail
 refine (HA.out _).mono ?_
 rintro e w1 ⟨rfl, rfl⟩
 go_wp2_with fail
 refine (HB.out _).mono ?_
 rintro e w1 ⟨rfl, rfl⟩
 go_wp2_with fail
 refine (HC.out _).mono ?_
 rintro e w1 ⟨rfl, rfl⟩
 go_wp2_with fail
 refine (HL.out _).mono ?_
 unfold clsV
 rintro e w1 ⟨rfl, hx1⟩
 have HR0 := hx1.block (show ((w.alloc (.cells #[.int .i64 kd, .int .i64 a, .int .i64 b, .int .i64 c, .int .i64 n, dr] 37)).alloc _).heap[w.heap.size]? = _ from (((Ext.refl _).alloc _).block (heap_alloc_new w _)))
 have HR1 := hx1.block (heap_alloc_new (w.alloc (.cells #[.int .i64 kd, .int .i64 a, .int .i64 b, .int .i64 c, .int .i64 n, dr] 37)) _)
 have hsz : (w.alloc (.cells #[.int .i64 kd, .int .i64 a, .int .i64 b, .int .i64 c, .int .i64 n, dr] 37)).heap.size = w.heap.size + 1 := by show (w.heap.push _).size = _; exact Array.size_push ..
 rw [hsz] at HR1
 have HX1 : Hid (Ext w w1) := (((Ext.refl w).alloc _).alloc _).trans hx1
 clear hx1 hsz
 have hlt : w.heap.size + 1 < w1.heap.size := by have := (Array.getElem?_eq_some_iff.1 HR1).1; exact this
 obtain ⟨b0, hb0⟩ : ∃ b0, w.heap.size = b0 := ⟨_, rfl⟩
 obtain ⟨b1, hb1⟩ : ∃ b1, w.heap.size + 1 = b1 := ⟨_, rfl⟩
 have HBW : Hid (w.heap.size <= b1) := by show w.heap.size <= b1; omega
 rw [hb1] at HR1 hlt ⊢
 rw [hb0] at HR0 ⊢
 have c0 := (cell_of_row w1 _ 0 _ _ _ HR0).trans (show _ = some (.int .i64 kd) from rfl)
 have c1 := (cell_of_row w1 _ 1 _ _ _ HR0).trans (show _ = some (.int .i64 a) from rfl)
 have c2 := (cell_of_row w1 _ 2 _ _ _ HR0).trans (show _ = some (.int .i64 b) from rfl)
 have c4 := (cell_of_row w1 _ 4 _ _ _ HR0).trans (show _ = some (.int .i64 n) from rfl)
 have h01 : b0 ≠ b1 := by omega
 have hlt0 : b0 < w1.heap.size := by omega
 have hn0 : w1.heap.size ≠ b0 := by omega
 have hn1 : w1.heap.size ≠ b1 := by omega
 have HRh : Hid _ := HR1
 clear HR0 HR1 hb0 hb1
 have HLe : Hid _ := fun w => keepLease_c ((1 + pa : Nat) : Int) pb q1 q2 q3 q4 pn w
 have HRe : Hid _ := fun w => keepRelease_c ((1 + pa : Nat) : Int) pb w
 have HFe : Hid _ := fun w => keepFetch_c ((1 + pa : Nat) : Int) q1 q2 q3 q4 pf pn pp w
 unfold clsV reqV at *
 go_wp2_with fail
 refine (HN.out _).mono ?_
 rintro e w2 ⟨rfl, rfl⟩
 go_wp2_with fail
 refine (HK.out _).mono ?_
 rintro e w2 ⟨rfl, rfl⟩
 by_cases hk1 : pk = 1
 ·subst hk1
  go_wp2_with fail
  rw [show (1 : Int) + (pa : Int) = ((1 + pa : Nat) : Int) by omega]
  refine (HLe.out _).mono ?_
  rintro e w2 ⟨rfl, hx2⟩
  generalize hses : ((1 + pa : Nat) : Int) = ses at *
  have HR := hx2.block (((Ext.refl w1).alloc _).block HRh.out)
  have HX2 : Hid (Ext w w2 /\ w.heap.size <= b1) := ⟨HX1.out.trans (((Ext.refl w1).alloc _).trans hx2), HBW.out⟩
  have HR2 : Hid _ := HR
  have key : ∀ i, w2.frozen? ⟨b1, i, none⟩ = false := fun i => by
   unfold World.frozen?
   rw [HR]
   simp
  have r0 := (cell_of_row w2 _ 0 _ _ _ HR).trans (show _ = some (.int .i64 0) from rfl)
  have f0 := key 0
  have r1 := (cell_of_row w2 _ 1 _ _ _ HR).trans (show _ = some (.int .i64 0) from rfl)
  have f1 := key 1
  have r2 := (cell_of_row w2 _ 2 _ _ _ HR).trans (show _ = some (.int .i64 0) from rfl)
  have f2 := key 2
  have r3 := (cell_of_row w2 _ 3 _ _ _ HR).trans (show _ = some (.int .i64 0) from rfl)
  have f3 := key 3
  have r4 := (cell_of_row w2 _ 4 _ _ _ HR).trans (show _ = some (.int .i64 0) from rfl)
  have f4 := key 4
  have r5 := (cell_of_row w2 _ 5 _ _ _ HR).trans (show _ = some (.int .i64 0) from rfl)
  have f5 := key 5
  have r6 := (cell_of_row w2 _ 6 _ _ _ HR).trans (show _ = some (.int .i64 0) from rfl)
  have f6 := key 6
  have r7 := (cell_of_row w2 _ 7 _ _ _ HR).trans (show _ = some (.int .i64 0) from rfl)
  have f7 := key 7
  have r8 := (cell_of_row w2 _ 8 _ _ _ HR).trans (show _ = some (.int .i64 0) from rfl)
  have f8 := key 8
  have r9 := (cell_of_row w2 _ 9 _ _ _ HR).trans (show _ = some (.int .i64 0) from rfl)
  have f9 := key 9
  clear HR key hx2 hlt hlt0 hn0 hn1 c0 c1 c2 c4
  go_wp2
  obtain ⟨hR, hxe⟩ := ten_set HR2.out HX2.out.1 HX2.out.2 (.int .i64 (1)) (.int .i64 (ses)) (.int .i64 (pb)) (.int .i64 (q1)) (.int .i64 (q2)) (.int .i64 (q3)) (.int .i64 (q4)) (.int .i64 (0)) (.int .i64 (pn)) (.int .i64 (0))
  generalize World.setCell _ _ _ = V at hR hxe ⊢
  have s0 := (cell_of_row V _ 0 _ _ _ hR).trans (show _ = some (.int .i64 (1)) from rfl)
  have s1 := (cell_of_row V _ 1 _ _ _ hR).trans (show _ = some (.int .i64 (ses)) from rfl)
  have s2 := (cell_of_row V _ 2 _ _ _ hR).trans (show _ = some (.int .i64 (pb)) from rfl)
  have s3 := (cell_of_row V _ 3 _ _ _ hR).trans (show _ = some (.int .i64 (q1)) from rfl)
  have s4 := (cell_of_row V _ 4 _ _ _ hR).trans (show _ = some (.int .i64 (q2)) from rfl)
  have s5 := (cell_of_row V _ 5 _ _ _ hR).trans (show _ = some (.int .i64 (q3)) from rfl)
  have s6 := (cell_of_row V _ 6 _ _ _ hR).trans (show _ = some (.int .i64 (q4)) from rfl)
  have s7 := (cell_of_row V _ 7 _ _ _ hR).trans (show _ = some (.int .i64 (0)) from rfl)
  have s8 := (cell_of_row V _ 8 _ _ _ hR).trans (show _ = some (.int .i64 (pn)) from rfl)
  have s9 := (cell_of_row V _ 9 _ _ _ hR).trans (show _ = some (.int .i64 (0)) from rfl)
  clear hR r0 r1 r2 r3 r4 r5 r6 r7 r8 r9 f0 f1 f2 f3 f4 f5 f6 f7 f8 f9
  refine bodyPost_ret (v := .agg #[.int .i64 1, .int .i64 ses, .int .i64 pb, .int .i64 q1, .int .i64 q2, .int .i64 q3, .int .i64 q4, .int .i64 0, .int .i64 pn, .int .i64 0]) ?_ rfl ⟨by rw [<- hses, Int.natCast_add]; rfl, hxe⟩
  simp [results, Tryz.results19, go_sem, s0, s1, s2, s3, s4, s5, s6, s7, s8, s9]
 ·by_cases hk2 : pk = 2
  ·subst hk2
   go_wp2_with fail
   rw [show (1 : Int) + (pa : Int) = ((1 + pa : Nat) : Int) by omega]
   refine (HRe.out _).mono ?_
   rintro e w2 ⟨rfl, hx2⟩
   generalize hses : ((1 + pa : Nat) : Int) = ses at *
   have HR := hx2.block (((Ext.refl w1).alloc _).block HRh.out)
   have HX2 : Hid (Ext w w2 /\ w.heap.size <= b1) := ⟨HX1.out.trans (((Ext.refl w1).alloc _).trans hx2), HBW.out⟩
   have HR2 : Hid _ := HR
   have key : ∀ i, w2.frozen? ⟨b1, i, none⟩ = false := fun i => by
    unfold World.frozen?
    rw [HR]
    simp
   have r0 := (cell_of_row w2 _ 0 _ _ _ HR).trans (show _ = some (.int .i64 0) from rfl)
   have f0 := key 0
   have r1 := (cell_of_row w2 _ 1 _ _ _ HR).trans (show _ = some (.int .i64 0) from rfl)
   have f1 := key 1
   have r2 := (cell_of_row w2 _ 2 _ _ _ HR).trans (show _ = some (.int .i64 0) from rfl)
   have f2 := key 2
   have r3 := (cell_of_row w2 _ 3 _ _ _ HR).trans (show _ = some (.int .i64 0) from rfl)
   have f3 := key 3
   have r4 := (cell_of_row w2 _ 4 _ _ _ HR).trans (show _ = some (.int .i64 0) from rfl)
   have f4 := key 4
   have r5 := (cell_of_row w2 _ 5 _ _ _ HR).trans (show _ = some (.int .i64 0) from rfl)
   have f5 := key 5
   have r6 := (cell_of_row w2 _ 6 _ _ _ HR).trans (show _ = some (.int .i64 0) from rfl)
   have f6 := key 6
   have r7 := (cell_of_row w2 _ 7 _ _ _ HR).trans (show _ = some (.int .i64 0) from rfl)
   have f7 := key 7
   have r8 := (cell_of_row w2 _ 8 _ _ _ HR).trans (show _ = some (.int .i64 0) from rfl)
   have f8 := key 8
   have r9 := (cell_of_row w2 _ 9 _ _ _ HR).trans (show _ = some (.int .i64 0) from rfl)
   have f9 := key 9
   clear HR key hx2 hlt hlt0 hn0 hn1 c0 c1 c2 c4
   go_wp2
   obtain ⟨hR, hxe⟩ := ten_set HR2.out HX2.out.1 HX2.out.2 (.int .i64 (3)) (.int .i64 (ses)) (.int .i64 (pb)) (.int .i64 (0)) (.int .i64 (0)) (.int .i64 (0)) (.int .i64 (0)) (.int .i64 (0)) (.int .i64 (0)) (.int .i64 (0))
   generalize World.setCell _ _ _ = V at hR hxe ⊢
   have s0 := (cell_of_row V _ 0 _ _ _ hR).trans (show _ = some (.int .i64 (3)) from rfl)
   have s1 := (cell_of_row V _ 1 _ _ _ hR).trans (show _ = some (.int .i64 (ses)) from rfl)
   have s2 := (cell_of_row V _ 2 _ _ _ hR).trans (show _ = some (.int .i64 (pb)) from rfl)
   have s3 := (cell_of_row V _ 3 _ _ _ hR).trans (show _ = some (.int .i64 (0)) from rfl)
   have s4 := (cell_of_row V _ 4 _ _ _ hR).trans (show _ = some (.int .i64 (0)) from rfl)
   have s5 := (cell_of_row V _ 5 _ _ _ hR).trans (show _ = some (.int .i64 (0)) from rfl)
   have s6 := (cell_of_row V _ 6 _ _ _ hR).trans (show _ = some (.int .i64 (0)) from rfl)
   have s7 := (cell_of_row V _ 7 _ _ _ hR).trans (show _ = some (.int .i64 (0)) from rfl)
   have s8 := (cell_of_row V _ 8 _ _ _ hR).trans (show _ = some (.int .i64 (0)) from rfl)
   have s9 := (cell_of_row V _ 9 _ _ _ hR).trans (show _ = some (.int .i64 (0)) from rfl)
   clear hR r0 r1 r2 r3 r4 r5 r6 r7 r8 r9 f0 f1 f2 f3 f4 f5 f6 f7 f8 f9
   refine bodyPost_ret (v := .agg #[.int .i64 3, .int .i64 ses, .int .i64 pb, .int .i64 0, .int .i64 0, .int .i64 0, .int .i64 0, .int .i64 0, .int .i64 0, .int .i64 0]) ?_ rfl ⟨by rw [<- hses, Int.natCast_add]; rfl, hxe⟩
   simp [results, Tryz.results19, go_sem, s0, s1, s2, s3, s4, s5, s6, s7, s8, s9]
  ·have hk1' : ¬ (pk : Int) = 1 := by omega
   have hk2' : ¬ (pk : Int) = 2 := by omega
   go_wp2_with fail
   rw [show (1 : Int) + (pa : Int) = ((1 + pa : Nat) : Int) by omega]
   generalize hses : ((1 + pa : Nat) : Int) = ses at *
   have hrow := heap_alloc_new w1 (.cells #[.int .i64 q1, .int .i64 q2, .int .i64 q3, .int .i64 q4] 49)
   have hx0 : Ext w1 (w1.alloc (.cells #[.int .i64 q1, .int .i64 q2, .int .i64 q3, .int .i64 q4] 49)) := (Ext.refl w1).alloc _
   generalize World.alloc w1 _ = W0 at hrow hx0 ⊢
   obtain ⟨gc, hgc⟩ : ∃ gc, w1.heap.size = gc := ⟨_, rfl⟩
   rw [hgc] at hrow ⊢
   have hgb : gc ≠ b1 := by omega
   have k0 := (cell_of_row W0 _ 0 _ _ _ hrow).trans (show _ = some (.int .i64 q1) from rfl)
   have k1 := (cell_of_row W0 _ 1 _ _ _ hrow).trans (show _ = some (.int .i64 q2) from rfl)
   have k2 := (cell_of_row W0 _ 2 _ _ _ hrow).trans (show _ = some (.int .i64 q3) from rfl)
   have k3 := (cell_of_row W0 _ 3 _ _ _ hrow).trans (show _ = some (.int .i64 q4) from rfl)
   have d1 := hx0.cell c1
   have d2 := hx0.cell c2
   have SD : Hid (∀ W, Ext W0 W -> (fun w' => w'.cell? ⟨b0, 1, none⟩ = some (.int .i64 a) /\ w'.cell? ⟨b0, 2, none⟩ = some (.int .i64 b) /\ w'.cell? ⟨gc, 0, none⟩ = some (.int .i64 q1) /\ w'.cell? ⟨gc, 1, none⟩ = some (.int .i64 q2) /\ w'.cell? ⟨gc, 2, none⟩ = some (.int .i64 q3) /\ w'.cell? ⟨gc, 3, none⟩ = some (.int .i64 q4)) W) := fun W hT => ⟨hT.cell d1, hT.cell d2, hT.cell k0, hT.cell k1, hT.cell k2, hT.cell k3⟩
   have HX0 : Hid (Ext w1 W0) := hx0
   clear hrow hx0 c0 c1 c2 c4 hlt hlt0 hn0 hn1 hgc
   refine wp_region_held_drew (S := ((fun w' => w'.cell? ⟨b0, 1, none⟩ = some (.int .i64 a) /\ w'.cell? ⟨b0, 2, none⟩ = some (.int .i64 b) /\ w'.cell? ⟨gc, 0, none⟩ = some (.int .i64 q1) /\ w'.cell? ⟨gc, 1, none⟩ = some (.int .i64 q2) /\ w'.cell? ⟨gc, 2, none⟩ = some (.int .i64 q3) /\ w'.cell? ⟨gc, 3, none⟩ = some (.int .i64 q4)))) (by kernel_rfl) ⟨d1, d2, k0, k1, k2, k3⟩ (fun hHeld => ?_)
   refine zT 0 hHeld ?_
   refine zT 1 hHeld ?_
   refine zT 2 hHeld ?_
   refine zT 3 hHeld ?_
   refine zT 5 hHeld ?_
   refine zT 6 hHeld ?_
   refine zT 7 hHeld ?_
   refine zT 8 hHeld ?_
   refine zR 4 fun K hK => ?_
   (try simp only [lA, lB, lC])
   go_simp
   refine (HF.out _).mono ?_
   rintro e w2' ⟨rfl, rfl⟩
   refine hK.out _ _ (SD.out _ (Ext.drew (Ext.refl _))) (fun hHeld => ?_)
   clear hK K
   try simp only [Act.put, lA, lB, lC, lD, lE, lF]
   refine zR 9 fun K hK => ?_
   (try simp only [lA, lB, lC])
   go_simp
   refine (HP.out _).mono ?_
   rintro e w2' ⟨rfl, rfl⟩
   refine hK.out _ _ (SD.out _ (Ext.drew (Ext.refl _))) (fun hHeld => ?_)
   clear hK K
   try simp only [Act.put, lA, lB, lC, lD, lE, lF]
   refine zR 10 fun K hK => ?_
   (try simp only [lA, lB, lC])
   go_simp
   refine (HFe.out _).mono ?_
   rintro e w2 ⟨rfl, hx2⟩
   have hX2 : Ext W0 w2 := (Ext.drew (Ext.refl W0)).trans hx2
   have HR := (HX0.out.trans hX2).block HRh.out
   have HX2 : Hid (Ext w w2 /\ w.heap.size <= b1) := ⟨HX1.out.trans (HX0.out.trans hX2), HBW.out⟩
   have HR2 : Hid _ := HR
   have key : ∀ i, w2.frozen? ⟨b1, i, none⟩ = false := fun i => by (unfold World.frozen?; rw [HR]; simp)
   have r0 := (cell_of_row w2 _ 0 _ _ _ HR).trans (show _ = some (.int .i64 0) from rfl)
   have f0 := key 0
   have r1 := (cell_of_row w2 _ 1 _ _ _ HR).trans (show _ = some (.int .i64 0) from rfl)
   have f1 := key 1
   have r2 := (cell_of_row w2 _ 2 _ _ _ HR).trans (show _ = some (.int .i64 0) from rfl)
   have f2 := key 2
   have r3 := (cell_of_row w2 _ 3 _ _ _ HR).trans (show _ = some (.int .i64 0) from rfl)
   have f3 := key 3
   have r4 := (cell_of_row w2 _ 4 _ _ _ HR).trans (show _ = some (.int .i64 0) from rfl)
   have f4 := key 4
   have r5 := (cell_of_row w2 _ 5 _ _ _ HR).trans (show _ = some (.int .i64 0) from rfl)
   have f5 := key 5
   have r6 := (cell_of_row w2 _ 6 _ _ _ HR).trans (show _ = some (.int .i64 0) from rfl)
   have f6 := key 6
   have r7 := (cell_of_row w2 _ 7 _ _ _ HR).trans (show _ = some (.int .i64 0) from rfl)
   have f7 := key 7
   have r8 := (cell_of_row w2 _ 8 _ _ _ HR).trans (show _ = some (.int .i64 0) from rfl)
   have f8 := key 8
   have r9 := (cell_of_row w2 _ 9 _ _ _ HR).trans (show _ = some (.int .i64 0) from rfl)
   have f9 := key 9
   have HS2 : Hid ((fun w' => w'.cell? ⟨b0, 1, none⟩ = some (.int .i64 a) /\ w'.cell? ⟨b0, 2, none⟩ = some (.int .i64 b) /\ w'.cell? ⟨gc, 0, none⟩ = some (.int .i64 q1) /\ w'.cell? ⟨gc, 1, none⟩ = some (.int .i64 q2) /\ w'.cell? ⟨gc, 2, none⟩ = some (.int .i64 q3) /\ w'.cell? ⟨gc, 3, none⟩ = some (.int .i64 q4)) w2) := SD.out _ hX2
   clear HR key hx2 hX2
   refine hK.out _ _ HS2.out (fun hHeld => ?_)
   clear hK K
   try simp only [Act.put, lA, lB, lC, lD, lE, lF]
   refine zR 11 fun K hK => ?_
   (try simp only [lA, lB, lC])
   go_simp
   refine hK.out _ _ ?hlast (fun hHeld => ?_)
   case hlast =>
    obtain ⟨s0, s1, s2, s3, s4, s5⟩ := HS2.out
    exact ⟨(ten_far h01.symm).trans s0, (ten_far h01.symm).trans s1, (ten_far hgb.symm).trans s2, (ten_far hgb.symm).trans s3, (ten_far hgb.symm).trans s4, (ten_far hgb.symm).trans s5⟩
   clear hK K
   try simp only [Act.put, lA, lB, lC, lD, lE, lF]
   refine wpAnyH_done (by kernel_rfl) ?_ _
   clear hHeld k0 k1 k2 k3 d1 d2
   go_wp2
   obtain ⟨hR, hxe⟩ := ten_set HR2.out HX2.out.1 HX2.out.2 (.int .i64 (2)) (.int .i64 (ses)) (.int .i64 (0)) (.int .i64 (q1)) (.int .i64 (q2)) (.int .i64 (q3)) (.int .i64 (q4)) (.int .i64 (pf)) (.int .i64 (pn)) (.int .i64 (pp))
   generalize World.setCell _ _ _ = V at hR hxe ⊢
   have s0 := (cell_of_row V _ 0 _ _ _ hR).trans (show _ = some (.int .i64 (2)) from rfl)
   have s1 := (cell_of_row V _ 1 _ _ _ hR).trans (show _ = some (.int .i64 (ses)) from rfl)
   have s2 := (cell_of_row V _ 2 _ _ _ hR).trans (show _ = some (.int .i64 (0)) from rfl)
   have s3 := (cell_of_row V _ 3 _ _ _ hR).trans (show _ = some (.int .i64 (q1)) from rfl)
   have s4 := (cell_of_row V _ 4 _ _ _ hR).trans (show _ = some (.int .i64 (q2)) from rfl)
   have s5 := (cell_of_row V _ 5 _ _ _ hR).trans (show _ = some (.int .i64 (q3)) from rfl)
   have s6 := (cell_of_row V _ 6 _ _ _ hR).trans (show _ = some (.int .i64 (q4)) from rfl)
   have s7 := (cell_of_row V _ 7 _ _ _ hR).trans (show _ = some (.int .i64 (pf)) from rfl)
   have s8 := (cell_of_row V _ 8 _ _ _ hR).trans (show _ = some (.int .i64 (pn)) from rfl)
   have s9 := (cell_of_row V _ 9 _ _ _ hR).trans (show _ = some (.int .i64 (pp)) from rfl)
   clear hR r0 r1 r2 r3 r4 r5 r6 r7 r8 r9 f0 f1 f2 f3 f4 f5 f6 f7 f8 f9
   refine bodyPost_ret (v := .agg #[.int .i64 2, .int .i64 ses, .int .i64 0, .int .i64 q1, .int .i64 q2, .int .i64 q3, .int .i64 q4, .int .i64 pf, .int .i64 pn, .int .i64 pp]) ?_ rfl ⟨rfl, hxe⟩
   simp [results, Tryz.results19, go_sem, s0, s1, s2, s3, s4, s5, s6, s7, s8, s9]
end
end Go.Proofs.YtmnjhhachdlmkaaGreat
