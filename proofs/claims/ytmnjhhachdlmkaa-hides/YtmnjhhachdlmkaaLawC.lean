import Derived.Test.YtmnjhhachdlmkaaLaw1
import Derived.Test.YtmnjhhachdlmkaaMake
namespace Go.Proofs.Ytmnjhhachdlmkaa
open Go.RowKit

theorem infoEight : (Try.prog.info? 67).map (·.size) = some 32 := by kernel_rfl

/-- AT A STEP OF A PLAIN REGION: an array of 32 cells is stored into a block of its own. -/
theorem wpList_store_eight {ops : Array Oper} {rest : List Oper} {o : Oper} {a : Act} {w : World} {Q : Exit → Act → World → Prop} (B : World) (hgd : o.guard = none) (x y : Operand) (ho : o.op = .store 67 x y)
    (g : Nat) (cells : Array Value) (hx : a.eval x = .pointer (some ⟨g, 0, none⟩)) (hy : a.eval y = .agg cells) (hs : cells.size = 32) (h1 : cells.all (·.oneCell') = true)
    (t : TypeId) (old : Array Value) (hg : w.heap[g]? = some (.cells old t (0, 0))) (hold : old.size = 32) (hB : Ext B w) (hgB : B.heap.size ≤ g)
    (h : ∀ w3, w3.heap[g]? = some (.cells cells t (0, 0)) → Ext B w3 → wpList Try.prog ops Q rest (a.put o.dst undef) w3) :
    wpList Try.prog ops Q (o :: rest) a w := by
  refine wpList_plain hgd fun K hK => ?_
  refine wp_store_row 67 x y ho g cells hx hy t old hg (by rw [infoEight, hs]) (by rw [hold, hs]) h1 (hK _ _ (h _ (setRow_heap _ _ _ _ _ _ hg) ?_))
  exact ⟨by rw [setRow_os]; exact Below.os hB, by rw [setRow_tape]; exact Below.tape hB, by rw [setRow_output]; exact Below.output hB, by rw [setRow_size]; exact hB.le, fun k hk => by rw [setRow_other _ _ _ _ (by omega)]; exact Below.block hB k hk⟩

def eightV : Array Value := #[.int .i64 0, .int .i64 1, .int .i64 1, .int .i64 1, .int .i64 2, .int .i64 1, .int .i64 1, .int .i64 1, .int .i64 1, .int .i64 1, .int .i64 2, .int .i64 1, .int .i64 1, .int .i64 2, .int .i64 3, .int .i64 2, .int .i64 2, .int .i64 3, .int .i64 1, .int .i64 1, .int .i64 1, .int .i64 1, .int .i64 1, .int .i64 1, .int .i64 1, .int .i64 3, .int .i64 1, .int .i64 3, .int .i64 1, .int .i64 3, .int .i64 3, .int .i64 3]

theorem wpList_value {P : Program} {ops : Array Oper} {rest : List Oper} {o : Oper} {a : Act} {w : World} {Q : Exit → Act → World → Prop} (hg : o.guard = none) (v : Value) (h : (execOp a.eval o).run P w = .ok (.value v) w) (hn : wpList P ops Q rest (a.put o.dst v) w) : wpList P ops Q (o :: rest) a w :=
  wpList_plain hg fun K hK => by unfold Oper.wp; rw [h]; exact hK _ _ hn
theorem wpList_world {P : Program} {ops : Array Oper} {rest : List Oper} {o : Oper} {a : Act} {w w' : World} {Q : Exit → Act → World → Prop} (hg : o.guard = none) (v : Value) (h : (execOp a.eval o).run P w = .ok (.value v) w') (hn : wpList P ops Q rest (a.put o.dst v) w') : wpList P ops Q (o :: rest) a w :=
  wpList_plain hg fun K hK => by unfold Oper.wp; rw [h]; exact hK _ _ hn

set_option maxRecDepth 100000 in
set_option maxHeartbeats 16000000 in
theorem lawClass_c (c : Int) (hc0 : -9223372036854775808 ≤ c) (hc1 : c ≤ 9223372036854775807) (w : World) : Calls Try.prog 13 #[.int .i64 c] w fun e w' => ∃ kd m k n : Nat, e = .returned (clsV kd m k n) ∧ isCls kd m k n = true ∧ Ext w w' := by
  unfold clsV
  have HPk : Hid _ := pick8_c c hc0 hc1
  clear hc0 hc1
  go_enter Try.func13, Try.ntmps13
  iterate 11 (first | go_values | go_skip | go_guarded | go_step | go_upon | go_back)
  have hr0 : (w.alloc (.cells #[.int .i64 0, .int .i64 0, .int .i64 0, .int .i64 0] 23)).heap[w.heap.size]? = some (.cells #[.int .i64 0, .int .i64 0, .int .i64 0, .int .i64 0] 23 (0, 0)) := heap_alloc_new w _
  have hX0 : Ext w (w.alloc (.cells #[.int .i64 0, .int .i64 0, .int .i64 0, .int .i64 0] 23)) := (Ext.refl w).alloc _
  generalize World.alloc w _ = W0 at hr0 hX0 ⊢
  refine wpList_value rfl (.agg #[.int .i64 0, .int .i64 1, .int .i64 1, .int .i64 1]) (by kernel_rfl) ?_
  refine wpList_value rfl (.agg #[.int .i64 2, .int .i64 1, .int .i64 1, .int .i64 1]) (by kernel_rfl) ?_
  refine wpList_value rfl (.agg #[.int .i64 1, .int .i64 1, .int .i64 2, .int .i64 1]) (by kernel_rfl) ?_
  refine wpList_value rfl (.agg #[.int .i64 1, .int .i64 2, .int .i64 3, .int .i64 2]) (by kernel_rfl) ?_
  refine wpList_value rfl (.agg #[.int .i64 2, .int .i64 3, .int .i64 1, .int .i64 1]) (by kernel_rfl) ?_
  refine wpList_value rfl (.agg #[.int .i64 1, .int .i64 1, .int .i64 1, .int .i64 1]) (by kernel_rfl) ?_
  refine wpList_value rfl (.agg #[.int .i64 1, .int .i64 3, .int .i64 1, .int .i64 3]) (by kernel_rfl) ?_
  refine wpList_value rfl (.agg #[.int .i64 1, .int .i64 3, .int .i64 3, .int .i64 3]) (by kernel_rfl) ?_
  refine wpList_value rfl (.agg eightV) (by kernel_rfl) ?_

  refine wpList_world (w' := World.alloc W0 (.cells (Array.replicate 32 (.int .i64 0)) 67)) rfl (.pointer (some ⟨W0.heap.size, 0, none⟩)) ?al ?_
  case al => kernel_rfl
  have hg1 : (World.alloc W0 (.cells (Array.replicate 32 (.int .i64 0)) 67)).heap[W0.heap.size]? = some (.cells (Array.replicate 32 (.int .i64 0)) 67 (0, 0)) := heap_alloc_new W0 _
  have hx1 : Ext W0 (World.alloc W0 (.cells (Array.replicate 32 (.int .i64 0)) 67)) := (Ext.refl W0).alloc _
  generalize World.alloc W0 _ = W1 at hg1 hx1 ⊢
  obtain ⟨g, hgE⟩ : ∃ g, W0.heap.size = g := ⟨_, rfl⟩
  rw [hgE] at hg1 ⊢
  simp only [Act.put, List.setIfInBounds_toArray, List.set_cons_zero, List.set_cons_succ]
  refine wpList_store_eight W0 rfl (.tmp 3) (.tmp 12) rfl g eightV rfl rfl rfl ?one 67 (Array.replicate 32 (.int .i64 0)) hg1 ?sz hx1 (by omega) ?_
  case one => simp [eightV, Value.oneCell']
  case sz => simp
  intro w3 hg3 hx3
  simp only [Act.put]
  have hr3 := hx3.block hr0
  have hx4 : Ext w w3 := hX0.trans hx3
  have HG3 : Hid (w3.heap[g]? = some (.cells eightV 67 (0, 0)) ∧ w3.heap[w.heap.size]? = some (.cells #[.int .i64 0, .int .i64 0, .int .i64 0, .int .i64 0] 23 (0, 0)) ∧ Ext w w3) := ⟨hg3, hr3, hx4⟩
  have hgw : w.heap.size < g := by have := World.block_lt_of_cell? W0 ⟨w.heap.size, 0, none⟩ (cell_of_row W0 _ 0 _ _ _ hr0); rw [hgE] at this; exact this
  clear hg3 hr3 hx3 hx4 hx1 hg1 hr0 hX0 hgE
  go_wp2_with fail
  refine (HPk.out _).mono ?_
  rintro e w4 ⟨q, hq, rfl, rfl⟩
  have hr3 := HG3.out.2.1
  have r0 := (cell_of_row w3 _ 0 _ _ _ hr3).trans (show _ = some (.int .i64 0) from rfl)
  have r1 := (cell_of_row w3 _ 1 _ _ _ hr3).trans (show _ = some (.int .i64 0) from rfl)
  have r2 := (cell_of_row w3 _ 2 _ _ _ hr3).trans (show _ = some (.int .i64 0) from rfl)
  have r3 := (cell_of_row w3 _ 3 _ _ _ hr3).trans (show _ = some (.int .i64 0) from rfl)
  have key : ∀ i, w3.frozen? ⟨w.heap.size, i, none⟩ = false := fun i => by
    unfold World.frozen?
    rw [hr3]
    simp
  have f0 := key 0
  have f1 := key 1
  have f2 := key 2
  have f3 := key 3
  clear key hr3
  have hne : w.heap.size ≠ g := by omega
  obtain rfl | rfl | rfl | rfl | rfl | rfl | rfl | rfl : q = 0 ∨ q = 1 ∨ q = 2 ∨ q = 3 ∨ q = 4 ∨ q = 5 ∨ q = 6 ∨ q = 7 := by omega
  · have e0 : w3.cell? ⟨g, 0, none⟩ = some (.int .i64 0) := (cell_of_row w3 _ 0 _ _ _ HG3.out.1).trans rfl
    have e1 : w3.cell? ⟨g, 1, none⟩ = some (.int .i64 1) := (cell_of_row w3 _ 1 _ _ _ HG3.out.1).trans rfl
    have e2 : w3.cell? ⟨g, 2, none⟩ = some (.int .i64 1) := (cell_of_row w3 _ 2 _ _ _ HG3.out.1).trans rfl
    have e3 : w3.cell? ⟨g, 3, none⟩ = some (.int .i64 1) := (cell_of_row w3 _ 3 _ _ _ HG3.out.1).trans rfl
    go_wp2
    have hs := four_set (g := w.heap.size) (b0 := .int .i64 0) (b1 := .int .i64 1) (b2 := .int .i64 1) (b3 := .int .i64 1) ⟨r0, r1, r2, r3⟩
    have hxe : Ext w ((((w3.setCell ⟨w.heap.size, 0, none⟩ (.int .i64 0)).setCell ⟨w.heap.size, 1, none⟩ (.int .i64 1)).setCell ⟨w.heap.size, 2, none⟩ (.int .i64 1)).setCell ⟨w.heap.size, 3, none⟩ (.int .i64 1)) := Ext.setCell (Ext.setCell (Ext.setCell (Ext.setCell HG3.out.2.2 (Nat.le_refl _) _) (Nat.le_refl _) _) (Nat.le_refl _) _) (Nat.le_refl _) _
    generalize World.setCell _ _ _ = V at hs hxe ⊢
    obtain ⟨s0, s1, s2, s3⟩ := hs
    clear e0 e1 e2 e3 r0 r1 r2 r3 f0 f1 f2 f3
    refine bodyPost_ret (v := .agg #[.int .i64 0, .int .i64 1, .int .i64 1, .int .i64 1]) ?_ rfl ⟨0, 1, 1, 1, rfl, by decide, hxe⟩
    simp [results, Try.results13, go_sem, s0, s1, s2, s3]
  · have e0 : w3.cell? ⟨g, 4, none⟩ = some (.int .i64 2) := (cell_of_row w3 _ 4 _ _ _ HG3.out.1).trans rfl
    have e1 : w3.cell? ⟨g, 5, none⟩ = some (.int .i64 1) := (cell_of_row w3 _ 5 _ _ _ HG3.out.1).trans rfl
    have e2 : w3.cell? ⟨g, 6, none⟩ = some (.int .i64 1) := (cell_of_row w3 _ 6 _ _ _ HG3.out.1).trans rfl
    have e3 : w3.cell? ⟨g, 7, none⟩ = some (.int .i64 1) := (cell_of_row w3 _ 7 _ _ _ HG3.out.1).trans rfl
    go_wp2
    have hs := four_set (g := w.heap.size) (b0 := .int .i64 2) (b1 := .int .i64 1) (b2 := .int .i64 1) (b3 := .int .i64 1) ⟨r0, r1, r2, r3⟩
    have hxe : Ext w ((((w3.setCell ⟨w.heap.size, 0, none⟩ (.int .i64 2)).setCell ⟨w.heap.size, 1, none⟩ (.int .i64 1)).setCell ⟨w.heap.size, 2, none⟩ (.int .i64 1)).setCell ⟨w.heap.size, 3, none⟩ (.int .i64 1)) := Ext.setCell (Ext.setCell (Ext.setCell (Ext.setCell HG3.out.2.2 (Nat.le_refl _) _) (Nat.le_refl _) _) (Nat.le_refl _) _) (Nat.le_refl _) _
    generalize World.setCell _ _ _ = V at hs hxe ⊢
    obtain ⟨s0, s1, s2, s3⟩ := hs
    clear e0 e1 e2 e3 r0 r1 r2 r3 f0 f1 f2 f3
    refine bodyPost_ret (v := .agg #[.int .i64 2, .int .i64 1, .int .i64 1, .int .i64 1]) ?_ rfl ⟨2, 1, 1, 1, rfl, by decide, hxe⟩
    simp [results, Try.results13, go_sem, s0, s1, s2, s3]
  · have e0 : w3.cell? ⟨g, 8, none⟩ = some (.int .i64 1) := (cell_of_row w3 _ 8 _ _ _ HG3.out.1).trans rfl
    have e1 : w3.cell? ⟨g, 9, none⟩ = some (.int .i64 1) := (cell_of_row w3 _ 9 _ _ _ HG3.out.1).trans rfl
    have e2 : w3.cell? ⟨g, 10, none⟩ = some (.int .i64 2) := (cell_of_row w3 _ 10 _ _ _ HG3.out.1).trans rfl
    have e3 : w3.cell? ⟨g, 11, none⟩ = some (.int .i64 1) := (cell_of_row w3 _ 11 _ _ _ HG3.out.1).trans rfl
    go_wp2
    have hs := four_set (g := w.heap.size) (b0 := .int .i64 1) (b1 := .int .i64 1) (b2 := .int .i64 2) (b3 := .int .i64 1) ⟨r0, r1, r2, r3⟩
    have hxe : Ext w ((((w3.setCell ⟨w.heap.size, 0, none⟩ (.int .i64 1)).setCell ⟨w.heap.size, 1, none⟩ (.int .i64 1)).setCell ⟨w.heap.size, 2, none⟩ (.int .i64 2)).setCell ⟨w.heap.size, 3, none⟩ (.int .i64 1)) := Ext.setCell (Ext.setCell (Ext.setCell (Ext.setCell HG3.out.2.2 (Nat.le_refl _) _) (Nat.le_refl _) _) (Nat.le_refl _) _) (Nat.le_refl _) _
    generalize World.setCell _ _ _ = V at hs hxe ⊢
    obtain ⟨s0, s1, s2, s3⟩ := hs
    clear e0 e1 e2 e3 r0 r1 r2 r3 f0 f1 f2 f3
    refine bodyPost_ret (v := .agg #[.int .i64 1, .int .i64 1, .int .i64 2, .int .i64 1]) ?_ rfl ⟨1, 1, 2, 1, rfl, by decide, hxe⟩
    simp [results, Try.results13, go_sem, s0, s1, s2, s3]
  · have e0 : w3.cell? ⟨g, 12, none⟩ = some (.int .i64 1) := (cell_of_row w3 _ 12 _ _ _ HG3.out.1).trans rfl
    have e1 : w3.cell? ⟨g, 13, none⟩ = some (.int .i64 2) := (cell_of_row w3 _ 13 _ _ _ HG3.out.1).trans rfl
    have e2 : w3.cell? ⟨g, 14, none⟩ = some (.int .i64 3) := (cell_of_row w3 _ 14 _ _ _ HG3.out.1).trans rfl
    have e3 : w3.cell? ⟨g, 15, none⟩ = some (.int .i64 2) := (cell_of_row w3 _ 15 _ _ _ HG3.out.1).trans rfl
    go_wp2
    have hs := four_set (g := w.heap.size) (b0 := .int .i64 1) (b1 := .int .i64 2) (b2 := .int .i64 3) (b3 := .int .i64 2) ⟨r0, r1, r2, r3⟩
    have hxe : Ext w ((((w3.setCell ⟨w.heap.size, 0, none⟩ (.int .i64 1)).setCell ⟨w.heap.size, 1, none⟩ (.int .i64 2)).setCell ⟨w.heap.size, 2, none⟩ (.int .i64 3)).setCell ⟨w.heap.size, 3, none⟩ (.int .i64 2)) := Ext.setCell (Ext.setCell (Ext.setCell (Ext.setCell HG3.out.2.2 (Nat.le_refl _) _) (Nat.le_refl _) _) (Nat.le_refl _) _) (Nat.le_refl _) _
    generalize World.setCell _ _ _ = V at hs hxe ⊢
    obtain ⟨s0, s1, s2, s3⟩ := hs
    clear e0 e1 e2 e3 r0 r1 r2 r3 f0 f1 f2 f3
    refine bodyPost_ret (v := .agg #[.int .i64 1, .int .i64 2, .int .i64 3, .int .i64 2]) ?_ rfl ⟨1, 2, 3, 2, rfl, by decide, hxe⟩
    simp [results, Try.results13, go_sem, s0, s1, s2, s3]
  · have e0 : w3.cell? ⟨g, 16, none⟩ = some (.int .i64 2) := (cell_of_row w3 _ 16 _ _ _ HG3.out.1).trans rfl
    have e1 : w3.cell? ⟨g, 17, none⟩ = some (.int .i64 3) := (cell_of_row w3 _ 17 _ _ _ HG3.out.1).trans rfl
    have e2 : w3.cell? ⟨g, 18, none⟩ = some (.int .i64 1) := (cell_of_row w3 _ 18 _ _ _ HG3.out.1).trans rfl
    have e3 : w3.cell? ⟨g, 19, none⟩ = some (.int .i64 1) := (cell_of_row w3 _ 19 _ _ _ HG3.out.1).trans rfl
    go_wp2
    have hs := four_set (g := w.heap.size) (b0 := .int .i64 2) (b1 := .int .i64 3) (b2 := .int .i64 1) (b3 := .int .i64 1) ⟨r0, r1, r2, r3⟩
    have hxe : Ext w ((((w3.setCell ⟨w.heap.size, 0, none⟩ (.int .i64 2)).setCell ⟨w.heap.size, 1, none⟩ (.int .i64 3)).setCell ⟨w.heap.size, 2, none⟩ (.int .i64 1)).setCell ⟨w.heap.size, 3, none⟩ (.int .i64 1)) := Ext.setCell (Ext.setCell (Ext.setCell (Ext.setCell HG3.out.2.2 (Nat.le_refl _) _) (Nat.le_refl _) _) (Nat.le_refl _) _) (Nat.le_refl _) _
    generalize World.setCell _ _ _ = V at hs hxe ⊢
    obtain ⟨s0, s1, s2, s3⟩ := hs
    clear e0 e1 e2 e3 r0 r1 r2 r3 f0 f1 f2 f3
    refine bodyPost_ret (v := .agg #[.int .i64 2, .int .i64 3, .int .i64 1, .int .i64 1]) ?_ rfl ⟨2, 3, 1, 1, rfl, by decide, hxe⟩
    simp [results, Try.results13, go_sem, s0, s1, s2, s3]
  · have e0 : w3.cell? ⟨g, 20, none⟩ = some (.int .i64 1) := (cell_of_row w3 _ 20 _ _ _ HG3.out.1).trans rfl
    have e1 : w3.cell? ⟨g, 21, none⟩ = some (.int .i64 1) := (cell_of_row w3 _ 21 _ _ _ HG3.out.1).trans rfl
    have e2 : w3.cell? ⟨g, 22, none⟩ = some (.int .i64 1) := (cell_of_row w3 _ 22 _ _ _ HG3.out.1).trans rfl
    have e3 : w3.cell? ⟨g, 23, none⟩ = some (.int .i64 1) := (cell_of_row w3 _ 23 _ _ _ HG3.out.1).trans rfl
    go_wp2
    have hs := four_set (g := w.heap.size) (b0 := .int .i64 1) (b1 := .int .i64 1) (b2 := .int .i64 1) (b3 := .int .i64 1) ⟨r0, r1, r2, r3⟩
    have hxe : Ext w ((((w3.setCell ⟨w.heap.size, 0, none⟩ (.int .i64 1)).setCell ⟨w.heap.size, 1, none⟩ (.int .i64 1)).setCell ⟨w.heap.size, 2, none⟩ (.int .i64 1)).setCell ⟨w.heap.size, 3, none⟩ (.int .i64 1)) := Ext.setCell (Ext.setCell (Ext.setCell (Ext.setCell HG3.out.2.2 (Nat.le_refl _) _) (Nat.le_refl _) _) (Nat.le_refl _) _) (Nat.le_refl _) _
    generalize World.setCell _ _ _ = V at hs hxe ⊢
    obtain ⟨s0, s1, s2, s3⟩ := hs
    clear e0 e1 e2 e3 r0 r1 r2 r3 f0 f1 f2 f3
    refine bodyPost_ret (v := .agg #[.int .i64 1, .int .i64 1, .int .i64 1, .int .i64 1]) ?_ rfl ⟨1, 1, 1, 1, rfl, by decide, hxe⟩
    simp [results, Try.results13, go_sem, s0, s1, s2, s3]
  · have e0 : w3.cell? ⟨g, 24, none⟩ = some (.int .i64 1) := (cell_of_row w3 _ 24 _ _ _ HG3.out.1).trans rfl
    have e1 : w3.cell? ⟨g, 25, none⟩ = some (.int .i64 3) := (cell_of_row w3 _ 25 _ _ _ HG3.out.1).trans rfl
    have e2 : w3.cell? ⟨g, 26, none⟩ = some (.int .i64 1) := (cell_of_row w3 _ 26 _ _ _ HG3.out.1).trans rfl
    have e3 : w3.cell? ⟨g, 27, none⟩ = some (.int .i64 3) := (cell_of_row w3 _ 27 _ _ _ HG3.out.1).trans rfl
    go_wp2
    have hs := four_set (g := w.heap.size) (b0 := .int .i64 1) (b1 := .int .i64 3) (b2 := .int .i64 1) (b3 := .int .i64 3) ⟨r0, r1, r2, r3⟩
    have hxe : Ext w ((((w3.setCell ⟨w.heap.size, 0, none⟩ (.int .i64 1)).setCell ⟨w.heap.size, 1, none⟩ (.int .i64 3)).setCell ⟨w.heap.size, 2, none⟩ (.int .i64 1)).setCell ⟨w.heap.size, 3, none⟩ (.int .i64 3)) := Ext.setCell (Ext.setCell (Ext.setCell (Ext.setCell HG3.out.2.2 (Nat.le_refl _) _) (Nat.le_refl _) _) (Nat.le_refl _) _) (Nat.le_refl _) _
    generalize World.setCell _ _ _ = V at hs hxe ⊢
    obtain ⟨s0, s1, s2, s3⟩ := hs
    clear e0 e1 e2 e3 r0 r1 r2 r3 f0 f1 f2 f3
    refine bodyPost_ret (v := .agg #[.int .i64 1, .int .i64 3, .int .i64 1, .int .i64 3]) ?_ rfl ⟨1, 3, 1, 3, rfl, by decide, hxe⟩
    simp [results, Try.results13, go_sem, s0, s1, s2, s3]
  · have e0 : w3.cell? ⟨g, 28, none⟩ = some (.int .i64 1) := (cell_of_row w3 _ 28 _ _ _ HG3.out.1).trans rfl
    have e1 : w3.cell? ⟨g, 29, none⟩ = some (.int .i64 3) := (cell_of_row w3 _ 29 _ _ _ HG3.out.1).trans rfl
    have e2 : w3.cell? ⟨g, 30, none⟩ = some (.int .i64 3) := (cell_of_row w3 _ 30 _ _ _ HG3.out.1).trans rfl
    have e3 : w3.cell? ⟨g, 31, none⟩ = some (.int .i64 3) := (cell_of_row w3 _ 31 _ _ _ HG3.out.1).trans rfl
    go_wp2
    have hs := four_set (g := w.heap.size) (b0 := .int .i64 1) (b1 := .int .i64 3) (b2 := .int .i64 3) (b3 := .int .i64 3) ⟨r0, r1, r2, r3⟩
    have hxe : Ext w ((((w3.setCell ⟨w.heap.size, 0, none⟩ (.int .i64 1)).setCell ⟨w.heap.size, 1, none⟩ (.int .i64 3)).setCell ⟨w.heap.size, 2, none⟩ (.int .i64 3)).setCell ⟨w.heap.size, 3, none⟩ (.int .i64 3)) := Ext.setCell (Ext.setCell (Ext.setCell (Ext.setCell HG3.out.2.2 (Nat.le_refl _) _) (Nat.le_refl _) _) (Nat.le_refl _) _) (Nat.le_refl _) _
    generalize World.setCell _ _ _ = V at hs hxe ⊢
    obtain ⟨s0, s1, s2, s3⟩ := hs
    clear e0 e1 e2 e3 r0 r1 r2 r3 f0 f1 f2 f3
    refine bodyPost_ret (v := .agg #[.int .i64 1, .int .i64 3, .int .i64 3, .int .i64 3]) ?_ rfl ⟨1, 3, 3, 3, rfl, by decide, hxe⟩
    simp [results, Try.results13, go_sem, s0, s1, s2, s3]
end Go.Proofs.Ytmnjhhachdlmkaa
