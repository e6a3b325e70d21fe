import Derived.Test.YtmnjhhachdlmkaaAskM
import Derived.Test.YtmnjhhachdlmkaaChk2
import Derived.Test.YtmnjhhachdlmkaaConcatW
namespace Go.Proofs.Ytmnjhhachdlmkaa

section
open Go.RowKit Go.Maps

/-- One triple, leased. -/
structure PostL (w : World) (B gk gs cs mb g cap kd m k n s i a0 a1 L c0 c1 : Nat) (dv : Value) (D : DataW Value) (z0 z1 : List Int) : Prop where
  one : One w B gk gs cs mb (.slice (some ⟨g, 0, none⟩) 1 cap) dv kd m k n 1 1
  ls : ∀ j v, (LsV.cells ⟨s, i, kd, m, k, n, 0, 1, false⟩)[j]? = some v → w.cell? ⟨g, j, none⟩ = some v
  mp : w.ownsMap Try.prog 3 heldElem mb 1 D
  sh : D.atKey (.int .i64 0) (.held (.agg #[.slice none 0 0, .slice none 0 0])) = .held (.agg #[.slice (some ⟨a0, 0, none⟩) L c0, .slice (some ⟨a1, 0, none⟩) L c1])
  w0 : WordsAt w a0 0 z0
  w1 : WordsAt w a1 0 z1
theorem ownsMap_ext {w w' : World} {mb n : Nat} {D : DataW Value} (h : w.ownsMap Try.prog 3 heldElem mb n D) (hx : Ext w w') : w'.ownsMap Try.prog 3 heldElem mb n D :=
  World.ownsMap.kept (row := none) h ⟨Below.os hx, Below.tape hx, Below.output hx, Below.size hx, fun q hq _ => Below.block hx q hq⟩ (by simp)
theorem PostL.ext {w w' : World} {B gk gs cs mb g cap kd m k n s i a0 a1 L c0 c1 : Nat} {dv : Value} {D : DataW Value} {z0 z1 : List Int} (h : PostL w B gk gs cs mb g cap kd m k n s i a0 a1 L c0 c1 dv D z0 z1) (hx : Ext w w') : PostL w' B gk gs cs mb g cap kd m k n s i a0 a1 L c0 c1 dv D z0 z1 :=
  ⟨h.one.ext hx, fun j v hv => hx.cell (h.ls j v hv), ownsMap_ext h.mp hx, h.sh, h.w0.ext hx, h.w1.ext hx⟩
def fetchReq (w : World) (rb s kd m k n : Nat) (p : Int) : Prop := w.heap[rb]? = some (.cells #[.int .i64 s, .int .i64 kd, .int .i64 m, .int .i64 k, .int .i64 n, .int .i64 0, .int .i64 1, .int .i64 p] 101 (0, 0))

theorem and_c5 {a b : World} {p1 p2 p3 p4 p5 : Addr} {v1 v2 v3 v4 v5 : Value} (h1 : a.cell? p1 = some v1) (h2 : a.cell? p2 = some v2) (h3 : a.cell? p3 = some v3) (h4 : a.cell? p4 = some v4) (h5 : a.cell? p5 = some v5) (h : Ext a b) :
    (b.cell? p1 = some v1 ∧ b.cell? p2 = some v2 ∧ b.cell? p3 = some v3 ∧ b.cell? p4 = some v4 ∧ b.cell? p5 = some v5) ∧ Ext a b := ⟨⟨h.cell h1, h.cell h2, h.cell h3, h.cell h4, h.cell h5⟩, h⟩

set_option maxRecDepth 100000 in
set_option maxHeartbeats 1600000 in
theorem mayFetch_c (B gk gs cs mb g cap rb kd m k n s i a0 a1 L c0 c1 : Nat) (dv : Value) (D : DataW Value) (z0 z1 : List Int) (p : Int) (hp : p = 0 ∨ p = 1) (w : World) (h : PostL w B gk gs cs mb g cap kd m k n s i a0 a1 L c0 c1 dv D z0 z1) (hr : fetchReq w rb s kd m k n p) :
    Calls Try.prog 79 #[.pointer (some ⟨B, 0, none⟩), .pointer (some ⟨gk, 0, none⟩), .pointer (some ⟨rb, 0, none⟩)] w fun e w' => e = .returned (.int .i64 0) ∧ Ext w w' := by
  have H : Hid _ := h
  have r0 := cell_at hr (i := 0) rfl
  have r1 := cell_at hr (i := 1) rfl
  have r2 := cell_at hr (i := 2) rfl
  have r3 := cell_at hr (i := 3) rfl
  have r4 := cell_at hr (i := 4) rfl
  have r5 := cell_at hr (i := 5) rfl
  have r6 := cell_at hr (i := 6) rfl
  have r7 := cell_at hr (i := 7) rfl
  have l0 := h.ls 0 _ rfl
  have l8 := h.ls 8 _ rfl
  have HLo : Hid (∀ w', Ext w w' → _) := fun w' hx => leaseOf1_c B g cap ⟨s, i, kd, m, k, n, 0, 1, false⟩ rfl rfl _ dv false 0 true w' (hx.block h.one.deal) (fun j v hv => hx.cell (h.ls j v hv))
  clear h hr
  rcases hp with rfl | rfl
  · go_enter Try.func79, Try.ntmps79
    go_wp2_with fail
    refine (isCount_c 1 w).mono ?_
    rintro e w1' ⟨rfl, rfl⟩
    go_wp2
    go_loopw [36] (fun i wr => (i = .int .i64 0 ∧ wr = w) ∨ (i = .int .i64 1 ∧ Ext w wr)) (fun i _ => 1 - (intOf i).toNat)
    case atStart => exact .inl ⟨rfl, rfl⟩
    case round =>
      rcases hrel with ⟨rfl, rfl⟩ | ⟨rfl, hx⟩
      · have hw0 : IntKind.i64.wrap (0 + 0) = 0 := rfl
        have hw1 : IntKind.i64.wrap 0 = 0 := rfl
        go_wp2_with fail
        go_region_held3 (fun w' => (w'.cell? ⟨rb, 1, none⟩ = some (.int .i64 kd) ∧ w'.cell? ⟨rb, 2, none⟩ = some (.int .i64 m) ∧ w'.cell? ⟨rb, 3, none⟩ = some (.int .i64 k) ∧ w'.cell? ⟨rb, 4, none⟩ = some (.int .i64 n) ∧ w'.cell? ⟨rb, 5, none⟩ = some (.int .i64 0)) ∧ Ext wr w')
          ((refine and_c5 r1 r2 r3 r4 r5 ?_; (repeat (first | with_reducible exact Ext.refl _ | with_reducible assumption | with_reducible refine Ext.drew ?_ | with_reducible refine Ext.alloc ?_ _ | with_reducible (apply Ext.chain; assumption))); done))
          (first | (go_at_call 84; refine (HLo.out _ (Ext.drew (Ext.refl _))).mono ?_; rintro e w2 ⟨rfl, hx2⟩))
        rename_i hh
        have HX2 : Hid (Ext wr w2) := hh.2
        have l0 := HX2.out.cell l0
        have l8 := HX2.out.cell l8
        have r0 := HX2.out.cell r0
        clear hh hx2
        go_wp2_with fail
        go_quiet (fail)
        go_wp2
        go_roundw
        case rel => exact .inr ⟨by go_num, HX2.out.drewN _⟩
        case measure => simp [intOf]
      · go_wp2
        go_ret
        exact ⟨rfl, hx⟩
  · go_enter Try.func79, Try.ntmps79
    go_wp2_with fail
    refine (isCount_c 1 w).mono ?_
    rintro e w1' ⟨rfl, rfl⟩
    go_wp2
    go_loopw [36] (fun i wr => (i = .int .i64 0 ∧ wr = w) ∨ (i = .int .i64 1 ∧ Ext w wr)) (fun i _ => 1 - (intOf i).toNat)
    case atStart => exact .inl ⟨rfl, rfl⟩
    case round =>
      rcases hrel with ⟨rfl, rfl⟩ | ⟨rfl, hx⟩
      · have hw0 : IntKind.i64.wrap (0 + 0) = 0 := rfl
        have hw1 : IntKind.i64.wrap 0 = 0 := rfl
        go_wp2_with fail
        go_region_held3 (fun w' => (w'.cell? ⟨rb, 1, none⟩ = some (.int .i64 kd) ∧ w'.cell? ⟨rb, 2, none⟩ = some (.int .i64 m) ∧ w'.cell? ⟨rb, 3, none⟩ = some (.int .i64 k) ∧ w'.cell? ⟨rb, 4, none⟩ = some (.int .i64 n) ∧ w'.cell? ⟨rb, 5, none⟩ = some (.int .i64 0)) ∧ Ext wr w')
          ((refine and_c5 r1 r2 r3 r4 r5 ?_; (repeat (first | with_reducible exact Ext.refl _ | with_reducible assumption | with_reducible refine Ext.drew ?_ | with_reducible refine Ext.alloc ?_ _ | with_reducible (apply Ext.chain; assumption))); done))
          (first | (go_at_call 84; refine (HLo.out _ (Ext.drew (Ext.refl _))).mono ?_; rintro e w2 ⟨rfl, hx2⟩))
        rename_i hh
        have HX2 : Hid (Ext wr w2) := hh.2
        have l0 := HX2.out.cell l0
        have l8 := HX2.out.cell l8
        have r0 := HX2.out.cell r0
        clear hh hx2
        go_wp2_with fail
        go_quiet (fail)
        go_wp2
        go_roundw
        case rel => exact .inr ⟨by go_num, HX2.out.drewN _⟩
        case measure => simp [intOf]
      · go_wp2
        go_ret
        exact ⟨rfl, hx⟩
end

section
open Go.RowKit Go.Maps

theorem zeroSh (w : World) : (zeroValue 116).run Try.prog w = .ok (.agg #[.slice none 0 0, .slice none 0 0]) w := by kernel_rfl
theorem PostL.look {w : World} {B gk gs cs mb g cap kd m k n s i a0 a1 L c0 c1 : Nat} {dv : Value} {D : DataW Value} {z0 z1 : List Int} (h : PostL w B gk gs cs mb g cap kd m k n s i a0 a1 L c0 c1 dv D z0 z1) :
    (Instr.lookup 169 (.map (some mb)) (.int .i64 0) false).run Try.prog w = .ok (.agg #[.slice (some ⟨a0, 0, none⟩) L c0, .slice (some ⟨a1, 0, none⟩) L c1]) w := by
  obtain ⟨v, ps, hrun, hv⟩ := h.mp.lookup keyInt Try.underlying169 (zeroSh w) (zd := .held (.agg #[.slice none 0 0, .slice none 0 0])) (zp := []) rfl (keyOf_int_mk Try.underlying3 (a := 0) (by decide))
  rw [h.sh] at hv
  simp [heldElem] at hv
  rw [hrun, hv.1]

set_option maxRecDepth 100000 in
set_option maxHeartbeats 1600000 in
theorem fetch0_c (B gk gs cs mb g cap rb kd m k n s i a0 a1 L c0 c1 : Nat) (dv : Value) (D : DataW Value) (z0 z1 : List Int) (hz0 : z0.length = L) (hL1 : 1 ≤ L) (hL2 : L ≤ 27) (w : World) (h : PostL w B gk gs cs mb g cap kd m k n s i a0 a1 L c0 c1 dv D z0 z1) (hr : fetchReq w rb s kd m k n 0) :
    Calls Try.prog 63 #[.pointer (some ⟨B, 0, none⟩), .pointer (some ⟨rb, 0, none⟩)] w fun e w' => ∃ gv cv, e = .returned (replyV 0 0 1 (.slice (some ⟨gv, 0, none⟩) L cv)) ∧ w'.ownsRow w.heap.size 47 1 (.slice (some ⟨gv, 0, none⟩) L cv) L (z0.map (Value.int .u64)) ∧ Ext w w' := by
  obtain ⟨i0, hi, hq0, hq1, hq2⟩ := info_parts infoU64
  have H : Hid _ := h
  have HR : Hid _ := hr
  have HMF : Hid (∀ w', Ext w w' → _) := fun w' hx => mayFetch_c B gk gs cs mb g cap rb kd m k n s i a0 a1 L c0 c1 dv D z0 z1 0 (.inl rfl) w' (h.ext hx) (hx.block hr)
  have r1 := cell_at hr (i := 1) rfl
  have r2 := cell_at hr (i := 2) rfl
  have r3 := cell_at hr (i := 3) rfl
  have r4 := cell_at hr (i := 4) rfl
  have r5 := cell_at hr (i := 5) rfl
  have r6 := cell_at hr (i := 6) rfl
  have r7 := cell_at hr (i := 7) rfl
  have k6 : w.cell? ⟨gk, 6, none⟩ = some (.map (some mb)) := cell_at h.one.stk rfl
  have hrl := World.block_lt_of_cell? w _ r1
  have hkl := World.block_lt_of_cell? w _ k6
  have HZ : Hid (z0.length = L) := hz0
  clear h hr hz0
  unfold replyV
  go_enter Try.func63, Try.ntmps63
  go_wp2_with fail
  have hres0 : (w.alloc (.cells #[.int .i64 0, .int .i64 0, .int .i64 0, .slice none 0 0] 29)).heap[w.heap.size]? = some (.cells #[.int .i64 0, .int .i64 0, .int .i64 0, .slice none 0 0] 29 (0, 0)) := heap_alloc_new _ _
  have hXW : Ext w (w.alloc (.cells #[.int .i64 0, .int .i64 0, .int .i64 0, .slice none 0 0] 29)) := (Ext.refl w).alloc _
  generalize World.alloc w _ = W at hres0 hXW ⊢
  refine (One.find (H.out.one.ext hXW)).mono ?_
  rintro e w1 ⟨rfl, hx1⟩
  have HX1 : Hid (Ext w w1) := hXW.trans hx1
  have hres1 := hx1.block hres0
  clear hx1 hXW hres0
  go_wp2_with fail
  refine (HMF.out _ HX1.out).mono ?_
  rintro e w2 ⟨rfl, hx2⟩
  have HX2 : Hid (Ext w w2) := HX1.out.trans hx2
  have HRS : Hid _ := hx2.block hres1
  have r5 := HX2.out.cell r5
  have r6 := HX2.out.cell r6
  have r7 := HX2.out.cell r7
  have k6 := HX2.out.cell k6
  clear hx2 hres1 HX1 r1 r2 r3 r4
  go_wp2_with fail
  go_loopw [7, 27] (fun u i wr => (u = .slice none 0 0 ∧ i = .int .i64 0 ∧ wr = w2) ∨ (i = .int .i64 1 ∧ ∃ gv cv, u = .slice (some ⟨gv, 0, none⟩) L cv ∧ wr.ownsRow w.heap.size 47 1 (.slice (some ⟨gv, 0, none⟩) L cv) L (z0.map (Value.int .u64)) ∧ Ext w2 wr)) (fun _ i _ => 1 - (intOf i).toNat)
  case atStart => exact .inl ⟨rfl, rfl, rfl⟩
  case round =>
    rcases hrel with ⟨rfl, rfl, rfl⟩ | ⟨rfl, gv, cv, rfl, ho, hx⟩
    · have hw0 : IntKind.i64.wrap (0 + 0) = 0 := rfl
      have hw1 : IntKind.i64.wrap 0 = 0 := rfl
      have hix0 : ∀ w, (Instr.index 116 (.agg #[.slice (some ⟨a0, 0, none⟩) L c0, .slice (some ⟨a1, 0, none⟩) L c1]) (.int .i64 0)).run Try.prog w = .ok (.slice (some ⟨a0, 0, none⟩) L c0) w := fun w => by kernel_rfl
      have SF : Hid (∀ w', Ext wr w' → ((w'.cell? ⟨gk, 6, none⟩ = some (.map (some mb)) ∧ w'.cell? ⟨rb, 5, none⟩ = some (.int .i64 0) ∧ w'.cell? ⟨rb, 7, none⟩ = some (.int .i64 0)) ∧ (Instr.lookup 169 (.map (some mb)) (.int .i64 0) false).run Try.prog w' = .ok (.agg #[.slice (some ⟨a0, 0, none⟩) L c0, .slice (some ⟨a1, 0, none⟩) L c1]) w') ∧ Ext wr w') := fun w' hx => ⟨⟨⟨hx.cell k6, hx.cell r5, hx.cell r7⟩, PostL.look (H.out.ext (HX2.out.trans hx))⟩, hx⟩
      have HWA : Hid (WordsAt wr a0 0 z0) := H.out.w0.ext HX2.out
      have hwl := HX2.out.le
      go_wp2_with fail
      go_region_held3 (fun w' => ((w'.cell? ⟨gk, 6, none⟩ = some (.map (some mb)) ∧ w'.cell? ⟨rb, 5, none⟩ = some (.int .i64 0) ∧ w'.cell? ⟨rb, 7, none⟩ = some (.int .i64 0)) ∧ (Instr.lookup 169 (.map (some mb)) (.int .i64 0) false).run Try.prog w' = .ok (.agg #[.slice (some ⟨a0, 0, none⟩) L c0, .slice (some ⟨a1, 0, none⟩) L c1]) w') ∧ Ext wr w')
        (first
          | (refine SF.out _ ?_; (repeat (first | with_reducible exact Ext.refl _ | with_reducible assumption | with_reducible refine Ext.drew ?_ | with_reducible refine Ext.alloc ?_ _ | with_reducible (apply Ext.chain; assumption))); done)
          | exact SF.out _ (Ext.grown (Ext.drew (Ext.refl _)) hgrow (by simp [Value.ownBlock])))
        (first
          | (refine step_append_lies _ (by rfl) _ _ 27 (by rfl) w.heap.size 47 i0 (.int .u64 0) 1 8 Try.underlying27 hi hq0 hq1 hq2 (by rfl) (by decide) (.slice none 0 0) 0 [] (by rfl) (World.ownsRow_nil _ _ _ _) ⟨_, 0, none⟩ L c0 (z0.map (Value.int .u64)) (by rfl) (by rw [List.length_map, HZ.out, Nat.mul_one]) (WordsAt.cells (HWA.out.ext (Ext.drew (Ext.refl _)))) (words_one _) (by omega) (by simp [maxLen]; omega) (by omega) (by show w.heap.size ≤ wr.heap.size; omega) _ rfl ?_; intro gv cv w3 hown3 hgrow hat hlt3))
      have HQ : Hid _ := And.intro hown3 (Ext.grown (Ext.drew (Ext.refl wr)) hgrow (by simp [Value.ownBlock]))
      clear hown3 hgrow hat
      go_wp2
      go_roundw
      case rel => exact .inr ⟨by go_num, gv, cv, by simp, by have := HQ.out.1; simpa using this, HQ.out.2⟩
      case measure => simp [intOf]
    · have HOW : Hid (wr.ownsRow w.heap.size 47 1 (.slice (some ⟨gv, 0, none⟩) L cv) L (z0.map (Value.int .u64))) := ho
      have HXX : Hid (Ext w wr) := HX2.out.trans hx
      have hrs := hx.block HRS.out
      have r5 := hx.cell r5
      have r6 := hx.cell r6
      have o0 := cell_at hrs (i := 0) rfl
      have o1 := cell_at hrs (i := 1) rfl
      have o2 := cell_at hrs (i := 2) rfl
      have o3 := cell_at hrs (i := 3) rfl
      have f0 := frozen_row hrs 0
      have f1 := frozen_row hrs 1
      have f2 := frozen_row hrs 2
      have f3 := frozen_row hrs 3
      have HNE : Hid ((Value.slice (some ⟨gv, 0, none⟩) L cv).ownBlock ≠ some w.heap.size) := row_ne (B := w.heap.size) (t := 29) hrs ho (by decide)
      clear ho hx hrs
      go_wp2_with fail
      go_region
      all_goals go_wp2
      all_goals refine bodyPost_ret (v := .agg #[.int .i64 0, .int .i64 0, .int .i64 1, .slice (some ⟨gv, 0, none⟩) L cv]) (by simp [results, Try.results63, go_sem, o0, o1, o2, o3]) rfl ⟨gv, cv, rfl, ?_, ?_⟩
      all_goals first
        | exact World.ownsRow.drew (owns_setCell (owns_setCell (owns_setCell (owns_setCell HOW.out HNE.out _) HNE.out _) HNE.out _) HNE.out _)
        | exact Ext.drew (Ext.setCell (Ext.setCell (Ext.setCell (Ext.setCell HXX.out (Nat.le_refl _) _) (Nat.le_refl _) _) (Nat.le_refl _) _) (Nat.le_refl _) _)

set_option maxRecDepth 100000 in
set_option maxHeartbeats 1600000 in
theorem fetch1_c (B gk gs cs mb g cap rb kd m k n s i a0 a1 L c0 c1 : Nat) (dv : Value) (D : DataW Value) (z0 z1 : List Int) (hz1 : z1.length = L) (hL1 : 1 ≤ L) (hL2 : L ≤ 27) (w : World) (h : PostL w B gk gs cs mb g cap kd m k n s i a0 a1 L c0 c1 dv D z0 z1) (hr : fetchReq w rb s kd m k n 1) :
    Calls Try.prog 63 #[.pointer (some ⟨B, 0, none⟩), .pointer (some ⟨rb, 0, none⟩)] w fun e w' => ∃ gv cv, e = .returned (replyV 0 0 1 (.slice (some ⟨gv, 0, none⟩) L cv)) ∧ w'.ownsRow w.heap.size 47 1 (.slice (some ⟨gv, 0, none⟩) L cv) L (z1.map (Value.int .u64)) ∧ Ext w w' := by
  obtain ⟨i0, hi, hq0, hq1, hq2⟩ := info_parts infoU64
  have H : Hid _ := h
  have HR : Hid _ := hr
  have HMF : Hid (∀ w', Ext w w' → _) := fun w' hx => mayFetch_c B gk gs cs mb g cap rb kd m k n s i a0 a1 L c0 c1 dv D z0 z1 1 (.inr rfl) w' (h.ext hx) (hx.block hr)
  have r1 := cell_at hr (i := 1) rfl
  have r2 := cell_at hr (i := 2) rfl
  have r3 := cell_at hr (i := 3) rfl
  have r4 := cell_at hr (i := 4) rfl
  have r5 := cell_at hr (i := 5) rfl
  have r6 := cell_at hr (i := 6) rfl
  have r7 := cell_at hr (i := 7) rfl
  have k6 : w.cell? ⟨gk, 6, none⟩ = some (.map (some mb)) := cell_at h.one.stk rfl
  have hrl := World.block_lt_of_cell? w _ r1
  have hkl := World.block_lt_of_cell? w _ k6
  have HZ : Hid (z1.length = L) := hz1
  clear h hr hz1
  unfold replyV
  go_enter Try.func63, Try.ntmps63
  go_wp2_with fail
  have hres0 : (w.alloc (.cells #[.int .i64 0, .int .i64 0, .int .i64 0, .slice none 0 0] 29)).heap[w.heap.size]? = some (.cells #[.int .i64 0, .int .i64 0, .int .i64 0, .slice none 0 0] 29 (0, 0)) := heap_alloc_new _ _
  have hXW : Ext w (w.alloc (.cells #[.int .i64 0, .int .i64 0, .int .i64 0, .slice none 0 0] 29)) := (Ext.refl w).alloc _
  generalize World.alloc w _ = W at hres0 hXW ⊢
  refine (One.find (H.out.one.ext hXW)).mono ?_
  rintro e w1 ⟨rfl, hx1⟩
  have HX1 : Hid (Ext w w1) := hXW.trans hx1
  have hres1 := hx1.block hres0
  clear hx1 hXW hres0
  go_wp2_with fail
  refine (HMF.out _ HX1.out).mono ?_
  rintro e w2 ⟨rfl, hx2⟩
  have HX2 : Hid (Ext w w2) := HX1.out.trans hx2
  have HRS : Hid _ := hx2.block hres1
  have r5 := HX2.out.cell r5
  have r6 := HX2.out.cell r6
  have r7 := HX2.out.cell r7
  have k6 := HX2.out.cell k6
  clear hx2 hres1 HX1 r1 r2 r3 r4
  go_wp2_with fail
  go_loopw [7, 27] (fun u i wr => (u = .slice none 0 0 ∧ i = .int .i64 0 ∧ wr = w2) ∨ (i = .int .i64 1 ∧ ∃ gv cv, u = .slice (some ⟨gv, 0, none⟩) L cv ∧ wr.ownsRow w.heap.size 47 1 (.slice (some ⟨gv, 0, none⟩) L cv) L (z1.map (Value.int .u64)) ∧ Ext w2 wr)) (fun _ i _ => 1 - (intOf i).toNat)
  case atStart => exact .inl ⟨rfl, rfl, rfl⟩
  case round =>
    rcases hrel with ⟨rfl, rfl, rfl⟩ | ⟨rfl, gv, cv, rfl, ho, hx⟩
    · have hw0 : IntKind.i64.wrap (0 + 0) = 0 := rfl
      have hw1 : IntKind.i64.wrap 0 = 0 := rfl
      have hix0 : ∀ w, (Instr.index 116 (.agg #[.slice (some ⟨a0, 0, none⟩) L c0, .slice (some ⟨a1, 0, none⟩) L c1]) (.int .i64 1)).run Try.prog w = .ok (.slice (some ⟨a1, 0, none⟩) L c1) w := fun w => by kernel_rfl
      have SF : Hid (∀ w', Ext wr w' → ((w'.cell? ⟨gk, 6, none⟩ = some (.map (some mb)) ∧ w'.cell? ⟨rb, 5, none⟩ = some (.int .i64 0) ∧ w'.cell? ⟨rb, 7, none⟩ = some (.int .i64 1)) ∧ (Instr.lookup 169 (.map (some mb)) (.int .i64 0) false).run Try.prog w' = .ok (.agg #[.slice (some ⟨a0, 0, none⟩) L c0, .slice (some ⟨a1, 0, none⟩) L c1]) w') ∧ Ext wr w') := fun w' hx => ⟨⟨⟨hx.cell k6, hx.cell r5, hx.cell r7⟩, PostL.look (H.out.ext (HX2.out.trans hx))⟩, hx⟩
      have HWA : Hid (WordsAt wr a1 0 z1) := H.out.w1.ext HX2.out
      have hwl := HX2.out.le
      go_wp2_with fail
      go_region_held3 (fun w' => ((w'.cell? ⟨gk, 6, none⟩ = some (.map (some mb)) ∧ w'.cell? ⟨rb, 5, none⟩ = some (.int .i64 0) ∧ w'.cell? ⟨rb, 7, none⟩ = some (.int .i64 1)) ∧ (Instr.lookup 169 (.map (some mb)) (.int .i64 0) false).run Try.prog w' = .ok (.agg #[.slice (some ⟨a0, 0, none⟩) L c0, .slice (some ⟨a1, 0, none⟩) L c1]) w') ∧ Ext wr w')
        (first
          | (refine SF.out _ ?_; (repeat (first | with_reducible exact Ext.refl _ | with_reducible assumption | with_reducible refine Ext.drew ?_ | with_reducible refine Ext.alloc ?_ _ | with_reducible (apply Ext.chain; assumption))); done)
          | exact SF.out _ (Ext.grown (Ext.drew (Ext.refl _)) hgrow (by simp [Value.ownBlock])))
        (first
          | (refine step_append_lies _ (by rfl) _ _ 27 (by rfl) w.heap.size 47 i0 (.int .u64 0) 1 8 Try.underlying27 hi hq0 hq1 hq2 (by rfl) (by decide) (.slice none 0 0) 0 [] (by rfl) (World.ownsRow_nil _ _ _ _) ⟨_, 0, none⟩ L c1 (z1.map (Value.int .u64)) (by rfl) (by rw [List.length_map, HZ.out, Nat.mul_one]) (WordsAt.cells (HWA.out.ext (Ext.drew (Ext.refl _)))) (words_one _) (by omega) (by simp [maxLen]; omega) (by omega) (by show w.heap.size ≤ wr.heap.size; omega) _ rfl ?_; intro gv cv w3 hown3 hgrow hat hlt3))
      have HQ : Hid _ := And.intro hown3 (Ext.grown (Ext.drew (Ext.refl wr)) hgrow (by simp [Value.ownBlock]))
      clear hown3 hgrow hat
      go_wp2
      go_roundw
      case rel => exact .inr ⟨by go_num, gv, cv, by simp, by have := HQ.out.1; simpa using this, HQ.out.2⟩
      case measure => simp [intOf]
    · have HOW : Hid (wr.ownsRow w.heap.size 47 1 (.slice (some ⟨gv, 0, none⟩) L cv) L (z1.map (Value.int .u64))) := ho
      have HXX : Hid (Ext w wr) := HX2.out.trans hx
      have hrs := hx.block HRS.out
      have r5 := hx.cell r5
      have r6 := hx.cell r6
      have o0 := cell_at hrs (i := 0) rfl
      have o1 := cell_at hrs (i := 1) rfl
      have o2 := cell_at hrs (i := 2) rfl
      have o3 := cell_at hrs (i := 3) rfl
      have f0 := frozen_row hrs 0
      have f1 := frozen_row hrs 1
      have f2 := frozen_row hrs 2
      have f3 := frozen_row hrs 3
      have HNE : Hid ((Value.slice (some ⟨gv, 0, none⟩) L cv).ownBlock ≠ some w.heap.size) := row_ne (B := w.heap.size) (t := 29) hrs ho (by decide)
      clear ho hx hrs
      go_wp2_with fail
      go_region
      all_goals go_wp2
      all_goals refine bodyPost_ret (v := .agg #[.int .i64 0, .int .i64 0, .int .i64 1, .slice (some ⟨gv, 0, none⟩) L cv]) (by simp [results, Try.results63, go_sem, o0, o1, o2, o3]) rfl ⟨gv, cv, rfl, ?_, ?_⟩
      all_goals first
        | exact World.ownsRow.drew (owns_setCell (owns_setCell (owns_setCell (owns_setCell HOW.out HNE.out _) HNE.out _) HNE.out _) HNE.out _)
        | exact Ext.drew (Ext.setCell (Ext.setCell (Ext.setCell (Ext.setCell HXX.out (Nat.le_refl _) _) (Nat.le_refl _) _) (Nat.le_refl _) _) (Nat.le_refl _) _)
end
end Go.Proofs.Ytmnjhhachdlmkaa
