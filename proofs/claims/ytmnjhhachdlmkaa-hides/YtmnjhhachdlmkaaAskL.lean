import Derived.Test.YtmnjhhachdlmkaaLease
import Derived.Test.YtmnjhhachdlmkaaChk1
namespace Go.Proofs.Ytmnjhhachdlmkaa
open Go.RowKit Go.Maps

def replyV (c f n : Int) (v : Value) : Value := .agg #[.int .i64 c, .int .i64 f, .int .i64 n, v]

/-- What a lease of the one triple leaves. -/
def Leased1 (lo : Nat) (w w' : World) (B gk gs cs mb s i kd m k n : Nat) (dv : Value) : Prop :=
  ∃ g cap dv', One w' B gk gs cs mb (.slice (some ⟨g, 0, none⟩) 1 cap) dv' kd m k n 1 1 ∧
      (∀ j v, (LsV.cells ⟨s, i, kd, m, k, n, 0, 1, false⟩)[j]? = some v → w'.cell? ⟨g, j, none⟩ = some v) ∧ Turn (fun b => b = B ∨ b = gk ∨ dv.ownBlock = some b) w w' ∧ lo ≤ g

/-- The state in which the lease is asked for. -/
structure PreL (w : World) (B gk gs cs mb kd m k n kk : Nat) (dv : Value) (xs : List Value) : Prop where
  bk : kd ≤ 3
  bm : m ≤ 3
  bkk : k ≤ 3
  bn : n ≤ 3
  bkn : kk ≤ 100
  nBgs : B ≠ gs
  ngkgs : gk ≠ gs
  one : One w B gk gs cs mb (.slice none 0 0) dv kd m k n 1 0
  own : w.ownsRow 0 154 4 dv kk xs
  ndgs : dv.ownBlock ≠ some gs
theorem PreL.ext {w w' : World} {B gk gs cs mb kd m k n kk : Nat} {dv : Value} {xs : List Value} (h : PreL w B gk gs cs mb kd m k n kk dv xs) (hx : Ext w w') : PreL w' B gk gs cs mb kd m k n kk dv xs :=
  ⟨h.bk, h.bm, h.bkk, h.bn, h.bkn, h.nBgs, h.ngkgs, h.one.ext hx, hx.owns h.own, h.ndgs⟩

theorem Leased1.step {w0 w w1 W : World} {lo lo' r B gk gs cs mb s i kd m k n kk : Nat} {dv : Value} {xs : List Value} (h : Leased1 lo w0 w1 B gk gs cs mb s i kd m k n dv) (hp : PreL w B gk gs cs mb kd m k n kk dv xs) (hx : Ext w w0) (ht : Turn (fun b => b = r) w1 W) (hr : w.heap.size ≤ r) (hrl : r < lo) (hl : lo' ≤ lo) :
    Leased1 lo' w W B gk gs cs mb s i kd m k n dv := by
  obtain ⟨g, cap, dv', q1, q2, q3, q4⟩ := h
  have hB := hp.one.deal.lt
  have hkl := (Array.getElem?_eq_some_iff.1 hp.one.stk).1
  have hgl := World.block_lt_of_cell? w _ hp.one.row
  refine ⟨g, cap, dv', ⟨ht.ref q1.deal (by show B ≠ r; omega), ht.cell q1.row (by show gs ≠ r; simp at hgl; omega), ht.ref q1.stk (by show gk ≠ r; omega)⟩, fun j v hv => ht.cell (q2 j v hv) (by show g ≠ r; omega), ?_, by omega⟩
  exact ((Turn.of_ext hx).trans q3).trans' ht (fun b hb e => by omega)
theorem set4 {w1 w2 : World} {g : Nat} (hx : Ext w1 w2) (a b c d : Value) : Turn (fun q => q = g) w1 (World.drew ((((w2.setCell ⟨g, 0, none⟩ a).setCell ⟨g, 1, none⟩ b).setCell ⟨g, 2, none⟩ c).setCell ⟨g, 3, none⟩ d)) :=
  Turn.drew (Turn.setCell (S := fun q => q = g) (p := ⟨g, 3, none⟩) (Turn.setCell (S := fun q => q = g) (p := ⟨g, 2, none⟩) (Turn.setCell (S := fun q => q = g) (p := ⟨g, 1, none⟩) (Turn.setCell (S := fun q => q = g) (p := ⟨g, 0, none⟩) (Turn.of_ext hx) (fun _ => rfl) a) (fun _ => rfl) b) (fun _ => rfl) c) (fun _ => rfl) d)
theorem set4' {w1 w2 : World} {g : Nat} (hx : Ext w1 w2) (a b c d : Value) : Turn (fun q => q = g) w1 ((((w2.setCell ⟨g, 0, none⟩ a).setCell ⟨g, 1, none⟩ b).setCell ⟨g, 2, none⟩ c).setCell ⟨g, 3, none⟩ d) :=
  Turn.setCell (S := fun q => q = g) (p := ⟨g, 3, none⟩) (Turn.setCell (S := fun q => q = g) (p := ⟨g, 2, none⟩) (Turn.setCell (S := fun q => q = g) (p := ⟨g, 1, none⟩) (Turn.setCell (S := fun q => q = g) (p := ⟨g, 0, none⟩) (Turn.of_ext hx) (fun _ => rfl) a) (fun _ => rfl) b) (fun _ => rfl) c) (fun _ => rfl) d

theorem and_c2 {a b : World} {p1 p2 : Addr} {v1 v2 : Value} (h1 : a.cell? p1 = some v1) (h2 : a.cell? p2 = some v2) (h : Ext a b) : (b.cell? p1 = some v1 ∧ b.cell? p2 = some v2) ∧ Ext a b := ⟨⟨h.cell h1, h.cell h2⟩, h⟩
theorem set4far {w : World} {g b j : Nat} (a0 a1 a2 a3 : Value) (hne : g ≠ b) {v : Value} (h : w.cell? ⟨b, j, none⟩ = some v) : ((((w.setCell ⟨g, 0, none⟩ a0).setCell ⟨g, 1, none⟩ a1).setCell ⟨g, 2, none⟩ a2).setCell ⟨g, 3, none⟩ a3).cell? ⟨b, j, none⟩ = some v := by
  rw [World.cell?_setCell_far _ _ _ _ hne, World.cell?_setCell_far _ _ _ _ hne, World.cell?_setCell_far _ _ _ _ hne, World.cell?_setCell_far _ _ _ _ hne]; exact h
theorem nres {w : World} {B gk gs cs mb kd m k n kk : Nat} {dv : Value} {xs : List Value} (h : PreL w B gk gs cs mb kd m k n kk dv xs) : ¬ (w.heap.size = B ∨ w.heap.size = gk ∨ dv.ownBlock = some w.heap.size) := fun e => by
  have hkl := (Array.getElem?_eq_some_iff.1 h.one.stk).1
  have hB := h.one.deal.lt
  rcases e with e | e | e
  · omega
  · omega
  · have := (World.ownsRow.lt h.own _ e).2; omega

def leaseReq (w : World) (rb s i kd m k n : Nat) : Prop := w.heap[rb]? = some (.cells #[.int .i64 s, .int .i64 i, .int .i64 kd, .int .i64 m, .int .i64 k, .int .i64 n, .int .i64 ((1 : Nat) : Int)] 98 (0, 0))

set_option maxRecDepth 100000 in
set_option maxHeartbeats 1600000 in
theorem doToLease_c (B gk gs cs mb rb s i kd m k n kk : Nat) (dv : Value) (xs : List Value) (hs : s ≤ 100) (hi : i ≤ 100) (w : World) (h : PreL w B gk gs cs mb kd m k n kk dv xs) (hr : leaseReq w rb s i kd m k n) (hdr : dv.ownBlock ≠ some rb) :
    Calls Try.prog 77 #[.pointer (some ⟨B, 0, none⟩), .iface 160 (.agg #[.pointer (some ⟨rb, 0, none⟩)]), .int .i64 s, .int .i64 i] w fun e w' => e = .returned (replyV 0 0 1 (.slice none 0 0)) ∧ Leased1 (w.heap.size + 1) w w' B gk gs cs mb s i kd m k n dv := by
  have HDo : Hid (∀ w', Ext w w' → _) := fun w' hx => doLease_c B gk gs cs mb rb s i kd m k n kk dv xs hs hi h.bk h.bm h.bkk h.bn h.bkn h.nBgs h.ngkgs w' (h.one.ext hx) (hx.owns h.own) h.ndgs hdr (hx.block hr)
  have hB := h.one.deal.lt
  have H : Hid _ := h
  clear h hr hs hi hdr
  unfold replyV
  go_enter Try.func77, Try.ntmps77
  go_wp2_with fail
  refine (HDo.out _ ((Ext.refl w).alloc _)).mono ?_
  rintro e w1 ⟨g, cap, dv', rfl, q1, q2, q3, q4⟩
  have hkl := (Array.getElem?_eq_some_iff.1 H.out.one.stk).1
  have hres : w1.heap[w.heap.size]? = some (.cells #[.int .i64 0, .int .i64 0, .int .i64 0, .slice none 0 0] 29 (0, 0)) := q3.ref (heap_alloc_new _ _) (fun e => by
    rcases e with e | e | e
    · omega
    · omega
    · have := (World.ownsRow.lt H.out.own _ e).2; omega)
  have HL : Hid (Leased1 (w.heap.size + 1) w w1 B gk gs cs mb s i kd m k n dv) := ⟨g, cap, dv', q1, q2, (Turn.of_ext ((Ext.refl w).alloc _)).trans q3, by simp at q4; omega⟩
  have HQ : Hid _ := And.intro q1 (And.intro q2 (And.intro hres q4))
  clear q1 q2 q3 hres
  go_wp2_with fail
  refine (named1_c B g cap ⟨s, i, kd, m, k, n, 0, 1, false⟩ _ dv' false 0 true w1 HQ.out.1.deal HQ.out.2.1).mono ?_
  rintro e w2 ⟨rfl, hx2⟩
  have l6 := hx2.cell (HQ.out.2.1 6 _ rfl)
  have l7 := hx2.cell (HQ.out.2.1 7 _ rfl)
  have hr2 := hx2.block HQ.out.2.2.1
  have o0 := cell_at hr2 (i := 0) rfl
  have o1 := cell_at hr2 (i := 1) rfl
  have o2 := cell_at hr2 (i := 2) rfl
  have o3 := cell_at hr2 (i := 3) rfl
  have f0 := frozen_row hr2 0
  have f1 := frozen_row hr2 1
  have f2 := frozen_row hr2 2
  have f3 := frozen_row hr2 3
  have hgw : w.heap.size ≠ g := by have := HQ.out.2.2.2; simp at this; omega
  have HX2 : Hid (Ext w1 w2) := hx2
  clear hx2
  go_wp2
  go_region
  all_goals go_wp2
  all_goals refine bodyPost_ret (v := .agg #[.int .i64 0, .int .i64 0, .int .i64 1, .slice none 0 0]) (by simp [results, Try.results77, go_sem, o0, o1, o2, o3]) rfl ⟨rfl, ?_⟩
  all_goals exact Leased1.step HL.out H.out (Ext.refl w) (set4 HX2.out _ _ _ _) (Nat.le_refl _) (by omega) (Nat.le_refl _)

set_option maxRecDepth 100000 in
set_option maxHeartbeats 1600000 in
theorem storeLease_c (B gk gs cs mb rb s i kd m k n kk : Nat) (dv : Value) (xs : List Value) (hs : s ≤ 100) (hi : i ≤ 100) (w : World) (h : PreL w B gk gs cs mb kd m k n kk dv xs) (hr : leaseReq w rb s i kd m k n) (hdr : dv.ownBlock ≠ some rb) :
    Calls Try.prog 62 #[.pointer (some ⟨B, 0, none⟩), .pointer (some ⟨rb, 0, none⟩)] w fun e w' => e = .returned (replyV 0 0 1 (.slice none 0 0)) ∧ Leased1 (w.heap.size + 1) w w' B gk gs cs mb s i kd m k n dv := by
  have HDo : Hid (∀ w', Ext w w' → _) := fun w' hx => doToLease_c B gk gs cs mb rb s i kd m k n kk dv xs hs hi w' (h.ext hx) (hx.block hr) hdr
  have H : Hid _ := h
  have r0 := cell_at hr (i := 0) rfl
  have r1 := cell_at hr (i := 1) rfl
  have hrl := World.block_lt_of_cell? w _ r0
  have HNm : Hid (∀ w', Ext w w' → _) := fun w' hx => named0_c B s i _ dv false 0 true w' (hx.block h.one.deal)
  have HNR : Hid (¬ (rb = B ∨ rb = gk ∨ dv.ownBlock = some rb)) := fun e => by
    rcases e with e | e | e
    · have h1 := h.one.deal; unfold DealAt at h1; unfold leaseReq at hr; rw [← e, hr] at h1; simp at h1
    · have h1 := h.one.stk; unfold leaseReq at hr; rw [← e, hr] at h1; simp at h1
    · exact hdr e
  clear h hr hs hi hdr
  unfold replyV at HDo ⊢
  go_enter Try.func62, Try.ntmps62
  go_wp2_with fail
  have hres0 : (w.alloc (.cells #[.int .i64 0, .int .i64 0, .int .i64 0, .slice none 0 0] 29)).heap[w.heap.size]? = some (.cells #[.int .i64 0, .int .i64 0, .int .i64 0, .slice none 0 0] 29 (0, 0)) := heap_alloc_new _ _
  have hXW : Ext w (w.alloc (.cells #[.int .i64 0, .int .i64 0, .int .i64 0, .slice none 0 0] 29)) := (Ext.refl w).alloc _
  generalize World.alloc w _ = W at hres0 hXW ⊢
  have r0 := hXW.cell r0
  have r1 := hXW.cell r1
  have HXW : Hid (Ext w W) := hXW
  have HRS : Hid (W.heap[w.heap.size]? = some (.cells #[.int .i64 0, .int .i64 0, .int .i64 0, .slice none 0 0] 29 (0, 0))) := hres0
  clear hXW hres0
  go_region_held3 (fun w' => (w'.cell? ⟨rb, 0, none⟩ = some (.int .i64 s) ∧ w'.cell? ⟨rb, 1, none⟩ = some (.int .i64 i)) ∧ Ext W w')
    ((refine and_c2 r0 r1 ?_; (repeat (first | with_reducible exact Ext.refl _ | with_reducible assumption | with_reducible refine Ext.drew ?_ | with_reducible refine Ext.alloc ?_ _ | with_reducible (apply Ext.chain; assumption))); done))
    (first | (go_at_call 75; refine (HNm.out _ (Ext.drew HXW.out)).mono ?_; rintro e w1' ⟨rfl, rfl⟩))
  rename_i hh
  have hD : Ext W W.drew := hh.2
  clear hh
  generalize W.drew = V at hD ⊢
  have r0 := hD.cell r0
  have r1 := hD.cell r1
  have HXV : Hid (Ext w V) := HXW.out.trans hD
  have HRV : Hid (V.heap[w.heap.size]? = some (.cells #[.int .i64 0, .int .i64 0, .int .i64 0, .slice none 0 0] 29 (0, 0))) := hD.block HRS.out
  have hkl := (Array.getElem?_eq_some_iff.1 H.out.one.stk).1
  have hB := H.out.one.deal.lt
  have hVl := (Array.getElem?_eq_some_iff.1 HRV.out).1
  clear hD HXW HRS
  go_wp2_with fail
  go_region_held3 (fun w' => w'.cell? ⟨rb, 0, none⟩ = some (.int .i64 s) ∧ w'.cell? ⟨rb, 1, none⟩ = some (.int .i64 i))
    (first | exact ⟨r0, r1⟩ | exact S2 | exact ⟨set4far _ _ _ _ (by omega) S2.1, set4far _ _ _ _ (by omega) S2.2⟩)
    (first
      | (go_at_call 77
         refine (HDo.out _ (Ext.drew HXV.out)).mono ?_
         rintro e w2 ⟨rfl, hl2⟩
         have HL2 : Hid _ := hl2
         obtain ⟨g, cap, dv', q1, q2, q3, q4⟩ := hl2
         have hr2 : w2.heap[w.heap.size]? = some (.cells #[.int .i64 0, .int .i64 0, .int .i64 0, .slice none 0 0] 29 (0, 0)) := q3.ref (at_drew HRV.out) (nres H.out)
         have o0 := cell_at hr2 (i := 0) rfl
         have o1 := cell_at hr2 (i := 1) rfl
         have o2 := cell_at hr2 (i := 2) rfl
         have o3 := cell_at hr2 (i := 3) rfl
         have f0 := frozen_row hr2 0
         have f1 := frozen_row hr2 1
         have f2 := frozen_row hr2 2
         have f3 := frozen_row hr2 3
         have S2 : w2.cell? ⟨rb, 0, none⟩ = some (.int .i64 s) ∧ w2.cell? ⟨rb, 1, none⟩ = some (.int .i64 i) := ⟨q3.cell r0 HNR.out, q3.cell r1 HNR.out⟩
         clear q1 q2 q3 q4 hr2))
  go_wp2
  refine bodyPost_ret (v := .agg #[.int .i64 0, .int .i64 0, .int .i64 1, .slice none 0 0]) (by simp [results, Try.results62, go_sem, o0, o1, o2, o3]) rfl ⟨rfl, ?_⟩
  exact Leased1.step HL2.out H.out (Ext.drew HXV.out) (set4' (Ext.refl _) _ _ _ _) (Nat.le_refl _) (by show w.heap.size < V.heap.size + 1; omega) (by show w.heap.size + 1 ≤ V.heap.size + 1; omega)
end Go.Proofs.Ytmnjhhachdlmkaa
