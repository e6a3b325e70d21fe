import Derived.Test.YtmnjhhachdlmkaaFetch
namespace Go.Proofs.Ytmnjhhachdlmkaa
open Go.RowKit Go.Maps

theorem fetchP_c (B gk gs cs mb g cap rb kd m k n s i a0 a1 L c0 c1 : Nat) (dv : Value) (D : DataW Value) (z0 z1 zp : List Int) (p : Int) (hp : p = 0 ∧ zp = z0 ∨ p = 1 ∧ zp = z1) (hz0 : z0.length = L) (hz1 : z1.length = L) (hL1 : 1 ≤ L) (hL2 : L ≤ 27) (w : World) (h : PostL w B gk gs cs mb g cap kd m k n s i a0 a1 L c0 c1 dv D z0 z1) (hr : fetchReq w rb s kd m k n p) :
    Calls Try.prog 63 #[.pointer (some ⟨B, 0, none⟩), .pointer (some ⟨rb, 0, none⟩)] w fun e w' => ∃ gv cv, e = .returned (replyV 0 0 1 (.slice (some ⟨gv, 0, none⟩) L cv)) ∧ w'.ownsRow w.heap.size 47 1 (.slice (some ⟨gv, 0, none⟩) L cv) L (zp.map (Value.int .u64)) ∧ Ext w w' := by
  rcases hp with ⟨rfl, rfl⟩ | ⟨rfl, rfl⟩
  · exact fetch0_c B gk gs cs mb g cap rb kd m k n s i a0 a1 L c0 c1 dv D zp z1 hz0 hL1 hL2 w h hr
  · exact fetch1_c B gk gs cs mb g cap rb kd m k n s i a0 a1 L c0 c1 dv D z0 zp hz1 hL1 hL2 w h hr

set_option maxRecDepth 100000 in
set_option maxHeartbeats 1600000 in
theorem answerFetch_c (B gk gs cs mb g cap rb kd m k n s i a0 a1 L c0 c1 : Nat) (dv : Value) (D : DataW Value) (z0 z1 zp : List Int) (p : Int) (hp : p = 0 ∧ zp = z0 ∨ p = 1 ∧ zp = z1) (hz0 : z0.length = L) (hz1 : z1.length = L) (hL1 : 1 ≤ L) (hL2 : L ≤ 27) (w : World) (h : PostL w B gk gs cs mb g cap kd m k n s i a0 a1 L c0 c1 dv D z0 z1) (hr : fetchReq w rb s kd m k n p) :
    Calls Try.prog 50 #[.pointer (some ⟨B, 0, none⟩), .iface 99 (.pointer (some ⟨rb, 0, none⟩))] w fun e w' => ∃ gv cv, e = .returned (replyV 0 0 1 (.slice (some ⟨gv, 0, none⟩) L cv)) ∧ w'.ownsRow w.heap.size 47 1 (.slice (some ⟨gv, 0, none⟩) L cv) L (zp.map (Value.int .u64)) ∧ Ext w w' := by
  have HDo : Hid (∀ w', Ext w w' → _) := fun w' hx => fetchP_c B gk gs cs mb g cap rb kd m k n s i a0 a1 L c0 c1 dv D z0 z1 zp p hp hz0 hz1 hL1 hL2 w' (h.ext hx) (hx.block hr)
  have hta0 := ta_fetch0
  have hta := ta_fetch
  clear h hr hp
  unfold replyV at HDo ⊢
  go_enter Try.func50, Try.ntmps50
  go_wp2_with fail
  have hres0 : (w.alloc (.cells #[.int .i64 0, .int .i64 0, .int .i64 0, .slice none 0 0] 29)).heap[w.heap.size]? = some (.cells #[.int .i64 0, .int .i64 0, .int .i64 0, .slice none 0 0] 29 (0, 0)) := heap_alloc_new _ _
  have hXW : Ext w (w.alloc (.cells #[.int .i64 0, .int .i64 0, .int .i64 0, .slice none 0 0] 29)) := (Ext.refl w).alloc _
  generalize World.alloc w _ = W at hres0 hXW ⊢
  refine (HDo.out _ hXW).mono ?_
  rintro e w2 ⟨gv, cv, rfl, hov, hx2⟩
  have hr2 := hx2.block hres0
  have HXW : Hid (Ext w W) := hXW
  have o0 := cell_at hr2 (i := 0) rfl
  have o1 := cell_at hr2 (i := 1) rfl
  have o2 := cell_at hr2 (i := 2) rfl
  have o3 := cell_at hr2 (i := 3) rfl
  have f0 := frozen_row hr2 0
  have f1 := frozen_row hr2 1
  have f2 := frozen_row hr2 2
  have f3 := frozen_row hr2 3
  have HNE : Hid ((Value.slice (some ⟨gv, 0, none⟩) L cv).ownBlock ≠ some (w.heap.size)) := row_ne (B := w.heap.size) (t := 29) hr2 hov (by decide)
  have HOW : Hid (w2.ownsRow w.heap.size 47 1 (.slice (some ⟨gv, 0, none⟩) L cv) L (zp.map (Value.int .u64))) := owns_base hov (HXW.out.le)
  have HXX : Hid (Ext w w2) := HXW.out.trans hx2
  clear hr2 hov hx2 hres0 hXW
  go_wp2
  refine bodyPost_ret (v := .agg #[.int .i64 0, .int .i64 0, .int .i64 1, .slice (some ⟨gv, 0, none⟩) L cv]) (by simp [results, Try.results50, go_sem, o0, o1, o2, o3]) rfl ⟨gv, cv, rfl, ?_, ?_⟩
  · exact owns_setCell (owns_setCell (owns_setCell (owns_setCell HOW.out HNE.out _) HNE.out _) HNE.out _) HNE.out _
  · exact Ext.setCell (Ext.setCell (Ext.setCell (Ext.setCell HXX.out (by show w.heap.size ≤ w.heap.size; omega) _) (by show w.heap.size ≤ w.heap.size; omega) _) (by show w.heap.size ≤ w.heap.size; omega) _) (by show w.heap.size ≤ w.heap.size; omega) _

set_option maxRecDepth 100000 in
set_option maxHeartbeats 1600000 in
theorem dealerAnswerFetch_c (B gk gs cs mb g cap rb kd m k n s i a0 a1 L c0 c1 : Nat) (dv : Value) (D : DataW Value) (z0 z1 zp : List Int) (p : Int) (hp : p = 0 ∧ zp = z0 ∨ p = 1 ∧ zp = z1) (hz0 : z0.length = L) (hz1 : z1.length = L) (hL1 : 1 ≤ L) (hL2 : L ≤ 27) (w : World) (h : PostL w B gk gs cs mb g cap kd m k n s i a0 a1 L c0 c1 dv D z0 z1) (hr : fetchReq w rb s kd m k n p) :
    Calls Try.prog 44 #[.pointer (some ⟨B, 0, none⟩), .iface 99 (.pointer (some ⟨rb, 0, none⟩)), .int .i64 0] w fun e w' => ∃ gv cv, e = .returned (replyV 0 0 1 (.slice (some ⟨gv, 0, none⟩) L cv)) ∧ w'.ownsRow w.heap.size 47 1 (.slice (some ⟨gv, 0, none⟩) L cv) L (zp.map (Value.int .u64)) ∧ Ext w w' := by
  have HDo : Hid (∀ w', Ext w w' → _) := fun w' hx => answerFetch_c B gk gs cs mb g cap rb kd m k n s i a0 a1 L c0 c1 dv D z0 z1 zp p hp hz0 hz1 hL1 hL2 w' (h.ext hx) (hx.block hr)
  clear h hr hp
  unfold replyV at HDo ⊢
  go_enter Try.func44, Try.ntmps44
  go_wp2_with fail
  have hres0 : (w.alloc (.cells #[.int .i64 0, .int .i64 0, .int .i64 0, .slice none 0 0] 29)).heap[w.heap.size]? = some (.cells #[.int .i64 0, .int .i64 0, .int .i64 0, .slice none 0 0] 29 (0, 0)) := heap_alloc_new _ _
  have hXW : Ext w (w.alloc (.cells #[.int .i64 0, .int .i64 0, .int .i64 0, .slice none 0 0] 29)) := (Ext.refl w).alloc _
  generalize World.alloc w _ = W at hres0 hXW ⊢
  refine (HDo.out _ hXW).mono ?_
  rintro e w2 ⟨gv, cv, rfl, hov, hx2⟩
  have hr2 := hx2.block hres0
  have HXW : Hid (Ext w W) := hXW
  have o0 := cell_at hr2 (i := 0) rfl
  have o1 := cell_at hr2 (i := 1) rfl
  have o2 := cell_at hr2 (i := 2) rfl
  have o3 := cell_at hr2 (i := 3) rfl
  have f0 := frozen_row hr2 0
  have f1 := frozen_row hr2 1
  have f2 := frozen_row hr2 2
  have f3 := frozen_row hr2 3
  have HNE : Hid ((Value.slice (some ⟨gv, 0, none⟩) L cv).ownBlock ≠ some (w.heap.size)) := row_ne (B := w.heap.size) (t := 29) hr2 hov (by decide)
  have HOW : Hid (w2.ownsRow w.heap.size 47 1 (.slice (some ⟨gv, 0, none⟩) L cv) L (zp.map (Value.int .u64))) := owns_base hov (HXW.out.le)
  have HXX : Hid (Ext w w2) := HXW.out.trans hx2
  clear hr2 hov hx2 hres0 hXW
  go_wp2
  refine bodyPost_ret (v := .agg #[.int .i64 0, .int .i64 0, .int .i64 1, .slice (some ⟨gv, 0, none⟩) L cv]) (by simp [results, Try.results44, go_sem, o0, o1, o2, o3]) rfl ⟨gv, cv, rfl, ?_, ?_⟩
  · exact owns_setCell (owns_setCell (owns_setCell (owns_setCell HOW.out HNE.out _) HNE.out _) HNE.out _) HNE.out _
  · exact Ext.setCell (Ext.setCell (Ext.setCell (Ext.setCell HXX.out (by show w.heap.size ≤ w.heap.size; omega) _) (by show w.heap.size ≤ w.heap.size; omega) _) (by show w.heap.size ≤ w.heap.size; omega) _) (by show w.heap.size ≤ w.heap.size; omega) _

def fetchVals (s kd m k n f c : Nat) (p : Int) : Nat → Int
  | 0 => s | 1 => kd | 2 => m | 3 => k | 4 => n | 5 => f | 6 => c | 7 => p | _ => 0

set_option maxRecDepth 100000 in
set_option maxHeartbeats 1600000 in
/-- Ask for the shares of the one triple. -/
theorem askFetch_c (B gk gs cs mb g cap kd m k n s i a0 a1 L c0 c1 : Nat) (dv : Value) (D : DataW Value) (z0 z1 zp : List Int) (p : Int) (hp : p = 0 ∧ zp = z0 ∨ p = 1 ∧ zp = z1) (hz0 : z0.length = L) (hz1 : z1.length = L) (hL1 : 1 ≤ L) (hL2 : L ≤ 27) (hs : s ≤ 100) (hkd : kd ≤ 3) (hm : m ≤ 3) (hk : k ≤ 3) (hn : n ≤ 3) (w : World) (h : PostL w B gk gs cs mb g cap kd m k n s i a0 a1 L c0 c1 dv D z0 z1) :
    Calls Try.prog 33 #[.pointer (some ⟨B, 0, none⟩), .agg #[.int .i64 2, .int .i64 s, .int .i64 0, .int .i64 kd, .int .i64 m, .int .i64 k, .int .i64 n, .int .i64 0, .int .i64 1, .int .i64 p]] w fun e w' => ∃ gv cv, e = .returned (replyV 0 0 1 (.slice (some ⟨gv, 0, none⟩) L cv)) ∧ w'.ownsRow w.heap.size 47 1 (.slice (some ⟨gv, 0, none⟩) L cv) L (zp.map (Value.int .u64)) ∧ Ext w w' := by
  have HC : Hid (∀ w', Calls Try.prog 22 #[.agg #[.int .i64 2, .int .i64 s, .int .i64 0, .int .i64 kd, .int .i64 m, .int .i64 k, .int .i64 n, .int .i64 0, .int .i64 1, .int .i64 p]] w' fun e w'' => ∃ b, e = .returned (.tuple #[.iface 99 (.pointer (some ⟨b, 0, none⟩)), .int .i64 0]) ∧ fetchReq w'' b s kd m k n p ∧ Ext w' w'') := fun w' => by
    have hf : fitB (fetchVals s kd m k n 0 1 p) fetchL = true := by
      have hp2 : 0 ≤ p ∧ p ≤ 255 := by rcases hp with ⟨h, _⟩ | ⟨h, _⟩ <;> omega
      simp [fitB, fetchL, fetchVals]
      omega
    refine (check_2b s kd m k n 0 1 p (fetchVals s kd m k n 0 1 p) ⟨rfl, rfl, rfl, rfl, rfl, rfl, rfl, rfl⟩ w').mono ?_
    rintro e w'' (⟨_, b, he, hb, hx⟩ | ⟨hn, _⟩)
    · exact ⟨b, he, hb, hx⟩
    · rw [hf] at hn; cases hn
  have HDo : Hid (∀ rb w', Ext w w' → fetchReq w' rb s kd m k n p → _) := fun rb w' hx hr => dealerAnswerFetch_c B gk gs cs mb g cap rb kd m k n s i a0 a1 L c0 c1 dv D z0 z1 zp p hp hz0 hz1 hL1 hL2 w' (h.ext hx) hr
  clear h hp hs hkd hm hk hn
  unfold replyV at HDo ⊢
  go_enter Try.func33, Try.ntmps33
  go_wp2_with fail
  have hres0 : ((w.alloc (.cells #[.int .i64 2, .int .i64 s, .int .i64 0, .int .i64 kd, .int .i64 m, .int .i64 k, .int .i64 n, .int .i64 0, .int .i64 1, .int .i64 p] 25)).alloc (.cells #[.int .i64 0, .int .i64 0, .int .i64 0, .slice none 0 0] 29)).heap[w.heap.size + 1]? = some (.cells #[.int .i64 0, .int .i64 0, .int .i64 0, .slice none 0 0] 29 (0, 0)) := at_new (by simp)
  have hXW : Ext w ((w.alloc (.cells #[.int .i64 2, .int .i64 s, .int .i64 0, .int .i64 kd, .int .i64 m, .int .i64 k, .int .i64 n, .int .i64 0, .int .i64 1, .int .i64 p] 25)).alloc (.cells #[.int .i64 0, .int .i64 0, .int .i64 0, .slice none 0 0] 29)) := ((Ext.refl w).alloc _).alloc _
  generalize World.alloc (World.alloc w _) _ = W at hres0 hXW ⊢
  refine (HC.out W).mono ?_
  rintro e w1 ⟨rb, rfl, hreq, hx1⟩
  have hres1 := hx1.block hres0
  have HXW : Hid (Ext w w1) := hXW.trans hx1
  have HREQ : Hid _ := hreq
  clear hx1 hXW hreq hres0
  go_wp2_with fail
  refine (HDo.out rb _ HXW.out HREQ.out).mono ?_
  rintro e w2 ⟨gv, cv, rfl, hov, hx2⟩
  have hr2 := hx2.block hres1
  have o0 := cell_at hr2 (i := 0) rfl
  have o1 := cell_at hr2 (i := 1) rfl
  have o2 := cell_at hr2 (i := 2) rfl
  have o3 := cell_at hr2 (i := 3) rfl
  have f0 := frozen_row hr2 0
  have f1 := frozen_row hr2 1
  have f2 := frozen_row hr2 2
  have f3 := frozen_row hr2 3
  have HNE : Hid ((Value.slice (some ⟨gv, 0, none⟩) L cv).ownBlock ≠ some (w.heap.size + 1)) := row_ne (B := w.heap.size + 1) (t := 29) hr2 hov (by decide)
  have HOW : Hid (w2.ownsRow w.heap.size 47 1 (.slice (some ⟨gv, 0, none⟩) L cv) L (zp.map (Value.int .u64))) := owns_base hov (HXW.out.le)
  have HXX : Hid (Ext w w2) := HXW.out.trans hx2
  clear hr2 hov hx2 hres1
  go_wp2
  refine bodyPost_ret (v := .agg #[.int .i64 0, .int .i64 0, .int .i64 1, .slice (some ⟨gv, 0, none⟩) L cv]) (by simp [results, Try.results33, go_sem, o0, o1, o2, o3]) rfl ⟨gv, cv, rfl, ?_, ?_⟩
  · exact owns_setCell (owns_setCell (owns_setCell (owns_setCell HOW.out HNE.out _) HNE.out _) HNE.out _) HNE.out _
  · exact Ext.setCell (Ext.setCell (Ext.setCell (Ext.setCell HXX.out (by show w.heap.size ≤ w.heap.size + 1; omega) _) (by show w.heap.size ≤ w.heap.size + 1; omega) _) (by show w.heap.size ≤ w.heap.size + 1; omega) _) (by show w.heap.size ≤ w.heap.size + 1; omega) _
end Go.Proofs.Ytmnjhhachdlmkaa
