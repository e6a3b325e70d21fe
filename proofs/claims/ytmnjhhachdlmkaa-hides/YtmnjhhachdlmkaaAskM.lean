import Derived.Test.YtmnjhhachdlmkaaAskL
namespace Go.Proofs.Ytmnjhhachdlmkaa
open Go.RowKit Go.Maps

theorem ta_lease (a : Addr) (w : World) : (Instr.typeAssert (.iface 96 (.pointer (some a))) 56 96 true).run Try.prog w = .ok (.tuple #[.pointer (some a), .bool true]) w := by kernel_rfl
theorem ta_fetch0 (a : Addr) (w : World) : (Instr.typeAssert (.iface 99 (.pointer (some a))) 56 96 true).run Try.prog w = .ok (.tuple #[.pointer none, .bool false]) w := by kernel_rfl
theorem ta_fetch (a : Addr) (w : World) : (Instr.typeAssert (.iface 99 (.pointer (some a))) 56 99 true).run Try.prog w = .ok (.tuple #[.pointer (some a), .bool true]) w := by kernel_rfl

set_option maxRecDepth 100000 in
set_option maxHeartbeats 1600000 in
theorem answerLease_c (B gk gs cs mb rb s i kd m k n kk : Nat) (dv : Value) (xs : List Value) (hs : s ≤ 100) (hi : i ≤ 100) (w : World) (h : PreL w B gk gs cs mb kd m k n kk dv xs) (hr : leaseReq w rb s i kd m k n) (hdr : dv.ownBlock ≠ some rb) :
    Calls Try.prog 50 #[.pointer (some ⟨B, 0, none⟩), .iface 96 (.pointer (some ⟨rb, 0, none⟩))] w fun e w' => e = .returned (replyV 0 0 1 (.slice none 0 0)) ∧ Leased1 (w.heap.size + 1) w w' B gk gs cs mb s i kd m k n dv := by
  have HDo : Hid (∀ w', Ext w w' → _) := fun w' hx => storeLease_c B gk gs cs mb rb s i kd m k n kk dv xs hs hi w' (h.ext hx) (hx.block hr) hdr
  have H : Hid _ := h
  have hta := ta_lease
  clear h hr hs hi hdr
  unfold replyV at HDo ⊢
  go_enter Try.func50, Try.ntmps50
  go_wp2_with fail
  have hres0 : (w.alloc (.cells #[.int .i64 0, .int .i64 0, .int .i64 0, .slice none 0 0] 29)).heap[w.heap.size]? = some (.cells #[.int .i64 0, .int .i64 0, .int .i64 0, .slice none 0 0] 29 (0, 0)) := heap_alloc_new _ _
  have hXW : Ext w (w.alloc (.cells #[.int .i64 0, .int .i64 0, .int .i64 0, .slice none 0 0] 29)) := (Ext.refl w).alloc _
  have hWl : w.heap.size < (w.alloc (.cells #[.int .i64 0, .int .i64 0, .int .i64 0, .slice none 0 0] 29)).heap.size := by simp
  generalize World.alloc w _ = W at hres0 hXW hWl ⊢
  refine (HDo.out _ hXW).mono ?_
  rintro e w2 ⟨rfl, hl2⟩
  have HL2 : Hid _ := hl2
  obtain ⟨g, cap, dv', q1, q2, q3, q4⟩ := hl2
  have hr2 : w2.heap[w.heap.size]? = some (.cells #[.int .i64 0, .int .i64 0, .int .i64 0, .slice none 0 0] 29 (0, 0)) := q3.ref hres0 (nres H.out)
  have o0 := cell_at hr2 (i := 0) rfl
  have o1 := cell_at hr2 (i := 1) rfl
  have o2 := cell_at hr2 (i := 2) rfl
  have o3 := cell_at hr2 (i := 3) rfl
  have f0 := frozen_row hr2 0
  have f1 := frozen_row hr2 1
  have f2 := frozen_row hr2 2
  have f3 := frozen_row hr2 3
  have HXW : Hid (Ext w W) := hXW
  clear q1 q2 q3 q4 hr2 hres0 hXW
  go_wp2
  refine bodyPost_ret (v := .agg #[.int .i64 0, .int .i64 0, .int .i64 1, .slice none 0 0]) (by simp [results, Try.results50, go_sem, o0, o1, o2, o3]) rfl ⟨rfl, ?_⟩
  exact Leased1.step HL2.out H.out HXW.out (set4' (Ext.refl _) _ _ _ _) (Nat.le_refl _) (by omega) (by omega)

set_option maxRecDepth 100000 in
set_option maxHeartbeats 1600000 in
theorem dealerAnswerLease_c (B gk gs cs mb rb s i kd m k n kk : Nat) (dv : Value) (xs : List Value) (hs : s ≤ 100) (hi : i ≤ 100) (w : World) (h : PreL w B gk gs cs mb kd m k n kk dv xs) (hr : leaseReq w rb s i kd m k n) (hdr : dv.ownBlock ≠ some rb) :
    Calls Try.prog 44 #[.pointer (some ⟨B, 0, none⟩), .iface 96 (.pointer (some ⟨rb, 0, none⟩)), .int .i64 0] w fun e w' => e = .returned (replyV 0 0 1 (.slice none 0 0)) ∧ Leased1 (w.heap.size + 1) w w' B gk gs cs mb s i kd m k n dv := by
  have HDo : Hid (∀ w', Ext w w' → _) := fun w' hx => answerLease_c B gk gs cs mb rb s i kd m k n kk dv xs hs hi w' (h.ext hx) (hx.block hr) hdr
  have H : Hid _ := h
  clear h hr hs hi hdr
  unfold replyV at HDo ⊢
  go_enter Try.func44, Try.ntmps44
  go_wp2_with fail
  have hres0 : (w.alloc (.cells #[.int .i64 0, .int .i64 0, .int .i64 0, .slice none 0 0] 29)).heap[w.heap.size]? = some (.cells #[.int .i64 0, .int .i64 0, .int .i64 0, .slice none 0 0] 29 (0, 0)) := heap_alloc_new _ _
  have hXW : Ext w (w.alloc (.cells #[.int .i64 0, .int .i64 0, .int .i64 0, .slice none 0 0] 29)) := (Ext.refl w).alloc _
  have hWl : w.heap.size < (w.alloc (.cells #[.int .i64 0, .int .i64 0, .int .i64 0, .slice none 0 0] 29)).heap.size := by simp
  generalize World.alloc w _ = W at hres0 hXW hWl ⊢
  refine (HDo.out _ hXW).mono ?_
  rintro e w2 ⟨rfl, hl2⟩
  have HL2 : Hid _ := hl2
  obtain ⟨g, cap, dv', q1, q2, q3, q4⟩ := hl2
  have hr2 : w2.heap[w.heap.size]? = some (.cells #[.int .i64 0, .int .i64 0, .int .i64 0, .slice none 0 0] 29 (0, 0)) := q3.ref hres0 (nres H.out)
  have o0 := cell_at hr2 (i := 0) rfl
  have o1 := cell_at hr2 (i := 1) rfl
  have o2 := cell_at hr2 (i := 2) rfl
  have o3 := cell_at hr2 (i := 3) rfl
  have f0 := frozen_row hr2 0
  have f1 := frozen_row hr2 1
  have f2 := frozen_row hr2 2
  have f3 := frozen_row hr2 3
  have HXW : Hid (Ext w W) := hXW
  clear q1 q2 q3 q4 hr2 hres0 hXW
  go_wp2
  refine bodyPost_ret (v := .agg #[.int .i64 0, .int .i64 0, .int .i64 1, .slice none 0 0]) (by simp [results, Try.results44, go_sem, o0, o1, o2, o3]) rfl ⟨rfl, ?_⟩
  exact Leased1.step HL2.out H.out HXW.out (set4' (Ext.refl _) _ _ _ _) (Nat.le_refl _) (by omega) (by omega)

set_option maxRecDepth 100000 in
set_option maxHeartbeats 1600000 in
/-- Ask for a lease of the one triple. -/
theorem askLease_c (B gk gs cs mb s i kd m k n kk : Nat) (dv : Value) (xs : List Value) (hs : s ≤ 100) (hi : i ≤ 100) (w : World) (h : PreL w B gk gs cs mb kd m k n kk dv xs) :
    Calls Try.prog 33 #[.pointer (some ⟨B, 0, none⟩), .agg #[.int .i64 1, .int .i64 s, .int .i64 i, .int .i64 kd, .int .i64 m, .int .i64 k, .int .i64 n, .int .i64 0, .int .i64 ((1 : Nat) : Int), .int .i64 0]] w fun e w' => e = .returned (replyV 0 0 1 (.slice none 0 0)) ∧ Leased1 (w.heap.size + 1) w w' B gk gs cs mb s i kd m k n dv := by
  have HC : Hid (∀ w', Calls Try.prog 22 #[.agg #[.int .i64 1, .int .i64 s, .int .i64 i, .int .i64 kd, .int .i64 m, .int .i64 k, .int .i64 n, .int .i64 0, .int .i64 ((1 : Nat) : Int), .int .i64 0]] w' fun e w'' => ∃ b, e = .returned (.tuple #[.iface 96 (.pointer (some ⟨b, 0, none⟩)), .int .i64 0]) ∧ leaseReq w'' b s i kd m k n ∧ Ext w' w'') := fun w' => by
    have hf : fitB (fun j => (leaseVals s i kd m k n 1 j : Int)) leaseL = true := by
      have := h.bk; have := h.bm; have := h.bkk; have := h.bn
      simp [fitB, leaseL, leaseVals]
      omega
    refine (check_1b s i kd m k n 1 (fun j => (leaseVals s i kd m k n 1 j : Int)) ⟨rfl, rfl, rfl, rfl, rfl, rfl, rfl⟩ w').mono ?_
    rintro e w'' (⟨_, b, he, hb, hx⟩ | ⟨hn, _⟩)
    · exact ⟨b, he, hb, hx⟩
    · rw [hf] at hn; cases hn
  have HDo : Hid (∀ rb w', Ext w w' → leaseReq w' rb s i kd m k n → _) := fun rb w' hx hr => dealerAnswerLease_c B gk gs cs mb rb s i kd m k n kk dv xs hs hi w' (h.ext hx) hr (row_ne (B := rb) (t := 98) hr (hx.owns h.own) (by decide))
  have H : Hid _ := h
  clear h hs hi
  unfold replyV at HDo ⊢
  go_enter Try.func33, Try.ntmps33
  go_wp2_with fail
  have hres0 : ((w.alloc (.cells #[.int .i64 1, .int .i64 s, .int .i64 i, .int .i64 kd, .int .i64 m, .int .i64 k, .int .i64 n, .int .i64 0, .int .i64 1, .int .i64 0] 25)).alloc (.cells #[.int .i64 0, .int .i64 0, .int .i64 0, .slice none 0 0] 29)).heap[w.heap.size + 1]? = some (.cells #[.int .i64 0, .int .i64 0, .int .i64 0, .slice none 0 0] 29 (0, 0)) := at_new (by simp)
  have hXW : Ext w ((w.alloc (.cells #[.int .i64 1, .int .i64 s, .int .i64 i, .int .i64 kd, .int .i64 m, .int .i64 k, .int .i64 n, .int .i64 0, .int .i64 1, .int .i64 0] 25)).alloc (.cells #[.int .i64 0, .int .i64 0, .int .i64 0, .slice none 0 0] 29)) := ((Ext.refl w).alloc _).alloc _
  generalize World.alloc (World.alloc w _) _ = W at hres0 hXW ⊢
  refine (HC.out W).mono ?_
  rintro e w1 ⟨rb, rfl, hreq, hx1⟩
  have hres1 := hx1.block hres0
  have hl1 := (Array.getElem?_eq_some_iff.1 hres1).1
  have HX1 : Hid (Ext w w1) := hXW.trans hx1
  have HREQ : Hid _ := hreq
  clear hx1 hXW hreq hres0
  go_wp2_with fail
  refine (HDo.out rb _ HX1.out HREQ.out).mono ?_
  rintro e w2 ⟨rfl, hl2⟩
  have HL2 : Hid _ := hl2
  obtain ⟨g, cap, dv', q1, q2, q3, q4⟩ := hl2
  have hkl := (Array.getElem?_eq_some_iff.1 H.out.one.stk).1
  have hB := H.out.one.deal.lt
  have hr2 : w2.heap[w.heap.size + 1]? = some (.cells #[.int .i64 0, .int .i64 0, .int .i64 0, .slice none 0 0] 29 (0, 0)) := q3.ref hres1 (fun e => by
    rcases e with e | e | e
    · omega
    · omega
    · have := (World.ownsRow.lt H.out.own _ e).2; omega)
  have o0 := cell_at hr2 (i := 0) rfl
  have o1 := cell_at hr2 (i := 1) rfl
  have o2 := cell_at hr2 (i := 2) rfl
  have o3 := cell_at hr2 (i := 3) rfl
  have f0 := frozen_row hr2 0
  have f1 := frozen_row hr2 1
  have f2 := frozen_row hr2 2
  have f3 := frozen_row hr2 3
  clear q1 q2 q3 q4 hr2 hres1
  go_wp2
  refine bodyPost_ret (v := .agg #[.int .i64 0, .int .i64 0, .int .i64 1, .slice none 0 0]) (by simp [results, Try.results33, go_sem, o0, o1, o2, o3]) rfl ⟨rfl, ?_⟩
  exact Leased1.step HL2.out H.out HX1.out (set4' (Ext.refl _) _ _ _ _) (by omega) (by omega) (by omega)
end Go.Proofs.Ytmnjhhachdlmkaa
