import Derived.Test.YtmnjhhachdlmkaaGreatK23
namespace Go.Proofs.YtmnjhhachdlmkaaGreat
open List renaming getElem_toArray -> lA, getElem_cons_succ -> lB, getElem_cons_zero -> lC, setIfInBounds_toArray -> lD, set_cons_zero -> lE, set_cons_succ -> lF
open World renaming block_lt_of_cell? -> lG
open Value renaming ownBlock -> lH
-- JAn
section
set_option maxRecDepth 100000
set_option maxHeartbeats 6400000
open Go.RowKit Go.Maps
section
variable {w : World} {P B q c : Nat} {G F : Nat -> Prop} {v : GV} {S : List Stk} {ls : List LsV} {ops0 : List OpV}
/-- More is never written into again. -/
theorem GameOf.more {G' : Nat -> Prop} (h : GameOf w P B G v q S ls ops0 c) (hsub : ∀ b, G b -> G' b) (hlt : ∀ b, G' b -> b < w.heap.size) (ha : ∀ b, GOwn P v b -> ¬ G' b) : GameOf w P B G' v q S ls ops0 c where
 blk := h.blk
 wrow := h.wrow.mono hsub
 ref := h.ref.mono hsub
 orow := h.orow.mono hsub
 prow := let ⟨np, h1, h2⟩ := h.prow; ⟨np, h1, h2.mono hsub⟩
 bW := let ⟨m, h1, h2⟩ := h.bW; ⟨m, h1, h2.mono hsub⟩
 bS := let ⟨m, h1, h2⟩ := h.bS; ⟨m, h1, h2.mono hsub⟩
 bL := let ⟨m, h1, h2⟩ := h.bL; ⟨m, h1, h2.mono hsub⟩
 bO := let ⟨m, h1, h2⟩ := h.bO; ⟨m, h1, h2.mono hsub⟩
 ltG := hlt
 apart := ha
theorem GameOf.count {c' : Nat} (h : GameOf w P B G v q S ls ops0 c) (hc : c <= c') : GameOf w P B G v q S ls ops0 c' where
 blk := h.blk
 wrow := h.wrow
 ref := h.ref
 orow := h.orow
 prow := let ⟨np, h1, h2⟩ := h.prow; ⟨np, by omega, h2⟩
 bW := let ⟨m, h1, h2⟩ := h.bW; ⟨m, by omega, h2⟩
 bS := let ⟨m, h1, h2⟩ := h.bS; ⟨m, by omega, h2⟩
 bL := let ⟨m, h1, h2⟩ := h.bL; ⟨m, by omega, h2⟩
 bO := let ⟨m, h1, h2⟩ := h.bO; ⟨m, by omega, h2⟩
 ltG := h.ltG
 apart := h.apart
theorem infoInt : (Tryz.prog.info? 3).map (fun i => (i.zero, i.size, i.bytes)) = some (some (.int .i64 0), 1, 8) := by kernel_rfl
theorem answered_c {R : List StkR} {ls' : List LsV} {ops new : List OpV} (A : Ans) (h : GameOf w P B G v q S ls ops0 c) (hc : c <= 900000) (hst : StoreOk w B F R ls' ops) (hF : Far F G P v) (hn : ops.length <= 1000000) (hnew : ops = ops0 ++ new) (hno : A.next = none -> new = []) (hyes : ∀ S' ls'', A.next = some (S', ls'') -> ls'' = ls' /\ new ≠ [] /\ A.c = 0) (hbr : A.c ≠ 10) (kk s i kd m k n f cc pp : Int) (hR : ∀ w', Ext w w' -> Calls Tryz.prog 149 #[.pointer (some ⟨q, 0, none⟩), reqV kk s i kd m k n f cc pp] w' fun e w'' => ∃ pv v, e = .returned (.tuple #[pv, replyV A.c A.f A.n v]) /\ RefSo G A w' w'' pv v) (ra : Option Addr) (zl rc : Nat) (hzl : A.zs.length = zl) (hzb : zl <= 100000000) (hrd : RdRow w ra zl (A.zs.map (Value.int .u64))) :
  Calls Tryz.prog 105 #[.pointer (some ⟨P, 0, none⟩), reqV kk s i kd m k n f cc pp, replyV A.c A.f A.n (.slice ra zl rc)] w fun e w' => e = .returned (.bool true) /\ ∃ v' G' q', GameOf w' P B G' v' q' (A.next.getD (S, ls)).1 (A.next.getD (S, ls)).2 ops (c + 2) /\ GStep (fun b => w.heap.size <= b) w w' P v v' G G' := by
 obtain ⟨i0, hi, hz0, hz1, hz2⟩ := info_parts infoInt
 obtain ⟨j0, hj0, hy0, hy1, hy2⟩ := info_parts infoPW
 have H : Hid (GameOf w P B G v q S ls ops0 c) := h
 have HST : Hid (StoreOk w B F R ls' ops /\ Far F G P v /\ ops.length <= 1000000 /\ ops = ops0 ++ new /\ (A.next = none -> new = []) /\ (∀ S' ls'', A.next = some (S', ls'') -> ls'' = ls' /\ new ≠ [] /\ A.c = 0)) := ⟨hst, hF, hn, hnew, hno, hyes⟩
 obtain ⟨gl, lcap, hwv, hgl, hlc⟩ := h.wrow
 have hblk := h.blk
 unfold gcells at hblk
 rw [hwv] at hblk
 have c1 : w.cell? ⟨P, 1, none⟩ = some (.slice (some ⟨gl, 0, none⟩) 1 lcap) := cell_at hblk rfl
 have hPl := lG w _ c1
 have hgll := lG w _ hlc
 have HR : Hid (∀ w', Ext w w' -> _) := hR
 have HNu : Hid (∀ w', _) := fun w' => num_c A.c w'
 have HSR : Hid (∀ w' ra2 rc2, Ext w w' -> RdRow w' ra2 zl (A.zs.map (Value.int .u64)) -> Calls Tryz.prog 109 #[.agg #[.int .i64 A.c, .int .i64 A.f, .int .i64 A.n, .slice ra zl rc], .agg #[.int .i64 A.c, .int .i64 A.f, .int .i64 A.n, .slice ra2 zl rc2]] w' fun e w'' => e = .returned (.bool true) /\ Ext w' w'') := fun w' ra2 rc2 hx h2 => by
  have := sameReply_c A.c A.f A.n A.zs (by omega) ra ra2 rc rc2 w' (by rw [hzl]; exact hrd.ext hx) (by rw [hzl]; exact h2)
  rw [hzl] at this
  exact this
 have hb10 : (A.c == 10) = false := by simpa using hbr
 have HZL : Hid (A.zs.length = zl) := hzl
 clear h hst hF hn hnew hno hyes hR hwv hgl hblk hrd hbr hzl
 unfold replyV reqV at *
 go_enter Tryz.func105, Tryz.ntmps105
 go_wp2_with fail
 have hreq : ((w.alloc (.cells #[.int .i64 kk, .int .i64 s, .int .i64 i, .int .i64 kd, .int .i64 m, .int .i64 k, .int .i64 n, .int .i64 f, .int .i64 cc, .int .i64 pp] 51)).alloc (.cells #[.int .i64 A.c, .int .i64 A.f, .int .i64 A.n, .slice ra zl rc] 33)).heap[w.heap.size]? = some (.cells #[.int .i64 kk, .int .i64 s, .int .i64 i, .int .i64 kd, .int .i64 m, .int .i64 k, .int .i64 n, .int .i64 f, .int .i64 cc, .int .i64 pp] 51 (0, 0)) := at_old (heap_alloc_new _ _)
 have hrep : ((w.alloc (.cells #[.int .i64 kk, .int .i64 s, .int .i64 i, .int .i64 kd, .int .i64 m, .int .i64 k, .int .i64 n, .int .i64 f, .int .i64 cc, .int .i64 pp] 51)).alloc (.cells #[.int .i64 A.c, .int .i64 A.f, .int .i64 A.n, .slice ra zl rc] 33)).heap[w.heap.size + 1]? = some (.cells #[.int .i64 A.c, .int .i64 A.f, .int .i64 A.n, .slice ra zl rc] 33 (0, 0)) := at_new (by simp)
 have hXW : Ext w ((w.alloc (.cells #[.int .i64 kk, .int .i64 s, .int .i64 i, .int .i64 kd, .int .i64 m, .int .i64 k, .int .i64 n, .int .i64 f, .int .i64 cc, .int .i64 pp] 51)).alloc (.cells #[.int .i64 A.c, .int .i64 A.f, .int .i64 A.n, .slice ra zl rc] 33)) := ((Ext.refl w).alloc _).alloc _
 generalize World.alloc (World.alloc w _) _ = W at hreq hrep hXW ⊢
 have p0 : W.cell? ⟨w.heap.size + 1, 0, none⟩ = some (.int .i64 A.c) := cell_at hrep rfl
 have HRQ : Hid (W.heap[w.heap.size]? = some (.cells #[.int .i64 kk, .int .i64 s, .int .i64 i, .int .i64 kd, .int .i64 m, .int .i64 k, .int .i64 n, .int .i64 f, .int .i64 cc, .int .i64 pp] 51 (0, 0))) := hreq
 have HRP : Hid (W.heap[w.heap.size + 1]? = some (.cells #[.int .i64 A.c, .int .i64 A.f, .int .i64 A.n, .slice ra zl rc] 33 (0, 0))) := hrep
 have HXW : Hid (Ext w W) := hXW
 have hpl0 := lG W _ p0
 have c1W := hXW.cell c1
 have hlcW := hXW.cell hlc
 clear hreq hrep hXW
 go_wp2_with fail
 refine (HNu.out _).mono ?_
 rintro e w0 ⟨rfl, rfl⟩
 go_wp2_with fail
 refine wp_loop_rounds 2 ?_
 rw [rounds_succ]
 have r0 : W.cell? ⟨w.heap.size, 0, none⟩ = some (.int .i64 kk) := cell_at HRQ.out rfl
 have r1 : W.cell? ⟨w.heap.size, 1, none⟩ = some (.int .i64 s) := cell_at HRQ.out rfl
 have r2 : W.cell? ⟨w.heap.size, 2, none⟩ = some (.int .i64 i) := cell_at HRQ.out rfl
 have r3 : W.cell? ⟨w.heap.size, 3, none⟩ = some (.int .i64 kd) := cell_at HRQ.out rfl
 have r4 : W.cell? ⟨w.heap.size, 4, none⟩ = some (.int .i64 m) := cell_at HRQ.out rfl
 have r5 : W.cell? ⟨w.heap.size, 5, none⟩ = some (.int .i64 k) := cell_at HRQ.out rfl
 have r6 : W.cell? ⟨w.heap.size, 6, none⟩ = some (.int .i64 n) := cell_at HRQ.out rfl
 have r7 : W.cell? ⟨w.heap.size, 7, none⟩ = some (.int .i64 f) := cell_at HRQ.out rfl
 have r8 : W.cell? ⟨w.heap.size, 8, none⟩ = some (.int .i64 cc) := cell_at HRQ.out rfl
 have r9 : W.cell? ⟨w.heap.size, 9, none⟩ = some (.int .i64 pp) := cell_at HRQ.out rfl
 have SF : Hid (∀ w', Ext W w' -> (fun w' => w'.cell? ⟨P, 1, none⟩ = some (.slice (some ⟨gl, 0, none⟩) 1 lcap) /\ w'.cell? ⟨gl, 0, none⟩ = some (.pointer (some ⟨q, 0, none⟩)) /\ w'.cell? ⟨w.heap.size, 0, none⟩ = some (.int .i64 kk) /\ w'.cell? ⟨w.heap.size, 1, none⟩ = some (.int .i64 s) /\ w'.cell? ⟨w.heap.size, 2, none⟩ = some (.int .i64 i) /\ w'.cell? ⟨w.heap.size, 3, none⟩ = some (.int .i64 kd) /\ w'.cell? ⟨w.heap.size, 4, none⟩ = some (.int .i64 m) /\ w'.cell? ⟨w.heap.size, 5, none⟩ = some (.int .i64 k) /\ w'.cell? ⟨w.heap.size, 6, none⟩ = some (.int .i64 n) /\ w'.cell? ⟨w.heap.size, 7, none⟩ = some (.int .i64 f) /\ w'.cell? ⟨w.heap.size, 8, none⟩ = some (.int .i64 cc) /\ w'.cell? ⟨w.heap.size, 9, none⟩ = some (.int .i64 pp)) w') := fun w' hx => ⟨hx.cell c1W, hx.cell hlcW, cell_at (hx.block HRQ.out) rfl, cell_at (hx.block HRQ.out) rfl, cell_at (hx.block HRQ.out) rfl, cell_at (hx.block HRQ.out) rfl, cell_at (hx.block HRQ.out) rfl, cell_at (hx.block HRQ.out) rfl, cell_at (hx.block HRQ.out) rfl, cell_at (hx.block HRQ.out) rfl, cell_at (hx.block HRQ.out) rfl, cell_at (hx.block HRQ.out) rfl⟩
 have hS0 := SF.out W (Ext.refl _)
 go_wp2_with fail
 refine wp_region_held_drew (S := (fun w' => w'.cell? ⟨P, 1, none⟩ = some (.slice (some ⟨gl, 0, none⟩) 1 lcap) /\ w'.cell? ⟨gl, 0, none⟩ = some (.pointer (some ⟨q, 0, none⟩)) /\ w'.cell? ⟨w.heap.size, 0, none⟩ = some (.int .i64 kk) /\ w'.cell? ⟨w.heap.size, 1, none⟩ = some (.int .i64 s) /\ w'.cell? ⟨w.heap.size, 2, none⟩ = some (.int .i64 i) /\ w'.cell? ⟨w.heap.size, 3, none⟩ = some (.int .i64 kd) /\ w'.cell? ⟨w.heap.size, 4, none⟩ = some (.int .i64 m) /\ w'.cell? ⟨w.heap.size, 5, none⟩ = some (.int .i64 k) /\ w'.cell? ⟨w.heap.size, 6, none⟩ = some (.int .i64 n) /\ w'.cell? ⟨w.heap.size, 7, none⟩ = some (.int .i64 f) /\ w'.cell? ⟨w.heap.size, 8, none⟩ = some (.int .i64 cc) /\ w'.cell? ⟨w.heap.size, 9, none⟩ = some (.int .i64 pp))) (by kernel_rfl) hS0 (fun hHeld => ?_)
 refine wpAnyH_take (i := 0) (oi := _) (v := ?v0) rfl (by kernel_rfl) (by kernel_rfl) (by kernel_rfl) (fun _ _ _ h => h) (Or.inl ⟨by rfl, ?hy⟩) hHeld ?_
 case hy => (intro w hSw; (try dsimp only at hSw); go_simp; try with_reducible rfl)
 try simp only [Act.put, lA, lC, lD, lE, lF]
 refine wpAnyH_take (i := 1) (oi := _) (v := ?v1) rfl (by kernel_rfl) (by kernel_rfl) (by kernel_rfl) (fun _ _ _ h => h) (Or.inl ⟨by rfl, ?hy⟩) hHeld ?_
 case hy => (intro w hSw; (try dsimp only at hSw); go_simp; try with_reducible rfl)
 try simp only [Act.put, lA, lB, lC, lD, lE, lF]
 refine wpAnyH_take (i := 2) (oi := _) (v := ?v2) rfl (by kernel_rfl) (by kernel_rfl) (by kernel_rfl) (fun _ _ _ h => h) (Or.inl ⟨by rfl, ?hy⟩) hHeld ?_
 case hy => (intro w hSw; (try dsimp only at hSw); go_simp; try with_reducible rfl)
 try simp only [Act.put, lA, lB, lC, lD, lE, lF]
 refine wpAnyH_take (i := 3) (oi := _) (v := ?v3) rfl (by kernel_rfl) (by kernel_rfl) (by kernel_rfl) (fun _ _ _ h => h) (Or.inl ⟨by rfl, ?hy⟩) hHeld ?_
 case hy => (intro w hSw; (try dsimp only at hSw); go_simp; try with_reducible rfl)
 try simp only [Act.put, lA, lB, lC, lD, lE, lF]
 refine wpAnyH_take (i := 4) (oi := _) (v := ?v4) rfl (by kernel_rfl) (by kernel_rfl) (by kernel_rfl) (fun _ _ _ h => h) (Or.inl ⟨by rfl, ?hy⟩) hHeld ?_
 case hy => (intro w hSw; (try dsimp only at hSw); go_simp; try with_reducible rfl)
 try simp only [Act.put, lA, lB, lC, lD, lE, lF]
 refine wpAnyH_take (i := 5) (oi := _) (v := ?v5) rfl (by kernel_rfl) (by kernel_rfl) (by kernel_rfl) (fun _ _ _ h => h) (Or.inl ⟨by rfl, ?hy⟩) hHeld ?_
 case hy => (intro w hSw; (try dsimp only at hSw); go_simp; try with_reducible rfl)
 try simp only [Act.put, lA, lB, lC, lD, lE, lF]
 refine wpAnyH_take (i := 6) (oi := _) (v := ?v6) rfl (by kernel_rfl) (by kernel_rfl) (by kernel_rfl) (fun _ _ _ h => h) (Or.inl ⟨by rfl, ?hy⟩) hHeld ?_
 case hy => (intro w hSw; (try dsimp only at hSw); go_simp; try with_reducible rfl)
 try simp only [Act.put, lA, lB, lC, lD, lE, lF]
 refine wpAnyH_take (i := 7) (oi := _) (v := ?v7) rfl (by kernel_rfl) (by kernel_rfl) (by kernel_rfl) (fun _ _ _ h => h) (Or.inl ⟨by rfl, ?hy⟩) hHeld ?_
 case hy => (intro w hSw; (try dsimp only at hSw); go_simp; try with_reducible rfl)
 try simp only [Act.put, lA, lB, lC, lD, lE, lF]
 refine wpAnyH_ready (rs := [8, 12]) (by kernel_rfl) (by simp) ?_
 refine AllReadyH.cons (o := _) rfl (fun K hK => ?_) (AllReadyH.cons (o := _) rfl (fun K hK => ?_) AllReadyH.nil)
 ·skip
  (try simp only [lA, lB, lC])
  go_simp
  refine (HR.out _ (HXW.out.trans (Ext.drew (Ext.refl W)))).mono ?_
  rintro e w2 ⟨pv, rv, rfl, hso⟩
  have hrow := hso.row
  rw [HZL.out] at hrow
  obtain ⟨ra2, rc2, rfl⟩ := owns_slice hrow
  obtain ⟨pa, rfl⟩ : ∃ pa, pv = .pointer pa := by
   rcases hso.next with ⟨_, e⟩ | ⟨_, _, _, _, e, _⟩ <;> exact ⟨_, e⟩
  have HSO : Hid (RefSo G A W.drew w2 (.pointer pa) (.slice ra2 zl rc2)) := hso
  have HX2 : Hid (Ext W w2) := (Ext.drew (Ext.refl W)).trans hso.ext
  have HRW : Hid (RdRow w2 ra2 zl (A.zs.map (Value.int .u64))) := rd_owns hrow
  clear hso hrow
  refine hK.out _ _ ?hc2 (fun hHeld => ?_)
  case hc2 => exact SF.out _ HX2.out
  clear hK K
  try simp only [Act.put, lA, lB, lC, lD, lE, lF]
  refine wpAnyH_take (i := 9) (oi := _) (v := ?v9) rfl (by kernel_rfl) (by kernel_rfl) (by kernel_rfl) (fun _ _ _ h => h) (Or.inl ⟨by rfl, ?hy⟩) hHeld ?_
  case hy => (intro w hSw; (try dsimp only at hSw); go_simp; try with_reducible rfl)
  try simp only [Act.put, lA, lB, lC, lD, lE, lF]
  refine wpAnyH_take (i := 10) (oi := _) (v := ?v10) rfl (by kernel_rfl) (by kernel_rfl) (by kernel_rfl) (fun _ _ _ h => h) (Or.inl ⟨by rfl, ?hy⟩) hHeld ?_
  case hy => (intro w hSw; (try dsimp only at hSw); go_simp; try with_reducible rfl)
  try simp only [Act.put, lA, lB, lC, lD, lE, lF]
  refine wpAnyH_take (i := 11) (oi := _) (v := ?v11) rfl (by kernel_rfl) (by kernel_rfl) (by kernel_rfl) (fun _ _ _ h => h) (Or.inl ⟨by rfl, ?hy⟩) hHeld ?_
  case hy => (intro w hSw; (try dsimp only at hSw); go_simp; try with_reducible rfl)
  try simp only [Act.put, lA, lB, lC, lD, lE, lF]
  refine wpAnyH_ready (rs := [12]) (by kernel_rfl) (by simp) ?_
  refine AllReadyH.cons (o := _) rfl (fun K hK => ?_) AllReadyH.nil
  (try simp only [lA, lB, lC])
  go_simp
  have HZB : Hid ((w2.alloc (.cells #[.int .i64 0, .int .i64 0, .int .i64 0, .slice none 0 0] 33)).heap[w2.heap.size]? = some (.cells #[.int .i64 0, .int .i64 0, .int .i64 0, .slice none 0 0] 33 (0, 0))) := heap_alloc_new _ _
  have HX2a : Hid (Ext w2 (w2.alloc (.cells #[.int .i64 0, .int .i64 0, .int .i64 0, .slice none 0 0] 33))) := (Ext.refl _).alloc _
  refine hK.out _ _ ?hc3 (fun hHeld => ?_)
  case hc3 => exact SF.out _ (HX2.out.trans HX2a.out)
  clear hK K
  try simp only [Act.put, lA, lB, lC, lD, lE, lF]
  refine wpAnyH_take (i := 13) (oi := _) (v := ?v13) rfl (by kernel_rfl) (by kernel_rfl) (by kernel_rfl) (fun _ _ _ h => h) (Or.inl ⟨by rfl, ?hy⟩) hHeld ?_
  case hy => (intro w hSw; (try dsimp only at hSw); go_simp; try with_reducible rfl)
  try simp only [Act.put, lA, lB, lC, lD, lE, lF]
  try simp only [Act.put, lA, lB, lC, lD, lE, lF]
  obtain ⟨gb, hgb⟩ : ∃ gb, w2.heap.size = gb := ⟨_, rfl⟩
  simp only [hgb] at HZB ⊢
  generalize World.alloc w2 _ = w2a at HZB HX2a hHeld ⊢
  have z0 : w2a.cell? ⟨gb, 0, none⟩ = some (.int .i64 0) := cell_at HZB.out rfl
  have z1 : w2a.cell? ⟨gb, 1, none⟩ = some (.int .i64 0) := cell_at HZB.out rfl
  have z2 : w2a.cell? ⟨gb, 2, none⟩ = some (.int .i64 0) := cell_at HZB.out rfl
  have z3 : w2a.cell? ⟨gb, 3, none⟩ = some (.slice none 0 0) := cell_at HZB.out rfl
  have y0 := frozen_row HZB.out 0
  have y1 := frozen_row HZB.out 1
  have y2 := frozen_row HZB.out 2
  have y3 := frozen_row HZB.out 3
  have hzl' := lG w2a _ z0
  refine wpAnyH_ready (rs := [14]) (by kernel_rfl) (by simp) ?_
  refine AllReadyH.cons (o := _) rfl (fun K hK => ?_) AllReadyH.nil
  (try simp only [lA, lB, lC])
  go_simp
  have HGB : Hid (((((w2a.setCell ⟨gb, 0, none⟩ (.int .i64 A.c)).setCell ⟨gb, 1, none⟩ (.int .i64 A.f)).setCell ⟨gb, 2, none⟩ (.int .i64 A.n)).setCell ⟨gb, 3, none⟩ (.slice ra2 zl rc2)).heap[gb]? = some (.cells #[.int .i64 A.c, .int .i64 A.f, .int .i64 A.n, .slice ra2 zl rc2] 33 (0, 0))) := setCell_row (setCell_row (setCell_row (setCell_row HZB.out _) _) _) _
  have HT3 : Hid (Turn (fun b => b = gb) w2 ((((w2a.setCell ⟨gb, 0, none⟩ (.int .i64 A.c)).setCell ⟨gb, 1, none⟩ (.int .i64 A.f)).setCell ⟨gb, 2, none⟩ (.int .i64 A.n)).setCell ⟨gb, 3, none⟩ (.slice ra2 zl rc2))) := set4' HX2a.out _ _ _ _
  refine hK.out _ _ ?hc4 (fun hHeld => ?_)
  case hc4 =>
   have hgW : W.heap.size <= gb := by rw [<- hgb]; exact HX2.out.le
   exact SF.out _ (ext4 (HX2.out.trans HX2a.out) hgW _ _ _ _)
  clear hK K
  try simp only [Act.put, lA, lB, lC, lD, lE, lF]
  refine wpAnyH_done (by kernel_rfl) ?_ _
  have HW3 : Hid (Ext W ((((w2a.setCell ⟨gb, 0, none⟩ (.int .i64 A.c)).setCell ⟨gb, 1, none⟩ (.int .i64 A.f)).setCell ⟨gb, 2, none⟩ (.int .i64 A.n)).setCell ⟨gb, 3, none⟩ (.slice ra2 zl rc2))) := ext4 (HX2.out.trans HX2a.out) (by rw [<- hgb]; exact HX2.out.le) _ _ _ _
  have HGBn : Hid (w2.heap.size = gb) := hgb
  generalize World.setCell (World.setCell (World.setCell (World.setCell w2a _ _) _ _) _ _) _ _ = w3 at HGB HT3 HW3 hHeld ⊢
  have HRD : Hid (RdRow w3 ra2 zl (A.zs.map (Value.int .u64))) := by
   have h1 := HRW.out
   rcases h1 with h1 | ⟨g, e, h1⟩
   ·exact .inl h1
   ·refine .inr ⟨g, e, fun a u hu => HT3.out.cell (h1 a u hu) (fun e2 => ?_)⟩
    have h3 : g = gb := e2
    have h4 : g < w2.heap.size := lG w2 _ (h1 a u hu)
    have := HGBn.out
    omega
  clear z0 z1 z2 z3 y0 y1 y2 y3 hzl' hgb
  have HNX : Hid ((A.next = none /\ pa = none) \/ ∃ S' ls' q', A.next = some (S', ls') /\ pa = some ⟨q', 0, none⟩ /\ RefAt w3 (fun b => G b \/ w.heap.size <= b /\ b < w3.heap.size) q' S' ls') := by
   have hWl := HXW.out.le
   have hW.drew : w.heap.size <= W.drew.heap.size := Nat.le_trans hWl (Ext.drew (Ext.refl W)).le
   rcases HSO.out.next with ⟨h1, h2⟩ | ⟨S', ls'', q', h1, h2, h3⟩
   ·exact .inl ⟨h1, by injection h2⟩
   ·refine .inr ⟨S', ls'', q', h1, by injection h2, (h3.turn HT3.out (fun b hb e => ?_)).mono (fun b hb => ?_)⟩
    ·have hgb' := HGBn.out
     have hbl : b < w2.heap.size := by
      rcases hb with hb | hb
      ·have h1 := H.out.ltG b hb
       have h2 := (HXW.out.trans HX2.out).le
       omega
      ·exact hb.2
     omega
    ·rcases hb with hb | hb
     ·exact .inl hb
     ·exact .inr ⟨by omega, Nat.lt_of_lt_of_le hb.2 HT3.out.size⟩
  have HX3 : Hid (Ext w w3) := HXW.out.trans HW3.out
  have p0 : w3.cell? ⟨w.heap.size + 1, 0, none⟩ = some (.int .i64 A.c) := cell_at (HW3.out.block HRP.out) rfl
  have p1 : w3.cell? ⟨w.heap.size + 1, 1, none⟩ = some (.int .i64 A.f) := cell_at (HW3.out.block HRP.out) rfl
  have p2 : w3.cell? ⟨w.heap.size + 1, 2, none⟩ = some (.int .i64 A.n) := cell_at (HW3.out.block HRP.out) rfl
  have p3 : w3.cell? ⟨w.heap.size + 1, 3, none⟩ = some (.slice ra zl rc) := cell_at (HW3.out.block HRP.out) rfl
  have b0 : w3.cell? ⟨gb, 0, none⟩ = some (.int .i64 A.c) := cell_at HGB.out rfl
  have b1 : w3.cell? ⟨gb, 1, none⟩ = some (.int .i64 A.f) := cell_at HGB.out rfl
  have b2 : w3.cell? ⟨gb, 2, none⟩ = some (.int .i64 A.n) := cell_at HGB.out rfl
  have b3 : w3.cell? ⟨gb, 3, none⟩ = some (.slice ra2 zl rc2) := cell_at HGB.out rfl
  have c13 := HW3.out.cell c1W
  have hPl3 := lG w3 _ c13
  have hpl3 := lG w3 _ p0
  have hbl3 := lG w3 _ b0
  clear hHeld
  go_wp2_with fail
  refine (HSR.out _ ra2 rc2 HX3.out HRD.out).mono ?_
  rintro e w4 ⟨rfl, hx4⟩
  have HX4 : Hid (Ext w w4) := HX3.out.trans hx4
  have HX34 : Hid (Ext w3 w4) := hx4
  have c14 := hx4.cell c13
  have hle4 := HX4.out.le
  clear hx4 b0 b1 b2 b3 p0 p1 p2 p3
  go_wp2_with (at_builtin; refine wpList_append_lies _ rfl _ _ 101 rfl w.heap.size 3 i0 _ 1 8 Tryz.underlying101 hi hz0 hz1 hz2 rfl (by decide) _ 0 [] rfl (World.ownsRow_nil _ _ _ _) ⟨_, 0, none⟩ 1 1 [.int .i64 0] rfl rfl (World.news_of_block (at_new (by simp))) (by simp [Value.oneCell']) (by decide) (by simp [maxLen]) (by omega) (by simp; omega) _ rfl ?_)
  intro ga capa w5 hown5 hgrow5 hat5 hlt5
  have HO5 : Hid (w5.ownsRow w.heap.size 3 1 (.slice (some ⟨ga, 0, none⟩) 1 capa) 1 [.int .i64 0] /\ Ext w4 w5) := ⟨by simpa using hown5, Ext.grown (Ext.alloc (Ext.refl _) _) hgrow5 (by simp [lH])⟩
  have c15 := HO5.out.2.cell c14
  have hle5 := HO5.out.2.le
  clear hown5 hgrow5 hat5 hlt5
  go_wp2_with (at_builtin; refine wpList_append_lies _ rfl _ _ 85 rfl w.heap.size 95 j0 _ 1 8 Tryz.underlying85 hj0 hy0 hy1 hy2 rfl (by decide) _ 0 [] rfl (World.ownsRow_nil _ _ _ _) ⟨_, 0, none⟩ 1 1 [.pointer pa] rfl rfl (World.news_of_block (at_new (by simp))) (by simp [Value.oneCell']) (by decide) (by simp [maxLen]) (by omega) (by simp; omega) _ rfl ?_)
  intro gN capN w6 hown6 hgrow6 hat6 hlt6
  have HO6 : Hid (w6.ownsRow w.heap.size 95 1 (.slice (some ⟨gN, 0, none⟩) 1 capN) 1 [.pointer pa] /\ Ext w5 w6) := ⟨by simpa using hown6, Ext.grown (Ext.alloc (Ext.refl _) _) hgrow6 (by simp [lH])⟩
  have c16 := HO6.out.2.cell c15
  have hPl6 := lG w6 _ c16
  have HX6 : Hid (Ext w w6) := HX4.out.trans (HO5.out.2.trans HO6.out.2)
  have HX36 : Hid (Ext w3 w6) := HX34.out.trans (HO5.out.2.trans HO6.out.2)
  clear hown6 hgrow6 hat6 hlt6 c13 c14 c15
  go_wp2_with fail
  rw [rounds_succ]
  go_wp2_with fail
  have hsz6 := HX6.out.le
  have HG6 : Hid (GameOf w6 P B (fun b => G b \/ w.heap.size <= b /\ b < w6.heap.size) v q S ls ops0 c) := (H.out.ext HX6.out).more (fun b hb => .inl hb) (fun b hb => hb.elim (fun h => Nat.lt_of_lt_of_le (H.out.ltG b h) hsz6) (fun h => h.2)) (fun b hb hor => hor.elim (H.out.apart b hb) (fun h => by have := H.out.lt hb; omega))
  have hST6 : GStep (fun b => w.heap.size <= b) w w6 P v v G (fun b => G b \/ w.heap.size <= b /\ b < w6.heap.size) := ⟨Turn.of_ext HX6.out, fun b hb => .inl hb, fun b hb => hb.imp id (fun h => h.1), fun b hb => .inl hb⟩
  have HS6 : Hid (GStep (fun b => w.heap.size <= b) w w6 P v v G (fun b => G b \/ w.heap.size <= b /\ b < w6.heap.size)) := hST6
  clear hST6
  refine (narrow_c HG6.out hc ga capa (HO6.out.2.cell (owns_cell HO5.out.1 rfl)) ?hnt).mono ?_
  case hnt =>
   obtain ⟨cur, hcu⟩ := owns_block HO5.out.1 (g := ga) rfl
   exact ⟨cur, HO6.out.2.block hcu⟩
  rintro e w7 ⟨rfl, v7, G7, hg7, hs7⟩
  have HG7 : Hid (GameOf w7 P B G7 v7 q S ls ops0 c) := hg7
  have HS7 : Hid (GStep (fun b => w6.heap.size <= b) w6 w7 P v v7 (fun b => G b \/ w.heap.size <= b /\ b < w6.heap.size) G7) := hs7
  have hKeep : ∀ b, (G b \/ w.heap.size <= b /\ b < w6.heap.size) -> ¬ (GOwn P v b \/ w6.heap.size <= b) := fun b hb hor => by
   rcases hor with ho | ho
   ·exact HG6.out.apart b ho hb
   ·rcases hb with hb | hb
    ·have := H.out.ltG b hb; omega
    ·omega
  have HKeep : Hid _ := hKeep
  have hgN := World.ownsRow.lt HO6.out.1 gN rfl
  have x0 : w7.cell? ⟨gN, 0, none⟩ = some (.pointer pa) := hs7.turn.cell (owns_cell HO6.out.1 rfl) (hKeep gN (.inr ⟨hgN.1, hgN.2⟩))
  have hWl2 : w.heap.size + 1 < W.heap.size := by have := HRP.out; exact (Array.getElem?_eq_some_iff.1 this).1
  have hW6 : W.heap.size <= w6.heap.size := (HW3.out.trans HX36.out).le
  have x1 : w7.cell? ⟨w.heap.size + 1, 0, none⟩ = some (.int .i64 A.c) := hs7.turn.cell (cell_at ((HW3.out.trans HX36.out).block HRP.out) rfl) (hKeep _ (.inr ⟨by simp, by show w.heap.size + 1 < w6.heap.size; omega⟩))
  have hPl7 : P < w7.heap.size := (Array.getElem?_eq_some_iff.1 hg7.blk).1
  have hgN7 := lG w7 _ x0
  have hx17 := lG w7 _ x1
  have hs67 := hs7.turn.size
  have HST7 : Hid (StoreOk w7 B F R ls' ops /\ Far F G7 P v7) := by
   have h1 := HST.out.1.step HS6.out HST.out.2.1 (fun b hb hl => by have := HST.out.1.lt b hb; omega)
   exact h1.1.step HS7.out h1.2 (fun b hb hl => by have := HST.out.1.lt b hb; omega)
  clear hg7 hs7 hKeep c16 c1W hlcW
  rcases HNX.out with ⟨hnx, rfl⟩ | ⟨S', ls2, q', hnx, rfl, href⟩
  ·have hnew0 : ops = ops0 := by rw [HST.out.2.2.2.1, HST.out.2.2.2.2.1 hnx, List.append_nil]
   have HStl : Hid (∀ w', w7 = w' -> _) := fun w' e => by subst e; exact still_c (R := R) (ls' := ls') (F := F) HG7.out hc (by rw [<- hnew0]; exact HST7.out.1) (by rw [<- hnew0]; exact HST.out.2.2.1)
   have HN0 : Hid (A.next = none /\ ops = ops0) := ⟨hnx, hnew0⟩
   clear hnx hnew0
   go_wp2_with fail
   refine (HStl.out _ rfl).mono ?_
   rintro e w8 ⟨rfl, v8, G8, hg8, hs8, _, _⟩
   have HF : Hid _ := And.intro hg8 hs8
   clear hg8 hs8
   go_wp2
   go_ret
   refine ⟨rfl, v8, G8, q, ?_, (HS6.out.trans HS7.out (fun b hb => by omega)).trans HF.out.2 (fun b hb => by omega)⟩
   rw [HN0.out.1, HN0.out.2]
   exact HF.out.1.count (by omega)
  ·obtain ⟨rfl, hne, hc0⟩ := HST.out.2.2.2.2.2 S' ls2 hnx
   have HN1 : Hid (A.next = some (S', ls2)) := hnx
   have hone : OneIs w7 G7 (.slice (some ⟨gN, 0, none⟩) 1 capN) q' := ⟨gN, capN, rfl, HS7.out.sub gN (.inr ⟨hgN.1, hgN.2⟩), x0⟩
   have href7 : RefAt w7 G7 q' S' ls2 := by
    have h1 : RefAt w6 (fun b => G b \/ w.heap.size <= b /\ b < w6.heap.size) q' S' ls2 := (href.turn (Sp := fun _ => False) (Turn.of_ext HX36.out) (fun _ _ => id)).mono (fun b hb => hb.imp id (fun h => ⟨h.1, Nat.lt_of_lt_of_le h.2 HX36.out.le⟩))
    exact (h1.turn HS7.out.turn HKeep.out).mono HS7.out.sub
   have HCh : Hid (∀ w', w7 = w' -> _) := fun w' e => by subst e; exact changes_c (R := R) (F := F) HG7.out hc HST7.out.1 HST.out.2.2.1 new HST.out.2.2.2.1 hne _ q' S' hone href7
   have HNu0 : Hid (∀ w', _) := fun w' => num_c A.c w'
   have HC0 : Hid (A.c = 0) := hc0
   clear hnx hne hone href7 href hc0
   go_wp2_with fail
   refine (HNu0.out _).mono ?_
   rintro e w8 ⟨rfl, rfl⟩
   rw [HC0.out]
   go_wp2_with fail
   refine (HCh.out _ rfl).mono ?_
   rintro e w8 ⟨rfl, v8, G8, hg8, hs8⟩
   have HF : Hid _ := And.intro hg8 hs8
   clear hg8 hs8
   go_wp2
   go_ret
   refine ⟨rfl, v8, G8, q', ?_, (HS6.out.trans HS7.out (fun b hb => by omega)).trans HF.out.2 (fun b hb => by omega)⟩
   rw [HN1.out]
   exact HF.out.1.count (by omega)
 ·skip
  (try simp only [lA, lB, lC])
  go_simp
  have HZ0 : Hid ((W.alloc (.cells #[.int .i64 0, .int .i64 0, .int .i64 0, .slice none 0 0] 33)).drew.heap[W.heap.size]? = some (.cells #[.int .i64 0, .int .i64 0, .int .i64 0, .slice none 0 0] 33 (0, 0))) := at_drew (heap_alloc_new _ _)
  have HXa : Hid (Ext W (W.alloc (.cells #[.int .i64 0, .int .i64 0, .int .i64 0, .slice none 0 0] 33)).drew) := Ext.drew ((Ext.refl _).alloc _)
  obtain ⟨gb, hgb⟩ : ∃ gb, W.heap.size = gb := ⟨_, rfl⟩
  have HGBn : Hid (W.heap.size = gb) := hgb
  simp only [hgb] at HZ0 ⊢
  refine hK.out _ _ ?hd1 (fun hHeld => ?_)
  case hd1 => exact SF.out _ HXa.out
  clear hK K
  try simp only [Act.put, lA, lB, lC, lD, lE, lF]
  generalize World.drew (World.alloc W _) = Wa at HZ0 HXa hHeld ⊢
  refine wpAnyH_ready (rs := [8]) (by kernel_rfl) (by simp) ?_
  refine AllReadyH.cons (o := _) rfl (fun K hK => ?_) AllReadyH.nil
  (try simp only [lA, lB, lC])
  go_simp
  refine (HR.out _ (HXW.out.trans HXa.out)).mono ?_
  rintro e w2 ⟨pv, rv, rfl, hso⟩
  have hrow := hso.row
  rw [HZL.out] at hrow
  obtain ⟨ra2, rc2, rfl⟩ := owns_slice hrow
  obtain ⟨pa, rfl⟩ : ∃ pa, pv = .pointer pa := by
   rcases hso.next with ⟨_, e⟩ | ⟨_, _, _, _, e, _⟩ <;> exact ⟨_, e⟩
  have HSO : Hid (RefSo G A Wa w2 (.pointer pa) (.slice ra2 zl rc2)) := hso
  have HX2 : Hid (Ext W w2) := HXa.out.trans hso.ext
  have HRW : Hid (RdRow w2 ra2 zl (A.zs.map (Value.int .u64))) := rd_owns hrow
  clear hso hrow
  refine hK.out _ _ ?hc2 (fun hHeld => ?_)
  case hc2 => exact SF.out _ HX2.out
  clear hK K
  try simp only [Act.put, lA, lB, lC, lD, lE, lF]
  refine wpAnyH_take (i := 9) (oi := _) (v := ?w9) rfl (by kernel_rfl) (by kernel_rfl) (by kernel_rfl) (fun _ _ _ h => h) (Or.inl ⟨by rfl, ?hy⟩) hHeld ?_
  case hy => (intro w hSw; (try dsimp only at hSw); go_simp; try with_reducible rfl)
  try simp only [Act.put, lA, lB, lC, lD, lE, lF]
  refine wpAnyH_take (i := 10) (oi := _) (v := ?w10) rfl (by kernel_rfl) (by kernel_rfl) (by kernel_rfl) (fun _ _ _ h => h) (Or.inl ⟨by rfl, ?hy⟩) hHeld ?_
  case hy => (intro w hSw; (try dsimp only at hSw); go_simp; try with_reducible rfl)
  try simp only [Act.put, lA, lB, lC, lD, lE, lF]
  refine wpAnyH_take (i := 11) (oi := _) (v := ?w11) rfl (by kernel_rfl) (by kernel_rfl) (by kernel_rfl) (fun _ _ _ h => h) (Or.inl ⟨by rfl, ?hy⟩) hHeld ?_
  case hy => (intro w hSw; (try dsimp only at hSw); go_simp; try with_reducible rfl)
  try simp only [Act.put, lA, lB, lC, lD, lE, lF]
  refine wpAnyH_take (i := 13) (oi := _) (v := ?w13) rfl (by kernel_rfl) (by kernel_rfl) (by kernel_rfl) (fun _ _ _ h => h) (Or.inl ⟨by rfl, ?hy⟩) hHeld ?_
  case hy => (intro w hSw; (try dsimp only at hSw); go_simp; try with_reducible rfl)
  try simp only [Act.put, lA, lB, lC, lD, lE, lF]
  have HZB : Hid (w2.heap[gb]? = some (.cells #[.int .i64 0, .int .i64 0, .int .i64 0, .slice none 0 0] 33 (0, 0))) := HSO.out.ext.block HZ0.out
  have z0 : w2.cell? ⟨gb, 0, none⟩ = some (.int .i64 0) := cell_at HZB.out rfl
  have z1 : w2.cell? ⟨gb, 1, none⟩ = some (.int .i64 0) := cell_at HZB.out rfl
  have z2 : w2.cell? ⟨gb, 2, none⟩ = some (.int .i64 0) := cell_at HZB.out rfl
  have z3 : w2.cell? ⟨gb, 3, none⟩ = some (.slice none 0 0) := cell_at HZB.out rfl
  have y0 := frozen_row HZB.out 0
  have y1 := frozen_row HZB.out 1
  have y2 := frozen_row HZB.out 2
  have y3 := frozen_row HZB.out 3
  have hzl' := lG w2 _ z0
  refine wpAnyH_ready (rs := [14]) (by kernel_rfl) (by simp) ?_
  refine AllReadyH.cons (o := _) rfl (fun K hK => ?_) AllReadyH.nil
  (try simp only [lA, lB, lC])
  go_simp
  have HGB : Hid (((((w2.setCell ⟨gb, 0, none⟩ (.int .i64 A.c)).setCell ⟨gb, 1, none⟩ (.int .i64 A.f)).setCell ⟨gb, 2, none⟩ (.int .i64 A.n)).setCell ⟨gb, 3, none⟩ (.slice ra2 zl rc2)).heap[gb]? = some (.cells #[.int .i64 A.c, .int .i64 A.f, .int .i64 A.n, .slice ra2 zl rc2] 33 (0, 0))) := setCell_row (setCell_row (setCell_row (setCell_row HZB.out _) _) _) _
  have HT3 : Hid (Turn (fun b => b = gb) w2 ((((w2.setCell ⟨gb, 0, none⟩ (.int .i64 A.c)).setCell ⟨gb, 1, none⟩ (.int .i64 A.f)).setCell ⟨gb, 2, none⟩ (.int .i64 A.n)).setCell ⟨gb, 3, none⟩ (.slice ra2 zl rc2))) := set4' (Ext.refl _) _ _ _ _
  have HW3 : Hid (Ext W ((((w2.setCell ⟨gb, 0, none⟩ (.int .i64 A.c)).setCell ⟨gb, 1, none⟩ (.int .i64 A.f)).setCell ⟨gb, 2, none⟩ (.int .i64 A.n)).setCell ⟨gb, 3, none⟩ (.slice ra2 zl rc2))) := ext4 HX2.out (by rw [hgb]; exact Nat.le_refl _) _ _ _ _
  refine hK.out _ _ ?hd4 (fun hHeld => ?_)
  case hd4 => exact SF.out _ HW3.out
  clear hK K
  try simp only [Act.put, lA, lB, lC, lD, lE, lF]
  refine wpAnyH_done (by kernel_rfl) ?_ _
  generalize World.setCell (World.setCell (World.setCell (World.setCell w2 _ _) _ _) _ _) _ _ = w3 at HGB HT3 HW3 hHeld ⊢
  have hgbW : gb < Wa.heap.size := (Array.getElem?_eq_some_iff.1 HZ0.out).1
  have HRD : Hid (RdRow w3 ra2 zl (A.zs.map (Value.int .u64))) := by
   have hrow := HSO.out.row
   rw [HZL.out] at hrow
   exact rd_owns (HT3.out.owns hrow (fun b hb e => by
    have := (World.ownsRow.lt hrow b hb).1
    omega))
  clear z0 z1 z2 z3 y0 y1 y2 y3 hzl' hgb
  have HGBW : Hid (gb < Wa.heap.size) := hgbW
  clear hgbW
  have HNX : Hid ((A.next = none /\ pa = none) \/ ∃ S' ls' q', A.next = some (S', ls') /\ pa = some ⟨q', 0, none⟩ /\ RefAt w3 (fun b => G b \/ w.heap.size <= b /\ b < w3.heap.size) q' S' ls') := by
   have hWl := HXW.out.le
   have hWa : w.heap.size <= Wa.heap.size := Nat.le_trans hWl HXa.out.le
   rcases HSO.out.next with ⟨h1, h2⟩ | ⟨S', ls'', q', h1, h2, h3⟩
   ·exact .inl ⟨h1, by injection h2⟩
   ·refine .inr ⟨S', ls'', q', h1, by injection h2, (h3.turn HT3.out (fun b hb e => ?_)).mono (fun b hb => ?_)⟩
    ·have hgb' := HGBn.out
     have hgbl := HGBW.out
     rcases hb with hb | hb
     ·have h1 := H.out.ltG b hb
      have h2 := HXW.out.le
      omega
     ·have := hb.1
      omega
    ·rcases hb with hb | hb
     ·exact .inl hb
     ·exact .inr ⟨by omega, Nat.lt_of_lt_of_le hb.2 HT3.out.size⟩
  have HX3 : Hid (Ext w w3) := HXW.out.trans HW3.out
  have p0 : w3.cell? ⟨w.heap.size + 1, 0, none⟩ = some (.int .i64 A.c) := cell_at (HW3.out.block HRP.out) rfl
  have p1 : w3.cell? ⟨w.heap.size + 1, 1, none⟩ = some (.int .i64 A.f) := cell_at (HW3.out.block HRP.out) rfl
  have p2 : w3.cell? ⟨w.heap.size + 1, 2, none⟩ = some (.int .i64 A.n) := cell_at (HW3.out.block HRP.out) rfl
  have p3 : w3.cell? ⟨w.heap.size + 1, 3, none⟩ = some (.slice ra zl rc) := cell_at (HW3.out.block HRP.out) rfl
  have b0 : w3.cell? ⟨gb, 0, none⟩ = some (.int .i64 A.c) := cell_at HGB.out rfl
  have b1 : w3.cell? ⟨gb, 1, none⟩ = some (.int .i64 A.f) := cell_at HGB.out rfl
  have b2 : w3.cell? ⟨gb, 2, none⟩ = some (.int .i64 A.n) := cell_at HGB.out rfl
  have b3 : w3.cell? ⟨gb, 3, none⟩ = some (.slice ra2 zl rc2) := cell_at HGB.out rfl
  have c13 := HW3.out.cell c1W
  have hPl3 := lG w3 _ c13
  have hpl3 := lG w3 _ p0
  have hbl3 := lG w3 _ b0
  clear hHeld
  go_wp2_with fail
  refine (HSR.out _ ra2 rc2 HX3.out HRD.out).mono ?_
  rintro e w4 ⟨rfl, hx4⟩
  have HX4 : Hid (Ext w w4) := HX3.out.trans hx4
  have HX34 : Hid (Ext w3 w4) := hx4
  have c14 := hx4.cell c13
  have hle4 := HX4.out.le
  clear hx4 b0 b1 b2 b3 p0 p1 p2 p3
  go_wp2_with (at_builtin; refine wpList_append_lies _ rfl _ _ 101 rfl w.heap.size 3 i0 _ 1 8 Tryz.underlying101 hi hz0 hz1 hz2 rfl (by decide) _ 0 [] rfl (World.ownsRow_nil _ _ _ _) ⟨_, 0, none⟩ 1 1 [.int .i64 0] rfl rfl (World.news_of_block (at_new (by simp))) (by simp [Value.oneCell']) (by decide) (by simp [maxLen]) (by omega) (by simp; omega) _ rfl ?_)
  intro ga capa w5 hown5 hgrow5 hat5 hlt5
  have HO5 : Hid (w5.ownsRow w.heap.size 3 1 (.slice (some ⟨ga, 0, none⟩) 1 capa) 1 [.int .i64 0] /\ Ext w4 w5) := ⟨by simpa using hown5, Ext.grown (Ext.alloc (Ext.refl _) _) hgrow5 (by simp [lH])⟩
  have c15 := HO5.out.2.cell c14
  have hle5 := HO5.out.2.le
  clear hown5 hgrow5 hat5 hlt5
  go_wp2_with (at_builtin; refine wpList_append_lies _ rfl _ _ 85 rfl w.heap.size 95 j0 _ 1 8 Tryz.underlying85 hj0 hy0 hy1 hy2 rfl (by decide) _ 0 [] rfl (World.ownsRow_nil _ _ _ _) ⟨_, 0, none⟩ 1 1 [.pointer pa] rfl rfl (World.news_of_block (at_new (by simp))) (by simp [Value.oneCell']) (by decide) (by simp [maxLen]) (by omega) (by simp; omega) _ rfl ?_)
  intro gN capN w6 hown6 hgrow6 hat6 hlt6
  have HO6 : Hid (w6.ownsRow w.heap.size 95 1 (.slice (some ⟨gN, 0, none⟩) 1 capN) 1 [.pointer pa] /\ Ext w5 w6) := ⟨by simpa using hown6, Ext.grown (Ext.alloc (Ext.refl _) _) hgrow6 (by simp [lH])⟩
  have c16 := HO6.out.2.cell c15
  have hPl6 := lG w6 _ c16
  have HX6 : Hid (Ext w w6) := HX4.out.trans (HO5.out.2.trans HO6.out.2)
  have HX36 : Hid (Ext w3 w6) := HX34.out.trans (HO5.out.2.trans HO6.out.2)
  clear hown6 hgrow6 hat6 hlt6 c13 c14 c15
  go_wp2_with fail
  rw [rounds_succ]
  go_wp2_with fail
  have hsz6 := HX6.out.le
  have HG6 : Hid (GameOf w6 P B (fun b => G b \/ w.heap.size <= b /\ b < w6.heap.size) v q S ls ops0 c) := (H.out.ext HX6.out).more (fun b hb => .inl hb) (fun b hb => hb.elim (fun h => Nat.lt_of_lt_of_le (H.out.ltG b h) hsz6) (fun h => h.2)) (fun b hb hor => hor.elim (H.out.apart b hb) (fun h => by have := H.out.lt hb; omega))
  have hST6 : GStep (fun b => w.heap.size <= b) w w6 P v v G (fun b => G b \/ w.heap.size <= b /\ b < w6.heap.size) := ⟨Turn.of_ext HX6.out, fun b hb => .inl hb, fun b hb => hb.imp id (fun h => h.1), fun b hb => .inl hb⟩
  have HS6 : Hid (GStep (fun b => w.heap.size <= b) w w6 P v v G (fun b => G b \/ w.heap.size <= b /\ b < w6.heap.size)) := hST6
  clear hST6
  refine (narrow_c HG6.out hc ga capa (HO6.out.2.cell (owns_cell HO5.out.1 rfl)) ?hnt).mono ?_
  case hnt =>
   obtain ⟨cur, hcu⟩ := owns_block HO5.out.1 (g := ga) rfl
   exact ⟨cur, HO6.out.2.block hcu⟩
  rintro e w7 ⟨rfl, v7, G7, hg7, hs7⟩
  have HG7 : Hid (GameOf w7 P B G7 v7 q S ls ops0 c) := hg7
  have HS7 : Hid (GStep (fun b => w6.heap.size <= b) w6 w7 P v v7 (fun b => G b \/ w.heap.size <= b /\ b < w6.heap.size) G7) := hs7
  have hKeep : ∀ b, (G b \/ w.heap.size <= b /\ b < w6.heap.size) -> ¬ (GOwn P v b \/ w6.heap.size <= b) := fun b hb hor => by
   rcases hor with ho | ho
   ·exact HG6.out.apart b ho hb
   ·rcases hb with hb | hb
    ·have := H.out.ltG b hb; omega
    ·omega
  have HKeep : Hid _ := hKeep
  have hgN := World.ownsRow.lt HO6.out.1 gN rfl
  have x0 : w7.cell? ⟨gN, 0, none⟩ = some (.pointer pa) := hs7.turn.cell (owns_cell HO6.out.1 rfl) (hKeep gN (.inr ⟨hgN.1, hgN.2⟩))
  have hWl2 : w.heap.size + 1 < W.heap.size := by have := HRP.out; exact (Array.getElem?_eq_some_iff.1 this).1
  have hW6 : W.heap.size <= w6.heap.size := (HW3.out.trans HX36.out).le
  have x1 : w7.cell? ⟨w.heap.size + 1, 0, none⟩ = some (.int .i64 A.c) := hs7.turn.cell (cell_at ((HW3.out.trans HX36.out).block HRP.out) rfl) (hKeep _ (.inr ⟨by simp, by show w.heap.size + 1 < w6.heap.size; omega⟩))
  have hPl7 : P < w7.heap.size := (Array.getElem?_eq_some_iff.1 hg7.blk).1
  have hgN7 := lG w7 _ x0
  have hx17 := lG w7 _ x1
  have hs67 := hs7.turn.size
  have HST7 : Hid (StoreOk w7 B F R ls' ops /\ Far F G7 P v7) := by
   have h1 := HST.out.1.step HS6.out HST.out.2.1 (fun b hb hl => by have := HST.out.1.lt b hb; omega)
   exact h1.1.step HS7.out h1.2 (fun b hb hl => by have := HST.out.1.lt b hb; omega)
  clear hg7 hs7 hKeep c16 c1W hlcW
  rcases HNX.out with ⟨hnx, rfl⟩ | ⟨S', ls2, q', hnx, rfl, href⟩
  ·have hnew0 : ops = ops0 := by rw [HST.out.2.2.2.1, HST.out.2.2.2.2.1 hnx, List.append_nil]
   have HStl : Hid (∀ w', w7 = w' -> _) := fun w' e => by subst e; exact still_c (R := R) (ls' := ls') (F := F) HG7.out hc (by rw [<- hnew0]; exact HST7.out.1) (by rw [<- hnew0]; exact HST.out.2.2.1)
   have HN0 : Hid (A.next = none /\ ops = ops0) := ⟨hnx, hnew0⟩
   clear hnx hnew0
   go_wp2_with fail
   refine (HStl.out _ rfl).mono ?_
   rintro e w8 ⟨rfl, v8, G8, hg8, hs8, _, _⟩
   have HF : Hid _ := And.intro hg8 hs8
   clear hg8 hs8
   go_wp2
   go_ret
   refine ⟨rfl, v8, G8, q, ?_, (HS6.out.trans HS7.out (fun b hb => by omega)).trans HF.out.2 (fun b hb => by omega)⟩
   rw [HN0.out.1, HN0.out.2]
   exact HF.out.1.count (by omega)
  ·obtain ⟨rfl, hne, hc0⟩ := HST.out.2.2.2.2.2 S' ls2 hnx
   have HN1 : Hid (A.next = some (S', ls2)) := hnx
   have hone : OneIs w7 G7 (.slice (some ⟨gN, 0, none⟩) 1 capN) q' := ⟨gN, capN, rfl, HS7.out.sub gN (.inr ⟨hgN.1, hgN.2⟩), x0⟩
   have href7 : RefAt w7 G7 q' S' ls2 := by
    have h1 : RefAt w6 (fun b => G b \/ w.heap.size <= b /\ b < w6.heap.size) q' S' ls2 := (href.turn (Sp := fun _ => False) (Turn.of_ext HX36.out) (fun _ _ => id)).mono (fun b hb => hb.imp id (fun h => ⟨h.1, Nat.lt_of_lt_of_le h.2 HX36.out.le⟩))
    exact (h1.turn HS7.out.turn HKeep.out).mono HS7.out.sub
   have HCh : Hid (∀ w', w7 = w' -> _) := fun w' e => by subst e; exact changes_c (R := R) (F := F) HG7.out hc HST7.out.1 HST.out.2.2.1 new HST.out.2.2.2.1 hne _ q' S' hone href7
   have HNu0 : Hid (∀ w', _) := fun w' => num_c A.c w'
   have HC0 : Hid (A.c = 0) := hc0
   clear hnx hne hone href7 href hc0
   go_wp2_with fail
   refine (HNu0.out _).mono ?_
   rintro e w8 ⟨rfl, rfl⟩
   rw [HC0.out]
   go_wp2_with fail
   refine (HCh.out _ rfl).mono ?_
   rintro e w8 ⟨rfl, v8, G8, hg8, hs8⟩
   have HF : Hid _ := And.intro hg8 hs8
   clear hg8 hs8
   go_wp2
   go_ret
   refine ⟨rfl, v8, G8, q', ?_, (HS6.out.trans HS7.out (fun b hb => by omega)).trans HF.out.2 (fun b hb => by omega)⟩
   rw [HN1.out]
   exact HF.out.1.count (by omega)
end
end
end Go.Proofs.YtmnjhhachdlmkaaGreat
