import Derived.Test.YtmnjhhachdlmkaaGreatK24
namespace Go.Proofs.YtmnjhhachdlmkaaGreat
open List renaming getElem_toArray -> lA, getElem_cons_succ -> lB, getElem_cons_zero -> lC, setIfInBounds_toArray -> lD, set_cons_zero -> lE, set_cons_succ -> lF
open World renaming block_lt_of_cell? -> lG
open Value renaming ownBlock -> lH
-- JAs
section
set_option maxRecDepth 100000
set_option maxHeartbeats 6400000
open Go.RowKit Go.Maps
/-- The dealer's answer, as it lies. -/
structure AskSo (A : Ans) (w w' : World) (B : Nat) (F : Nat -> Prop) (R : List StkR) (ls : List LsV) (ops : List OpV) (rv : Value) (R' : List StkR) (ls' : List LsV) (F' : Nat -> Prop) (new : List OpV) : Prop where
 row : w'.ownsRow w.heap.size 146 1 rv A.zs.length (A.zs.map (Value.int .u64))
 store : StoreOk w' B F' R' ls' (ops ++ new)
 turn : Turn F w w'
 grows : ∀ b, F' b -> F b \/ w.heap.size <= b
 free : ∀ b, rv.ownBlock = some b -> ¬ F' b
 next : (A.next = none /\ new = [] /\ R' = R /\ ls' = ls) \/ (A.next = some (R'.map StkR.abs, ls') /\ new ≠ [] /\ new.length <= 4 /\ A.c = 0)
section
variable {w : World} {P B q c : Nat} {G F : Nat -> Prop} {v : GV} {S : List Stk} {ls : List LsV} {ops0 : List OpV}
theorem asks_c {R : List StkR} (A : Ans) (h : GameOf w P B G v q (R.map StkR.abs) ls ops0 c) (hc : c <= 800000) (hst : StoreOk w B F R ls ops0) (hF : Far F G P v) (hn : ops0.length <= 900000) (hbr : A.c ≠ 10) (hzb : A.zs.length <= 100000000) (kk s i kd m k n f cc pp : Int)
  (hP : ∀ w', Ext w w' -> Calls Tryz.prog 20 #[.pointer (some ⟨B, 0, none⟩), reqV kk s i kd m k n f cc pp] w' fun e w'' => ∃ ra rl rc R' ls' F' new, e = .returned (replyV A.c A.f A.n (.slice ra rl rc)) /\ AskSo A w' w'' B F R ls ops0 (.slice ra rl rc) R' ls' F' new)
  (hR : ∀ w', RefAt w' G q (R.map StkR.abs) ls -> (∀ b, G b -> b < w'.heap.size) -> Calls Tryz.prog 149 #[.pointer (some ⟨q, 0, none⟩), reqV kk s i kd m k n f cc pp] w' fun e w'' => ∃ pv v, e = .returned (.tuple #[pv, replyV A.c A.f A.n v]) /\ RefSo G A w' w'' pv v) :
  Calls Tryz.prog 70 #[.pointer (some ⟨P, 0, none⟩), reqV kk s i kd m k n f cc pp] w fun e w' => e = .returned (.bool true) /\ ∃ v' G' q' R' ls' F' new, GameOf w' P B G' v' q' (R'.map StkR.abs) ls' (ops0 ++ new) (c + 3) /\ StoreOk w' B F' R' ls' (ops0 ++ new) /\ Far F' G' P v' /\ new.length <= 4 /\ Old w w' F F' P v v' /\ ((A.next = none /\ R' = R /\ ls' = ls) \/ A.next = some (R'.map StkR.abs, ls')) := by
 have H : Hid (GameOf w P B G v q (R.map StkR.abs) ls ops0 c) := h
 have HST : Hid (StoreOk w B F R ls ops0 /\ Far F G P v /\ ops0.length <= 900000 /\ A.c ≠ 10 /\ A.zs.length <= 100000000 /\ c <= 800000) := ⟨hst, hF, hn, hbr, hzb, hc⟩
 have HP : Hid (∀ w', Ext w w' -> _) := hP
 have HR : Hid (∀ w', RefAt w' G q (R.map StkR.abs) ls -> (∀ b, G b -> b < w'.heap.size) -> _) := hR
 have c0 : w.cell? ⟨P, 0, none⟩ = some (.pointer (some ⟨B, 0, none⟩)) := cell_at h.blk rfl
 have hPl := lG w _ c0
 clear h hst hF hn hbr hzb hP hR
 unfold replyV reqV at *
 go_enter Tryz.func70, Tryz.ntmps70
 go_wp2_with fail
 have hreq : (w.alloc (.cells #[.int .i64 kk, .int .i64 s, .int .i64 i, .int .i64 kd, .int .i64 m, .int .i64 k, .int .i64 n, .int .i64 f, .int .i64 cc, .int .i64 pp] 51)).heap[w.heap.size]? = some (.cells #[.int .i64 kk, .int .i64 s, .int .i64 i, .int .i64 kd, .int .i64 m, .int .i64 k, .int .i64 n, .int .i64 f, .int .i64 cc, .int .i64 pp] 51 (0, 0)) := heap_alloc_new _ _
 have hXW : Ext w (w.alloc (.cells #[.int .i64 kk, .int .i64 s, .int .i64 i, .int .i64 kd, .int .i64 m, .int .i64 k, .int .i64 n, .int .i64 f, .int .i64 cc, .int .i64 pp] 51)) := (Ext.refl w).alloc _
 have hWs : (w.alloc (.cells #[.int .i64 kk, .int .i64 s, .int .i64 i, .int .i64 kd, .int .i64 m, .int .i64 k, .int .i64 n, .int .i64 f, .int .i64 cc, .int .i64 pp] 51)).heap.size = w.heap.size + 1 := by simp
 generalize World.alloc w _ = W at hreq hXW hWs ⊢
 have HRQ : Hid (W.heap[w.heap.size]? = some (.cells #[.int .i64 kk, .int .i64 s, .int .i64 i, .int .i64 kd, .int .i64 m, .int .i64 k, .int .i64 n, .int .i64 f, .int .i64 cc, .int .i64 pp] 51 (0, 0))) := hreq
 have HXW : Hid (Ext w W) := hXW
 have HWS : Hid (W.heap.size = w.heap.size + 1) := hWs
 have c0W := hXW.cell c0
 have SF : Hid (∀ w', Turn (fun b => F b) W w' -> (fun w' => w'.cell? ⟨P, 0, none⟩ = some (.pointer (some ⟨B, 0, none⟩)) /\ w'.cell? ⟨w.heap.size, 0, none⟩ = some (.int .i64 kk) /\ w'.cell? ⟨w.heap.size, 1, none⟩ = some (.int .i64 s) /\ w'.cell? ⟨w.heap.size, 2, none⟩ = some (.int .i64 i) /\ w'.cell? ⟨w.heap.size, 3, none⟩ = some (.int .i64 kd) /\ w'.cell? ⟨w.heap.size, 4, none⟩ = some (.int .i64 m) /\ w'.cell? ⟨w.heap.size, 5, none⟩ = some (.int .i64 k) /\ w'.cell? ⟨w.heap.size, 6, none⟩ = some (.int .i64 n) /\ w'.cell? ⟨w.heap.size, 7, none⟩ = some (.int .i64 f) /\ w'.cell? ⟨w.heap.size, 8, none⟩ = some (.int .i64 cc) /\ w'.cell? ⟨w.heap.size, 9, none⟩ = some (.int .i64 pp)) w') := fun w' hx => by
  have hPF : ¬ F P := fun e => (HST.out.2.1 P e).2 (.inl rfl)
  have hRF : ¬ F w.heap.size := fun e => by have := HST.out.1.lt _ e; omega
  exact ⟨hx.cell c0W hPF, cell_at (hx.ref HRQ.out hRF) rfl, cell_at (hx.ref HRQ.out hRF) rfl, cell_at (hx.ref HRQ.out hRF) rfl, cell_at (hx.ref HRQ.out hRF) rfl, cell_at (hx.ref HRQ.out hRF) rfl, cell_at (hx.ref HRQ.out hRF) rfl, cell_at (hx.ref HRQ.out hRF) rfl, cell_at (hx.ref HRQ.out hRF) rfl, cell_at (hx.ref HRQ.out hRF) rfl, cell_at (hx.ref HRQ.out hRF) rfl⟩
 have hS0 := SF.out W (Turn.refl _ _)
 clear hreq hXW hWs c0
 refine wp_region_held_drew (S := (fun w' => w'.cell? ⟨P, 0, none⟩ = some (.pointer (some ⟨B, 0, none⟩)) /\ w'.cell? ⟨w.heap.size, 0, none⟩ = some (.int .i64 kk) /\ w'.cell? ⟨w.heap.size, 1, none⟩ = some (.int .i64 s) /\ w'.cell? ⟨w.heap.size, 2, none⟩ = some (.int .i64 i) /\ w'.cell? ⟨w.heap.size, 3, none⟩ = some (.int .i64 kd) /\ w'.cell? ⟨w.heap.size, 4, none⟩ = some (.int .i64 m) /\ w'.cell? ⟨w.heap.size, 5, none⟩ = some (.int .i64 k) /\ w'.cell? ⟨w.heap.size, 6, none⟩ = some (.int .i64 n) /\ w'.cell? ⟨w.heap.size, 7, none⟩ = some (.int .i64 f) /\ w'.cell? ⟨w.heap.size, 8, none⟩ = some (.int .i64 cc) /\ w'.cell? ⟨w.heap.size, 9, none⟩ = some (.int .i64 pp))) (by kernel_rfl) hS0 (fun hHeld => ?_)
 refine wpAnyH_take (i := 0) (oi := _) (v := ?v0) rfl (by kernel_rfl) (by kernel_rfl) (by kernel_rfl) (fun _ _ _ h => h) (Or.inl ⟨by rfl, ?hy⟩) hHeld ?_
 case hy => (intro w hSw; (try dsimp only at hSw); go_simp; try with_reducible rfl)
 try simp only [Act.put, lA, lC, lD, lE, lF]
 refine wpAnyH_take (i := 1) (oi := _) (v := ?v1) rfl (by kernel_rfl) (by kernel_rfl) (by kernel_rfl) (fun _ _ _ h => h) (Or.inl ⟨by rfl, ?hy⟩) hHeld ?_
 case hy => (intro w hSw; (try dsimp only at hSw); go_simp; try with_reducible rfl)
 try simp only [Act.put, lA, lB, lC, lD, lE, lF]
 refine wpAnyH_take (i := 2) (oi := _) (v := ?v2) rfl (by kernel_rfl) (by kernel_rfl) (by kernel_rfl) (fun _ _ _ h => h) (Or.inl ⟨by rfl, ?hy⟩) hHeld ?_
 case hy => (intro w hSw; (try dsimp only at hSw); go_simp; try with_reducible rfl)
 try simp only [Act.put, lA, lB, lC, lD, lE, lF]
 refine wpAnyH_take (i := 3) (oi := _) (v := ?v3) rfl (by kernel_rfl) (by kernel_rfl) (by kernel_rfl) (fun _ _ _ h => h) (Or.inl ⟨by rfl, ?hy⟩) hHeld ?_
 case hy => (intro w hSw; (try dsimp only at hSw); go_simp; try with_reducible rfl)
 try simp only [Act.put, lA, lB, lC, lD, lE, lF]
 refine wpAnyH_take (i := 4) (oi := _) (v := ?v4) rfl (by kernel_rfl) (by kernel_rfl) (by kernel_rfl) (fun _ _ _ h => h) (Or.inl ⟨by rfl, ?hy⟩) hHeld ?_
 case hy => (intro w hSw; (try dsimp only at hSw); go_simp; try with_reducible rfl)
 try simp only [Act.put, lA, lB, lC, lD, lE, lF]
 refine wpAnyH_ready (rs := [5, 6]) (by kernel_rfl) (by simp) ?_
 refine AllReadyH.cons (o := _) rfl (fun K hK => ?_) (AllReadyH.cons (o := _) rfl (fun K hK => ?_) AllReadyH.nil)
 ·skip
  (try simp only [lA, lB, lC])
  go_simp
  refine (HP.out _ (HXW.out.trans (Ext.drew (Ext.refl W)))).mono ?_
  rintro e w2 ⟨ra, rl, rc, R', ls', F', new, rfl, hso⟩
  have HSO : Hid (AskSo A W.drew w2 B F R ls ops0 (.slice ra rl rc) R' ls' F' new) := hso
  have HX2 : Hid (Turn (fun b => F b) W w2) := (Turn.of_ext (Ext.drew (Ext.refl W))).trans hso.turn
  clear hso
  refine hK.out _ _ ?hc2 (fun hHeld => ?_)
  case hc2 => exact SF.out _ HX2.out
  clear hK K
  try simp only [Act.put, lA, lB, lC, lD, lE, lF]
  refine wpAnyH_ready (rs := [6]) (by kernel_rfl) (by simp) ?_
  refine AllReadyH.cons (o := _) rfl (fun K hK => ?_) AllReadyH.nil
  (try simp only [lA, lB, lC])
  go_simp
  have HZB : Hid ((w2.alloc (.cells #[.int .i64 0, .int .i64 0, .int .i64 0, .slice none 0 0] 33)).heap[w2.heap.size]? = some (.cells #[.int .i64 0, .int .i64 0, .int .i64 0, .slice none 0 0] 33 (0, 0))) := heap_alloc_new _ _
  have HX2a : Hid (Ext w2 (w2.alloc (.cells #[.int .i64 0, .int .i64 0, .int .i64 0, .slice none 0 0] 33))) := (Ext.refl _).alloc _
  refine hK.out _ _ ?hc3 (fun hHeld => ?_)
  case hc3 => exact SF.out _ (HX2.out.trans (Turn.of_ext HX2a.out))
  clear hK K
  try simp only [Act.put, lA, lB, lC, lD, lE, lF]
  obtain ⟨gb, hgb⟩ : ∃ gb, w2.heap.size = gb := ⟨_, rfl⟩
  simp only [hgb] at HZB ⊢
  generalize World.alloc w2 _ = w2a at HZB HX2a hHeld ⊢
  have z0 : w2a.cell? ⟨gb, 0, none⟩ = some (.int .i64 0) := cell_at HZB.out rfl
  have z1 : w2a.cell? ⟨gb, 1, none⟩ = some (.int .i64 0) := cell_at HZB.out rfl
  have z2 : w2a.cell? ⟨gb, 2, none⟩ = some (.int .i64 0) := cell_at HZB.out rfl
  have z3 : w2a.cell? ⟨gb, 3, none⟩ = some (.slice none 0 0) := cell_at HZB.out rfl
  have y0 := frozen_row HZB.out 0
  have y1 := frozen_row HZB.out 1
  have y2 := frozen_row HZB.out 2
  have y3 := frozen_row HZB.out 3
  have hzl' := lG w2a _ z0
  refine wpAnyH_ready (rs := [7]) (by kernel_rfl) (by simp) ?_
  refine AllReadyH.cons (o := _) rfl (fun K hK => ?_) AllReadyH.nil
  (try simp only [lA, lB, lC])
  go_simp
  have HGB : Hid (((((w2a.setCell ⟨gb, 0, none⟩ (.int .i64 A.c)).setCell ⟨gb, 1, none⟩ (.int .i64 A.f)).setCell ⟨gb, 2, none⟩ (.int .i64 A.n)).setCell ⟨gb, 3, none⟩ (.slice ra rl rc)).heap[gb]? = some (.cells #[.int .i64 A.c, .int .i64 A.f, .int .i64 A.n, .slice ra rl rc] 33 (0, 0))) := setCell_row (setCell_row (setCell_row (setCell_row HZB.out _) _) _) _
  have HT3 : Hid (Turn (fun b => b = gb) w2 ((((w2a.setCell ⟨gb, 0, none⟩ (.int .i64 A.c)).setCell ⟨gb, 1, none⟩ (.int .i64 A.f)).setCell ⟨gb, 2, none⟩ (.int .i64 A.n)).setCell ⟨gb, 3, none⟩ (.slice ra rl rc))) := set4' HX2a.out _ _ _ _
  refine hK.out _ _ ?hc4 (fun hHeld => ?_)
  case hc4 => exact SF.out _ (HX2.out.trans' HT3.out (fun b hb e => by have := HX2.out.size; omega))
  clear hK K
  try simp only [Act.put, lA, lB, lC, lD, lE, lF]
  refine wpAnyH_done (by kernel_rfl) ?_ _
  have HGBn : Hid (w2.heap.size = gb) := hgb
  generalize World.setCell (World.setCell (World.setCell (World.setCell w2a _ _) _ _) _ _) _ _ = w3 at HGB HT3 hHeld ⊢
  clear z0 z1 z2 z3 y0 y1 y2 y3 hzl' hgb
  have HGF : Hid (w.heap.size + 1 <= gb /\ ¬ F' gb /\ lH (.slice ra rl rc) ≠ some gb) := by
   have h1 := HGBn.out
   have h2 := HX2.out.size
   have h3 := HWS.out
   refine ⟨by omega, fun e => ?_, fun e => ?_⟩
   ·have := HSO.out.store.lt gb e
    omega
   ·have := (World.ownsRow.lt HSO.out.row gb e).2
    omega
  have hrow2 := HSO.out.row
  obtain ⟨ra', rc', hrE⟩ := owns_slice hrow2
  injection hrE with e1 e2 e3
  subst e1 e2 e3
  have hW.drew : w.heap.size + 1 <= W.drew.heap.size := by have := HWS.out; have := ((Ext.drew (Ext.refl W))).le; omega
  have HROW3 : Hid (w3.ownsRow (w.heap.size + 1) 146 1 (.slice ra A.zs.length rc) A.zs.length (A.zs.map (Value.int .u64))) := owns_base (HT3.out.owns hrow2 (fun b hb e => HGF.out.2.2 (by rw [<- e]; exact hb))) hW.drew
  have HTF : Hid (Turn (fun b => F b) w w3) := ((Turn.of_ext HXW.out).trans HX2.out).trans' HT3.out (fun b hb e => by have := HGF.out.1; omega)
  have HST3 : Hid (StoreOk w3 B F' R' ls' (ops0 ++ new)) := HSO.out.store.turn HT3.out (fun b hb e => HGF.out.2.1 (by rw [<- e]; exact hb))
  have HG3 : Hid (GameOf w3 P B G v q (R.map StkR.abs) ls ops0 c) := H.out.turn HTF.out (fun b hb e => (HST.out.2.1 b e).1 hb) (fun b hb e => (HST.out.2.1 b e).2 hb)
  have hw3 := HTF.out.size
  have HFar : Hid (Far F' G P v) := fun b hb => by
   rcases HSO.out.grows b hb with e | e
   ·exact HST.out.2.1 b e
   ·exact ⟨fun hg => by have := H.out.ltG b hg; omega, fun ho => by have := H.out.lt ho; omega⟩
  have HRW : Hid (∀ b, lH (.slice ra A.zs.length rc) = some b -> w.heap.size + 1 <= b /\ b < w3.heap.size /\ ¬ F' b /\ ¬ GOwn P v b /\ ¬ G b) := fun b hb => by
   have h1 := World.ownsRow.lt HROW3.out b hb
   exact ⟨h1.1, h1.2, HSO.out.free b hb, fun ho => by have := H.out.lt ho; omega, fun hg => by have := H.out.ltG b hg; omega⟩
  have hnb : new.length <= 4 := by
   rcases HSO.out.next with ⟨_, h1, _⟩ | ⟨_, _, h1, _⟩
   ·rw [h1]; simp
   ·exact h1
  have HAn : Hid (∀ w', w3 = w' -> _) := fun w' e => by
   subst e
   exact answered_c (F := F') (R := R') (ls' := ls') (ops := ops0 ++ new) (new := new) A HG3.out (by have := HST.out.2.2.2.2.2; omega) HST3.out HFar.out (by rw [List.length_append]; have := HST.out.2.2.1; omega) rfl (fun hn => by
    rcases HSO.out.next with ⟨_, h1, _⟩ | ⟨h1, _⟩
    ·exact h1
    ·rw [hn] at h1; cases h1) (fun S' l hn => by
    rcases HSO.out.next with ⟨h1, _⟩ | ⟨h1, h2, _, h4⟩
    ·rw [hn] at h1; cases h1
    ·rw [hn] at h1
     injection h1 with h1
     injection h1 with _ h1
     exact ⟨h1, h2, h4⟩) HST.out.2.2.2.1 kk s i kd m k n f cc pp (fun w' hx => HR.out w' (HG3.out.ref.ext hx) (fun b hb => Nat.lt_of_lt_of_le (HG3.out.ltG b hb) hx.le)) ra A.zs.length rc rfl HST.out.2.2.2.2.1 (rd_owns HROW3.out)
  have HNB : Hid (new.length <= 4) := hnb
  have b0 : w3.cell? ⟨gb, 0, none⟩ = some (.int .i64 A.c) := cell_at HGB.out rfl
  have b1 : w3.cell? ⟨gb, 1, none⟩ = some (.int .i64 A.f) := cell_at HGB.out rfl
  have b2 : w3.cell? ⟨gb, 2, none⟩ = some (.int .i64 A.n) := cell_at HGB.out rfl
  have b3 : w3.cell? ⟨gb, 3, none⟩ = some (.slice ra A.zs.length rc) := cell_at HGB.out rfl
  obtain ⟨_, r0, r1, r2, r3, r4, r5, r6, r7, r8, r9⟩ := hHeld
  have hbl3 := lG w3 _ b0
  have hrl3 := lG w3 _ r0
  have HBL : Hid (gb < w3.heap.size) := hbl3
  clear hrow2 hW.drew hnb c0W
  go_wp2_with fail
  refine (HAn.out _ rfl).mono ?_
  rintro e w4 ⟨rfl, v4, G4, q4, hg4, hs4⟩
  have HG4 : Hid (GameOf w4 P B G4 v4 q4 (A.next.getD (R.map StkR.abs, ls)).1 (A.next.getD (R.map StkR.abs, ls)).2 (ops0 ++ new) (c + 2)) := hg4
  have HS4 : Hid (GStep (fun b => w3.heap.size <= b) w3 w4 P v v4 G G4) := hs4
  have hgbo : ¬ (GOwn P v gb \/ w3.heap.size <= gb) := fun hor => hor.elim (fun ho => by have := H.out.lt ho; have := HGF.out.1; omega) (fun hl => by have := HBL.out; omega)
  have d3 : w4.cell? ⟨gb, 3, none⟩ = some (.slice ra A.zs.length rc) := hs4.turn.cell b3 hgbo
  have HGB4 : Hid (w4.heap[gb]? = some (.cells #[.int .i64 A.c, .int .i64 A.f, .int .i64 A.n, .slice ra A.zs.length rc] 33 (0, 0))) := hs4.turn.ref HGB.out hgbo
  have HROW4 : Hid (w4.ownsRow (w.heap.size + 1) 146 1 (.slice ra A.zs.length rc) A.zs.length (A.zs.map (Value.int .u64))) := hs4.turn.owns HROW3.out (fun b hb hor => hor.elim (HRW.out b hb).2.2.2.1 (fun hl => by have := (HRW.out b hb).2.1; omega))
  have h34 := hs4.turn.size
  have HK : Hid (∀ w', Ext w4 w' -> _) := fun w' hx => by
   have hxl := hx.le
   exact gkeepWords_c (HG4.out.ext hx) (by have := HST.out.2.2.2.2.2; omega) (w.heap.size + 1) ra A.zs.length rc _ HST.out.2.2.2.2.1 (hx.owns HROW4.out) (by omega) (fun b hb hg => by
    rcases HS4.out.new b hg with e | e
    ·exact (HRW.out b hb).2.2.2.2 e
    ·have := (HRW.out b hb).2.1
     omega) (fun b => lH (.slice ra A.zs.length rc) = some b \/ w4.heap.size <= b) (fun b hb => hb.imp id (fun hl => by omega))
  have hPl4 : P < w4.heap.size := (Array.getElem?_eq_some_iff.1 hg4.blk).1
  have hgb4 := lG w4 _ d3
  clear hg4 hs4 b0 b1 b2 b3 hgbo
  generalize hzz : A.zs.length = zl at *
  clear hzz
  go_wp2_with fail
  refine wp_region_held_drew (S := (fun w' => w'.cell? ⟨gb, 3, none⟩ = some (.slice ra zl rc))) (by kernel_rfl) d3 (fun hHeld => ?_)
  refine wpAnyH_take (i := 0) (oi := _) (v := ?x0) rfl (by kernel_rfl) (by kernel_rfl) (by kernel_rfl) (fun _ _ _ h => h) (Or.inl ⟨by rfl, ?hy⟩) hHeld ?_
  case hy => (intro w hSw; (try dsimp only at hSw); go_simp; try with_reducible rfl)
  try simp only [Act.put, lA, lC, lD, lE, lF]
  refine wpAnyH_take (i := 1) (oi := _) (v := ?x1) rfl (by kernel_rfl) (by kernel_rfl) (by kernel_rfl) (fun _ _ _ h => h) (Or.inl ⟨by rfl, ?hy⟩) hHeld ?_
  case hy => (intro w hSw; (try dsimp only at hSw); go_simp; try with_reducible rfl)
  try simp only [Act.put, lA, lB, lC, lD, lE, lF]
  refine wpAnyH_take (i := 2) (oi := _) (v := ?x2) rfl (by kernel_rfl) (by kernel_rfl) (by kernel_rfl) (fun _ _ _ h => h) (Or.inl ⟨by rfl, ?hy⟩) hHeld ?_
  case hy => (intro w hSw; (try dsimp only at hSw); go_simp; try with_reducible rfl)
  try simp only [Act.put, lA, lB, lC, lD, lE, lF]
  refine wpAnyH_take (i := 3) (oi := _) (v := ?x3) rfl (by kernel_rfl) (by kernel_rfl) (by kernel_rfl) (fun _ _ _ h => h) (Or.inl ⟨by rfl, ?hy⟩) hHeld ?_
  case hy => (intro w hSw; (try dsimp only at hSw); go_simp; try with_reducible rfl)
  try simp only [Act.put, lA, lB, lC, lD, lE, lF]
  refine wpAnyH_take (i := 4) (oi := _) (v := ?x4) rfl (by kernel_rfl) (by kernel_rfl) (by kernel_rfl) (fun _ _ _ h => h) (Or.inl ⟨by rfl, ?hy⟩) hHeld ?_
  case hy => (intro w hSw; (try dsimp only at hSw); go_simp; try with_reducible rfl)
  try simp only [Act.put, lA, lB, lC, lD, lE, lF]
  try simp only [Act.put, lA, lB, lC, lD, lE, lF]
  refine wpAnyH_ready (rs := [5]) (by kernel_rfl) (by simp) ?_
  refine AllReadyH.cons (o := _) rfl (fun K hK => ?_) AllReadyH.nil
  (try simp only [lA, lB, lC])
  go_simp
  refine (HK.out _ (Ext.drew (Ext.refl _))).mono ?_
  rintro e w5 ⟨rfl, bv5, G5, hg5, hs5'⟩
  have hs5 := (GStep.of_ext (X := fun b => lH (.slice ra zl rc) = some b \/ w4.heap.size <= b) (P := P) (v := v4) (G := G4) (Ext.drew (Ext.refl w4))).trans hs5' (fun b h => h)
  have HF5 : Hid _ := And.intro hg5 hs5
  have d35 : w5.cell? ⟨gb, 3, none⟩ = some (.slice ra zl rc) := hs5.turn.cell d3 (fun hor => by
   rcases hor with ho | ho | ho
   ·exact HG4.out.not_own HGB4.out (by decide) (by decide) (by decide) (by decide) (by decide) (by decide) ho
   ·exact row_ne HGB4.out HROW4.out (by decide) ho
   ·have ho' : w4.heap.size <= gb := ho
    omega)
  clear hg5 hs5 hs5'
  refine hK.out _ _ ?hc7 (fun hHeld => ?_)
  case hc7 => exact d35
  clear hK K
  try simp only [Act.put, lA, lB, lC, lD, lE, lF]
  refine wpAnyH_done (by kernel_rfl) ?_ _
  go_wp2
  go_ret
  have hGS := (HS4.out.mono (Y := fun b => lH (.slice ra zl rc) = some b \/ w3.heap.size <= b) (fun b hb => .inr hb)).trans HF5.out.2 (fun b hb => hb.imp id (fun hl => by omega))
  have hfin := HST3.out.step hGS HFar.out (fun b hb hor => hor.elim (fun e => (HRW.out b e).2.2.1 hb) (fun hl => by have := HST3.out.lt b hb; omega))
  have hold : Old w w5 F F' P v { v4 with bW := bv5 } := by
   refine ⟨(HTF.out.mono (fun b _ hb => .inl hb)).trans' hGS.turn (fun b hb hor => ?_), fun b hb => (HSO.out.grows b hb).imp id (fun hl => ?_), fun b hb => (hGS.own b hb).imp id (fun hl => ?_)⟩
   ·rcases hor with ho | ho | ho
    ·exact .inr ho
    ·have := (HRW.out b ho).1
     omega
    ·omega
   ·have h1 : w.heap.size + 1 <= W.drew.heap.size := by have := HWS.out; have := ((Ext.drew (Ext.refl W))).le; omega
    omega
   ·rcases hl with ho | ho
    ·have := (HRW.out b ho).1
     omega
    ·omega
  rcases HSO.out.next with ⟨h1, h2, h3, h4⟩ | ⟨h1, h2, h3, h4⟩
  ·refine ⟨rfl, _, G5, q4, R', ls', F', new, ?_, hfin.1, hfin.2, HNB.out, hold, .inl ⟨h1, h3, h4⟩⟩
   have hg := HF5.out.1
   rw [h1] at hg
   rw [h3, h4]
   exact hg
  ·refine ⟨rfl, _, G5, q4, R', ls', F', new, ?_, hfin.1, hfin.2, HNB.out, hold, .inr h1⟩
   have hg := HF5.out.1
   rw [h1] at hg
   exact hg
 ·skip
  (try simp only [lA, lB, lC])
  go_simp
  have HZ0 : Hid ((W.alloc (.cells #[.int .i64 0, .int .i64 0, .int .i64 0, .slice none 0 0] 33)).drew.heap[W.heap.size]? = some (.cells #[.int .i64 0, .int .i64 0, .int .i64 0, .slice none 0 0] 33 (0, 0))) := at_drew (heap_alloc_new _ _)
  have HXa : Hid (Ext W (W.alloc (.cells #[.int .i64 0, .int .i64 0, .int .i64 0, .slice none 0 0] 33)).drew) := Ext.drew ((Ext.refl _).alloc _)
  obtain ⟨gb, hgb⟩ : ∃ gb, W.heap.size = gb := ⟨_, rfl⟩
  have HGBn : Hid (W.heap.size = gb) := hgb
  simp only [hgb] at HZ0 ⊢
  refine hK.out _ _ ?hd1 (fun hHeld => ?_)
  case hd1 => exact SF.out _ (Turn.of_ext HXa.out)
  clear hK K
  try simp only [Act.put, lA, lB, lC, lD, lE, lF]
  generalize World.drew (World.alloc W _) = Wa at HZ0 HXa hHeld ⊢
  refine wpAnyH_ready (rs := [5]) (by kernel_rfl) (by simp) ?_
  refine AllReadyH.cons (o := _) rfl (fun K hK => ?_) AllReadyH.nil
  (try simp only [lA, lB, lC])
  go_simp
  refine (HP.out _ (HXW.out.trans HXa.out)).mono ?_
  rintro e w2 ⟨ra, rl, rc, R', ls', F', new, rfl, hso⟩
  have HSO : Hid (AskSo A Wa w2 B F R ls ops0 (.slice ra rl rc) R' ls' F' new) := hso
  have HX2 : Hid (Turn (fun b => F b) W w2) := (Turn.of_ext HXa.out).trans hso.turn
  clear hso
  refine hK.out _ _ ?hc2 (fun hHeld => ?_)
  case hc2 => exact SF.out _ HX2.out
  clear hK K
  try simp only [Act.put, lA, lB, lC, lD, lE, lF]
  have hgbF : ¬ F gb := fun e => by have h1 := HST.out.1.lt gb e; have h2 := HGBn.out; have h3 := HXW.out.le; omega
  have HZB : Hid (w2.heap[gb]? = some (.cells #[.int .i64 0, .int .i64 0, .int .i64 0, .slice none 0 0] 33 (0, 0))) := HSO.out.turn.ref HZ0.out hgbF
  have z0 : w2.cell? ⟨gb, 0, none⟩ = some (.int .i64 0) := cell_at HZB.out rfl
  have z1 : w2.cell? ⟨gb, 1, none⟩ = some (.int .i64 0) := cell_at HZB.out rfl
  have z2 : w2.cell? ⟨gb, 2, none⟩ = some (.int .i64 0) := cell_at HZB.out rfl
  have z3 : w2.cell? ⟨gb, 3, none⟩ = some (.slice none 0 0) := cell_at HZB.out rfl
  have y0 := frozen_row HZB.out 0
  have y1 := frozen_row HZB.out 1
  have y2 := frozen_row HZB.out 2
  have y3 := frozen_row HZB.out 3
  have hzl' := lG w2 _ z0
  refine wpAnyH_ready (rs := [7]) (by kernel_rfl) (by simp) ?_
  refine AllReadyH.cons (o := _) rfl (fun K hK => ?_) AllReadyH.nil
  (try simp only [lA, lB, lC])
  go_simp
  have HGB : Hid (((((w2.setCell ⟨gb, 0, none⟩ (.int .i64 A.c)).setCell ⟨gb, 1, none⟩ (.int .i64 A.f)).setCell ⟨gb, 2, none⟩ (.int .i64 A.n)).setCell ⟨gb, 3, none⟩ (.slice ra rl rc)).heap[gb]? = some (.cells #[.int .i64 A.c, .int .i64 A.f, .int .i64 A.n, .slice ra rl rc] 33 (0, 0))) := setCell_row (setCell_row (setCell_row (setCell_row HZB.out _) _) _) _
  have HT3 : Hid (Turn (fun b => b = gb) w2 ((((w2.setCell ⟨gb, 0, none⟩ (.int .i64 A.c)).setCell ⟨gb, 1, none⟩ (.int .i64 A.f)).setCell ⟨gb, 2, none⟩ (.int .i64 A.n)).setCell ⟨gb, 3, none⟩ (.slice ra rl rc))) := set4' (Ext.refl _) _ _ _ _
  refine hK.out _ _ ?hd4 (fun hHeld => ?_)
  case hd4 => exact SF.out _ (HX2.out.trans' HT3.out (fun b hb e => by have := HGBn.out; omega))
  clear hK K
  try simp only [Act.put, lA, lB, lC, lD, lE, lF]
  refine wpAnyH_done (by kernel_rfl) ?_ _
  generalize World.setCell (World.setCell (World.setCell (World.setCell w2 _ _) _ _) _ _) _ _ = w3 at HGB HT3 hHeld ⊢
  have HGBW : Hid (gb < Wa.heap.size) := (Array.getElem?_eq_some_iff.1 HZ0.out).1
  have HGBF : Hid (¬ F gb) := hgbF
  clear z0 z1 z2 z3 y0 y1 y2 y3 hzl' hgb hgbF
  have HGF : Hid (w.heap.size + 1 <= gb /\ ¬ F' gb /\ lH (.slice ra rl rc) ≠ some gb) := by
   have h1 := HGBn.out
   have h3 := HWS.out
   have h4 := HGBW.out
   refine ⟨by omega, fun e => ?_, fun e => ?_⟩
   ·rcases HSO.out.grows gb e with e | e
    ·exact HGBF.out e
    ·omega
   ·have := (World.ownsRow.lt HSO.out.row gb e).1
    omega
  have hrow2 := HSO.out.row
  obtain ⟨ra', rc', hrE⟩ := owns_slice hrow2
  injection hrE with e1 e2 e3
  subst e1 e2 e3
  have hWa : w.heap.size + 1 <= Wa.heap.size := by have := HWS.out; have := (HXa.out).le; omega
  have HROW3 : Hid (w3.ownsRow (w.heap.size + 1) 146 1 (.slice ra A.zs.length rc) A.zs.length (A.zs.map (Value.int .u64))) := owns_base (HT3.out.owns hrow2 (fun b hb e => HGF.out.2.2 (by rw [<- e]; exact hb))) hWa
  have HTF : Hid (Turn (fun b => F b) w w3) := ((Turn.of_ext HXW.out).trans HX2.out).trans' HT3.out (fun b hb e => by have := HGF.out.1; omega)
  have HST3 : Hid (StoreOk w3 B F' R' ls' (ops0 ++ new)) := HSO.out.store.turn HT3.out (fun b hb e => HGF.out.2.1 (by rw [<- e]; exact hb))
  have HG3 : Hid (GameOf w3 P B G v q (R.map StkR.abs) ls ops0 c) := H.out.turn HTF.out (fun b hb e => (HST.out.2.1 b e).1 hb) (fun b hb e => (HST.out.2.1 b e).2 hb)
  have hw3 := HTF.out.size
  have HFar : Hid (Far F' G P v) := fun b hb => by
   rcases HSO.out.grows b hb with e | e
   ·exact HST.out.2.1 b e
   ·exact ⟨fun hg => by have := H.out.ltG b hg; omega, fun ho => by have := H.out.lt ho; omega⟩
  have HRW : Hid (∀ b, lH (.slice ra A.zs.length rc) = some b -> w.heap.size + 1 <= b /\ b < w3.heap.size /\ ¬ F' b /\ ¬ GOwn P v b /\ ¬ G b) := fun b hb => by
   have h1 := World.ownsRow.lt HROW3.out b hb
   exact ⟨h1.1, h1.2, HSO.out.free b hb, fun ho => by have := H.out.lt ho; omega, fun hg => by have := H.out.ltG b hg; omega⟩
  have hnb : new.length <= 4 := by
   rcases HSO.out.next with ⟨_, h1, _⟩ | ⟨_, _, h1, _⟩
   ·rw [h1]; simp
   ·exact h1
  have HAn : Hid (∀ w', w3 = w' -> _) := fun w' e => by
   subst e
   exact answered_c (F := F') (R := R') (ls' := ls') (ops := ops0 ++ new) (new := new) A HG3.out (by have := HST.out.2.2.2.2.2; omega) HST3.out HFar.out (by rw [List.length_append]; have := HST.out.2.2.1; omega) rfl (fun hn => by
    rcases HSO.out.next with ⟨_, h1, _⟩ | ⟨h1, _⟩
    ·exact h1
    ·rw [hn] at h1; cases h1) (fun S' l hn => by
    rcases HSO.out.next with ⟨h1, _⟩ | ⟨h1, h2, _, h4⟩
    ·rw [hn] at h1; cases h1
    ·rw [hn] at h1
     injection h1 with h1
     injection h1 with _ h1
     exact ⟨h1, h2, h4⟩) HST.out.2.2.2.1 kk s i kd m k n f cc pp (fun w' hx => HR.out w' (HG3.out.ref.ext hx) (fun b hb => Nat.lt_of_lt_of_le (HG3.out.ltG b hb) hx.le)) ra A.zs.length rc rfl HST.out.2.2.2.2.1 (rd_owns HROW3.out)
  have HNB : Hid (new.length <= 4) := hnb
  have b0 : w3.cell? ⟨gb, 0, none⟩ = some (.int .i64 A.c) := cell_at HGB.out rfl
  have b1 : w3.cell? ⟨gb, 1, none⟩ = some (.int .i64 A.f) := cell_at HGB.out rfl
  have b2 : w3.cell? ⟨gb, 2, none⟩ = some (.int .i64 A.n) := cell_at HGB.out rfl
  have b3 : w3.cell? ⟨gb, 3, none⟩ = some (.slice ra A.zs.length rc) := cell_at HGB.out rfl
  obtain ⟨_, r0, r1, r2, r3, r4, r5, r6, r7, r8, r9⟩ := hHeld
  have hbl3 := lG w3 _ b0
  have hrl3 := lG w3 _ r0
  have HBL : Hid (gb < w3.heap.size) := hbl3
  clear hrow2 hWa hnb c0W
  go_wp2_with fail
  refine (HAn.out _ rfl).mono ?_
  rintro e w4 ⟨rfl, v4, G4, q4, hg4, hs4⟩
  have HG4 : Hid (GameOf w4 P B G4 v4 q4 (A.next.getD (R.map StkR.abs, ls)).1 (A.next.getD (R.map StkR.abs, ls)).2 (ops0 ++ new) (c + 2)) := hg4
  have HS4 : Hid (GStep (fun b => w3.heap.size <= b) w3 w4 P v v4 G G4) := hs4
  have hgbo : ¬ (GOwn P v gb \/ w3.heap.size <= gb) := fun hor => hor.elim (fun ho => by have := H.out.lt ho; have := HGF.out.1; omega) (fun hl => by have := HBL.out; omega)
  have d3 : w4.cell? ⟨gb, 3, none⟩ = some (.slice ra A.zs.length rc) := hs4.turn.cell b3 hgbo
  have HGB4 : Hid (w4.heap[gb]? = some (.cells #[.int .i64 A.c, .int .i64 A.f, .int .i64 A.n, .slice ra A.zs.length rc] 33 (0, 0))) := hs4.turn.ref HGB.out hgbo
  have HROW4 : Hid (w4.ownsRow (w.heap.size + 1) 146 1 (.slice ra A.zs.length rc) A.zs.length (A.zs.map (Value.int .u64))) := hs4.turn.owns HROW3.out (fun b hb hor => hor.elim (HRW.out b hb).2.2.2.1 (fun hl => by have := (HRW.out b hb).2.1; omega))
  have h34 := hs4.turn.size
  have HK : Hid (∀ w', Ext w4 w' -> _) := fun w' hx => by
   have hxl := hx.le
   exact gkeepWords_c (HG4.out.ext hx) (by have := HST.out.2.2.2.2.2; omega) (w.heap.size + 1) ra A.zs.length rc _ HST.out.2.2.2.2.1 (hx.owns HROW4.out) (by omega) (fun b hb hg => by
    rcases HS4.out.new b hg with e | e
    ·exact (HRW.out b hb).2.2.2.2 e
    ·have := (HRW.out b hb).2.1
     omega) (fun b => lH (.slice ra A.zs.length rc) = some b \/ w4.heap.size <= b) (fun b hb => hb.imp id (fun hl => by omega))
  have hPl4 : P < w4.heap.size := (Array.getElem?_eq_some_iff.1 hg4.blk).1
  have hgb4 := lG w4 _ d3
  clear hg4 hs4 b0 b1 b2 b3 hgbo
  generalize hzz : A.zs.length = zl at *
  clear hzz
  go_wp2_with fail
  refine wp_region_held_drew (S := (fun w' => w'.cell? ⟨gb, 3, none⟩ = some (.slice ra zl rc))) (by kernel_rfl) d3 (fun hHeld => ?_)
  refine wpAnyH_take (i := 0) (oi := _) (v := ?y0) rfl (by kernel_rfl) (by kernel_rfl) (by kernel_rfl) (fun _ _ _ h => h) (Or.inl ⟨by rfl, ?hy⟩) hHeld ?_
  case hy => (intro w hSw; (try dsimp only at hSw); go_simp; try with_reducible rfl)
  try simp only [Act.put, lA, lC, lD, lE, lF]
  refine wpAnyH_take (i := 1) (oi := _) (v := ?y1) rfl (by kernel_rfl) (by kernel_rfl) (by kernel_rfl) (fun _ _ _ h => h) (Or.inl ⟨by rfl, ?hy⟩) hHeld ?_
  case hy => (intro w hSw; (try dsimp only at hSw); go_simp; try with_reducible rfl)
  try simp only [Act.put, lA, lB, lC, lD, lE, lF]
  refine wpAnyH_take (i := 2) (oi := _) (v := ?y2) rfl (by kernel_rfl) (by kernel_rfl) (by kernel_rfl) (fun _ _ _ h => h) (Or.inl ⟨by rfl, ?hy⟩) hHeld ?_
  case hy => (intro w hSw; (try dsimp only at hSw); go_simp; try with_reducible rfl)
  try simp only [Act.put, lA, lB, lC, lD, lE, lF]
  refine wpAnyH_take (i := 3) (oi := _) (v := ?y3) rfl (by kernel_rfl) (by kernel_rfl) (by kernel_rfl) (fun _ _ _ h => h) (Or.inl ⟨by rfl, ?hy⟩) hHeld ?_
  case hy => (intro w hSw; (try dsimp only at hSw); go_simp; try with_reducible rfl)
  try simp only [Act.put, lA, lB, lC, lD, lE, lF]
  refine wpAnyH_take (i := 4) (oi := _) (v := ?y4) rfl (by kernel_rfl) (by kernel_rfl) (by kernel_rfl) (fun _ _ _ h => h) (Or.inl ⟨by rfl, ?hy⟩) hHeld ?_
  case hy => (intro w hSw; (try dsimp only at hSw); go_simp; try with_reducible rfl)
  try simp only [Act.put, lA, lB, lC, lD, lE, lF]
  try simp only [Act.put, lA, lB, lC, lD, lE, lF]
  refine wpAnyH_ready (rs := [5]) (by kernel_rfl) (by simp) ?_
  refine AllReadyH.cons (o := _) rfl (fun K hK => ?_) AllReadyH.nil
  (try simp only [lA, lB, lC])
  go_simp
  refine (HK.out _ (Ext.drew (Ext.refl _))).mono ?_
  rintro e w5 ⟨rfl, bv5, G5, hg5, hs5'⟩
  have hs5 := (GStep.of_ext (X := fun b => lH (.slice ra zl rc) = some b \/ w4.heap.size <= b) (P := P) (v := v4) (G := G4) (Ext.drew (Ext.refl w4))).trans hs5' (fun b h => h)
  have HF5 : Hid _ := And.intro hg5 hs5
  have d35 : w5.cell? ⟨gb, 3, none⟩ = some (.slice ra zl rc) := hs5.turn.cell d3 (fun hor => by
   rcases hor with ho | ho | ho
   ·exact HG4.out.not_own HGB4.out (by decide) (by decide) (by decide) (by decide) (by decide) (by decide) ho
   ·exact row_ne HGB4.out HROW4.out (by decide) ho
   ·have ho' : w4.heap.size <= gb := ho
    omega)
  clear hg5 hs5 hs5'
  refine hK.out _ _ ?hc7 (fun hHeld => ?_)
  case hc7 => exact d35
  clear hK K
  try simp only [Act.put, lA, lB, lC, lD, lE, lF]
  refine wpAnyH_done (by kernel_rfl) ?_ _
  go_wp2
  go_ret
  have hGS := (HS4.out.mono (Y := fun b => lH (.slice ra zl rc) = some b \/ w3.heap.size <= b) (fun b hb => .inr hb)).trans HF5.out.2 (fun b hb => hb.imp id (fun hl => by omega))
  have hfin := HST3.out.step hGS HFar.out (fun b hb hor => hor.elim (fun e => (HRW.out b e).2.2.1 hb) (fun hl => by have := HST3.out.lt b hb; omega))
  have hold : Old w w5 F F' P v { v4 with bW := bv5 } := by
   refine ⟨(HTF.out.mono (fun b _ hb => .inl hb)).trans' hGS.turn (fun b hb hor => ?_), fun b hb => (HSO.out.grows b hb).imp id (fun hl => ?_), fun b hb => (hGS.own b hb).imp id (fun hl => ?_)⟩
   ·rcases hor with ho | ho | ho
    ·exact .inr ho
    ·have := (HRW.out b ho).1
     omega
    ·omega
   ·have h1 : w.heap.size + 1 <= Wa.heap.size := by have := HWS.out; have := (HXa.out).le; omega
    omega
   ·rcases hl with ho | ho
    ·have := (HRW.out b ho).1
     omega
    ·omega
  rcases HSO.out.next with ⟨h1, h2, h3, h4⟩ | ⟨h1, h2, h3, h4⟩
  ·refine ⟨rfl, _, G5, q4, R', ls', F', new, ?_, hfin.1, hfin.2, HNB.out, hold, .inl ⟨h1, h3, h4⟩⟩
   have hg := HF5.out.1
   rw [h1] at hg
   rw [h3, h4]
   exact hg
  ·refine ⟨rfl, _, G5, q4, R', ls', F', new, ?_, hfin.1, hfin.2, HNB.out, hold, .inr h1⟩
   have hg := HF5.out.1
   rw [h1] at hg
   exact hg
end
end
end Go.Proofs.YtmnjhhachdlmkaaGreat
