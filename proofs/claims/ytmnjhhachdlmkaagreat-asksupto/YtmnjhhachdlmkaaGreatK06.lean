import Derived.Deep.RegionHeld
import Derived.Test.YtmnjhhachdlmkaaGreatK05
namespace Go.Proofs.YtmnjhhachdlmkaaGreat
open List renaming getElem_toArray -> lA, getElem_cons_succ -> lB, getElem_cons_zero -> lC, setIfInBounds_toArray -> lD, set_cons_zero -> lE, set_cons_succ -> lF
open World renaming block_lt_of_cell? -> lG
open Value renaming ownBlock -> lH
-- GLa
section
set_option maxRecDepth 100000
set_option maxHeartbeats 3200000
open Go.RowKit Go.Maps
section
variable {B : Nat} {F : Nat -> Prop} {sv lv dv : Value} {R : List StkR} {ls : List LsV} {ops : List OpV} {fl : Bool} {ah : Int} {kn : Bool}
theorem infoLease : (Tryz.prog.info? 56).map (fun i => (i.zero, i.size, i.bytes)) = some (some (.agg #[.int .i64 0, .int .i64 0, .int .i64 0, .int .i64 0, .int .i64 0, .int .i64 0, .int .i64 0, .int .i64 0, .bool false]), 9, 72) := by kernel_rfl
/-- The leases have turned. -/
theorem StoreOf.setLv {w w3 : World} {lv' : Value} {ls' : List LsV} {fl' : Bool} {ah' : Int} {kn' : Bool} (h : StoreOf w B F sv lv dv R ls ops fl ah kn) (ht : Turn (fun b => b = B \/ lv.ownBlock = some b) w w3) (hd : DealAt w3 B sv lv' dv fl' ah' kn') (hl : LeasesAt w3 lv' ls') (hq : ∀ q, lv'.ownBlock = some q -> lv.ownBlock = some q \/ w.heap.size <= q) :
  StoreOf w3 B (grow F w w3) sv lv' dv R ls' ops fl' ah' kn' := by
 have hfar : ∀ b cur t, w.heap[b]? = some (.cells cur t (0, 0)) -> t ≠ 114 -> t ≠ 56 -> ¬ (b = B \/ lv.ownBlock = some b) := fun b cur t hc h1 h2 hor => by
  rcases hor with e | e
  ·exact type_ne hc h.deal h1 e
  ·obtain ⟨cur', hc'⟩ := owns_block h.lrow e
   exact type_ne hc hc' h2 rfl
 have hfm : ∀ b D n, w.ownsMap Tryz.prog 3 heldElem b n D -> ¬ (b = B \/ lv.ownBlock = some b) := fun b D n hc hor => by
  rcases hor with e | e
  ·exact map_ne h.deal hc e.symm
  ·obtain ⟨cur', hc'⟩ := owns_block h.lrow e
   exact map_ne hc' hc rfl
 have hg : ∀ b, F b -> grow F w w3 b := fun b hb => .inl hb
 refine ⟨hd, ht.owns h.srow (fun q hq => let ⟨cur, hc⟩ := owns_block h.srow hq; hfar q cur _ hc (by decide) (by decide)), hl, ht.owns h.orow (fun q hq => let ⟨cur, hc⟩ := owns_block h.orow hq; hfar q cur _ hc (by decide) (by decide)), fun y hy => ?_, h.nb, h.nm, .inl h.fB, fun q hq => .inl (h.fs q hq), fun q hq' => ?_, fun q hq => .inl (h.fd q hq), fun b hb => ?_⟩
 ·have hyk := h.stk y hy
  obtain ⟨D, hD, _⟩ := hyk.map
  exact (hyk.turn' ht (hfar _ _ _ hyk.blk (by decide) (by decide)) (hfm _ _ _ hD) (fun b cur hc => hfar b cur _ hc (by decide) (by decide))).mono hg
 ·rcases hq q hq' with e | e
  ·exact .inl (h.fl' _ e)
  ·exact .inr ⟨e, owns_lt hl hq'⟩
 ·rcases hb with hb | hb
  ·exact Nat.lt_of_lt_of_le (h.lt b hb) ht.size
  ·exact hb.2
def StkR.lend (x : StkR) (c : Nat) : StkR := { x with leased := x.leased + c }
/-- A stock of which more are leased. -/
theorem StkAt.lend {w w' : World} {x : StkR} {c : Nat} (h : StkAt w F x) (ht : Turn (fun b => b = x.blk) w w') (hb : w'.heap[x.blk]? = some (.cells (x.lend c).row 154 (0, 0))) : StkAt w' F (x.lend c) := by
 obtain ⟨D, hD, hK⟩ := h.map
 exact ⟨hb, ⟨D, map_turn hD ht (fun e => map_ne h.blk hD e.symm), hK.turn' ht (fun b cur hc e => type_ne hc h.blk (by decide) e)⟩, h.fb, h.fm⟩
theorem StoreOf.lend {w : World} (h : StoreOf w B F sv lv dv R ls ops fl ah kn) (ix : Nat) (hix : ix < R.length) (c : Nat) : StoreOf (w.setCell ⟨R[ix].blk, 5, none⟩ (.int .i64 ((R[ix].leased : Int) + c))) B F sv lv dv (R.set ix (R[ix].lend c)) ls ops fl ah kn := by
 have hx := h.stk R[ix] (List.getElem_mem hix)
 have ht : Turn (fun b => b = R[ix].blk) w (w.setCell ⟨R[ix].blk, 5, none⟩ (.int .i64 ((R[ix].leased : Int) + c))) := Turn.setCell (S := fun b => b = R[ix].blk) (p := ⟨R[ix].blk, 5, none⟩) (Turn.refl _ w) (fun _ => rfl) _
 refine h.setStk ix hix (R[ix].lend c) rfl rfl (ht.mono (fun _ _ e => .inl e)) (hx.lend ht ?_)
 have h5 := setCell_row (i := 5) hx.blk (.int .i64 ((R[ix].leased : Int) + c))
 have e : R[ix].row.setIfInBounds 5 (.int .i64 ((R[ix].leased : Int) + c)) = (R[ix].lend c).row := by
  simp [StkR.row, StkR.lend]
 rw [e] at h5
 exact h5
theorem grow_size {F : Nat -> Prop} {w w' w'' : World} (h : w'.heap.size = w''.heap.size) : grow F w w' = grow F w w'' := by
 unfold grow
 rw [h]
theorem leasingApply_c (rb ix : Nat) (kd m k n ss ii : Int) (c : Nat) (hc : c <= 100) (hR : R.length <= 100) (hls : ls.length <= 1000) (hix : ix < R.length) (hf : R.find? (fun x => x.is kd m k n) = some R[ix]) (hle : R[ix].leased <= 1000) (w : World) (h : StoreOf w B F sv lv dv R ls ops fl ah kn) (hr : LeaseReq w rb ss ii kd m k n c) :
  Calls Tryz.prog 224 #[.agg #[.pointer (some ⟨rb, 0, none⟩)], .pointer (some ⟨B, 0, none⟩)] w fun e w' => ∃ lv', e = .returned (.tuple #[]) /\ StoreOf w' B (grow F w w') sv lv' dv (R.set ix (R[ix].lend c)) (ls ++ [⟨ss, ii, kd, m, k, n, R[ix].leased, c, false⟩]) ops fl ah kn /\ Turn (fun b => b = B \/ lv.ownBlock = some b \/ b = R[ix].blk) w w' := by
 have H : Hid _ := h
 have HR : Hid (LeaseReq w rb ss ii kd m k n c) := hr
 have r0 := cell_at hr (i := 0) rfl
 have r1 := cell_at hr (i := 1) rfl
 have r2 := cell_at hr (i := 2) rfl
 have r3 := cell_at hr (i := 3) rfl
 have r4 := cell_at hr (i := 4) rfl
 have r5 := cell_at hr (i := 5) rfl
 have r6 := cell_at hr (i := 6) rfl
 have hrl := lG w _ r0
 have HF : Hid (∀ w', Ext w w' -> Calls Tryz.prog 168 #[.pointer (some ⟨B, 0, none⟩), .agg #[.int .i64 kd, .int .i64 m, .int .i64 k, .int .i64 n]] w' fun e w'' => e = .returned (.pointer (some ⟨R[ix].blk, 0, none⟩)) /\ Ext w' w'') := fun w' hx => by
  have := findR_c kd m k n hR w' (h.ext hx)
  rwa [stkPtr, hf] at this
 have hxk := h.stk R[ix] (List.getElem_mem hix)
 have k5 : w.cell? ⟨R[ix].blk, 5, none⟩ = some (.int .i64 R[ix].leased) := (cell_of_row w R[ix].blk 5 _ _ _ hxk.blk).trans rfl
 have HXB : Hid (w.heap[R[ix].blk]? = some (.cells R[ix].row 154 (0, 0))) := hxk.blk
 clear h hr hf hxk
 obtain ⟨blk, hblk⟩ : ∃ blk, R[ix].blk = blk := ⟨_, rfl⟩
 obtain ⟨le, hleE⟩ : ∃ le, R[ix].leased = le := ⟨_, rfl⟩
 have HBE : Hid (R[ix].blk = blk /\ R[ix].leased = le) := ⟨hblk, hleE⟩
 rw [hblk] at k5 HF HXB
 rw [hleE] at k5 hle
 clear hblk hleE
 go_enter Tryz.func224, Tryz.ntmps224
 go_wp2_with fail
 refine (HF.out _ ((Ext.refl w).alloc _)).mono ?_
 rintro e w1 ⟨rfl, hx1⟩
 have q0 := cell_in hx1 0 rfl
 have HX1 : Hid (Ext w w1) := ((Ext.refl w).alloc _).trans hx1
 have H1 : Hid (StoreOf w1 B F sv lv dv R ls ops fl ah kn) := H.out.ext HX1.out
 have r0 := HX1.out.cell r0
 have r1 := HX1.out.cell r1
 have r2 := HX1.out.cell r2
 have r3 := HX1.out.cell r3
 have r4 := HX1.out.cell r4
 have r5 := HX1.out.cell r5
 have r6 := HX1.out.cell r6
 have k5 := HX1.out.cell k5
 obtain ⟨_, c1, _⟩ := DealAt.cells H1.out.deal
 clear hx1
 have hB1 := DealAt.lt H1.out.deal
 have hB0 := DealAt.lt H.out.deal
 have hlw := lG w1 _ q0
 have hnw : B ≠ w.heap.size := by omega
 have hnr : B ≠ rb := type_ne H.out.deal HR.out (by decide)
 have hnk : B ≠ blk := type_ne H.out.deal HXB.out (by decide)
 have HLv : Hid (∀ q, lv.ownBlock = some q -> q < w.heap.size /\ q ≠ B /\ q ≠ rb /\ q ≠ blk) := fun q hq => by
  obtain ⟨cur, hcur⟩ := owns_block H.out.lrow hq
  exact ⟨owns_lt H.out.lrow hq, type_ne hcur H.out.deal (by decide), type_ne hcur HR.out (by decide), type_ne hcur HXB.out (by decide)⟩
 have SD : Hid (∀ w', Turn (fun b => lv.ownBlock = some b) w1 w' -> (fun w' => w'.cell? ⟨w.heap.size, 0, none⟩ = some (.pointer (some ⟨rb, 0, none⟩)) /\ w'.cell? ⟨rb, 0, none⟩ = some (.int .i64 ss) /\ w'.cell? ⟨rb, 1, none⟩ = some (.int .i64 ii) /\ w'.cell? ⟨rb, 2, none⟩ = some (.int .i64 kd) /\ w'.cell? ⟨rb, 3, none⟩ = some (.int .i64 m) /\ w'.cell? ⟨rb, 4, none⟩ = some (.int .i64 k) /\ w'.cell? ⟨rb, 5, none⟩ = some (.int .i64 n) /\ w'.cell? ⟨rb, 6, none⟩ = some (.int .i64 c) /\ w'.cell? ⟨blk, 5, none⟩ = some (.int .i64 le)) w') := fun w' hx => by
  have f0 : ¬ lv.ownBlock = some w.heap.size := fun e => by have := (HLv.out _ e).1; omega
  have f1 : ¬ lv.ownBlock = some rb := fun e => (HLv.out _ e).2.2.1 rfl
  have f2 : ¬ lv.ownBlock = some blk := fun e => (HLv.out _ e).2.2.2 rfl
  exact ⟨hx.cell q0 f0, hx.cell r0 f1, hx.cell r1 f1, hx.cell r2 f1, hx.cell r3 f1, hx.cell r4 f1, hx.cell r5 f1, hx.cell r6 f1, hx.cell k5 f2⟩
 obtain ⟨i0, hi, hz0, hz1, hz2⟩ := info_parts infoLease
 have hrl1 := lG w1 _ r0
 have hkl1 := lG w1 _ k5
 go_wp2_with fail
 refine wp_region_held_drew (S := (fun w' => w'.cell? ⟨w.heap.size, 0, none⟩ = some (.pointer (some ⟨rb, 0, none⟩)) /\ w'.cell? ⟨rb, 0, none⟩ = some (.int .i64 ss) /\ w'.cell? ⟨rb, 1, none⟩ = some (.int .i64 ii) /\ w'.cell? ⟨rb, 2, none⟩ = some (.int .i64 kd) /\ w'.cell? ⟨rb, 3, none⟩ = some (.int .i64 m) /\ w'.cell? ⟨rb, 4, none⟩ = some (.int .i64 k) /\ w'.cell? ⟨rb, 5, none⟩ = some (.int .i64 n) /\ w'.cell? ⟨rb, 6, none⟩ = some (.int .i64 c) /\ w'.cell? ⟨blk, 5, none⟩ = some (.int .i64 le))) (by kernel_rfl) ⟨q0, r0, r1, r2, r3, r4, r5, r6, k5⟩ (fun hHeld => ?_)
 refine wpAnyH_take (i := 0) (oi := _) (v := ?v0) rfl (by kernel_rfl) (by kernel_rfl) (by kernel_rfl) (fun _ _ _ h => h) (Or.inl ⟨by rfl, ?hy⟩) hHeld ?_
 case hy => (intro w hSw; (try dsimp only at hSw); go_simp; try with_reducible rfl)
 try simp only [Act.put, lA, lC, lD, lE, lF]
 refine wpAnyH_take (i := 1) (oi := _) (v := ?v1) rfl (by kernel_rfl) (by kernel_rfl) (by kernel_rfl) (fun _ _ _ h => h) (Or.inl ⟨by rfl, ?hy⟩) hHeld ?_
 case hy => (intro w hSw; (try dsimp only at hSw); go_simp; try with_reducible rfl)
 try simp only [Act.put, lA, lB, lC, lD, lE, lF]
 refine wpAnyH_take (i := 2) (oi := _) (v := ?v2) rfl (by kernel_rfl) (by kernel_rfl) (by kernel_rfl) (fun _ _ _ h => h) (Or.inl ⟨by rfl, ?hy⟩) hHeld ?_
 case hy => (intro w hSw; (try dsimp only at hSw); go_simp; try with_reducible rfl)
 try simp only [Act.put, lA, lB, lC, lD, lE, lF]
 refine wpAnyH_take (i := 3) (oi := _) (v := ?v3) rfl (by kernel_rfl) (by kernel_rfl) (by kernel_rfl) (fun _ _ _ h => h) (Or.inl ⟨by rfl, ?hy⟩) hHeld ?_
 case hy => (intro w hSw; (try dsimp only at hSw); go_simp; try with_reducible rfl)
 try simp only [Act.put, lA, lB, lC, lD, lE, lF]
 refine wpAnyH_take (i := 5) (oi := _) (v := ?v5) rfl (by kernel_rfl) (by kernel_rfl) (by kernel_rfl) (fun _ _ _ h => h) (Or.inl ⟨by rfl, ?hy⟩) hHeld ?_
 case hy => (intro w hSw; (try dsimp only at hSw); go_simp; try with_reducible rfl)
 try simp only [Act.put, lA, lB, lC, lD, lE, lF]
 refine wpAnyH_take (i := 6) (oi := _) (v := ?v6) rfl (by kernel_rfl) (by kernel_rfl) (by kernel_rfl) (fun _ _ _ h => h) (Or.inl ⟨by rfl, ?hy⟩) hHeld ?_
 case hy => (intro w hSw; (try dsimp only at hSw); go_simp; try with_reducible rfl)
 try simp only [Act.put, lA, lB, lC, lD, lE, lF]
 refine wpAnyH_take (i := 7) (oi := _) (v := ?v7) rfl (by kernel_rfl) (by kernel_rfl) (by kernel_rfl) (fun _ _ _ h => h) (Or.inl ⟨by rfl, ?hy⟩) hHeld ?_
 case hy => (intro w hSw; (try dsimp only at hSw); go_simp; try with_reducible rfl)
 try simp only [Act.put, lA, lB, lC, lD, lE, lF]
 refine wpAnyH_take (i := 8) (oi := _) (v := ?v8) rfl (by kernel_rfl) (by kernel_rfl) (by kernel_rfl) (fun _ _ _ h => h) (Or.inl ⟨by rfl, ?hy⟩) hHeld ?_
 case hy => (intro w hSw; (try dsimp only at hSw); go_simp; try with_reducible rfl)
 try simp only [Act.put, lA, lB, lC, lD, lE, lF]
 refine wpAnyH_take (i := 9) (oi := _) (v := ?v9) rfl (by kernel_rfl) (by kernel_rfl) (by kernel_rfl) (fun _ _ _ h => h) (Or.inl ⟨by rfl, ?hy⟩) hHeld ?_
 case hy => (intro w hSw; (try dsimp only at hSw); go_simp; try with_reducible rfl)
 try simp only [Act.put, lA, lB, lC, lD, lE, lF]
 refine wpAnyH_take (i := 10) (oi := _) (v := ?v10) rfl (by kernel_rfl) (by kernel_rfl) (by kernel_rfl) (fun _ _ _ h => h) (Or.inl ⟨by rfl, ?hy⟩) hHeld ?_
 case hy => (intro w hSw; (try dsimp only at hSw); go_simp; try with_reducible rfl)
 try simp only [Act.put, lA, lB, lC, lD, lE, lF]
 refine wpAnyH_take (i := 11) (oi := _) (v := ?v11) rfl (by kernel_rfl) (by kernel_rfl) (by kernel_rfl) (fun _ _ _ h => h) (Or.inl ⟨by rfl, ?hy⟩) hHeld ?_
 case hy => (intro w hSw; (try dsimp only at hSw); go_simp; try with_reducible rfl)
 try simp only [Act.put, lA, lB, lC, lD, lE, lF]
 refine wpAnyH_take (i := 12) (oi := _) (v := ?v12) rfl (by kernel_rfl) (by kernel_rfl) (by kernel_rfl) (fun _ _ _ h => h) (Or.inl ⟨by rfl, ?hy⟩) hHeld ?_
 case hy => (intro w hSw; (try dsimp only at hSw); go_simp; try with_reducible rfl)
 try simp only [Act.put, lA, lB, lC, lD, lE, lF]
 refine wpAnyH_take (i := 13) (oi := _) (v := ?v13) rfl (by kernel_rfl) (by kernel_rfl) (by kernel_rfl) (fun _ _ _ h => h) (Or.inl ⟨by rfl, ?hy⟩) hHeld ?_
 case hy => (intro w hSw; (try dsimp only at hSw); go_simp; try with_reducible rfl)
 try simp only [Act.put, lA, lB, lC, lD, lE, lF]
 refine wpAnyH_take (i := 14) (oi := _) (v := ?v14) rfl (by kernel_rfl) (by kernel_rfl) (by kernel_rfl) (fun _ _ _ h => h) (Or.inl ⟨by rfl, ?hy⟩) hHeld ?_
 case hy => (intro w hSw; (try dsimp only at hSw); go_simp; try with_reducible rfl)
 try simp only [Act.put, lA, lB, lC, lD, lE, lF]
 refine wpAnyH_take (i := 15) (oi := _) (v := ?v15) rfl (by kernel_rfl) (by kernel_rfl) (by kernel_rfl) (fun _ _ _ h => h) (Or.inl ⟨by rfl, ?hy⟩) hHeld ?_
 case hy => (intro w hSw; (try dsimp only at hSw); go_simp; try with_reducible rfl)
 try simp only [Act.put, lA, lB, lC, lD, lE, lF]
 refine wpAnyH_take (i := 16) (oi := _) (v := ?v16) rfl (by kernel_rfl) (by kernel_rfl) (by kernel_rfl) (fun _ _ _ h => h) (Or.inl ⟨by rfl, ?hy⟩) hHeld ?_
 case hy => (intro w hSw; (try dsimp only at hSw); go_simp; try with_reducible rfl)
 try simp only [Act.put, lA, lB, lC, lD, lE, lF]
 refine wpAnyH_take (i := 17) (oi := _) (v := ?v17) rfl (by kernel_rfl) (by kernel_rfl) (by kernel_rfl) (fun _ _ _ h => h) (Or.inl ⟨by rfl, ?hy⟩) hHeld ?_
 case hy => (intro w hSw; (try dsimp only at hSw); go_simp; try with_reducible rfl)
 try simp only [Act.put, lA, lB, lC, lD, lE, lF]
 refine wpAnyH_take (i := 18) (oi := _) (v := ?v18) rfl (by kernel_rfl) (by kernel_rfl) (by kernel_rfl) (fun _ _ _ h => h) (Or.inl ⟨by rfl, ?hy⟩) hHeld ?_
 case hy => (intro w hSw; (try dsimp only at hSw); go_simp; try with_reducible rfl)
 try simp only [Act.put, lA, lB, lC, lD, lE, lF]
 refine wpAnyH_take (i := 19) (oi := _) (v := ?v19) rfl (by kernel_rfl) (by kernel_rfl) (by kernel_rfl) (fun _ _ _ h => h) (Or.inl ⟨by rfl, ?hy⟩) hHeld ?_
 case hy => (intro w hSw; (try dsimp only at hSw); go_simp; try with_reducible rfl)
 try simp only [Act.put, lA, lB, lC, lD, lE, lF]
 refine wpAnyH_take (i := 20) (oi := _) (v := ?v20) rfl (by kernel_rfl) (by kernel_rfl) (by kernel_rfl) (fun _ _ _ h => h) (Or.inl ⟨by rfl, ?hy⟩) hHeld ?_
 case hy => (intro w hSw; (try dsimp only at hSw); go_simp; try with_reducible rfl)
 try simp only [Act.put, lA, lB, lC, lD, lE, lF]
 refine wpAnyH_take (i := 21) (oi := _) (v := ?v21) rfl (by kernel_rfl) (by kernel_rfl) (by kernel_rfl) (fun _ _ _ h => h) (Or.inl ⟨by rfl, ?hy⟩) hHeld ?_
 case hy => (intro w hSw; (try dsimp only at hSw); go_simp; try with_reducible rfl)
 try simp only [Act.put, lA, lB, lC, lD, lE, lF]
 refine wpAnyH_take (i := 22) (oi := _) (v := ?v22) rfl (by kernel_rfl) (by kernel_rfl) (by kernel_rfl) (fun _ _ _ h => h) (Or.inl ⟨by rfl, ?hy⟩) hHeld ?_
 case hy => (intro w hSw; (try dsimp only at hSw); go_simp; try with_reducible rfl)
 try simp only [Act.put, lA, lB, lC, lD, lE, lF]
 refine wpAnyH_take (i := 23) (oi := _) (v := ?v23) rfl (by kernel_rfl) (by kernel_rfl) (by kernel_rfl) (fun _ _ _ h => h) (Or.inl ⟨by rfl, ?hy⟩) hHeld ?_
 case hy => (intro w hSw; (try dsimp only at hSw); go_simp; try with_reducible rfl)
 try simp only [Act.put, lA, lB, lC, lD, lE, lF]
 refine wpAnyH_take (i := 24) (oi := _) (v := ?v24) rfl (by kernel_rfl) (by kernel_rfl) (by kernel_rfl) (fun _ _ _ h => h) (Or.inl ⟨by rfl, ?hy⟩) hHeld ?_
 case hy => (intro w hSw; (try dsimp only at hSw); go_simp; try with_reducible rfl)
 try simp only [Act.put, lA, lB, lC, lD, lE, lF]
 refine wpAnyH_take (i := 25) (oi := _) (v := ?v25) rfl (by kernel_rfl) (by kernel_rfl) (by kernel_rfl) (fun _ _ _ h => h) (Or.inl ⟨by rfl, ?hy⟩) hHeld ?_
 case hy => (intro w hSw; (try dsimp only at hSw); go_simp; try with_reducible rfl)
 try simp only [Act.put, lA, lB, lC, lD, lE, lF]
 refine wpAnyH_take (i := 26) (oi := _) (v := ?v26) rfl (by kernel_rfl) (by kernel_rfl) (by kernel_rfl) (fun _ _ _ h => h) (Or.inl ⟨by rfl, ?hy⟩) hHeld ?_
 case hy => (intro w hSw; (try dsimp only at hSw); go_simp; try with_reducible rfl)
 try simp only [Act.put, lA, lB, lC, lD, lE, lF]
 refine wpAnyH_take (i := 27) (oi := _) (v := ?v27) rfl (by kernel_rfl) (by kernel_rfl) (by kernel_rfl) (fun _ _ _ h => h) (Or.inl ⟨by rfl, ?hy⟩) hHeld ?_
 case hy => (intro w hSw; (try dsimp only at hSw); go_simp; try with_reducible rfl)
 try simp only [Act.put, lA, lB, lC, lD, lE, lF]
 refine wpAnyH_take (i := 28) (oi := _) (v := ?v28) rfl (by kernel_rfl) (by kernel_rfl) (by kernel_rfl) (fun _ _ _ h => h) (Or.inl ⟨by rfl, ?hy⟩) hHeld ?_
 case hy => (intro w hSw; (try dsimp only at hSw); go_simp; try with_reducible rfl)
 try simp only [Act.put, lA, lB, lC, lD, lE, lF]
 refine wpAnyH_take (i := 29) (oi := _) (v := ?v29) rfl (by kernel_rfl) (by kernel_rfl) (by kernel_rfl) (fun _ _ _ h => h) (Or.inl ⟨by rfl, ?hy⟩) hHeld ?_
 case hy => (intro w hSw; (try dsimp only at hSw); go_simp; try with_reducible rfl)
 try simp only [Act.put, lA, lB, lC, lD, lE, lF]
 refine wpAnyH_ready (rs := [4, 30]) (by kernel_rfl) (by simp) ?_
 refine AllReadyH.cons (o := _) rfl (fun K hK => ?_) (AllReadyH.cons (o := _) rfl (fun K hK => ?_) AllReadyH.nil)
 ·(try simp only [lA, lB, lC])
  go_simp
  refine hK.out _ _ ?hs1 (fun hHeld => ?_)
  case hs1 => exact SD.out _ (Turn.of_ext (Ext.drew (Ext.refl _)))
  clear hK K
  try simp only [Act.put, lA, lB, lC, lD, lE, lF]
  refine wpAnyH_ready (rs := [30]) (by kernel_rfl) (by simp) ?_
  refine AllReadyH.cons (o := _) rfl (fun K hK => ?_) AllReadyH.nil
  (try simp only [lA, lB, lC])
  go_simp
  refine hK.out _ _ ?hs2 (fun hHeld => ?_)
  case hs2 => exact SD.out _ (Turn.of_ext (Ext.drew (Ext.alloc (Ext.refl _) _)))
  clear hK K
  try simp only [Act.put, lA, lB, lC, lD, lE, lF]
  refine wpAnyH_ready (rs := [31]) (by kernel_rfl) (by simp) ?_
  refine AllReadyH.cons (o := _) rfl (fun K hK => ?_) AllReadyH.nil
  refine step_append_lies _ (by rfl) _ _ 38 (by rfl) 0 56 i0 _ 9 72 Tryz.underlying38 hi hz0 hz1 hz2 (by rfl) (by decide) lv ls.length (lsCells ls) (by rfl) (Ext.owns (Ext.drew (Ext.alloc (Ext.refl _) _)) H1.out.lrow) ⟨_, 0, none⟩ 1 1 (LsV.cells ⟨ss, ii, kd, m, k, n, le, c, false⟩) (by rfl) (by rfl) (World.news_of_block (at_drew (heap_alloc_new _ _))) (by simp [Value.oneCell', LsV.cells]) (by decide) (by unfold maxLen; omega) (by omega) (Nat.zero_le _) _ rfl ?_
  intro g cap3 w2 hown2 hgrow hat hlt2
  have ht2 : Turn (fun b => lv.ownBlock = some b) w1 w2 := Turn.grown (Turn.of_ext (Ext.drew (Ext.alloc (Ext.refl _) _))) hgrow (fun q hq _ => hq)
  have HT2 : Hid (Turn (fun b => lv.ownBlock = some b) w1 w2) := ht2
  have HD2 : Hid (DealAt w2 B sv lv dv fl ah kn) := ht2.ref H1.out.deal (fun e => (HLv.out _ e).2.1 rfl)
  have c1b := (DealAt.cells HD2.out).2.1
  have f1b := frozen_row HD2.out 1
  have HOW : Hid (w2.ownsRow 0 56 9 (.slice (some ⟨g, 0, none⟩) (ls.length + 1) cap3) (ls.length + 1) (lsCells ls ++ LsV.cells ⟨ss, ii, kd, m, k, n, le, c, false⟩)) := hown2
  have HG : Hid ((lv.ownBlock = some g \/ w.heap.size <= g) /\ g ≠ B) := by
   have h1 := HX1.out.le
   rcases hat with h | h
   ·exact ⟨.inl h, (HLv.out _ h).2.1⟩
   ·have h2 : w1.heap.size <= g := by rw [h]; exact (Turn.of_ext (Ext.drew (Ext.alloc (Ext.refl _) _)) : Turn (fun _ => False) w1 _).size
    exact ⟨.inr (by omega), by omega⟩
  refine hK.out _ _ ?hs3 (fun hHeld => ?_)
  case hs3 => exact SD.out _ ht2
  clear hK K hown2 hgrow hat ht2
  try simp only [Act.put, lA, lB, lC, lD, lE, lF]
  refine wpAnyH_take (i := 32) (oi := _) (v := ?v32) rfl (by kernel_rfl) (by kernel_rfl) (by kernel_rfl) (fun _ _ _ h => h) (Or.inl ⟨by rfl, ?hy⟩) hHeld ?_
  case hy => (intro w hSw; (try dsimp only at hSw); go_simp; try with_reducible rfl)
  try simp only [Act.put, lA, lB, lC, lD, lE, lF]
  refine wpAnyH_take (i := 33) (oi := _) (v := ?v33) rfl (by kernel_rfl) (by kernel_rfl) (by kernel_rfl) (fun _ _ _ h => h) (Or.inl ⟨by rfl, ?hy⟩) hHeld ?_
  case hy => (intro w hSw; (try dsimp only at hSw); go_simp; try with_reducible rfl)
  try simp only [Act.put, lA, lB, lC, lD, lE, lF]
  refine wpAnyH_ready (rs := [34]) (by kernel_rfl) (by simp) ?_
  refine AllReadyH.cons (o := _) rfl (fun K hK => ?_) AllReadyH.nil
  (try simp only [lA, lB, lC])
  go_simp
  refine hK.out _ _ ?hs4 (fun hHeld => ?_)
  case hs4 =>
   have h1 := SD.out _ HT2.out
   obtain ⟨s0, s1, s2, s3, s4, s5, s6, s7, s8⟩ := h1
   exact ⟨(World.cell?_setCell_far _ _ _ _ hnw).trans s0, (World.cell?_setCell_far _ _ _ _ hnr).trans s1, (World.cell?_setCell_far _ _ _ _ hnr).trans s2, (World.cell?_setCell_far _ _ _ _ hnr).trans s3, (World.cell?_setCell_far _ _ _ _ hnr).trans s4, (World.cell?_setCell_far _ _ _ _ hnr).trans s5, (World.cell?_setCell_far _ _ _ _ hnr).trans s6, (World.cell?_setCell_far _ _ _ _ hnr).trans s7, (World.cell?_setCell_far _ _ _ _ hnk).trans s8⟩
  clear hK K
  try simp only [Act.put, lA, lB, lC, lD, lE, lF]
  refine wpAnyH_done (by kernel_rfl) ?_ _
  have q0 := hHeld.1
  have r6 := hHeld.2.2.2.2.2.2.2.1
  have k5 := hHeld.2.2.2.2.2.2.2.2
  have HT3 : Hid (Turn (fun b => b = B \/ lv.ownBlock = some b) w (w2.setCell ⟨B, 1, none⟩ (.slice (some ⟨g, 0, none⟩) (ls.length + 1) cap3))) := Turn.setCell (S := fun b => b = B \/ lv.ownBlock = some b) (p := ⟨B, 1, none⟩) ((Turn.of_ext HX1.out).trans (HT2.out.mono (fun _ _ e => .inr e))) (fun _ => .inl rfl) _
  have HS3 : Hid (StoreOf (w2.setCell ⟨B, 1, none⟩ (.slice (some ⟨g, 0, none⟩) (ls.length + 1) cap3)) B (grow F w (w2.setCell ⟨B, 1, none⟩ (.slice (some ⟨g, 0, none⟩) (ls.length + 1) cap3))) sv (.slice (some ⟨g, 0, none⟩) (ls.length + 1) cap3) dv R (ls ++ [⟨ss, ii, kd, m, k, n, le, c, false⟩]) ops fl ah kn) := by
   refine H.out.setLv HT3.out (setCell_row HD2.out _) ?_ (fun q hq => ?_)
   ·show World.ownsRow _ 0 56 9 _ _ _
    rw [lsCells_append, List.length_append]
    have e1 : lsCells [⟨ss, ii, kd, m, k, n, le, c, false⟩] = LsV.cells ⟨ss, ii, kd, m, k, n, le, c, false⟩ := by simp [lsCells]
    rw [e1]
    exact owns_setCell HOW.out (by simpa [lH] using HG.out.2) _
   ·simp [lH] at hq
    subst hq
    exact HG.out.1
  have HB3 : Hid ((w2.setCell ⟨B, 1, none⟩ (.slice (some ⟨g, 0, none⟩) (ls.length + 1) cap3)).heap[blk]? = some (.cells R[ix].row 154 (0, 0))) := by
   have hh := (HS3.out.stk R[ix] (List.getElem_mem hix)).blk
   rw [HBE.out.1] at hh
   exact hh
  have f5 := frozen_row HB3.out 5
  have hw3 : blk < (w2.setCell ⟨B, 1, none⟩ (.slice (some ⟨g, 0, none⟩) (ls.length + 1) cap3)).heap.size := (Array.getElem?_eq_some_iff.1 HB3.out).1
  generalize World.setCell w2 _ _ = w3 at *
  clear hHeld c1b f1b c1 r0 r1 r2 r3 r4 r5
  go_wp2_with fail
  go_region
  all_goals go_wp2
  all_goals go_end0
  all_goals
   have hfin := HS3.out.lend ix hix c
   rw [HBE.out.1, HBE.out.2] at hfin
   refine ⟨.slice (some ⟨g, 0, none⟩) (ls.length + 1) cap3, rfl, ?_, ?_⟩
   ·rw [HBE.out.2, grow_size (w'' := w3) (by simp [World.setCell, World.drew])]
    exact hfin.ext (Ext.drew (Ext.refl _))
   ·rw [HBE.out.1]
    refine Turn.drew (Turn.setCell (p := ⟨blk, 5, none⟩) (HT3.out.mono (fun b _ h => ?_)) (fun _ => .inr (.inr rfl)) _)
    rcases h with h | h
    ·exact .inl h
    ·exact .inr (.inl h)
 ·(try simp only [lA, lB, lC])
  go_simp
  refine hK.out _ _ ?hs1 (fun hHeld => ?_)
  case hs1 => exact SD.out _ (Turn.of_ext (Ext.drew (Ext.alloc (Ext.refl _) _)))
  clear hK K
  try simp only [Act.put, lA, lB, lC, lD, lE, lF]
  refine wpAnyH_ready (rs := [4]) (by kernel_rfl) (by simp) ?_
  refine AllReadyH.cons (o := _) rfl (fun K hK => ?_) AllReadyH.nil
  (try simp only [lA, lB, lC])
  go_simp
  refine hK.out _ _ ?hs2 (fun hHeld => ?_)
  case hs2 => exact SD.out _ (Turn.of_ext (Ext.drew (Ext.alloc (Ext.refl _) _)))
  clear hK K
  try simp only [Act.put, lA, lB, lC, lD, lE, lF]
  refine wpAnyH_ready (rs := [31]) (by kernel_rfl) (by simp) ?_
  refine AllReadyH.cons (o := _) rfl (fun K hK => ?_) AllReadyH.nil
  refine step_append_lies _ (by rfl) _ _ 38 (by rfl) 0 56 i0 _ 9 72 Tryz.underlying38 hi hz0 hz1 hz2 (by rfl) (by decide) lv ls.length (lsCells ls) (by rfl) (Ext.owns (Ext.drew (Ext.alloc (Ext.refl _) _)) H1.out.lrow) ⟨_, 0, none⟩ 1 1 (LsV.cells ⟨ss, ii, kd, m, k, n, le, c, false⟩) (by rfl) (by rfl) (World.news_of_block (at_drew (heap_alloc_new _ _))) (by simp [Value.oneCell', LsV.cells]) (by decide) (by unfold maxLen; omega) (by omega) (Nat.zero_le _) _ rfl ?_
  intro g cap3 w2 hown2 hgrow hat hlt2
  have ht2 : Turn (fun b => lv.ownBlock = some b) w1 w2 := Turn.grown (Turn.of_ext (Ext.drew (Ext.alloc (Ext.refl _) _))) hgrow (fun q hq _ => hq)
  have HT2 : Hid (Turn (fun b => lv.ownBlock = some b) w1 w2) := ht2
  have HD2 : Hid (DealAt w2 B sv lv dv fl ah kn) := ht2.ref H1.out.deal (fun e => (HLv.out _ e).2.1 rfl)
  have c1b := (DealAt.cells HD2.out).2.1
  have f1b := frozen_row HD2.out 1
  have HOW : Hid (w2.ownsRow 0 56 9 (.slice (some ⟨g, 0, none⟩) (ls.length + 1) cap3) (ls.length + 1) (lsCells ls ++ LsV.cells ⟨ss, ii, kd, m, k, n, le, c, false⟩)) := hown2
  have HG : Hid ((lv.ownBlock = some g \/ w.heap.size <= g) /\ g ≠ B) := by
   have h1 := HX1.out.le
   rcases hat with h | h
   ·exact ⟨.inl h, (HLv.out _ h).2.1⟩
   ·have h2 : w1.heap.size <= g := by rw [h]; exact (Turn.of_ext (Ext.drew (Ext.alloc (Ext.refl _) _)) : Turn (fun _ => False) w1 _).size
    exact ⟨.inr (by omega), by omega⟩
  refine hK.out _ _ ?hs3 (fun hHeld => ?_)
  case hs3 => exact SD.out _ ht2
  clear hK K hown2 hgrow hat ht2
  try simp only [Act.put, lA, lB, lC, lD, lE, lF]
  refine wpAnyH_take (i := 32) (oi := _) (v := ?v32) rfl (by kernel_rfl) (by kernel_rfl) (by kernel_rfl) (fun _ _ _ h => h) (Or.inl ⟨by rfl, ?hy⟩) hHeld ?_
  case hy => (intro w hSw; (try dsimp only at hSw); go_simp; try with_reducible rfl)
  try simp only [Act.put, lA, lB, lC, lD, lE, lF]
  refine wpAnyH_take (i := 33) (oi := _) (v := ?v33) rfl (by kernel_rfl) (by kernel_rfl) (by kernel_rfl) (fun _ _ _ h => h) (Or.inl ⟨by rfl, ?hy⟩) hHeld ?_
  case hy => (intro w hSw; (try dsimp only at hSw); go_simp; try with_reducible rfl)
  try simp only [Act.put, lA, lB, lC, lD, lE, lF]
  refine wpAnyH_ready (rs := [34]) (by kernel_rfl) (by simp) ?_
  refine AllReadyH.cons (o := _) rfl (fun K hK => ?_) AllReadyH.nil
  (try simp only [lA, lB, lC])
  go_simp
  refine hK.out _ _ ?hs4 (fun hHeld => ?_)
  case hs4 =>
   have h1 := SD.out _ HT2.out
   obtain ⟨s0, s1, s2, s3, s4, s5, s6, s7, s8⟩ := h1
   exact ⟨(World.cell?_setCell_far _ _ _ _ hnw).trans s0, (World.cell?_setCell_far _ _ _ _ hnr).trans s1, (World.cell?_setCell_far _ _ _ _ hnr).trans s2, (World.cell?_setCell_far _ _ _ _ hnr).trans s3, (World.cell?_setCell_far _ _ _ _ hnr).trans s4, (World.cell?_setCell_far _ _ _ _ hnr).trans s5, (World.cell?_setCell_far _ _ _ _ hnr).trans s6, (World.cell?_setCell_far _ _ _ _ hnr).trans s7, (World.cell?_setCell_far _ _ _ _ hnk).trans s8⟩
  clear hK K
  try simp only [Act.put, lA, lB, lC, lD, lE, lF]
  refine wpAnyH_done (by kernel_rfl) ?_ _
  have q0 := hHeld.1
  have r6 := hHeld.2.2.2.2.2.2.2.1
  have k5 := hHeld.2.2.2.2.2.2.2.2
  have HT3 : Hid (Turn (fun b => b = B \/ lv.ownBlock = some b) w (w2.setCell ⟨B, 1, none⟩ (.slice (some ⟨g, 0, none⟩) (ls.length + 1) cap3))) := Turn.setCell (S := fun b => b = B \/ lv.ownBlock = some b) (p := ⟨B, 1, none⟩) ((Turn.of_ext HX1.out).trans (HT2.out.mono (fun _ _ e => .inr e))) (fun _ => .inl rfl) _
  have HS3 : Hid (StoreOf (w2.setCell ⟨B, 1, none⟩ (.slice (some ⟨g, 0, none⟩) (ls.length + 1) cap3)) B (grow F w (w2.setCell ⟨B, 1, none⟩ (.slice (some ⟨g, 0, none⟩) (ls.length + 1) cap3))) sv (.slice (some ⟨g, 0, none⟩) (ls.length + 1) cap3) dv R (ls ++ [⟨ss, ii, kd, m, k, n, le, c, false⟩]) ops fl ah kn) := by
   refine H.out.setLv HT3.out (setCell_row HD2.out _) ?_ (fun q hq => ?_)
   ·show World.ownsRow _ 0 56 9 _ _ _
    rw [lsCells_append, List.length_append]
    have e1 : lsCells [⟨ss, ii, kd, m, k, n, le, c, false⟩] = LsV.cells ⟨ss, ii, kd, m, k, n, le, c, false⟩ := by simp [lsCells]
    rw [e1]
    exact owns_setCell HOW.out (by simpa [lH] using HG.out.2) _
   ·simp [lH] at hq
    subst hq
    exact HG.out.1
  have HB3 : Hid ((w2.setCell ⟨B, 1, none⟩ (.slice (some ⟨g, 0, none⟩) (ls.length + 1) cap3)).heap[blk]? = some (.cells R[ix].row 154 (0, 0))) := by
   have hh := (HS3.out.stk R[ix] (List.getElem_mem hix)).blk
   rw [HBE.out.1] at hh
   exact hh
  have f5 := frozen_row HB3.out 5
  have hw3 : blk < (w2.setCell ⟨B, 1, none⟩ (.slice (some ⟨g, 0, none⟩) (ls.length + 1) cap3)).heap.size := (Array.getElem?_eq_some_iff.1 HB3.out).1
  generalize World.setCell w2 _ _ = w3 at *
  clear hHeld c1b f1b c1 r0 r1 r2 r3 r4 r5
  go_wp2_with fail
  go_region
  all_goals go_wp2
  all_goals go_end0
  all_goals
   have hfin := HS3.out.lend ix hix c
   rw [HBE.out.1, HBE.out.2] at hfin
   refine ⟨.slice (some ⟨g, 0, none⟩) (ls.length + 1) cap3, rfl, ?_, ?_⟩
   ·rw [HBE.out.2, grow_size (w'' := w3) (by simp [World.setCell, World.drew])]
    exact hfin.ext (Ext.drew (Ext.refl _))
   ·rw [HBE.out.1]
    refine Turn.drew (Turn.setCell (p := ⟨blk, 5, none⟩) (HT3.out.mono (fun b _ h => ?_)) (fun _ => .inr (.inr rfl)) _)
    rcases h with h | h
    ·exact .inl h
    ·exact .inr (.inl h)
end
end
-- GDo
section
set_option maxRecDepth 100000
set_option maxHeartbeats 1600000
open Go.RowKit Go.Maps
theorem infoStr : (Tryz.prog.info? 9).map (fun i => (i.zero, i.size, i.bytes)) = some (some (.string ⟨#[]⟩), 1, 16) := by kernel_rfl
/-- Add where the file is not known, of a store of nothing. -/
theorem addNew0_c (B k : Nat) (r : ByteArray) (dv : Value) (ah : Int) (xs : List Value) (w : World) (h : DealAt w B (.slice none 0 0) (.slice none 0 0) dv false ah false) (ho : w.ownsRow 0 134 4 dv k xs) (hr : r.size <= 100000) (hk : k <= 1000000) :
  Calls Tryz.prog 144 #[.pointer (some ⟨B, 2, none⟩), .string r, .func (.func 92) #[.pointer (some ⟨B, 0, none⟩)] #[]] w fun e w' =>
   ∃ dv', e = .returned (.bool true) /\ DealAt w' B (.slice none 0 0) (.slice none 0 0) dv' false ah true /\ w'.ownsRow 0 134 4 dv' (k + 4) (xs ++ opCells (opsNew (flatF [r]))) /\ Turn (fun b => b = B \/ dv.ownBlock = some b) w w' /\ (∀ q, dv'.ownBlock = some q -> q < w.heap.size -> dv.ownBlock = some q) := by
 obtain ⟨i0, hi, hz0, hz1, hz2⟩ := info_parts infoStr
 have HD : Hid (DealAt w B (.slice none 0 0) (.slice none 0 0) dv false ah false) := h
 have HO : Hid (w.ownsRow 0 134 4 dv k xs) := ho
 obtain ⟨_, _, _, _, _, c5⟩ := h.cells
 clear h ho
 go_enter Tryz.func144, Tryz.ntmps144
 go_wp2_with fail
 refine (recordsNone_c B dv false ah false _ HD.out).mono ?_
 rintro e w1 ⟨rfl, rfl⟩
 go_wp2_with (at_builtin; refine wpList_append_lies _ rfl _ _ 166 rfl 0 9 i0 _ 1 16 Tryz.underlying166 hi hz0 hz1 hz2 rfl (by decide) _ 0 [] rfl (World.ownsRow_nil _ _ _ _) ⟨_, 0, none⟩ 1 1 [.string r] rfl rfl (World.news_of_block (heap_alloc_new _ _)) (by simp [Value.oneCell']) (by decide) (by simp [maxLen]) (by omega) (Nat.zero_le _) _ rfl ?_)
 intro g cap3 w2 hown2 hgrow hat hlt1
 have hX : Ext w w2 := Ext.grown (Ext.alloc (Ext.refl _) _) hgrow (by simp [lH])
 have HOW : Hid _ := hown2
 have HX : Hid (Ext w w2) := hX
 clear hown2 hgrow hat hX
 go_wp2_with fail
 refine (replace_c B g cap3 1 k [r] _ _ dv ah false xs w2 (HX.out.block HD.out) (HX.out.owns HO.out) rfl (by omega) (by omega) (by simpa using hr) ?dc hk).mono ?_
 case dc =>
  intro i hi'
  simp at hi'
  subst hi'
  exact World.ownsRow.cellAt HOW.out 0 (by simp)
 rintro e w3 ⟨dv', rfl, hd3, ho3, ht3, hq3⟩
 have HRR : Hid _ := And.intro hd3 (And.intro ho3 (And.intro ht3 hq3))
 clear hd3 ho3 ht3 hq3
 go_wp2
 go_ret
 obtain ⟨hd3, ho3, ht3, hq3⟩ := HRR.out
 exact ⟨dv', rfl, hd3, ho3, (Turn.of_ext HX.out).trans ht3, fun q hq hl => hq3 q hq (Nat.lt_of_lt_of_le hl HX.out.le)⟩
theorem mm_against (a b c d e : Value) (w : World) : (method 417 174 (.agg #[a, b, c, d, e]) "dealer/store.against").run Tryz.prog w = .ok (206, .agg #[a, b, c, d, e]) w := by kernel_rfl
theorem mm_record (a b c d e : Value) (w : World) : (method 417 174 (.agg #[a, b, c, d, e]) "dealer/store.record").run Tryz.prog w = .ok (131, .agg #[a, b, c, d, e]) w := by kernel_rfl
theorem mm_apply (a b c d e : Value) (w : World) : (method 417 174 (.agg #[a, b, c, d, e]) "dealer/store.apply").run Tryz.prog w = .ok (207, .agg #[a, b, c, d, e]) w := by kernel_rfl
theorem mn_record (a b c d e : Value) (w : World) : (nilAhead 417 174 (.agg #[a, b, c, d, e]) "dealer/store.record").run Tryz.prog w = .ok (some false) w := by kernel_rfl
theorem ml_against (a : Value) (w : World) : (method 417 233 (.agg #[a]) "dealer/store.against").run Tryz.prog w = .ok (223, .agg #[a]) w := by kernel_rfl
theorem ml_record (a : Value) (w : World) : (method 417 233 (.agg #[a]) "dealer/store.record").run Tryz.prog w = .ok (132, .agg #[a]) w := by kernel_rfl
theorem ml_apply (a : Value) (w : World) : (method 417 233 (.agg #[a]) "dealer/store.apply").run Tryz.prog w = .ok (224, .agg #[a]) w := by kernel_rfl
def leaseVals (s i kd m k n c : Nat) : Nat -> Nat
 | 0 => s | 1 => i | 2 => kd | 3 => m | 4 => k | 5 => n | 6 => c | _ => 0
theorem leasingRecord_c (rb s i kd m k n c : Nat) (hs : s <= 2147483647) (hi : i <= 2147483647) (hkd : kd <= 255) (hm : m <= 255) (hk : k <= 255) (hn : n <= 255) (hc : c <= 2147483647) (w : World)
  (hr : w.heap[rb]? = some (.cells #[.int .i64 s, .int .i64 i, .int .i64 kd, .int .i64 m, .int .i64 k, .int .i64 n, .int .i64 c] 210 (0, 0))) :
  Calls Tryz.prog 132 #[.agg #[.pointer (some ⟨rb, 0, none⟩)]] w fun e w' => ∃ r : ByteArray, e = .returned (.string r) /\ r.size <= 100000 /\ Ext w w' := by
 have HW : Hid (∀ w', Ext w w' -> _) := fun w' hx => wireWrite_1 rb s i kd m k n c (leaseVals s i kd m k n c) ⟨rfl, rfl, rfl, rfl, rfl, rfl, rfl⟩ (fun j => by
  unfold leaseVals; split <;> omega) w' (hx.block hr)
 have HS : Hid ((⟨([1] ++ flatB (leaseVals s i kd m k n c) leaseL).toArray⟩ : ByteArray).size <= 100000) := by
  show ([1] ++ flatB (leaseVals s i kd m k n c) leaseL).toArray.size <= 100000
  have h1 := len_flatB (leaseVals s i kd m k n c) leaseL (fun x hx => sizes_lease x hx)
  have h2 : leaseL.length = 7 := rfl
  rw [List.size_toArray, List.length_append]
  simp at h1 ⊢
  omega
 clear hs hi hkd hm hk hn hc hr
 go_enter Tryz.func132, Tryz.ntmps132
 go_wp2_with fail
 refine (HW.out _ ((Ext.refl w).alloc _)).mono ?_
 rintro e w1 ⟨rfl, hx1⟩
 go_wp2
 go_ret
 exact ⟨_, rfl, HS.out, ((Ext.refl w).alloc _).trans hx1⟩
section
variable {B : Nat} {F : Nat -> Prop} {sv lv dv : Value} {R : List StkR} {ls : List LsV} {ops : List OpV} {fl : Bool} {ah : Int} {kn : Bool}
/-- The operations that were done have turned. -/
theorem StoreOf.setDv {w w3 : World} {dv' : Value} {ops' : List OpV} {fl' : Bool} {ah' : Int} {kn' : Bool} (h : StoreOf w B F sv lv dv R ls ops fl ah kn) (ht : Turn (fun b => b = B \/ dv.ownBlock = some b) w w3) (hd : DealAt w3 B sv lv dv' fl' ah' kn') (hl : OpsAt w3 dv' ops') (hq : ∀ q, dv'.ownBlock = some q -> q < w.heap.size -> dv.ownBlock = some q) :
  StoreOf w3 B (grow F w w3) sv lv dv' R ls ops' fl' ah' kn' := by
 have hfar : ∀ b cur t, w.heap[b]? = some (.cells cur t (0, 0)) -> t ≠ 114 -> t ≠ 134 -> ¬ (b = B \/ dv.ownBlock = some b) := fun b cur t hc h1 h2 hor => by
  rcases hor with e | e
  ·exact type_ne hc h.deal h1 e
  ·obtain ⟨cur', hc'⟩ := owns_block h.orow e
   exact type_ne hc hc' h2 rfl
 have hfm : ∀ b D n, w.ownsMap Tryz.prog 3 heldElem b n D -> ¬ (b = B \/ dv.ownBlock = some b) := fun b D n hc hor => by
  rcases hor with e | e
  ·exact map_ne h.deal hc e.symm
  ·obtain ⟨cur', hc'⟩ := owns_block h.orow e
   exact map_ne hc' hc rfl
 have hg : ∀ b, F b -> grow F w w3 b := fun b hb => .inl hb
 refine ⟨hd, ht.owns h.srow (fun q hq => let ⟨cur, hc⟩ := owns_block h.srow hq; hfar q cur _ hc (by decide) (by decide)), ht.owns h.lrow (fun q hq => let ⟨cur, hc⟩ := owns_block h.lrow hq; hfar q cur _ hc (by decide) (by decide)), hl, fun y hy => ?_, h.nb, h.nm, .inl h.fB, fun q hq => .inl (h.fs q hq), fun q hq => .inl (h.fl' q hq), fun q hq' => ?_, fun b hb => ?_⟩
 ·have hyk := h.stk y hy
  obtain ⟨D, hD, _⟩ := hyk.map
  exact (hyk.turn' ht (hfar _ _ _ hyk.blk (by decide) (by decide)) (hfm _ _ _ hD) (fun b cur hc => hfar b cur _ hc (by decide) (by decide))).mono hg
 ·by_cases e : q < w.heap.size
  ·exact .inl (h.fd _ (hq q hq' e))
  ·exact .inr ⟨by omega, owns_lt hl hq'⟩
 ·rcases hb with hb | hb
  ·exact Nat.lt_of_lt_of_le (h.lt b hb) ht.size
  ·exact hb.2
/-- Operations of a change: some, few, each one that there is. -/
def NewOps (l : List OpV) : Prop := l ≠ [] /\ l.length <= 4 /\ ∀ o ∈ l, 0 <= o.k /\ o.k <= 5
theorem new_add (b : List UInt8) : NewOps (opsAdd b) := ⟨by simp [opsAdd], by simp [opsAdd], fun o ho => by simp [opsAdd] at ho; rcases ho with rfl | rfl <;> (constructor <;> (simp only; omega))⟩
theorem new_new (b : List UInt8) : NewOps (opsNew b) := ⟨by simp [opsNew], by simp [opsNew], fun o ho => by simp [opsNew] at ho; rcases ho with rfl | rfl | rfl | rfl <;> (constructor <;> (simp only; omega))⟩
/-- Add, where the file is known, or there is nothing yet. -/
theorem add_c (r : ByteArray) (hr : r.size <= 100000) (hops : ops.length <= 1000000) (hkn : kn = true \/ sv = .slice none 0 0 /\ lv = .slice none 0 0 /\ kn = false) (w : World) (h : StoreOf w B F sv lv dv R ls ops false ah kn) :
  Calls Tryz.prog 144 #[.pointer (some ⟨B, 2, none⟩), .string r, .func (.func 92) #[.pointer (some ⟨B, 0, none⟩)] #[]] w fun e w' =>
   ∃ dv' new, e = .returned (.bool true) /\ StoreOf w' B (grow F w w') sv lv dv' R ls (ops ++ new) false ah true /\ NewOps new /\ Turn (fun b => b = B \/ dv.ownBlock = some b) w w' := by
 rcases hkn with rfl | ⟨rfl, rfl, rfl⟩
 ·refine (addKnown_c B ops.length r _ sv lv dv ah (opCells ops) w h.deal h.orow hr hops).mono ?_
  rintro e w' ⟨dv', rfl, h1, h2, h3, h4⟩
  refine ⟨dv', opsAdd (frameB r.data.toList), rfl, h.setDv h3 h1 ?_ h4, new_add _, h3⟩
  show World.ownsRow _ 0 134 4 dv' _ _
  rw [opCells_append, List.length_append]
  exact h2
 ·refine (addNew0_c B ops.length r dv ah (opCells ops) w h.deal h.orow hr hops).mono ?_
  rintro e w' ⟨dv', rfl, h1, h2, h3, h4⟩
  refine ⟨dv', opsNew (flatF [r]), rfl, h.setDv h3 h1 ?_ h4, new_new _, h3⟩
  show World.ownsRow _ 0 134 4 dv' _ _
  rw [opCells_append, List.length_append]
  exact h2
end
end
-- GDl
section
set_option maxRecDepth 100000
set_option maxHeartbeats 1600000
open Go.RowKit Go.Maps
section
variable {B : Nat} {F : Nat -> Prop} {sv lv dv : Value} {R : List StkR} {ls : List LsV} {ops : List OpV} {fl : Bool} {ah : Int} {kn : Bool}
/-- A lease that is refused. -/
theorem doLeaseNo_c (rb : Nat) (kd m k n ss ii c : Int) (hR : R.length <= 100) (hls : ls.length <= 1000) (hRm : ∀ x ∈ R, x.ts.length <= 1000 /\ x.leased <= 1000) (hno : ls.findIdx? (isNamed ss ii) = none) (hcd : leaseCode R ls kd m k n c ≠ 0) (w : World) (h : StoreOf w B F sv lv dv R ls ops fl ah kn) (hr : LeaseReq w rb ss ii kd m k n c) :
  Calls Tryz.prog 98 #[.pointer (some ⟨B, 0, none⟩), .iface 233 (.agg #[.pointer (some ⟨rb, 0, none⟩)])] w fun e w' => e = .returned (.int .i64 (leaseCode R ls kd m k n c)) /\ Ext w w' := by
 have h1 := ml_against
 have HA : Hid (∀ w', Ext w w' -> _) := fun w' hx => leasingAgainst_c rb kd m k n ss ii c hR hls hRm hno w' (h.ext hx) (hx.block hr)
 clear h hr hRm hno
 generalize leaseCode R ls kd m k n c = cd at *
 go_enter Tryz.func98, Tryz.ntmps98
 go_wp2_with fail
 refine (HA.out _ (Ext.refl _)).mono ?_
 rintro e w1 ⟨rfl, hx1⟩
 go_wp2
 go_ret
 exact ⟨rfl, hx1⟩
/-- A lease that is made. -/
theorem doLease_c (rb ix kd m k n ss ii c : Nat) (hss : ss <= 2147483647) (hii : ii <= 2147483647) (hkd : kd <= 255 /\ m <= 255 /\ k <= 255 /\ n <= 255) (hc : c <= 100) (hR : R.length <= 100) (hls : ls.length <= 1000) (hops : ops.length <= 1000000) (hRm : ∀ x ∈ R, x.ts.length <= 1000 /\ x.leased <= 1000) (hno : ls.findIdx? (isNamed ss ii) = none) (hcd : leaseCode R ls kd m k n c = 0) (hix : ix < R.length) (hf : R.find? (fun x => x.is kd m k n) = some R[ix]) (w : World) (h : StoreOf w B F sv lv dv R ls ops false ah true) (hr : LeaseReq w rb ss ii kd m k n c) (hrF : ¬ F rb) :
  Calls Tryz.prog 98 #[.pointer (some ⟨B, 0, none⟩), .iface 233 (.agg #[.pointer (some ⟨rb, 0, none⟩)])] w fun e w' => ∃ lv' dv' new, e = .returned (.int .i64 0) /\ StoreOf w' B (grow F w w') sv lv' dv' (R.set ix (R[ix].lend c)) (ls ++ [⟨ss, ii, kd, m, k, n, R[ix].leased, c, false⟩]) (ops ++ new) false ah true /\ NewOps new /\ Turn F w w' := by
 have h1 := ml_against
 have h2 := ml_record
 have h3 := ml_apply
 have HA : Hid (∀ w', Ext w w' -> _) := fun w' hx => leasingAgainst_c rb kd m k n ss ii c hR hls hRm hno w' (h.ext hx) (hx.block hr)
 rw [hcd] at HA
 have HRc : Hid (∀ w', Ext w w' -> _) := fun w' hx => leasingRecord_c rb ss ii kd m k n c hss hii hkd.1 hkd.2.1 hkd.2.2.1 hkd.2.2.2 (by omega) w' (hx.block hr)
 have H : Hid _ := h
 have HR : Hid (LeaseReq w rb ss ii kd m k n c) := hr
 have HAp : Hid (∀ w' F' dv' ops', StoreOf w' B F' sv lv dv' R ls ops' false ah true -> LeaseReq w' rb ss ii kd m k n c -> _) := fun w' F' dv' ops' h hr => leasingApply_c rb ix kd m k n ss ii c hc hR hls hix hf (hRm R[ix] (List.getElem_mem hix)).2 w' h hr
 have HXB : Hid (F R[ix].blk) := (h.stk R[ix] (List.getElem_mem hix)).fb
 have HNF : Hid (¬ F rb) := hrF
 have HOps : Hid (ops.length <= 1000000) := hops
 clear h hr hRm hno hcd hf hrF hops hss hii hkd hls hR
 generalize R[ix] = X at *
 go_enter Tryz.func98, Tryz.ntmps98
 go_wp2_with fail
 refine (HA.out _ (Ext.refl _)).mono ?_
 rintro e w1 ⟨rfl, hx1⟩
 have HX1 : Hid (Ext w w1) := hx1
 clear hx1
 go_wp2_with fail
 go_region_held3 (fun _ => True) (trivial) (first
  | (go_at_call 132; refine (HRc.out _ (Ext.chain HX1.out (Ext.refl _)).drew).mono ?_; rintro e w2 ⟨rs, rfl, hrs, hx2⟩)
  | (go_at_call 144; refine (add_c rs hrs HOps.out (.inl rfl) _ (H.out.ext (Ext.chain hx2 (Ext.drew HX1.out)))).mono ?_; rintro e w3 ⟨dv', new, rfl, hS3, hnew, ht3⟩))
 all_goals
  have HX2 : Hid (Ext w w2) := Ext.chain hx2 (Ext.drew HX1.out)
  have HTT : Hid (Turn (fun b => b = B \/ dv.ownBlock = some b) w w3) := (Turn.of_ext HX2.out).trans ht3
  have HTF : Hid (Turn F w w3) := HTT.out.mono (fun b _ hb => hb.elim (fun e => e ▸ H.out.fB) (fun e => H.out.fd b e))
  have HR3 : Hid (LeaseReq w3 rb ss ii kd m k n c) := HTF.out.ref HR.out HNF.out
  have HS3 : Hid (StoreOf w3 B (grow F w2 w3) sv lv dv' R ls (ops ++ new) false ah true /\ NewOps new) := ⟨hS3, hnew⟩
  clear hx2 hS3 hnew ht3
  go_wp2_with fail
  refine (HAp.out w3 _ dv' _ HS3.out.1 HR3.out).mono ?_
  rintro e w4 ⟨lv', rfl, q1, q2⟩
  have HQ : Hid _ := And.intro q1 q2
  clear q1 q2
  go_wp2
  go_ret
  obtain ⟨q1, q2⟩ := HQ.out
  have hs2 := HX2.out.le
  have hs3 := HTT.out.size
  have hs4 := q2.size
  refine ⟨lv', dv', new, rfl, q1.mono (fun b hb => ?_) (fun b hb => ?_), HS3.out.2, HTF.out.trans' q2 (fun b hb hor => ?_)⟩
  ·rcases hb with hb | hb
   ·rcases hb with hb | hb
    ·exact .inl hb
    ·exact .inr ⟨by omega, by omega⟩
   ·exact .inr ⟨by omega, by omega⟩
  ·rcases hb with hb | hb
   ·have := H.out.lt b hb
    omega
   ·exact hb.2
  ·rcases hor with e | e | e
   ·exact e ▸ H.out.fB
   ·exact H.out.fl' b e
   ·exact e ▸ HXB.out
end
end
-- GDm
section
set_option maxRecDepth 100000
set_option maxHeartbeats 1600000
open Go.RowKit Go.Maps
/-- A stock, wherever it lies. -/
structure Stk where
 kd : Nat
 m : Nat
 k : Nat
 n : Nat
 ts : List (List Int × Bool)
 leased : Nat
def StkR.abs (x : StkR) : Stk := ⟨x.kd, x.m, x.k, x.n, x.ts, x.leased⟩
def Stk.is (x : Stk) (kd m k n : Int) : Bool := (x.kd : Int) == kd && ((x.m : Int) == m && ((x.k : Int) == k && (x.n : Int) == n))
def Stk.more (x : Stk) (us : List (List Int)) : Stk := { x with ts := x.ts ++ us.map (fun u => (u, true)) }
/-- Triples are made. -/
def makeS (S : List Stk) (kd m k n : Nat) (us : List (List Int)) : List Stk := match S.findIdx? (fun x => x.is kd m k n) with
 | some i => S.modify i (fun x => x.more us)
 | none => S ++ [⟨kd, m, k, n, us.map (fun u => (u, true)), 0⟩]
theorem find_idx {α : Type} {p : α -> Bool} {l : List α} {i : Nat} (h : l.findIdx? p = some i) : ∃ hi : i < l.length, l.find? p = some l[i] := by
 obtain ⟨hi, h1, h2⟩ := List.findIdx?_eq_some_iff_getElem.1 h
 refine ⟨hi, ?_⟩
 rw [List.find?_eq_some_iff_getElem]
 exact ⟨h1, i, hi, rfl, fun j hj => by simpa using h2 j hj⟩
theorem find_none_idx {α : Type} {p : α -> Bool} {l : List α} (h : l.findIdx? p = none) : l.find? p = none := by
 rw [List.find?_eq_none]
 intro x hx
 have := List.findIdx?_eq_none_iff.1 h x hx
 simp [this]
theorem idx_abs (R : List StkR) (kd m k n : Int) : (R.map StkR.abs).findIdx? (fun x => x.is kd m k n) = R.findIdx? (fun x => x.is kd m k n) := by
 rw [List.findIdx?_map]
 rfl
section
variable {B : Nat} {F : Nat -> Prop} {sv lv dv : Value} {R : List StkR} {ls : List LsV} {ops : List OpV} {fl : Bool} {ah : Int} {kn : Bool}
/-- What stands against making. -/
def makeCode (S : List Stk) (kd m k n : Int) (t : Nat) : Int := match S.find? (fun x => x.is kd m k n) with
 | some x => if 200 < x.ts.length + t then 4 else 0
 | none => if 6 <= S.length \/ 200 < t then 4 else 0
theorem makeCode_abs (R : List StkR) (kd m k n : Int) (t : Nat) : makeCode (R.map StkR.abs) kd m k n t = match R.find? (fun x => x.is kd m k n) with | some x => if 200 < x.ts.length + t then 4 else 0 | none => if 6 <= R.length \/ 200 < t then 4 else 0 := by
 unfold makeCode
 rw [List.find?_map, List.length_map]
 show (match Option.map StkR.abs (R.find? fun x => x.is kd m k n) with | some x => _ | none => _) = _
 cases R.find? (fun x => x.is kd m k n) <;> rfl
theorem doMakingNo_c (kd m k n : Nat) (tv : Option Addr) (t tcap : Nat) (ht : t <= 1000) (hR : R.length <= 100) (hRm : ∀ x ∈ R, x.ts.length <= 1000) (hcd : makeCode (R.map StkR.abs) kd m k n t ≠ 0) (w : World) (h : StoreOf w B F sv lv dv R ls ops fl ah kn) :
  Calls Tryz.prog 98 #[.pointer (some ⟨B, 0, none⟩), .iface 174 (.agg #[.int .i64 kd, .int .i64 m, .int .i64 k, .int .i64 n, .slice tv t tcap])] w fun e w' => e = .returned (.int .i64 (makeCode (R.map StkR.abs) kd m k n t)) /\ Ext w w' := by
 have h1 := mm_against
 have HA : Hid (∀ w', Ext w w' -> Calls Tryz.prog 206 #[.agg #[.int .i64 kd, .int .i64 m, .int .i64 k, .int .i64 n, .slice tv t tcap], .pointer (some ⟨B, 0, none⟩)] w' fun e w'' => e = .returned (.int .i64 (makeCode (R.map StkR.abs) kd m k n t)) /\ Ext w' w'') := fun w' hx => by
  have := makingAgainst_c kd m k n tv t tcap ht hR hRm w' (h.ext hx)
  exact this.mono fun e w'' h => ⟨h.1.trans (by rw [makeCode_abs]; cases R.find? (fun x : StkR => x.is (kd : Int) m k n) <;> rfl), h.2⟩
 clear h hRm
 generalize makeCode (R.map StkR.abs) kd m k n t = cd at *
 go_enter Tryz.func98, Tryz.ntmps98
 go_wp2_with fail
 refine (HA.out _ (Ext.refl _)).mono ?_
 rintro e w1 ⟨rfl, hx1⟩
 go_wp2
 go_ret
 exact ⟨rfl, hx1⟩
/-- stockFor, both ways. -/
def ForP (R : List StkR) (kd m k n : Nat) (R1 : List StkR) (ix : Nat) : Prop :=
 (R1 = R /\ R.findIdx? (fun x => x.is kd m k n) = some ix) \/ (R.findIdx? (fun x => x.is kd m k n) = none /\ ix = R.length /\ ∃ gk mb, R1 = R ++ [⟨gk, mb, kd, m, k, n, [], 0⟩])
theorem is_cls {x : StkR} {kd m k n : Nat} (h : x.is kd m k n = true) : x.kd = kd /\ x.m = m /\ x.k = k /\ x.n = n := by
 have h2 : (x.kd : Int) = kd /\ (x.m : Int) = m /\ (x.k : Int) = k /\ (x.n : Int) = n := by simpa [StkR.is, StkR.v, StkV.is] using h
 omega
theorem ForP.sh {kd m k n : Nat} {R1 : List StkR} {ix : Nat} (h : ForP R kd m k n R1 ix) (hi : ix < R1.length) : R1[ix].sh = shOf kd m k n := by
 rcases h with ⟨rfl, h⟩ | ⟨_, rfl, gk, mb, rfl⟩
 ·obtain ⟨_, h1, _⟩ := List.findIdx?_eq_some_iff_getElem.1 h
  obtain ⟨e1, e2, e3, e4⟩ := is_cls h1
  rw [StkR.sh, e1, e2, e3, e4]
 ·simp [StkR.sh]
theorem forStock_c (kd m k n : Nat) (hR : R.length <= 100) (hRm : ∀ x ∈ R, x.ts.length <= 1000) (w : World) (h : StoreOf w B F sv lv dv R ls ops fl ah kn) :
  Calls Tryz.prog 208 #[.pointer (some ⟨B, 0, none⟩), clsV kd m k n] w fun e w'' => ∃ R1 sv1 ix F1, ∃ hix : ix < R1.length, e = .returned (.pointer (some ⟨R1[ix].blk, 0, none⟩)) /\ ForPost w w'' B F sv lv dv ls ops fl ah kn (ForP R kd m k n) R1 sv1 ix F1 hix := by
 cases hf : R.findIdx? (fun x => x.is kd m k n) with
 | some ix =>
  obtain ⟨hi, hfi⟩ := find_idx hf
  refine (stockSome_c kd m k n hR R[ix] hfi w h).mono ?_
  rintro e w' ⟨rfl, hx⟩
  exact ⟨R, sv, ix, F, hi, rfl, h.ext hx, .inl ⟨rfl, hf⟩, Turn.of_ext hx, fun _ hb => hb, fun _ hb => .inl hb, hRm _ (List.getElem_mem hi)⟩
 | none =>
  refine (stockNew_c kd m k n hR (find_none_idx hf) w h).mono ?_
  rintro e w' ⟨gk, mb, sv', rfl, hs, ht⟩
  refine ⟨_, sv', R.length, grow F w w', by simp, by simp, hs, .inr ⟨hf, rfl, gk, mb, rfl⟩, ht, fun _ hb => .inl hb, fun _ hb => hb.imp id (fun h => h.1), by simp⟩
theorem make_abs {kd m k n : Nat} {R1 : List StkR} {ix : Nat} {us : List (List Int)} (h : ForP R kd m k n R1 ix) (hi : ix < R1.length) : (R1.set ix (R1[ix].more us)).map StkR.abs = makeS (R.map StkR.abs) kd m k n us := by
 unfold makeS
 rw [idx_abs]
 rcases h with ⟨rfl, h⟩ | ⟨h, rfl, gk, mb, rfl⟩
 ·rw [h]
  apply List.ext_getElem (by simp)
  intro j h1 h2
  simp only [List.getElem_map, List.getElem_set, List.getElem_modify]
  by_cases e : ix = j
  ·subst e
   simp [StkR.abs, StkR.more, Stk.more]
  ·simp [e]
 ·rw [h]
  simp [StkR.abs, StkR.more]
/-- Triples that are made. -/
theorem doMaking_c (kd m k n gt tcap t : Nat) (us : List (List Int)) (hus : us.length = t) (ht1 : t <= 200) (hsx : 1 <= (shOf kd m k n).x + (shOf kd m k n).y + (shOf kd m k n).z /\ (shOf kd m k n).x + (shOf kd m k n).y + (shOf kd m k n).z <= 27)
  (hul : ∀ u ∈ us, (part0 (shOf kd m k n) u).length = (shOf kd m k n).x + (shOf kd m k n).y + (shOf kd m k n).z /\ (part1 (shOf kd m k n) u).length = (shOf kd m k n).x + (shOf kd m k n).y + (shOf kd m k n).z /\ inU64 (part0 (shOf kd m k n) u) /\ inU64 (part1 (shOf kd m k n) u))
  (hR : R.length <= 100) (hRm : ∀ x ∈ R, x.ts.length <= 1000) (hops : ops.length <= 1000000) (hcd : makeCode (R.map StkR.abs) kd m k n t = 0) (hkn : kn = true \/ sv = .slice none 0 0 /\ lv = .slice none 0 0 /\ kn = false) (w : World) (h : StoreOf w B F sv lv dv R ls ops false ah kn) (htr : TriRow w F gt (shOf kd m k n) us) :
  Calls Tryz.prog 98 #[.pointer (some ⟨B, 0, none⟩), .iface 174 (.agg #[.int .i64 kd, .int .i64 m, .int .i64 k, .int .i64 n, .slice (some ⟨gt, 0, none⟩) t tcap])] w fun e w' => ∃ R' sv' dv' new, e = .returned (.int .i64 0) /\ StoreOf w' B (grow F w w') sv' lv dv' R' ls (ops ++ new) false ah true /\ R'.map StkR.abs = makeS (R.map StkR.abs) kd m k n us /\ NewOps new /\ Turn F w w' := by
 have h1 := mm_against
 have h2 := mm_record
 have h3 := mm_apply
 have h4 := mn_record
 have HA : Hid (∀ w', Ext w w' -> Calls Tryz.prog 206 #[.agg #[.int .i64 kd, .int .i64 m, .int .i64 k, .int .i64 n, .slice (some ⟨gt, 0, none⟩) t tcap], .pointer (some ⟨B, 0, none⟩)] w' fun e w'' => e = .returned (.int .i64 0) /\ Ext w' w'') := fun w' hx => by
  have := makingAgainst_c kd m k n (some ⟨gt, 0, none⟩) t tcap (by omega) hR hRm w' (h.ext hx)
  have t2 := this.mono (R' := fun e w'' => e = .returned (.int .i64 (makeCode (R.map StkR.abs) kd m k n t)) /\ Ext w' w'') fun e w'' h => ⟨h.1.trans (by rw [makeCode_abs]; cases R.find? (fun x : StkR => x.is (kd : Int) m k n) <;> rfl), h.2⟩
  rwa [hcd] at t2
 have htE : ∀ w', Ext w w' -> TriRow w' F gt (shOf kd m k n) us := fun w' hx => htr.turn (S := fun _ => False) (Turn.of_ext hx) id (fun _ _ _ => id)
 have HRc : Hid (∀ w', Ext w w' -> _) := fun w' hx => makingRecord_c kd m k n gt tcap t F (shOf kd m k n) hsx.1 hsx.2 us hus ht1 hul w' (htE w' hx)
 have H : Hid _ := h
 have HTR : Hid (TriRow w F gt (shOf kd m k n) us) := htr
 have HAp : Hid (∀ w' F' dv' ops', StoreOf w' B F' sv lv dv' R ls ops' false ah true -> TriRow w' F' gt (shOf kd m k n) us -> _) := fun w' F' dv' ops' h ht =>
  makingApply_c (F := F') (sv := sv) (lv := lv) (dv := dv') (ls := ls) (ops := ops') (fl := false) (ah := ah) (kn := true) kd m k n (shOf kd m k n) hsx gt tcap us t hus (by omega) (ForP R kd m k n) (fun R1 ix hp hi => hp.sh hi) w' h.deal.lt (fun w'' hx => forStock_c kd m k n hR hRm w'' (h.ext hx)) ht
   ⟨by obtain ⟨cur, hc⟩ := ht.2; exact type_ne hc h.deal (by decide), fun e => by obtain ⟨cur, hc⟩ := ht.2; obtain ⟨cur', hc'⟩ := owns_block h.srow e; exact type_ne hc hc' (by decide) rfl⟩ (fun q hq => owns_block h.srow hq) ⟨_, h.deal⟩
 have HOps : Hid (ops.length <= 1000000) := hops
 have HKn : Hid (kn = true \/ sv = .slice none 0 0 /\ lv = .slice none 0 0 /\ kn = false) := hkn
 clear h htr hRm hcd hops hkn hul hus htE
 go_enter Tryz.func98, Tryz.ntmps98
 go_wp2_with fail
 refine (HA.out _ (Ext.refl _)).mono ?_
 rintro e w1 ⟨rfl, hx1⟩
 have HX1 : Hid (Ext w w1) := hx1
 clear hx1
 go_wp2_with fail
 go_region_held3 (fun _ => True) (trivial) (first
  | (go_at_call 131; refine (HRc.out _ (Ext.chain HX1.out (Ext.refl _)).drew).mono ?_; rintro e w2 ⟨rs, rfl, hrs, hx2⟩)
  | (go_at_call 144; refine (add_c rs hrs HOps.out HKn.out _ (H.out.ext (Ext.chain hx2 (Ext.drew HX1.out)))).mono ?_; rintro e w3 ⟨dv', new, rfl, hS3, hnew, ht3⟩))
 all_goals
  have HX2 : Hid (Ext w w2) := Ext.chain hx2 (Ext.drew HX1.out)
  have HTT : Hid (Turn (fun b => b = B \/ dv.ownBlock = some b) w w3) := (Turn.of_ext HX2.out).trans ht3
  have HTF : Hid (Turn F w w3) := HTT.out.mono (fun b _ hb => hb.elim (fun e => e ▸ H.out.fB) (fun e => H.out.fd b e))
  have HTR3 : Hid (TriRow w3 (grow F w2 w3) gt (shOf kd m k n) us) := by
   refine (HTR.out.turn HTT.out (fun hor => ?_) (fun b cur hc hor => ?_)).mono (fun b hb => .inl hb)
   ·obtain ⟨cur, hc⟩ := HTR.out.2
    rcases hor with e | e
    ·exact type_ne hc H.out.deal (by decide) e
    ·obtain ⟨cur', hc'⟩ := owns_block H.out.orow e
     exact type_ne hc hc' (by decide) rfl
   ·rcases hor with e | e
    ·exact type_ne hc H.out.deal (by decide) e
    ·obtain ⟨cur', hc'⟩ := owns_block H.out.orow e
     exact type_ne hc hc' (by decide) rfl
  have HS3 : Hid (StoreOf w3 B (grow F w2 w3) sv lv dv' R ls (ops ++ new) false ah true /\ NewOps new) := ⟨hS3, hnew⟩
  clear hx2 hS3 hnew ht3
  go_wp2_with fail
  refine (HAp.out w3 _ dv' _ HS3.out.1 HTR3.out).mono ?_
  rintro e w4 ⟨R1, sv1, ix, F1, hix, rfl, q1, q2, q3, q4, q5⟩
  have HQ : Hid _ := And.intro q1 (And.intro q2 (And.intro q3 (And.intro q4 q5)))
  clear q1 q2 q3 q4 q5
  go_wp2
  go_ret
  obtain ⟨q1, q2, q3, q4, q5⟩ := HQ.out
  have hs2 := HX2.out.le
  have hs3 := HTT.out.size
  have hs4 := q5.size
  refine ⟨_, sv1, dv', new, rfl, q1.mono (fun b hb => ?_) (fun b hb => ?_), make_abs q2 hix, HS3.out.2, HTF.out.trans' q5 (fun b hb hor => ?_)⟩
  ·have hl := q1.lt b hb
   rcases q4 b hb with hb | hb
   ·rcases hb with hb | hb
    ·exact .inl hb
    ·exact .inr ⟨by omega, by omega⟩
   ·exact .inr ⟨by omega, hl⟩
  ·rcases hb with hb | hb
   ·have := H.out.lt b hb
    omega
   ·exact hb.2
  ·rcases hor with e | e | e
   ·exact e ▸ H.out.fB
   ·exact H.out.fs b e
   ·rcases q4 b e with e | e
    ·rcases e with e | e
     ·exact e
     ·omega
    ·omega
end
end
end Go.Proofs.YtmnjhhachdlmkaaGreat
