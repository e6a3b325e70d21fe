import Derived.Deep.RegionHeld
import Derived.Test.YtmnjhhachdlmkaaGreatK04
import Derived.Test.YtmnjhhachdlmkaaGreatK01
namespace Go.Proofs.YtmnjhhachdlmkaaGreat
open List renaming getElem_toArray -> lA, getElem_cons_succ -> lB, getElem_cons_zero -> lC, setIfInBounds_toArray -> lD, set_cons_zero -> lE, set_cons_succ -> lF
open World renaming block_lt_of_cell? -> lG
open Value renaming ownBlock -> lH
-- GLa
section
set_option maxRecDepth 100000
set_option maxHeartbeats 3200000
open Go.RowKit Go.Maps
section
variable {B : Nat} {F : Nat -> Prop} {sv lv dv : Value} {R : List StkR} {ls : List LsV} {ops : List OpV} {fl : Bool} {ah : Int} {kn : Bool}
theorem infoLease : (Tryz.prog.info? 56).map (fun i => (i.zero, i.size, i.bytes)) = some (some (.agg #[.int .i64 0, .int .i64 0, .int .i64 0, .int .i64 0, .int .i64 0, .int .i64 0, .int .i64 0, .int .i64 0, .bool false]), 9, 72) := by kernel_rfl
theorem StoreOf.setLv {w w3 : World} {lv' : Value} {ls' : List LsV} {fl' : Bool} {ah' : Int} {kn' : Bool} (h : StoreOf w B F sv lv dv R ls ops fl ah kn) (ht : Turn (fun b => b = B \/ lv.ownBlock = some b) w w3) (hd : DealAt w3 B sv lv' dv fl' ah' kn') (hl : LeasesAt w3 lv' ls') (hq : ∀ q, lv'.ownBlock = some q -> lv.ownBlock = some q \/ w.heap.size <= q) (hln : 1 <= ls'.length) :
  StoreOf w3 B (grow F w w3) sv lv' dv R ls' ops fl' ah' kn' := by
 have hfar : ∀ b cur t, w.heap[b]? = some (.cells cur t (0, 0)) -> t ≠ 114 /\ t ≠ 112 -> t ≠ 56 -> ¬ (b = B \/ lv.ownBlock = some b) := fun b cur t hc h1 h2 hor => by
  rcases hor with e | e
  ·exact h.deal.tne hc h1 e
  ·obtain ⟨cur', hc'⟩ := owns_block h.lrow e
   exact type_ne hc hc' h2 rfl
 have hfm : ∀ b D n, w.ownsMap Tryz.prog 3 heldElem b n D -> ¬ (b = B \/ lv.ownBlock = some b) := fun b D n hc hor => by
  rcases hor with e | e
  ·exact h.deal.mne hc e.symm
  ·obtain ⟨cur', hc'⟩ := owns_block h.lrow e
   exact map_ne hc' hc rfl
 have hg : ∀ b, F b -> grow F w w3 b := fun b hb => .inl hb
 refine ⟨hd, ht.owns h.srow (fun q hq => let ⟨cur, hc⟩ := owns_block h.srow hq; hfar q cur _ hc (by decide) (by decide)), hl, ht.owns h.orow (fun q hq => let ⟨cur, hc⟩ := owns_block h.orow hq; hfar q cur _ hc (by decide) (by decide)), fun y hy => ?_, h.nb, h.nm, .inl h.fB, fun q hq => .inl (h.fs q hq), fun q hq' => ?_, fun q hq => .inl (h.fd q hq), fun b hb => ?_, .inr hln, h.dnil⟩
 ·have hyk := h.stk y hy
  obtain ⟨D, hD, _⟩ := hyk.map
  exact (hyk.turn' ht (hfar _ _ _ hyk.blk (by decide) (by decide)) (hfm _ _ _ hD) (fun b cur hc => hfar b cur _ hc (by decide) (by decide))).mono hg
 ·rcases hq q hq' with e | e
  ·exact .inl (h.fl' _ e)
  ·exact .inr ⟨e, owns_lt hl hq'⟩
 ·rcases hb with hb | hb
  ·exact Nat.lt_of_lt_of_le (h.lt b hb) ht.size
  ·exact hb.2
def StkR.lend (x : StkR) (c : Nat) : StkR := { x with leased := x.leased + c }
theorem StkAt.lend {w w' : World} {x : StkR} {c : Nat} (h : StkAt w F x) (ht : Turn (fun b => b = x.blk) w w') (hb : w'.heap[x.blk]? = some (.cells (x.lend c).row 154 (0, 0))) : StkAt w' F (x.lend c) := by
 obtain ⟨D, hD, hK⟩ := h.map
 exact ⟨hb, ⟨D, map_turn hD ht (fun e => map_ne h.blk hD e.symm), hK.turn' ht (fun b cur hc e => type_ne hc h.blk (by decide) e)⟩, h.fb, h.fm⟩
theorem StoreOf.lend {w : World} (h : StoreOf w B F sv lv dv R ls ops fl ah kn) (ix : Nat) (hix : ix < R.length) (c : Nat) : StoreOf (w.setCell ⟨R[ix].blk, 5, none⟩ (.int .i64 ((R[ix].leased : Int) + c))) B F sv lv dv (R.set ix (R[ix].lend c)) ls ops fl ah kn := by
 have hx := h.stk R[ix] (List.getElem_mem hix)
 have ht : Turn (fun b => b = R[ix].blk) w (w.setCell ⟨R[ix].blk, 5, none⟩ (.int .i64 ((R[ix].leased : Int) + c))) := Turn.setCell (S := fun b => b = R[ix].blk) (p := ⟨R[ix].blk, 5, none⟩) (Turn.refl _ w) (fun _ => rfl) _
 refine h.setStk ix hix (R[ix].lend c) rfl rfl (ht.mono (fun _ _ e => .inl e)) (hx.lend ht ?_)
 have h5 := setCell_row (i := 5) hx.blk (.int .i64 ((R[ix].leased : Int) + c))
 have e : R[ix].row.setIfInBounds 5 (.int .i64 ((R[ix].leased : Int) + c)) = (R[ix].lend c).row := by
  simp [StkR.row, StkR.lend]
 rw [e] at h5
 exact h5
theorem grow_size {F : Nat -> Prop} {w w' w'' : World} (h : w'.heap.size = w''.heap.size) : grow F w w' = grow F w w'' := by
 unfold grow
 rw [h]
theorem leasingApply_c (rb ix : Nat) (kd m k n ss ii : Int) (c : Nat) (hc : c <= 100) (hR : R.length <= 100) (hls : ls.length <= 1000) (hix : ix < R.length) (hf : R.find? (fun x => x.is kd m k n) = some R[ix]) (hle : R[ix].leased <= 1000) (w : World) (h : StoreOf w B F sv lv dv R ls ops fl ah kn) (hr : LeaseReq w rb ss ii kd m k n c) :
  Calls Tryz.prog 224 #[.agg #[.pointer (some ⟨rb, 0, none⟩)], .pointer (some ⟨B, 0, none⟩)] w fun e w' => ∃ lv', e = .returned (.tuple #[]) /\ StoreOf w' B (grow F w w') sv lv' dv (R.set ix (R[ix].lend c)) (ls ++ [⟨ss, ii, kd, m, k, n, R[ix].leased, c, false⟩]) ops fl ah kn /\ Turn (fun b => b = B \/ lv.ownBlock = some b \/ b = R[ix].blk) w w' := by
 have H : Hid _ := h
 have HR : Hid (LeaseReq w rb ss ii kd m k n c) := hr
 have r0 := cell_at hr (i := 0) rfl
 have r1 := cell_at hr (i := 1) rfl
 have r2 := cell_at hr (i := 2) rfl
 have r3 := cell_at hr (i := 3) rfl
 have r4 := cell_at hr (i := 4) rfl
 have r5 := cell_at hr (i := 5) rfl
 have r6 := cell_at hr (i := 6) rfl
 have hrl := lG w _ r0
 have HF : Hid (∀ w', Ext w w' -> Calls Tryz.prog 168 #[.pointer (some ⟨B, 0, none⟩), .agg #[.int .i64 kd, .int .i64 m, .int .i64 k, .int .i64 n]] w' fun e w'' => e = .returned (.pointer (some ⟨R[ix].blk, 0, none⟩)) /\ Ext w' w'') := fun w' hx => by
  have := findR_c kd m k n hR w' (h.ext hx)
  rwa [stkPtr, hf] at this
 have hxk := h.stk R[ix] (List.getElem_mem hix)
 have k5 : w.cell? ⟨R[ix].blk, 5, none⟩ = some (.int .i64 R[ix].leased) := (cell_of_row w R[ix].blk 5 _ _ _ hxk.blk).trans rfl
 have HXB : Hid (w.heap[R[ix].blk]? = some (.cells R[ix].row 154 (0, 0))) := hxk.blk
 clear h hr hf hxk
 obtain ⟨blk, hblk⟩ : ∃ blk, R[ix].blk = blk := ⟨_, rfl⟩
 obtain ⟨le, hleE⟩ : ∃ le, R[ix].leased = le := ⟨_, rfl⟩
 have HBE : Hid (R[ix].blk = blk /\ R[ix].leased = le) := ⟨hblk, hleE⟩
 rw [hblk] at k5 HF HXB
 rw [hleE] at k5 hle
 clear hblk hleE
 go_enter Tryz.func224, Tryz.ntmps224
 go_wp2_with fail
 refine (HF.out _ ((Ext.refl w).alloc _)).mono ?_
 rintro e w1 ⟨rfl, hx1⟩
 have q0 := cell_in hx1 0 rfl
 have HX1 : Hid (Ext w w1) := ((Ext.refl w).alloc _).trans hx1
 have H1 : Hid (StoreOf w1 B F sv lv dv R ls ops fl ah kn) := H.out.ext HX1.out
 have r0 := HX1.out.cell r0
 have r1 := HX1.out.cell r1
 have r2 := HX1.out.cell r2
 have r3 := HX1.out.cell r3
 have r4 := HX1.out.cell r4
 have r5 := HX1.out.cell r5
 have r6 := HX1.out.cell r6
 have k5 := HX1.out.cell k5
 obtain ⟨_, c1, _⟩ := DealAt.cells H1.out.deal
 clear hx1
 have hB1 := DealAt.lt H1.out.deal
 have hB0 := DealAt.lt H.out.deal
 have hlw := lG w1 _ q0
 have hnw : B ≠ w.heap.size := by omega
 have hnr : B ≠ rb := (H.out.deal.tne HR.out (by decide)).symm
 have hnk : B ≠ blk := (H.out.deal.tne HXB.out (by decide)).symm
 have HLv : Hid (∀ q, lv.ownBlock = some q -> q < w.heap.size /\ q ≠ B /\ q ≠ rb /\ q ≠ blk) := fun q hq => by
  obtain ⟨cur, hcur⟩ := owns_block H.out.lrow hq
  exact ⟨owns_lt H.out.lrow hq, H.out.deal.tne hcur (by decide), type_ne hcur HR.out (by decide), type_ne hcur HXB.out (by decide)⟩
 have SD : Hid (∀ w', Turn (fun b => lv.ownBlock = some b) w1 w' -> (fun w' => w'.cell? ⟨w.heap.size, 0, none⟩ = some (.pointer (some ⟨rb, 0, none⟩)) /\ w'.cell? ⟨rb, 0, none⟩ = some (.int .i64 ss) /\ w'.cell? ⟨rb, 1, none⟩ = some (.int .i64 ii) /\ w'.cell? ⟨rb, 2, none⟩ = some (.int .i64 kd) /\ w'.cell? ⟨rb, 3, none⟩ = some (.int .i64 m) /\ w'.cell? ⟨rb, 4, none⟩ = some (.int .i64 k) /\ w'.cell? ⟨rb, 5, none⟩ = some (.int .i64 n) /\ w'.cell? ⟨rb, 6, none⟩ = some (.int .i64 c) /\ w'.cell? ⟨blk, 5, none⟩ = some (.int .i64 le)) w') := fun w' hx => by
  have f0 : ¬ lv.ownBlock = some w.heap.size := fun e => by have := (HLv.out _ e).1; omega
  have f1 : ¬ lv.ownBlock = some rb := fun e => (HLv.out _ e).2.2.1 rfl
  have f2 : ¬ lv.ownBlock = some blk := fun e => (HLv.out _ e).2.2.2 rfl
  exact ⟨hx.cell q0 f0, hx.cell r0 f1, hx.cell r1 f1, hx.cell r2 f1, hx.cell r3 f1, hx.cell r4 f1, hx.cell r5 f1, hx.cell r6 f1, hx.cell k5 f2⟩
 obtain ⟨i0, hi, hz0, hz1, hz2⟩ := info_parts infoLease
 have hrl1 := lG w1 _ r0
 have hkl1 := lG w1 _ k5
 go_wp2_with fail
 refine wp_region_held_drew (S := (fun w' => w'.cell? ⟨w.heap.size, 0, none⟩ = some (.pointer (some ⟨rb, 0, none⟩)) /\ w'.cell? ⟨rb, 0, none⟩ = some (.int .i64 ss) /\ w'.cell? ⟨rb, 1, none⟩ = some (.int .i64 ii) /\ w'.cell? ⟨rb, 2, none⟩ = some (.int .i64 kd) /\ w'.cell? ⟨rb, 3, none⟩ = some (.int .i64 m) /\ w'.cell? ⟨rb, 4, none⟩ = some (.int .i64 k) /\ w'.cell? ⟨rb, 5, none⟩ = some (.int .i64 n) /\ w'.cell? ⟨rb, 6, none⟩ = some (.int .i64 c) /\ w'.cell? ⟨blk, 5, none⟩ = some (.int .i64 le))) (by kernel_rfl) ⟨q0, r0, r1, r2, r3, r4, r5, r6, k5⟩ (fun hHeld => ?_)
 refine zT 0 hHeld ?_
 refine zT 1 hHeld ?_
 refine zT 2 hHeld ?_
 refine zT 3 hHeld ?_
 refine zT 5 hHeld ?_
 refine zT 6 hHeld ?_
 refine zT 7 hHeld ?_
 refine zT 8 hHeld ?_
 refine zT 9 hHeld ?_
 refine zT 10 hHeld ?_
 refine zT 11 hHeld ?_
 refine zT 12 hHeld ?_
 refine zT 13 hHeld ?_
 refine zT 14 hHeld ?_
 refine zT 15 hHeld ?_
 refine zT 16 hHeld ?_
 refine zT 17 hHeld ?_
 refine zT 18 hHeld ?_
 refine zT 19 hHeld ?_
 refine zT 20 hHeld ?_
 refine zT 21 hHeld ?_
 refine zT 22 hHeld ?_
 refine zT 23 hHeld ?_
 refine zT 24 hHeld ?_
 refine zT 25 hHeld ?_
 refine zT 26 hHeld ?_
 refine zT 27 hHeld ?_
 refine zT 28 hHeld ?_
 refine zT 29 hHeld ?_
 refine wpAnyH_ready (rs := [4, 30]) (by kernel_rfl) (by simp) ?_
 refine AllReadyH.cons (o := _) rfl (fun K hK => ?_) (AllReadyH.cons (o := _) rfl (fun K hK => ?_) AllReadyH.nil)
 ·(try simp only [lA, lB, lC])
  go_simp
  refine hK.out _ _ ?hs1 (fun hHeld => ?_)
  case hs1 => exact SD.out _ (Turn.of_ext (Ext.drew (Ext.refl _)))
  clear hK K
  try simp only [Act.put, lA, lB, lC, lD, lE, lF]
  refine wpAnyH_ready (rs := [30]) (by kernel_rfl) (by simp) ?_
  refine AllReadyH.cons (o := _) rfl (fun K hK => ?_) AllReadyH.nil
  (try simp only [lA, lB, lC])
  go_simp
  refine hK.out _ _ ?hs2 (fun hHeld => ?_)
  case hs2 => exact SD.out _ (Turn.of_ext (Ext.drew (Ext.alloc (Ext.refl _) _)))
  clear hK K
  try simp only [Act.put, lA, lB, lC, lD, lE, lF]
  refine wpAnyH_ready (rs := [31]) (by kernel_rfl) (by simp) ?_
  refine AllReadyH.cons (o := _) rfl (fun K hK => ?_) AllReadyH.nil
  refine step_append_lies _ (by rfl) _ _ 38 (by rfl) 0 56 i0 _ 9 72 Tryz.underlying38 hi hz0 hz1 hz2 (by rfl) (by decide) lv ls.length (lsCells ls) (by rfl) (Ext.owns (Ext.drew (Ext.alloc (Ext.refl _) _)) H1.out.lrow) ⟨_, 0, none⟩ 1 1 (LsV.cells ⟨ss, ii, kd, m, k, n, le, c, false⟩) (by rfl) (by rfl) (World.news_of_block (at_drew (heap_alloc_new _ _))) (by simp [Value.oneCell', LsV.cells]) (by decide) (by unfold maxLen; omega) (by omega) (Nat.zero_le _) _ rfl ?_
  intro g cap3 w2 hown2 hgrow hat hlt2
  have ht2 : Turn (fun b => lv.ownBlock = some b) w1 w2 := Turn.grown (Turn.of_ext (Ext.drew (Ext.alloc (Ext.refl _) _))) hgrow (fun q hq _ => hq)
  have HT2 : Hid (Turn (fun b => lv.ownBlock = some b) w1 w2) := ht2
  have HD2 : Hid (DealAt w2 B sv lv dv fl ah kn) := H1.out.deal.turn ht2 (fun e => (HLv.out _ e).2.1 rfl)
  have c1b := (DealAt.cells HD2.out).2.1
  have f1b := HD2.out.frozen 1
  have HOW : Hid (w2.ownsRow 0 56 9 (.slice (some ⟨g, 0, none⟩) (ls.length + 1) cap3) (ls.length + 1) (lsCells ls ++ LsV.cells ⟨ss, ii, kd, m, k, n, le, c, false⟩)) := hown2
  have HG : Hid ((lv.ownBlock = some g \/ w.heap.size <= g) /\ g ≠ B) := by
   have h1 := HX1.out.le
   rcases hat with h | h
   ·exact ⟨.inl h, (HLv.out _ h).2.1⟩
   ·have h2 : w1.heap.size <= g := by rw [h]; exact (Turn.of_ext (Ext.drew (Ext.alloc (Ext.refl _) _)) : Turn (fun _ => False) w1 _).size
    exact ⟨.inr (by omega), by omega⟩
  refine hK.out _ _ ?hs3 (fun hHeld => ?_)
  case hs3 => exact SD.out _ ht2
  clear hK K hown2 hgrow hat ht2
  try simp only [Act.put, lA, lB, lC, lD, lE, lF]
  refine zT 32 hHeld ?_
  refine zT 33 hHeld ?_
  refine wpAnyH_ready (rs := [34]) (by kernel_rfl) (by simp) ?_
  refine AllReadyH.cons (o := _) rfl (fun K hK => ?_) AllReadyH.nil
  (try simp only [lA, lB, lC])
  go_simp
  refine hK.out _ _ ?hs4 (fun hHeld => ?_)
  case hs4 =>
   have h1 := SD.out _ HT2.out
   obtain ⟨s0, s1, s2, s3, s4, s5, s6, s7, s8⟩ := h1
   exact ⟨(World.cell?_setCell_far _ _ _ _ hnw).trans s0, (World.cell?_setCell_far _ _ _ _ hnr).trans s1, (World.cell?_setCell_far _ _ _ _ hnr).trans s2, (World.cell?_setCell_far _ _ _ _ hnr).trans s3, (World.cell?_setCell_far _ _ _ _ hnr).trans s4, (World.cell?_setCell_far _ _ _ _ hnr).trans s5, (World.cell?_setCell_far _ _ _ _ hnr).trans s6, (World.cell?_setCell_far _ _ _ _ hnr).trans s7, (World.cell?_setCell_far _ _ _ _ hnk).trans s8⟩
  clear hK K
  try simp only [Act.put, lA, lB, lC, lD, lE, lF]
  refine wpAnyH_done (by kernel_rfl) ?_ _
  have q0 := hHeld.1
  have r6 := hHeld.2.2.2.2.2.2.2.1
  have k5 := hHeld.2.2.2.2.2.2.2.2
  have HT3 : Hid (Turn (fun b => b = B \/ lv.ownBlock = some b) w (w2.setCell ⟨B, 1, none⟩ (.slice (some ⟨g, 0, none⟩) (ls.length + 1) cap3))) := Turn.setCell (S := fun b => b = B \/ lv.ownBlock = some b) (p := ⟨B, 1, none⟩) ((Turn.of_ext HX1.out).trans (HT2.out.mono (fun _ _ e => .inr e))) (fun _ => .inl rfl) _
  have HS3 : Hid (StoreOf (w2.setCell ⟨B, 1, none⟩ (.slice (some ⟨g, 0, none⟩) (ls.length + 1) cap3)) B (grow F w (w2.setCell ⟨B, 1, none⟩ (.slice (some ⟨g, 0, none⟩) (ls.length + 1) cap3))) sv (.slice (some ⟨g, 0, none⟩) (ls.length + 1) cap3) dv R (ls ++ [⟨ss, ii, kd, m, k, n, le, c, false⟩]) ops fl ah kn) := by
   refine H.out.setLv HT3.out (HD2.out.set1 _) ?_ (fun q hq => ?_) (by simp)
   ·show World.ownsRow _ 0 56 9 _ _ _
    rw [lsCells_append, List.length_append]
    have e1 : lsCells [⟨ss, ii, kd, m, k, n, le, c, false⟩] = LsV.cells ⟨ss, ii, kd, m, k, n, le, c, false⟩ := by simp [lsCells]
    rw [e1]
    exact owns_setCell HOW.out (by simpa [lH] using HG.out.2) _
   ·simp [lH] at hq
    subst hq
    exact HG.out.1
  have HB3 : Hid ((w2.setCell ⟨B, 1, none⟩ (.slice (some ⟨g, 0, none⟩) (ls.length + 1) cap3)).heap[blk]? = some (.cells R[ix].row 154 (0, 0))) := by
   have hh := (HS3.out.stk R[ix] (List.getElem_mem hix)).blk
   rw [HBE.out.1] at hh
   exact hh
  have f5 := frozen_row HB3.out 5
  have hw3 : blk < (w2.setCell ⟨B, 1, none⟩ (.slice (some ⟨g, 0, none⟩) (ls.length + 1) cap3)).heap.size := (Array.getElem?_eq_some_iff.1 HB3.out).1
  generalize World.setCell w2 _ _ = w3 at *
  clear hHeld c1b f1b c1 r0 r1 r2 r3 r4 r5
  go_wp2_with fail
  go_region
  all_goals go_wp2
  all_goals go_end0
  all_goals
   have hfin := HS3.out.lend ix hix c
   rw [HBE.out.1, HBE.out.2] at hfin
   refine ⟨.slice (some ⟨g, 0, none⟩) (ls.length + 1) cap3, rfl, ?_, ?_⟩
   ·rw [HBE.out.2, grow_size (w'' := w3) (by simp [World.setCell, World.drew])]
    exact hfin.ext (Ext.drew (Ext.refl _))
   ·rw [HBE.out.1]
    refine Turn.drew (Turn.setCell (p := ⟨blk, 5, none⟩) (HT3.out.mono (fun b _ h => ?_)) (fun _ => .inr (.inr rfl)) _)
    rcases h with h | h
    ·exact .inl h
    ·exact .inr (.inl h)
 ·(try simp only [lA, lB, lC])
  go_simp
  refine hK.out _ _ ?hs1 (fun hHeld => ?_)
  case hs1 => exact SD.out _ (Turn.of_ext (Ext.drew (Ext.alloc (Ext.refl _) _)))
  clear hK K
  try simp only [Act.put, lA, lB, lC, lD, lE, lF]
  refine wpAnyH_ready (rs := [4]) (by kernel_rfl) (by simp) ?_
  refine AllReadyH.cons (o := _) rfl (fun K hK => ?_) AllReadyH.nil
  (try simp only [lA, lB, lC])
  go_simp
  refine hK.out _ _ ?hs2 (fun hHeld => ?_)
  case hs2 => exact SD.out _ (Turn.of_ext (Ext.drew (Ext.alloc (Ext.refl _) _)))
  clear hK K
  try simp only [Act.put, lA, lB, lC, lD, lE, lF]
  refine wpAnyH_ready (rs := [31]) (by kernel_rfl) (by simp) ?_
  refine AllReadyH.cons (o := _) rfl (fun K hK => ?_) AllReadyH.nil
  refine step_append_lies _ (by rfl) _ _ 38 (by rfl) 0 56 i0 _ 9 72 Tryz.underlying38 hi hz0 hz1 hz2 (by rfl) (by decide) lv ls.length (lsCells ls) (by rfl) (Ext.owns (Ext.drew (Ext.alloc (Ext.refl _) _)) H1.out.lrow) ⟨_, 0, none⟩ 1 1 (LsV.cells ⟨ss, ii, kd, m, k, n, le, c, false⟩) (by rfl) (by rfl) (World.news_of_block (at_drew (heap_alloc_new _ _))) (by simp [Value.oneCell', LsV.cells]) (by decide) (by unfold maxLen; omega) (by omega) (Nat.zero_le _) _ rfl ?_
  intro g cap3 w2 hown2 hgrow hat hlt2
  have ht2 : Turn (fun b => lv.ownBlock = some b) w1 w2 := Turn.grown (Turn.of_ext (Ext.drew (Ext.alloc (Ext.refl _) _))) hgrow (fun q hq _ => hq)
  have HT2 : Hid (Turn (fun b => lv.ownBlock = some b) w1 w2) := ht2
  have HD2 : Hid (DealAt w2 B sv lv dv fl ah kn) := H1.out.deal.turn ht2 (fun e => (HLv.out _ e).2.1 rfl)
  have c1b := (DealAt.cells HD2.out).2.1
  have f1b := HD2.out.frozen 1
  have HOW : Hid (w2.ownsRow 0 56 9 (.slice (some ⟨g, 0, none⟩) (ls.length + 1) cap3) (ls.length + 1) (lsCells ls ++ LsV.cells ⟨ss, ii, kd, m, k, n, le, c, false⟩)) := hown2
  have HG : Hid ((lv.ownBlock = some g \/ w.heap.size <= g) /\ g ≠ B) := by
   have h1 := HX1.out.le
   rcases hat with h | h
   ·exact ⟨.inl h, (HLv.out _ h).2.1⟩
   ·have h2 : w1.heap.size <= g := by rw [h]; exact (Turn.of_ext (Ext.drew (Ext.alloc (Ext.refl _) _)) : Turn (fun _ => False) w1 _).size
    exact ⟨.inr (by omega), by omega⟩
  refine hK.out _ _ ?hs3 (fun hHeld => ?_)
  case hs3 => exact SD.out _ ht2
  clear hK K hown2 hgrow hat ht2
  try simp only [Act.put, lA, lB, lC, lD, lE, lF]
  refine zT 32 hHeld ?_
  refine zT 33 hHeld ?_
  refine wpAnyH_ready (rs := [34]) (by kernel_rfl) (by simp) ?_
  refine AllReadyH.cons (o := _) rfl (fun K hK => ?_) AllReadyH.nil
  (try simp only [lA, lB, lC])
  go_simp
  refine hK.out _ _ ?hs4 (fun hHeld => ?_)
  case hs4 =>
   have h1 := SD.out _ HT2.out
   obtain ⟨s0, s1, s2, s3, s4, s5, s6, s7, s8⟩ := h1
   exact ⟨(World.cell?_setCell_far _ _ _ _ hnw).trans s0, (World.cell?_setCell_far _ _ _ _ hnr).trans s1, (World.cell?_setCell_far _ _ _ _ hnr).trans s2, (World.cell?_setCell_far _ _ _ _ hnr).trans s3, (World.cell?_setCell_far _ _ _ _ hnr).trans s4, (World.cell?_setCell_far _ _ _ _ hnr).trans s5, (World.cell?_setCell_far _ _ _ _ hnr).trans s6, (World.cell?_setCell_far _ _ _ _ hnr).trans s7, (World.cell?_setCell_far _ _ _ _ hnk).trans s8⟩
  clear hK K
  try simp only [Act.put, lA, lB, lC, lD, lE, lF]
  refine wpAnyH_done (by kernel_rfl) ?_ _
  have q0 := hHeld.1
  have r6 := hHeld.2.2.2.2.2.2.2.1
  have k5 := hHeld.2.2.2.2.2.2.2.2
  have HT3 : Hid (Turn (fun b => b = B \/ lv.ownBlock = some b) w (w2.setCell ⟨B, 1, none⟩ (.slice (some ⟨g, 0, none⟩) (ls.length + 1) cap3))) := Turn.setCell (S := fun b => b = B \/ lv.ownBlock = some b) (p := ⟨B, 1, none⟩) ((Turn.of_ext HX1.out).trans (HT2.out.mono (fun _ _ e => .inr e))) (fun _ => .inl rfl) _
  have HS3 : Hid (StoreOf (w2.setCell ⟨B, 1, none⟩ (.slice (some ⟨g, 0, none⟩) (ls.length + 1) cap3)) B (grow F w (w2.setCell ⟨B, 1, none⟩ (.slice (some ⟨g, 0, none⟩) (ls.length + 1) cap3))) sv (.slice (some ⟨g, 0, none⟩) (ls.length + 1) cap3) dv R (ls ++ [⟨ss, ii, kd, m, k, n, le, c, false⟩]) ops fl ah kn) := by
   refine H.out.setLv HT3.out (HD2.out.set1 _) ?_ (fun q hq => ?_) (by simp)
   ·show World.ownsRow _ 0 56 9 _ _ _
    rw [lsCells_append, List.length_append]
    have e1 : lsCells [⟨ss, ii, kd, m, k, n, le, c, false⟩] = LsV.cells ⟨ss, ii, kd, m, k, n, le, c, false⟩ := by simp [lsCells]
    rw [e1]
    exact owns_setCell HOW.out (by simpa [lH] using HG.out.2) _
   ·simp [lH] at hq
    subst hq
    exact HG.out.1
  have HB3 : Hid ((w2.setCell ⟨B, 1, none⟩ (.slice (some ⟨g, 0, none⟩) (ls.length + 1) cap3)).heap[blk]? = some (.cells R[ix].row 154 (0, 0))) := by
   have hh := (HS3.out.stk R[ix] (List.getElem_mem hix)).blk
   rw [HBE.out.1] at hh
   exact hh
  have f5 := frozen_row HB3.out 5
  have hw3 : blk < (w2.setCell ⟨B, 1, none⟩ (.slice (some ⟨g, 0, none⟩) (ls.length + 1) cap3)).heap.size := (Array.getElem?_eq_some_iff.1 HB3.out).1
  generalize World.setCell w2 _ _ = w3 at *
  clear hHeld c1b f1b c1 r0 r1 r2 r3 r4 r5
  go_wp2_with fail
  go_region
  all_goals go_wp2
  all_goals go_end0
  all_goals
   have hfin := HS3.out.lend ix hix c
   rw [HBE.out.1, HBE.out.2] at hfin
   refine ⟨.slice (some ⟨g, 0, none⟩) (ls.length + 1) cap3, rfl, ?_, ?_⟩
   ·rw [HBE.out.2, grow_size (w'' := w3) (by simp [World.setCell, World.drew])]
    exact hfin.ext (Ext.drew (Ext.refl _))
   ·rw [HBE.out.1]
    refine Turn.drew (Turn.setCell (p := ⟨blk, 5, none⟩) (HT3.out.mono (fun b _ h => ?_)) (fun _ => .inr (.inr rfl)) _)
    rcases h with h | h
    ·exact .inl h
    ·exact .inr (.inl h)
end
end
-- GMg
section
set_option maxRecDepth 100000
set_option maxHeartbeats 1600000
open Go.RowKit Go.Maps
theorem zeroSh (w : World) : (zeroValue 176).run Tryz.prog w = .ok (.agg #[.slice none 0 0, .slice none 0 0]) w := by kernel_rfl
theorem infoSh : (Tryz.prog.info? 176).map (fun i => (i.zero, i.size, i.bytes)) = some (some (.agg #[.slice none 0 0, .slice none 0 0]), 2, 48) := by kernel_rfl
def LookAs (w : World) (F : Nat -> Prop) (s : Sh) (u : List Int × Bool) (v0 v1 : Value) : Prop :=
 (u.2 = true /\ ∃ a0 c0 a1 c1, v0 = .slice (some ⟨a0, 0, none⟩) (s.x + s.y + s.z) c0 /\ v1 = .slice (some ⟨a1, 0, none⟩) (s.x + s.y + s.z) c1 /\ WordsU w a0 (sh0 s u.1) /\ WordsU w a1 (sh1 s u.1) /\ F a0 /\ F a1) \/
 (u.2 = false /\ v0 = .slice none 0 0 /\ v1 = .slice none 0 0)
theorem LookAs.one {w : World} {F : Nat -> Prop} {s : Sh} {u : List Int × Bool} {v0 v1 : Value} (h : LookAs w F s u v0 v1) : v0.oneCell' = true /\ v1.oneCell' = true := by
 rcases h with ⟨_, a0, c0, a1, c1, rfl, rfl, _⟩ | ⟨_, rfl, rfl⟩ <;> exact ⟨rfl, rfl⟩
theorem StkAt.looks {w : World} {F : Nat -> Prop} {x : StkR} (h : StkAt w F x) (hm : x.ts.length <= 1000000) (i : Nat) : ∃ v0 v1, ∀ hi : i < x.ts.length, (∀ w', Ext w w' -> (Instr.lookup 152 (.map (some x.mb)) (.int .i64 (i : Int)) false).run Tryz.prog w' = .ok (.agg #[v0, v1]) w') /\ LookAs w F x.sh x.ts[i] v0 v1 := by
 by_cases hi : i < x.ts.length
 ·obtain ⟨D, hD, hK⟩ := h.map
  have key : ∀ w', Ext w w' -> ∃ v' ps, (Instr.lookup 152 (.map (some x.mb)) (.int .i64 (i : Int)) false).run Tryz.prog w' = .ok v' w' /\ some (D.atKey (.int .i64 (i : Int)) (.held (.agg #[.slice none 0 0, .slice none 0 0])), ps) = heldElem v' := fun w' hx => by
   have hD' : w'.ownsMap Tryz.prog 3 heldElem x.mb x.ts.length D := map_turn (S := fun _ => False) hD (Turn.of_ext hx) id
   obtain ⟨v', ps, hrun, hv'⟩ := hD'.lookup keyInt Tryz.underlying152 (zeroSh w') (zd := .held (.agg #[.slice none 0 0, .slice none 0 0])) (zp := []) rfl (keyOf_int_mk Tryz.underlying3 (a := (i : Int)) (by simp [Lit.wf, IntKind.min, IntKind.max, IntKind.signed, IntKind.bits]; omega))
   exact ⟨v', ps, hrun, hv'.symm⟩
  cases hk : x.ts[i].2 with
  | true =>
   obtain ⟨v, hv, a0, c0, a1, c1, rfl, hw0, hw1, hf0, hf1⟩ := hK.2.2 i hi hk
   refine ⟨_, _, fun _ => ⟨fun w' hx => ?_, .inl ⟨hk, a0, c0, a1, c1, rfl, rfl, hw0, hw1, hf0, hf1⟩⟩⟩
   obtain ⟨v', ps, hrun, hv'⟩ := key w' hx
   have hv2 : D.atKey (.int .i64 (i : Int)) (.held (.agg #[.slice none 0 0, .slice none 0 0])) = _ := hv
   rw [hv2] at hv'
   simp [heldElem] at hv'
   rw [hrun, <- hv'.1]
  | false =>
   refine ⟨.slice none 0 0, .slice none 0 0, fun _ => ⟨fun w' hx => ?_, .inr ⟨hk, rfl, rfl⟩⟩⟩
   obtain ⟨v', ps, hrun, hv'⟩ := key w' hx
   have hno : has D (.int .i64 (i : Int)) = false := by
    rw [hK.2.1 i, List.getElem?_eq_getElem hi]
    simpa using hk
   rw [atKey_of_not_has hno] at hv'
   simp [heldElem] at hv'
   rw [hrun, <- hv'.1]
 ·exact ⟨.slice none 0 0, .slice none 0 0, fun h => absurd h hi⟩
def pairs (V : Nat -> Value × Value) (j : Nat) : List Value := (List.range j).flatMap fun i => [(V i).1, (V i).2]
theorem pairs_succ (V : Nat -> Value × Value) (j : Nat) : pairs V (j + 1) = pairs V j ++ [(V j).1, (V j).2] := by simp [pairs, List.range_succ]
theorem len_pairs (V : Nat -> Value × Value) (j : Nat) : (pairs V j).length = j * 2 := by
 induction j with
 | zero => rfl
 | succ j ih => rw [pairs_succ, List.length_append, ih]; simp; omega
theorem pairs_at (V : Nat -> Value × Value) (j i : Nat) (hi : i < j) : (pairs V j)[i * 2]? = some (V i).1 /\ (pairs V j)[i * 2 + 1]? = some (V i).2 := by
 induction j with
 | zero => omega
 | succ j ih =>
  rw [pairs_succ]
  have hl := len_pairs V j
  by_cases e : i = j
  ·subst e
   rw [List.getElem?_append_right (by omega), List.getElem?_append_right (by omega), hl]
   simp [show i * 2 + 1 - i * 2 = 1 by omega]
  ·rw [List.getElem?_append_left (by omega), List.getElem?_append_left (by omega)]
   exact ih (by omega)
theorem stkMaking_c (x : StkR) (F : Nat -> Prop) (h1 : 1 <= x.ts.length) (h2 : x.ts.length <= 1000) (w : World) (h : StkAt w F x) :
  Calls Tryz.prog 130 #[.pointer (some ⟨x.blk, 0, none⟩)] w fun e w' => ∃ gt cap, e = .returned (.agg #[.int .i64 x.kd, .int .i64 x.m, .int .i64 x.k, .int .i64 x.n, .slice (some ⟨gt, 0, none⟩) x.ts.length cap]) /\ TriRow w' F gt x.sh x.ts /\ Ext w w' := by
 obtain ⟨i0, hi, hz0, hz1, hz2⟩ := info_parts infoSh
 have hV : ∃ V : Nat -> Value × Value, ∀ i (hi : i < x.ts.length), (∀ w', Ext w w' -> (Instr.lookup 152 (.map (some x.mb)) (.int .i64 (i : Int)) false).run Tryz.prog w' = .ok (.agg #[(V i).1, (V i).2]) w') /\ LookAs w F x.sh x.ts[i] (V i).1 (V i).2 :=
  ⟨fun i => (Classical.choose (h.looks (by omega) i), Classical.choose (Classical.choose_spec (h.looks (by omega) i))), fun i hi => Classical.choose_spec (Classical.choose_spec (h.looks (by omega) i)) hi⟩
 obtain ⟨V, hV⟩ := hV
 have HV : Hid _ := hV
 have hb := h.blk
 have k0 : w.cell? ⟨x.blk, 0, none⟩ = some (.int .i64 (x.kd : Int)) := (cell_of_row w x.blk 0 _ _ _ hb).trans rfl
 have k1 : w.cell? ⟨x.blk, 1, none⟩ = some (.int .i64 (x.m : Int)) := (cell_of_row w x.blk 1 _ _ _ hb).trans rfl
 have k2 : w.cell? ⟨x.blk, 2, none⟩ = some (.int .i64 (x.k : Int)) := (cell_of_row w x.blk 2 _ _ _ hb).trans rfl
 have k3 : w.cell? ⟨x.blk, 3, none⟩ = some (.int .i64 (x.n : Int)) := (cell_of_row w x.blk 3 _ _ _ hb).trans rfl
 have k4 : w.cell? ⟨x.blk, 4, none⟩ = some (.int .i64 (x.ts.length : Int)) := (cell_of_row w x.blk 4 _ _ _ hb).trans rfl
 have k6 : w.cell? ⟨x.blk, 6, none⟩ = some (.map (some x.mb)) := (cell_of_row w x.blk 6 _ _ _ hb).trans rfl
 have hbl := lG w _ k0
 clear h hb hV
 obtain ⟨t, ht⟩ : ∃ t, x.ts.length = t := ⟨_, rfl⟩
 have HT : Hid (x.ts.length = t) := ht
 rw [ht] at h1 h2 k4 ⊢
 clear ht
 generalize x.blk = blk at *
 generalize x.mb = mb at *
 generalize x.kd = kd at *
 generalize x.m = m at *
 generalize x.k = k at *
 generalize x.n = n at *
 go_enter Tryz.func130, Tryz.ntmps130
 go_wp2_with fail
 have HR0 : Hid (((w.alloc (.cells #[.int .i64 0, .int .i64 0, .int .i64 0, .int .i64 0, .slice none 0 0] 174)).alloc (.cells #[.int .i64 kd, .int .i64 m, .int .i64 k, .int .i64 n, .slice none 0 0] 174)).heap[w.heap.size]? = some (.cells #[.int .i64 0, .int .i64 0, .int .i64 0, .int .i64 0, .slice none 0 0] 174 (0, 0)) /\ ((w.alloc (.cells #[.int .i64 0, .int .i64 0, .int .i64 0, .int .i64 0, .slice none 0 0] 174)).alloc (.cells #[.int .i64 kd, .int .i64 m, .int .i64 k, .int .i64 n, .slice none 0 0] 174)).heap[w.heap.size + 1]? = some (.cells #[.int .i64 kd, .int .i64 m, .int .i64 k, .int .i64 n, .slice none 0 0] 174 (0, 0))) := ⟨at_old (heap_alloc_new _ _), at_new (by simp)⟩
 have HX0 : Hid (Ext w ((w.alloc (.cells #[.int .i64 0, .int .i64 0, .int .i64 0, .int .i64 0, .slice none 0 0] 174)).alloc (.cells #[.int .i64 kd, .int .i64 m, .int .i64 k, .int .i64 n, .slice none 0 0] 174))) := ((Ext.refl w).alloc _).alloc _
 generalize World.alloc (World.alloc w _) _ = W at HR0 HX0 ⊢
 obtain ⟨mv, hmv⟩ : ∃ mv, w.heap.size + 1 = mv := ⟨_, rfl⟩
 rw [hmv] at HR0 ⊢
 have hmv1 : w.heap.size < mv := by omega
 clear hmv
 go_loopw [14] (fun i wr => ∃ (j : Nat) (tv : Value), j <= t /\ i = .int .i64 j /\ wr.heap[mv]? = some (.cells #[.int .i64 kd, .int .i64 m, .int .i64 k, .int .i64 n, tv] 174 (0, 0)) /\ wr.ownsRow w.heap.size 176 2 tv j (pairs V j) /\ wr.heap[w.heap.size]? = some (.cells #[.int .i64 0, .int .i64 0, .int .i64 0, .int .i64 0, .slice none 0 0] 174 (0, 0)) /\ Ext w wr) (fun i _ => t - (intOf i).toNat)
 case atStart => exact ⟨0, _, Nat.zero_le _, rfl, HR0.out.2, World.ownsRow_nil _ _ _ _, HR0.out.1, HX0.out⟩
 case round =>
  obtain ⟨j, tv, hj, rfl, hm, ho, hr, hx⟩ := hrel
  have HM : Hid _ := hm
  have HO : Hid (wr.ownsRow w.heap.size 176 2 tv j (pairs V j)) := ho
  have HR : Hid _ := hr
  have HX : Hid (Ext w wr) := hx
  have hwl := hx.le
  have e4 : wr.cell? ⟨mv, 4, none⟩ = some tv := cell_at hm rfl
  have hmvl := lG wr _ e4
  obtain ⟨ta, tc, htv⟩ := owns_slice ho
  subst htv
  by_cases hlt : j < t
  ·obtain ⟨hlk, hla⟩ := HV.out j (by rw [HT.out]; exact hlt)
   have hlk1 := hlk wr.drew hx.drew
   have hone := hla.one
   have HPS : Hid (pairs V (j + 1) = pairs V j ++ [(V j).1, (V j).2]) := pairs_succ V j
   have HTM : Hid (lH (.slice ta j tc) ≠ some mv) := row_ne (B := mv) HM.out ho (by decide)
   have HTW : Hid (lH (.slice ta j tc) ≠ some w.heap.size) := row_ne (B := w.heap.size) HR.out ho (by decide)
   have k6 := hx.cell k6
   have hbl2 : blk < wr.heap.size := by omega
   clear hlk hla ho hm hr hx
   generalize (V j).1 = v0 at *
   generalize (V j).2 = v1 at *
   clear k0 k1 k2 k3 k4
   go_wp2_with fail
   go_region_law (first
    | (refine step_append_lies _ (by rfl) _ _ 172 (by rfl) w.heap.size 176 i0 _ 2 48 Tryz.underlying172 hi hz0 hz1 hz2 (by rfl) (by decide) (.slice ta j tc) j _ (by rfl) (Ext.owns (Ext.alloc (Ext.drew (Ext.refl _)) _) HO.out) ⟨_, 0, none⟩ 1 1 [v0, v1] (by rfl) (by rfl) (World.news_of_block (heap_alloc_new _ _)) (by simp [hone.1, hone.2]) (by decide) (by unfold maxLen; omega) (by omega) (Nat.le_trans hwl (Ext.le (Ext.alloc (Ext.drew (Ext.refl _)) _))) _ rfl ?_; intro g1 cap1 w1 hown1 hgrow hat hlt1; have hm1 := (hgrow.block mv (by simp; omega) (fun e => HTM.out e.symm)).trans (Ext.block (Ext.alloc (Ext.drew (Ext.refl _)) _) HM.out); have e4' := cell_at hm1 (i := 4) rfl; have f4' := frozen_row hm1 4))
   all_goals
    have R0 : (w1.setCell ⟨mv, 4, none⟩ (.slice (some ⟨g1, 0, none⟩) (j + 1) cap1)).heap[mv]? = some (.cells #[.int .i64 (kd : Int), .int .i64 m, .int .i64 k, .int .i64 n, .slice (some ⟨g1, 0, none⟩) (j + 1) cap1] 174 (0, 0)) := setCell_row hm1 _
    have hg1 : g1 ≠ mv := by
     obtain ⟨cur, hc⟩ := owns_block hown1 (g := g1) rfl
     exact type_ne hc hm1 (by decide)
    have R1 : (w1.setCell ⟨mv, 4, none⟩ (.slice (some ⟨g1, 0, none⟩) (j + 1) cap1)).ownsRow w.heap.size 176 2 (.slice (some ⟨g1, 0, none⟩) (j + 1) cap1) (j + 1) (pairs V (j + 1)) := by
     rw [HPS.out]
     exact owns_setCell hown1 (by simpa [lH] using hg1) _
    have R2 : (w1.setCell ⟨mv, 4, none⟩ (.slice (some ⟨g1, 0, none⟩) (j + 1) cap1)).heap[w.heap.size]? = some (.cells #[.int .i64 0, .int .i64 0, .int .i64 0, .int .i64 0, .slice none 0 0] 174 (0, 0)) := by
     rw [Below.heap_setCell _ _ _ _ (by show w.heap.size ≠ mv; omega), hgrow.block w.heap.size (by simp; omega) (fun e => HTW.out e.symm)]
     exact Ext.block (Ext.alloc (Ext.drew (Ext.refl _)) _) HR.out
    have R3 : Ext w (w1.setCell ⟨mv, 4, none⟩ (.slice (some ⟨g1, 0, none⟩) (j + 1) cap1)) := Ext.setCell (Ext.grown (Ext.alloc (Ext.drew HX.out) _) hgrow (fun q hq => (World.ownsRow.lt HO.out q hq).1)) (by show w.heap.size <= mv; omega) _
    have HRR : Hid _ := And.intro R0 (And.intro R1 (And.intro R2 R3))
    clear R0 R1 R2 R3 hown1 hgrow hat hm1 e4' f4' e4 k6 hlk1
    go_wp2
    go_roundw
    case rel =>
     obtain ⟨R0, R1, R2, R3⟩ := HRR.out
     exact ⟨j + 1, _, by omega, by go_num, R0, R1, R2, R3⟩
    case measure => simp [intOf]; omega
  ·obtain rfl : j = t := by omega
   rcases owns_form ho with ⟨_, h0, _⟩ | ⟨g, cap, hg, _, _, _⟩
   ·omega
   ·injection hg with hg1 hg2 hg3
    subst hg1
    have b0 := cell_at HM.out (i := 0) rfl
    have b1 := cell_at HM.out (i := 1) rfl
    have b2 := cell_at HM.out (i := 2) rfl
    have b3 := cell_at HM.out (i := 3) rfl
    have r0 := cell_at HR.out (i := 0) rfl
    have r1 := cell_at HR.out (i := 1) rfl
    have r2 := cell_at HR.out (i := 2) rfl
    have r3 := cell_at HR.out (i := 3) rfl
    have r4 := cell_at HR.out (i := 4) rfl
    have f0 := frozen_row HR.out 0
    have f1 := frozen_row HR.out 1
    have f2 := frozen_row HR.out 2
    have f3 := frozen_row HR.out 3
    have f4 := frozen_row HR.out 4
    have hwr : w.heap.size < wr.heap.size := Nat.lt_trans hmv1 hmvl
    have HTr : Hid (∀ w', Turn (fun b => b = w.heap.size) wr w' -> TriRow w' F g x.sh x.ts) := fun w' hT => by
     obtain ⟨cur, hc⟩ := owns_block ho (g := g) rfl
     have hgr : g ≠ w.heap.size := type_ne hc HR.out (by decide)
     refine TriRow.turn (S := fun b => b = w.heap.size) ⟨fun i hi => ?_, cur, hc⟩ hT hgr (fun b cur' hc' e => type_ne hc' HR.out (by decide) e)
     obtain ⟨_, hla⟩ := HV.out i hi
     rw [HT.out] at hi
     obtain ⟨p0, p1⟩ := pairs_at V j i hi
     have c0 := owns_cell ho p0
     have c1 := owns_cell ho p1
     rcases hla with ⟨hk, a0, d0, a1, d1, e0, e1, q0, q1, q2, q3⟩ | ⟨hk, e0, e1⟩
     ·rw [e0] at c0
      rw [e1] at c1
      exact .inl ⟨hk, a0, d0, a1, d1, c0, c1, q0.turn (S := fun _ => False) (Turn.of_ext hx) id, q1.turn (S := fun _ => False) (Turn.of_ext hx) id, q2, q3⟩
     ·rw [e0] at c0
      rw [e1] at c1
      exact .inr ⟨hk, c0, c1⟩
    clear ho hm hr hx
    go_wp2
    refine bodyPost_ret (v := .agg #[.int .i64 (kd : Int), .int .i64 (m : Int), .int .i64 (k : Int), .int .i64 (n : Int), .slice (some ⟨g, 0, none⟩) j cap]) (by simp [results, Tryz.results130, go_sem, r0, r1, r2, r3, r4]) rfl ?_
    refine ⟨g, ⟨cap, rfl⟩, HTr.out _ ?_, ?_⟩
    ·exact Turn.setCell (p := ⟨w.heap.size, 4, none⟩) (Turn.setCell (p := ⟨w.heap.size, 3, none⟩) (Turn.setCell (p := ⟨w.heap.size, 2, none⟩) (Turn.setCell (p := ⟨w.heap.size, 1, none⟩) (Turn.setCell (p := ⟨w.heap.size, 0, none⟩) (Turn.refl (fun b => b = w.heap.size) wr) (fun _ => rfl) _) (fun _ => rfl) _) (fun _ => rfl) _) (fun _ => rfl) _) (fun _ => rfl) _
    ·exact Ext.setCell (Ext.setCell (Ext.setCell (Ext.setCell (Ext.setCell HX.out (Nat.le_refl _) _) (Nat.le_refl _) _) (Nat.le_refl _) _) (Nat.le_refl _) _) (Nat.le_refl _) _
end
-- WW3
section
set_option maxRecDepth 100000
set_option maxHeartbeats 3200000
open Go.RowKit
theorem sizes_release : sizes8 releaseL := by intro x hx; simp only [releaseL, List.mem_cons, List.not_mem_nil, or_false] at hx; rcases hx with rfl | rfl <;> decide
theorem nvals_release {W : World} {b : Nat} {s i : Nat} {vals : Nat -> Nat} (hW : W.heap[b]? = some (.cells #[.int .i64 (s : Int), .int .i64 (i : Int)] 214 (0, 0))) (hv : vals 0 = s /\ vals 1 = i) : ∀ x ∈ releaseL, W.cell? ⟨b, x.1, none⟩ = some (.int .i64 (vals x.1 : Int)) := by
 obtain ⟨v0, v1⟩ := hv
 intro x hx
 simp only [releaseL, List.mem_cons, List.not_mem_nil, or_false] at hx
 rcases hx with rfl | rfl
 ·show W.cell? ⟨b, 0, none⟩ = some (.int .i64 (vals 0 : Int)); rw [v0]; exact cell_at hW rfl
 ·show W.cell? ⟨b, 1, none⟩ = some (.int .i64 (vals 1 : Int)); rw [v1]; exact cell_at hW rfl
theorem wireWrite_3 (b : Nat) (s i : Nat) (vals : Nat -> Nat) (hv : vals 0 = s /\ vals 1 = i) (hmax : ∀ j, vals j <= 2147483647) (w : World) (hb : w.heap[b]? = some (.cells #[.int .i64 (s : Int), .int .i64 (i : Int)] 214 (0, 0))) :
  Calls Tryz.prog 57 #[.iface 205 (.pointer (some ⟨b, 0, none⟩))] w fun e w' => e = .returned (.string ⟨([3] ++ flatB vals releaseL).toArray⟩) /\ Ext w w' := by
 have HV : Hid (vals 0 = s /\ vals 1 = i) := hv
 have HB : Hid _ := hb
 have HMX : Hid (∀ j, vals j <= 2147483647) := hmax
 have hm1 := m_releasePlain
 have hm2 := m_releaseFields
 have hfk := field_kind
 clear hv hb hmax
 go_enter Tryz.func57, Tryz.ntmps57
 go_wp2_with (first
  | (go_at_call 219; refine (releasePlain_c b s i _ (by exact HB.out)).mono ?_; rintro e w1 ⟨rfl, hx1⟩)
  | (go_at_call 220; refine (releaseFields_c b _).mono ?_; rintro e w2 ⟨g, cap, rfl, ho, hx2⟩))
 obtain ⟨g0, hg0⟩ : ∃ g0, g0 = w1.heap.size := ⟨_, rfl⟩
 have HO0 : Hid (w2.ownsRow w.heap.size 5 1 (.slice (some ⟨w1.heap.size, 0, none⟩) 1 1) 1 (byteV [3])) := (hx2.owns (World.ownsRow_lit w1 #[.int .u8 3] 1 hx1.le (by unfold maxLen; omega) rfl) : _)
 have HX2 : Ext w w2 := (hx1.alloc _).trans hx2
 have HB2 : Hid (w2.heap[b]? = some (.cells #[.int .i64 (s : Int), .int .i64 (i : Int)] 214 (0, 0))) := HX2.block (by exact HB.out)
 have HF2 : Hid (∃ cur : Array Value, w2.heap[g]? = some (.cells cur 162 (0, 0)) /\ ∀ j, j < 2 * 3 -> cur[j]? = (fl b releaseL)[j]?) := by
  rcases ho.2 with ⟨h0, _⟩ | ⟨g1, cap1, cur, h0, _, hh, _, _, _, ht⟩
  ·simp at h0
  ·simp only [Value.slice.injEq, Option.some.injEq, Addr.mk.injEq, and_true, true_and] at h0
   obtain ⟨rfl, rfl⟩ := h0
   exact ⟨cur, hh, fun j hj => by rw [<- ht, List.getElem?_take, if_pos hj]; simp⟩
 clear ho hx1 hx2 hg0 g0
 go_loopw [3, 5, 14] (fun u _ i wr => ∃ (k n g' cap' : Nat), k <= 2 /\ u = .slice (some ⟨g', 0, none⟩) n cap' /\ i = .int .i64 k /\ ([(3 : UInt8)] ++ flatB vals (releaseL.take k)).length = n /\ wr.ownsRow w.heap.size 5 1 (.slice (some ⟨g', 0, none⟩) n cap') n (byteV ([3] ++ flatB vals (releaseL.take k))) /\ Below w.heap.size w2 wr /\ Keeps w2 wr) (fun _ _ i _ => 2 - (intOf i).toNat)
 case atStart => exact ⟨0, 1, _, _, Nat.zero_le _, rfl, rfl, rfl, HO0.out, Below.refl _ _, Keeps.refl _⟩
 case round =>
  obtain ⟨k, n, g', cap', hk, rfl, rfl, hn, hor, hbel, hkp⟩ := hrel
  have HN : Hid (([(3 : UInt8)] ++ flatB vals (releaseL.take k)).length = n) := hn
  have hn1 : 1 <= n := by rw [<- hn]; simp
  have hn2 : n <= 65 := by
   have h1 := len_flatB vals (releaseL.take k) (fun x hx => sizes_release x (List.mem_of_mem_take hx))
   have h2 : (releaseL.take k).length <= 8 := Nat.le_trans (List.length_take_le' _ _) (by decide)
   rw [<- hn]; simp; omega
  clear hn
  by_cases hlt : k < 2
  ·have hkl : k < releaseL.length := hlt
   have HX : Hid (releaseL.take (k + 1) = releaseL.take k ++ [releaseL[k]]) := List.take_succ_eq_append_getElem hkl
   obtain ⟨cur, hg2, hcur⟩ := HF2.out
   have hgr := hkp.block g _ _ _ hg2 (by decide)
   have hbr := hkp.block b _ _ _ HB2.out (by decide)
   obtain ⟨f0, f1, f2⟩ := fl_at b releaseL k hkl
   have e0 : wr.cell? ⟨g, k * 3, none⟩ = some (.pointer (some ⟨b, releaseL[k].1, none⟩)) := cell_at hgr ((hcur _ (by omega)).trans f0)
   have e1 : wr.cell? ⟨g, k * 3 + 1, none⟩ = some (.int .i64 releaseL[k].2.1) := cell_at hgr ((hcur _ (by omega)).trans f1)
   have e2 : wr.cell? ⟨g, k * 3 + 2, none⟩ = some (.int .i64 releaseL[k].2.2) := cell_at hgr ((hcur _ (by omega)).trans f2)
   have e3 := nvals_release hbr HV.out releaseL[k] (List.getElem_mem hkl)
   have hmx := HMX.out releaseL[k].1
   have hs8 := sizes_release releaseL[k] (List.getElem_mem hkl)
   have HFB : Hid (flatB vals (releaseL.take (k + 1)) = flatB vals (releaseL.take k) ++ bytesOf (vals releaseL[k].1) releaseL[k].2.1.toNat) := by
    show flatB vals (releaseL.take (k + 1)) = _
    rw [HX.out, flatB_snoc]
   have hgl : g < wr.heap.size := lG wr _ e0
   have hbl : b < wr.heap.size := lG wr _ e3
   obtain ⟨sz, hsz⟩ : ∃ sz : Nat, releaseL[k].2.1 = (sz : Int) := ⟨releaseL[k].2.1.toNat, by omega⟩
   rw [hsz] at e1 hs8 HFB
   rw [Int.toNat_natCast] at HFB
   clear hsz f0 f1 f2 hcur hg2 HX hgr hbr
   generalize vals releaseL[k].1 = x at *
   generalize releaseL[k].2.2 = mo at *
   generalize releaseL[k].1 = o at *
   have hwr : IntKind.u64.wrap (x : Int) = (x : Int) := by rw [IntKind.wrap_u64]; omega
   have hszr := hbel.size
   have hszw := HX2.le
   go_wp2
   go_region_with (go_at_call 86; refine (put_s w.heap.size n g' cap' ([3] ++ flatB vals (releaseL.take k)) x sz (by omega) (by omega) (by omega) _ (by exact hor.alloc _) (by simp; omega) (by omega)).mono ?_; rintro e w3 ⟨g3, cap3, rfl, ho3, hb3, hk3⟩)
   all_goals
    have R1 : w3.ownsRow w.heap.size 5 1 (.slice (some ⟨g3, 0, none⟩) (n + sz) cap3) (n + sz) (byteV ([3] ++ flatB vals (releaseL.take (k + 1)))) := by
     rw [HFB.out, <- List.append_assoc]; exact ho3
    have R2 : Below w.heap.size w2 w3 := (hbel.alloc (by omega) _).drew.trans hb3
    have R3 : Keeps w2 w3 := ((hkp.alloc _).drew).trans hk3
    have R4 : ([(3 : UInt8)] ++ flatB vals (releaseL.take (k + 1))).length = n + sz := by
     rw [HFB.out, <- List.append_assoc, List.length_append, HN.out, len_bytesOf]
    have HR4 : Hid _ := R4
    clear R4 ho3 hb3 hk3 hor hbel hkp
    go_wp2
    go_roundw
    case rel => exact ⟨k + 1, n + sz, g3, cap3, by omega, rfl, by go_num, HR4.out, R1, R2, R3⟩
    case measure => simp [intOf]; omega
  ·obtain rfl : k = 2 := by omega
   have hcv := conv_own HN.out hor
   have HE : Ext w wr := Below.trans HX2 hbel
   rw [show releaseL.take 2 = releaseL from rfl] at hcv
   clear hor hbel hkp
   go_wp2
   go_ret
   exact ⟨rfl, HE⟩
end
-- GRr
section
set_option maxRecDepth 100000
set_option maxHeartbeats 3200000
open Go.RowKit Go.Maps
theorem infoStr : (Tryz.prog.info? 9).map (fun i => (i.zero, i.size, i.bytes)) = some (some (.string ⟨#[]⟩), 1, 16) := by kernel_rfl
def leaseVals (s i kd m k n c : Nat) : Nat -> Nat
 | 0 => s | 1 => i | 2 => kd | 3 => m | 4 => k | 5 => n | 6 => c | _ => 0
def releaseVals (s i : Nat) : Nat -> Nat
 | 0 => s | 1 => i | _ => 0
def ReleaseReq (w : World) (rb : Nat) (ss ii : Int) : Prop := w.heap[rb]? = some (.cells #[.int .i64 ss, .int .i64 ii] 214 (0, 0))
def leaseRec (s i kd m k n c : Nat) : ByteArray := ⟨([1] ++ flatB (leaseVals s i kd m k n c) leaseL).toArray⟩
def relRec (s i : Nat) : ByteArray := ⟨([3] ++ flatB (releaseVals s i) releaseL).toArray⟩
theorem leaseRec_size (s i kd m k n c : Nat) : (leaseRec s i kd m k n c).size <= 100000 := by
 show ([1] ++ flatB (leaseVals s i kd m k n c) leaseL).toArray.size <= 100000
 have h1 := len_flatB (leaseVals s i kd m k n c) leaseL (fun x hx => sizes_lease x hx)
 have h2 : leaseL.length = 7 := rfl
 rw [List.size_toArray, List.length_append]
 simp at h1 ⊢
 omega
theorem relRec_size (s i : Nat) : (relRec s i).size <= 100000 := by
 show ([3] ++ flatB (releaseVals s i) releaseL).toArray.size <= 100000
 have h1 := len_flatB (releaseVals s i) releaseL (fun x hx => sizes_release x hx)
 have h2 : releaseL.length = 2 := rfl
 rw [List.size_toArray, List.length_append]
 simp at h1 ⊢
 omega
theorem leasingRecord_c (rb s i kd m k n c : Nat) (hs : s <= 2147483647) (hi : i <= 2147483647) (hkd : kd <= 255) (hm : m <= 255) (hk : k <= 255) (hn : n <= 255) (hc : c <= 2147483647) (w : World) (hr : LeaseReq w rb s i kd m k n c) :
  Calls Tryz.prog 132 #[.agg #[.pointer (some ⟨rb, 0, none⟩)]] w fun e w' => e = .returned (.string (leaseRec s i kd m k n c)) /\ Ext w w' := by
 have HW : Hid (∀ w', Ext w w' -> _) := fun w' hx => wireWrite_1 rb s i kd m k n c (leaseVals s i kd m k n c) ⟨rfl, rfl, rfl, rfl, rfl, rfl, rfl⟩ (fun j => by
  unfold leaseVals; split <;> omega) w' (hx.block hr)
 clear hs hi hkd hm hk hn hc hr
 unfold leaseRec
 go_enter Tryz.func132, Tryz.ntmps132
 go_wp2_with fail
 refine (HW.out _ ((Ext.refl w).alloc _)).mono ?_
 rintro e w1 ⟨rfl, hx1⟩
 go_wp2
 go_ret
 exact ⟨rfl, ((Ext.refl w).alloc _).trans hx1⟩
theorem releasingRecord_c (rb s i : Nat) (hs : s <= 2147483647) (hi : i <= 2147483647) (w : World) (hr : ReleaseReq w rb s i) :
  Calls Tryz.prog 133 #[.agg #[.pointer (some ⟨rb, 0, none⟩)]] w fun e w' => e = .returned (.string (relRec s i)) /\ Ext w w' := by
 have HW : Hid (∀ w', Ext w w' -> _) := fun w' hx => wireWrite_3 rb s i (releaseVals s i) ⟨rfl, rfl⟩ (fun j => by
  unfold releaseVals; split <;> omega) w' (hx.block hr)
 clear hs hi hr
 unfold relRec
 go_enter Tryz.func133, Tryz.ntmps133
 go_wp2_with fail
 refine (HW.out _ ((Ext.refl w).alloc _)).mono ?_
 rintro e w1 ⟨rfl, hx1⟩
 go_wp2
 go_ret
 exact ⟨rfl, ((Ext.refl w).alloc _).trans hx1⟩
structure Stk where
 kd : Nat
 m : Nat
 k : Nat
 n : Nat
 ts : List (List Int × Bool)
 leased : Nat
def StkR.abs (x : StkR) : Stk := ⟨x.kd, x.m, x.k, x.n, x.ts, x.leased⟩
def Stk.is (x : Stk) (kd m k n : Int) : Bool := (x.kd : Int) == kd && ((x.m : Int) == m && ((x.k : Int) == k && (x.n : Int) == n))
def Stk.sh (x : Stk) : Sh := shOf x.kd x.m x.k x.n
def Stk.more (x : Stk) (us : List (List Int × Bool)) : Stk := { x with ts := x.ts ++ us }
def stkRec (x : Stk) : ByteArray := ⟨(makeB x.kd x.m x.k x.n x.sh x.ts).toArray⟩
def lsRec (l : LsV) : ByteArray := leaseRec l.s.toNat l.i.toNat l.kd.toNat l.m.toNat l.k.toNat l.n.toNat l.c.toNat
def frRec (l : LsV) : ByteArray := relRec l.s.toNat l.i.toNat
def recsP (S : List Stk) (ls : List LsV) : List ByteArray := (S.map stkRec ++ ls.map lsRec) ++ (ls.filter (·.r)).map frRec
def LsOk (l : LsV) : Prop := (0 <= l.s /\ l.s <= 2147483647) /\ (0 <= l.i /\ l.i <= 2147483647) /\ (0 <= l.kd /\ l.kd <= 255) /\ (0 <= l.m /\ l.m <= 255) /\ (0 <= l.k /\ l.k <= 255) /\ (0 <= l.n /\ l.n <= 255) /\ (0 <= l.c /\ l.c <= 2147483647)
structure StkOk (x : Stk) : Prop where
 sh : 1 <= x.sh.x + x.sh.y + x.sh.z /\ x.sh.x + x.sh.y + x.sh.z <= 27
 made : 1 <= x.ts.length /\ x.ts.length <= 200
 ts : ∀ u ∈ x.ts, OkT x.sh u
theorem stkRec_size {x : Stk} (h : StkOk x) : (stkRec x).size <= 100000 := by
 show (makeB x.kd x.m x.k x.n x.sh x.ts).toArray.size <= 100000
 have h1 := len_trisB h.sh.2 h.ts
 have h2 := h.made.2
 have h3 : x.ts.length * 433 <= 200 * 433 := Nat.mul_le_mul_right _ h2
 rw [List.size_toArray, makeB, List.length_append]
 show 5 + _ <= _
 omega
theorem recs_size {S : List Stk} {ls : List LsV} (h : ∀ x ∈ S, StkOk x) : ∀ r ∈ recsP S ls, r.size <= 100000 := by
 intro r hr
 rcases List.mem_append.1 hr with hr | hr
 ·rcases List.mem_append.1 hr with hr | hr
  ·obtain ⟨x, hx, rfl⟩ := List.mem_map.1 hr
   exact stkRec_size (h x hx)
  ·obtain ⟨l, _, rfl⟩ := List.mem_map.1 hr
   exact leaseRec_size _ _ _ _ _ _ _
 ·obtain ⟨l, _, rfl⟩ := List.mem_map.1 hr
  exact relRec_size _ _
def strVs (l : List ByteArray) : List Value := l.map Value.string
def StrsAt (w : World) (base : Nat) (v : Value) (l : List ByteArray) : Prop := w.ownsRow base 9 1 v l.length (strVs l)
section
variable {B : Nat} {F : Nat -> Prop} {sv lv dv : Value} {R : List StkR} {ls : List LsV} {ops : List OpV} {fl : Bool} {ah : Int} {kn : Bool}
theorem records_c (hR : R.length <= 100) (hls : ls.length <= 900) (hok : ∀ x ∈ R, StkOk x.abs) (hlok : ∀ l ∈ ls, LsOk l) (w : World) (h : StoreOf w B F sv lv dv R ls ops fl ah kn) :
  Calls Tryz.prog 92 #[.pointer (some ⟨B, 0, none⟩)] w fun e w' => ∃ v, e = .returned v /\ StrsAt w' w.heap.size v (recsP (R.map StkR.abs) ls) /\ Ext w w' := by
 obtain ⟨i0, hi, hz0, hz1, hz2⟩ := info_parts infoStr
 obtain ⟨c0, c1, _⟩ := h.deal.cells
 have hB := h.deal.lt
 have H : Hid _ := h
 have HOK : Hid _ := hok
 have HLOK : Hid _ := hlok
 obtain ⟨sa, sc, hsv⟩ := owns_slice h.srow
 obtain ⟨la, lc, hlv⟩ := owns_slice h.lrow
 subst hsv hlv
 clear h hok hlok
 obtain ⟨rn, hrn⟩ : ∃ rn, R.length = rn := ⟨_, rfl⟩
 obtain ⟨ln, hln⟩ : ∃ ln, ls.length = ln := ⟨_, rfl⟩
 have HRN : Hid (R.length = rn) := hrn
 have HLN : Hid (ls.length = ln) := hln
 rw [hrn] at c0 hR
 rw [hln] at c1 hls
 have C1 : Hid (w.cell? ⟨B, 1, none⟩ = some (.slice la ln lc)) := c1
 clear hrn hln
 go_enter Tryz.func92, Tryz.ntmps92
 go_wp2
 go_loopw [3, 15] (fun u i wr => ∃ j : Nat, j <= rn /\ i = .int .i64 j /\ StrsAt wr w.heap.size u (((R.map StkR.abs).take j).map stkRec) /\ Ext w wr) (fun _ i _ => rn - (intOf i).toNat)
 case atStart => exact ⟨0, Nat.zero_le _, rfl, World.ownsRow_nil _ _ _ _, Ext.refl _⟩
 case round =>
  obtain ⟨j, hj, rfl, ho, hx⟩ := hrel
  have HO : Hid (StrsAt wr w.heap.size u3 (((R.map StkR.abs).take j).map stkRec)) := ho
  have HX : Hid (Ext w wr) := hx
  have hwl := hx.le
  clear ho hx
  by_cases hlt : j < rn
  ·have hjR : j < R.length := by rw [HRN.out]; exact hlt
   have hsr := H.out.srow
   rcases owns_form hsr with ⟨_, h0, _⟩ | ⟨g, cap, hg, _, _, _⟩
   ·omega
   ·injection hg with hg1 hg2 hg3
    subst hg1 hg3
    rw [HRN.out] at hsr
    have e0 : wr.cell? ⟨g, j, none⟩ = some (.pointer (some ⟨R[j].blk, 0, none⟩)) := HX.out.cell (owns_cell hsr (by simp [stkPtrs, hjR]))
    have hgl := lG wr _ e0
    have HMk : Hid (∀ w', Ext w w' -> _) := fun w' hx => stkMaking_c R[j] F (HOK.out R[j] (List.getElem_mem hjR)).made.1 (by have := (HOK.out R[j] (List.getElem_mem hjR)).made.2; have e : R[j].abs.ts.length = R[j].ts.length := rfl; omega) w' ((H.out.ext hx).stk R[j] (List.getElem_mem hjR))
    have HRc : Hid (∀ (gt tcap : Nat) (w' : World), TriRow w' F gt R[j].sh R[j].ts -> Calls Tryz.prog 131 #[.agg #[.int .i64 R[j].kd, .int .i64 R[j].m, .int .i64 R[j].k, .int .i64 R[j].n, .slice (some ⟨gt, 0, none⟩) R[j].ts.length tcap]] w' fun e w'' => e = .returned (.string ⟨(makeB R[j].kd R[j].m R[j].k R[j].n R[j].sh R[j].ts).toArray⟩) /\ Ext w' w'') := fun gt tcap w' htr => makingRecord_c R[j].kd R[j].m R[j].k R[j].n gt tcap R[j].ts.length F R[j].sh (HOK.out R[j] (List.getElem_mem hjR)).sh.1 (HOK.out R[j] (List.getElem_mem hjR)).sh.2 R[j].ts rfl (HOK.out R[j] (List.getElem_mem hjR)).made.2 (HOK.out R[j] (List.getElem_mem hjR)).ts w' htr
    have HNx : Hid (((R.map StkR.abs).take (j + 1)).map stkRec = ((R.map StkR.abs).take j).map stkRec ++ [⟨(makeB R[j].kd R[j].m R[j].k R[j].n R[j].sh R[j].ts).toArray⟩]) := by
     show ((R.map StkR.abs).take (j + 1)).map stkRec = _
     rw [List.take_succ_eq_append_getElem (by simpa using hjR), List.map_append]
     simp [stkRec, StkR.abs, Stk.sh, StkR.sh]
    have hln : (((R.map StkR.abs).take j).map stkRec).length <= 100 := by simp; omega
    generalize ((R.map StkR.abs).take j).map stkRec = P at *
    generalize R[j].kd = kd at *
    generalize R[j].m = m at *
    generalize R[j].k = k at *
    generalize R[j].n = n at *
    generalize R[j].blk = blk at *
    generalize R[j].ts = ts at *
    generalize R[j].sh = s at *
    generalize (⟨(makeB kd m k n s ts).toArray⟩ : ByteArray) = rec at *
    clear hsr
    go_wp2_with fail
    refine (HMk.out _ HX.out).mono ?_
    rintro e w2 ⟨gt, tcap, rfl, htr, hx2⟩
    have HX2 : Hid (Ext wr w2) := hx2
    have HTR : Hid (TriRow w2 F gt s ts) := htr
    clear htr hx2
    go_wp2_with fail
    refine (HRc.out gt tcap _ HTR.out).mono ?_
    rintro e w3 ⟨rfl, hx3⟩
    have HX3 : Hid (Ext wr w3) := HX2.out.trans hx3
    have hw3 := HX3.out.le
    clear hx3
    go_wp2_with (at_builtin; refine wpList_append_own _ rfl _ _ 166 rfl w.heap.size 9 i0 (.string ⟨#[]⟩) 1 16 Tryz.underlying166 hi hz0 hz1 hz2 rfl (by decide) _ _ _ rfl (World.ownsRow.alloc (Ext.owns HX3.out HO.out) _) ⟨_, 0, none⟩ 1 1 [.string rec] rfl rfl ?c1 ?c2 ?c3 ?c4 ?c5 ?_)
    case c1 => exact cell_one_new _ _ _
    case c2 => intro u hu; simp at hu; subst hu; rfl
    case c3 => unfold maxLen; omega
    case c4 => omega
    case c5 => simp; omega
    intro v4 w4 ho4 hg4 _
    have HX4 : Hid (Ext w w4) := Ext.grown (Ext.alloc (HX.out.trans HX3.out) _) hg4 (fun q hq => (World.ownsRow.lt HO.out q hq).1)
    have HO4 : Hid (StrsAt w4 w.heap.size v4 (P ++ [rec])) := by
     show World.ownsRow _ _ _ _ _ _ _
     rw [List.length_append, strVs, List.map_append]
     exact ho4
    clear ho4 hg4
    go_wp2
    go_roundw
    case rel => exact ⟨j + 1, by omega, by go_num, by rw [HNx.out]; exact HO4.out, HX4.out⟩
    case measure => simp [intOf]; omega
  ·obtain rfl : j = rn := by omega
   have HO1 : Hid (StrsAt wr w.heap.size u3 ((R.map StkR.abs).map stkRec)) := by
    have h := HO.out
    rw [List.take_of_length_le (by rw [List.length_map, HRN.out]; exact Nat.le_refl _)] at h
    exact h
   have hln1 : ((R.map StkR.abs).map stkRec).length <= 100 := by simp [HRN.out]; omega
   obtain ⟨P1, hP1⟩ : ∃ P1, (R.map StkR.abs).map stkRec = P1 := ⟨_, rfl⟩
   rw [hP1] at HO1 hln1
   have HP1 : Hid ((R.map StkR.abs).map stkRec = P1) := hP1
   have c1 := HX.out.cell c1
   clear hP1 HO c0
   have hBr := Nat.lt_of_lt_of_le hB hwl
   have HXr : Hid (Ext w wr) := HX.out
   obtain ⟨w0, hw0⟩ : ∃ w0, wr = w0 := ⟨_, rfl⟩
   rw [hw0] at HO1 HXr c1 hBr ⊢
   clear hw0 HX hwl
   go_wp2
   go_loopw [3, 31] (fun u i wr => ∃ j : Nat, j <= ln /\ i = .int .i64 j /\ StrsAt wr w.heap.size u (P1 ++ (ls.take j).map lsRec) /\ Ext w wr) (fun _ i _ => ln - (intOf i).toNat)
   case atStart => exact ⟨0, Nat.zero_le _, rfl, by rw [List.take_zero, List.map_nil, List.append_nil]; exact HO1.out, HXr.out⟩
   case round =>
    obtain ⟨q, hq, rfl, ho, hx⟩ := hrel
    have HO : Hid (StrsAt wr w.heap.size u3 (P1 ++ (ls.take q).map lsRec)) := ho
    have HX : Hid (Ext w wr) := hx
    have hwl := HX.out.le
    clear ho hx
    by_cases hlt : q < ln
    ·have hqL : q < ls.length := by rw [HLN.out]; exact hlt
     have hlr := H.out.lrow
     rcases owns_form hlr with ⟨_, h0, _⟩ | ⟨g, cap, hg, _, _, _⟩
     ·omega
     ·injection hg with hg1 hg2 hg3
      subst hg1 hg3
      obtain ⟨l0, l1, l2, l3, l4, l5, l6, l7, l8⟩ := (hlr.ext HX.out).cells q hqL
      have hgl := lG wr _ l0
      obtain ⟨b0, b1, b2, b3, b4, b5, b6⟩ := HLOK.out ls[q] (List.getElem_mem hqL)
      have HNx : Hid (P1 ++ (ls.take (q + 1)).map lsRec = (P1 ++ (ls.take q).map lsRec) ++ [lsRec ls[q]]) := by
       show P1 ++ (ls.take (q + 1)).map lsRec = _
       rw [List.take_succ_eq_append_getElem hqL, List.map_append, <- List.append_assoc]
       rfl
      have hln : (P1 ++ (ls.take q).map lsRec).length <= 1000 := by
       rw [List.length_append, List.length_map, List.length_take]
       omega
      obtain ⟨ss, e1⟩ := Int.eq_ofNat_of_zero_le b0.1
      obtain ⟨ii, e2⟩ := Int.eq_ofNat_of_zero_le b1.1
      obtain ⟨kd, e3⟩ := Int.eq_ofNat_of_zero_le b2.1
      obtain ⟨m, e4⟩ := Int.eq_ofNat_of_zero_le b3.1
      obtain ⟨k, e5⟩ := Int.eq_ofNat_of_zero_le b4.1
      obtain ⟨n, e6⟩ := Int.eq_ofNat_of_zero_le b5.1
      obtain ⟨c, e7⟩ := Int.eq_ofNat_of_zero_le b6.1
      have HRe : Hid (lsRec ls[q] = leaseRec ss ii kd m k n c) := by
       show lsRec ls[q] = _
       rw [lsRec, e1, e2, e3, e4, e5, e6, e7]
       rfl
      rw [e1] at l0 b0
      rw [e2] at l1 b1
      rw [e3] at l2 b2
      rw [e4] at l3 b3
      rw [e5] at l4 b4
      rw [e6] at l5 b5
      rw [e7] at l7 b6
      have HRc : Hid (∀ (rb : Nat) (w' : World), LeaseReq w' rb ss ii kd m k n c -> Calls Tryz.prog 132 #[.agg #[.pointer (some ⟨rb, 0, none⟩)]] w' fun e w'' => e = .returned (.string (leaseRec ss ii kd m k n c)) /\ Ext w' w'') := fun rb w' hr => leasingRecord_c rb ss ii kd m k n c (by omega) (by omega) (by omega) (by omega) (by omega) (by omega) (by omega) w' hr
      clear b0 b1 b2 b3 b4 b5 b6 e1 e2 e3 e4 e5 e6 e7 hlr
      generalize P1 ++ (ls.take q).map lsRec = P at *
      generalize ls[q].f = ff at *
      generalize ls[q].r = rr at *
      generalize leaseRec ss ii kd m k n c = rec at *
      go_wp2_with fail
      refine (HRc.out _ _ (at_new (by simp))).mono ?_
      rintro e w3 ⟨rfl, hx3⟩
      have HX3 : Hid (Ext wr w3) := (((Ext.refl wr).alloc _).alloc _).trans hx3
      have hw3 := HX3.out.le
      clear hx3
      go_wp2_with (at_builtin; refine wpList_append_own _ rfl _ _ 166 rfl w.heap.size 9 i0 (.string ⟨#[]⟩) 1 16 Tryz.underlying166 hi hz0 hz1 hz2 rfl (by decide) _ _ _ rfl (World.ownsRow.alloc (Ext.owns HX3.out HO.out) _) ⟨_, 0, none⟩ 1 1 [.string rec] rfl rfl ?c1 ?c2 ?c3 ?c4 ?c5 ?_)
      case c1 => exact cell_one_new _ _ _
      case c2 => intro u hu; simp at hu; subst hu; rfl
      case c3 => unfold maxLen; omega
      case c4 => omega
      case c5 => simp; omega
      intro v4 w4 ho4 hg4 _
      have HX4 : Hid (Ext w w4) := Ext.grown (Ext.alloc (HX.out.trans HX3.out) _) hg4 (fun q' hq' => (World.ownsRow.lt HO.out q' hq').1)
      have HO4 : Hid (StrsAt w4 w.heap.size v4 (P ++ [rec])) := by
       show World.ownsRow _ _ _ _ _ _ _
       rw [List.length_append, strVs, List.map_append]
       exact ho4
      clear ho4 hg4
      go_wp2
      go_roundw
      case rel => exact ⟨q + 1, by omega, by go_num, by rw [HNx.out, HRe.out]; exact HO4.out, HX4.out⟩
      case measure => simp [intOf]; omega
    ·obtain rfl : q = ln := by omega
     have HO2 : Hid (StrsAt wr w.heap.size u3 (P1 ++ ls.map lsRec)) := by
      have h := HO.out
      rw [List.take_of_length_le (by rw [HLN.out]; exact Nat.le_refl _)] at h
      exact h
     have hln2 : (P1 ++ ls.map lsRec).length <= 1000 := by
      rw [List.length_append, List.length_map, HLN.out]
      omega
     obtain ⟨P2, hP2⟩ : ∃ P2, P1 ++ ls.map lsRec = P2 := ⟨_, rfl⟩
     rw [hP2] at HO2 hln2
     have HP2 : Hid (P1 ++ ls.map lsRec = P2) := hP2
     have c1 := HX.out.cell C1.out
     have hBr := Nat.lt_of_lt_of_le hB hwl
     clear hP2 HO HO1 HXr
     go_wp2
     go_loopw [3, 56] (fun u i wr => ∃ j : Nat, j <= q /\ i = .int .i64 j /\ StrsAt wr w.heap.size u (P2 ++ ((ls.take j).filter (·.r)).map frRec) /\ Ext w wr) (fun _ i _ => q - (intOf i).toNat)
     case atStart => exact ⟨0, Nat.zero_le _, rfl, by rw [List.take_zero, List.filter_nil, List.map_nil, List.append_nil]; exact HO2.out, HX.out⟩
     case round =>
      clear HX c1 hBr hwl
      obtain ⟨j2, hj2, rfl, ho, hx⟩ := hrel
      have HO : Hid (StrsAt wr w.heap.size u3 (P2 ++ ((ls.take j2).filter (·.r)).map frRec)) := ho
      have HX : Hid (Ext w wr) := hx
      have hwl := HX.out.le
      clear ho hx
      by_cases hlt : j2 < q
      ·have hqL : j2 < ls.length := by rw [HLN.out]; exact hlt
       have hlr := H.out.lrow
       rcases owns_form hlr with ⟨_, h0, _⟩ | ⟨g, cap, hg, _, _, _⟩
       ·omega
       ·injection hg with hg1 hg2 hg3
        subst hg1 hg3
        obtain ⟨l0, l1, l2, l3, l4, l5, l6, l7, l8⟩ := (hlr.ext HX.out).cells j2 hqL
        have hgl := lG wr _ l0
        obtain ⟨b0, b1, b2, b3, b4, b5, b6⟩ := HLOK.out ls[j2] (List.getElem_mem hqL)
        have hln : (P2 ++ ((ls.take j2).filter (·.r)).map frRec).length <= 2000 := by
         have h1 := List.length_filter_le (·.r) (ls.take j2)
         rw [List.length_take] at h1
         rw [List.length_append, List.length_map]
         omega
        have hnx : P2 ++ ((ls.take (j2 + 1)).filter (·.r)).map frRec = (P2 ++ ((ls.take j2).filter (·.r)).map frRec) ++ (if ls[j2].r = true then [frRec ls[j2]] else []) := by
         rw [List.take_succ_eq_append_getElem hqL, List.filter_append, List.map_append, <- List.append_assoc]
         congr 1
         cases hq : ls[j2].r <;> simp [hq]
        obtain ⟨ss, e1⟩ := Int.eq_ofNat_of_zero_le b0.1
        obtain ⟨ii, e2⟩ := Int.eq_ofNat_of_zero_le b1.1
        have HRe : Hid (frRec ls[j2] = relRec ss ii) := by
         show frRec ls[j2] = _
         rw [frRec, e1, e2]
         rfl
        rw [e1] at l0 b0
        rw [e2] at l1 b1
        have HRc : Hid (∀ (rb : Nat) (w' : World), ReleaseReq w' rb ss ii -> Calls Tryz.prog 133 #[.agg #[.pointer (some ⟨rb, 0, none⟩)]] w' fun e w'' => e = .returned (.string (relRec ss ii)) /\ Ext w' w'') := fun rb w' hr => releasingRecord_c rb ss ii (by omega) (by omega) w' hr
        clear b0 b1 b2 b3 b4 b5 b6 e1 e2 hlr
        generalize P2 ++ ((ls.take j2).filter (·.r)).map frRec = P at *
        generalize ls[j2].kd = kd at *
        generalize ls[j2].m = m at *
        generalize ls[j2].k = k at *
        generalize ls[j2].n = n at *
        generalize ls[j2].f = ff at *
        generalize ls[j2].c = cc at *
        generalize relRec ss ii = rec at *
        cases hrr : ls[j2].r with
        | false =>
         have HNx : Hid (P2 ++ ((ls.take (j2 + 1)).filter (·.r)).map frRec = P) := by
          show _ = _
          rw [hnx, hrr]
          simp
         rw [hrr] at l8
         clear hnx hrr
         go_wp2
         go_roundw
         case rel => exact ⟨j2 + 1, by omega, by go_num, by rw [HNx.out]; exact Ext.owns ((Ext.refl wr).alloc _) HO.out, HX.out.alloc _⟩
         case measure => simp [intOf]; omega
        | true =>
         have HNx : Hid (P2 ++ ((ls.take (j2 + 1)).filter (·.r)).map frRec = P ++ [frRec ls[j2]]) := by
          show _ = _
          rw [hnx, hrr]
          simp
         rw [hrr] at l8
         clear hnx hrr
         go_wp2_with fail
         refine (HRc.out _ _ (at_new (by simp))).mono ?_
         rintro e w3 ⟨rfl, hx3⟩
         have HX3 : Hid (Ext wr w3) := (((Ext.refl wr).alloc _).alloc _).trans hx3
         have hw3 := HX3.out.le
         clear hx3
         go_wp2_with (at_builtin; refine wpList_append_own _ rfl _ _ 166 rfl w.heap.size 9 i0 (.string ⟨#[]⟩) 1 16 Tryz.underlying166 hi hz0 hz1 hz2 rfl (by decide) _ _ _ rfl (World.ownsRow.alloc (Ext.owns HX3.out HO.out) _) ⟨_, 0, none⟩ 1 1 [.string rec] rfl rfl ?c1 ?c2 ?c3 ?c4 ?c5 ?_)
         case c1 => exact cell_one_new _ _ _
         case c2 => intro u hu; simp at hu; subst hu; rfl
         case c3 => unfold maxLen; omega
         case c4 => omega
         case c5 => simp; omega
         intro v4 w4 ho4 hg4 _
         have HX4 : Hid (Ext w w4) := Ext.grown (Ext.alloc (HX.out.trans HX3.out) _) hg4 (fun q' hq' => (World.ownsRow.lt HO.out q' hq').1)
         have HO4 : Hid (StrsAt w4 w.heap.size v4 (P ++ [rec])) := by
          show World.ownsRow _ _ _ _ _ _ _
          rw [List.length_append, strVs, List.map_append]
          exact ho4
         clear ho4 hg4
         go_wp2
         go_roundw
         case rel => exact ⟨j2 + 1, by omega, by go_num, by rw [HNx.out, HRe.out]; exact HO4.out, HX4.out⟩
         case measure => simp [intOf]; omega
      ·obtain rfl : j2 = q := by omega
       have HF : Hid (StrsAt wr w.heap.size u3 (recsP (R.map StkR.abs) ls)) := by
        have h := HO.out
        rw [List.take_of_length_le (by rw [HLN.out]; exact Nat.le_refl _)] at h
        show StrsAt _ _ _ _
        rw [recsP, HP1.out, HP2.out]
        exact h
       go_wp2
       go_ret
       exact ⟨_, rfl, HF.out, HX.out⟩
end
end
end Go.Proofs.YtmnjhhachdlmkaaGreat
