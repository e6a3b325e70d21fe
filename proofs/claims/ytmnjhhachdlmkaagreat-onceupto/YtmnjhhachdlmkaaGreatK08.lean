import Derived.Test.YtmnjhhachdlmkaaGreatK07
import Derived.Test.YtmnjhhachdlmkaaGreatK01
import Derived.Test.YtmnjhhachdlmkaaGreatK02
import Derived.Test.YtmnjhhachdlmkaaGreatK04
namespace Go.Proofs.YtmnjhhachdlmkaaGreat
open World renaming block_lt_of_cell? -> lG
-- GFe
section
set_option maxRecDepth 100000
set_option maxHeartbeats 3200000
open Go.RowKit Go.Maps
def sharesW (x : Stk) (p : Int) (i : Nat) : List Int := if p = 0 then sh0 x.sh (x.ts.getD i ([], false)).1 else sh1 x.sh (x.ts.getD i ([], false)).1
def fetched (x : Stk) (p : Int) (f j : Nat) : List Int := (List.range j).flatMap (fun i => sharesW x p (f + i))
theorem fetched_succ (x : Stk) (p : Int) (f j : Nat) : fetched x p f (j + 1) = fetched x p f j ++ sharesW x p (f + j) := by simp [fetched, List.range_succ]
section
variable {B : Nat} {F : Nat -> Prop} {sv lv dv : Value} {R : List StkR} {ls : List LsV} {ops : List OpV} {fl : Bool} {ah : Int} {kn : Bool}
theorem StkAt.look {w : World} {x : StkR} (h : StkAt w F x) {i : Nat} (hi : i < x.ts.length) (hk : x.ts[i].2 = true) (hm : i <= 1000000) :
  ∃ a0 c0 a1 c1, (∀ w', Ext w w' -> (Instr.lookup 152 (.map (some x.mb)) (.int .i64 (i : Int)) false).run Tryz.prog w' = .ok (.agg #[.slice (some ⟨a0, 0, none⟩) (x.sh.x + x.sh.y + x.sh.z) c0, .slice (some ⟨a1, 0, none⟩) (x.sh.x + x.sh.y + x.sh.z) c1]) w') /\ WordsAt w a0 0 (sh0 x.sh x.ts[i].1) /\ WordsAt w a1 0 (sh1 x.sh x.ts[i].1) := by
 obtain ⟨D, hD, hK⟩ := h.map
 obtain ⟨v, hv, a0, c0, a1, c1, rfl, hw0, hw1, _, _⟩ := hK.2.2 i hi hk
 refine ⟨a0, c0, a1, c1, fun w' hx => ?_, hw0.1, hw1.1⟩
 have hD' : w'.ownsMap Tryz.prog 3 heldElem x.mb x.ts.length D := map_turn (S := fun _ => False) hD (Turn.of_ext hx) id
 obtain ⟨v', ps, hrun, hv'⟩ := hD'.lookup keyInt Tryz.underlying152 (zeroSh w') (zd := .held (.agg #[.slice none 0 0, .slice none 0 0])) (zp := []) rfl (keyOf_int_mk Tryz.underlying3 (a := (i : Int)) (by simp [Lit.wf, IntKind.min, IntKind.max, IntKind.signed, IntKind.bits]; omega))
 have hv2 : D.atKey (.int .i64 (i : Int)) (.held (.agg #[.slice none 0 0, .slice none 0 0])) = _ := hv
 rw [hv2] at hv'
 simp [heldElem] at hv'
 rw [hrun, hv'.1]
theorem ix_0 (a0 a1 L c0 c1 : Nat) (w : World) : (Instr.index 176 (.agg #[.slice (some ⟨a0, 0, none⟩) L c0, .slice (some ⟨a1, 0, none⟩) L c1]) (.int .i64 0)).run Tryz.prog w = .ok (.slice (some ⟨a0, 0, none⟩) L c0) w := by kernel_rfl
theorem ix_1 (a0 a1 L c0 c1 : Nat) (w : World) : (Instr.index 176 (.agg #[.slice (some ⟨a0, 0, none⟩) L c0, .slice (some ⟨a1, 0, none⟩) L c1]) (.int .i64 1)).run Tryz.prog w = .ok (.slice (some ⟨a1, 0, none⟩) L c1) w := by kernel_rfl
theorem storeFetchNo_c (rb : Nat) (ss kd m k n f c p cd : Int) (hcd : cd ≠ 0) (hR : R.length <= 100) (w : World) (h : StoreOf w B F sv lv dv R ls ops fl ah kn) (hr : FetchReq w rb ss kd m k n f c p)
  (hmf : ∀ w', Ext w w' -> Calls Tryz.prog 169 #[.pointer (some ⟨B, 0, none⟩), stkPtr R kd m k n, .pointer (some ⟨rb, 0, none⟩)] w' fun e w'' => e = .returned (.int .i64 cd) /\ Ext w' w'') :
  Calls Tryz.prog 120 #[.pointer (some ⟨B, 0, none⟩), .pointer (some ⟨rb, 0, none⟩)] w fun e w' => e = .returned (replyV cd 0 0 (.slice none 0 0)) /\ Ext w w' := by
 have HMF : Hid (∀ w', Ext w w' -> _) := hmf
 have HF : Hid (∀ w', Ext w w' -> _) := fun w' hx => findR_c kd m k n hR w' (h.ext hx)
 unfold clsV at HF
 have r1 : w.cell? ⟨rb, 1, none⟩ = some (.int .i64 kd) := cell_at hr rfl
 have r2 : w.cell? ⟨rb, 2, none⟩ = some (.int .i64 m) := cell_at hr rfl
 have r3 : w.cell? ⟨rb, 3, none⟩ = some (.int .i64 k) := cell_at hr rfl
 have r4 : w.cell? ⟨rb, 4, none⟩ = some (.int .i64 n) := cell_at hr rfl
 have hrl := lG w _ r1
 clear h hr hmf
 unfold replyV
 have hsp : ∃ a, stkPtr R kd m k n = .pointer a := by
  unfold stkPtr
  split
  ·exact ⟨_, rfl⟩
  ·exact ⟨_, rfl⟩
 obtain ⟨pa, hpa⟩ := hsp
 rw [hpa] at HMF HF
 clear hpa
 go_enter Tryz.func120, Tryz.ntmps120
 go_wp2_with fail
 refine (HF.out _ ((Ext.refl w).alloc _)).mono ?_
 rintro e w1 ⟨rfl, hx1⟩
 have hr1 := hx1.block (heap_alloc_new _ _)
 have HX1 : Hid (Ext w w1) := ((Ext.refl w).alloc _).trans hx1
 have HR1 : Hid _ := hr1
 clear hx1 hr1
 go_wp2_with fail
 refine (HMF.out _ HX1.out).mono ?_
 rintro e w2 ⟨rfl, hx2⟩
 have hr2 := hx2.block HR1.out
 have o0 := cell_at hr2 (i := 0) rfl
 have o1 := cell_at hr2 (i := 1) rfl
 have o2 := cell_at hr2 (i := 2) rfl
 have o3 := cell_at hr2 (i := 3) rfl
 have f0 := frozen_row hr2 0
 have f1 := frozen_row hr2 1
 have f2 := frozen_row hr2 2
 have f3 := frozen_row hr2 3
 have HX2 : Hid (Ext w w2) := HX1.out.trans hx2
 clear hx2 hr2
 go_wp2
 refine bodyPost_ret (v := .agg #[.int .i64 cd, .int .i64 0, .int .i64 0, .slice none 0 0]) (by simp [results, Tryz.results120, go_sem, o0, o1, o2, o3]) rfl ⟨rfl, ?_⟩
 exact ext4 HX2.out (Nat.le_refl _) _ _ _ _
theorem storeFetch_c (rb f c L : Nat) (x : StkR) (ss kd m k n p : Int) (hp : p = 0 \/ p = 1) (hf1 : f <= 1000) (hc1 : 1 <= c) (hc40 : c <= 40) (hR : R.length <= 100) (hfx : R.find? (fun x => x.is kd m k n) = some x) (hL : L = x.sh.x + x.sh.y + x.sh.z) (hL1 : 1 <= L) (hL2 : L <= 27)
  (hxk : ∀ i : Nat, i < c -> ∃ h : f + i < x.ts.length, x.ts[f + i].2 = true) (hlen : ∀ u ∈ x.ts, OkT x.sh u) (w : World) (h : StoreOf w B F sv lv dv R ls ops fl ah kn) (hr : FetchReq w rb ss kd m k n f c p)
  (hmf : ∀ w', Ext w w' -> Calls Tryz.prog 169 #[.pointer (some ⟨B, 0, none⟩), .pointer (some ⟨x.blk, 0, none⟩), .pointer (some ⟨rb, 0, none⟩)] w' fun e w'' => e = .returned (.int .i64 0) /\ Ext w' w'') :
  Calls Tryz.prog 120 #[.pointer (some ⟨B, 0, none⟩), .pointer (some ⟨rb, 0, none⟩)] w fun e w' => ∃ gv cv, e = .returned (replyV 0 f c (.slice (some ⟨gv, 0, none⟩) (c * L) cv)) /\ w'.ownsRow w.heap.size 146 1 (.slice (some ⟨gv, 0, none⟩) (c * L) cv) (c * L) ((fetched x.abs p f c).map (Value.int .u64)) /\ Ext w w' := by
 obtain ⟨i0, hi, hq0, hq1, hq2⟩ := info_parts infoU64
 have HMF : Hid (∀ w', Ext w w' -> _) := hmf
 have HF : Hid (∀ w', Ext w w' -> Calls Tryz.prog 168 #[.pointer (some ⟨B, 0, none⟩), .agg #[.int .i64 kd, .int .i64 m, .int .i64 k, .int .i64 n]] w' fun e w'' => e = .returned (.pointer (some ⟨x.blk, 0, none⟩)) /\ Ext w' w'') := fun w' hx => by
  have := findR_c kd m k n hR w' (h.ext hx)
  rwa [stkPtr, hfx] at this
 have hxR : x ∈ R := List.mem_of_find?_eq_some hfx
 have HLook : Hid (∀ i : Nat, i < c -> ∃ a0 c0 a1 c1 ap cp, (∀ w', Ext w w' -> (Instr.lookup 152 (.map (some x.mb)) (.int .i64 ((f + i : Nat) : Int)) false).run Tryz.prog w' = .ok (.agg #[.slice (some ⟨a0, 0, none⟩) L c0, .slice (some ⟨a1, 0, none⟩) L c1]) w') /\ (∀ W, (Instr.index 176 (.agg #[.slice (some ⟨a0, 0, none⟩) L c0, .slice (some ⟨a1, 0, none⟩) L c1]) (.int .i64 p)).run Tryz.prog W = .ok (.slice (some ⟨ap, 0, none⟩) L cp) W) /\ WordsAt w ap 0 (sharesW x.abs p (f + i)) /\ (sharesW x.abs p (f + i)).length = L) := fun i hic => by
  obtain ⟨hix, hk⟩ := hxk i hic
  obtain ⟨a0, c0, a1, c1, h1, h2, h3⟩ := (h.stk x hxR).look hix hk (by omega)
  rw [<- hL] at h1
  have hge : (x.abs.ts.getD (f + i) ([], false)).1 = x.ts[f + i].1 := by
   show (x.ts.getD (f + i) ([], false)).1 = _
   rw [List.getD_eq_getElem?_getD, List.getElem?_eq_getElem hix]; rfl
  have hl := hlen _ (List.getElem_mem hix) hk
  have hp0 : (sh0 x.sh x.ts[f + i].1).length = L := hl.1.trans hL.symm
  have hp1 : (sh1 x.sh x.ts[f + i].1).length = L := hl.2.1.trans hL.symm
  rcases hp with rfl | rfl
  ·refine ⟨a0, c0, a1, c1, a0, c0, h1, ix_0 a0 a1 L c0 c1, ?_, ?_⟩
   ·rw [sharesW, if_pos rfl, hge]; exact h2
   ·rw [sharesW, if_pos rfl, hge]; exact hp0
  ·refine ⟨a0, c0, a1, c1, a1, c1, h1, ix_1 a0 a1 L c0 c1, ?_, ?_⟩
   ·rw [sharesW, if_neg (by decide), hge]; exact h3
   ·rw [sharesW, if_neg (by decide), hge]; exact hp1
 have hb6 := (h.stk x hxR).blk
 have k6 : w.cell? ⟨x.blk, 6, none⟩ = some (.map (some x.mb)) := (cell_of_row w x.blk 6 _ _ _ hb6).trans rfl
 have r1 : w.cell? ⟨rb, 1, none⟩ = some (.int .i64 kd) := cell_at hr rfl
 have r2 : w.cell? ⟨rb, 2, none⟩ = some (.int .i64 m) := cell_at hr rfl
 have r3 : w.cell? ⟨rb, 3, none⟩ = some (.int .i64 k) := cell_at hr rfl
 have r4 : w.cell? ⟨rb, 4, none⟩ = some (.int .i64 n) := cell_at hr rfl
 have r5 : w.cell? ⟨rb, 5, none⟩ = some (.int .i64 (f : Int)) := cell_at hr rfl
 have r6 : w.cell? ⟨rb, 6, none⟩ = some (.int .i64 (c : Int)) := cell_at hr rfl
 have r7 : w.cell? ⟨rb, 7, none⟩ = some (.int .i64 p) := cell_at hr rfl
 have hrl := lG w _ r1
 have hkl := lG w _ k6
 clear h hr hmf hxk hlen hfx hxR hb6 hL
 obtain ⟨A, hA⟩ : ∃ A, fetched x.abs p f = A := ⟨_, rfl⟩
 obtain ⟨Sw, hSw⟩ : ∃ Sw, sharesW x.abs p = Sw := ⟨_, rfl⟩
 have HAs : Hid (∀ j, A (j + 1) = A j ++ Sw (f + j)) := fun j => by rw [<- hA, <- hSw]; exact fetched_succ _ _ _ _
 have HA0 : Hid (A 0 = []) := by rw [<- hA]; rfl
 rw [hA]
 rw [hSw] at HLook
 clear hA hSw
 generalize x.blk = blk at *
 generalize x.mb = mb at *
 unfold replyV
 go_enter Tryz.func120, Tryz.ntmps120
 go_wp2_with fail
 refine (HF.out _ ((Ext.refl w).alloc _)).mono ?_
 rintro e w1 ⟨rfl, hx1⟩
 have hr1 := hx1.block (heap_alloc_new _ _)
 have HX1 : Hid (Ext w w1) := ((Ext.refl w).alloc _).trans hx1
 have HR1 : Hid _ := hr1
 clear hx1 hr1
 go_wp2_with fail
 refine (HMF.out _ HX1.out).mono ?_
 rintro e w2 ⟨rfl, hx2⟩
 have HX2 : Hid (Ext w w2) := HX1.out.trans hx2
 have HRS : Hid _ := hx2.block HR1.out
 have r5 := HX2.out.cell r5
 have r6 := HX2.out.cell r6
 have r7 := HX2.out.cell r7
 have k6 := HX2.out.cell k6
 clear hx2 HR1 HX1 r1 r2 r3 r4
 go_wp2_with fail
 go_loopw [7, 27] (fun u i wr => ∃ j : Nat, j <= c /\ i = .int .i64 j /\ wr.ownsRow w2.heap.size 146 1 u (j * L) ((A j).map (Value.int .u64)) /\ Ext w2 wr) (fun _ i _ => c - (intOf i).toNat)
 case atStart => exact ⟨0, Nat.zero_le _, rfl, by rw [HA0.out, Nat.zero_mul]; exact World.ownsRow_nil _ _ _ _, Ext.refl _⟩
 case round =>
  obtain ⟨j, hj, rfl, ho, hx⟩ := hrel
  have HO : Hid (wr.ownsRow w2.heap.size 146 1 u7 (j * L) ((A j).map (Value.int .u64))) := ho
  have HX : Hid (Ext w2 wr) := hx
  clear ho hx
  by_cases hlt : j < c
  ·obtain ⟨a0, c0, a1, c1, ap, cp, hlk, hix, hwa, hwl⟩ := HLook.out j hlt
   have hwf : IntKind.i64.wrap ((f : Int) + (j : Int)) = ((f + j : Nat) : Int) := by rw [IntKind.wrap_i64]; omega
   obtain ⟨fj, hfj⟩ : ∃ fj, f + j = fj := ⟨_, rfl⟩
   rw [hfj] at hlk hwa hwl hwf
   have HFJ : Hid (f + j = fj) := hfj
   obtain ⟨jl, hjl⟩ : ∃ jl, j * L = jl := ⟨_, rfl⟩
   have hjlb : jl <= 1080 := by rw [<- hjl]; exact Nat.le_trans (Nat.mul_le_mul (Nat.le_of_lt (Nat.lt_of_lt_of_le hlt hc40)) hL2) (by omega)
   have HJL : Hid (j * L = jl) := hjl
   rw [hjl] at HO
   have SF : Hid (∀ w', Ext w2 w' -> ((w'.cell? ⟨blk, 6, none⟩ = some (.map (some mb)) /\ w'.cell? ⟨rb, 5, none⟩ = some (.int .i64 (f : Int)) /\ w'.cell? ⟨rb, 7, none⟩ = some (.int .i64 p)) /\ (Instr.lookup 152 (.map (some mb)) (.int .i64 (fj : Int)) false).run Tryz.prog w' = .ok (.agg #[.slice (some ⟨a0, 0, none⟩) L c0, .slice (some ⟨a1, 0, none⟩) L c1]) w') /\ Ext w2 w') := fun w' hx => ⟨⟨⟨hx.cell k6, hx.cell r5, hx.cell r7⟩, hlk w' (HX2.out.trans hx)⟩, hx⟩
   have HWA : Hid (WordsAt wr ap 0 (Sw fj)) := hwa.ext (HX2.out.trans HX.out)
   have HWL : Hid ((Sw fj).length = L) := hwl
   have hwl2 := HX2.out.le
   have hwl3 := HX.out.le
   clear hlk hwa hwl hfj hjl
   have HG : Hid (∀ q, u7.ownBlock = some q -> w2.heap.size <= q /\ q < wr.heap.size) := fun q hq => World.ownsRow.lt HO.out q hq
   have k6' := HX.out.cell k6
   have r5' := HX.out.cell r5
   have r7' := HX.out.cell r7
   have hxp : Ext w2 wr := HX.out
   clear k6 r5 r6 r7
   go_wp2_with fail
   go_region_held3 (fun w' => ((w'.cell? ⟨blk, 6, none⟩ = some (.map (some mb)) /\ w'.cell? ⟨rb, 5, none⟩ = some (.int .i64 (f : Int)) /\ w'.cell? ⟨rb, 7, none⟩ = some (.int .i64 p)) /\ (Instr.lookup 152 (.map (some mb)) (.int .i64 (fj : Int)) false).run Tryz.prog w' = .ok (.agg #[.slice (some ⟨a0, 0, none⟩) L c0, .slice (some ⟨a1, 0, none⟩) L c1]) w') /\ Ext w2 w')
    (first
      | (refine SF.out _ ?_; (repeat (first | with_reducible exact Ext.refl _ | with_reducible assumption | with_reducible refine Ext.drew ?_ | with_reducible refine Ext.alloc ?_ _ | with_reducible (apply Ext.chain; assumption))); done)
      | exact SF.out _ (Ext.grown (Ext.drew HX.out) hgrow (fun q hq => (HG.out q hq).1)))
    (first
      | (refine step_append_lies _ (by rfl) _ _ 31 (by rfl) w2.heap.size 146 i0 (.int .u64 0) 1 8 Tryz.underlying31 hi hq0 hq1 hq2 (by rfl) (by decide) u7 jl ((A j).map (Value.int .u64)) (by rfl) (Ext.owns (Ext.drew (Ext.refl _)) HO.out) ⟨_, 0, none⟩ L cp ((Sw fj).map (Value.int .u64)) (by rfl) (by rw [List.length_map, HWL.out, Nat.mul_one]) (WordsAt.cells (HWA.out.ext (Ext.drew (Ext.refl _)))) (words_one _) (by omega) (by simp [maxLen]; omega) (by omega) (by show w2.heap.size <= wr.heap.size; omega) _ rfl ?_; intro gv cv w3 hown3 hgrow hat hlt3))
   have HQ : Hid (w3.ownsRow w2.heap.size 146 1 (.slice (some ⟨gv, 0, none⟩) (jl + L) cv) (jl + L) ((A j).map (Value.int .u64) ++ (Sw fj).map (Value.int .u64)) /\ Ext w2 w3) := And.intro hown3 (Ext.grown (Ext.drew HX.out) hgrow (fun q hq => (HG.out q hq).1))
   clear hown3 hgrow hat
   go_wp2
   go_roundw
   case rel =>
    refine ⟨j + 1, by omega, by go_num, ?_, HQ.out.2⟩
    rw [HAs.out, HFJ.out, List.map_append, show (j + 1) * L = jl + L by rw [Nat.add_mul, Nat.one_mul, HJL.out]]
    exact HQ.out.1
   case measure => simp [intOf]; omega
  ·obtain rfl : j = c := by omega
   have hf2 := owns_form HO.out
   obtain ⟨gv, cv, rfl, _, _, _⟩ : ∃ gv cv, u7 = .slice (some ⟨gv, 0, none⟩) (j * L) cv /\ w2.heap.size <= gv /\ j * L <= cv /\ cv <= maxLen := by
    rcases hf2 with ⟨_, h, _⟩ | h
    ·have : 1 <= j * L := Nat.mul_pos hc1 hL1
     omega
    ·exact h
   have HXX : Hid (Ext w wr) := HX2.out.trans HX.out
   have hrs := HX.out.block HRS.out
   have r5 := HX.out.cell r5
   have r6 := HX.out.cell r6
   have o0 := cell_at hrs (i := 0) rfl
   have o1 := cell_at hrs (i := 1) rfl
   have o2 := cell_at hrs (i := 2) rfl
   have o3 := cell_at hrs (i := 3) rfl
   have f0 := frozen_row hrs 0
   have f1 := frozen_row hrs 1
   have f2 := frozen_row hrs 2
   have f3 := frozen_row hrs 3
   have HNE : Hid ((Value.slice (some ⟨gv, 0, none⟩) (j * L) cv).ownBlock ≠ some w.heap.size) := row_ne (B := w.heap.size) (t := 33) hrs HO.out (by decide)
   obtain ⟨jl, hjl⟩ : ∃ jl, j * L = jl := ⟨_, rfl⟩
   rw [hjl] at HO HNE ⊢
   have HJL : Hid (j * L = jl) := hjl
   have hrbw : w.heap.size ≠ rb := by omega
   have hwrl := lG wr _ o0
   clear hrs hf2 hjl k6
   go_wp2_with fail
   go_region
   all_goals go_wp2
   all_goals refine bodyPost_ret (v := .agg #[.int .i64 0, .int .i64 f, .int .i64 j, .slice (some ⟨gv, 0, none⟩) jl cv]) (by simp [results, Tryz.results120, go_sem, o0, o1, o2, o3]) rfl ⟨gv, cv, by rw [HJL.out], ?_, ?_⟩
   all_goals first
    | (rw [HJL.out]; exact World.ownsRow.drew (owns_setCell (owns_setCell (owns_setCell (owns_setCell (owns_base HO.out HX2.out.le) HNE.out _) HNE.out _) HNE.out _) HNE.out _))
    | exact Ext.drew (ext4 HXX.out (Nat.le_refl _) _ _ _ _)
end
end
-- ChkA
section
open Go.RowKit
theorem req_cells {W : World} {g : Nat} {t : TypeId} {k s i ck cm cl cn f c p : Value} (h : W.heap[g]? = some (.cells #[k, s, i, ck, cm, cl, cn, f, c, p] t (0, 0))) :
  W.cell? ⟨g, 0, none⟩ = some k /\ W.cell? ⟨g, 1, none⟩ = some s /\ W.cell? ⟨g, 2, none⟩ = some i /\ W.cell? ⟨g, 3, none⟩ = some ck /\ W.cell? ⟨g, 4, none⟩ = some cm /\ W.cell? ⟨g, 5, none⟩ = some cl /\ W.cell? ⟨g, 6, none⟩ = some cn /\ W.cell? ⟨g, 7, none⟩ = some f /\ W.cell? ⟨g, 8, none⟩ = some c /\ W.cell? ⟨g, 9, none⟩ = some p :=
 ⟨cell_at h rfl, cell_at h rfl, cell_at h rfl, cell_at h rfl, cell_at h rfl, cell_at h rfl, cell_at h rfl, cell_at h rfl, cell_at h rfl, cell_at h rfl⟩
end
-- Chk1
section
set_option maxRecDepth 100000
set_option maxHeartbeats 1600000
open Go.RowKit
theorem check_1a (s i ck cm cl cn f c p : Int) (h : ((0 == f && 0 == p)) = false) (w : World) :
  Calls Tryz.prog 55 #[.agg #[.int .i64 1, .int .i64 s, .int .i64 i, .int .i64 ck, .int .i64 cm, .int .i64 cl, .int .i64 cn, .int .i64 f, .int .i64 c, .int .i64 p]] w fun e w' => e = .returned (.tuple #[.nilIface, .int .i64 1]) /\ Ext w w' := by
 have hm1 := m_leasePlain
 have heq := eqReq
 go_enter Tryz.func55, Tryz.ntmps55
 go_wp2_with (go_at_call 84; refine (ofKind_1 s i ck cm cl cn f c p _).mono ?_; rintro e w1 ⟨b, rfl, hb, hlt, hx⟩)
 have hr := hx.block (at_new rfl)
 have HR : Hid _ := hr
 have HB : Hid _ := hb
 have HX : Ext w w1 := (Ext.refl w).alloc _ |>.trans hx
 obtain ⟨q0, q1, q2, q3, q4, q5, q6, q7, q8, q9⟩ := req_cells hr
 clear hr hb hx
 refine wp_region_any (by kernel_rfl) ?_
 change wpAny _ _ _ _ _ _ _ (World.drew _)
 refine wpAny_ready (rs := [0]) (by kernel_rfl) (by simp) ?_
 refine AllReady.cons rfl (fun K hK => ?_) AllReady.nil
 go_simp
 refine hK _ _ ?_
 clear hK K
 refine wpAny_ready (rs := [1]) (by kernel_rfl) (by simp) ?_
 refine AllReady.cons rfl (fun K hK => ?_) AllReady.nil
 go_simp
 refine hK _ _ ?_
 clear hK K
 refine wpAny_ready (rs := [2]) (by kernel_rfl) (by simp) ?_
 refine AllReady.cons rfl (fun K hK => ?_) AllReady.nil
 go_simp
 refine hK _ _ ?_
 clear hK K
 refine wpAny_take (i := 3) (v := .iface 201 (.pointer (some ⟨b, 0, none⟩))) rfl (by kernel_rfl) (by kernel_rfl) (by kernel_rfl) (fun _ _ _ h => h) (Or.inl ⟨by rfl, by intro w; go_simp⟩) ?_
 refine wpAny_ready (rs := [4, 5]) (by kernel_rfl) (by simp) ?_
 refine AllReady.cons rfl (fun K hK => ?_) (AllReady.cons rfl (fun K hK => ?_) AllReady.nil)
 ·go_simp
  go_wp2_with (go_at_call 209; refine (leasePlain_c b s i ck cm cl cn c _ (by exact HB.out)).mono ?_; rintro e w2 ⟨rfl, hx2⟩; obtain ⟨r0, r1, r2, r3, r4, r5, r6, r7, r8, r9⟩ := req_cells (hx2.block (by exact HR.out)))
  refine wpAny_ready (rs := [5]) (by kernel_rfl) (by simp) ?_
  refine AllReady.cons rfl (fun K hK => ?_) AllReady.nil
  go_simp
  refine hK _ _ ?_
  clear hK K
  refine wpAny_ready (rs := [6]) (by kernel_rfl) (by simp) ?_
  refine AllReady.cons rfl (fun K hK => ?_) AllReady.nil
  go_simp
  refine hK _ _ ?_
  clear hK K
  refine wpAny_ready (rs := [7]) (by kernel_rfl) (by simp) ?_
  refine AllReady.cons rfl (fun K hK => ?_) AllReady.nil
  go_simp
  refine hK _ _ ?_
  clear hK K
  refine wpAny_ready (rs := [8]) (by kernel_rfl) (by simp) ?_
  refine AllReady.cons rfl (fun K hK => ?_) AllReady.nil
  go_simp
  refine hK _ _ ?_
  clear hK K
  refine wpAny_ready (rs := [9]) (by kernel_rfl) (by simp) ?_
  refine AllReady.cons rfl (fun K hK => ?_) AllReady.nil
  go_simp
  refine hK _ _ ?_
  clear hK K
  refine wpAny_ready (rs := [10]) (by kernel_rfl) (by simp) ?_
  refine AllReady.cons rfl (fun K hK => ?_) AllReady.nil
  go_simp
  refine hK _ _ ?_
  clear hK K
  refine wpAny_ready (rs := [11]) (by kernel_rfl) (by simp) ?_
  refine AllReady.cons rfl (fun K hK => ?_) AllReady.nil
  go_simp
  refine hK _ _ ?_
  clear hK K
  refine wpAny_ready (rs := [12]) (by kernel_rfl) (by simp) ?_
  refine AllReady.cons rfl (fun K hK => ?_) AllReady.nil
  go_simp
  refine hK _ _ ?_
  clear hK K
  refine wpAny_ready (rs := [13]) (by kernel_rfl) (by simp) ?_
  refine AllReady.cons rfl (fun K hK => ?_) AllReady.nil
  go_simp
  refine hK _ _ ?_
  clear hK K
  refine wpAny_done (by kernel_rfl) ?_ _
  go_wp2
  go_ret2
  exact ⟨rfl, HX.trans (Ext.drew (Ext.refl _) |>.trans hx2)⟩
 ·go_simp
  refine hK _ _ ?_
  clear hK K
  refine wpAny_ready (rs := [4]) (by kernel_rfl) (by simp) ?_
  refine AllReady.cons rfl (fun K hK => ?_) AllReady.nil
  go_simp
  go_wp2_with (go_at_call 209; refine (leasePlain_c b s i ck cm cl cn c _ (by exact HB.out)).mono ?_; rintro e w2 ⟨rfl, hx2⟩; obtain ⟨r0, r1, r2, r3, r4, r5, r6, r7, r8, r9⟩ := req_cells (hx2.block (by exact HR.out)))
  refine wpAny_ready (rs := [6]) (by kernel_rfl) (by simp) ?_
  refine AllReady.cons rfl (fun K hK => ?_) AllReady.nil
  go_simp
  refine hK _ _ ?_
  clear hK K
  refine wpAny_ready (rs := [7]) (by kernel_rfl) (by simp) ?_
  refine AllReady.cons rfl (fun K hK => ?_) AllReady.nil
  go_simp
  refine hK _ _ ?_
  clear hK K
  refine wpAny_ready (rs := [8]) (by kernel_rfl) (by simp) ?_
  refine AllReady.cons rfl (fun K hK => ?_) AllReady.nil
  go_simp
  refine hK _ _ ?_
  clear hK K
  refine wpAny_ready (rs := [9]) (by kernel_rfl) (by simp) ?_
  refine AllReady.cons rfl (fun K hK => ?_) AllReady.nil
  go_simp
  refine hK _ _ ?_
  clear hK K
  refine wpAny_ready (rs := [10]) (by kernel_rfl) (by simp) ?_
  refine AllReady.cons rfl (fun K hK => ?_) AllReady.nil
  go_simp
  refine hK _ _ ?_
  clear hK K
  refine wpAny_ready (rs := [11]) (by kernel_rfl) (by simp) ?_
  refine AllReady.cons rfl (fun K hK => ?_) AllReady.nil
  go_simp
  refine hK _ _ ?_
  clear hK K
  refine wpAny_ready (rs := [12]) (by kernel_rfl) (by simp) ?_
  refine AllReady.cons rfl (fun K hK => ?_) AllReady.nil
  go_simp
  refine hK _ _ ?_
  clear hK K
  refine wpAny_ready (rs := [13]) (by kernel_rfl) (by simp) ?_
  refine AllReady.cons rfl (fun K hK => ?_) AllReady.nil
  go_simp
  refine hK _ _ ?_
  clear hK K
  refine wpAny_done (by kernel_rfl) ?_ _
  go_wp2
  go_ret2
  exact ⟨rfl, HX.trans (Ext.drew (Ext.refl _) |>.trans hx2)⟩
theorem vals_lease {W : World} {b : Nat} {s i ck cm cl cn c : Int} {vals : Nat -> Int} (hW : W.heap[b]? = some (.cells #[.int .i64 s, .int .i64 i, .int .i64 ck, .int .i64 cm, .int .i64 cl, .int .i64 cn, .int .i64 c] 210 (0, 0))) (hv : vals 0 = s /\ vals 1 = i /\ vals 2 = ck /\ vals 3 = cm /\ vals 4 = cl /\ vals 5 = cn /\ vals 6 = c) : ∀ x ∈ leaseL, W.cell? ⟨b, x.1, none⟩ = some (.int .i64 (vals x.1)) := by
 obtain ⟨v0, v1, v2, v3, v4, v5, v6⟩ := hv
 intro x hx
 simp only [leaseL, List.mem_cons, List.not_mem_nil, or_false] at hx
 rcases hx with rfl | rfl | rfl | rfl | rfl | rfl | rfl
 ·show W.cell? ⟨b, 0, none⟩ = some (.int .i64 (vals 0)); rw [v0]; exact cell_at hW rfl
 ·show W.cell? ⟨b, 1, none⟩ = some (.int .i64 (vals 1)); rw [v1]; exact cell_at hW rfl
 ·show W.cell? ⟨b, 2, none⟩ = some (.int .i64 (vals 2)); rw [v2]; exact cell_at hW rfl
 ·show W.cell? ⟨b, 3, none⟩ = some (.int .i64 (vals 3)); rw [v3]; exact cell_at hW rfl
 ·show W.cell? ⟨b, 4, none⟩ = some (.int .i64 (vals 4)); rw [v4]; exact cell_at hW rfl
 ·show W.cell? ⟨b, 5, none⟩ = some (.int .i64 (vals 5)); rw [v5]; exact cell_at hW rfl
 ·show W.cell? ⟨b, 6, none⟩ = some (.int .i64 (vals 6)); rw [v6]; exact cell_at hW rfl
theorem check_1b (s i ck cm cl cn c : Int) (vals : Nat -> Int) (hv : vals 0 = s /\ vals 1 = i /\ vals 2 = ck /\ vals 3 = cm /\ vals 4 = cl /\ vals 5 = cn /\ vals 6 = c) (w : World) :
  Calls Tryz.prog 55 #[.agg #[.int .i64 1, .int .i64 s, .int .i64 i, .int .i64 ck, .int .i64 cm, .int .i64 cl, .int .i64 cn, .int .i64 0, .int .i64 c, .int .i64 0]] w fun e w' =>
   (fitB vals leaseL = true /\ ∃ b, e = .returned (.tuple #[.iface 201 (.pointer (some ⟨b, 0, none⟩)), .int .i64 0]) /\ w.heap.size <= b /\ w'.heap[b]? = some (.cells #[.int .i64 s, .int .i64 i, .int .i64 ck, .int .i64 cm, .int .i64 cl, .int .i64 cn, .int .i64 c] 210 (0, 0)) /\ Ext w w') \/
   (fitB vals leaseL = false /\ e = .returned (.tuple #[.nilIface, .int .i64 1]) /\ Ext w w') := by
 have HV : Hid (vals 0 = s /\ vals 1 = i /\ vals 2 = ck /\ vals 3 = cm /\ vals 4 = cl /\ vals 5 = cn /\ vals 6 = c) := hv
 have hm1 := m_leasePlain
 have hm2 := m_leaseFields
 have heq := eqReq
 clear hv
 go_enter Tryz.func55, Tryz.ntmps55
 go_wp2_with (go_at_call 84; refine (ofKind_1 s i ck cm cl cn 0 c 0 _).mono ?_; rintro e w1 ⟨b, rfl, hb, hlt, hx⟩)
 have HLB : Hid (w.heap.size <= b) := by
  show w.heap.size <= b
  have hlt' := hlt
  simp at hlt'
  omega
 have hr := hx.block (at_new rfl)
 have HR : Hid _ := hr
 have HB : Hid _ := hb
 have HX : Ext w w1 := (Ext.refl w).alloc _ |>.trans hx
 obtain ⟨q0, q1, q2, q3, q4, q5, q6, q7, q8, q9⟩ := req_cells hr
 clear hr hb hx
 have HVV : Hid _ := fun (W : World) hW => vals_lease (W := W) (b := b) hW HV.out
 cases HB2 : fitB vals leaseL
 all_goals
  have HFB : Hid _ := HB2
  clear HB2
  go_region_with (first
   | (go_at_call 209; refine (leasePlain_c b s i ck cm cl cn c _ (by exact HB.out)).mono ?_; rintro e w2 ⟨rfl, hx2⟩; obtain ⟨r0, r1, r2, r3, r4, r5, r6, r7, r8, r9⟩ := req_cells (hx2.block (by exact HR.out)))
   | (go_at_call 210; refine (leaseFields_c b _).mono ?_; rintro e w3 ⟨g, cap, rfl, ho, hx3⟩)
   | (go_at_call 85; refine (fit_c b g cap 7 _ leaseL vals _ rfl (by decide) ho ?_).mono ?_; exact HVV.out _ (hx3.block (by exact hx2.block (by exact HB.out))); rw [HFB.out]; rintro e w4 ⟨rfl, hx4⟩))
  all_goals go_wp2
  all_goals go_ret2
 ·exact .inr ⟨HFB.out, rfl, HX.trans ((Ext.refl _).drew.trans (hx2.trans (hx3.trans hx4)))⟩
 ·exact .inr ⟨HFB.out, rfl, HX.trans ((Ext.refl _).drew.trans (hx2.trans (hx3.trans hx4)))⟩
 ·exact .inl ⟨HFB.out, b, rfl, HLB.out, (hx2.trans (hx3.trans hx4)).block (by exact HB.out), HX.trans ((Ext.refl _).drew.trans (hx2.trans (hx3.trans hx4)))⟩
 ·exact .inl ⟨HFB.out, b, rfl, HLB.out, (hx2.trans (hx3.trans hx4)).block (by exact HB.out), HX.trans ((Ext.refl _).drew.trans (hx2.trans (hx3.trans hx4)))⟩
end
-- FieldsG
section
set_option maxRecDepth 100000
set_option maxHeartbeats 20000000
open Go.RowKit
def PS (w : World) (v : Value) (n : Nat) (ps : List Addr) : Prop := ∃ g t arr, v = .slice (some ⟨g, 0, none⟩) n n /\ w.heap[g]? = some (.cells arr t (0, 0)) /\ arr = (ps.map fun p => Value.pointer (some p)).toArray
theorem PS.ext {w w' : World} {v : Value} {n : Nat} {ps : List Addr} (h : PS w v n ps) (hx : Ext w w') : PS w' v n ps := by
 obtain ⟨g, t, arr, h1, h2, h3⟩ := h
 exact ⟨g, t, arr, h1, hx.block h2, h3⟩
def RW (w : World) (v : Value) (n : Nat) (xs : List Value) : Prop := ∃ g cap, v = .slice (some ⟨g, 0, none⟩) n cap /\ w.ownsRow 0 162 3 (.slice (some ⟨g, 0, none⟩) n cap) n xs
theorem RW.ext {w w' : World} {v : Value} {n : Nat} {xs : List Value} (h : RW w v n xs) (hx : Ext w w') : RW w' v n xs := by
 obtain ⟨g, cap, h1, h2⟩ := h
 exact ⟨g, cap, h1, hx.owns h2⟩
def frF (b : Nat) (v6 v7 v11 v18 v19 v23 v24 : Value) : Act := { tmps := #[.pointer (some ⟨b, 0, none⟩), undef, .slice none 0 0, .pointer (some ⟨b, 0, none⟩), .pointer (some ⟨b, 0, none⟩), .pointer (some ⟨b, 0, none⟩), v6, v7, .pointer (some ⟨b, 0, none⟩), .pointer (some ⟨b, 0, none⟩), .pointer (some ⟨b, 1, none⟩), v11, .pointer (some ⟨b, 0, none⟩), .pointer (some ⟨b, 0, none⟩), .pointer (some ⟨b, 5, none⟩), .pointer (some ⟨b, 0, none⟩), .pointer (some ⟨b, 0, none⟩), .pointer (some ⟨b, 6, none⟩), v18, v19, .pointer (some ⟨b, 0, none⟩), .pointer (some ⟨b, 0, none⟩), .pointer (some ⟨b, 7, none⟩), v23, v24, undef, undef], defers := [] }
theorem fetchFields_c (b : Nat) (w : World) : Calls Tryz.prog 218 #[.pointer (some ⟨b, 0, none⟩)] w fun e w' => Made w 8 (fl b fetchL) e w' := by
 go_enter Tryz.func218, Tryz.ntmps218
 go_wp2
 refine wp_region_any (by kernel_rfl) ?_
 change wpAny _ _ _ _ _ _ _ (World.drew _)
 refine wpAny_take (i := 0) (v := .pointer (some ⟨b, 0, none⟩)) rfl (by kernel_rfl) (by kernel_rfl) (by kernel_rfl) (fun _ _ _ h => h) (Or.inl ⟨by rfl, by intro w; go_simp⟩) ?_
 refine wpAny_take (i := 1) (v := .pointer (some ⟨b, 0, none⟩)) rfl (by kernel_rfl) (by kernel_rfl) (by kernel_rfl) (fun _ _ _ h => h) (Or.inl ⟨by rfl, by intro w; go_simp⟩) ?_
 refine wpAny_take (i := 2) (v := .pointer (some ⟨b, 0, none⟩)) rfl (by kernel_rfl) (by kernel_rfl) (by kernel_rfl) (fun _ _ _ h => h) (Or.inl ⟨by rfl, by intro w; go_simp⟩) ?_
 refine wpAny_take (i := 5) (v := .pointer (some ⟨b, 0, none⟩)) rfl (by kernel_rfl) (by kernel_rfl) (by kernel_rfl) (fun _ _ _ h => h) (Or.inl ⟨by rfl, by intro w; go_simp⟩) ?_
 refine wpAny_take (i := 6) (v := .pointer (some ⟨b, 0, none⟩)) rfl (by kernel_rfl) (by kernel_rfl) (by kernel_rfl) (fun _ _ _ h => h) (Or.inl ⟨by rfl, by intro w; go_simp⟩) ?_
 refine wpAny_take (i := 7) (v := .pointer (some ⟨b, 1, none⟩)) rfl (by kernel_rfl) (by kernel_rfl) (by kernel_rfl) (fun _ _ _ h => h) (Or.inl ⟨by rfl, by intro w; go_simp⟩) ?_
 refine wpAny_take (i := 9) (v := .pointer (some ⟨b, 0, none⟩)) rfl (by kernel_rfl) (by kernel_rfl) (by kernel_rfl) (fun _ _ _ h => h) (Or.inl ⟨by rfl, by intro w; go_simp⟩) ?_
 refine wpAny_take (i := 10) (v := .pointer (some ⟨b, 0, none⟩)) rfl (by kernel_rfl) (by kernel_rfl) (by kernel_rfl) (fun _ _ _ h => h) (Or.inl ⟨by rfl, by intro w; go_simp⟩) ?_
 refine wpAny_take (i := 11) (v := .pointer (some ⟨b, 5, none⟩)) rfl (by kernel_rfl) (by kernel_rfl) (by kernel_rfl) (fun _ _ _ h => h) (Or.inl ⟨by rfl, by intro w; go_simp⟩) ?_
 refine wpAny_take (i := 12) (v := .pointer (some ⟨b, 0, none⟩)) rfl (by kernel_rfl) (by kernel_rfl) (by kernel_rfl) (fun _ _ _ h => h) (Or.inl ⟨by rfl, by intro w; go_simp⟩) ?_
 refine wpAny_take (i := 13) (v := .pointer (some ⟨b, 0, none⟩)) rfl (by kernel_rfl) (by kernel_rfl) (by kernel_rfl) (fun _ _ _ h => h) (Or.inl ⟨by rfl, by intro w; go_simp⟩) ?_
 refine wpAny_take (i := 14) (v := .pointer (some ⟨b, 6, none⟩)) rfl (by kernel_rfl) (by kernel_rfl) (by kernel_rfl) (fun _ _ _ h => h) (Or.inl ⟨by rfl, by intro w; go_simp⟩) ?_
 refine wpAny_take (i := 17) (v := .pointer (some ⟨b, 0, none⟩)) rfl (by kernel_rfl) (by kernel_rfl) (by kernel_rfl) (fun _ _ _ h => h) (Or.inl ⟨by rfl, by intro w; go_simp⟩) ?_
 refine wpAny_take (i := 18) (v := .pointer (some ⟨b, 0, none⟩)) rfl (by kernel_rfl) (by kernel_rfl) (by kernel_rfl) (fun _ _ _ h => h) (Or.inl ⟨by rfl, by intro w; go_simp⟩) ?_
 refine wpAny_take (i := 19) (v := .pointer (some ⟨b, 7, none⟩)) rfl (by kernel_rfl) (by kernel_rfl) (by kernel_rfl) (fun _ _ _ h => h) (Or.inl ⟨by rfl, by intro w; go_simp⟩) ?_
 generalize hG : wpAny _ _ _ _ = G
 have L2211 : ∀ (v6 v7 v11 v18 v19 v23 v24 : Value) (W : World), Ext w W -> RW W v7 1 (fcells [⟨b, 0, none⟩] 4 2147483647) -> RW W v11 4 (fcells [⟨b, 1, none⟩, ⟨b, 1 + 1, none⟩, ⟨b, 1 + 2, none⟩, ⟨b, 1 + 3, none⟩] 1 255) -> RW W v19 2 (fcells [⟨b, 5, none⟩, ⟨b, 6, none⟩] 4 2147483647) -> RW W v24 1 (fcells [⟨b, 7, none⟩] 1 255) -> G 3 #[true, true, true, true, true, true, true, true, true, true, true, true, true, true, true, true, true, true, true, true, true, true, false, false, false] (frF b v6 v7 v11 v18 v19 v23 v24) W := by
  intro v6 v7 v11 v18 v19 v23 v24 W hx h7 h11 h19 h24
  obtain ⟨g7, cap7, rfl, ho7⟩ := h7
  obtain ⟨g11, cap11, rfl, ho11⟩ := h11
  obtain ⟨g19, cap19, rfl, ho19⟩ := h19
  obtain ⟨g24, cap24, rfl, ho24⟩ := h24
  rw [<- hG]
  unfold frF
  refine wpAny_ready (rs := [22]) (by kernel_rfl) (by simp) ?_
  refine AllReady.cons rfl (fun K hK => ?_) (AllReady.nil)
  ·go_simp
   refine hK _ _ ?_
   clear hK K
   refine wpAny_ready (rs := [23]) (by kernel_rfl) (by simp) ?_
   refine AllReady.cons rfl (fun K hK => ?_) AllReady.nil
   go_simp
   refine (concat_m _ 4 [⟨g7, 1, cap7, _⟩, ⟨g11, 4, cap11, _⟩, ⟨g19, 2, cap19, _⟩, ⟨g24, 1, cap24, _⟩] _ 8 (fl b fetchL) rfl (by decide) (by decide) rfl (by decide) ?_ (four_ok (ok_of ho7 (by decide) (by decide) ((Ext.refl W).alloc _)) (ok_of ho11 (by decide) (by decide) ((Ext.refl W).alloc _)) (ok_of ho19 (by decide) (by decide) ((Ext.refl W).alloc _)) (ok_of ho24 (by decide) (by decide) ((Ext.refl W).alloc _))) (vals_at _ (at_new rfl) (by rfl))).mono ?_
   ·rfl
   rintro e w' ⟨g, cap, rfl, ho, hx'⟩
   refine hK _ _ ?_
   clear hK K
   refine wpAny_ready (rs := [24]) (by kernel_rfl) (by simp) ?_
   refine AllReady.cons rfl (fun K hK => ?_) AllReady.nil
   go_simp
   refine hK _ _ ?_
   clear hK K
   refine wpAny_done (by kernel_rfl) ?_ _
   go_wp2
   go_ret
   exact ⟨g, cap, rfl, owns_base ho (Ext.le (hx.alloc _)), (hx.alloc _).trans hx'⟩
 have L2111 : ∀ (v6 v7 v11 v18 v19 v23 v24 : Value) (W : World), Ext w W -> PS W v23 1 [⟨b, 7, none⟩] -> RW W v7 1 (fcells [⟨b, 0, none⟩] 4 2147483647) -> RW W v11 4 (fcells [⟨b, 1, none⟩, ⟨b, 1 + 1, none⟩, ⟨b, 1 + 2, none⟩, ⟨b, 1 + 3, none⟩] 1 255) -> RW W v19 2 (fcells [⟨b, 5, none⟩, ⟨b, 6, none⟩] 4 2147483647) -> G 4 #[true, true, true, true, true, true, true, true, true, true, true, true, true, true, true, true, true, true, true, true, true, false, false, false, false] (frF b v6 v7 v11 v18 v19 v23 v24) W := by
  intro v6 v7 v11 v18 v19 v23 v24 W hx h23 h7 h11 h19
  have k23 := h23
  obtain ⟨g23, t23, arr23, rfl, hh23, ha23⟩ := h23
  rw [<- hG]
  unfold frF
  refine wpAny_ready (rs := [21]) (by kernel_rfl) (by simp) ?_
  refine AllReady.cons rfl (fun K hK => ?_) (AllReady.nil)
  ·go_simp
   refine (octets_m _ 1 [⟨b, 7, none⟩] _ rfl (by decide) (by decide) (ptrs_at _ hh23 ha23)).mono ?_
   rintro e w' ⟨g, cap, rfl, ho, hx'⟩
   refine hK _ _ ?_
   clear hK K
   rw [hG]
   exact L2211 _ _ _ _ _ _ _ _ (hx.trans hx') (h7.ext hx') (h11.ext hx') (h19.ext hx') (⟨g, cap, rfl, owns_base ho (Nat.zero_le _)⟩)
 have L2110 : ∀ (v6 v7 v11 v18 v19 v23 v24 : Value) (W : World), Ext w W -> RW W v7 1 (fcells [⟨b, 0, none⟩] 4 2147483647) -> RW W v11 4 (fcells [⟨b, 1, none⟩, ⟨b, 1 + 1, none⟩, ⟨b, 1 + 2, none⟩, ⟨b, 1 + 3, none⟩] 1 255) -> RW W v19 2 (fcells [⟨b, 5, none⟩, ⟨b, 6, none⟩] 4 2147483647) -> G 5 #[true, true, true, true, true, true, true, true, true, true, true, true, true, true, true, true, true, true, true, true, false, false, false, false, false] (frF b v6 v7 v11 v18 v19 v23 v24) W := by
  intro v6 v7 v11 v18 v19 v23 v24 W hx h7 h11 h19
  rw [<- hG]
  unfold frF
  refine wpAny_ready (rs := [20]) (by kernel_rfl) (by simp) ?_
  refine AllReady.cons rfl (fun K hK => ?_) (AllReady.nil)
  ·go_simp
   refine hK _ _ ?_
   clear hK K
   rw [hG]
   exact L2111 _ _ _ _ _ _ _ _ (hx.alloc _) (⟨_, _, _, rfl, at_new rfl, rfl⟩) (h7.ext ((Ext.refl _).alloc _)) (h11.ext ((Ext.refl _).alloc _)) (h19.ext ((Ext.refl _).alloc _))
 have L1611 : ∀ (v6 v7 v11 v18 v19 v23 v24 : Value) (W : World), Ext w W -> PS W v18 2 [⟨b, 5, none⟩, ⟨b, 6, none⟩] -> PS W v23 1 [⟨b, 7, none⟩] -> RW W v7 1 (fcells [⟨b, 0, none⟩] 4 2147483647) -> RW W v11 4 (fcells [⟨b, 1, none⟩, ⟨b, 1 + 1, none⟩, ⟨b, 1 + 2, none⟩, ⟨b, 1 + 3, none⟩] 1 255) -> G 5 #[true, true, true, true, true, true, true, true, true, true, true, true, true, true, true, true, false, true, true, true, true, false, false, false, false] (frF b v6 v7 v11 v18 v19 v23 v24) W := by
  intro v6 v7 v11 v18 v19 v23 v24 W hx h18 h23 h7 h11
  have k18 := h18
  obtain ⟨g18, t18, arr18, rfl, hh18, ha18⟩ := h18
  rw [<- hG]
  unfold frF
  refine wpAny_ready (rs := [16]) (by kernel_rfl) (by simp) ?_
  refine AllReady.cons rfl (fun K hK => ?_) (AllReady.nil)
  ·go_simp
   refine (numbers_m _ 2 [⟨b, 5, none⟩, ⟨b, 6, none⟩] _ rfl (by decide) (by decide) (ptrs_at _ hh18 ha18)).mono ?_
   rintro e w' ⟨g, cap, rfl, ho, hx'⟩
   refine hK _ _ ?_
   clear hK K
   rw [hG]
   exact L2111 _ _ _ _ _ _ _ _ (hx.trans hx') (h23.ext hx') (h7.ext hx') (h11.ext hx') (⟨g, cap, rfl, owns_base ho (Nat.zero_le _)⟩)
 have L1610 : ∀ (v6 v7 v11 v18 v19 v23 v24 : Value) (W : World), Ext w W -> PS W v18 2 [⟨b, 5, none⟩, ⟨b, 6, none⟩] -> RW W v7 1 (fcells [⟨b, 0, none⟩] 4 2147483647) -> RW W v11 4 (fcells [⟨b, 1, none⟩, ⟨b, 1 + 1, none⟩, ⟨b, 1 + 2, none⟩, ⟨b, 1 + 3, none⟩] 1 255) -> G 6 #[true, true, true, true, true, true, true, true, true, true, true, true, true, true, true, true, false, true, true, true, false, false, false, false, false] (frF b v6 v7 v11 v18 v19 v23 v24) W := by
  intro v6 v7 v11 v18 v19 v23 v24 W hx h18 h7 h11
  have k18 := h18
  obtain ⟨g18, t18, arr18, rfl, hh18, ha18⟩ := h18
  rw [<- hG]
  unfold frF
  refine wpAny_ready (rs := [16, 20]) (by kernel_rfl) (by simp) ?_
  refine AllReady.cons rfl (fun K hK => ?_) (AllReady.cons rfl (fun K hK => ?_) (AllReady.nil))
  ·go_simp
   refine (numbers_m _ 2 [⟨b, 5, none⟩, ⟨b, 6, none⟩] _ rfl (by decide) (by decide) (ptrs_at _ hh18 ha18)).mono ?_
   rintro e w' ⟨g, cap, rfl, ho, hx'⟩
   refine hK _ _ ?_
   clear hK K
   rw [hG]
   exact L2110 _ _ _ _ _ _ _ _ (hx.trans hx') (h7.ext hx') (h11.ext hx') (⟨g, cap, rfl, owns_base ho (Nat.zero_le _)⟩)
  ·go_simp
   refine hK _ _ ?_
   clear hK K
   rw [hG]
   exact L1611 _ _ _ _ _ _ _ _ (hx.alloc _) (k18.ext ((Ext.refl _).alloc _)) (⟨_, _, _, rfl, at_new rfl, rfl⟩) (h7.ext ((Ext.refl _).alloc _)) (h11.ext ((Ext.refl _).alloc _))
 have L1601 : ∀ (v6 v7 v11 v18 v19 v23 v24 : Value) (W : World), Ext w W -> PS W v23 1 [⟨b, 7, none⟩] -> RW W v7 1 (fcells [⟨b, 0, none⟩] 4 2147483647) -> RW W v11 4 (fcells [⟨b, 1, none⟩, ⟨b, 1 + 1, none⟩, ⟨b, 1 + 2, none⟩, ⟨b, 1 + 3, none⟩] 1 255) -> G 6 #[true, true, true, true, true, true, true, true, true, true, true, true, true, true, true, false, false, true, true, true, true, false, false, false, false] (frF b v6 v7 v11 v18 v19 v23 v24) W := by
  intro v6 v7 v11 v18 v19 v23 v24 W hx h23 h7 h11
  rw [<- hG]
  unfold frF
  refine wpAny_ready (rs := [15]) (by kernel_rfl) (by simp) ?_
  refine AllReady.cons rfl (fun K hK => ?_) (AllReady.nil)
  ·go_simp
   refine hK _ _ ?_
   clear hK K
   rw [hG]
   exact L1611 _ _ _ _ _ _ _ _ (hx.alloc _) (⟨_, _, _, rfl, at_new rfl, rfl⟩) (h23.ext ((Ext.refl _).alloc _)) (h7.ext ((Ext.refl _).alloc _)) (h11.ext ((Ext.refl _).alloc _))
 have L1600 : ∀ (v6 v7 v11 v18 v19 v23 v24 : Value) (W : World), Ext w W -> RW W v7 1 (fcells [⟨b, 0, none⟩] 4 2147483647) -> RW W v11 4 (fcells [⟨b, 1, none⟩, ⟨b, 1 + 1, none⟩, ⟨b, 1 + 2, none⟩, ⟨b, 1 + 3, none⟩] 1 255) -> G 7 #[true, true, true, true, true, true, true, true, true, true, true, true, true, true, true, false, false, true, true, true, false, false, false, false, false] (frF b v6 v7 v11 v18 v19 v23 v24) W := by
  intro v6 v7 v11 v18 v19 v23 v24 W hx h7 h11
  rw [<- hG]
  unfold frF
  refine wpAny_ready (rs := [15, 20]) (by kernel_rfl) (by simp) ?_
  refine AllReady.cons rfl (fun K hK => ?_) (AllReady.cons rfl (fun K hK => ?_) (AllReady.nil))
  ·go_simp
   refine hK _ _ ?_
   clear hK K
   rw [hG]
   exact L1610 _ _ _ _ _ _ _ _ (hx.alloc _) (⟨_, _, _, rfl, at_new rfl, rfl⟩) (h7.ext ((Ext.refl _).alloc _)) (h11.ext ((Ext.refl _).alloc _))
  ·go_simp
   refine hK _ _ ?_
   clear hK K
   rw [hG]
   exact L1601 _ _ _ _ _ _ _ _ (hx.alloc _) (⟨_, _, _, rfl, at_new rfl, rfl⟩) (h7.ext ((Ext.refl _).alloc _)) (h11.ext ((Ext.refl _).alloc _))
 have L811 : ∀ (v6 v7 v11 v18 v19 v23 v24 : Value) (W : World), Ext w W -> PS W v18 2 [⟨b, 5, none⟩, ⟨b, 6, none⟩] -> PS W v23 1 [⟨b, 7, none⟩] -> RW W v7 1 (fcells [⟨b, 0, none⟩] 4 2147483647) -> G 6 #[true, true, true, true, true, true, true, true, false, true, true, true, true, true, true, true, false, true, true, true, true, false, false, false, false] (frF b v6 v7 v11 v18 v19 v23 v24) W := by
  intro v6 v7 v11 v18 v19 v23 v24 W hx h18 h23 h7
  rw [<- hG]
  unfold frF
  refine wpAny_ready (rs := [8]) (by kernel_rfl) (by simp) ?_
  refine AllReady.cons rfl (fun K hK => ?_) (AllReady.nil)
  ·go_simp
   refine (class_m b 1 _).mono ?_
   rintro e w' ⟨g, cap, rfl, ho, hx'⟩
   refine hK _ _ ?_
   clear hK K
   rw [hG]
   exact L1611 _ _ _ _ _ _ _ _ (hx.trans hx') (h18.ext hx') (h23.ext hx') (h7.ext hx') (⟨g, cap, rfl, owns_base ho (Nat.zero_le _)⟩)
 have L810 : ∀ (v6 v7 v11 v18 v19 v23 v24 : Value) (W : World), Ext w W -> PS W v18 2 [⟨b, 5, none⟩, ⟨b, 6, none⟩] -> RW W v7 1 (fcells [⟨b, 0, none⟩] 4 2147483647) -> G 7 #[true, true, true, true, true, true, true, true, false, true, true, true, true, true, true, true, false, true, true, true, false, false, false, false, false] (frF b v6 v7 v11 v18 v19 v23 v24) W := by
  intro v6 v7 v11 v18 v19 v23 v24 W hx h18 h7
  rw [<- hG]
  unfold frF
  refine wpAny_ready (rs := [8, 20]) (by kernel_rfl) (by simp) ?_
  refine AllReady.cons rfl (fun K hK => ?_) (AllReady.cons rfl (fun K hK => ?_) (AllReady.nil))
  ·go_simp
   refine (class_m b 1 _).mono ?_
   rintro e w' ⟨g, cap, rfl, ho, hx'⟩
   refine hK _ _ ?_
   clear hK K
   rw [hG]
   exact L1610 _ _ _ _ _ _ _ _ (hx.trans hx') (h18.ext hx') (h7.ext hx') (⟨g, cap, rfl, owns_base ho (Nat.zero_le _)⟩)
  ·go_simp
   refine hK _ _ ?_
   clear hK K
   rw [hG]
   exact L811 _ _ _ _ _ _ _ _ (hx.alloc _) (h18.ext ((Ext.refl _).alloc _)) (⟨_, _, _, rfl, at_new rfl, rfl⟩) (h7.ext ((Ext.refl _).alloc _))
 have L801 : ∀ (v6 v7 v11 v18 v19 v23 v24 : Value) (W : World), Ext w W -> PS W v23 1 [⟨b, 7, none⟩] -> RW W v7 1 (fcells [⟨b, 0, none⟩] 4 2147483647) -> G 7 #[true, true, true, true, true, true, true, true, false, true, true, true, true, true, true, false, false, true, true, true, true, false, false, false, false] (frF b v6 v7 v11 v18 v19 v23 v24) W := by
  intro v6 v7 v11 v18 v19 v23 v24 W hx h23 h7
  rw [<- hG]
  unfold frF
  refine wpAny_ready (rs := [8, 15]) (by kernel_rfl) (by simp) ?_
  refine AllReady.cons rfl (fun K hK => ?_) (AllReady.cons rfl (fun K hK => ?_) (AllReady.nil))
  ·go_simp
   refine (class_m b 1 _).mono ?_
   rintro e w' ⟨g, cap, rfl, ho, hx'⟩
   refine hK _ _ ?_
   clear hK K
   rw [hG]
   exact L1601 _ _ _ _ _ _ _ _ (hx.trans hx') (h23.ext hx') (h7.ext hx') (⟨g, cap, rfl, owns_base ho (Nat.zero_le _)⟩)
  ·go_simp
   refine hK _ _ ?_
   clear hK K
   rw [hG]
   exact L811 _ _ _ _ _ _ _ _ (hx.alloc _) (⟨_, _, _, rfl, at_new rfl, rfl⟩) (h23.ext ((Ext.refl _).alloc _)) (h7.ext ((Ext.refl _).alloc _))
 have L800 : ∀ (v6 v7 v11 v18 v19 v23 v24 : Value) (W : World), Ext w W -> RW W v7 1 (fcells [⟨b, 0, none⟩] 4 2147483647) -> G 8 #[true, true, true, true, true, true, true, true, false, true, true, true, true, true, true, false, false, true, true, true, false, false, false, false, false] (frF b v6 v7 v11 v18 v19 v23 v24) W := by
  intro v6 v7 v11 v18 v19 v23 v24 W hx h7
  rw [<- hG]
  unfold frF
  refine wpAny_ready (rs := [8, 15, 20]) (by kernel_rfl) (by simp) ?_
  refine AllReady.cons rfl (fun K hK => ?_) (AllReady.cons rfl (fun K hK => ?_) (AllReady.cons rfl (fun K hK => ?_) (AllReady.nil)))
  ·go_simp
   refine (class_m b 1 _).mono ?_
   rintro e w' ⟨g, cap, rfl, ho, hx'⟩
   refine hK _ _ ?_
   clear hK K
   rw [hG]
   exact L1600 _ _ _ _ _ _ _ _ (hx.trans hx') (h7.ext hx') (⟨g, cap, rfl, owns_base ho (Nat.zero_le _)⟩)
  ·go_simp
   refine hK _ _ ?_
   clear hK K
   rw [hG]
   exact L810 _ _ _ _ _ _ _ _ (hx.alloc _) (⟨_, _, _, rfl, at_new rfl, rfl⟩) (h7.ext ((Ext.refl _).alloc _))
  ·go_simp
   refine hK _ _ ?_
   clear hK K
   rw [hG]
   exact L801 _ _ _ _ _ _ _ _ (hx.alloc _) (⟨_, _, _, rfl, at_new rfl, rfl⟩) (h7.ext ((Ext.refl _).alloc _))
 have L411 : ∀ (v6 v7 v11 v18 v19 v23 v24 : Value) (W : World), Ext w W -> PS W v6 1 [⟨b, 0, none⟩] -> PS W v18 2 [⟨b, 5, none⟩, ⟨b, 6, none⟩] -> PS W v23 1 [⟨b, 7, none⟩] -> G 7 #[true, true, true, true, false, true, true, true, false, true, true, true, true, true, true, true, false, true, true, true, true, false, false, false, false] (frF b v6 v7 v11 v18 v19 v23 v24) W := by
  intro v6 v7 v11 v18 v19 v23 v24 W hx h6 h18 h23
  have k6 := h6
  obtain ⟨g6, t6, arr6, rfl, hh6, ha6⟩ := h6
  rw [<- hG]
  unfold frF
  refine wpAny_ready (rs := [4]) (by kernel_rfl) (by simp) ?_
  refine AllReady.cons rfl (fun K hK => ?_) (AllReady.nil)
  ·go_simp
   refine (numbers_m _ 1 [⟨b, 0, none⟩] _ rfl (by decide) (by decide) (ptrs_at _ hh6 ha6)).mono ?_
   rintro e w' ⟨g, cap, rfl, ho, hx'⟩
   refine hK _ _ ?_
   clear hK K
   rw [hG]
   exact L811 _ _ _ _ _ _ _ _ (hx.trans hx') (h18.ext hx') (h23.ext hx') (⟨g, cap, rfl, owns_base ho (Nat.zero_le _)⟩)
 have L410 : ∀ (v6 v7 v11 v18 v19 v23 v24 : Value) (W : World), Ext w W -> PS W v6 1 [⟨b, 0, none⟩] -> PS W v18 2 [⟨b, 5, none⟩, ⟨b, 6, none⟩] -> G 8 #[true, true, true, true, false, true, true, true, false, true, true, true, true, true, true, true, false, true, true, true, false, false, false, false, false] (frF b v6 v7 v11 v18 v19 v23 v24) W := by
  intro v6 v7 v11 v18 v19 v23 v24 W hx h6 h18
  have k6 := h6
  obtain ⟨g6, t6, arr6, rfl, hh6, ha6⟩ := h6
  rw [<- hG]
  unfold frF
  refine wpAny_ready (rs := [4, 20]) (by kernel_rfl) (by simp) ?_
  refine AllReady.cons rfl (fun K hK => ?_) (AllReady.cons rfl (fun K hK => ?_) (AllReady.nil))
  ·go_simp
   refine (numbers_m _ 1 [⟨b, 0, none⟩] _ rfl (by decide) (by decide) (ptrs_at _ hh6 ha6)).mono ?_
   rintro e w' ⟨g, cap, rfl, ho, hx'⟩
   refine hK _ _ ?_
   clear hK K
   rw [hG]
   exact L810 _ _ _ _ _ _ _ _ (hx.trans hx') (h18.ext hx') (⟨g, cap, rfl, owns_base ho (Nat.zero_le _)⟩)
  ·go_simp
   refine hK _ _ ?_
   clear hK K
   rw [hG]
   exact L411 _ _ _ _ _ _ _ _ (hx.alloc _) (k6.ext ((Ext.refl _).alloc _)) (h18.ext ((Ext.refl _).alloc _)) (⟨_, _, _, rfl, at_new rfl, rfl⟩)
 have L401 : ∀ (v6 v7 v11 v18 v19 v23 v24 : Value) (W : World), Ext w W -> PS W v6 1 [⟨b, 0, none⟩] -> PS W v23 1 [⟨b, 7, none⟩] -> G 8 #[true, true, true, true, false, true, true, true, false, true, true, true, true, true, true, false, false, true, true, true, true, false, false, false, false] (frF b v6 v7 v11 v18 v19 v23 v24) W := by
  intro v6 v7 v11 v18 v19 v23 v24 W hx h6 h23
  have k6 := h6
  obtain ⟨g6, t6, arr6, rfl, hh6, ha6⟩ := h6
  rw [<- hG]
  unfold frF
  refine wpAny_ready (rs := [4, 15]) (by kernel_rfl) (by simp) ?_
  refine AllReady.cons rfl (fun K hK => ?_) (AllReady.cons rfl (fun K hK => ?_) (AllReady.nil))
  ·go_simp
   refine (numbers_m _ 1 [⟨b, 0, none⟩] _ rfl (by decide) (by decide) (ptrs_at _ hh6 ha6)).mono ?_
   rintro e w' ⟨g, cap, rfl, ho, hx'⟩
   refine hK _ _ ?_
   clear hK K
   rw [hG]
   exact L801 _ _ _ _ _ _ _ _ (hx.trans hx') (h23.ext hx') (⟨g, cap, rfl, owns_base ho (Nat.zero_le _)⟩)
  ·go_simp
   refine hK _ _ ?_
   clear hK K
   rw [hG]
   exact L411 _ _ _ _ _ _ _ _ (hx.alloc _) (k6.ext ((Ext.refl _).alloc _)) (⟨_, _, _, rfl, at_new rfl, rfl⟩) (h23.ext ((Ext.refl _).alloc _))
 have L400 : ∀ (v6 v7 v11 v18 v19 v23 v24 : Value) (W : World), Ext w W -> PS W v6 1 [⟨b, 0, none⟩] -> G 9 #[true, true, true, true, false, true, true, true, false, true, true, true, true, true, true, false, false, true, true, true, false, false, false, false, false] (frF b v6 v7 v11 v18 v19 v23 v24) W := by
  intro v6 v7 v11 v18 v19 v23 v24 W hx h6
  have k6 := h6
  obtain ⟨g6, t6, arr6, rfl, hh6, ha6⟩ := h6
  rw [<- hG]
  unfold frF
  refine wpAny_ready (rs := [4, 15, 20]) (by kernel_rfl) (by simp) ?_
  refine AllReady.cons rfl (fun K hK => ?_) (AllReady.cons rfl (fun K hK => ?_) (AllReady.cons rfl (fun K hK => ?_) (AllReady.nil)))
  ·go_simp
   refine (numbers_m _ 1 [⟨b, 0, none⟩] _ rfl (by decide) (by decide) (ptrs_at _ hh6 ha6)).mono ?_
   rintro e w' ⟨g, cap, rfl, ho, hx'⟩
   refine hK _ _ ?_
   clear hK K
   rw [hG]
   exact L800 _ _ _ _ _ _ _ _ (hx.trans hx') (⟨g, cap, rfl, owns_base ho (Nat.zero_le _)⟩)
  ·go_simp
   refine hK _ _ ?_
   clear hK K
   rw [hG]
   exact L410 _ _ _ _ _ _ _ _ (hx.alloc _) (k6.ext ((Ext.refl _).alloc _)) (⟨_, _, _, rfl, at_new rfl, rfl⟩)
  ·go_simp
   refine hK _ _ ?_
   clear hK K
   rw [hG]
   exact L401 _ _ _ _ _ _ _ _ (hx.alloc _) (k6.ext ((Ext.refl _).alloc _)) (⟨_, _, _, rfl, at_new rfl, rfl⟩)
 have L311 : ∀ (v6 v7 v11 v18 v19 v23 v24 : Value) (W : World), Ext w W -> PS W v18 2 [⟨b, 5, none⟩, ⟨b, 6, none⟩] -> PS W v23 1 [⟨b, 7, none⟩] -> G 8 #[true, true, true, false, false, true, true, true, false, true, true, true, true, true, true, true, false, true, true, true, true, false, false, false, false] (frF b v6 v7 v11 v18 v19 v23 v24) W := by
  intro v6 v7 v11 v18 v19 v23 v24 W hx h18 h23
  rw [<- hG]
  unfold frF
  refine wpAny_ready (rs := [3]) (by kernel_rfl) (by simp) ?_
  refine AllReady.cons rfl (fun K hK => ?_) (AllReady.nil)
  ·go_simp
   refine hK _ _ ?_
   clear hK K
   rw [hG]
   exact L411 _ _ _ _ _ _ _ _ (hx.alloc _) (⟨_, _, _, rfl, at_new rfl, rfl⟩) (h18.ext ((Ext.refl _).alloc _)) (h23.ext ((Ext.refl _).alloc _))
 have L310 : ∀ (v6 v7 v11 v18 v19 v23 v24 : Value) (W : World), Ext w W -> PS W v18 2 [⟨b, 5, none⟩, ⟨b, 6, none⟩] -> G 9 #[true, true, true, false, false, true, true, true, false, true, true, true, true, true, true, true, false, true, true, true, false, false, false, false, false] (frF b v6 v7 v11 v18 v19 v23 v24) W := by
  intro v6 v7 v11 v18 v19 v23 v24 W hx h18
  rw [<- hG]
  unfold frF
  refine wpAny_ready (rs := [3, 20]) (by kernel_rfl) (by simp) ?_
  refine AllReady.cons rfl (fun K hK => ?_) (AllReady.cons rfl (fun K hK => ?_) (AllReady.nil))
  ·go_simp
   refine hK _ _ ?_
   clear hK K
   rw [hG]
   exact L410 _ _ _ _ _ _ _ _ (hx.alloc _) (⟨_, _, _, rfl, at_new rfl, rfl⟩) (h18.ext ((Ext.refl _).alloc _))
  ·go_simp
   refine hK _ _ ?_
   clear hK K
   rw [hG]
   exact L311 _ _ _ _ _ _ _ _ (hx.alloc _) (h18.ext ((Ext.refl _).alloc _)) (⟨_, _, _, rfl, at_new rfl, rfl⟩)
 have L301 : ∀ (v6 v7 v11 v18 v19 v23 v24 : Value) (W : World), Ext w W -> PS W v23 1 [⟨b, 7, none⟩] -> G 9 #[true, true, true, false, false, true, true, true, false, true, true, true, true, true, true, false, false, true, true, true, true, false, false, false, false] (frF b v6 v7 v11 v18 v19 v23 v24) W := by
  intro v6 v7 v11 v18 v19 v23 v24 W hx h23
  rw [<- hG]
  unfold frF
  refine wpAny_ready (rs := [3, 15]) (by kernel_rfl) (by simp) ?_
  refine AllReady.cons rfl (fun K hK => ?_) (AllReady.cons rfl (fun K hK => ?_) (AllReady.nil))
  ·go_simp
   refine hK _ _ ?_
   clear hK K
   rw [hG]
   exact L401 _ _ _ _ _ _ _ _ (hx.alloc _) (⟨_, _, _, rfl, at_new rfl, rfl⟩) (h23.ext ((Ext.refl _).alloc _))
  ·go_simp
   refine hK _ _ ?_
   clear hK K
   rw [hG]
   exact L311 _ _ _ _ _ _ _ _ (hx.alloc _) (⟨_, _, _, rfl, at_new rfl, rfl⟩) (h23.ext ((Ext.refl _).alloc _))
 have L300 : ∀ (v6 v7 v11 v18 v19 v23 v24 : Value) (W : World), Ext w W -> G 10 #[true, true, true, false, false, true, true, true, false, true, true, true, true, true, true, false, false, true, true, true, false, false, false, false, false] (frF b v6 v7 v11 v18 v19 v23 v24) W := by
  intro v6 v7 v11 v18 v19 v23 v24 W hx
  rw [<- hG]
  unfold frF
  refine wpAny_ready (rs := [3, 15, 20]) (by kernel_rfl) (by simp) ?_
  refine AllReady.cons rfl (fun K hK => ?_) (AllReady.cons rfl (fun K hK => ?_) (AllReady.cons rfl (fun K hK => ?_) (AllReady.nil)))
  ·go_simp
   refine hK _ _ ?_
   clear hK K
   rw [hG]
   exact L400 _ _ _ _ _ _ _ _ (hx.alloc _) (⟨_, _, _, rfl, at_new rfl, rfl⟩)
  ·go_simp
   refine hK _ _ ?_
   clear hK K
   rw [hG]
   exact L310 _ _ _ _ _ _ _ _ (hx.alloc _) (⟨_, _, _, rfl, at_new rfl, rfl⟩)
  ·go_simp
   refine hK _ _ ?_
   clear hK K
   rw [hG]
   exact L301 _ _ _ _ _ _ _ _ (hx.alloc _) (⟨_, _, _, rfl, at_new rfl, rfl⟩)
 exact Eq.mp (by kernel_rfl) (L300 undef undef undef undef undef undef undef w.drew (Ext.refl w).drew)
end
-- Chk2
section
set_option maxRecDepth 100000
set_option maxHeartbeats 1600000
open Go.RowKit
theorem check_2a (s i ck cm cl cn f c p : Int) (h : (0 == i) = false) (w : World) :
  Calls Tryz.prog 55 #[.agg #[.int .i64 2, .int .i64 s, .int .i64 i, .int .i64 ck, .int .i64 cm, .int .i64 cl, .int .i64 cn, .int .i64 f, .int .i64 c, .int .i64 p]] w fun e w' => e = .returned (.tuple #[.nilIface, .int .i64 1]) /\ Ext w w' := by
 have hm1 := m_fetchPlain
 have heq := eqReq
 go_enter Tryz.func55, Tryz.ntmps55
 go_wp2_with (go_at_call 84; refine (ofKind_2 s i ck cm cl cn f c p _).mono ?_; rintro e w1 ⟨b, rfl, hb, hlt, hx⟩)
 have hr := hx.block (at_new rfl)
 have HR : Hid _ := hr
 have HB : Hid _ := hb
 have HX : Ext w w1 := (Ext.refl w).alloc _ |>.trans hx
 obtain ⟨q0, q1, q2, q3, q4, q5, q6, q7, q8, q9⟩ := req_cells hr
 clear hr hb hx
 refine wp_region_any (by kernel_rfl) ?_
 change wpAny _ _ _ _ _ _ _ (World.drew _)
 refine wpAny_ready (rs := [0]) (by kernel_rfl) (by simp) ?_
 refine AllReady.cons rfl (fun K hK => ?_) AllReady.nil
 go_simp
 refine hK _ _ ?_
 clear hK K
 refine wpAny_ready (rs := [1]) (by kernel_rfl) (by simp) ?_
 refine AllReady.cons rfl (fun K hK => ?_) AllReady.nil
 go_simp
 refine hK _ _ ?_
 clear hK K
 refine wpAny_ready (rs := [2]) (by kernel_rfl) (by simp) ?_
 refine AllReady.cons rfl (fun K hK => ?_) AllReady.nil
 go_simp
 refine hK _ _ ?_
 clear hK K
 refine wpAny_take (i := 3) (v := .iface 203 (.pointer (some ⟨b, 0, none⟩))) rfl (by kernel_rfl) (by kernel_rfl) (by kernel_rfl) (fun _ _ _ h => h) (Or.inl ⟨by rfl, by intro w; go_simp⟩) ?_
 refine wpAny_ready (rs := [4, 5]) (by kernel_rfl) (by simp) ?_
 refine AllReady.cons rfl (fun K hK => ?_) (AllReady.cons rfl (fun K hK => ?_) AllReady.nil)
 ·go_simp
  go_wp2_with (go_at_call 217; refine (fetchPlain_c b s ck cm cl cn f c p _ (by exact HB.out)).mono ?_; rintro e w2 ⟨rfl, hx2⟩; obtain ⟨r0, r1, r2, r3, r4, r5, r6, r7, r8, r9⟩ := req_cells (hx2.block (by exact HR.out)))
  refine wpAny_ready (rs := [5]) (by kernel_rfl) (by simp) ?_
  refine AllReady.cons rfl (fun K hK => ?_) AllReady.nil
  go_simp
  refine hK _ _ ?_
  clear hK K
  refine wpAny_ready (rs := [6]) (by kernel_rfl) (by simp) ?_
  refine AllReady.cons rfl (fun K hK => ?_) AllReady.nil
  go_simp
  refine hK _ _ ?_
  clear hK K
  refine wpAny_ready (rs := [7]) (by kernel_rfl) (by simp) ?_
  refine AllReady.cons rfl (fun K hK => ?_) AllReady.nil
  go_simp
  refine hK _ _ ?_
  clear hK K
  refine wpAny_ready (rs := [8]) (by kernel_rfl) (by simp) ?_
  refine AllReady.cons rfl (fun K hK => ?_) AllReady.nil
  go_simp
  refine hK _ _ ?_
  clear hK K
  refine wpAny_ready (rs := [9]) (by kernel_rfl) (by simp) ?_
  refine AllReady.cons rfl (fun K hK => ?_) AllReady.nil
  go_simp
  refine hK _ _ ?_
  clear hK K
  refine wpAny_ready (rs := [10]) (by kernel_rfl) (by simp) ?_
  refine AllReady.cons rfl (fun K hK => ?_) AllReady.nil
  go_simp
  refine hK _ _ ?_
  clear hK K
  refine wpAny_ready (rs := [11]) (by kernel_rfl) (by simp) ?_
  refine AllReady.cons rfl (fun K hK => ?_) AllReady.nil
  go_simp
  refine hK _ _ ?_
  clear hK K
  refine wpAny_ready (rs := [12]) (by kernel_rfl) (by simp) ?_
  refine AllReady.cons rfl (fun K hK => ?_) AllReady.nil
  go_simp
  refine hK _ _ ?_
  clear hK K
  refine wpAny_ready (rs := [13]) (by kernel_rfl) (by simp) ?_
  refine AllReady.cons rfl (fun K hK => ?_) AllReady.nil
  go_simp
  refine hK _ _ ?_
  clear hK K
  refine wpAny_done (by kernel_rfl) ?_ _
  go_wp2
  go_ret2
  exact ⟨rfl, HX.trans (Ext.drew (Ext.refl _) |>.trans hx2)⟩
 ·go_simp
  refine hK _ _ ?_
  clear hK K
  refine wpAny_ready (rs := [4]) (by kernel_rfl) (by simp) ?_
  refine AllReady.cons rfl (fun K hK => ?_) AllReady.nil
  go_simp
  go_wp2_with (go_at_call 217; refine (fetchPlain_c b s ck cm cl cn f c p _ (by exact HB.out)).mono ?_; rintro e w2 ⟨rfl, hx2⟩; obtain ⟨r0, r1, r2, r3, r4, r5, r6, r7, r8, r9⟩ := req_cells (hx2.block (by exact HR.out)))
  refine wpAny_ready (rs := [6]) (by kernel_rfl) (by simp) ?_
  refine AllReady.cons rfl (fun K hK => ?_) AllReady.nil
  go_simp
  refine hK _ _ ?_
  clear hK K
  refine wpAny_ready (rs := [7]) (by kernel_rfl) (by simp) ?_
  refine AllReady.cons rfl (fun K hK => ?_) AllReady.nil
  go_simp
  refine hK _ _ ?_
  clear hK K
  refine wpAny_ready (rs := [8]) (by kernel_rfl) (by simp) ?_
  refine AllReady.cons rfl (fun K hK => ?_) AllReady.nil
  go_simp
  refine hK _ _ ?_
  clear hK K
  refine wpAny_ready (rs := [9]) (by kernel_rfl) (by simp) ?_
  refine AllReady.cons rfl (fun K hK => ?_) AllReady.nil
  go_simp
  refine hK _ _ ?_
  clear hK K
  refine wpAny_ready (rs := [10]) (by kernel_rfl) (by simp) ?_
  refine AllReady.cons rfl (fun K hK => ?_) AllReady.nil
  go_simp
  refine hK _ _ ?_
  clear hK K
  refine wpAny_ready (rs := [11]) (by kernel_rfl) (by simp) ?_
  refine AllReady.cons rfl (fun K hK => ?_) AllReady.nil
  go_simp
  refine hK _ _ ?_
  clear hK K
  refine wpAny_ready (rs := [12]) (by kernel_rfl) (by simp) ?_
  refine AllReady.cons rfl (fun K hK => ?_) AllReady.nil
  go_simp
  refine hK _ _ ?_
  clear hK K
  refine wpAny_ready (rs := [13]) (by kernel_rfl) (by simp) ?_
  refine AllReady.cons rfl (fun K hK => ?_) AllReady.nil
  go_simp
  refine hK _ _ ?_
  clear hK K
  refine wpAny_done (by kernel_rfl) ?_ _
  go_wp2
  go_ret2
  exact ⟨rfl, HX.trans (Ext.drew (Ext.refl _) |>.trans hx2)⟩
theorem vals_fetch {W : World} {b : Nat} {s ck cm cl cn f c p : Int} {vals : Nat -> Int} (hW : W.heap[b]? = some (.cells #[.int .i64 s, .int .i64 ck, .int .i64 cm, .int .i64 cl, .int .i64 cn, .int .i64 f, .int .i64 c, .int .i64 p] 212 (0, 0))) (hv : vals 0 = s /\ vals 1 = ck /\ vals 2 = cm /\ vals 3 = cl /\ vals 4 = cn /\ vals 5 = f /\ vals 6 = c /\ vals 7 = p) : ∀ x ∈ fetchL, W.cell? ⟨b, x.1, none⟩ = some (.int .i64 (vals x.1)) := by
 obtain ⟨v0, v1, v2, v3, v4, v5, v6, v7⟩ := hv
 intro x hx
 simp only [fetchL, List.mem_cons, List.not_mem_nil, or_false] at hx
 rcases hx with rfl | rfl | rfl | rfl | rfl | rfl | rfl | rfl
 ·show W.cell? ⟨b, 0, none⟩ = some (.int .i64 (vals 0)); rw [v0]; exact cell_at hW rfl
 ·show W.cell? ⟨b, 1, none⟩ = some (.int .i64 (vals 1)); rw [v1]; exact cell_at hW rfl
 ·show W.cell? ⟨b, 2, none⟩ = some (.int .i64 (vals 2)); rw [v2]; exact cell_at hW rfl
 ·show W.cell? ⟨b, 3, none⟩ = some (.int .i64 (vals 3)); rw [v3]; exact cell_at hW rfl
 ·show W.cell? ⟨b, 4, none⟩ = some (.int .i64 (vals 4)); rw [v4]; exact cell_at hW rfl
 ·show W.cell? ⟨b, 5, none⟩ = some (.int .i64 (vals 5)); rw [v5]; exact cell_at hW rfl
 ·show W.cell? ⟨b, 6, none⟩ = some (.int .i64 (vals 6)); rw [v6]; exact cell_at hW rfl
 ·show W.cell? ⟨b, 7, none⟩ = some (.int .i64 (vals 7)); rw [v7]; exact cell_at hW rfl
theorem check_2b (s ck cm cl cn f c p : Int) (vals : Nat -> Int) (hv : vals 0 = s /\ vals 1 = ck /\ vals 2 = cm /\ vals 3 = cl /\ vals 4 = cn /\ vals 5 = f /\ vals 6 = c /\ vals 7 = p) (w : World) :
  Calls Tryz.prog 55 #[.agg #[.int .i64 2, .int .i64 s, .int .i64 0, .int .i64 ck, .int .i64 cm, .int .i64 cl, .int .i64 cn, .int .i64 f, .int .i64 c, .int .i64 p]] w fun e w' =>
   (fitB vals fetchL = true /\ ∃ b, e = .returned (.tuple #[.iface 203 (.pointer (some ⟨b, 0, none⟩)), .int .i64 0]) /\ w.heap.size <= b /\ w'.heap[b]? = some (.cells #[.int .i64 s, .int .i64 ck, .int .i64 cm, .int .i64 cl, .int .i64 cn, .int .i64 f, .int .i64 c, .int .i64 p] 212 (0, 0)) /\ Ext w w') \/
   (fitB vals fetchL = false /\ e = .returned (.tuple #[.nilIface, .int .i64 1]) /\ Ext w w') := by
 have HV : Hid (vals 0 = s /\ vals 1 = ck /\ vals 2 = cm /\ vals 3 = cl /\ vals 4 = cn /\ vals 5 = f /\ vals 6 = c /\ vals 7 = p) := hv
 have hm1 := m_fetchPlain
 have hm2 := m_fetchFields
 have heq := eqReq
 clear hv
 go_enter Tryz.func55, Tryz.ntmps55
 go_wp2_with (go_at_call 84; refine (ofKind_2 s 0 ck cm cl cn f c p _).mono ?_; rintro e w1 ⟨b, rfl, hb, hlt, hx⟩)
 have HLB : Hid (w.heap.size <= b) := by
  show w.heap.size <= b
  have hlt' := hlt
  simp at hlt'
  omega
 have hr := hx.block (at_new rfl)
 have HR : Hid _ := hr
 have HB : Hid _ := hb
 have HX : Ext w w1 := (Ext.refl w).alloc _ |>.trans hx
 obtain ⟨q0, q1, q2, q3, q4, q5, q6, q7, q8, q9⟩ := req_cells hr
 clear hr hb hx
 have HVV : Hid _ := fun (W : World) hW => vals_fetch (W := W) (b := b) hW HV.out
 cases HB2 : fitB vals fetchL
 all_goals
  have HFB : Hid _ := HB2
  clear HB2
  go_region_with (first
   | (go_at_call 217; refine (fetchPlain_c b s ck cm cl cn f c p _ (by exact HB.out)).mono ?_; rintro e w2 ⟨rfl, hx2⟩; obtain ⟨r0, r1, r2, r3, r4, r5, r6, r7, r8, r9⟩ := req_cells (hx2.block (by exact HR.out)))
   | (go_at_call 218; refine (fetchFields_c b _).mono ?_; rintro e w3 ⟨g, cap, rfl, ho, hx3⟩)
   | (go_at_call 85; refine (fit_c b g cap 8 _ fetchL vals _ rfl (by decide) ho ?_).mono ?_; exact HVV.out _ (hx3.block (by exact hx2.block (by exact HB.out))); rw [HFB.out]; rintro e w4 ⟨rfl, hx4⟩))
  all_goals go_wp2
  all_goals go_ret2
 ·exact .inr ⟨HFB.out, rfl, HX.trans ((Ext.refl _).drew.trans (hx2.trans (hx3.trans hx4)))⟩
 ·exact .inr ⟨HFB.out, rfl, HX.trans ((Ext.refl _).drew.trans (hx2.trans (hx3.trans hx4)))⟩
 ·exact .inl ⟨HFB.out, b, rfl, HLB.out, (hx2.trans (hx3.trans hx4)).block (by exact HB.out), HX.trans ((Ext.refl _).drew.trans (hx2.trans (hx3.trans hx4)))⟩
 ·exact .inl ⟨HFB.out, b, rfl, HLB.out, (hx2.trans (hx3.trans hx4)).block (by exact HB.out), HX.trans ((Ext.refl _).drew.trans (hx2.trans (hx3.trans hx4)))⟩
end
-- Chk3
section
set_option maxRecDepth 100000
set_option maxHeartbeats 1600000
open Go.RowKit
theorem check_3a (s i ck cm cl cn f c p : Int) (h : (((0 == ck && (0 == cm && (0 == cl && 0 == cn))) && (0 == f && (0 == c && 0 == p)))) = false) (w : World) :
  Calls Tryz.prog 55 #[.agg #[.int .i64 3, .int .i64 s, .int .i64 i, .int .i64 ck, .int .i64 cm, .int .i64 cl, .int .i64 cn, .int .i64 f, .int .i64 c, .int .i64 p]] w fun e w' => e = .returned (.tuple #[.nilIface, .int .i64 1]) /\ Ext w w' := by
 have hm1 := m_releasePlain
 have heq := eqReq
 go_enter Tryz.func55, Tryz.ntmps55
 go_wp2_with (go_at_call 84; refine (ofKind_3 s i ck cm cl cn f c p _).mono ?_; rintro e w1 ⟨b, rfl, hb, hlt, hx⟩)
 have hr := hx.block (at_new rfl)
 have HR : Hid _ := hr
 have HB : Hid _ := hb
 have HX : Ext w w1 := (Ext.refl w).alloc _ |>.trans hx
 obtain ⟨q0, q1, q2, q3, q4, q5, q6, q7, q8, q9⟩ := req_cells hr
 clear hr hb hx
 refine wp_region_any (by kernel_rfl) ?_
 change wpAny _ _ _ _ _ _ _ (World.drew _)
 refine wpAny_ready (rs := [0]) (by kernel_rfl) (by simp) ?_
 refine AllReady.cons rfl (fun K hK => ?_) AllReady.nil
 go_simp
 refine hK _ _ ?_
 clear hK K
 refine wpAny_ready (rs := [1]) (by kernel_rfl) (by simp) ?_
 refine AllReady.cons rfl (fun K hK => ?_) AllReady.nil
 go_simp
 refine hK _ _ ?_
 clear hK K
 refine wpAny_ready (rs := [2]) (by kernel_rfl) (by simp) ?_
 refine AllReady.cons rfl (fun K hK => ?_) AllReady.nil
 go_simp
 refine hK _ _ ?_
 clear hK K
 refine wpAny_take (i := 3) (v := .iface 205 (.pointer (some ⟨b, 0, none⟩))) rfl (by kernel_rfl) (by kernel_rfl) (by kernel_rfl) (fun _ _ _ h => h) (Or.inl ⟨by rfl, by intro w; go_simp⟩) ?_
 refine wpAny_ready (rs := [4, 5]) (by kernel_rfl) (by simp) ?_
 refine AllReady.cons rfl (fun K hK => ?_) (AllReady.cons rfl (fun K hK => ?_) AllReady.nil)
 ·go_simp
  go_wp2_with (go_at_call 219; refine (releasePlain_c b s i _ (by exact HB.out)).mono ?_; rintro e w2 ⟨rfl, hx2⟩; obtain ⟨r0, r1, r2, r3, r4, r5, r6, r7, r8, r9⟩ := req_cells (hx2.block (by exact HR.out)))
  refine wpAny_ready (rs := [5]) (by kernel_rfl) (by simp) ?_
  refine AllReady.cons rfl (fun K hK => ?_) AllReady.nil
  go_simp
  refine hK _ _ ?_
  clear hK K
  refine wpAny_ready (rs := [6]) (by kernel_rfl) (by simp) ?_
  refine AllReady.cons rfl (fun K hK => ?_) AllReady.nil
  go_simp
  refine hK _ _ ?_
  clear hK K
  refine wpAny_ready (rs := [7]) (by kernel_rfl) (by simp) ?_
  refine AllReady.cons rfl (fun K hK => ?_) AllReady.nil
  go_simp
  refine hK _ _ ?_
  clear hK K
  refine wpAny_ready (rs := [8]) (by kernel_rfl) (by simp) ?_
  refine AllReady.cons rfl (fun K hK => ?_) AllReady.nil
  go_simp
  refine hK _ _ ?_
  clear hK K
  refine wpAny_ready (rs := [9]) (by kernel_rfl) (by simp) ?_
  refine AllReady.cons rfl (fun K hK => ?_) AllReady.nil
  go_simp
  refine hK _ _ ?_
  clear hK K
  refine wpAny_ready (rs := [10]) (by kernel_rfl) (by simp) ?_
  refine AllReady.cons rfl (fun K hK => ?_) AllReady.nil
  go_simp
  refine hK _ _ ?_
  clear hK K
  refine wpAny_ready (rs := [11]) (by kernel_rfl) (by simp) ?_
  refine AllReady.cons rfl (fun K hK => ?_) AllReady.nil
  go_simp
  refine hK _ _ ?_
  clear hK K
  refine wpAny_ready (rs := [12]) (by kernel_rfl) (by simp) ?_
  refine AllReady.cons rfl (fun K hK => ?_) AllReady.nil
  go_simp
  refine hK _ _ ?_
  clear hK K
  refine wpAny_ready (rs := [13]) (by kernel_rfl) (by simp) ?_
  refine AllReady.cons rfl (fun K hK => ?_) AllReady.nil
  go_simp
  refine hK _ _ ?_
  clear hK K
  refine wpAny_done (by kernel_rfl) ?_ _
  go_wp2
  go_ret2
  exact ⟨rfl, HX.trans (Ext.drew (Ext.refl _) |>.trans hx2)⟩
 ·go_simp
  refine hK _ _ ?_
  clear hK K
  refine wpAny_ready (rs := [4]) (by kernel_rfl) (by simp) ?_
  refine AllReady.cons rfl (fun K hK => ?_) AllReady.nil
  go_simp
  go_wp2_with (go_at_call 219; refine (releasePlain_c b s i _ (by exact HB.out)).mono ?_; rintro e w2 ⟨rfl, hx2⟩; obtain ⟨r0, r1, r2, r3, r4, r5, r6, r7, r8, r9⟩ := req_cells (hx2.block (by exact HR.out)))
  refine wpAny_ready (rs := [6]) (by kernel_rfl) (by simp) ?_
  refine AllReady.cons rfl (fun K hK => ?_) AllReady.nil
  go_simp
  refine hK _ _ ?_
  clear hK K
  refine wpAny_ready (rs := [7]) (by kernel_rfl) (by simp) ?_
  refine AllReady.cons rfl (fun K hK => ?_) AllReady.nil
  go_simp
  refine hK _ _ ?_
  clear hK K
  refine wpAny_ready (rs := [8]) (by kernel_rfl) (by simp) ?_
  refine AllReady.cons rfl (fun K hK => ?_) AllReady.nil
  go_simp
  refine hK _ _ ?_
  clear hK K
  refine wpAny_ready (rs := [9]) (by kernel_rfl) (by simp) ?_
  refine AllReady.cons rfl (fun K hK => ?_) AllReady.nil
  go_simp
  refine hK _ _ ?_
  clear hK K
  refine wpAny_ready (rs := [10]) (by kernel_rfl) (by simp) ?_
  refine AllReady.cons rfl (fun K hK => ?_) AllReady.nil
  go_simp
  refine hK _ _ ?_
  clear hK K
  refine wpAny_ready (rs := [11]) (by kernel_rfl) (by simp) ?_
  refine AllReady.cons rfl (fun K hK => ?_) AllReady.nil
  go_simp
  refine hK _ _ ?_
  clear hK K
  refine wpAny_ready (rs := [12]) (by kernel_rfl) (by simp) ?_
  refine AllReady.cons rfl (fun K hK => ?_) AllReady.nil
  go_simp
  refine hK _ _ ?_
  clear hK K
  refine wpAny_ready (rs := [13]) (by kernel_rfl) (by simp) ?_
  refine AllReady.cons rfl (fun K hK => ?_) AllReady.nil
  go_simp
  refine hK _ _ ?_
  clear hK K
  refine wpAny_done (by kernel_rfl) ?_ _
  go_wp2
  go_ret2
  exact ⟨rfl, HX.trans (Ext.drew (Ext.refl _) |>.trans hx2)⟩
theorem vals_release {W : World} {b : Nat} {s i : Int} {vals : Nat -> Int} (hW : W.heap[b]? = some (.cells #[.int .i64 s, .int .i64 i] 214 (0, 0))) (hv : vals 0 = s /\ vals 1 = i) : ∀ x ∈ releaseL, W.cell? ⟨b, x.1, none⟩ = some (.int .i64 (vals x.1)) := by
 obtain ⟨v0, v1⟩ := hv
 intro x hx
 simp only [releaseL, List.mem_cons, List.not_mem_nil, or_false] at hx
 rcases hx with rfl | rfl
 ·show W.cell? ⟨b, 0, none⟩ = some (.int .i64 (vals 0)); rw [v0]; exact cell_at hW rfl
 ·show W.cell? ⟨b, 1, none⟩ = some (.int .i64 (vals 1)); rw [v1]; exact cell_at hW rfl
theorem check_3b (s i : Int) (vals : Nat -> Int) (hv : vals 0 = s /\ vals 1 = i) (w : World) :
  Calls Tryz.prog 55 #[.agg #[.int .i64 3, .int .i64 s, .int .i64 i, .int .i64 0, .int .i64 0, .int .i64 0, .int .i64 0, .int .i64 0, .int .i64 0, .int .i64 0]] w fun e w' =>
   (fitB vals releaseL = true /\ ∃ b, e = .returned (.tuple #[.iface 205 (.pointer (some ⟨b, 0, none⟩)), .int .i64 0]) /\ w.heap.size <= b /\ w'.heap[b]? = some (.cells #[.int .i64 s, .int .i64 i] 214 (0, 0)) /\ Ext w w') \/
   (fitB vals releaseL = false /\ e = .returned (.tuple #[.nilIface, .int .i64 1]) /\ Ext w w') := by
 have HV : Hid (vals 0 = s /\ vals 1 = i) := hv
 have hm1 := m_releasePlain
 have hm2 := m_releaseFields
 have heq := eqReq
 clear hv
 go_enter Tryz.func55, Tryz.ntmps55
 go_wp2_with (go_at_call 84; refine (ofKind_3 s i 0 0 0 0 0 0 0 _).mono ?_; rintro e w1 ⟨b, rfl, hb, hlt, hx⟩)
 have HLB : Hid (w.heap.size <= b) := by
  show w.heap.size <= b
  have hlt' := hlt
  simp at hlt'
  omega
 have hr := hx.block (at_new rfl)
 have HR : Hid _ := hr
 have HB : Hid _ := hb
 have HX : Ext w w1 := (Ext.refl w).alloc _ |>.trans hx
 obtain ⟨q0, q1, q2, q3, q4, q5, q6, q7, q8, q9⟩ := req_cells hr
 clear hr hb hx
 have HVV : Hid _ := fun (W : World) hW => vals_release (W := W) (b := b) hW HV.out
 cases HB2 : fitB vals releaseL
 all_goals
  have HFB : Hid _ := HB2
  clear HB2
  go_region_with (first
   | (go_at_call 219; refine (releasePlain_c b s i _ (by exact HB.out)).mono ?_; rintro e w2 ⟨rfl, hx2⟩; obtain ⟨r0, r1, r2, r3, r4, r5, r6, r7, r8, r9⟩ := req_cells (hx2.block (by exact HR.out)))
   | (go_at_call 220; refine (releaseFields_c b _).mono ?_; rintro e w3 ⟨g, cap, rfl, ho, hx3⟩)
   | (go_at_call 85; refine (fit_c b g cap 2 _ releaseL vals _ rfl (by decide) ho ?_).mono ?_; exact HVV.out _ (hx3.block (by exact hx2.block (by exact HB.out))); rw [HFB.out]; rintro e w4 ⟨rfl, hx4⟩))
  all_goals go_wp2
  all_goals go_ret2
 ·exact .inr ⟨HFB.out, rfl, HX.trans ((Ext.refl _).drew.trans (hx2.trans (hx3.trans hx4)))⟩
 ·exact .inr ⟨HFB.out, rfl, HX.trans ((Ext.refl _).drew.trans (hx2.trans (hx3.trans hx4)))⟩
 ·exact .inl ⟨HFB.out, b, rfl, HLB.out, (hx2.trans (hx3.trans hx4)).block (by exact HB.out), HX.trans ((Ext.refl _).drew.trans (hx2.trans (hx3.trans hx4)))⟩
 ·exact .inl ⟨HFB.out, b, rfl, HLB.out, (hx2.trans (hx3.trans hx4)).block (by exact HB.out), HX.trans ((Ext.refl _).drew.trans (hx2.trans (hx3.trans hx4)))⟩
end
-- Chk4
section
set_option maxRecDepth 100000
set_option maxHeartbeats 1600000
open Go.RowKit
theorem check_4a (s i ck cm cl cn f c p : Int) (h : ((0 == s && (0 == i && (0 == f && (0 == c && 0 == p))))) = false) (w : World) :
  Calls Tryz.prog 55 #[.agg #[.int .i64 4, .int .i64 s, .int .i64 i, .int .i64 ck, .int .i64 cm, .int .i64 cl, .int .i64 cn, .int .i64 f, .int .i64 c, .int .i64 p]] w fun e w' => e = .returned (.tuple #[.nilIface, .int .i64 1]) /\ Ext w w' := by
 have hm1 := m_statusPlain
 have heq := eqReq
 go_enter Tryz.func55, Tryz.ntmps55
 go_wp2_with (go_at_call 84; refine (ofKind_4 s i ck cm cl cn f c p _).mono ?_; rintro e w1 ⟨b, rfl, hb, hlt, hx⟩)
 have hr := hx.block (at_new rfl)
 have HR : Hid _ := hr
 have HB : Hid _ := hb
 have HX : Ext w w1 := (Ext.refl w).alloc _ |>.trans hx
 obtain ⟨q0, q1, q2, q3, q4, q5, q6, q7, q8, q9⟩ := req_cells hr
 clear hr hb hx
 refine wp_region_any (by kernel_rfl) ?_
 change wpAny _ _ _ _ _ _ _ (World.drew _)
 refine wpAny_ready (rs := [0]) (by kernel_rfl) (by simp) ?_
 refine AllReady.cons rfl (fun K hK => ?_) AllReady.nil
 go_simp
 refine hK _ _ ?_
 clear hK K
 refine wpAny_ready (rs := [1]) (by kernel_rfl) (by simp) ?_
 refine AllReady.cons rfl (fun K hK => ?_) AllReady.nil
 go_simp
 refine hK _ _ ?_
 clear hK K
 refine wpAny_ready (rs := [2]) (by kernel_rfl) (by simp) ?_
 refine AllReady.cons rfl (fun K hK => ?_) AllReady.nil
 go_simp
 refine hK _ _ ?_
 clear hK K
 refine wpAny_take (i := 3) (v := .iface 207 (.pointer (some ⟨b, 0, none⟩))) rfl (by kernel_rfl) (by kernel_rfl) (by kernel_rfl) (fun _ _ _ h => h) (Or.inl ⟨by rfl, by intro w; go_simp⟩) ?_
 refine wpAny_ready (rs := [4, 5]) (by kernel_rfl) (by simp) ?_
 refine AllReady.cons rfl (fun K hK => ?_) (AllReady.cons rfl (fun K hK => ?_) AllReady.nil)
 ·go_simp
  go_wp2_with (go_at_call 221; refine (statusPlain_c b ck cm cl cn _ (by exact HB.out)).mono ?_; rintro e w2 ⟨rfl, hx2⟩; obtain ⟨r0, r1, r2, r3, r4, r5, r6, r7, r8, r9⟩ := req_cells (hx2.block (by exact HR.out)))
  refine wpAny_ready (rs := [5]) (by kernel_rfl) (by simp) ?_
  refine AllReady.cons rfl (fun K hK => ?_) AllReady.nil
  go_simp
  refine hK _ _ ?_
  clear hK K
  refine wpAny_ready (rs := [6]) (by kernel_rfl) (by simp) ?_
  refine AllReady.cons rfl (fun K hK => ?_) AllReady.nil
  go_simp
  refine hK _ _ ?_
  clear hK K
  refine wpAny_ready (rs := [7]) (by kernel_rfl) (by simp) ?_
  refine AllReady.cons rfl (fun K hK => ?_) AllReady.nil
  go_simp
  refine hK _ _ ?_
  clear hK K
  refine wpAny_ready (rs := [8]) (by kernel_rfl) (by simp) ?_
  refine AllReady.cons rfl (fun K hK => ?_) AllReady.nil
  go_simp
  refine hK _ _ ?_
  clear hK K
  refine wpAny_ready (rs := [9]) (by kernel_rfl) (by simp) ?_
  refine AllReady.cons rfl (fun K hK => ?_) AllReady.nil
  go_simp
  refine hK _ _ ?_
  clear hK K
  refine wpAny_ready (rs := [10]) (by kernel_rfl) (by simp) ?_
  refine AllReady.cons rfl (fun K hK => ?_) AllReady.nil
  go_simp
  refine hK _ _ ?_
  clear hK K
  refine wpAny_ready (rs := [11]) (by kernel_rfl) (by simp) ?_
  refine AllReady.cons rfl (fun K hK => ?_) AllReady.nil
  go_simp
  refine hK _ _ ?_
  clear hK K
  refine wpAny_ready (rs := [12]) (by kernel_rfl) (by simp) ?_
  refine AllReady.cons rfl (fun K hK => ?_) AllReady.nil
  go_simp
  refine hK _ _ ?_
  clear hK K
  refine wpAny_ready (rs := [13]) (by kernel_rfl) (by simp) ?_
  refine AllReady.cons rfl (fun K hK => ?_) AllReady.nil
  go_simp
  refine hK _ _ ?_
  clear hK K
  refine wpAny_done (by kernel_rfl) ?_ _
  go_wp2
  go_ret2
  exact ⟨rfl, HX.trans (Ext.drew (Ext.refl _) |>.trans hx2)⟩
 ·go_simp
  refine hK _ _ ?_
  clear hK K
  refine wpAny_ready (rs := [4]) (by kernel_rfl) (by simp) ?_
  refine AllReady.cons rfl (fun K hK => ?_) AllReady.nil
  go_simp
  go_wp2_with (go_at_call 221; refine (statusPlain_c b ck cm cl cn _ (by exact HB.out)).mono ?_; rintro e w2 ⟨rfl, hx2⟩; obtain ⟨r0, r1, r2, r3, r4, r5, r6, r7, r8, r9⟩ := req_cells (hx2.block (by exact HR.out)))
  refine wpAny_ready (rs := [6]) (by kernel_rfl) (by simp) ?_
  refine AllReady.cons rfl (fun K hK => ?_) AllReady.nil
  go_simp
  refine hK _ _ ?_
  clear hK K
  refine wpAny_ready (rs := [7]) (by kernel_rfl) (by simp) ?_
  refine AllReady.cons rfl (fun K hK => ?_) AllReady.nil
  go_simp
  refine hK _ _ ?_
  clear hK K
  refine wpAny_ready (rs := [8]) (by kernel_rfl) (by simp) ?_
  refine AllReady.cons rfl (fun K hK => ?_) AllReady.nil
  go_simp
  refine hK _ _ ?_
  clear hK K
  refine wpAny_ready (rs := [9]) (by kernel_rfl) (by simp) ?_
  refine AllReady.cons rfl (fun K hK => ?_) AllReady.nil
  go_simp
  refine hK _ _ ?_
  clear hK K
  refine wpAny_ready (rs := [10]) (by kernel_rfl) (by simp) ?_
  refine AllReady.cons rfl (fun K hK => ?_) AllReady.nil
  go_simp
  refine hK _ _ ?_
  clear hK K
  refine wpAny_ready (rs := [11]) (by kernel_rfl) (by simp) ?_
  refine AllReady.cons rfl (fun K hK => ?_) AllReady.nil
  go_simp
  refine hK _ _ ?_
  clear hK K
  refine wpAny_ready (rs := [12]) (by kernel_rfl) (by simp) ?_
  refine AllReady.cons rfl (fun K hK => ?_) AllReady.nil
  go_simp
  refine hK _ _ ?_
  clear hK K
  refine wpAny_ready (rs := [13]) (by kernel_rfl) (by simp) ?_
  refine AllReady.cons rfl (fun K hK => ?_) AllReady.nil
  go_simp
  refine hK _ _ ?_
  clear hK K
  refine wpAny_done (by kernel_rfl) ?_ _
  go_wp2
  go_ret2
  exact ⟨rfl, HX.trans (Ext.drew (Ext.refl _) |>.trans hx2)⟩
theorem vals_status {W : World} {b : Nat} {ck cm cl cn : Int} {vals : Nat -> Int} (hW : W.heap[b]? = some (.cells #[.int .i64 ck, .int .i64 cm, .int .i64 cl, .int .i64 cn] 216 (0, 0))) (hv : vals 0 = ck /\ vals 1 = cm /\ vals 2 = cl /\ vals 3 = cn) : ∀ x ∈ statusL, W.cell? ⟨b, x.1, none⟩ = some (.int .i64 (vals x.1)) := by
 obtain ⟨v0, v1, v2, v3⟩ := hv
 intro x hx
 simp only [statusL, List.mem_cons, List.not_mem_nil, or_false] at hx
 rcases hx with rfl | rfl | rfl | rfl
 ·show W.cell? ⟨b, 0, none⟩ = some (.int .i64 (vals 0)); rw [v0]; exact cell_at hW rfl
 ·show W.cell? ⟨b, 1, none⟩ = some (.int .i64 (vals 1)); rw [v1]; exact cell_at hW rfl
 ·show W.cell? ⟨b, 2, none⟩ = some (.int .i64 (vals 2)); rw [v2]; exact cell_at hW rfl
 ·show W.cell? ⟨b, 3, none⟩ = some (.int .i64 (vals 3)); rw [v3]; exact cell_at hW rfl
theorem check_4b (ck cm cl cn : Int) (vals : Nat -> Int) (hv : vals 0 = ck /\ vals 1 = cm /\ vals 2 = cl /\ vals 3 = cn) (w : World) :
  Calls Tryz.prog 55 #[.agg #[.int .i64 4, .int .i64 0, .int .i64 0, .int .i64 ck, .int .i64 cm, .int .i64 cl, .int .i64 cn, .int .i64 0, .int .i64 0, .int .i64 0]] w fun e w' =>
   (fitB vals statusL = true /\ ∃ b, e = .returned (.tuple #[.iface 207 (.pointer (some ⟨b, 0, none⟩)), .int .i64 0]) /\ w.heap.size <= b /\ w'.heap[b]? = some (.cells #[.int .i64 ck, .int .i64 cm, .int .i64 cl, .int .i64 cn] 216 (0, 0)) /\ Ext w w') \/
   (fitB vals statusL = false /\ e = .returned (.tuple #[.nilIface, .int .i64 1]) /\ Ext w w') := by
 have HV : Hid (vals 0 = ck /\ vals 1 = cm /\ vals 2 = cl /\ vals 3 = cn) := hv
 have hm1 := m_statusPlain
 have hm2 := m_statusFields
 have heq := eqReq
 clear hv
 go_enter Tryz.func55, Tryz.ntmps55
 go_wp2_with (go_at_call 84; refine (ofKind_4 0 0 ck cm cl cn 0 0 0 _).mono ?_; rintro e w1 ⟨b, rfl, hb, hlt, hx⟩)
 have HLB : Hid (w.heap.size <= b) := by
  show w.heap.size <= b
  have hlt' := hlt
  simp at hlt'
  omega
 have hr := hx.block (at_new rfl)
 have HR : Hid _ := hr
 have HB : Hid _ := hb
 have HX : Ext w w1 := (Ext.refl w).alloc _ |>.trans hx
 obtain ⟨q0, q1, q2, q3, q4, q5, q6, q7, q8, q9⟩ := req_cells hr
 clear hr hb hx
 have HVV : Hid _ := fun (W : World) hW => vals_status (W := W) (b := b) hW HV.out
 cases HB2 : fitB vals statusL
 all_goals
  have HFB : Hid _ := HB2
  clear HB2
  go_region_with (first
   | (go_at_call 221; refine (statusPlain_c b ck cm cl cn _ (by exact HB.out)).mono ?_; rintro e w2 ⟨rfl, hx2⟩; obtain ⟨r0, r1, r2, r3, r4, r5, r6, r7, r8, r9⟩ := req_cells (hx2.block (by exact HR.out)))
   | (go_at_call 222; refine (statusFields_c b _).mono ?_; rintro e w3 ⟨g, cap, rfl, ho, hx3⟩)
   | (go_at_call 85; refine (fit_c b g cap 4 _ statusL vals _ rfl (by decide) ho ?_).mono ?_; exact HVV.out _ (hx3.block (by exact hx2.block (by exact HB.out))); rw [HFB.out]; rintro e w4 ⟨rfl, hx4⟩))
  all_goals go_wp2
  all_goals go_ret2
 ·exact .inr ⟨HFB.out, rfl, HX.trans ((Ext.refl _).drew.trans (hx2.trans (hx3.trans hx4)))⟩
 ·exact .inr ⟨HFB.out, rfl, HX.trans ((Ext.refl _).drew.trans (hx2.trans (hx3.trans hx4)))⟩
 ·exact .inl ⟨HFB.out, b, rfl, HLB.out, (hx2.trans (hx3.trans hx4)).block (by exact HB.out), HX.trans ((Ext.refl _).drew.trans (hx2.trans (hx3.trans hx4)))⟩
 ·exact .inl ⟨HFB.out, b, rfl, HLB.out, (hx2.trans (hx3.trans hx4)).block (by exact HB.out), HX.trans ((Ext.refl _).drew.trans (hx2.trans (hx3.trans hx4)))⟩
end
end Go.Proofs.YtmnjhhachdlmkaaGreat
