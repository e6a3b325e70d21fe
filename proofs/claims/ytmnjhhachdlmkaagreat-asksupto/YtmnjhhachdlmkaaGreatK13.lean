import Derived.Test.YtmnjhhachdlmkaaGreatK12
namespace Go.Proofs.YtmnjhhachdlmkaaGreat
open List renaming getElem_toArray -> lA, getElem_cons_succ -> lB, getElem_cons_zero -> lC, setIfInBounds_toArray -> lD, set_cons_zero -> lE, set_cons_succ -> lF
open World renaming block_lt_of_cell? -> lG
open Value renaming ownBlock -> lH
-- HLn
section
set_option maxRecDepth 100000
set_option maxHeartbeats 1600000
open Go.RowKit Go.Maps
/-- A stock of the reference, where it lies. -/
theorem stock_row {w : World} {G : Nat -> Prop} {S : List Stk} {stv : Value} {css : List (List Value)} (h3 : RowIs w G stv S.length css.flatten) (h4 : css.length = S.length) (h5 : ∀ i (h : i < S.length), ∃ cs, css[i]? = some cs /\ RefStk w G S[i] cs) (j : Nat) (hj : j < S.length) :
  ∃ g cap ta tcap vs, stv = .slice (some ⟨g, 0, none⟩) S.length cap /\ S.length <= cap /\ G g /\
   (w.cell? ⟨g, j * 7, none⟩ = some (.int .i64 S[j].kd) /\ w.cell? ⟨g, j * 7 + 1, none⟩ = some (.int .i64 S[j].m) /\ w.cell? ⟨g, j * 7 + 2, none⟩ = some (.int .i64 S[j].k) /\ w.cell? ⟨g, j * 7 + 3, none⟩ = some (.int .i64 S[j].n) /\ w.cell? ⟨g, j * 7 + 4, none⟩ = some (.slice ta S[j].ts.length tcap) /\ w.cell? ⟨g, j * 7 + 5, none⟩ = some (.int .i64 S[j].leased) /\ w.cell? ⟨g, j * 7 + 6, none⟩ = some (.int .i64 S[j].gone)) /\
   RowIs w G (.slice ta S[j].ts.length tcap) S[j].ts.length vs /\ vs.length = S[j].ts.length /\ ∀ i (h : i < S[j].ts.length), ∃ v, vs[i]? = some v /\ DrawsIs w G S[j].each v S[j].ts[i].1 := by
 rcases h3 with ⟨_, hn⟩ | ⟨g, cap, e, hc, hg, hcell, _⟩
 ·omega
 ·obtain ⟨cs, hcs, tv, vs, rfl, k1, k2, k3⟩ := h5 j hj
  obtain ⟨ta, tcap, rfl⟩ := k1.slice
  have key : ∀ i v, i < 7 -> [Value.int .i64 (S[j].kd : Int), .int .i64 S[j].m, .int .i64 S[j].k, .int .i64 S[j].n, .slice ta S[j].ts.length tcap, .int .i64 S[j].leased, .int .i64 S[j].gone][i]? = some v -> w.cell? ⟨g, j * 7 + i, none⟩ = some v := fun i v hi hv => hcell _ _ ((flat_at h4 h5 j hj i hi hcs).trans hv)
  exact ⟨g, cap, ta, tcap, vs, e, hc, hg, ⟨key 0 _ (by omega) rfl, key 1 _ (by omega) rfl, key 2 _ (by omega) rfl, key 3 _ (by omega) rfl, key 4 _ (by omega) rfl, key 5 _ (by omega) rfl, key 6 _ (by omega) rfl⟩, k1, k2, k3⟩
theorem find_none {α : Type} {p : α -> Bool} {l : List α} (h : l.findIdx? p = none) : l.find? p = none := by
 rw [List.find?_eq_none]
 intro x hx
 have := List.findIdx?_eq_none_iff.1 h x hx
 simp [this]
def leaseCodeS (S : List Stk) (ls : List LsV) (kd m k n c : Int) : Int := match S.find? (fun x => x.is kd m k n) with
 | none => 2
 | some x => if c < 1 \/ 40 < c then 5 else if (x.ts.length : Int) - x.leased < c then 7 else if 30 <= ls.length then 4 else 0
theorem leaseCode_abs (R : List StkR) (ls : List LsV) (kd m k n c : Int) : leaseCode R ls kd m k n c = leaseCodeS (R.map StkR.abs) ls kd m k n c := by
 unfold leaseCode leaseCodeS
 rw [List.find?_map]
 show (match R.find? (fun x => x.is kd m k n) with | none => _ | some x => _) = (match Option.map StkR.abs (R.find? fun x => x.is kd m k n) with | none => _ | some x => _)
 cases R.find? (fun x => x.is kd m k n) <;> rfl
theorem refLeasingNo_c {G : Nat -> Prop} (p : Nat) (S : List Stk) (ls : List LsV) (kk s i kd m k n f c pp : Int) (hS : S.length <= 100) (hSm : ∀ x ∈ S, x.ts.length <= 1000 /\ x.leased <= 1000) (hls : ls.length <= 1000) (hf : ls.findIdx? (isNamed s i) = none) (hcd : leaseCodeS S ls kd m k n c ≠ 0) (w : World) (h : RefAt w G p S ls) :
  Calls Tryz.prog 177 #[.pointer (some ⟨p, 0, none⟩), reqV kk s i kd m k n f c pp] w fun e w' => e = .returned (.tuple #[.pointer none, replyV (leaseCodeS S ls kd m k n c) 0 0 (.slice none 0 0)]) /\ Ext w w' := by
 have HL : Hid (∀ w', Ext w w' -> Calls Tryz.prog 187 #[.pointer (some ⟨p, 0, none⟩), .int .i64 s, .int .i64 i] w' fun e w'' => e = .returned (.int .i64 (-1)) /\ Ext w' w'') := fun w' hx => by
  have := refLease_c p S ls s i hls w' (h.ext hx)
  rw [hf] at this
  exact this
 have HFi : Hid (∀ w', Ext w w' -> _) := fun w' hx => refFind_c p S ls kd m k n hS w' (h.ext hx)
 have HCo : Hid (∀ w', _) := fun w' => refCode_c (leaseCodeS S ls kd m k n c) w'
 obtain ⟨stv, lsv, css, h1, h2, h3, h4, h5, h6⟩ := h
 have c0 : w.cell? ⟨p, 0, none⟩ = some stv := cell_at h1 rfl
 have c1 : w.cell? ⟨p, 1, none⟩ = some lsv := cell_at h1 rfl
 obtain ⟨la, lcap, rfl⟩ := h6.slice
 have hp := lG w _ c1
 clear h1 h2 hf
 unfold replyV at HCo ⊢
 unfold reqV
 unfold clsV at HFi
 cases hfx : S.findIdx? (fun x => x.is kd m k n) with
 | none =>
  have hlc : leaseCodeS S ls kd m k n c = 2 := by
   unfold leaseCodeS
   rw [find_none hfx]
  rw [hlc] at HCo ⊢
  rw [hfx] at HFi
  simp only at HFi
  clear hcd hlc hfx h3 h4 h5 h6
  go_enter Tryz.func177, Tryz.ntmps177
  go_wp2_with fail
  have hres0 : ((w.alloc (.cells #[.int .i64 kk, .int .i64 s, .int .i64 i, .int .i64 kd, .int .i64 m, .int .i64 k, .int .i64 n, .int .i64 f, .int .i64 c, .int .i64 pp] 51)).alloc (.cells #[.int .i64 0, .int .i64 0, .int .i64 0, .slice none 0 0] 33)).heap[w.heap.size + 1]? = some (.cells #[.int .i64 0, .int .i64 0, .int .i64 0, .slice none 0 0] 33 (0, 0)) := at_new (by simp)
  have hreq0 : ((w.alloc (.cells #[.int .i64 kk, .int .i64 s, .int .i64 i, .int .i64 kd, .int .i64 m, .int .i64 k, .int .i64 n, .int .i64 f, .int .i64 c, .int .i64 pp] 51)).alloc (.cells #[.int .i64 0, .int .i64 0, .int .i64 0, .slice none 0 0] 33)).heap[w.heap.size]? = some (.cells #[.int .i64 kk, .int .i64 s, .int .i64 i, .int .i64 kd, .int .i64 m, .int .i64 k, .int .i64 n, .int .i64 f, .int .i64 c, .int .i64 pp] 51 (0, 0)) := at_old (heap_alloc_new _ _)
  have hXW : Ext w ((w.alloc (.cells #[.int .i64 kk, .int .i64 s, .int .i64 i, .int .i64 kd, .int .i64 m, .int .i64 k, .int .i64 n, .int .i64 f, .int .i64 c, .int .i64 pp] 51)).alloc (.cells #[.int .i64 0, .int .i64 0, .int .i64 0, .slice none 0 0] 33)) := ((Ext.refl w).alloc _).alloc _
  generalize World.alloc (World.alloc w _) _ = W at hres0 hreq0 hXW ⊢
  refine (HL.out W hXW).mono ?_
  rintro e w1 ⟨rfl, hx1⟩
  have HX1 : Hid (Ext w w1) := hXW.trans hx1
  have HRS : Hid _ := hx1.block hres0
  have HRQ : Hid _ := hx1.block hreq0
  clear hx1 hXW hres0 hreq0
  have r1 : w1.cell? ⟨w.heap.size, 1, none⟩ = some (.int .i64 s) := cell_at HRQ.out rfl
  have r2 : w1.cell? ⟨w.heap.size, 2, none⟩ = some (.int .i64 i) := cell_at HRQ.out rfl
  have r3 : w1.cell? ⟨w.heap.size, 3, none⟩ = some (.int .i64 kd) := cell_at HRQ.out rfl
  have r4 : w1.cell? ⟨w.heap.size, 4, none⟩ = some (.int .i64 m) := cell_at HRQ.out rfl
  have r5 : w1.cell? ⟨w.heap.size, 5, none⟩ = some (.int .i64 k) := cell_at HRQ.out rfl
  have r6 : w1.cell? ⟨w.heap.size, 6, none⟩ = some (.int .i64 n) := cell_at HRQ.out rfl
  have r8 : w1.cell? ⟨w.heap.size, 8, none⟩ = some (.int .i64 c) := cell_at HRQ.out rfl
  have c0 := HX1.out.cell c0
  have c1 := HX1.out.cell c1
  have hrl := lG w1 _ r1
  go_wp2_with fail
  refine (HFi.out _ HX1.out).mono ?_
  rintro e w2 ⟨rfl, hx2⟩
  have HRC : Hid _ := hx2.block HRS.out
  have HXC : Hid (Ext w w2) := HX1.out.trans hx2
  clear hx2
  go_wp2_with fail
  refine (HCo.out _).mono ?_
  rintro e w9 ⟨rfl, hx9⟩
  have hr9 := hx9.block HRC.out
  have o0 := cell_at hr9 (i := 0) rfl
  have o1 := cell_at hr9 (i := 1) rfl
  have o2 := cell_at hr9 (i := 2) rfl
  have o3 := cell_at hr9 (i := 3) rfl
  have f0 := frozen_row hr9 0
  have f1 := frozen_row hr9 1
  have f2 := frozen_row hr9 2
  have f3 := frozen_row hr9 3
  have HX9 : Hid (Ext w w9) := HXC.out.trans hx9
  clear hr9 hx9
  go_wp2
  refine bodyPost_ret (v := .tuple #[.pointer none, .agg #[.int .i64 2, .int .i64 0, .int .i64 0, .slice none 0 0]]) (by simp [results, Tryz.results177, go_sem, o0, o1, o2, o3]) rfl ⟨rfl, ?_⟩
  exact ext4 HX9.out (by omega) _ _ _ _
 | some ix =>
  obtain ⟨hix, hfi⟩ := find_idx hfx
  have hlc : leaseCodeS S ls kd m k n c = if c < 1 \/ 40 < c then 5 else if (S[ix].ts.length : Int) - S[ix].leased < c then 7 else if 30 <= ls.length then 4 else 0 := by
   unfold leaseCodeS
   rw [hfi]
  rw [hlc] at HCo hcd ⊢
  rw [hfx] at HFi
  simp only at HFi
  obtain ⟨g, cap, ta, tcap, vs, rfl, hcap, _, ⟨s0, s1, s2, s3, s4, s5, s6⟩, q1, q2, q3⟩ := stock_row h3 h4 h5 ix hix
  clear q1 q2 q3
  obtain ⟨hm1, hm2⟩ := hSm S[ix] (List.getElem_mem hix)
  have hgl := lG w _ s0
  obtain ⟨len, hlen⟩ : ∃ len, S.length = len := ⟨_, rfl⟩
  obtain ⟨len2, hlen2⟩ : ∃ len, ls.length = len := ⟨_, rfl⟩
  rw [hlen] at c0 hcap hix hS
  rw [hlen2] at c1 HCo hcd hls ⊢
  have hk0 : (0 : Int) <= (ix : Int) := by omega
  have hk1 : (ix : Int) < len := by omega
  clear hlc hfx h3 h4 h5 h6 hlen hlen2 hfi hSm
  generalize S[ix].gone = sg at *
  generalize S[ix].ts.length = tn at *
  generalize S[ix].leased = sl at *
  generalize (S[ix].kd : Int) = x0 at *
  generalize (S[ix].m : Int) = x1 at *
  generalize (S[ix].k : Int) = x2 at *
  generalize (S[ix].n : Int) = x3 at *
  by_cases hcc : c < 1 \/ 40 < c
  ·rw [if_pos hcc] at HCo hcd ⊢
   go_enter Tryz.func177, Tryz.ntmps177
   go_wp2_with fail
   have hres0 : ((w.alloc (.cells #[.int .i64 kk, .int .i64 s, .int .i64 i, .int .i64 kd, .int .i64 m, .int .i64 k, .int .i64 n, .int .i64 f, .int .i64 c, .int .i64 pp] 51)).alloc (.cells #[.int .i64 0, .int .i64 0, .int .i64 0, .slice none 0 0] 33)).heap[w.heap.size + 1]? = some (.cells #[.int .i64 0, .int .i64 0, .int .i64 0, .slice none 0 0] 33 (0, 0)) := at_new (by simp)
   have hreq0 : ((w.alloc (.cells #[.int .i64 kk, .int .i64 s, .int .i64 i, .int .i64 kd, .int .i64 m, .int .i64 k, .int .i64 n, .int .i64 f, .int .i64 c, .int .i64 pp] 51)).alloc (.cells #[.int .i64 0, .int .i64 0, .int .i64 0, .slice none 0 0] 33)).heap[w.heap.size]? = some (.cells #[.int .i64 kk, .int .i64 s, .int .i64 i, .int .i64 kd, .int .i64 m, .int .i64 k, .int .i64 n, .int .i64 f, .int .i64 c, .int .i64 pp] 51 (0, 0)) := at_old (heap_alloc_new _ _)
   have hXW : Ext w ((w.alloc (.cells #[.int .i64 kk, .int .i64 s, .int .i64 i, .int .i64 kd, .int .i64 m, .int .i64 k, .int .i64 n, .int .i64 f, .int .i64 c, .int .i64 pp] 51)).alloc (.cells #[.int .i64 0, .int .i64 0, .int .i64 0, .slice none 0 0] 33)) := ((Ext.refl w).alloc _).alloc _
   generalize World.alloc (World.alloc w _) _ = W at hres0 hreq0 hXW ⊢
   refine (HL.out W hXW).mono ?_
   rintro e w1 ⟨rfl, hx1⟩
   have HX1 : Hid (Ext w w1) := hXW.trans hx1
   have HRS : Hid _ := hx1.block hres0
   have HRQ : Hid _ := hx1.block hreq0
   clear hx1 hXW hres0 hreq0
   have r1 : w1.cell? ⟨w.heap.size, 1, none⟩ = some (.int .i64 s) := cell_at HRQ.out rfl
   have r2 : w1.cell? ⟨w.heap.size, 2, none⟩ = some (.int .i64 i) := cell_at HRQ.out rfl
   have r3 : w1.cell? ⟨w.heap.size, 3, none⟩ = some (.int .i64 kd) := cell_at HRQ.out rfl
   have r4 : w1.cell? ⟨w.heap.size, 4, none⟩ = some (.int .i64 m) := cell_at HRQ.out rfl
   have r5 : w1.cell? ⟨w.heap.size, 5, none⟩ = some (.int .i64 k) := cell_at HRQ.out rfl
   have r6 : w1.cell? ⟨w.heap.size, 6, none⟩ = some (.int .i64 n) := cell_at HRQ.out rfl
   have r8 : w1.cell? ⟨w.heap.size, 8, none⟩ = some (.int .i64 c) := cell_at HRQ.out rfl
   have hrl := lG w1 _ r1
   go_wp2_with fail
   refine (HFi.out _ HX1.out).mono ?_
   rintro e w2 ⟨rfl, hx2⟩
   have HRC : Hid _ := hx2.block HRS.out
   have HXC : Hid (Ext w w2) := HX1.out.trans hx2
   have r8 := hx2.cell r8
   clear hx2 HL HFi r1 r2 r3 r4 r5 r6
   by_cases hcl : c < 1
   ·go_wp2_with fail
    refine (HCo.out _).mono ?_
    rintro e w9 ⟨rfl, hx9⟩
    have hr9 := hx9.block HRC.out
    have o0 := cell_at hr9 (i := 0) rfl
    have o1 := cell_at hr9 (i := 1) rfl
    have o2 := cell_at hr9 (i := 2) rfl
    have o3 := cell_at hr9 (i := 3) rfl
    have f0 := frozen_row hr9 0
    have f1 := frozen_row hr9 1
    have f2 := frozen_row hr9 2
    have f3 := frozen_row hr9 3
    have HX9 : Hid (Ext w w9) := HXC.out.trans hx9
    clear hr9 hx9
    go_wp2
    refine bodyPost_ret (v := .tuple #[.pointer none, .agg #[.int .i64 5, .int .i64 0, .int .i64 0, .slice none 0 0]]) (by simp [results, Tryz.results177, go_sem, o0, o1, o2, o3]) rfl ⟨rfl, ?_⟩
    exact ext4 HX9.out (by omega) _ _ _ _
   ·have hc4 : 40 < c := by omega
    clear hcc
    go_wp2_with fail
    refine (HCo.out _).mono ?_
    rintro e w9 ⟨rfl, hx9⟩
    have hr9 := hx9.block HRC.out
    have o0 := cell_at hr9 (i := 0) rfl
    have o1 := cell_at hr9 (i := 1) rfl
    have o2 := cell_at hr9 (i := 2) rfl
    have o3 := cell_at hr9 (i := 3) rfl
    have f0 := frozen_row hr9 0
    have f1 := frozen_row hr9 1
    have f2 := frozen_row hr9 2
    have f3 := frozen_row hr9 3
    have HX9 : Hid (Ext w w9) := HXC.out.trans hx9
    clear hr9 hx9
    go_wp2
    refine bodyPost_ret (v := .tuple #[.pointer none, .agg #[.int .i64 5, .int .i64 0, .int .i64 0, .slice none 0 0]]) (by simp [results, Tryz.results177, go_sem, o0, o1, o2, o3]) rfl ⟨rfl, ?_⟩
    exact ext4 HX9.out (by omega) _ _ _ _
  ·rw [if_neg hcc] at HCo hcd ⊢
   have hc1 : ¬ c < 1 := by omega
   have hc2 : ¬ 40 < c := by omega
   clear hcc
   by_cases hfew : (tn : Int) - sl < c
   ·rw [if_pos hfew] at HCo hcd ⊢
    go_enter Tryz.func177, Tryz.ntmps177
    go_wp2_with fail
    have hres0 : ((w.alloc (.cells #[.int .i64 kk, .int .i64 s, .int .i64 i, .int .i64 kd, .int .i64 m, .int .i64 k, .int .i64 n, .int .i64 f, .int .i64 c, .int .i64 pp] 51)).alloc (.cells #[.int .i64 0, .int .i64 0, .int .i64 0, .slice none 0 0] 33)).heap[w.heap.size + 1]? = some (.cells #[.int .i64 0, .int .i64 0, .int .i64 0, .slice none 0 0] 33 (0, 0)) := at_new (by simp)
    have hreq0 : ((w.alloc (.cells #[.int .i64 kk, .int .i64 s, .int .i64 i, .int .i64 kd, .int .i64 m, .int .i64 k, .int .i64 n, .int .i64 f, .int .i64 c, .int .i64 pp] 51)).alloc (.cells #[.int .i64 0, .int .i64 0, .int .i64 0, .slice none 0 0] 33)).heap[w.heap.size]? = some (.cells #[.int .i64 kk, .int .i64 s, .int .i64 i, .int .i64 kd, .int .i64 m, .int .i64 k, .int .i64 n, .int .i64 f, .int .i64 c, .int .i64 pp] 51 (0, 0)) := at_old (heap_alloc_new _ _)
    have hXW : Ext w ((w.alloc (.cells #[.int .i64 kk, .int .i64 s, .int .i64 i, .int .i64 kd, .int .i64 m, .int .i64 k, .int .i64 n, .int .i64 f, .int .i64 c, .int .i64 pp] 51)).alloc (.cells #[.int .i64 0, .int .i64 0, .int .i64 0, .slice none 0 0] 33)) := ((Ext.refl w).alloc _).alloc _
    generalize World.alloc (World.alloc w _) _ = W at hres0 hreq0 hXW ⊢
    refine (HL.out W hXW).mono ?_
    rintro e w1 ⟨rfl, hx1⟩
    have HX1 : Hid (Ext w w1) := hXW.trans hx1
    have HRS : Hid _ := hx1.block hres0
    have HRQ : Hid _ := hx1.block hreq0
    clear hx1 hXW hres0 hreq0
    have r1 : w1.cell? ⟨w.heap.size, 1, none⟩ = some (.int .i64 s) := cell_at HRQ.out rfl
    have r2 : w1.cell? ⟨w.heap.size, 2, none⟩ = some (.int .i64 i) := cell_at HRQ.out rfl
    have r3 : w1.cell? ⟨w.heap.size, 3, none⟩ = some (.int .i64 kd) := cell_at HRQ.out rfl
    have r4 : w1.cell? ⟨w.heap.size, 4, none⟩ = some (.int .i64 m) := cell_at HRQ.out rfl
    have r5 : w1.cell? ⟨w.heap.size, 5, none⟩ = some (.int .i64 k) := cell_at HRQ.out rfl
    have r6 : w1.cell? ⟨w.heap.size, 6, none⟩ = some (.int .i64 n) := cell_at HRQ.out rfl
    have r8 : w1.cell? ⟨w.heap.size, 8, none⟩ = some (.int .i64 c) := cell_at HRQ.out rfl
    have hrl := lG w1 _ r1
    go_wp2_with fail
    refine (HFi.out _ HX1.out).mono ?_
    rintro e w2 ⟨rfl, hx2⟩
    have HRC : Hid _ := hx2.block HRS.out
    have HXC : Hid (Ext w w2) := HX1.out.trans hx2
    have r8 := hx2.cell r8
    have c0 := HXC.out.cell c0
    have c1 := HXC.out.cell c1
    have s0 := HXC.out.cell s0
    have s1 := HXC.out.cell s1
    have s2 := HXC.out.cell s2
    have s3 := HXC.out.cell s3
    have s4 := HXC.out.cell s4
    have s5 := HXC.out.cell s5
    have s6 := HXC.out.cell s6
    have hl2 := HXC.out.le
    have hrl2 := lG w2 _ r8
    clear hx2 HL HFi r1 r2 r3 r4 r5 r6
    go_wp2_with fail
    have HRC : Hid _ := at_old (o := .cells #[.int .i64 x0, .int .i64 x1, .int .i64 x2, .int .i64 x3, .slice ta tn tcap, .int .i64 sl, .int .i64 sg] 198) HRC.out
    have HXC : Hid (Ext w (w2.alloc (.cells #[.int .i64 x0, .int .i64 x1, .int .i64 x2, .int .i64 x3, .slice ta tn tcap, .int .i64 sl, .int .i64 sg] 198))) := HXC.out.alloc _
    refine (HCo.out _).mono ?_
    rintro e w9 ⟨rfl, hx9⟩
    have hr9 := hx9.block HRC.out
    have o0 := cell_at hr9 (i := 0) rfl
    have o1 := cell_at hr9 (i := 1) rfl
    have o2 := cell_at hr9 (i := 2) rfl
    have o3 := cell_at hr9 (i := 3) rfl
    have f0 := frozen_row hr9 0
    have f1 := frozen_row hr9 1
    have f2 := frozen_row hr9 2
    have f3 := frozen_row hr9 3
    have HX9 : Hid (Ext w w9) := HXC.out.trans hx9
    clear hr9 hx9
    go_wp2
    refine bodyPost_ret (v := .tuple #[.pointer none, .agg #[.int .i64 7, .int .i64 0, .int .i64 0, .slice none 0 0]]) (by simp [results, Tryz.results177, go_sem, o0, o1, o2, o3]) rfl ⟨rfl, ?_⟩
    exact ext4 HX9.out (by omega) _ _ _ _
   ·rw [if_neg hfew] at HCo hcd ⊢
    by_cases hfull : 30 <= len2
    ·rw [if_pos hfull] at HCo hcd ⊢
     go_enter Tryz.func177, Tryz.ntmps177
     go_wp2_with fail
     have hres0 : ((w.alloc (.cells #[.int .i64 kk, .int .i64 s, .int .i64 i, .int .i64 kd, .int .i64 m, .int .i64 k, .int .i64 n, .int .i64 f, .int .i64 c, .int .i64 pp] 51)).alloc (.cells #[.int .i64 0, .int .i64 0, .int .i64 0, .slice none 0 0] 33)).heap[w.heap.size + 1]? = some (.cells #[.int .i64 0, .int .i64 0, .int .i64 0, .slice none 0 0] 33 (0, 0)) := at_new (by simp)
     have hreq0 : ((w.alloc (.cells #[.int .i64 kk, .int .i64 s, .int .i64 i, .int .i64 kd, .int .i64 m, .int .i64 k, .int .i64 n, .int .i64 f, .int .i64 c, .int .i64 pp] 51)).alloc (.cells #[.int .i64 0, .int .i64 0, .int .i64 0, .slice none 0 0] 33)).heap[w.heap.size]? = some (.cells #[.int .i64 kk, .int .i64 s, .int .i64 i, .int .i64 kd, .int .i64 m, .int .i64 k, .int .i64 n, .int .i64 f, .int .i64 c, .int .i64 pp] 51 (0, 0)) := at_old (heap_alloc_new _ _)
     have hXW : Ext w ((w.alloc (.cells #[.int .i64 kk, .int .i64 s, .int .i64 i, .int .i64 kd, .int .i64 m, .int .i64 k, .int .i64 n, .int .i64 f, .int .i64 c, .int .i64 pp] 51)).alloc (.cells #[.int .i64 0, .int .i64 0, .int .i64 0, .slice none 0 0] 33)) := ((Ext.refl w).alloc _).alloc _
     generalize World.alloc (World.alloc w _) _ = W at hres0 hreq0 hXW ⊢
     refine (HL.out W hXW).mono ?_
     rintro e w1 ⟨rfl, hx1⟩
     have HX1 : Hid (Ext w w1) := hXW.trans hx1
     have HRS : Hid _ := hx1.block hres0
     have HRQ : Hid _ := hx1.block hreq0
     clear hx1 hXW hres0 hreq0
     have r1 : w1.cell? ⟨w.heap.size, 1, none⟩ = some (.int .i64 s) := cell_at HRQ.out rfl
     have r2 : w1.cell? ⟨w.heap.size, 2, none⟩ = some (.int .i64 i) := cell_at HRQ.out rfl
     have r3 : w1.cell? ⟨w.heap.size, 3, none⟩ = some (.int .i64 kd) := cell_at HRQ.out rfl
     have r4 : w1.cell? ⟨w.heap.size, 4, none⟩ = some (.int .i64 m) := cell_at HRQ.out rfl
     have r5 : w1.cell? ⟨w.heap.size, 5, none⟩ = some (.int .i64 k) := cell_at HRQ.out rfl
     have r6 : w1.cell? ⟨w.heap.size, 6, none⟩ = some (.int .i64 n) := cell_at HRQ.out rfl
     have r8 : w1.cell? ⟨w.heap.size, 8, none⟩ = some (.int .i64 c) := cell_at HRQ.out rfl
     have hrl := lG w1 _ r1
     go_wp2_with fail
     refine (HFi.out _ HX1.out).mono ?_
     rintro e w2 ⟨rfl, hx2⟩
     have HRC : Hid _ := hx2.block HRS.out
     have HXC : Hid (Ext w w2) := HX1.out.trans hx2
     have r8 := hx2.cell r8
     have c0 := HXC.out.cell c0
     have c1 := HXC.out.cell c1
     have s0 := HXC.out.cell s0
     have s1 := HXC.out.cell s1
     have s2 := HXC.out.cell s2
     have s3 := HXC.out.cell s3
     have s4 := HXC.out.cell s4
     have s5 := HXC.out.cell s5
     have s6 := HXC.out.cell s6
     have hl2 := HXC.out.le
     have hpl2 : p < w2.heap.size := lG w2 _ c1
     have hrl2 := lG w2 _ r8
     clear hx2 HL HFi r1 r2 r3 r4 r5 r6
     go_wp2_with fail
     have HRC : Hid _ := at_old (o := .cells #[.int .i64 x0, .int .i64 x1, .int .i64 x2, .int .i64 x3, .slice ta tn tcap, .int .i64 sl, .int .i64 sg] 198) HRC.out
     have HXC : Hid (Ext w (w2.alloc (.cells #[.int .i64 x0, .int .i64 x1, .int .i64 x2, .int .i64 x3, .slice ta tn tcap, .int .i64 sl, .int .i64 sg] 198))) := HXC.out.alloc _
     refine (HCo.out _).mono ?_
     rintro e w9 ⟨rfl, hx9⟩
     have hr9 := hx9.block HRC.out
     have o0 := cell_at hr9 (i := 0) rfl
     have o1 := cell_at hr9 (i := 1) rfl
     have o2 := cell_at hr9 (i := 2) rfl
     have o3 := cell_at hr9 (i := 3) rfl
     have f0 := frozen_row hr9 0
     have f1 := frozen_row hr9 1
     have f2 := frozen_row hr9 2
     have f3 := frozen_row hr9 3
     have HX9 : Hid (Ext w w9) := HXC.out.trans hx9
     clear hr9 hx9
     go_wp2
     refine bodyPost_ret (v := .tuple #[.pointer none, .agg #[.int .i64 4, .int .i64 0, .int .i64 0, .slice none 0 0]]) (by simp [results, Tryz.results177, go_sem, o0, o1, o2, o3]) rfl ⟨rfl, ?_⟩
     exact ext4 HX9.out (by omega) _ _ _ _
    ·rw [if_neg hfull] at hcd
     exact absurd rfl hcd
end
-- HLy
section
set_option maxRecDepth 100000
set_option maxHeartbeats 3200000
open Go.RowKit Go.Maps
def Stk.lend (x : Stk) (c : Nat) : Stk := { x with leased := x.leased + c }
theorem flat_set {css : List (List Value)} (h7 : ∀ c ∈ css, c.length = 7) (j : Nat) (i : Nat) (hi : i < 7) {cs : List Value} (hcs : css[j]? = some cs) (v : Value) : (css.set j (cs.set i v)).flatten = css.flatten.set (j * 7 + i) v := by
 induction css generalizing j with
 | nil => simp at hcs
 | cons c t ih =>
  have hc := h7 c (by simp)
  cases j with
  | zero =>
   simp at hcs
   subst hcs
   simp [List.set_append_left _ _ (show i < c.length by omega)]
  | succ j =>
   simp at hcs
   rw [lF, List.flatten_cons, List.flatten_cons, List.set_append_right _ _ (by omega), hc, show (j + 1) * 7 + i - 7 = j * 7 + i by omega, ih (fun c hc => h7 c (by simp [hc])) j hcs]
theorem css_seven {css : List (List Value)} {S : List Stk} {w : World} {G : Nat -> Prop} (hl : css.length = S.length) (h : ∀ i (h : i < S.length), ∃ cs, css[i]? = some cs /\ RefStk w G S[i] cs) : ∀ c ∈ css, c.length = 7 := fun c hc => by
 obtain ⟨q, hq, rfl⟩ := List.getElem_of_mem hc
 obtain ⟨cs', k1, tv, vs, k2, _⟩ := h q (by omega)
 rw [List.getElem?_eq_getElem hq] at k1
 injection k1 with k1
 rw [k1, k2]; rfl
theorem refLeasing_c {G : Nat -> Prop} (p ix c : Nat) (S : List Stk) (ls : List LsV) (kk s i kd m k n f pp : Int) (hS : S.length <= 100) (hSm : ∀ x ∈ S, x.ts.length <= 1000 /\ x.leased <= 1000) (hls : ls.length <= 900) (hf : ls.findIdx? (isNamed s i) = none) (hix : ix < S.length) (hfx : S.findIdx? (fun x => x.is kd m k n) = some ix) (hcd : leaseCodeS S ls kd m k n c = 0) (w : World) (hGl : ∀ b, G b -> b < w.heap.size) (h : RefAt w G p S ls) :
  Calls Tryz.prog 177 #[.pointer (some ⟨p, 0, none⟩), reqV kk s i kd m k n f c pp] w fun e w' => ∃ q, e = .returned (.tuple #[.pointer (some ⟨q, 0, none⟩), replyV 0 S[ix].leased c (.slice none 0 0)]) /\ RefAt w' (grow G w w') q (S.set ix (S[ix].lend c)) (ls ++ [⟨s, i, kd, m, k, n, S[ix].leased, c, false⟩]) /\ Ext w w' := by
 obtain ⟨hcc, hfew, hfull⟩ : ¬ ((c : Int) < 1 \/ 40 < (c : Int)) /\ ¬ ((S[ix].ts.length : Int) - S[ix].leased < c) /\ ¬ 30 <= ls.length := by
  obtain ⟨_, hfi⟩ := find_idx hfx
  unfold leaseCodeS at hcd
  rw [hfi] at hcd
  simp only at hcd
  split at hcd
  ·simp at hcd
  ·rename_i h1
   split at hcd
   ·simp at hcd
   ·rename_i h2
    split at hcd
    ·simp at hcd
    ·rename_i h3
     exact ⟨h1, h2, h3⟩
 have hc1 : ¬ (c : Int) < 1 := by omega
 have hc2 : ¬ 40 < (c : Int) := by omega
 clear hcc hcd
 have HL : Hid (∀ w', Ext w w' -> Calls Tryz.prog 187 #[.pointer (some ⟨p, 0, none⟩), .int .i64 s, .int .i64 i] w' fun e w'' => e = .returned (.int .i64 (-1)) /\ Ext w' w'') := fun w' hx => by
  have := refLease_c p S ls s i (by omega) w' (h.ext hx)
  rw [hf] at this
  exact this
 have HFi : Hid (∀ w', Ext w w' -> Calls Tryz.prog 147 #[.pointer (some ⟨p, 0, none⟩), .agg #[.int .i64 kd, .int .i64 m, .int .i64 k, .int .i64 n]] w' fun e w'' => e = .returned (.int .i64 (ix : Int)) /\ Ext w' w'') := fun w' hx => by
  have := refFind_c p S ls kd m k n hS w' (h.ext hx)
  rw [hfx] at this
  exact this
 have HCp : Hid (∀ w', Ext w w' -> _) := fun w' hx => refCopy_c p S ls hS (by omega) w' (h.ext hx)
 obtain ⟨stv, lsv, css0, h1, h2, h3, h4, h5, h6⟩ := h
 have c0 : w.cell? ⟨p, 0, none⟩ = some stv := cell_at h1 rfl
 have c1 : w.cell? ⟨p, 1, none⟩ = some lsv := cell_at h1 rfl
 obtain ⟨la, lcap, rfl⟩ := h6.slice
 have hp : p < w.heap.size := lG w _ c1
 obtain ⟨g, cap, ta, tcap, vs, rfl, hcap, _, ⟨s0, s1, s2, s3, s4, s5, s6⟩, q1, q2, q3⟩ := stock_row h3 h4 h5 ix hix
 clear q1 q2 q3
 obtain ⟨hm1, hm2⟩ := hSm S[ix] (List.getElem_mem hix)
 have hgl := lG w _ s0
 obtain ⟨len, hlen⟩ : ∃ len, S.length = len := ⟨_, rfl⟩
 obtain ⟨len2, hlen2⟩ : ∃ len, ls.length = len := ⟨_, rfl⟩
 obtain ⟨sl, hsl⟩ : ∃ sl, S[ix].leased = sl := ⟨_, rfl⟩
 have HE : Hid (S.length = len /\ ls.length = len2 /\ S[ix].leased = sl) := ⟨hlen, hlen2, hsl⟩
 have HIX : Hid (ix < S.length) := hix
 have HG : Hid (∀ b, G b -> b < w.heap.size) := hGl
 rw [hlen] at c0 hcap hix hS
 rw [hlen2] at c1 hls hfull
 rw [hsl] at s5 hfew hm2
 have hk0 : (0 : Int) <= (ix : Int) := by omega
 have hk1 : (ix : Int) < len := by omega
 clear hf hfx h1 h2 h3 h4 h5 h6 hlen hlen2 hSm hsl hGl
 generalize S[ix].gone = sg at *
 generalize S[ix].ts.length = tn at *
 generalize (S[ix].kd : Int) = x0 at *
 generalize (S[ix].m : Int) = x1 at *
 generalize (S[ix].k : Int) = x2 at *
 generalize (S[ix].n : Int) = x3 at *
 unfold replyV
 unfold reqV
 go_enter Tryz.func177, Tryz.ntmps177
 go_wp2_with fail
 have hres0 : ((w.alloc (.cells #[.int .i64 kk, .int .i64 s, .int .i64 i, .int .i64 kd, .int .i64 m, .int .i64 k, .int .i64 n, .int .i64 f, .int .i64 c, .int .i64 pp] 51)).alloc (.cells #[.int .i64 0, .int .i64 0, .int .i64 0, .slice none 0 0] 33)).heap[w.heap.size + 1]? = some (.cells #[.int .i64 0, .int .i64 0, .int .i64 0, .slice none 0 0] 33 (0, 0)) := at_new (by simp)
 have hreq0 : ((w.alloc (.cells #[.int .i64 kk, .int .i64 s, .int .i64 i, .int .i64 kd, .int .i64 m, .int .i64 k, .int .i64 n, .int .i64 f, .int .i64 c, .int .i64 pp] 51)).alloc (.cells #[.int .i64 0, .int .i64 0, .int .i64 0, .slice none 0 0] 33)).heap[w.heap.size]? = some (.cells #[.int .i64 kk, .int .i64 s, .int .i64 i, .int .i64 kd, .int .i64 m, .int .i64 k, .int .i64 n, .int .i64 f, .int .i64 c, .int .i64 pp] 51 (0, 0)) := at_old (heap_alloc_new _ _)
 have hXW : Ext w ((w.alloc (.cells #[.int .i64 kk, .int .i64 s, .int .i64 i, .int .i64 kd, .int .i64 m, .int .i64 k, .int .i64 n, .int .i64 f, .int .i64 c, .int .i64 pp] 51)).alloc (.cells #[.int .i64 0, .int .i64 0, .int .i64 0, .slice none 0 0] 33)) := ((Ext.refl w).alloc _).alloc _
 generalize World.alloc (World.alloc w _) _ = W at hres0 hreq0 hXW ⊢
 refine (HL.out W hXW).mono ?_
 rintro e w1 ⟨rfl, hx1⟩
 have HX1 : Hid (Ext w w1) := hXW.trans hx1
 have HRS : Hid _ := hx1.block hres0
 have HRQ : Hid _ := hx1.block hreq0
 clear hx1 hXW hres0 hreq0
 have r1 : w1.cell? ⟨w.heap.size, 1, none⟩ = some (.int .i64 s) := cell_at HRQ.out rfl
 have r2 : w1.cell? ⟨w.heap.size, 2, none⟩ = some (.int .i64 i) := cell_at HRQ.out rfl
 have r3 : w1.cell? ⟨w.heap.size, 3, none⟩ = some (.int .i64 kd) := cell_at HRQ.out rfl
 have r4 : w1.cell? ⟨w.heap.size, 4, none⟩ = some (.int .i64 m) := cell_at HRQ.out rfl
 have r5 : w1.cell? ⟨w.heap.size, 5, none⟩ = some (.int .i64 k) := cell_at HRQ.out rfl
 have r6 : w1.cell? ⟨w.heap.size, 6, none⟩ = some (.int .i64 n) := cell_at HRQ.out rfl
 have r8 : w1.cell? ⟨w.heap.size, 8, none⟩ = some (.int .i64 c) := cell_at HRQ.out rfl
 have hrl := lG w1 _ r1
 go_wp2_with fail
 refine (HFi.out _ HX1.out).mono ?_
 rintro e w2 ⟨rfl, hx2⟩
 have HR2 : Hid _ := hx2.block HRS.out
 have HQ2 : Hid _ := hx2.block HRQ.out
 have HX2 : Hid (Ext w w2) := HX1.out.trans hx2
 have r8 := hx2.cell r8
 have c0 := HX2.out.cell c0
 have c1 := HX2.out.cell c1
 have s0 := HX2.out.cell s0
 have s1 := HX2.out.cell s1
 have s2 := HX2.out.cell s2
 have s3 := HX2.out.cell s3
 have s4 := HX2.out.cell s4
 have s5 := HX2.out.cell s5
 have s6 := HX2.out.cell s6
 have hl2 := HX2.out.le
 have hrl2 := lG w2 _ r8
 have hpl2 : p < w2.heap.size := lG w2 _ c1
 clear hx2 HL HFi r1 r2 r3 r4 r5 r6
 go_wp2_with fail
 have hz2 : (w2.alloc (.cells #[.int .i64 x0, .int .i64 x1, .int .i64 x2, .int .i64 x3, .slice ta tn tcap, .int .i64 sl, .int .i64 sg] 198)).heap[w2.heap.size]? = some (.cells #[.int .i64 x0, .int .i64 x1, .int .i64 x2, .int .i64 x3, .slice ta tn tcap, .int .i64 sl, .int .i64 sg] 198 (0, 0)) := heap_alloc_new _ _
 refine (HCp.out _ (HX2.out.alloc _)).mono ?_
 rintro e w3 ⟨q, v1, v2, css, rfl, q1, q2, q3, q4, q5, q6, hx3, q7, q8⟩
 obtain ⟨zb, hzb⟩ : ∃ zb, w2.heap.size = zb := ⟨_, rfl⟩
 have HZ3 : Hid (w3.heap[zb]? = some (.cells #[.int .i64 x0, .int .i64 x1, .int .i64 x2, .int .i64 x3, .slice ta tn tcap, .int .i64 sl, .int .i64 sg] 198 (0, 0))) := by rw [<- hzb]; exact hx3.block hz2
 have HR3 : Hid (w3.heap[w.heap.size + 1]? = some (.cells #[.int .i64 0, .int .i64 0, .int .i64 0, .slice none 0 0] 33 (0, 0))) := hx3.block (at_old HR2.out)
 have HQ3 : Hid (w3.heap[w.heap.size]? = some (.cells #[.int .i64 kk, .int .i64 s, .int .i64 i, .int .i64 kd, .int .i64 m, .int .i64 k, .int .i64 n, .int .i64 f, .int .i64 c, .int .i64 pp] 51 (0, 0))) := hx3.block (at_old HQ2.out)
 have HX3 : Hid (Ext w w3) := (HX2.out.alloc _).trans hx3
 simp only [World.alloc, Array.size_push] at q2 q3 q6
 rw [HE.out.1] at q2 q7
 rw [HE.out.2.1] at q3 q8
 rw [hzb] at q2 q3 q6 hl2 hpl2 hrl2 ⊢
 clear hx3 hz2 c0 c1 s0 s1 s2 s3 s4 s5 s6 r8 HR2 HQ2
 obtain ⟨g1, cap1, rfl, hg1w, hcap1, _⟩ : ∃ g cap, v1 = .slice (some ⟨g, 0, none⟩) len cap /\ zb + 1 <= g /\ len <= cap /\ cap <= maxLen := by
  rcases owns_form q2 with ⟨_, hn, _⟩ | h
  ·omega
  ·exact h
 obtain ⟨v2a, v2c, hv2⟩ := owns_slice q3
 have y0 : w3.cell? ⟨q, 0, none⟩ = some (.slice (some ⟨g1, 0, none⟩) len cap1) := cell_at q1 rfl
 have hixE : ix < S.length := HIX.out
 have q5' : ∀ i (h : i < S.length), ∃ cs, css[i]? = some cs /\ RefStk w3 G S[i] cs := fun i hi => q5 i hi
 obtain ⟨cs, hcs, tv, tvs, hcsE, htv⟩ := q5' ix hixE
 have HTV : Hid _ := htv
 clear htv
 have b5 : w3.cell? ⟨g1, ix * 7 + 5, none⟩ = some (.int .i64 sl) := owns_cell q2 ((flat_at q4 q5' ix hixE 5 (by omega) hcs).trans (by rw [hcsE, HE.out.2.2]; rfl))
 have hcsE5 : cs.set 5 (.int .i64 ((sl + c : Nat) : Int)) = [.int .i64 (S[ix].lend c).kd, .int .i64 (S[ix].lend c).m, .int .i64 (S[ix].lend c).k, .int .i64 (S[ix].lend c).n, tv, .int .i64 (S[ix].lend c).leased, .int .i64 (S[ix].lend c).gone] := by
  rw [hcsE]
  simp [Stk.lend, HE.out.2.2, Stk.gone]
 have f5 : w3.frozen? ⟨g1, ix * 7 + 5, none⟩ = false := by
  obtain ⟨cur, hc⟩ := owns_block q2 (g := g1) rfl
  exact frozen_row hc _
 have hg1l := lG w3 _ b5
 have hql := lG w3 _ y0
 have r8 : w3.cell? ⟨w.heap.size, 8, none⟩ = some (.int .i64 c) := cell_at HQ3.out rfl
 have z5 : w3.cell? ⟨zb, 5, none⟩ = some (.int .i64 sl) := cell_at HZ3.out rfl
 have hne1 : g1 ≠ q := by
  obtain ⟨cur, hc⟩ := owns_block q2 (g := g1) rfl
  exact fun e => type_ne q1 hc (by decide) e.symm
 have HCS : Hid _ := And.intro hcs hcsE5
 have HQQ : Hid _ := And.intro q1 (And.intro q2 (And.intro q3 (And.intro q4 (And.intro q5' (And.intro q7 q8)))))
 clear q1 q2 q3 q4 q5 q5' q7 q8 hcs hcsE hcsE5
 go_wp2_with fail
 go_region
 obtain ⟨i0, hi, hz0, hz1, hz2⟩ := info_parts infoLease
 have hT34 : Turn (fun b => b = g1) w3 ((w3.setCell ⟨g1, ix * 7 + 5, none⟩ (.int .i64 ((sl : Int) + c))).drew) := Turn.drew (Turn.setCell (S := fun b => b = g1) (p := ⟨g1, ix * 7 + 5, none⟩) (Turn.refl _ w3) (fun _ => rfl) _)
 have hO1 : ((w3.setCell ⟨g1, ix * 7 + 5, none⟩ (.int .i64 ((sl : Int) + c))).drew).ownsRow (zb + 1) 198 7 (.slice (some ⟨g1, 0, none⟩) len cap1) len (css.set ix (cs.set 5 (.int .i64 ((sl + c : Nat) : Int)))).flatten := by
  rw [flat_set (css_seven HQQ.out.2.2.2.1 HQQ.out.2.2.2.2.1) ix 5 (by omega) HCS.out.1]
  exact World.ownsRow.drew (owns_set HQQ.out.2.1 _ _)
 generalize World.drew (World.setCell w3 _ _) = w4 at hT34 hO1 ⊢
 obtain ⟨cur1, hcur1⟩ := owns_block HQQ.out.2.1 (g := g1) rfl
 have HB4 : Hid (w4.heap[q]? = some (.cells #[.slice (some ⟨g1, 0, none⟩) len cap1, v2] 98 (0, 0))) := hT34.ref HQQ.out.1 (fun e => hne1 e.symm)
 have HV4 : Hid (w4.ownsRow (zb + 1) 56 9 v2 len2 (lsCells ls)) := hT34.owns HQQ.out.2.2.1 (fun b hb e => by
  obtain ⟨cur', hc'⟩ := owns_block HQQ.out.2.2.1 hb
  exact type_ne hc' hcur1 (by decide) e)
 have HR4 : Hid (w4.heap[w.heap.size + 1]? = some (.cells #[.int .i64 0, .int .i64 0, .int .i64 0, .slice none 0 0] 33 (0, 0))) := hT34.ref HR3.out (fun e => type_ne HR3.out hcur1 (by decide) e)
 have HQ4 : Hid (w4.heap[w.heap.size]? = some (.cells #[.int .i64 kk, .int .i64 s, .int .i64 i, .int .i64 kd, .int .i64 m, .int .i64 k, .int .i64 n, .int .i64 f, .int .i64 c, .int .i64 pp] 51 (0, 0))) := hT34.ref HQ3.out (fun e => type_ne HQ3.out hcur1 (by decide) e)
 have HZ4 : Hid (w4.heap[zb]? = some (.cells #[.int .i64 x0, .int .i64 x1, .int .i64 x2, .int .i64 x3, .slice ta tn tcap, .int .i64 sl, .int .i64 sg] 198 (0, 0))) := hT34.ref HZ3.out (fun e => by omega)
 have HT34 : Hid _ := hT34
 have HO1 : Hid _ := hO1
 have r1 : w4.cell? ⟨w.heap.size, 1, none⟩ = some (.int .i64 s) := cell_at HQ4.out rfl
 have r2 : w4.cell? ⟨w.heap.size, 2, none⟩ = some (.int .i64 i) := cell_at HQ4.out rfl
 have r3 : w4.cell? ⟨w.heap.size, 3, none⟩ = some (.int .i64 kd) := cell_at HQ4.out rfl
 have r4 : w4.cell? ⟨w.heap.size, 4, none⟩ = some (.int .i64 m) := cell_at HQ4.out rfl
 have r5 : w4.cell? ⟨w.heap.size, 5, none⟩ = some (.int .i64 k) := cell_at HQ4.out rfl
 have r6 : w4.cell? ⟨w.heap.size, 6, none⟩ = some (.int .i64 n) := cell_at HQ4.out rfl
 have r8 : w4.cell? ⟨w.heap.size, 8, none⟩ = some (.int .i64 c) := cell_at HQ4.out rfl
 have z5 : w4.cell? ⟨zb, 5, none⟩ = some (.int .i64 sl) := cell_at HZ4.out rfl
 have hql4 : q < w4.heap.size := (Array.getElem?_eq_some_iff.1 HB4.out).1
 have hzl4 := lG w4 _ z5
 have hsz4 := hT34.size
 have HN2 : Hid (∀ b, v2.ownBlock = some b -> b ≠ w.heap.size /\ b ≠ zb /\ b ≠ q /\ zb + 1 <= b /\ b ≠ g1 /\ b ≠ w.heap.size + 1) := fun b hb => by
  obtain ⟨cur', hc'⟩ := owns_block HV4.out hb
  have hb1 := (World.ownsRow.lt HV4.out b hb).1
  obtain ⟨cur1', hcur1'⟩ := owns_block HO1.out (g := g1) rfl
  exact ⟨by omega, by omega, type_ne hc' HB4.out (by decide), hb1, type_ne hc' hcur1' (by decide), by omega⟩
 have y1 : w4.cell? ⟨q, 1, none⟩ = some v2 := cell_at HB4.out rfl
 clear hT34 hO1 b5 f5 y0 hcur1 HRS HRQ
 subst hv2
 go_wp2_with fail
 have SD : Hid (∀ w', Turn (fun b => lH (.slice v2a len2 v2c) = some b) w4 w' -> (fun w' => w'.cell? ⟨w.heap.size, 1, none⟩ = some (.int .i64 s) /\ w'.cell? ⟨w.heap.size, 2, none⟩ = some (.int .i64 i) /\ w'.cell? ⟨w.heap.size, 3, none⟩ = some (.int .i64 kd) /\ w'.cell? ⟨w.heap.size, 4, none⟩ = some (.int .i64 m) /\ w'.cell? ⟨w.heap.size, 5, none⟩ = some (.int .i64 k) /\ w'.cell? ⟨w.heap.size, 6, none⟩ = some (.int .i64 n) /\ w'.cell? ⟨w.heap.size, 8, none⟩ = some (.int .i64 c) /\ w'.cell? ⟨zb, 5, none⟩ = some (.int .i64 sl)) w') := fun w' hx => by
  have f0 : ¬ lH (.slice v2a len2 v2c) = some w.heap.size := fun e => (HN2.out _ e).1 rfl
  have f1 : ¬ lH (.slice v2a len2 v2c) = some zb := fun e => (HN2.out _ e).2.1 rfl
  exact ⟨hx.cell r1 f0, hx.cell r2 f0, hx.cell r3 f0, hx.cell r4 f0, hx.cell r5 f0, hx.cell r6 f0, hx.cell r8 f0, hx.cell z5 f1⟩
 refine wp_region_held_drew (S := (fun w' => w'.cell? ⟨w.heap.size, 1, none⟩ = some (.int .i64 s) /\ w'.cell? ⟨w.heap.size, 2, none⟩ = some (.int .i64 i) /\ w'.cell? ⟨w.heap.size, 3, none⟩ = some (.int .i64 kd) /\ w'.cell? ⟨w.heap.size, 4, none⟩ = some (.int .i64 m) /\ w'.cell? ⟨w.heap.size, 5, none⟩ = some (.int .i64 k) /\ w'.cell? ⟨w.heap.size, 6, none⟩ = some (.int .i64 n) /\ w'.cell? ⟨w.heap.size, 8, none⟩ = some (.int .i64 c) /\ w'.cell? ⟨zb, 5, none⟩ = some (.int .i64 sl))) (by kernel_rfl) ⟨r1, r2, r3, r4, r5, r6, r8, z5⟩ (fun hHeld => ?_)
 refine wpAnyH_take (i := 0) (oi := _) (v := ?v0) rfl (by kernel_rfl) (by kernel_rfl) (by kernel_rfl) (fun _ _ _ h => h) (Or.inl ⟨by rfl, ?hy⟩) hHeld ?_
 case hy => (intro w hSw; (try dsimp only at hSw); go_simp; try with_reducible rfl)
 try simp only [Act.put, lA, lC, lD, lE, lF]
 refine wpAnyH_take (i := 1) (oi := _) (v := ?v1) rfl (by kernel_rfl) (by kernel_rfl) (by kernel_rfl) (fun _ _ _ h => h) (Or.inl ⟨by rfl, ?hy⟩) hHeld ?_
 case hy => (intro w hSw; (try dsimp only at hSw); go_simp; try with_reducible rfl)
 try simp only [Act.put, lA, lB, lC, lD, lE, lF]
 refine wpAnyH_take (i := 2) (oi := _) (v := ?v2) rfl (by kernel_rfl) (by kernel_rfl) (by kernel_rfl) (fun _ _ _ h => h) (Or.inl ⟨by rfl, ?hy⟩) hHeld ?_
 case hy => (intro w hSw; (try dsimp only at hSw); go_simp; try with_reducible rfl)
 try simp only [Act.put, lA, lB, lC, lD, lE, lF]
 refine wpAnyH_take (i := 3) (oi := _) (v := ?v3) rfl (by kernel_rfl) (by kernel_rfl) (by kernel_rfl) (fun _ _ _ h => h) (Or.inl ⟨by rfl, ?hy⟩) hHeld ?_
 case hy => (intro w hSw; (try dsimp only at hSw); go_simp; try with_reducible rfl)
 try simp only [Act.put, lA, lB, lC, lD, lE, lF]
 refine wpAnyH_take (i := 5) (oi := _) (v := ?v5) rfl (by kernel_rfl) (by kernel_rfl) (by kernel_rfl) (fun _ _ _ h => h) (Or.inl ⟨by rfl, ?hy⟩) hHeld ?_
 case hy => (intro w hSw; (try dsimp only at hSw); go_simp; try with_reducible rfl)
 try simp only [Act.put, lA, lB, lC, lD, lE, lF]
 refine wpAnyH_take (i := 6) (oi := _) (v := ?v6) rfl (by kernel_rfl) (by kernel_rfl) (by kernel_rfl) (fun _ _ _ h => h) (Or.inl ⟨by rfl, ?hy⟩) hHeld ?_
 case hy => (intro w hSw; (try dsimp only at hSw); go_simp; try with_reducible rfl)
 try simp only [Act.put, lA, lB, lC, lD, lE, lF]
 refine wpAnyH_take (i := 7) (oi := _) (v := ?v7) rfl (by kernel_rfl) (by kernel_rfl) (by kernel_rfl) (fun _ _ _ h => h) (Or.inl ⟨by rfl, ?hy⟩) hHeld ?_
 case hy => (intro w hSw; (try dsimp only at hSw); go_simp; try with_reducible rfl)
 try simp only [Act.put, lA, lB, lC, lD, lE, lF]
 refine wpAnyH_take (i := 8) (oi := _) (v := ?v8) rfl (by kernel_rfl) (by kernel_rfl) (by kernel_rfl) (fun _ _ _ h => h) (Or.inl ⟨by rfl, ?hy⟩) hHeld ?_
 case hy => (intro w hSw; (try dsimp only at hSw); go_simp; try with_reducible rfl)
 try simp only [Act.put, lA, lB, lC, lD, lE, lF]
 refine wpAnyH_take (i := 9) (oi := _) (v := ?v9) rfl (by kernel_rfl) (by kernel_rfl) (by kernel_rfl) (fun _ _ _ h => h) (Or.inl ⟨by rfl, ?hy⟩) hHeld ?_
 case hy => (intro w hSw; (try dsimp only at hSw); go_simp; try with_reducible rfl)
 try simp only [Act.put, lA, lB, lC, lD, lE, lF]
 refine wpAnyH_take (i := 10) (oi := _) (v := ?v10) rfl (by kernel_rfl) (by kernel_rfl) (by kernel_rfl) (fun _ _ _ h => h) (Or.inl ⟨by rfl, ?hy⟩) hHeld ?_
 case hy => (intro w hSw; (try dsimp only at hSw); go_simp; try with_reducible rfl)
 try simp only [Act.put, lA, lB, lC, lD, lE, lF]
 refine wpAnyH_take (i := 11) (oi := _) (v := ?v11) rfl (by kernel_rfl) (by kernel_rfl) (by kernel_rfl) (fun _ _ _ h => h) (Or.inl ⟨by rfl, ?hy⟩) hHeld ?_
 case hy => (intro w hSw; (try dsimp only at hSw); go_simp; try with_reducible rfl)
 try simp only [Act.put, lA, lB, lC, lD, lE, lF]
 refine wpAnyH_take (i := 12) (oi := _) (v := ?v12) rfl (by kernel_rfl) (by kernel_rfl) (by kernel_rfl) (fun _ _ _ h => h) (Or.inl ⟨by rfl, ?hy⟩) hHeld ?_
 case hy => (intro w hSw; (try dsimp only at hSw); go_simp; try with_reducible rfl)
 try simp only [Act.put, lA, lB, lC, lD, lE, lF]
 refine wpAnyH_take (i := 13) (oi := _) (v := ?v13) rfl (by kernel_rfl) (by kernel_rfl) (by kernel_rfl) (fun _ _ _ h => h) (Or.inl ⟨by rfl, ?hy⟩) hHeld ?_
 case hy => (intro w hSw; (try dsimp only at hSw); go_simp; try with_reducible rfl)
 try simp only [Act.put, lA, lB, lC, lD, lE, lF]
 refine wpAnyH_take (i := 14) (oi := _) (v := ?v14) rfl (by kernel_rfl) (by kernel_rfl) (by kernel_rfl) (fun _ _ _ h => h) (Or.inl ⟨by rfl, ?hy⟩) hHeld ?_
 case hy => (intro w hSw; (try dsimp only at hSw); go_simp; try with_reducible rfl)
 try simp only [Act.put, lA, lB, lC, lD, lE, lF]
 refine wpAnyH_take (i := 15) (oi := _) (v := ?v15) rfl (by kernel_rfl) (by kernel_rfl) (by kernel_rfl) (fun _ _ _ h => h) (Or.inl ⟨by rfl, ?hy⟩) hHeld ?_
 case hy => (intro w hSw; (try dsimp only at hSw); go_simp; try with_reducible rfl)
 try simp only [Act.put, lA, lB, lC, lD, lE, lF]
 refine wpAnyH_ready (rs := [4, 16]) (by kernel_rfl) (by simp) ?_
 refine AllReadyH.cons (o := _) rfl (fun K hK => ?_) (AllReadyH.cons (o := _) rfl (fun K hK => ?_) AllReadyH.nil)
 ·skip
  (try simp only [lA, lB, lC])
  go_simp
  refine hK.out _ _ ?hs1 (fun hHeld => ?_)
  case hs1 => exact SD.out _ (Turn.of_ext (Ext.drew (Ext.refl _)))
  clear hK K
  try simp only [Act.put, lA, lB, lC, lD, lE, lF]
  refine wpAnyH_ready (rs := [16]) (by kernel_rfl) (by simp) ?_
  refine AllReadyH.cons (o := _) rfl (fun K hK => ?_) AllReadyH.nil
  (try simp only [lA, lB, lC])
  go_simp
  refine hK.out _ _ ?hs2 (fun hHeld => ?_)
  case hs2 => exact SD.out _ (Turn.of_ext (Ext.drew (Ext.alloc (Ext.refl _) _)))
  clear hK K
  try simp only [Act.put, lA, lB, lC, lD, lE, lF]
  refine wpAnyH_ready (rs := [17]) (by kernel_rfl) (by simp) ?_
  refine AllReadyH.cons (o := _) rfl (fun K hK => ?_) AllReadyH.nil
  refine step_append_lies _ (by rfl) _ _ 38 (by rfl) (zb + 1) 56 i0 _ 9 72 Tryz.underlying38 hi hz0 hz1 hz2 (by rfl) (by decide) (.slice v2a len2 v2c) len2 (lsCells ls) (by rfl) (Ext.owns (Ext.drew (Ext.alloc (Ext.refl _) _)) HV4.out) ⟨_, 0, none⟩ 1 1 (LsV.cells ⟨s, i, kd, m, k, n, sl, c, false⟩) (by rfl) (by rfl) (World.news_of_block (at_drew (heap_alloc_new _ _))) (by simp [Value.oneCell', LsV.cells]) (by decide) (by unfold maxLen; omega) (by omega) (Nat.le_trans (show zb + 1 <= w4.heap.size by omega) (Ext.le (Ext.drew (Ext.alloc (Ext.refl _) _)))) _ rfl ?_
  intro g cap w5 hown5 hgrow5 hat5 hlt5
  have HT5 : Hid (Turn (fun b => lH (.slice v2a len2 v2c) = some b) w4 w5) := Turn.grown (Turn.of_ext (Ext.drew (Ext.alloc (Ext.refl _) _))) hgrow5 (fun q hq _ => hq)
  have HOW : Hid (w5.ownsRow (zb + 1) 56 9 (.slice (some ⟨g, 0, none⟩) (len2 + 1) cap) (len2 + 1) ((lsCells ls) ++ (LsV.cells ⟨s, i, kd, m, k, n, sl, c, false⟩))) := hown5
  have HAT : Hid (lH (.slice v2a len2 v2c) = some g \/ w4.heap.size <= g) := by
   rcases hat5 with h | h
   ·exact .inl h
   ·exact .inr (by rw [h]; exact (Turn.of_ext (Ext.drew (Ext.alloc (Ext.refl _) _)) : Turn (fun _ => False) w4 _).size)
  have HB5 : Hid (w5.heap[q]? = some (.cells #[.slice (some ⟨g1, 0, none⟩) len cap1, .slice v2a len2 v2c] 98 (0, 0))) := HT5.out.ref HB4.out (fun e => (HN2.out _ e).2.2.1 rfl)
  have y1b : w5.cell? ⟨q, 1, none⟩ = some (.slice v2a len2 v2c) := cell_at HB5.out rfl
  have f1b := frozen_row HB5.out 1
  refine hK.out _ _ ?hs3 (fun hHeld => ?_)
  case hs3 => exact SD.out _ HT5.out
  clear hK K hown5 hgrow5 hat5
  try simp only [Act.put, lA, lB, lC, lD, lE, lF]
  refine wpAnyH_take (i := 18) (oi := _) (v := ?v18) rfl (by kernel_rfl) (by kernel_rfl) (by kernel_rfl) (fun _ _ _ h => h) (Or.inl ⟨by rfl, ?hy⟩) hHeld ?_
  case hy => (intro w hSw; (try dsimp only at hSw); go_simp; try with_reducible rfl)
  try simp only [Act.put, lA, lB, lC, lD, lE, lF]
  refine wpAnyH_take (i := 19) (oi := _) (v := ?v19) rfl (by kernel_rfl) (by kernel_rfl) (by kernel_rfl) (fun _ _ _ h => h) (Or.inl ⟨by rfl, ?hy⟩) hHeld ?_
  case hy => (intro w hSw; (try dsimp only at hSw); go_simp; try with_reducible rfl)
  try simp only [Act.put, lA, lB, lC, lD, lE, lF]
  refine wpAnyH_ready (rs := [20]) (by kernel_rfl) (by simp) ?_
  refine AllReadyH.cons (o := _) rfl (fun K hK => ?_) AllReadyH.nil
  (try simp only [lA, lB, lC])
  go_simp
  refine hK.out _ _ ?hs4 (fun hHeld => ?_)
  case hs4 =>
   have hnw : q ≠ w.heap.size := by omega
   have hnz : q ≠ zb := by omega
   obtain ⟨s0, s1, s2, s3, s4, s5, s6, s7⟩ := SD.out _ HT5.out
   exact ⟨(World.cell?_setCell_far _ _ _ _ hnw).trans s0, (World.cell?_setCell_far _ _ _ _ hnw).trans s1, (World.cell?_setCell_far _ _ _ _ hnw).trans s2, (World.cell?_setCell_far _ _ _ _ hnw).trans s3, (World.cell?_setCell_far _ _ _ _ hnw).trans s4, (World.cell?_setCell_far _ _ _ _ hnw).trans s5, (World.cell?_setCell_far _ _ _ _ hnw).trans s6, (World.cell?_setCell_far _ _ _ _ hnz).trans s7⟩
  clear hK K
  try simp only [Act.put, lA, lB, lC, lD, lE, lF]
  refine wpAnyH_done (by kernel_rfl) ?_ _
  have r8 := hHeld.2.2.2.2.2.2.1
  have z5 := hHeld.2.2.2.2.2.2.2
  have HG5 : Hid (g ≠ q /\ zb + 1 <= g /\ g ≠ g1 /\ g ≠ w.heap.size + 1) := by
   rcases HAT.out with h | h
   ·have := HN2.out _ h
    exact ⟨this.2.2.1, this.2.2.2.1, this.2.2.2.2.1, this.2.2.2.2.2⟩
   ·exact ⟨by omega, by omega, by omega, by omega⟩
  have hO2 : (w5.setCell ⟨q, 1, none⟩ (.slice (some ⟨g, 0, none⟩) (len2 + 1) cap)).ownsRow (zb + 1) 56 9 (.slice (some ⟨g, 0, none⟩) (len2 + 1) cap) (len2 + 1) (lsCells (ls ++ [⟨s, i, kd, m, k, n, sl, c, false⟩])) := by
   rw [lsCells_append]
   have e1 : lsCells [⟨s, i, kd, m, k, n, sl, c, false⟩] = LsV.cells ⟨s, i, kd, m, k, n, sl, c, false⟩ := by simp [lsCells]
   rw [e1]
   exact owns_setCell HOW.out (by simpa [lH] using HG5.out.1) _
  have hB6 : (w5.setCell ⟨q, 1, none⟩ (.slice (some ⟨g, 0, none⟩) (len2 + 1) cap)).heap[q]? = some (.cells #[.slice (some ⟨g1, 0, none⟩) len cap1, .slice (some ⟨g, 0, none⟩) (len2 + 1) cap] 98 (0, 0)) := setCell_row HB5.out _
  have hT6 : Turn (fun b => b = q \/ lH (.slice v2a len2 v2c) = some b) w4 (w5.setCell ⟨q, 1, none⟩ (.slice (some ⟨g, 0, none⟩) (len2 + 1) cap)) := Turn.setCell (S := fun b => b = q \/ lH (.slice v2a len2 v2c) = some b) (p := ⟨q, 1, none⟩) (HT5.out.mono (fun _ _ e => .inr e)) (fun _ => .inl rfl) _
  generalize World.setCell w5 _ _ = w6 at hO2 hB6 hT6 r8 z5 ⊢
  have hR6 : w6.heap[w.heap.size + 1]? = some (.cells #[.int .i64 0, .int .i64 0, .int .i64 0, .slice none 0 0] 33 (0, 0)) := hT6.ref HR4.out (by
   rintro (e | e)
   ·omega
   ·exact (HN2.out _ e).2.2.2.2.2 rfl)
  have o0 : w6.cell? ⟨w.heap.size + 1, 0, none⟩ = some (.int .i64 0) := cell_at hR6 rfl
  have o1 : w6.cell? ⟨w.heap.size + 1, 1, none⟩ = some (.int .i64 0) := cell_at hR6 rfl
  have o2 : w6.cell? ⟨w.heap.size + 1, 2, none⟩ = some (.int .i64 0) := cell_at hR6 rfl
  have o3 : w6.cell? ⟨w.heap.size + 1, 3, none⟩ = some (.slice none 0 0) := cell_at hR6 rfl
  have t0 := frozen_row hR6 0
  have t1 := frozen_row hR6 1
  have t2 := frozen_row hR6 2
  have t3 := frozen_row hR6 3
  have hne2 : w.heap.size + 1 ≠ zb := by have := (Array.getElem?_eq_some_iff.1 HR4.out).1; exact fun e => by have h1 := HR4.out; rw [e] at h1; exact type_ne h1 HZ4.out (by decide) rfl
  have HF6 : Hid _ := And.intro hO2 (And.intro hB6 hT6)
  have HR6 : Hid _ := hR6
  clear hO2 hB6 hT6 hHeld y1b f1b y1 r1 r2 r3 r4 r5 r6 hR6
  go_wp2_with fail
  go_region
  all_goals go_wp2
  all_goals refine bodyPost_ret (v := .tuple #[.pointer (some ⟨q, 0, none⟩), .agg #[.int .i64 0, .int .i64 sl, .int .i64 c, .slice none 0 0]]) (by simp [results, Tryz.results177, go_sem, o0, o1, o2, o3]) rfl ⟨q, by rw [HE.out.2.2], ?_⟩
  all_goals
   have hTY := set4 (g := w.heap.size + 1) (Ext.refl w6) (.int .i64 0) (.int .i64 sl) (.int .i64 c) (.slice none 0 0)
   obtain ⟨hO2, hB6, hT6⟩ := HF6.out
   obtain ⟨q1, q2, q3, q4, q5, q7, q8⟩ := HQQ.out
   obtain ⟨cur1, hcur1⟩ := owns_block q2 (g := g1) rfl
   have hT3 : Turn (fun b => b = g1 \/ b = q \/ lH (.slice v2a len2 v2c) = some b \/ b = w.heap.size + 1) w3 _ := ((HT34.out.mono (fun b _ e => .inl e)).trans' (S' := fun b => b = g1 \/ b = q \/ lH (.slice v2a len2 v2c) = some b \/ b = w.heap.size + 1) (hT6.mono (fun b _ e => by rcases e with e | e; exact .inr (.inl e); exact .inr (.inr (.inl e)))) (fun _ _ e => e)).trans' hTY (fun b _ e => .inr (.inr (.inr e)))
   have hlt : w.heap.size <= zb + 1 := by omega
   have hgrowG : ∀ b, G b -> ¬ (b = g1 \/ b = q \/ lH (.slice v2a len2 v2c) = some b \/ b = w.heap.size + 1) := fun b hb hor => by
    have hbw := HG.out b hb
    rcases hor with e | e | e | e
    ·omega
    ·omega
    ·have := (HN2.out _ e).2.2.2.1
     omega
    ·omega
   refine ⟨refAt_mk (css := css.set ix (cs.set 5 (.int .i64 ((sl + c : Nat) : Int)))) (hTY.ref hB6 (fun e => ?_)) (owns_base (hTY.owns (hT6.owns ?_ ?_) ?_) hlt) (owns_base (hTY.owns ?_ ?_) hlt) (.inr (by rw [List.length_set]; omega)) (.inr (by simp)) (by rw [List.length_set, List.length_set]; exact q4) (fun i' hi' => ?_) (by omega), ?_⟩
   ·omega
   ·rw [List.length_set, HE.out.1]
    exact HO1.out
   ·intro b hb hor
    simp [lH] at hb
    subst hb
    rcases hor with e | e
    ·exact hne1 e
    ·exact (HN2.out _ e).2.2.2.2.1 rfl
   ·intro b hb e
    simp [lH] at hb
    omega
   ·rw [List.length_append, HE.out.2.1, HE.out.2.2]
    exact hO2
   ·intro b hb e
    simp [lH] at hb
    subst hb
    exact HG5.out.2.2.2 e
   ·have hi2 : i' < S.length := by simpa using hi'
    obtain ⟨cs2, m1, m2⟩ := q5 i' hi2
    by_cases hii : i' = ix
    ·subst hii
     refine ⟨cs.set 5 (.int .i64 ((sl + c : Nat) : Int)), by rw [List.getElem?_set_self (by omega)], ?_⟩
     rw [HCS.out.2, List.getElem_set_self]
     obtain ⟨k1, k2, k3⟩ := HTV.out
     refine ⟨tv, tvs, rfl, ?_, k2, fun i2 hi2 => ?_⟩
     ·exact (k1.turn hT3 hgrowG).mono (fun b hb => .inl hb)
     ·obtain ⟨v, n1, n2⟩ := k3 i2 hi2
      exact ⟨v, n1, (n2.turn hT3 hgrowG).mono (fun b hb => .inl hb)⟩
    ·refine ⟨cs2, by rw [List.getElem?_set_ne (fun e => hii e.symm)]; exact m1, ?_⟩
     rw [List.getElem_set_ne (fun e => hii e.symm)]
     exact (m2.turn hT3 hgrowG).mono (fun b hb => .inl hb)
   ·exact Turn.ext ((Turn.of_ext (S := fun _ => False) HX3.out).trans' hT3 (fun b hb hor => by
     rcases hor with e | e | e | e
     ·omega
     ·omega
     ·have := (HN2.out _ e).2.2.2.1
      omega
     ·omega))
 ·skip
  (try simp only [lA, lB, lC])
  go_simp
  refine hK.out _ _ ?hs1 (fun hHeld => ?_)
  case hs1 => exact SD.out _ (Turn.of_ext (Ext.drew (Ext.alloc (Ext.refl _) _)))
  clear hK K
  try simp only [Act.put, lA, lB, lC, lD, lE, lF]
  refine wpAnyH_ready (rs := [4]) (by kernel_rfl) (by simp) ?_
  refine AllReadyH.cons (o := _) rfl (fun K hK => ?_) AllReadyH.nil
  (try simp only [lA, lB, lC])
  go_simp
  refine hK.out _ _ ?hs2 (fun hHeld => ?_)
  case hs2 => exact SD.out _ (Turn.of_ext (Ext.drew (Ext.alloc (Ext.refl _) _)))
  clear hK K
  try simp only [Act.put, lA, lB, lC, lD, lE, lF]
  refine wpAnyH_ready (rs := [17]) (by kernel_rfl) (by simp) ?_
  refine AllReadyH.cons (o := _) rfl (fun K hK => ?_) AllReadyH.nil
  refine step_append_lies _ (by rfl) _ _ 38 (by rfl) (zb + 1) 56 i0 _ 9 72 Tryz.underlying38 hi hz0 hz1 hz2 (by rfl) (by decide) (.slice v2a len2 v2c) len2 (lsCells ls) (by rfl) (Ext.owns (Ext.drew (Ext.alloc (Ext.refl _) _)) HV4.out) ⟨_, 0, none⟩ 1 1 (LsV.cells ⟨s, i, kd, m, k, n, sl, c, false⟩) (by rfl) (by rfl) (World.news_of_block (at_drew (heap_alloc_new _ _))) (by simp [Value.oneCell', LsV.cells]) (by decide) (by unfold maxLen; omega) (by omega) (Nat.le_trans (show zb + 1 <= w4.heap.size by omega) (Ext.le (Ext.drew (Ext.alloc (Ext.refl _) _)))) _ rfl ?_
  intro g cap w5 hown5 hgrow5 hat5 hlt5
  have HT5 : Hid (Turn (fun b => lH (.slice v2a len2 v2c) = some b) w4 w5) := Turn.grown (Turn.of_ext (Ext.drew (Ext.alloc (Ext.refl _) _))) hgrow5 (fun q hq _ => hq)
  have HOW : Hid (w5.ownsRow (zb + 1) 56 9 (.slice (some ⟨g, 0, none⟩) (len2 + 1) cap) (len2 + 1) ((lsCells ls) ++ (LsV.cells ⟨s, i, kd, m, k, n, sl, c, false⟩))) := hown5
  have HAT : Hid (lH (.slice v2a len2 v2c) = some g \/ w4.heap.size <= g) := by
   rcases hat5 with h | h
   ·exact .inl h
   ·exact .inr (by rw [h]; exact (Turn.of_ext (Ext.drew (Ext.alloc (Ext.refl _) _)) : Turn (fun _ => False) w4 _).size)
  have HB5 : Hid (w5.heap[q]? = some (.cells #[.slice (some ⟨g1, 0, none⟩) len cap1, .slice v2a len2 v2c] 98 (0, 0))) := HT5.out.ref HB4.out (fun e => (HN2.out _ e).2.2.1 rfl)
  have y1b : w5.cell? ⟨q, 1, none⟩ = some (.slice v2a len2 v2c) := cell_at HB5.out rfl
  have f1b := frozen_row HB5.out 1
  refine hK.out _ _ ?hs3 (fun hHeld => ?_)
  case hs3 => exact SD.out _ HT5.out
  clear hK K hown5 hgrow5 hat5
  try simp only [Act.put, lA, lB, lC, lD, lE, lF]
  refine wpAnyH_take (i := 18) (oi := _) (v := ?v18) rfl (by kernel_rfl) (by kernel_rfl) (by kernel_rfl) (fun _ _ _ h => h) (Or.inl ⟨by rfl, ?hy⟩) hHeld ?_
  case hy => (intro w hSw; (try dsimp only at hSw); go_simp; try with_reducible rfl)
  try simp only [Act.put, lA, lB, lC, lD, lE, lF]
  refine wpAnyH_take (i := 19) (oi := _) (v := ?v19) rfl (by kernel_rfl) (by kernel_rfl) (by kernel_rfl) (fun _ _ _ h => h) (Or.inl ⟨by rfl, ?hy⟩) hHeld ?_
  case hy => (intro w hSw; (try dsimp only at hSw); go_simp; try with_reducible rfl)
  try simp only [Act.put, lA, lB, lC, lD, lE, lF]
  refine wpAnyH_ready (rs := [20]) (by kernel_rfl) (by simp) ?_
  refine AllReadyH.cons (o := _) rfl (fun K hK => ?_) AllReadyH.nil
  (try simp only [lA, lB, lC])
  go_simp
  refine hK.out _ _ ?hs4 (fun hHeld => ?_)
  case hs4 =>
   have hnw : q ≠ w.heap.size := by omega
   have hnz : q ≠ zb := by omega
   obtain ⟨s0, s1, s2, s3, s4, s5, s6, s7⟩ := SD.out _ HT5.out
   exact ⟨(World.cell?_setCell_far _ _ _ _ hnw).trans s0, (World.cell?_setCell_far _ _ _ _ hnw).trans s1, (World.cell?_setCell_far _ _ _ _ hnw).trans s2, (World.cell?_setCell_far _ _ _ _ hnw).trans s3, (World.cell?_setCell_far _ _ _ _ hnw).trans s4, (World.cell?_setCell_far _ _ _ _ hnw).trans s5, (World.cell?_setCell_far _ _ _ _ hnw).trans s6, (World.cell?_setCell_far _ _ _ _ hnz).trans s7⟩
  clear hK K
  try simp only [Act.put, lA, lB, lC, lD, lE, lF]
  refine wpAnyH_done (by kernel_rfl) ?_ _
  have r8 := hHeld.2.2.2.2.2.2.1
  have z5 := hHeld.2.2.2.2.2.2.2
  have HG5 : Hid (g ≠ q /\ zb + 1 <= g /\ g ≠ g1 /\ g ≠ w.heap.size + 1) := by
   rcases HAT.out with h | h
   ·have := HN2.out _ h
    exact ⟨this.2.2.1, this.2.2.2.1, this.2.2.2.2.1, this.2.2.2.2.2⟩
   ·exact ⟨by omega, by omega, by omega, by omega⟩
  have hO2 : (w5.setCell ⟨q, 1, none⟩ (.slice (some ⟨g, 0, none⟩) (len2 + 1) cap)).ownsRow (zb + 1) 56 9 (.slice (some ⟨g, 0, none⟩) (len2 + 1) cap) (len2 + 1) (lsCells (ls ++ [⟨s, i, kd, m, k, n, sl, c, false⟩])) := by
   rw [lsCells_append]
   have e1 : lsCells [⟨s, i, kd, m, k, n, sl, c, false⟩] = LsV.cells ⟨s, i, kd, m, k, n, sl, c, false⟩ := by simp [lsCells]
   rw [e1]
   exact owns_setCell HOW.out (by simpa [lH] using HG5.out.1) _
  have hB6 : (w5.setCell ⟨q, 1, none⟩ (.slice (some ⟨g, 0, none⟩) (len2 + 1) cap)).heap[q]? = some (.cells #[.slice (some ⟨g1, 0, none⟩) len cap1, .slice (some ⟨g, 0, none⟩) (len2 + 1) cap] 98 (0, 0)) := setCell_row HB5.out _
  have hT6 : Turn (fun b => b = q \/ lH (.slice v2a len2 v2c) = some b) w4 (w5.setCell ⟨q, 1, none⟩ (.slice (some ⟨g, 0, none⟩) (len2 + 1) cap)) := Turn.setCell (S := fun b => b = q \/ lH (.slice v2a len2 v2c) = some b) (p := ⟨q, 1, none⟩) (HT5.out.mono (fun _ _ e => .inr e)) (fun _ => .inl rfl) _
  generalize World.setCell w5 _ _ = w6 at hO2 hB6 hT6 r8 z5 ⊢
  have hR6 : w6.heap[w.heap.size + 1]? = some (.cells #[.int .i64 0, .int .i64 0, .int .i64 0, .slice none 0 0] 33 (0, 0)) := hT6.ref HR4.out (by
   rintro (e | e)
   ·omega
   ·exact (HN2.out _ e).2.2.2.2.2 rfl)
  have o0 : w6.cell? ⟨w.heap.size + 1, 0, none⟩ = some (.int .i64 0) := cell_at hR6 rfl
  have o1 : w6.cell? ⟨w.heap.size + 1, 1, none⟩ = some (.int .i64 0) := cell_at hR6 rfl
  have o2 : w6.cell? ⟨w.heap.size + 1, 2, none⟩ = some (.int .i64 0) := cell_at hR6 rfl
  have o3 : w6.cell? ⟨w.heap.size + 1, 3, none⟩ = some (.slice none 0 0) := cell_at hR6 rfl
  have t0 := frozen_row hR6 0
  have t1 := frozen_row hR6 1
  have t2 := frozen_row hR6 2
  have t3 := frozen_row hR6 3
  have hne2 : w.heap.size + 1 ≠ zb := by have := (Array.getElem?_eq_some_iff.1 HR4.out).1; exact fun e => by have h1 := HR4.out; rw [e] at h1; exact type_ne h1 HZ4.out (by decide) rfl
  have HF6 : Hid _ := And.intro hO2 (And.intro hB6 hT6)
  have HR6 : Hid _ := hR6
  clear hO2 hB6 hT6 hHeld y1b f1b y1 r1 r2 r3 r4 r5 r6 hR6
  go_wp2_with fail
  go_region
  all_goals go_wp2
  all_goals refine bodyPost_ret (v := .tuple #[.pointer (some ⟨q, 0, none⟩), .agg #[.int .i64 0, .int .i64 sl, .int .i64 c, .slice none 0 0]]) (by simp [results, Tryz.results177, go_sem, o0, o1, o2, o3]) rfl ⟨q, by rw [HE.out.2.2], ?_⟩
  all_goals
   have hTY := set4 (g := w.heap.size + 1) (Ext.refl w6) (.int .i64 0) (.int .i64 sl) (.int .i64 c) (.slice none 0 0)
   obtain ⟨hO2, hB6, hT6⟩ := HF6.out
   obtain ⟨q1, q2, q3, q4, q5, q7, q8⟩ := HQQ.out
   obtain ⟨cur1, hcur1⟩ := owns_block q2 (g := g1) rfl
   have hT3 : Turn (fun b => b = g1 \/ b = q \/ lH (.slice v2a len2 v2c) = some b \/ b = w.heap.size + 1) w3 _ := ((HT34.out.mono (fun b _ e => .inl e)).trans' (S' := fun b => b = g1 \/ b = q \/ lH (.slice v2a len2 v2c) = some b \/ b = w.heap.size + 1) (hT6.mono (fun b _ e => by rcases e with e | e; exact .inr (.inl e); exact .inr (.inr (.inl e)))) (fun _ _ e => e)).trans' hTY (fun b _ e => .inr (.inr (.inr e)))
   have hlt : w.heap.size <= zb + 1 := by omega
   have hgrowG : ∀ b, G b -> ¬ (b = g1 \/ b = q \/ lH (.slice v2a len2 v2c) = some b \/ b = w.heap.size + 1) := fun b hb hor => by
    have hbw := HG.out b hb
    rcases hor with e | e | e | e
    ·omega
    ·omega
    ·have := (HN2.out _ e).2.2.2.1
     omega
    ·omega
   refine ⟨refAt_mk (css := css.set ix (cs.set 5 (.int .i64 ((sl + c : Nat) : Int)))) (hTY.ref hB6 (fun e => ?_)) (owns_base (hTY.owns (hT6.owns ?_ ?_) ?_) hlt) (owns_base (hTY.owns ?_ ?_) hlt) (.inr (by rw [List.length_set]; omega)) (.inr (by simp)) (by rw [List.length_set, List.length_set]; exact q4) (fun i' hi' => ?_) (by omega), ?_⟩
   ·omega
   ·rw [List.length_set, HE.out.1]
    exact HO1.out
   ·intro b hb hor
    simp [lH] at hb
    subst hb
    rcases hor with e | e
    ·exact hne1 e
    ·exact (HN2.out _ e).2.2.2.2.1 rfl
   ·intro b hb e
    simp [lH] at hb
    omega
   ·rw [List.length_append, HE.out.2.1, HE.out.2.2]
    exact hO2
   ·intro b hb e
    simp [lH] at hb
    subst hb
    exact HG5.out.2.2.2 e
   ·have hi2 : i' < S.length := by simpa using hi'
    obtain ⟨cs2, m1, m2⟩ := q5 i' hi2
    by_cases hii : i' = ix
    ·subst hii
     refine ⟨cs.set 5 (.int .i64 ((sl + c : Nat) : Int)), by rw [List.getElem?_set_self (by omega)], ?_⟩
     rw [HCS.out.2, List.getElem_set_self]
     obtain ⟨k1, k2, k3⟩ := HTV.out
     refine ⟨tv, tvs, rfl, ?_, k2, fun i2 hi2 => ?_⟩
     ·exact (k1.turn hT3 hgrowG).mono (fun b hb => .inl hb)
     ·obtain ⟨v, n1, n2⟩ := k3 i2 hi2
      exact ⟨v, n1, (n2.turn hT3 hgrowG).mono (fun b hb => .inl hb)⟩
    ·refine ⟨cs2, by rw [List.getElem?_set_ne (fun e => hii e.symm)]; exact m1, ?_⟩
     rw [List.getElem_set_ne (fun e => hii e.symm)]
     exact (m2.turn hT3 hgrowG).mono (fun b hb => .inl hb)
   ·exact Turn.ext ((Turn.of_ext (S := fun _ => False) HX3.out).trans' hT3 (fun b hb hor => by
     rcases hor with e | e | e | e
     ·omega
     ·omega
     ·have := (HN2.out _ e).2.2.2.1
      omega
     ·omega))
end
end Go.Proofs.YtmnjhhachdlmkaaGreat
