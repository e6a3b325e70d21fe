import Derived.Test.YtmnjhhachdlmkaaGreatK11
import Derived.Test.YtmnjhhachdlmkaaGreatK06
import Derived.Test.YtmnjhhachdlmkaaGreatK07
import Derived.Test.YtmnjhhachdlmkaaGreatK09
namespace Go.Proofs.YtmnjhhachdlmkaaGreat
set_option linter.unusedVariables false
set_option linter.unusedSimpArgs false
open List renaming getElem_cons_succ -> lB, getElem_cons_zero -> lC
open World renaming block_lt_of_cell? -> lG
open Value renaming ownBlock -> lH
-- VRy
section
set_option maxRecDepth 100000
set_option maxHeartbeats 1600000
open Go.RowKit Go.Maps
section
variable {B : Nat} {F : Nat -> Prop} {sv lv dv : Value} {R : List StkR} {ls : List LsV} {ops : List OpV} {fl : Bool} {ah : Int} {kn : Bool}
theorem stkPtr_form (R : List StkR) (kd m k n : Int) : ∃ p, stkPtr R kd m k n = .pointer p := by
 unfold stkPtr
 split
 ·exact ⟨_, rfl⟩
 ·exact ⟨_, rfl⟩
theorem leasingAgainstSome_c (rb ix : Nat) (kd m k n ss ii c : Int) (hR : R.length <= 100) (hls : ls.length <= 1000) (hno : ls.findIdx? (isNamed ss ii) = some ix) (hix : ix < ls.length) (w : World) (h : StoreOf w B F sv lv dv R ls ops fl ah kn) (hr : LeaseReq w rb ss ii kd m k n c) :
  Calls Tryz.prog 223 #[.agg #[.pointer (some ⟨rb, 0, none⟩)], .pointer (some ⟨B, 0, none⟩)] w fun e w' => e = .returned (.int .i64 6) /\ Ext w w' := by
 have r0 := cell_at hr (i := 0) rfl
 have r1 := cell_at hr (i := 1) rfl
 have r2 := cell_at hr (i := 2) rfl
 have r3 := cell_at hr (i := 3) rfl
 have r4 := cell_at hr (i := 4) rfl
 have r5 := cell_at hr (i := 5) rfl
 have r6 := cell_at hr (i := 6) rfl
 have hrl := lG w _ r0
 obtain ⟨lg, lcap, hlv⟩ : ∃ lg lcap, lv = .slice (some ⟨lg, 0, none⟩) ls.length lcap := by
  rcases owns_form h.lrow with ⟨_, h0, _⟩ | ⟨g, cap, h1, _⟩
  ·omega
  ·exact ⟨g, cap, h1⟩
 have HN : Hid (∀ w', Ext w w' -> Calls Tryz.prog 165 #[.pointer (some ⟨B, 0, none⟩), .int .i64 ss, .int .i64 ii] w' fun e w'' => e = .returned (.pointer (some ⟨lg, ix * 9, none⟩)) /\ Ext w' w'') := fun w' hx => by
  have := named_c B ls ss ii sv lv dv fl ah kn w' (h.deal.ext hx) (h.lrow.ext hx) hls
  rw [hno, hlv] at this
  exact this
 have HF : Hid (∀ w', Ext w w' -> _) := fun w' hx => findR_c kd m k n hR w' (h.ext hx)
 unfold clsV at HF
 obtain ⟨p, hp⟩ := stkPtr_form R kd m k n
 rw [hp] at HF
 clear h hr hno hp hlv
 go_enter Tryz.func223, Tryz.ntmps223
 go_wp2_with fail
 refine (HF.out _ ((Ext.refl w).alloc _)).mono ?_
 rintro e w1 ⟨rfl, hx1⟩
 have q0 := cell_in hx1 0 rfl
 have HX1 : Hid (Ext w w1) := ((Ext.refl w).alloc _).trans hx1
 have r0 := HX1.out.cell r0
 have r1 := HX1.out.cell r1
 have r6 := HX1.out.cell r6
 clear hx1 r2 r3 r4 r5
 go_wp2_with fail
 go_region_held3 (fun w' => (w'.cell? ⟨w.heap.size, 0, none⟩ = some (.pointer (some ⟨rb, 0, none⟩)) /\ w'.cell? ⟨rb, 0, none⟩ = some (.int .i64 ss) /\ w'.cell? ⟨rb, 1, none⟩ = some (.int .i64 ii) /\ w'.cell? ⟨rb, 6, none⟩ = some (.int .i64 c)) /\ Ext w1 w')
  ((refine and_c4 q0 r0 r1 r6 ?_; (repeat (first | with_reducible exact Ext.refl _ | with_reducible assumption | with_reducible refine Ext.drew ?_ | with_reducible refine Ext.alloc ?_ _ | with_reducible (apply Ext.chain; assumption))); done))
  (first | (go_at_call 165; refine (HN.out _ (HX1.out.trans (Ext.drew (Ext.refl w1)))).mono ?_; rintro e w1' ⟨rfl, hx2⟩))
 rename_i hh
 have HX2 : Hid (Ext w w1') := HX1.out.trans hh.2
 clear hh hx2
 go_wp2
 go_ret
 exact ⟨rfl, HX2.out⟩
theorem makingAgainstBig_c (kd m k n : Int) (tv : Option Addr) (t tcap : Nat) (ht : t <= 1000000000) (hR : R.length <= 100) (hRm : ∀ x ∈ R, x.ts.length <= 1000) (w : World) (h : StoreOf w B F sv lv dv R ls ops fl ah kn) :
  Calls Tryz.prog 206 #[.agg #[.int .i64 kd, .int .i64 m, .int .i64 k, .int .i64 n, .slice tv t tcap], .pointer (some ⟨B, 0, none⟩)] w fun e w' =>
   e = .returned (.int .i64 (match R.find? (fun x => x.is kd m k n) with | some x => if 200 < x.ts.length + t then 4 else 0 | none => if 6 <= R.length \/ 200 < t then 4 else 0)) /\ Ext w w' := by
 have HF : Hid (∀ w', Ext w w' -> _) := fun w' hx => findR_c kd m k n hR w' (h.ext hx)
 unfold clsV at HF
 obtain ⟨c0, _⟩ := h.deal.cells
 have hB := h.deal.lt
 have HS : Hid _ := h
 obtain ⟨sa, scap, hsv⟩ := owns_slice h.srow
 subst hsv
 clear h
 cases hf : R.find? (fun x => x.is kd m k n) with
 | none =>
  have hp : stkPtr R kd m k n = .pointer none := by rw [stkPtr, hf]
  rw [hp] at HF
  clear hp hf
  simp only
  obtain ⟨cd, hcd⟩ : ∃ cd : Int, cd = (if 6 <= R.length \/ 200 < t then 4 else 0) := ⟨_, rfl⟩
  rw [<- hcd]
  have HCd : Hid (cd = (if 6 <= R.length \/ 200 < t then 4 else 0)) := hcd
  clear hcd
  go_enter Tryz.func206, Tryz.ntmps206
  go_wp2_with fail
  refine (HF.out _ ((Ext.refl w).alloc _)).mono ?_
  rintro e w1 ⟨rfl, hx1⟩
  have HX1 : Hid (Ext w w1) := ((Ext.refl w).alloc _).trans hx1
  have c0' := HX1.out.cell c0
  have m4 := cell_in hx1 4 rfl
  clear hx1 c0
  go_wp2
  all_goals go_ret
  all_goals refine ⟨?_, HX1.out⟩
  all_goals rw [HCd.out]
  all_goals split
  all_goals first | rfl | (exfalso; omega)
 | some x =>
  have hp : stkPtr R kd m k n = .pointer (some ⟨x.blk, 0, none⟩) := by rw [stkPtr, hf]
  rw [hp] at HF
  have hxR : x ∈ R := List.mem_of_find?_eq_some hf
  have hb4 := (HS.out.stk x hxR).blk
  have k4 : w.cell? ⟨x.blk, 4, none⟩ = some (.int .i64 x.ts.length) := (cell_of_row w x.blk 4 _ _ _ hb4).trans rfl
  have hbl := lG w _ k4
  have hmx := hRm x hxR
  clear hp hf hb4
  simp only
  generalize x.ts.length = tl at *
  generalize x.blk = blk at *
  clear HS hxR
  obtain ⟨cd, hcd⟩ : ∃ cd : Int, cd = (if 200 < tl + t then 4 else 0) := ⟨_, rfl⟩
  rw [<- hcd]
  have HCd : Hid (cd = (if 200 < tl + t then 4 else 0)) := hcd
  clear hcd
  go_enter Tryz.func206, Tryz.ntmps206
  go_wp2_with fail
  refine (HF.out _ ((Ext.refl w).alloc _)).mono ?_
  rintro e w1 ⟨rfl, hx1⟩
  have HX1 : Hid (Ext w w1) := ((Ext.refl w).alloc _).trans hx1
  have c0' := HX1.out.cell c0
  have k4' := HX1.out.cell k4
  have m4 := cell_in hx1 4 rfl
  clear hx1 c0 k4
  go_wp2
  all_goals go_ret
  all_goals refine ⟨?_, HX1.out⟩
  all_goals rw [HCd.out]
  all_goals split
  all_goals first | rfl | (exfalso; omega)
theorem TriRow.grown {w : World} {n0 gt : Nat} {sh : Sh} {us : List (List Int × Bool)} (h : TriRow w (fun b => n0 <= b) gt sh us) (F : Nat -> Prop) : TriRow w (fun b => F b \/ n0 <= b /\ b < w.heap.size) gt sh us := by
 refine ⟨fun i hi => ?_, h.2⟩
 rcases h.1 i hi with ⟨hk, a0, c0, a1, c1, h1, h2, h3, h4, h5, h6⟩ | h1
 ·exact .inl ⟨hk, a0, c0, a1, c1, h1, h2, h3, h4, .inr ⟨h5, by obtain ⟨_, hc⟩ := h3.2; exact (Array.getElem?_eq_some_iff.1 hc).1⟩, .inr ⟨h6, by obtain ⟨_, hc⟩ := h4.2; exact (Array.getElem?_eq_some_iff.1 hc).1⟩⟩
 ·exact .inr h1
structure Applied (w w' : World) (B : Nat) (F : Nat -> Prop) (dv : Value) (S' : List Stk) (ls' : List LsV) (ops : List OpV) (fl : Bool) (ah : Int) (kn : Bool) (R' : List StkR) (sv' lv' : Value) (F' : Nat -> Prop) : Prop where
 store : StoreOf w' B F' sv' lv' dv R' ls' ops fl ah kn
 abs : R'.map StkR.abs = S'
 sub : ∀ b, F b -> F' b
 new : ∀ b, F' b -> F b \/ w.heap.size <= b
 turn : Turn F' w w'
theorem makingDone_c (kd m k n gt tcap : Nat) (us : List (List Int × Bool)) (t : Nat) (hus : us.length = t) (ht : t <= 1000) (hcl : isCls kd m k n = true) (hR : R.length <= 100) (hRm : ∀ x ∈ R, x.ts.length <= 1000) (w : World) (h : StoreOf w B F sv lv dv R ls ops fl ah kn) (htr : TriRow w F gt (shOf kd m k n) us) :
  Calls Tryz.prog 207 #[.agg #[.int .i64 kd, .int .i64 m, .int .i64 k, .int .i64 n, .slice (some ⟨gt, 0, none⟩) t tcap], .pointer (some ⟨B, 0, none⟩)] w fun e w' => ∃ R' sv' lv' F', e = .returned (.tuple #[]) /\ Applied w w' B F dv (makeS (R.map StkR.abs) kd m k n us) ls ops fl ah kn R' sv' lv' F' := by
 have hle := Sh.le (shOf_of hcl).2
 refine (makingApply_c (F := F) (sv := sv) (lv := lv) (dv := dv) (ls := ls) (ops := ops) (fl := fl) (ah := ah) (kn := kn) kd m k n (shOf kd m k n) (by omega) gt tcap us t hus ht (ForP R kd m k n) (fun R1 ix hp hi => hp.sh hi) w h.deal.lt (fun w'' hx => forStock_c kd m k n hR hRm w'' (h.ext hx)) htr
   ⟨by obtain ⟨cur, hc⟩ := htr.2; exact h.deal.tne hc (by decide), fun e => by obtain ⟨cur, hc⟩ := htr.2; obtain ⟨cur', hc'⟩ := owns_block h.srow e; exact type_ne hc hc' (by decide) rfl⟩ (fun q hq => owns_block h.srow hq) ⟨_, _, _, _, _, _, h.deal⟩).mono ?_
 rintro e w' ⟨R1, sv1, ix, F1, hix, rfl, q1, q2, q3, q4, q5⟩
 exact ⟨_, sv1, lv, F1, rfl, q1, make_abs q2 hix, q3, q4, q5.mono (fun b _ hb => by
  rcases hb with e | e | e
  ·exact e ▸ q3 _ h.fB
  ·exact q3 _ (h.fs b e)
  ·exact e)⟩
theorem leasingDone_c (rb ix : Nat) (kd m k n ss ii : Int) (c : Nat) (hc : c <= 100) (hR : R.length <= 100) (hls : ls.length <= 1000) (hix : ix < R.length) (hf : R.find? (fun x => x.is kd m k n) = some R[ix]) (hle : R[ix].leased <= 1000) (w : World) (h : StoreOf w B F sv lv dv R ls ops fl ah kn) (hr : LeaseReq w rb ss ii kd m k n c) :
  Calls Tryz.prog 224 #[.agg #[.pointer (some ⟨rb, 0, none⟩)], .pointer (some ⟨B, 0, none⟩)] w fun e w' => ∃ R' sv' lv' F', e = .returned (.tuple #[]) /\ Applied w w' B F dv ((R.map StkR.abs).set ix ((R[ix].abs).lend c)) (ls ++ [⟨ss, ii, kd, m, k, n, R[ix].leased, c, false⟩]) ops fl ah kn R' sv' lv' F' := by
 refine (leasingApply_c rb ix kd m k n ss ii c hc hR hls hix hf hle w h hr).mono ?_
 rintro e w' ⟨lv', rfl, q1, q2⟩
 refine ⟨_, sv, lv', _, rfl, q1, by rw [List.map_set]; rfl, fun b hb => .inl hb, fun b hb => hb.imp id (fun h => h.1), q2.mono (fun b _ hb => .inl ?_)⟩
 rcases hb with e | e | e
 ·exact e ▸ h.fB
 ·exact h.fl' b e
 ·exact e ▸ (h.stk R[ix] (List.getElem_mem hix)).fb
theorem releasingDone_c (rb ix : Nat) (ss ii : Int) (hls : ls.length <= 1000) (hix : ix < ls.length) (hf : ls.findIdx? (isNamed ss ii) = some ix) (w : World) (h : StoreOf w B F sv lv dv R ls ops fl ah kn) (hr : ReleaseReq w rb ss ii) :
  Calls Tryz.prog 226 #[.agg #[.pointer (some ⟨rb, 0, none⟩)], .pointer (some ⟨B, 0, none⟩)] w fun e w' => ∃ R' sv' lv' F', e = .returned (.tuple #[]) /\ Applied w w' B F dv (R.map StkR.abs) (ls.set ix ls[ix].free) ops fl ah kn R' sv' lv' F' := by
 refine (releasingApply_c rb ix ss ii hls hix hf w h hr).mono ?_
 rintro e w' ⟨rfl, q1, q2⟩
 refine ⟨R, sv, lv, _, rfl, q1, rfl, fun b hb => .inl hb, fun b hb => hb.imp id (fun h => h.1), q2.mono (fun b _ hb => .inl ?_)⟩
 rcases hb with e | e
 ·exact e ▸ h.fB
 ·exact h.fl' b e
end
end
-- VRz
section
set_option maxRecDepth 100000
set_option maxHeartbeats 6400000
open Go.RowKit Go.Maps
def lendS (S : List Stk) (kd m k n : Int) (c : Nat) : List Stk := match S.findIdx? (fun x => x.is kd m k n) with
 | some ix => S.modify ix (fun x => x.lend c)
 | none => S
def leasedAt (S : List Stk) (kd m k n : Int) : Int := match S.find? (fun x => x.is kd m k n) with
 | some x => x.leased
 | none => 0
def freeS (ls : List LsV) (s i : Int) : List LsV := match ls.findIdx? (isNamed s i) with
 | some ix => ls.modify ix LsV.free
 | none => ls
def applyS (S : List Stk) (ls : List LsV) : Chg -> Option (List Stk × List LsV)
 | .inl (kd, m, k, n, us) => if makeCode S kd m k n us.length = 0 then some (makeS S kd m k n us, ls) else none
 | .inr (.inl (s, i, kd, m, k, n, c)) => if (ls.findIdx? (isNamed s i)).isSome then none else if leaseCodeS S ls kd m k n c = 0 then some (lendS S kd m k n c, ls ++ [⟨s, i, kd, m, k, n, leasedAt S kd m k n, c, false⟩]) else none
 | .inr (.inr (s, i)) => if releaseCode ls s i = 0 then some (S, freeS ls s i) else none
def replayS : List ByteArray -> List Stk × List LsV -> List Stk × List LsV
 | [], st => st
 | r :: rs, st => match changeP r.data.toList with
  | none => st
  | some c => match applyS st.1 st.2 c with
   | none => st
   | some st' => replayS rs st'
structure BndS (S : List Stk) (ls : List LsV) : Prop where
 stocks : S.length <= 6
 made : ∀ x ∈ S, x.ts.length <= 200 /\ x.leased <= x.ts.length
 leases : ls.length <= 30
theorem modify_set {α : Type} (l : List α) (ix : Nat) (h : ix < l.length) (f : α -> α) : l.modify ix f = l.set ix (f l[ix]) := by
 apply List.ext_getElem (by simp)
 intro j h1 h2
 rw [List.getElem_modify, List.getElem_set]
 by_cases e : ix = j
 ·subst e; simp
 ·simp [e]
theorem lendS_eq {S : List Stk} {kd m k n : Int} {ix : Nat} (h : S.findIdx? (fun x => x.is kd m k n) = some ix) (hi : ix < S.length) (c : Nat) : lendS S kd m k n c = S.set ix (S[ix].lend c) := by
 unfold lendS
 rw [h]
 exact modify_set S ix hi _
theorem leasedAt_eq {S : List Stk} {kd m k n : Int} {x : Stk} (h : S.find? (fun x => x.is kd m k n) = some x) : leasedAt S kd m k n = x.leased := by
 unfold leasedAt
 rw [h]
theorem freeS_eq {ls : List LsV} {s i : Int} {ix : Nat} (h : ls.findIdx? (isNamed s i) = some ix) (hi : ix < ls.length) : freeS ls s i = ls.set ix ls[ix].free := by
 unfold freeS
 rw [h]
 exact modify_set ls ix hi _
theorem applyS_bnd {S : List Stk} {ls : List LsV} {c : Chg} {st : List Stk × List LsV} (h : BndS S ls) (ha : applyS S ls c = some st) : BndS st.1 st.2 := by
 rcases c with ⟨kd, m, k, n, us⟩ | ⟨s, i, kd, m, k, n, c⟩ | ⟨s, i⟩
 ·skip
  simp only [applyS] at ha
  split at ha
  ·rename_i hcd
   injection ha with ha
   subst ha
   unfold makeCode at hcd
   cases hf : S.findIdx? (fun x => x.is kd m k n) with
   | some ix =>
    obtain ⟨hix, hfi⟩ := find_idx hf
    rw [hfi] at hcd
    simp only at hcd
    have hle : ¬ 200 < S[ix].ts.length + us.length := fun h' => by rw [if_pos h'] at hcd; simp at hcd
    have e : makeS S kd m k n us = S.set ix (S[ix].more us) := by
     unfold makeS
     rw [hf]
     exact modify_set S ix hix _
    show BndS (makeS S kd m k n us) ls
    rw [e]
    refine ⟨by simpa using h.stocks, fun x hx => ?_, h.leases⟩
    rcases List.mem_or_eq_of_mem_set hx with hx | rfl
    ·exact h.made x hx
    ·have := h.made _ (List.getElem_mem hix)
     simp only [Stk.more, List.length_append]
     omega
   | none =>
    rw [find_none_idx hf] at hcd
    simp only at hcd
    have hle : ¬ (6 <= S.length \/ 200 < us.length) := fun h' => by rw [if_pos h'] at hcd; simp at hcd
    show BndS (makeS S kd m k n us) ls
    unfold makeS
    rw [hf]
    refine ⟨by simp; omega, fun x hx => ?_, h.leases⟩
    rcases List.mem_append.1 hx with hx | hx
    ·exact h.made x hx
    ·rw [List.mem_singleton.1 hx]
     simp
     omega
  ·cases ha
 ·skip
  simp only [applyS] at ha
  split at ha
  ·cases ha
  ·split at ha
   ·rename_i hcd
    injection ha with ha
    subst ha
    unfold leaseCodeS at hcd
    cases hf : S.findIdx? (fun x => x.is kd m k n) with
    | some ix =>
     obtain ⟨hix, hfi⟩ := find_idx hf
     rw [hfi] at hcd
     simp only at hcd
     split at hcd
     ·simp at hcd
     ·split at hcd
      ·simp at hcd
      ·split at hcd
       ·simp at hcd
       ·show BndS (lendS S kd m k n c) _
        rw [lendS_eq hf hix]
        refine ⟨by simpa using h.stocks, fun x hx => ?_, by simp; omega⟩
        rcases List.mem_or_eq_of_mem_set hx with hx | rfl
        ·exact h.made x hx
        ·have := h.made _ (List.getElem_mem hix)
         simp only [Stk.lend]
         omega
    | none =>
     rw [find_none_idx hf] at hcd
     simp at hcd
   ·cases ha
 ·skip
  simp only [applyS] at ha
  split at ha
  ·injection ha with ha
   subst ha
   refine ⟨h.stocks, h.made, ?_⟩
   show (freeS ls s i).length <= 30
   unfold freeS
   split
   ·simpa using h.leases
   ·exact h.leases
  ·cases ha
theorem set6 (w : World) (b : Nat) (v0 v1 v2 v3 v4 v5 : Value) : Turn (fun q => q = b) w ((((((w.setCell ⟨b, 0, none⟩ v0).setCell ⟨b, 1, none⟩ v1).setCell ⟨b, 2, none⟩ v2).setCell ⟨b, 3, none⟩ v3).setCell ⟨b, 4, none⟩ v4).setCell ⟨b, 5, none⟩ v5) :=
 Turn.setCell (S := fun q => q = b) (p := ⟨b, 5, none⟩) (Turn.setCell (S := fun q => q = b) (p := ⟨b, 4, none⟩) (Turn.setCell (S := fun q => q = b) (p := ⟨b, 3, none⟩) (Turn.setCell (S := fun q => q = b) (p := ⟨b, 2, none⟩) (Turn.setCell (S := fun q => q = b) (p := ⟨b, 1, none⟩) (Turn.setCell (S := fun q => q = b) (p := ⟨b, 0, none⟩) (Turn.refl _ w) (fun _ => rfl) v0) (fun _ => rfl) v1) (fun _ => rfl) v2) (fun _ => rfl) v3) (fun _ => rfl) v4) (fun _ => rfl) v5
theorem hid2 {p : Prop} (h : p) : Hid p := h
structure ReplaySo (w w' : World) (st : List Stk × List LsV) (B : Nat) (R : List StkR) (ls : List LsV) (F : Nat -> Prop) (sv lv : Value) : Prop where
 store : StoreOf w' B F sv lv (.slice none 0 0) R ls [] false 0 false
 eq : st = (R.map StkR.abs, ls)
 bnd : BndS (R.map StkR.abs) ls
 far : ∀ b, F b -> w.heap.size <= b
 ext : Ext w w'
theorem replay_c (g n cap : Nat) (recs : List ByteArray) (hn : recs.length = n) (hnb : n <= 1000000000) (hsz : ∀ r ∈ recs, r.size <= 1000000000) (ra : Option Addr) (w : World) (hr : n = 0 \/ ra = some ⟨g, 0, none⟩ /\ ∀ i (h : i < recs.length), w.cell? ⟨g, i, none⟩ = some (.string recs[i])) :
  Calls Tryz.prog 88 #[.slice ra n cap] w fun e w' => ∃ B R ls F sv lv, e = .returned (.agg #[sv, lv, .slice none 0 0, .bool false, .int .i64 0, .bool false]) /\ ReplaySo w w' (replayS recs ([], [])) B R ls F sv lv := by
 have HN : Hid (recs.length = n) := hn
 have HSz : Hid (∀ r ∈ recs, r.size <= 1000000000) := hsz
 have HR : Hid (n = 0 \/ ra = some ⟨g, 0, none⟩ /\ ∀ i (h : i < recs.length), w.cell? ⟨g, i, none⟩ = some (.string recs[i])) := hr
 obtain ⟨T0, hT0⟩ : ∃ T0, replayS recs ([], []) = T0 := ⟨_, rfl⟩
 have HT00 : Hid (replayS recs ([], []) = T0) := hT0
 rw [hT0]
 clear hn hsz hr hT0
 go_enter Tryz.func88, Tryz.ntmps88
 go_wp2_with fail
 have hz0 : ((w.alloc (.cells #[.slice none 0 0, .slice none 0 0, .slice none 0 0, .bool false, .int .i64 0, .bool false] 112)).alloc (.cells #[.slice none 0 0, .slice none 0 0, .slice none 0 0, .bool false, .int .i64 0, .bool false] 112)).heap[w.heap.size]? = some (.cells #[.slice none 0 0, .slice none 0 0, .slice none 0 0, .bool false, .int .i64 0, .bool false] 112 (0, 0)) := at_old (heap_alloc_new _ _)
 have hs0 : ((w.alloc (.cells #[.slice none 0 0, .slice none 0 0, .slice none 0 0, .bool false, .int .i64 0, .bool false] 112)).alloc (.cells #[.slice none 0 0, .slice none 0 0, .slice none 0 0, .bool false, .int .i64 0, .bool false] 112)).heap[w.heap.size + 1]? = some (.cells #[.slice none 0 0, .slice none 0 0, .slice none 0 0, .bool false, .int .i64 0, .bool false] 112 (0, 0)) := at_new (by simp)
 have hXW : Ext w ((w.alloc (.cells #[.slice none 0 0, .slice none 0 0, .slice none 0 0, .bool false, .int .i64 0, .bool false] 112)).alloc (.cells #[.slice none 0 0, .slice none 0 0, .slice none 0 0, .bool false, .int .i64 0, .bool false] 112)) := ((Ext.refl w).alloc _).alloc _
 obtain ⟨zb, hzb⟩ : ∃ zb, w.heap.size = zb := ⟨_, rfl⟩
 obtain ⟨B, hB⟩ : ∃ B, zb + 1 = B := ⟨_, rfl⟩
 have HZB : Hid (w.heap.size = zb /\ zb + 1 = B) := ⟨hzb, hB⟩
 simp only [hzb, hB] at hz0 hs0 ⊢
 generalize World.alloc (World.alloc w _) _ = W at hz0 hs0 hXW ⊢
 have HZ0 : Hid _ := hz0
 have HXW : Hid (Ext w W) := hXW
 have HS0 : Hid (StoreOf W B (fun b => b = B) (.slice none 0 0) (.slice none 0 0) (.slice none 0 0) [] [] [] false 0 false) := ⟨⟨_, .inr rfl, hs0⟩, World.ownsRow_nil _ _ _ _, World.ownsRow_nil _ _ _ _, World.ownsRow_nil _ _ _ _, by simp, by simp, by simp, rfl, fun q hq => by simp [lH] at hq, fun q hq => by simp [lH] at hq, fun q hq => by simp [lH] at hq, fun b hb => by rw [hb]; exact (Array.getElem?_eq_some_iff.1 hs0).1, .inl rfl, .inl rfl⟩
 have HFin : Hid (∀ (wr w' : World), Ext w wr -> ∀ (R : List StkR) (ls : List LsV) (F : Nat -> Prop) (sv lv : Value), StoreOf wr B F sv lv (.slice none 0 0) R ls [] false 0 false -> T0 = (R.map StkR.abs, ls) -> BndS (R.map StkR.abs) ls -> (∀ b, F b -> B <= b) -> Turn (fun q => q = zb) wr w' -> ∃ B R ls F sv' lv', Ending.returned (.agg #[sv, lv, .slice none 0 0, .bool false, .int .i64 0, .bool false]) = .returned (.agg #[sv', lv', .slice none 0 0, .bool false, .int .i64 0, .bool false]) /\ ReplaySo w w' T0 B R ls F sv' lv') := fun wr w' hx R ls F sv lv h1 h2 h3 h4 h5 => by
  have hzz := HZB.out
  exact ⟨B, R, ls, F, sv, lv, rfl, h1.turn h5 (fun b hb e => by have := h4 b hb; omega), h2, h3, fun b hb => by have := h4 b hb; omega, Turn.ext ((Turn.of_ext (S := fun _ => False) hx).trans' h5 (fun b hb e => by omega))⟩
 clear hz0 hs0 hXW hzb hB
 go_loopw [5, 6, 9] (fun _ _ iv wr => ∃ (j : Nat) (R : List StkR) (ls : List LsV) (F : Nat -> Prop) (sv lv : Value), j <= n /\ iv = .int .i64 (j : Int) /\ StoreOf wr B F sv lv (.slice none 0 0) R ls [] false 0 false /\ replayS (recs.drop j) (R.map StkR.abs, ls) = T0 /\ BndS (R.map StkR.abs) ls /\ (∀ b, F b -> B <= b) /\ wr.heap[zb]? = some (.cells #[.slice none 0 0, .slice none 0 0, .slice none 0 0, .bool false, .int .i64 0, .bool false] 112 (0, 0)) /\ Ext w wr) (fun _ _ iv _ => n - (intOf iv).toNat)
 case atStart => exact ⟨0, [], [], _, _, _, Nat.zero_le _, rfl, HS0.out, HT00.out, ⟨by simp, by simp, by simp⟩, fun b hb => by rw [hb]; exact Nat.le_refl _, HZ0.out, HXW.out⟩
 case round =>
  obtain ⟨j, R, ls, F, sv, lv, hj, rfl, hs, ht0, hbn, hfl, hz, hx⟩ := hrel
  obtain ⟨sa, scap, rfl⟩ := owns_slice hs.srow
  obtain ⟨la, lcap, rfl⟩ := owns_slice hs.lrow
  obtain ⟨rn, hrn⟩ : ∃ rn, R.length = rn := ⟨_, rfl⟩
  obtain ⟨ln, hln⟩ : ∃ ln, ls.length = ln := ⟨_, rfl⟩
  rw [hrn, hln] at hs
  have HRN : Hid (R.length = rn /\ ls.length = ln) := ⟨hrn, hln⟩
  clear hrn hln
  have HS : Hid (StoreOf wr B F (.slice sa rn scap) (.slice la ln lcap) (.slice none 0 0) R ls [] false 0 false) := hs
  have HT : Hid (replayS (recs.drop j) (R.map StkR.abs, ls) = T0) := ht0
  have HBn : Hid (BndS (R.map StkR.abs) ls) := hbn
  have HFl : Hid (∀ b, F b -> B <= b) := hfl
  have HZ : Hid _ := hz
  have HX : Hid (Ext w wr) := hx
  by_cases hlt : j < n
  ·have hjl : j < recs.length := by rw [HN.out]; exact hlt
   obtain ⟨hra, hcells⟩ := HR.out.resolve_left (by omega)
   have cr := hx.cell (hcells j hjl)
   have hrs := HSz.out _ (List.getElem_mem hjl)
   have hT := HT.out
   rw [List.drop_eq_getElem_cons hjl] at hT
   obtain ⟨r, hr⟩ : ∃ r, recs[j] = r := ⟨_, rfl⟩
   rw [hr] at cr hrs hT
   subst hra
   have hgl := lG wr _ cr
   have hk0 : (0 : Int) <= (j : Int) := by omega
   have hk1 : (j : Int) < n := by omega
   have HRd : Hid (∀ w', _) := fun w' => read_c r hrs w'
   have HTr : Hid (replayS (r :: recs.drop (j + 1)) (R.map StkR.abs, ls) = T0) := hT
   clear hs ht0 hbn hfl hz hx hT hr hcells
   go_wp2_with fail
   refine (HRd.out _).mono ?_
   intro e w2 hso
   cases hc : changeP r.data.toList with
   | none =>
    rw [hc] at hso
    rcases hso.ex with ⟨_, rfl, hx2⟩ | ⟨_, _, _, _, _, _, _, h, _⟩ | ⟨_, _, _, _, _, _, _, _, h, _⟩ | ⟨_, _, _, h, _⟩
    ·skip
     have HT0 : Hid (T0 = (R.map StkR.abs, ls)) := by
      show _ = _
      rw [<- HTr.out]
      unfold replayS
      rw [hc]
     have HS := hid2 (HS.out.ext hx2)
     have HZ := hid2 (hx2.block HZ.out)
     have HX := hid2 (HX.out.trans hx2)
     clear hc hx2
     obtain ⟨d0, d1, d2, d3, d4, d5⟩ := HS.out.deal.cells
     have z0 := cell_at HZ.out (i := 0) rfl
     have z1 := cell_at HZ.out (i := 1) rfl
     have z2 := cell_at HZ.out (i := 2) rfl
     have z3 := cell_at HZ.out (i := 3) rfl
     have z4 := cell_at HZ.out (i := 4) rfl
     have z5 := cell_at HZ.out (i := 5) rfl
     have f0 := frozen_row HZ.out 0
     have f1 := frozen_row HZ.out 1
     have f2 := frozen_row HZ.out 2
     have f3 := frozen_row HZ.out 3
     have f4 := frozen_row HZ.out 4
     have f5 := frozen_row HZ.out 5
     have hBl := lG w2 _ d0
     have hzl := lG w2 _ z0
     go_wp2
     have hb6 : ((((((w2.setCell ⟨zb, 0, none⟩ (.slice sa rn scap)).setCell ⟨zb, 1, none⟩ (.slice la ln lcap)).setCell ⟨zb, 2, none⟩ (.slice none 0 0)).setCell ⟨zb, 3, none⟩ (.bool false)).setCell ⟨zb, 4, none⟩ (.int .i64 0)).setCell ⟨zb, 5, none⟩ (.bool false)).heap[zb]? = some (.cells #[.slice sa rn scap, .slice la ln lcap, .slice none 0 0, .bool false, .int .i64 0, .bool false] 112 (0, 0)) := setCell_row (setCell_row (setCell_row (setCell_row (setCell_row (setCell_row HZ.out _) _) _) _) _) _
     have hT6 : Turn (fun q => q = zb) w2 ((((((w2.setCell ⟨zb, 0, none⟩ (.slice sa rn scap)).setCell ⟨zb, 1, none⟩ (.slice la ln lcap)).setCell ⟨zb, 2, none⟩ (.slice none 0 0)).setCell ⟨zb, 3, none⟩ (.bool false)).setCell ⟨zb, 4, none⟩ (.int .i64 0)).setCell ⟨zb, 5, none⟩ (.bool false)) := set6 _ _ _ _ _ _ _ _
     have k0 := cell_at hb6 (i := 0) rfl
     have k1 := cell_at hb6 (i := 1) rfl
     have k2 := cell_at hb6 (i := 2) rfl
     have k3 := cell_at hb6 (i := 3) rfl
     have k4 := cell_at hb6 (i := 4) rfl
     have k5 := cell_at hb6 (i := 5) rfl
     generalize World.setCell (World.setCell (World.setCell (World.setCell (World.setCell (World.setCell w2 _ _) _ _) _ _) _ _) _ _) _ _ = w6 at hb6 hT6 k0 k1 k2 k3 k4 k5 ⊢
     refine bodyPost_ret (v := .agg #[.slice sa rn scap, .slice la ln lcap, .slice none 0 0, .bool false, .int .i64 0, .bool false]) (by simp [results, Tryz.results88, go_sem, k0, k1, k2, k3, k4, k5]) rfl ?_
     exact HFin.out _ _ HX.out R ls F _ _ HS.out HT0.out HBn.out HFl.out hT6
    ·cases h
    ·cases h
    ·cases h
   | some cc =>
    rw [hc] at hso
    have hbs := HBn.out
    have hR : R.length <= 100 := by have := hbs.stocks; simp at this; omega
    have hRm : ∀ x ∈ R, x.ts.length <= 1000 /\ x.leased <= 1000 := fun x hx => by
     have := hbs.made x.abs (List.mem_map.2 ⟨x, hx, rfl⟩)
     have e1 : x.abs.ts.length = x.ts.length := rfl
     have e2 : x.abs.leased = x.leased := rfl
     omega
    have hls : ls.length <= 900 := by have := hbs.leases; omega
    cases ha : applyS (R.map StkR.abs) ls cc with
    | none =>
     have HTn : Hid (T0 = (R.map StkR.abs, ls)) := by
      show _ = _
      rw [<- HTr.out]
      unfold replayS
      rw [hc]
      simp only [ha]
     rcases hso.ex with ⟨h, _⟩ | ⟨kd, m, k, nn, us, gt, tcap, h, rfl, hcl, hu1, hu2, htr, hgt, hx2⟩ | ⟨s, i, kd, m, k, nn, c, rb, h, rfl, hq, hgt, hx2⟩ | ⟨s, i, rb, h, rfl, hq, hgt, hx2⟩
     ·cases h
     ·injection h with h
      subst h
      have HS2 := hid2 (HS.out.ext hx2)
      have HZ2 := hid2 (hx2.block HZ.out)
      have HX2 := hid2 (HX.out.trans hx2)
      have hcd : makeCode (R.map StkR.abs) kd m k nn us.length ≠ 0 := fun e => by simp [applyS, e] at ha
      obtain ⟨cd, hcdd⟩ : ∃ cd, makeCode (R.map StkR.abs) kd m k nn us.length = cd := ⟨_, rfl⟩
      have HA : Hid (∀ w', Ext w2 w' -> Calls Tryz.prog 206 #[.agg #[.int .i64 kd, .int .i64 m, .int .i64 k, .int .i64 nn, .slice (some ⟨gt, 0, none⟩) us.length tcap], .pointer (some ⟨B, 0, none⟩)] w' fun e w'' => e = .returned (.int .i64 cd) /\ Ext w' w'') := fun w' hx => by
       have := makingAgainstBig_c kd m k nn (some ⟨gt, 0, none⟩) us.length tcap (by omega) hR (fun x hx => (hRm x hx).1) w' (HS2.out.ext hx)
       exact this.mono fun e w'' h => ⟨h.1.trans (by rw [<- hcdd, makeCode_abs]; cases R.find? (fun x : StkR => x.is (kd : Int) m k nn) <;> rfl), h.2⟩
      rw [hcdd] at hcd
      have hcd1 : (cd == 0) = false := by simpa using hcd
      have hcd2 : (cd != 0) = true := by simpa using hcd
      have h1 := mm_against
      obtain ⟨ul, hul⟩ : ∃ ul, us.length = ul := ⟨_, rfl⟩
      rw [hul] at HA
      simp only [hul]
      clear ha hc hcd hcdd htr hx2 hbs hR hRm hls hu1 hu2 hul
      go_wp2_with fail
      refine (HA.out _ (Ext.refl _)).mono ?_
      rintro e w3 ⟨rfl, hx3⟩
      have HT0 : Hid (T0 = (R.map StkR.abs, ls)) := HTn.out
      have HS := hid2 (HS2.out.ext hx3)
      have HZ := hid2 (hx3.block HZ2.out)
      have HX := hid2 (HX2.out.trans hx3)
      clear hx3
      obtain ⟨d0, d1, d2, d3, d4, d5⟩ := HS.out.deal.cells
      have z0 := cell_at HZ.out (i := 0) rfl
      have z1 := cell_at HZ.out (i := 1) rfl
      have z2 := cell_at HZ.out (i := 2) rfl
      have z3 := cell_at HZ.out (i := 3) rfl
      have z4 := cell_at HZ.out (i := 4) rfl
      have z5 := cell_at HZ.out (i := 5) rfl
      have f0 := frozen_row HZ.out 0
      have f1 := frozen_row HZ.out 1
      have f2 := frozen_row HZ.out 2
      have f3 := frozen_row HZ.out 3
      have f4 := frozen_row HZ.out 4
      have f5 := frozen_row HZ.out 5
      have hBl := lG w3 _ d0
      have hzl := lG w3 _ z0
      go_wp2
      have hb6 : ((((((w3.setCell ⟨zb, 0, none⟩ (.slice sa rn scap)).setCell ⟨zb, 1, none⟩ (.slice la ln lcap)).setCell ⟨zb, 2, none⟩ (.slice none 0 0)).setCell ⟨zb, 3, none⟩ (.bool false)).setCell ⟨zb, 4, none⟩ (.int .i64 0)).setCell ⟨zb, 5, none⟩ (.bool false)).heap[zb]? = some (.cells #[.slice sa rn scap, .slice la ln lcap, .slice none 0 0, .bool false, .int .i64 0, .bool false] 112 (0, 0)) := setCell_row (setCell_row (setCell_row (setCell_row (setCell_row (setCell_row HZ.out _) _) _) _) _) _
      have hT6 : Turn (fun q => q = zb) w3 ((((((w3.setCell ⟨zb, 0, none⟩ (.slice sa rn scap)).setCell ⟨zb, 1, none⟩ (.slice la ln lcap)).setCell ⟨zb, 2, none⟩ (.slice none 0 0)).setCell ⟨zb, 3, none⟩ (.bool false)).setCell ⟨zb, 4, none⟩ (.int .i64 0)).setCell ⟨zb, 5, none⟩ (.bool false)) := set6 _ _ _ _ _ _ _ _
      have k0 := cell_at hb6 (i := 0) rfl
      have k1 := cell_at hb6 (i := 1) rfl
      have k2 := cell_at hb6 (i := 2) rfl
      have k3 := cell_at hb6 (i := 3) rfl
      have k4 := cell_at hb6 (i := 4) rfl
      have k5 := cell_at hb6 (i := 5) rfl
      generalize World.setCell (World.setCell (World.setCell (World.setCell (World.setCell (World.setCell w3 _ _) _ _) _ _) _ _) _ _) _ _ = w6 at hb6 hT6 k0 k1 k2 k3 k4 k5 ⊢
      refine bodyPost_ret (v := .agg #[.slice sa rn scap, .slice la ln lcap, .slice none 0 0, .bool false, .int .i64 0, .bool false]) (by simp [results, Tryz.results88, go_sem, k0, k1, k2, k3, k4, k5]) rfl ?_
      exact HFin.out _ _ HX.out R ls F _ _ HS.out HT0.out HBn.out HFl.out hT6
     ·injection h with h
      subst h
      have HS2 := hid2 (HS.out.ext hx2)
      have HZ2 := hid2 (hx2.block HZ.out)
      have HX2 := hid2 (HX.out.trans hx2)
      have HA : Hid (∃ cd : Int, cd ≠ 0 /\ ∀ w', Ext w2 w' -> Calls Tryz.prog 223 #[.agg #[.pointer (some ⟨rb, 0, none⟩)], .pointer (some ⟨B, 0, none⟩)] w' fun e w'' => e = .returned (.int .i64 cd) /\ Ext w' w'') := by
       cases hf : ls.findIdx? (isNamed s i) with
       | some ix =>
        obtain ⟨hix, _⟩ := find_idx hf
        exact ⟨6, by decide, fun w' hx => leasingAgainstSome_c rb ix kd m k nn s i c hR (by omega) hf hix w' (HS2.out.ext hx) (hx.block hq)⟩
       | none =>
        have hcd : leaseCodeS (R.map StkR.abs) ls kd m k nn c ≠ 0 := fun e => by simp [applyS, hf, e] at ha
        exact ⟨leaseCodeS (R.map StkR.abs) ls kd m k nn c, hcd, fun w' hx => by
         have := leasingAgainst_c rb kd m k nn s i c hR (by omega) hRm hf w' (HS2.out.ext hx) (hx.block hq)
         rw [leaseCode_abs] at this
         exact this⟩
      obtain ⟨cd, hcd, HA⟩ := HA.out
      have HA := hid2 HA
      have hcd1 : (cd == 0) = false := by simpa using hcd
      have hcd2 : (cd != 0) = true := by simpa using hcd
      have h1 := ml_against
      clear ha hc hcd hq hx2 hbs hR hRm hls
      go_wp2_with fail
      refine (HA.out _ (Ext.refl _)).mono ?_
      rintro e w3 ⟨rfl, hx3⟩
      have HT0 : Hid (T0 = (R.map StkR.abs, ls)) := HTn.out
      have HS := hid2 (HS2.out.ext hx3)
      have HZ := hid2 (hx3.block HZ2.out)
      have HX := hid2 (HX2.out.trans hx3)
      clear hx3
      obtain ⟨d0, d1, d2, d3, d4, d5⟩ := HS.out.deal.cells
      have z0 := cell_at HZ.out (i := 0) rfl
      have z1 := cell_at HZ.out (i := 1) rfl
      have z2 := cell_at HZ.out (i := 2) rfl
      have z3 := cell_at HZ.out (i := 3) rfl
      have z4 := cell_at HZ.out (i := 4) rfl
      have z5 := cell_at HZ.out (i := 5) rfl
      have f0 := frozen_row HZ.out 0
      have f1 := frozen_row HZ.out 1
      have f2 := frozen_row HZ.out 2
      have f3 := frozen_row HZ.out 3
      have f4 := frozen_row HZ.out 4
      have f5 := frozen_row HZ.out 5
      have hBl := lG w3 _ d0
      have hzl := lG w3 _ z0
      go_wp2
      have hb6 : ((((((w3.setCell ⟨zb, 0, none⟩ (.slice sa rn scap)).setCell ⟨zb, 1, none⟩ (.slice la ln lcap)).setCell ⟨zb, 2, none⟩ (.slice none 0 0)).setCell ⟨zb, 3, none⟩ (.bool false)).setCell ⟨zb, 4, none⟩ (.int .i64 0)).setCell ⟨zb, 5, none⟩ (.bool false)).heap[zb]? = some (.cells #[.slice sa rn scap, .slice la ln lcap, .slice none 0 0, .bool false, .int .i64 0, .bool false] 112 (0, 0)) := setCell_row (setCell_row (setCell_row (setCell_row (setCell_row (setCell_row HZ.out _) _) _) _) _) _
      have hT6 : Turn (fun q => q = zb) w3 ((((((w3.setCell ⟨zb, 0, none⟩ (.slice sa rn scap)).setCell ⟨zb, 1, none⟩ (.slice la ln lcap)).setCell ⟨zb, 2, none⟩ (.slice none 0 0)).setCell ⟨zb, 3, none⟩ (.bool false)).setCell ⟨zb, 4, none⟩ (.int .i64 0)).setCell ⟨zb, 5, none⟩ (.bool false)) := set6 _ _ _ _ _ _ _ _
      have k0 := cell_at hb6 (i := 0) rfl
      have k1 := cell_at hb6 (i := 1) rfl
      have k2 := cell_at hb6 (i := 2) rfl
      have k3 := cell_at hb6 (i := 3) rfl
      have k4 := cell_at hb6 (i := 4) rfl
      have k5 := cell_at hb6 (i := 5) rfl
      generalize World.setCell (World.setCell (World.setCell (World.setCell (World.setCell (World.setCell w3 _ _) _ _) _ _) _ _) _ _) _ _ = w6 at hb6 hT6 k0 k1 k2 k3 k4 k5 ⊢
      refine bodyPost_ret (v := .agg #[.slice sa rn scap, .slice la ln lcap, .slice none 0 0, .bool false, .int .i64 0, .bool false]) (by simp [results, Tryz.results88, go_sem, k0, k1, k2, k3, k4, k5]) rfl ?_
      exact HFin.out _ _ HX.out R ls F _ _ HS.out HT0.out HBn.out HFl.out hT6
     ·injection h with h
      subst h
      have HS2 := hid2 (HS.out.ext hx2)
      have HZ2 := hid2 (hx2.block HZ.out)
      have HX2 := hid2 (HX.out.trans hx2)
      have hcd : releaseCode ls s i ≠ 0 := fun e => by simp [applyS, e] at ha
      obtain ⟨cd, hcdd⟩ : ∃ cd, releaseCode ls s i = cd := ⟨_, rfl⟩
      have HA : Hid (∀ w', Ext w2 w' -> Calls Tryz.prog 225 #[.agg #[.pointer (some ⟨rb, 0, none⟩)], .pointer (some ⟨B, 0, none⟩)] w' fun e w'' => e = .returned (.int .i64 cd) /\ Ext w' w'') := fun w' hx => by
       have := releasingAgainst_c rb s i (by omega) w' (HS2.out.ext hx) (hx.block hq)
       rw [hcdd] at this
       exact this
      rw [hcdd] at hcd
      have hcd1 : (cd == 0) = false := by simpa using hcd
      have hcd2 : (cd != 0) = true := by simpa using hcd
      have h1 := mr_against
      clear ha hc hcd hcdd hq hx2 hbs hR hRm hls
      go_wp2_with fail
      refine (HA.out _ (Ext.refl _)).mono ?_
      rintro e w3 ⟨rfl, hx3⟩
      have HT0 : Hid (T0 = (R.map StkR.abs, ls)) := HTn.out
      have HS := hid2 (HS2.out.ext hx3)
      have HZ := hid2 (hx3.block HZ2.out)
      have HX := hid2 (HX2.out.trans hx3)
      clear hx3
      obtain ⟨d0, d1, d2, d3, d4, d5⟩ := HS.out.deal.cells
      have z0 := cell_at HZ.out (i := 0) rfl
      have z1 := cell_at HZ.out (i := 1) rfl
      have z2 := cell_at HZ.out (i := 2) rfl
      have z3 := cell_at HZ.out (i := 3) rfl
      have z4 := cell_at HZ.out (i := 4) rfl
      have z5 := cell_at HZ.out (i := 5) rfl
      have f0 := frozen_row HZ.out 0
      have f1 := frozen_row HZ.out 1
      have f2 := frozen_row HZ.out 2
      have f3 := frozen_row HZ.out 3
      have f4 := frozen_row HZ.out 4
      have f5 := frozen_row HZ.out 5
      have hBl := lG w3 _ d0
      have hzl := lG w3 _ z0
      go_wp2
      have hb6 : ((((((w3.setCell ⟨zb, 0, none⟩ (.slice sa rn scap)).setCell ⟨zb, 1, none⟩ (.slice la ln lcap)).setCell ⟨zb, 2, none⟩ (.slice none 0 0)).setCell ⟨zb, 3, none⟩ (.bool false)).setCell ⟨zb, 4, none⟩ (.int .i64 0)).setCell ⟨zb, 5, none⟩ (.bool false)).heap[zb]? = some (.cells #[.slice sa rn scap, .slice la ln lcap, .slice none 0 0, .bool false, .int .i64 0, .bool false] 112 (0, 0)) := setCell_row (setCell_row (setCell_row (setCell_row (setCell_row (setCell_row HZ.out _) _) _) _) _) _
      have hT6 : Turn (fun q => q = zb) w3 ((((((w3.setCell ⟨zb, 0, none⟩ (.slice sa rn scap)).setCell ⟨zb, 1, none⟩ (.slice la ln lcap)).setCell ⟨zb, 2, none⟩ (.slice none 0 0)).setCell ⟨zb, 3, none⟩ (.bool false)).setCell ⟨zb, 4, none⟩ (.int .i64 0)).setCell ⟨zb, 5, none⟩ (.bool false)) := set6 _ _ _ _ _ _ _ _
      have k0 := cell_at hb6 (i := 0) rfl
      have k1 := cell_at hb6 (i := 1) rfl
      have k2 := cell_at hb6 (i := 2) rfl
      have k3 := cell_at hb6 (i := 3) rfl
      have k4 := cell_at hb6 (i := 4) rfl
      have k5 := cell_at hb6 (i := 5) rfl
      generalize World.setCell (World.setCell (World.setCell (World.setCell (World.setCell (World.setCell w3 _ _) _ _) _ _) _ _) _ _) _ _ = w6 at hb6 hT6 k0 k1 k2 k3 k4 k5 ⊢
      refine bodyPost_ret (v := .agg #[.slice sa rn scap, .slice la ln lcap, .slice none 0 0, .bool false, .int .i64 0, .bool false]) (by simp [results, Tryz.results88, go_sem, k0, k1, k2, k3, k4, k5]) rfl ?_
      exact HFin.out _ _ HX.out R ls F _ _ HS.out HT0.out HBn.out HFl.out hT6
    | some st' =>
     have HBn2 : Hid (BndS st'.1 st'.2) := applyS_bnd hbs ha
     have HTn : Hid (replayS (recs.drop (j + 1)) st' = T0) := by
      show _ = _
      rw [<- HTr.out]
      conv => rhs; unfold replayS
      rw [hc]
      simp only [ha]
     rcases hso.ex with ⟨h, _⟩ | ⟨kd, m, k, nn, us, gt, tcap, h, rfl, hcl, hu1, hu2, htr, hgt, hx2⟩ | ⟨s, i, kd, m, k, nn, c, rb, h, rfl, hq, hgt, hx2⟩ | ⟨s, i, rb, h, rfl, hq, hgt, hx2⟩
     ·cases h
     ·injection h with h
      subst h
      have hcd : makeCode (R.map StkR.abs) kd m k nn us.length = 0 := by
       cases hq : decide (makeCode (R.map StkR.abs) kd m k nn us.length = 0) with
       | true => simpa using hq
       | false => simp at hq; simp [applyS, hq] at ha
      simp only [applyS] at ha
      rw [if_pos hcd] at ha
      injection ha with ha
      subst ha
      have hu3 : us.length <= 200 := by
       unfold makeCode at hcd
       split at hcd
       ·split at hcd
        ·simp at hcd
        ·omega
       ·split at hcd
        ·simp at hcd
        ·omega
      have HS2 := hid2 (HS.out.ext hx2)
      have HZ2 := hid2 (hx2.block HZ.out)
      have HX2 := hid2 (HX.out.trans hx2)
      have HW2 : Hid (wr.heap.size <= w2.heap.size) := hx2.le
      have HA : Hid (∀ w', Ext w2 w' -> Calls Tryz.prog 206 #[.agg #[.int .i64 kd, .int .i64 m, .int .i64 k, .int .i64 nn, .slice (some ⟨gt, 0, none⟩) us.length tcap], .pointer (some ⟨B, 0, none⟩)] w' fun e w'' => e = .returned (.int .i64 0) /\ Ext w' w'') := fun w' hx => by
       have := makingAgainstBig_c kd m k nn (some ⟨gt, 0, none⟩) us.length tcap (by omega) hR (fun x hx => (hRm x hx).1) w' (HS2.out.ext hx)
       have t2 := this.mono (R' := fun e w'' => e = .returned (.int .i64 (makeCode (R.map StkR.abs) kd m k nn us.length)) /\ Ext w' w'') fun e w'' h => ⟨h.1.trans (by rw [makeCode_abs]; cases R.find? (fun x : StkR => x.is (kd : Int) m k nn) <;> rfl), h.2⟩
       rw [hcd] at t2
       exact t2
      have HAp : Hid (∀ w', Ext w2 w' -> Calls Tryz.prog 207 #[.agg #[.int .i64 kd, .int .i64 m, .int .i64 k, .int .i64 nn, .slice (some ⟨gt, 0, none⟩) us.length tcap], .pointer (some ⟨B, 0, none⟩)] w' fun e w'' => ∃ R' sv' lv' F', e = .returned (.tuple #[]) /\ Applied w' w'' B (fun b => F b \/ wr.heap.size <= b /\ b < w'.heap.size) (.slice none 0 0) (makeS (R.map StkR.abs) kd m k nn us) ls [] false 0 false R' sv' lv' F') := fun w' hx => by
       have hl := HW2.out
       have hl2 := hx.le
       exact makingDone_c kd m k nn gt tcap us us.length rfl (by omega) hcl hR (fun x hx => (hRm x hx).1) w' ((HS2.out.ext hx).mono (fun b hb => .inl hb) (fun b hb => by
        rcases hb with e | e
        ·exact (HS2.out.ext hx).lt b e
        ·exact e.2)) ((htr.turn (S := fun _ => False) (Turn.of_ext hx) id (fun _ _ _ => id)).grown F)
      have h1 := mm_against
      have h2 := mm_apply
      obtain ⟨ul, hul⟩ : ∃ ul, us.length = ul := ⟨_, rfl⟩
      rw [hul] at HA HAp
      simp only [hul]
      clear hc hcd htr hx2 hbs hR hRm hls hu1 hu2 hu3 hul
      go_wp2_with fail
      refine (HA.out _ (Ext.refl _)).mono ?_
      rintro e w3 ⟨rfl, hx3⟩
      have HS3 := hid2 (HS2.out.ext hx3)
      have HZ3 := hid2 (hx3.block HZ2.out)
      have HX3 := hid2 (HX2.out.trans hx3)
      have HX23 : Hid (Ext w2 w3) := hx3
      have hle3 := hx3.le
      clear hx3
      go_wp2_with fail
      refine (HAp.out _ HX23.out).mono ?_
      rintro e w4 ⟨R', sv', lv', F', rfl, happ⟩
      have HQ := hid2 happ
      clear happ
      go_wp2
      go_roundw
      case rel =>
       have hq := HQ.out
       have hzz := HZB.out
       have hwl := HX3.out.le
       have hBw := (HS.out.lt B HS.out.fB)
       have hw2l := HW2.out
       have hFB : ∀ b, F' b -> B <= b := fun b hb => by
        rcases hq.new b hb with e | e
        ·rcases e with e | e
         ·exact HFl.out b e
         ·omega
        ·omega
       exact ⟨j + 1, R', ls, F', sv', lv', by omega, by go_num, hq.store, by rw [hq.abs]; exact HTn.out, by rw [hq.abs]; exact HBn2.out, hFB, hq.turn.ref HZ3.out (fun e => by have := hFB _ e; omega), Turn.ext ((Turn.of_ext (S := fun _ => False) HX3.out).trans' hq.turn (fun b hb e => by have := hFB _ e; omega))⟩
      case measure => simp [intOf]; omega
     ·injection h with h
      subst h
      have HS2 := hid2 (HS.out.ext hx2)
      have HZ2 := hid2 (hx2.block HZ.out)
      have HX2 := hid2 (HX.out.trans hx2)
      have HW2 : Hid (wr.heap.size <= w2.heap.size) := hx2.le
      have hf : ls.findIdx? (isNamed (s : Int) i) = none := by
       cases hf : ls.findIdx? (isNamed (s : Int) i) with
       | none => rfl
       | some ix => simp [applyS, hf] at ha
      have hcd : leaseCodeS (R.map StkR.abs) ls kd m k nn c = 0 := by
       cases hq : decide (leaseCodeS (R.map StkR.abs) ls kd m k nn c = 0) with
       | true => simpa using hq
       | false => simp at hq; simp [applyS, hf, hq] at ha
      simp only [applyS] at ha
      rw [if_neg (by rw [hf]; simp), if_pos hcd] at ha
      injection ha with ha
      subst ha
      have HA : Hid (∀ w', Ext w2 w' -> Calls Tryz.prog 223 #[.agg #[.pointer (some ⟨rb, 0, none⟩)], .pointer (some ⟨B, 0, none⟩)] w' fun e w'' => e = .returned (.int .i64 0) /\ Ext w' w'') := fun w' hx => by
       have := leasingAgainst_c rb kd m k nn s i c hR (by omega) hRm hf w' (HS2.out.ext hx) (hx.block hq)
       rw [leaseCode_abs, hcd] at this
       exact this
      obtain ⟨ix, hixR, hfx, hfR, hc40⟩ : ∃ ix, ∃ hixR : ix < R.length, (R.map StkR.abs).findIdx? (fun x => x.is kd m k nn) = some ix /\ R.find? (fun x => x.is kd m k nn) = some R[ix] /\ c <= 100 := by
       cases hfx : (R.map StkR.abs).findIdx? (fun x => x.is kd m k nn) with
       | none =>
        unfold leaseCodeS at hcd
        rw [find_none_idx hfx] at hcd
        simp at hcd
       | some ix =>
        obtain ⟨hix, hfi⟩ := find_idx hfx
        have hixR : ix < R.length := by simpa using hix
        refine ⟨ix, hixR, rfl, ?_, ?_⟩
        ·rw [idx_abs] at hfx
         obtain ⟨_, h2⟩ := find_idx hfx
         exact h2
        ·unfold leaseCodeS at hcd
         rw [hfi] at hcd
         simp only at hcd
         split at hcd
         ·simp at hcd
         ·omega
      have hix : ix < (R.map StkR.abs).length := by simpa using hixR
      have hab : (R.map StkR.abs)[ix] = R[ix].abs := by simp
      have hla : leasedAt (R.map StkR.abs) kd m k nn = R[ix].leased := by
       obtain ⟨_, hfi⟩ := find_idx hfx
       rw [leasedAt_eq hfi, hab]; rfl
      have hld : lendS (R.map StkR.abs) kd m k nn c = (R.map StkR.abs).set ix (R[ix].abs.lend c) := by rw [lendS_eq hfx hix, hab]
      rw [hla, hld] at HTn HBn2
      have HAp : Hid (∀ w', Ext w2 w' -> Calls Tryz.prog 224 #[.agg #[.pointer (some ⟨rb, 0, none⟩)], .pointer (some ⟨B, 0, none⟩)] w' fun e w'' => ∃ R' sv' lv' F', e = .returned (.tuple #[]) /\ Applied w' w'' B F (.slice none 0 0) ((R.map StkR.abs).set ix (R[ix].abs.lend c)) (ls ++ [⟨s, i, kd, m, k, nn, R[ix].leased, c, false⟩]) [] false 0 false R' sv' lv' F') := fun w' hx => leasingDone_c rb ix kd m k nn s i c hc40 hR (by omega) hixR hfR (hRm _ (List.getElem_mem hixR)).2 w' (HS2.out.ext hx) (hx.block hq)
      have h1 := ml_against
      have h2 := ml_apply
      clear hc hcd hf hq hx2 hbs hR hRm hls hfx hfR hc40 hla hld hab
      generalize (R.map StkR.abs).set ix (R[ix].abs.lend c) = S1 at *
      generalize (R[ix].leased : Int) = l1 at *
      clear hix hixR
      go_wp2_with fail
      refine (HA.out _ (Ext.refl _)).mono ?_
      rintro e w3 ⟨rfl, hx3⟩
      have HS3 := hid2 (HS2.out.ext hx3)
      have HZ3 := hid2 (hx3.block HZ2.out)
      have HX3 := hid2 (HX2.out.trans hx3)
      have HX23 : Hid (Ext w2 w3) := hx3
      have hle3 := hx3.le
      clear hx3
      go_wp2_with fail
      refine (HAp.out _ HX23.out).mono ?_
      rintro e w4 ⟨R', sv', lv', F', rfl, happ⟩
      have HQ := hid2 happ
      clear happ
      go_wp2
      go_roundw
      case rel =>
       have hq := HQ.out
       have hzz := HZB.out
       have hwl := HX3.out.le
       have hBw := (HS.out.lt B HS.out.fB)
       have hw2l := HW2.out
       have hFB : ∀ b, F' b -> B <= b := fun b hb => by
        rcases hq.new b hb with e | e
        ·exact HFl.out b e
        ·omega
       exact ⟨j + 1, R', _, F', sv', lv', by omega, by go_num, hq.store, by rw [hq.abs]; exact HTn.out, by rw [hq.abs]; exact HBn2.out, hFB, hq.turn.ref HZ3.out (fun e => by have := hFB _ e; omega), Turn.ext ((Turn.of_ext (S := fun _ => False) HX3.out).trans' hq.turn (fun b hb e => by have := hFB _ e; omega))⟩
      case measure => simp [intOf]; omega
     ·injection h with h
      subst h
      have HS2 := hid2 (HS.out.ext hx2)
      have HZ2 := hid2 (hx2.block HZ.out)
      have HX2 := hid2 (HX.out.trans hx2)
      have HW2 : Hid (wr.heap.size <= w2.heap.size) := hx2.le
      have hcd : releaseCode ls s i = 0 := by
       cases hq : decide (releaseCode ls s i = 0) with
       | true => simpa using hq
       | false => simp at hq; simp [applyS, hq] at ha
      simp only [applyS] at ha
      rw [if_pos hcd] at ha
      injection ha with ha
      subst ha
      have HA : Hid (∀ w', Ext w2 w' -> Calls Tryz.prog 225 #[.agg #[.pointer (some ⟨rb, 0, none⟩)], .pointer (some ⟨B, 0, none⟩)] w' fun e w'' => e = .returned (.int .i64 0) /\ Ext w' w'') := fun w' hx => by
       have := releasingAgainst_c rb s i (by omega) w' (HS2.out.ext hx) (hx.block hq)
       rw [hcd] at this
       exact this
      obtain ⟨ix, hix, hf⟩ : ∃ ix, ∃ hix : ix < ls.length, ls.findIdx? (isNamed (s : Int) i) = some ix := by
       cases hf : ls.findIdx? (isNamed (s : Int) i) with
       | none =>
        unfold releaseCode at hcd
        rw [find_none_idx hf] at hcd
        simp at hcd
       | some ix => exact ⟨ix, (find_idx hf).1, rfl⟩
      have hfr : freeS ls s i = ls.set ix ls[ix].free := freeS_eq hf hix
      simp only [hfr] at HTn HBn2
      have HAp : Hid (∀ w', Ext w2 w' -> Calls Tryz.prog 226 #[.agg #[.pointer (some ⟨rb, 0, none⟩)], .pointer (some ⟨B, 0, none⟩)] w' fun e w'' => ∃ R' sv' lv' F', e = .returned (.tuple #[]) /\ Applied w' w'' B F (.slice none 0 0) (R.map StkR.abs) (ls.set ix ls[ix].free) [] false 0 false R' sv' lv' F') := fun w' hx => releasingDone_c rb ix s i (by omega) hix hf w' (HS2.out.ext hx) (hx.block hq)
      have h1 := mr_against
      have h2 := mr_apply
      clear hc hcd hf hq hx2 hbs hR hRm hls hfr
      generalize ls.set ix ls[ix].free = ls1 at *
      clear hix
      go_wp2_with fail
      refine (HA.out _ (Ext.refl _)).mono ?_
      rintro e w3 ⟨rfl, hx3⟩
      have HS3 := hid2 (HS2.out.ext hx3)
      have HZ3 := hid2 (hx3.block HZ2.out)
      have HX3 := hid2 (HX2.out.trans hx3)
      have HX23 : Hid (Ext w2 w3) := hx3
      have hle3 := hx3.le
      clear hx3
      go_wp2_with fail
      refine (HAp.out _ HX23.out).mono ?_
      rintro e w4 ⟨R', sv', lv', F', rfl, happ⟩
      have HQ := hid2 happ
      clear happ
      go_wp2
      go_roundw
      case rel =>
       have hq := HQ.out
       have hzz := HZB.out
       have hwl := HX3.out.le
       have hBw := (HS.out.lt B HS.out.fB)
       have hw2l := HW2.out
       have hFB : ∀ b, F' b -> B <= b := fun b hb => by
        rcases hq.new b hb with e | e
        ·exact HFl.out b e
        ·omega
       exact ⟨j + 1, R', _, F', sv', lv', by omega, by go_num, hq.store, by rw [hq.abs]; exact HTn.out, by rw [hq.abs]; exact HBn2.out, hFB, hq.turn.ref HZ3.out (fun e => by have := hFB _ e; omega), Turn.ext ((Turn.of_ext (S := fun _ => False) HX3.out).trans' hq.turn (fun b hb e => by have := hFB _ e; omega))⟩
      case measure => simp [intOf]; omega
  ·obtain rfl : j = n := by omega
   have HT0 : Hid (T0 = (R.map StkR.abs, ls)) := by
    show _ = _
    rw [<- HT.out, List.drop_of_length_le (by rw [HN.out]; exact Nat.le_refl _)]
    rfl
   clear hs ht0 hbn hfl hz hx hj hlt
   obtain ⟨d0, d1, d2, d3, d4, d5⟩ := HS.out.deal.cells
   have z0 := cell_at HZ.out (i := 0) rfl
   have z1 := cell_at HZ.out (i := 1) rfl
   have z2 := cell_at HZ.out (i := 2) rfl
   have z3 := cell_at HZ.out (i := 3) rfl
   have z4 := cell_at HZ.out (i := 4) rfl
   have z5 := cell_at HZ.out (i := 5) rfl
   have f0 := frozen_row HZ.out 0
   have f1 := frozen_row HZ.out 1
   have f2 := frozen_row HZ.out 2
   have f3 := frozen_row HZ.out 3
   have f4 := frozen_row HZ.out 4
   have f5 := frozen_row HZ.out 5
   have hBl := lG wr _ d0
   have hzl := lG wr _ z0
   go_wp2
   have hb6 : ((((((wr.setCell ⟨zb, 0, none⟩ (.slice sa rn scap)).setCell ⟨zb, 1, none⟩ (.slice la ln lcap)).setCell ⟨zb, 2, none⟩ (.slice none 0 0)).setCell ⟨zb, 3, none⟩ (.bool false)).setCell ⟨zb, 4, none⟩ (.int .i64 0)).setCell ⟨zb, 5, none⟩ (.bool false)).heap[zb]? = some (.cells #[.slice sa rn scap, .slice la ln lcap, .slice none 0 0, .bool false, .int .i64 0, .bool false] 112 (0, 0)) := setCell_row (setCell_row (setCell_row (setCell_row (setCell_row (setCell_row HZ.out _) _) _) _) _) _
   have hT6 : Turn (fun q => q = zb) wr ((((((wr.setCell ⟨zb, 0, none⟩ (.slice sa rn scap)).setCell ⟨zb, 1, none⟩ (.slice la ln lcap)).setCell ⟨zb, 2, none⟩ (.slice none 0 0)).setCell ⟨zb, 3, none⟩ (.bool false)).setCell ⟨zb, 4, none⟩ (.int .i64 0)).setCell ⟨zb, 5, none⟩ (.bool false)) := set6 _ _ _ _ _ _ _ _
   have k0 := cell_at hb6 (i := 0) rfl
   have k1 := cell_at hb6 (i := 1) rfl
   have k2 := cell_at hb6 (i := 2) rfl
   have k3 := cell_at hb6 (i := 3) rfl
   have k4 := cell_at hb6 (i := 4) rfl
   have k5 := cell_at hb6 (i := 5) rfl
   generalize World.setCell (World.setCell (World.setCell (World.setCell (World.setCell (World.setCell wr _ _) _ _) _ _) _ _) _ _) _ _ = w6 at hb6 hT6 k0 k1 k2 k3 k4 k5 ⊢
   refine bodyPost_ret (v := .agg #[.slice sa rn scap, .slice la ln lcap, .slice none 0 0, .bool false, .int .i64 0, .bool false]) (by simp [results, Tryz.results88, go_sem, k0, k1, k2, k3, k4, k5]) rfl ?_
   exact HFin.out _ _ HX.out R ls F _ _ HS.out HT0.out HBn.out HFl.out hT6
end
-- VIs
section
set_option maxRecDepth 100000
set_option maxHeartbeats 3200000
open Go.RowKit Go.Maps
def coverR (ls : List LsV) (x : Stk) (i : Nat) : Bool := match ls.find? (covers x.kd x.m x.k x.n i) with
 | some l => l.r
 | none => false
def soundT (ls : List LsV) (x : Stk) (i : Nat) : Bool := (x.ts.getD i ([], false)).2 || coverR ls x i
def soundX (ls : List LsV) (x : Stk) : Bool := (List.range x.ts.length).all (soundT ls x)
def soundS (S : List Stk) (ls : List LsV) : Bool := S.all (soundX ls)
section
variable {B : Nat} {F : Nat -> Prop} {sv lv dv : Value} {R : List StkR} {ls : List LsV} {ops : List OpV} {fl : Bool} {ah : Int} {kn : Bool}
theorem isSound_c (hR : R.length <= 100) (hRm : ∀ x ∈ R, x.ts.length <= 1000) (hL : ∀ x ∈ R, 1 <= x.sh.x + x.sh.y + x.sh.z) (hls : ls.length <= 1000) (hfc : ∀ l ∈ ls, 0 <= l.f /\ l.f <= 1000 /\ 0 <= l.c /\ l.c <= 1000) (w : World) (h : StoreOf w B F sv lv dv R ls ops fl ah kn) :
  Calls Tryz.prog 90 #[.pointer (some ⟨B, 0, none⟩)] w fun e w' => e = .returned (.bool (soundS (R.map StkR.abs) ls)) /\ Ext w w' := by
 have H : Hid (StoreOf w B F sv lv dv R ls ops fl ah kn) := h
 obtain ⟨d0, d1, _⟩ := h.deal.cells
 have hBl := h.deal.lt
 obtain ⟨sa, scap, hsv⟩ := owns_slice h.srow
 have HSV : Hid (sv = .slice sa R.length scap) := hsv
 obtain ⟨rn, hrn⟩ : ∃ rn, R.length = rn := ⟨_, rfl⟩
 have HRN : Hid (R.length = rn) := hrn
 have HLk : Hid (∀ (kd m k n num : Int) (w' : World), Ext w w' -> _) := fun kd m k n num w' hx => leaseOf_c B ls kd m k n num sv lv dv fl ah kn w' (h.deal.ext hx) (h.lrow.ext hx) hls hfc
 have HRm : Hid ((∀ x ∈ R, x.ts.length <= 1000) /\ ∀ x ∈ R, 1 <= x.sh.x + x.sh.y + x.sh.z) := ⟨hRm, hL⟩
 obtain ⟨cd, hcd⟩ : ∃ cd, soundS (R.map StkR.abs) ls = cd := ⟨_, rfl⟩
 have HCD : Hid (soundS (R.map StkR.abs) ls = cd) := hcd
 rw [hcd]
 rw [hsv, hrn] at d0
 unfold clsV at HLk
 clear h hsv hRm hL hfc hcd
 have hrb : rn <= 100 := by omega
 clear hR hrn
 go_enter Tryz.func90, Tryz.ntmps90
 go_wp2_with fail
 go_loopw [4, 5, 6, 12, 19, 20] (fun _ _ _ iv _ _ wr => ∃ j : Nat, j <= rn /\ iv = .int .i64 (j : Int) /\ ((R.map StkR.abs).take j).all (soundX ls) = true /\ Ext w wr) (fun _ _ _ iv _ _ _ => rn - (intOf iv).toNat)
 case atStart => exact ⟨0, Nat.zero_le _, rfl, by simp, Ext.refl _⟩
 case round =>
  obtain ⟨j, hj, rfl, hall, hx⟩ := hrel
  have HAll : Hid (((R.map StkR.abs).take j).all (soundX ls) = true) := hall
  have HX : Hid (Ext w wr) := hx
  by_cases hlt : j < rn
  ·have hjR : j < R.length := by rw [HRN.out]; exact hlt
   have hrow := H.out.srow
   rw [HSV.out] at hrow
   obtain ⟨gs, rfl⟩ : ∃ gs, sa = some ⟨gs, 0, none⟩ := by
    rcases owns_form hrow with ⟨_, h0, _⟩ | ⟨g, cap, e, _⟩
    ·omega
    ·injection e with e1 _ _; exact ⟨g, e1⟩
   have ck : wr.cell? ⟨gs, j, none⟩ = some (.pointer (some ⟨R[j].blk, 0, none⟩)) := hx.cell (owns_cell hrow (by rw [stkPtrs, List.getElem?_map, List.getElem?_eq_getElem hjR]; rfl))
   have hmem := List.getElem_mem hjR
   have hstk := H.out.stk _ hmem
   have hb := hstk.blk
   have k0 : wr.cell? ⟨R[j].blk, 0, none⟩ = some (.int .i64 (R[j].kd : Int)) := hx.cell ((cell_of_row w R[j].blk 0 _ _ _ hb).trans rfl)
   have k1 : wr.cell? ⟨R[j].blk, 1, none⟩ = some (.int .i64 (R[j].m : Int)) := hx.cell ((cell_of_row w R[j].blk 1 _ _ _ hb).trans rfl)
   have k2 : wr.cell? ⟨R[j].blk, 2, none⟩ = some (.int .i64 (R[j].k : Int)) := hx.cell ((cell_of_row w R[j].blk 2 _ _ _ hb).trans rfl)
   have k3 : wr.cell? ⟨R[j].blk, 3, none⟩ = some (.int .i64 (R[j].n : Int)) := hx.cell ((cell_of_row w R[j].blk 3 _ _ _ hb).trans rfl)
   have k4 : wr.cell? ⟨R[j].blk, 4, none⟩ = some (.int .i64 (R[j].ts.length : Int)) := hx.cell ((cell_of_row w R[j].blk 4 _ _ _ hb).trans rfl)
   have k6 : wr.cell? ⟨R[j].blk, 6, none⟩ = some (.map (some R[j].mb)) := hx.cell ((cell_of_row w R[j].blk 6 _ _ _ hb).trans rfl)
   have hgl := lG wr _ ck
   have hbl := lG wr _ k0
   have htm := HRm.out.1 _ hmem
   have HLoo : Hid (∀ i (hi : i < R[j].ts.length), ∃ v0 v1, (∀ w', Ext w w' -> (Instr.lookup 152 (.map (some R[j].mb)) (.int .i64 (i : Int)) false).run Tryz.prog w' = .ok (.agg #[v0, v1]) w') /\ LookAs w F R[j].sh R[j].ts[i] v0 v1) := fun i hi => by
    obtain ⟨v0, v1, h⟩ := hstk.looks (by omega) i
    exact ⟨v0, v1, (h hi).1, (h hi).2⟩
   have HL1 : Hid (1 <= R[j].sh.x + R[j].sh.y + R[j].sh.z) := HRm.out.2 _ hmem
   have HNx : Hid (((R.map StkR.abs).take (j + 1)).all (soundX ls) = (((R.map StkR.abs).take j).all (soundX ls) && soundX ls R[j].abs)) := by
    show _ = _
    rw [List.take_succ_eq_append_getElem (by simpa using hjR)]
    simp
   have HBad : Hid (soundX ls R[j].abs = false -> cd = false) := fun e => by
    rw [<- HCD.out]
    unfold soundS
    rw [List.all_eq_false]
    exact ⟨R[j].abs, List.mem_map.2 ⟨_, hmem, rfl⟩, by rw [e]; decide⟩
   have HXd : Hid (∀ i, soundT ls R[j].abs i = ((R[j].ts.getD i ([], false)).2 || match ls.find? (covers R[j].kd R[j].m R[j].k R[j].n i) with | some l => l.r | none => false)) := fun i => rfl
   have HSX : Hid (soundX ls R[j].abs = (List.range R[j].ts.length).all (soundT ls R[j].abs)) := rfl
   obtain ⟨T, hT⟩ : ∃ T, soundT ls R[j].abs = T := ⟨_, rfl⟩
   obtain ⟨sx, hsx⟩ : ∃ sx, soundX ls R[j].abs = sx := ⟨_, rfl⟩
   simp only [hT] at HXd HSX
   simp only [hsx] at HBad HSX HNx
   clear hT hsx hall hx hrow hmem hstk hb
   generalize R[j].blk = blk at *
   generalize R[j].mb = mb at *
   generalize R[j].kd = kd at *
   generalize R[j].m = m at *
   generalize R[j].k = k at *
   generalize R[j].n = n at *
   generalize R[j].sh = sh at *
   generalize R[j].ts = ts at *
   obtain ⟨tl, htl⟩ : ∃ tl, ts.length = tl := ⟨_, rfl⟩
   have HTL : Hid (ts.length = tl) := htl
   rw [htl] at k4 htm
   rw [htl] at HSX
   clear htl
   generalize wr = wa at *
   go_wp2_with fail
   go_loopw [5, 6, 20] (fun _ _ iv wr2 => ∃ i : Nat, i <= tl /\ iv = .int .i64 (i : Int) /\ (List.range i).all T = true /\ Ext wa wr2) (fun _ _ iv _ => tl - (intOf iv).toNat)
   case atStart => exact ⟨0, Nat.zero_le _, rfl, by simp, Ext.refl _⟩
   case round =>
    obtain ⟨i, hi, rfl, hal, hx2⟩ := hrel
    have HAl : Hid ((List.range i).all T = true) := hal
    have HXr : Hid (Ext wa wr) := hx2
    have HX2 : Hid (Ext w wr) := HX.out.trans hx2
    by_cases hlt2 : i < tl
    ·have hit : i < ts.length := by rw [HTL.out]; exact hlt2
     obtain ⟨v0, v1, hlk0, hla⟩ := HLoo.out i hit
     have HLoo : Hid (∀ w', Ext w w' -> _) := hlk0
     have k0 := hx2.cell k0
     have k1 := hx2.cell k1
     have k2 := hx2.cell k2
     have k3 := hx2.cell k3
     have hTi := HXd.out i
     have HBad2 : Hid (T i = false -> cd = false) := fun e => HBad.out (by
      rw [HSX.out, List.all_eq_false]
      exact ⟨i, by simpa using hlt2, by rw [e]; decide⟩)
     rw [List.getD_eq_getElem?_getD, List.getElem?_eq_getElem hit, Option.getD_some] at hTi
     have hlo := HLk.out kd m k n i
     clear hal hx2 hlk0
     rcases hla with ⟨hk, a0, c0, a1, c1, rfl, rfl, _⟩ | ⟨hk, rfl, rfl⟩
     ·obtain ⟨pp, hpp⟩ : ∃ pp, ptrAt lv (ls.findIdx? (covers kd m k n i)) = .pointer pp := by
       unfold ptrAt
       split
       ·split <;> exact ⟨_, rfl⟩
       ·exact ⟨_, rfl⟩
      have HTi : Hid (T i = true) := by
       show _ = _
       rw [hTi, hk]; rfl
      rw [hpp] at hlo
      have HLkP : Hid (∀ w', Ext w w' -> _) := hlo
      obtain ⟨L, hL⟩ : ∃ L, sh.x + sh.y + sh.z = L := ⟨_, rfl⟩
      have hL1 := HL1.out
      rw [hL] at HLoo hL1
      have hLi : ((L : Int) == 0) = false := by simp; omega
      clear hTi hlo hpp hk hL
      go_wp2_with fail
      refine (HLkP.out _ HX2.out).mono ?_
      rintro e w3 ⟨rfl, hx3⟩
      have HX3 : Hid (Ext wa w3) := HXr.out.trans hx3
      have HXw3 : Hid (Ext w w3) := HX2.out.trans hx3
      have hlk := HLoo.out w3 HXw3.out
      have k6 := HX3.out.cell k6
      have hbl3 := lG w3 _ k6
      clear hx3 k0 k1 k2 k3
      go_wp2_with fail
      refine (isForgotten_c _ _ _ _ rfl _).mono ?_
      rintro e w4 ⟨rfl, hx4⟩
      have HX4 : Hid (Ext wa w4) := HX3.out.trans hx4
      have HXw4 : Hid (Ext w w4) := HXw3.out.trans hx4
      go_wp2
      go_roundw
      case rel => exact ⟨i + 1, by omega, by go_num, by rw [List.range_succ, List.all_append, HAl.out]; simp [HTi.out], HX4.out⟩
      case measure => simp [intOf]; omega
     ·cases hfi : ls.findIdx? (covers kd m k n i) with
      | none =>
       rw [hfi] at hlo
       have HTi : Hid (T i = false) := by
        show _ = _
        rw [hTi, hk, find_none_idx hfi]; rfl
       have HLkP : Hid (∀ w', Ext w w' -> Calls Tryz.prog 126 #[.pointer (some ⟨B, 0, none⟩), .agg #[.int .i64 kd, .int .i64 m, .int .i64 k, .int .i64 n], .int .i64 (i : Int)] w' fun e w'' => e = .returned (.pointer none) /\ Ext w' w'') := hlo
       clear hTi hlo hfi hk
       go_wp2_with fail
       refine (HLkP.out _ HX2.out).mono ?_
       rintro e w3 ⟨rfl, hx3⟩
       have HX3 : Hid (Ext wa w3) := HXr.out.trans hx3
       have HXw3 : Hid (Ext w w3) := HX2.out.trans hx3
       have hlk := HLoo.out w3 HXw3.out
       have k6 := HX3.out.cell k6
       have hbl3 := lG w3 _ k6
       clear hx3 k0 k1 k2 k3
       go_wp2_with fail
       refine (isForgotten_c _ _ _ _ rfl _).mono ?_
       rintro e w4 ⟨rfl, hx4⟩
       have HX4 : Hid (Ext wa w4) := HX3.out.trans hx4
       have HXw4 : Hid (Ext w w4) := HXw3.out.trans hx4
       go_wp2
       go_ret
       exact ⟨ret_bool (HBad2.out HTi.out).symm, HXw4.out⟩
      | some ix =>
       rw [hfi] at hlo
       obtain ⟨hix, hfx⟩ := find_idx hfi
       obtain ⟨lg, lcap, hlv⟩ : ∃ lg lcap, lv = .slice (some ⟨lg, 0, none⟩) ls.length lcap := by
        rcases owns_form H.out.lrow with ⟨_, h0, _⟩ | ⟨g, cap, h1, _⟩
        ·omega
        ·exact ⟨g, cap, h1⟩
       have hlr := H.out.lrow
       rw [hlv] at hlr hlo
       obtain ⟨_, _, _, _, _, _, _, _, l8⟩ := LeasesAt.cells hlr ix hix
       have HTi0 : Hid (T i = ls[ix].r) := by
        show _ = _
        rw [hTi, hk, hfx]; rfl
       have HLkP : Hid (∀ w', Ext w w' -> Calls Tryz.prog 126 #[.pointer (some ⟨B, 0, none⟩), .agg #[.int .i64 kd, .int .i64 m, .int .i64 k, .int .i64 n], .int .i64 (i : Int)] w' fun e w'' => e = .returned (.pointer (some ⟨lg, ix * 9, none⟩)) /\ Ext w' w'') := hlo
       have HL8 : Hid (w.cell? ⟨lg, ix * 9 + 8, none⟩ = some (.bool ls[ix].r)) := l8
       generalize ls[ix].r = rel at *
       clear hTi hlo hfi hk hfx hlr hlv l8
       go_wp2_with fail
       refine (HLkP.out _ HX2.out).mono ?_
       rintro e w3 ⟨rfl, hx3⟩
       have HX3 : Hid (Ext wa w3) := HXr.out.trans hx3
       have HXw3 : Hid (Ext w w3) := HX2.out.trans hx3
       have hlk := HLoo.out w3 HXw3.out
       have k6 := HX3.out.cell k6
       have hbl3 := lG w3 _ k6
       clear hx3 k0 k1 k2 k3
       go_wp2_with fail
       refine (isForgotten_c _ _ _ _ rfl _).mono ?_
       rintro e w4 ⟨rfl, hx4⟩
       have HX4 : Hid (Ext wa w4) := HX3.out.trans hx4
       have HXw4 : Hid (Ext w w4) := HXw3.out.trans hx4
       have l8 := HXw4.out.cell HL8.out
       have hll := lG w4 _ l8
       cases rel with
       | true =>
        have HTi := hid2 HTi0.out
        go_wp2
        go_roundw
        case rel => exact ⟨i + 1, by omega, by go_num, by rw [List.range_succ, List.all_append, HAl.out]; simp [HTi.out], HX4.out⟩
        case measure => simp [intOf]; omega
       | false =>
        have HTi := hid2 HTi0.out
        go_wp2
        go_ret
        exact ⟨ret_bool (HBad2.out HTi.out).symm, HXw4.out⟩
    ·obtain rfl : i = tl := by omega
     have HSt : Hid (sx = true) := by
      show _ = _
      rw [HSX.out]; exact HAl.out
     clear hal hx2 hi hlt2
     go_wp2
     go_roundw
     case rel => exact ⟨j + 1, by omega, by go_num, by rw [HNx.out, HAll.out, HSt.out]; rfl, HX2.out⟩
     case measure => simp [intOf]; omega
  ·obtain rfl : j = rn := by omega
   have HT : Hid (cd = true) := by
    show cd = true
    rw [<- HCD.out, <- HAll.out, List.take_of_length_le (by simp [HRN.out])]
    rfl
   clear hall hx hj hlt
   go_wp2
   go_ret
   exact ⟨ret_bool HT.out.symm, HX.out⟩
end
end
-- JBk
section
open Go.RowKit Go.Maps
def MkRow (sz : Nat) (cs : List Value) (n : Nat) (xs : List Value) : Prop := ∀ i, i < n -> ∀ k u, cs[k]? = some u -> xs[i * sz + k]? = some u
theorem MkRow.snoc {sz n : Nat} {cs xs : List Value} (hc : cs.length = sz) (hl : xs.length = n * sz) (h : MkRow sz cs n xs) : MkRow sz cs (n + 1) (xs ++ cs) := by
 intro i hi k u hu
 have hk : k < sz := by rw [<- hc]; exact (List.getElem?_eq_some_iff.1 hu).1
 by_cases e : i < n
 ·have h1 := h i e k u hu
  rw [List.getElem?_append_left (List.getElem?_eq_some_iff.1 h1).1]
  exact h1
 ·obtain rfl : i = n := by omega
  rw [List.getElem?_append_right (by omega), hl, show i * sz + k - i * sz = k by omega]
  exact hu
def MkAt (w : World) (sz : Nat) (cs : List Value) (g n : Nat) : Prop := ∀ i, i < n -> ∀ k u, cs[k]? = some u -> w.cell? ⟨g, i * sz + k, none⟩ = some u
theorem MkAt.turn {S : Nat -> Prop} {w w' : World} {sz g n : Nat} {cs : List Value} (h : MkAt w sz cs g n) (ht : Turn S w w') (hs : ¬ S g) : MkAt w' sz cs g n := fun i hi k u hu => ht.cell (h i hi k u hu) hs
def Marked (w : World) (G : Nat -> Prop) (sz : Nat) (cs : List Value) (v : Value) : Prop := ∃ a n cap, v = .slice a n cap /\ n <= 200000000 /\ (n = 0 \/ ∃ g, a = some ⟨g, 0, none⟩ /\ G g /\ MkAt w sz cs g n)
theorem Marked.turn {S G : Nat -> Prop} {w w' : World} {sz : Nat} {cs : List Value} {v : Value} (h : Marked w G sz cs v) (ht : Turn S w w') (hs : ∀ b, G b -> ¬ S b) : Marked w' G sz cs v := by
 obtain ⟨a, n, cap, h1, h2, h3⟩ := h
 refine ⟨a, n, cap, h1, h2, ?_⟩
 rcases h3 with h3 | ⟨g, e, hg, hm⟩
 ·exact .inl h3
 ·exact .inr ⟨g, e, hg, hm.turn ht (hs g hg)⟩
theorem Marked.mono {G G' : Nat -> Prop} {w : World} {sz : Nat} {cs : List Value} {v : Value} (h : Marked w G sz cs v) (hg : ∀ b, G b -> G' b) : Marked w G' sz cs v := by
 obtain ⟨a, n, cap, h1, h2, h3⟩ := h
 exact ⟨a, n, cap, h1, h2, h3.imp id (fun ⟨g, e, h4, h5⟩ => ⟨g, e, hg g h4, h5⟩)⟩
def BookRow (w : World) (G : Nat -> Prop) (t : TypeId) (sz : Nat) (mk : Nat -> List Value) (bv : Value) (m : Nat) : Prop :=
 ∃ vs : List Value, w.ownsRow 0 t 1 bv (4 * m) vs /\ ∀ k (h : k < vs.length), Marked w G sz (mk (k / 4)) vs[k]
theorem BookRow.turn {S G : Nat -> Prop} {w w' : World} {t : TypeId} {sz : Nat} {mk : Nat -> List Value} {bv : Value} {m : Nat} (h : BookRow w G t sz mk bv m) (ht : Turn S w w') (hs : ∀ b, G b -> ¬ S b) (hb : ∀ b, bv.ownBlock = some b -> ¬ S b) : BookRow w' G t sz mk bv m := by
 obtain ⟨vs, h1, h2⟩ := h
 exact ⟨vs, ht.owns h1 hb, fun k hk => (h2 k hk).turn ht hs⟩
theorem BookRow.mono {G G' : Nat -> Prop} {w : World} {t : TypeId} {sz : Nat} {mk : Nat -> List Value} {bv : Value} {m : Nat} (h : BookRow w G t sz mk bv m) (hg : ∀ b, G b -> G' b) : BookRow w G' t sz mk bv m := by
 obtain ⟨vs, h1, h2⟩ := h
 exact ⟨vs, h1, fun k hk => (h2 k hk).mono hg⟩
def mkW (j : Nat) : List Value := [.int .u64 (1000000007 + (j : Int))]
def mkS (j : Nat) : List Value := [.int .i64 0, .int .i64 0, .int .i64 0, .int .i64 0, .int .i64 (-1 - (j : Int)), .int .i64 0, .int .i64 0]
def mkL (j : Nat) : List Value := [.int .i64 (-1 - (j : Int)), .int .i64 0, .int .i64 0, .int .i64 0, .int .i64 0, .int .i64 0, .int .i64 0, .int .i64 0, .bool false]
def mkO (j : Nat) : List Value := [.int .i64 (-1 - (j : Int)), .string ⟨#[]⟩, .string ⟨#[]⟩, .string ⟨#[]⟩]
theorem BookRow.keep {G' : Nat -> Prop} {w' : World} {t : TypeId} {sz : Nat} {mk : Nat -> List Value} {bv' : Value} {m : Nat} {vs : List Value} (hv : vs.length = 4 * m) (h : ∀ k (h : k < vs.length), Marked w' G' sz (mk (k / 4)) vs[k]) {a b c d : Value} (ho : w'.ownsRow 0 t 1 bv' (4 * m + 4) (vs ++ [a, b, c, d])) (ha : Marked w' G' sz (mk m) a) (hb : Marked w' G' sz (mk m) b) (hc : Marked w' G' sz (mk m) c) (hd : Marked w' G' sz (mk m) d) : BookRow w' G' t sz mk bv' (m + 1) := by
 refine ⟨vs ++ [a, b, c, d], by rw [Nat.mul_add]; exact ho, fun k hk => ?_⟩
 by_cases e : k < vs.length
 ·rw [List.getElem_append_left e]
  exact h k e
 ·rw [List.getElem_append_right (by omega)]
  have hk4 : k < vs.length + 4 := by simpa using hk
  have hq : k / 4 = m := by omega
  rw [hq]
  obtain e | e | e | e : k - vs.length = 0 \/ k - vs.length = 1 \/ k - vs.length = 2 \/ k - vs.length = 3 := by omega
  all_goals simp only [e, lC, lB]
  all_goals assumption
end
-- JBs
section
open Go.RowKit Go.Maps
end
-- JBl
section
open Go.RowKit Go.Maps
end
-- JBo
section
open Go.RowKit Go.Maps
end
-- JRd
section
open Go.RowKit Go.Maps
end
-- JCp
section
open Go.RowKit Go.Maps
section
variable {P : Program}
end
structure GV where
 wv : Value
 ov : Value
 pv : Value
 bW : Value
 bS : Value
 bL : Value
 bO : Value
 ar : Bool := false
 fi : Int := 0
def gcells (B : Nat) (v : GV) : Array Value := #[.pointer (some ⟨B, 0, none⟩), v.wv, .slice none 0 0, v.ov, v.pv, .bool v.ar, .int .i64 v.fi, v.bW, v.bS, v.bL, v.bO]
def GOwn (P : Nat) (v : GV) (b : Nat) : Prop := b = P \/ v.pv.ownBlock = some b \/ v.bW.ownBlock = some b \/ v.bS.ownBlock = some b \/ v.bL.ownBlock = some b \/ v.bO.ownBlock = some b
def OpRow (w : World) (G : Nat -> Prop) (ov : Value) (ops : List OpV) : Prop := ∃ a cap, ov = .slice a ops.length cap /\ (ops.length = 0 \/ ∃ g, a = some ⟨g, 0, none⟩ /\ G g /\ ∀ i u, (opCells ops)[i]? = some u -> w.cell? ⟨g, i, none⟩ = some u)
def OneIs (w : World) (G : Nat -> Prop) (v : Value) (q : Nat) : Prop := ∃ g cap, v = .slice (some ⟨g, 0, none⟩) 1 cap /\ G g /\ w.cell? ⟨g, 0, none⟩ = some (.pointer (some ⟨q, 0, none⟩))
def PartIs (w : World) (G : Nat -> Prop) (cs : List Value) : Prop := ∃ (f t : Int) (wv : Value) (d : Bool) (q : Nat), cs = [.int .i64 f, .int .i64 t, wv, .bool d] /\ OneIs w G wv q
def PartRow (w : World) (G : Nat -> Prop) (pv : Value) (np : Nat) : Prop := ∃ css : List (List Value), w.ownsRow 0 100 4 pv np css.flatten /\ css.length = np /\ ∀ c ∈ css, PartIs w G c
structure GameOf (w : World) (P B : Nat) (G : Nat -> Prop) (v : GV) (q : Nat) (S : List Stk) (ls : List LsV) (ops : List OpV) (c : Nat) : Prop where
 blk : w.heap[P]? = some (.cells (gcells B v) 94 (0, 0))
 wrow : OneIs w G v.wv q
 ref : RefAt w G q S ls
 orow : OpRow w G v.ov ops
 prow : ∃ np, np <= c /\ PartRow w G v.pv np
 bW : ∃ m, m <= c /\ BookRow w G 31 1 mkW v.bW m
 bS : ∃ m, m <= c /\ BookRow w G 44 7 mkS v.bS m
 bL : ∃ m, m <= c /\ BookRow w G 38 9 mkL v.bL m
 bO : ∃ m, m <= c /\ BookRow w G 69 4 mkO v.bO m
 ltG : ∀ b, G b -> b < w.heap.size
 apart : ∀ b, GOwn P v b -> ¬ G b
theorem OpRow.turn {S G : Nat -> Prop} {w w' : World} {ov : Value} {ops : List OpV} (h : OpRow w G ov ops) (ht : Turn S w w') (hs : ∀ b, G b -> ¬ S b) : OpRow w' G ov ops := by
 obtain ⟨a, cap, h1, h2⟩ := h
 exact ⟨a, cap, h1, h2.imp id (fun ⟨g, e, hg, hc⟩ => ⟨g, e, hg, fun i u hu => ht.cell (hc i u hu) (hs g hg)⟩)⟩
theorem OpRow.mono {G G' : Nat -> Prop} {w : World} {ov : Value} {ops : List OpV} (h : OpRow w G ov ops) (hg : ∀ b, G b -> G' b) : OpRow w G' ov ops := by
 obtain ⟨a, cap, h1, h2⟩ := h
 exact ⟨a, cap, h1, h2.imp id (fun ⟨g, e, h3, hc⟩ => ⟨g, e, hg g h3, hc⟩)⟩
theorem OneIs.turn {S G : Nat -> Prop} {w w' : World} {v : Value} {q : Nat} (h : OneIs w G v q) (ht : Turn S w w') (hs : ∀ b, G b -> ¬ S b) : OneIs w' G v q := by
 obtain ⟨g, cap, h1, h2, h3⟩ := h
 exact ⟨g, cap, h1, h2, ht.cell h3 (hs g h2)⟩
theorem OneIs.mono {G G' : Nat -> Prop} {w : World} {v : Value} {q : Nat} (h : OneIs w G v q) (hg : ∀ b, G b -> G' b) : OneIs w G' v q := by
 obtain ⟨g, cap, h1, h2, h3⟩ := h
 exact ⟨g, cap, h1, hg g h2, h3⟩
theorem PartIs.turn {S G : Nat -> Prop} {w w' : World} {cs : List Value} (h : PartIs w G cs) (ht : Turn S w w') (hs : ∀ b, G b -> ¬ S b) : PartIs w' G cs := by
 obtain ⟨f, t, wv, d, q, h1, h2⟩ := h
 exact ⟨f, t, wv, d, q, h1, h2.turn ht hs⟩
theorem PartIs.mono {G G' : Nat -> Prop} {w : World} {cs : List Value} (h : PartIs w G cs) (hg : ∀ b, G b -> G' b) : PartIs w G' cs := by
 obtain ⟨f, t, wv, d, q, h1, h2⟩ := h
 exact ⟨f, t, wv, d, q, h1, h2.mono hg⟩
theorem PartRow.turn {S G : Nat -> Prop} {w w' : World} {pv : Value} {np : Nat} (h : PartRow w G pv np) (ht : Turn S w w') (hs : ∀ b, G b -> ¬ S b) (hp : ∀ b, pv.ownBlock = some b -> ¬ S b) : PartRow w' G pv np := by
 obtain ⟨css, h1, h2, h3⟩ := h
 exact ⟨css, ht.owns h1 hp, h2, fun c hc => (h3 c hc).turn ht hs⟩
theorem PartRow.mono {G G' : Nat -> Prop} {w : World} {pv : Value} {np : Nat} (h : PartRow w G pv np) (hg : ∀ b, G b -> G' b) : PartRow w G' pv np := by
 obtain ⟨css, h1, h2, h3⟩ := h
 exact ⟨css, h1, h2, fun c hc => (h3 c hc).mono hg⟩
section
variable {w w' : World} {P B q c : Nat} {G : Nat -> Prop} {v : GV} {S : List Stk} {ls : List LsV} {ops : List OpV}
theorem GameOf.turn {X : Nat -> Prop} (h : GameOf w P B G v q S ls ops c) (ht : Turn X w w') (hg : ∀ b, G b -> ¬ X b) (ho : ∀ b, GOwn P v b -> ¬ X b) : GameOf w' P B G v q S ls ops c where
 blk := ht.ref h.blk (ho _ (.inl rfl))
 wrow := h.wrow.turn ht hg
 ref := h.ref.turn ht hg
 orow := h.orow.turn ht hg
 prow := let ⟨np, h1, h2⟩ := h.prow; ⟨np, h1, h2.turn ht hg (fun b hb => ho b (.inr (.inl hb)))⟩
 bW := let ⟨m, h1, h2⟩ := h.bW; ⟨m, h1, h2.turn ht hg (fun b hb => ho b (.inr (.inr (.inl hb))))⟩
 bS := let ⟨m, h1, h2⟩ := h.bS; ⟨m, h1, h2.turn ht hg (fun b hb => ho b (.inr (.inr (.inr (.inl hb)))))⟩
 bL := let ⟨m, h1, h2⟩ := h.bL; ⟨m, h1, h2.turn ht hg (fun b hb => ho b (.inr (.inr (.inr (.inr (.inl hb))))))⟩
 bO := let ⟨m, h1, h2⟩ := h.bO; ⟨m, h1, h2.turn ht hg (fun b hb => ho b (.inr (.inr (.inr (.inr (.inr hb))))))⟩
 ltG := fun b hb => Nat.lt_of_lt_of_le (h.ltG b hb) ht.size
 apart := h.apart
theorem GameOf.ext (h : GameOf w P B G v q S ls ops c) (hx : Ext w w') : GameOf w' P B G v q S ls ops c := h.turn (X := fun _ => False) (Turn.of_ext hx) (fun _ _ => id) (fun _ _ => id)
theorem GameOf.typ (h : GameOf w P B G v q S ls ops c) {b : Nat} (hb : GOwn P v b) : ∃ cur t, w.heap[b]? = some (.cells cur t (0, 0)) /\ (t = 94 \/ t = 100 \/ t = 31 \/ t = 44 \/ t = 38 \/ t = 69) := by
 rcases hb with e | e | e | e | e | e
 ·exact ⟨_, _, by rw [e]; exact h.blk, .inl rfl⟩
 ·obtain ⟨np, _, css, h1, _⟩ := h.prow
  obtain ⟨cur, hc⟩ := owns_block h1 e
  exact ⟨cur, _, hc, .inr (.inl rfl)⟩
 ·obtain ⟨m, _, vs, h1, _⟩ := h.bW
  obtain ⟨cur, hc⟩ := owns_block h1 e
  exact ⟨cur, _, hc, .inr (.inr (.inl rfl))⟩
 ·obtain ⟨m, _, vs, h1, _⟩ := h.bS
  obtain ⟨cur, hc⟩ := owns_block h1 e
  exact ⟨cur, _, hc, .inr (.inr (.inr (.inl rfl)))⟩
 ·obtain ⟨m, _, vs, h1, _⟩ := h.bL
  obtain ⟨cur, hc⟩ := owns_block h1 e
  exact ⟨cur, _, hc, .inr (.inr (.inr (.inr (.inl rfl))))⟩
 ·obtain ⟨m, _, vs, h1, _⟩ := h.bO
  obtain ⟨cur, hc⟩ := owns_block h1 e
  exact ⟨cur, _, hc, .inr (.inr (.inr (.inr (.inr rfl))))⟩
theorem GameOf.lt (h : GameOf w P B G v q S ls ops c) {b : Nat} (hb : GOwn P v b) : b < w.heap.size := by
 obtain ⟨cur, t, hc, _⟩ := h.typ hb
 exact (Array.getElem?_eq_some_iff.1 hc).1
structure GStep (X : Nat -> Prop) (w w' : World) (P : Nat) (v v' : GV) (G G' : Nat -> Prop) : Prop where
 turn : Turn (fun b => GOwn P v b \/ X b) w w'
 sub : ∀ b, G b -> G' b
 new : ∀ b, G' b -> G b \/ X b
 own : ∀ b, GOwn P v' b -> GOwn P v b \/ X b
theorem GStep.refl (X : Nat -> Prop) (w : World) (P : Nat) (v : GV) (G : Nat -> Prop) : GStep X w w P v v G G := ⟨Turn.refl _ _, fun _ h => h, fun _ h => .inl h, fun _ h => .inl h⟩
theorem GStep.of_ext {X : Nat -> Prop} (hx : Ext w w') : GStep X w w' P v v G G := ⟨Turn.of_ext hx, fun _ h => h, fun _ h => .inl h, fun _ h => .inl h⟩
theorem GStep.trans {X Y : Nat -> Prop} {w'' : World} {v' v'' : GV} {G' G'' : Nat -> Prop} (h : GStep X w w' P v v' G G') (k : GStep Y w' w'' P v' v'' G' G'') (hy : ∀ b, Y b -> X b) : GStep X w w'' P v v'' G G'' where
 turn := h.turn.trans' k.turn (fun b _ hb => hb.elim (h.own b) (fun hb => .inr (hy b hb)))
 sub := fun b hb => k.sub b (h.sub b hb)
 new := fun b hb => (k.new b hb).elim (h.new b) (fun hb => .inr (hy b hb))
 own := fun b hb => (k.own b hb).elim (h.own b) (fun hb => .inr (hy b hb))
theorem GStep.mono {X Y : Nat -> Prop} {v' : GV} {G' : Nat -> Prop} (h : GStep X w w' P v v' G G') (hy : ∀ b, X b -> Y b) : GStep Y w w' P v v' G G' where
 turn := h.turn.mono (fun b _ hb => hb.imp id (hy b))
 sub := h.sub
 new := fun b hb => (h.new b hb).imp id (hy b)
 own := fun b hb => (h.own b hb).imp id (hy b)
end
end
-- JGk
section
open Go.RowKit Go.Maps
section
variable {w : World} {P B q c : Nat} {G : Nat -> Prop} {v : GV} {S : List Stk} {ls : List LsV} {ops : List OpV}
end
end
-- JDk
section
open Go.RowKit Go.Maps
section
variable {w : World} {P B q c : Nat} {G : Nat -> Prop} {v : GV} {S : List Stk} {ls : List LsV} {ops0 : List OpV}
end
end
-- JCh
section
open Go.RowKit Go.Maps
structure StoreOk (w : World) (B : Nat) (F : Nat -> Prop) (R : List StkR) (ls : List LsV) (ops : List OpV) (fl : Bool) (ah : Int) : Prop where
 ex : ∃ sv lv dv kn, StoreOf w B F sv lv dv R ls ops fl ah kn
 kinds : ∀ o ∈ ops, 0 <= o.k /\ o.k <= 5
theorem StoreOk.lt {w : World} {B : Nat} {F : Nat -> Prop} {R : List StkR} {ls : List LsV} {ops : List OpV} {fl : Bool} {ah : Int} (h : StoreOk w B F R ls ops fl ah) : ∀ b, F b -> b < w.heap.size := by
 obtain ⟨sv, lv, dv, kn, h1⟩ := h.ex
 exact h1.lt
theorem StoreOk.turn {X : Nat -> Prop} {w w' : World} {B : Nat} {F : Nat -> Prop} {R : List StkR} {ls : List LsV} {ops : List OpV} {fl : Bool} {ah : Int} (h : StoreOk w B F R ls ops fl ah) (ht : Turn X w w') (hx : ∀ b, F b -> ¬ X b) : StoreOk w' B F R ls ops fl ah := by
 obtain ⟨sv, lv, dv, kn, h1⟩ := h.ex
 exact ⟨⟨sv, lv, dv, kn, h1.turn ht hx⟩, h.kinds⟩
theorem StoreOk.ext {w w' : World} {B : Nat} {F : Nat -> Prop} {R : List StkR} {ls : List LsV} {ops : List OpV} {fl : Bool} {ah : Int} (h : StoreOk w B F R ls ops fl ah) (hx : Ext w w') : StoreOk w' B F R ls ops fl ah := h.turn (X := fun _ => False) (Turn.of_ext hx) (fun _ _ => id)
def ArIs (v : GV) (fl : Bool) (ah : Int) : Prop := v.ar = fl /\ (fl = true -> v.fi = ah)
theorem ArIs.same {v v' : GV} {fl : Bool} {ah : Int} (h : ArIs v fl ah) (h1 : v'.ar = v.ar) (h2 : v'.fi = v.fi) : ArIs v' fl ah := ⟨h1.trans h.1, fun e => h2.trans (h.2 e)⟩
section
variable {w : World} {P B q c : Nat} {G F : Nat -> Prop} {v : GV} {S : List Stk} {ls : List LsV} {ops0 : List OpV} {fl fl' : Bool} {ah ah' : Int}
def Far (F G : Nat -> Prop) (P : Nat) (v : GV) : Prop := ∀ b, F b -> ¬ G b /\ ¬ GOwn P v b
def Old (w w' : World) (F F' : Nat -> Prop) (P : Nat) (v v' : GV) : Prop := Turn (fun b => F b \/ GOwn P v b) w w' /\ (∀ b, F' b -> F b \/ w.heap.size <= b) /\ ∀ b, GOwn P v' b -> GOwn P v b \/ w.heap.size <= b
theorem StoreOk.step {X : Nat -> Prop} {w' : World} {v' : GV} {G' : Nat -> Prop} {R : List StkR} {ls' : List LsV} {ops : List OpV} (h : StoreOk w B F R ls' ops fl ah) (hs : GStep X w w' P v v' G G') (hf : Far F G P v) (hx : ∀ b, F b -> ¬ X b) : StoreOk w' B F R ls' ops fl ah /\ Far F G' P v' :=
 ⟨h.turn hs.turn (fun b hb hor => hor.elim (hf b hb).2 (hx b hb)), fun b hb => ⟨fun hg => (hs.new b hg).elim (hf b hb).1 (hx b hb), fun ho => (hs.own b ho).elim (hf b hb).2 (hx b hb)⟩⟩
end
end
-- JNw
section
open Go.RowKit Go.Maps
section
variable {w : World} {P B q c : Nat} {G : Nat -> Prop} {v : GV} {S : List Stk} {ls : List LsV} {ops0 : List OpV}
end
end
end Go.Proofs.YtmnjhhachdlmkaaGreat
