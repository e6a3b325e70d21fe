import Derived.Test.YtmnjhhachdlmkaaGreatK08
import Derived.Test.YtmnjhhachdlmkaaGreatK01
import Derived.Test.YtmnjhhachdlmkaaGreatK02
import Derived.Test.YtmnjhhachdlmkaaGreatK05
namespace Go.Proofs.YtmnjhhachdlmkaaGreat
open World renaming block_lt_of_cell? -> lG
-- GMf
section
set_option maxRecDepth 100000
set_option maxHeartbeats 1600000
open Go.RowKit Go.Maps
def FetchReq (w : World) (rb : Nat) (ss kd m k n f c p : Int) : Prop := w.heap[rb]? = some (.cells #[.int .i64 ss, .int .i64 kd, .int .i64 m, .int .i64 k, .int .i64 n, .int .i64 f, .int .i64 c, .int .i64 p] 212 (0, 0))
/-- Is a triple one of a lease of the session that is not released? -/
def heldP (ls : List LsV) (ss kd m k n num : Int) : Bool := match ls.find? (covers kd m k n num) with
 | none => false
 | some l => l.s == ss && !l.r
def fetchCode (ls : List LsV) (ss kd m k n f c p : Int) : Int := if c < 1 \/ 40 < c then 5 else if p ≠ 0 /\ p ≠ 1 then 9 else if ∀ i : Nat, i < c.toNat -> heldP ls ss kd m k n (f + i) = true then 0 else 8
theorem and_c5 {a b : World} {p1 p2 p3 p4 p5 : Addr} {v1 v2 v3 v4 v5 : Value} (h1 : a.cell? p1 = some v1) (h2 : a.cell? p2 = some v2) (h3 : a.cell? p3 = some v3) (h4 : a.cell? p4 = some v4) (h5 : a.cell? p5 = some v5) (h : Ext a b) :
  (b.cell? p1 = some v1 /\ b.cell? p2 = some v2 /\ b.cell? p3 = some v3 /\ b.cell? p4 = some v4 /\ b.cell? p5 = some v5) /\ Ext a b := ⟨⟨h.cell h1, h.cell h2, h.cell h3, h.cell h4, h.cell h5⟩, h⟩
theorem mayFetchNil_c (B rb : Nat) (w : World) :
  Calls Tryz.prog 169 #[.pointer (some ⟨B, 0, none⟩), .pointer none, .pointer (some ⟨rb, 0, none⟩)] w fun e w' => e = .returned (.int .i64 2) /\ w = w' := by
 go_enter Tryz.func169, Tryz.ntmps169
 go_wp2
 go_ret
 exact ⟨rfl, rfl⟩
section
variable {B : Nat} {F : Nat -> Prop} {sv lv dv : Value} {R : List StkR} {ls : List LsV} {ops : List OpV} {fl : Bool} {ah : Int} {kn : Bool}
theorem mayFetch_c (rb blk : Nat) (ss kd m k n f c p : Int) (hf0 : 0 <= f) (hf1 : f <= 2147483647) (hls : ls.length <= 1000) (hfc : ∀ l ∈ ls, 0 <= l.f /\ l.f <= 1000 /\ 0 <= l.c /\ l.c <= 1000) (w : World) (h : StoreOf w B F sv lv dv R ls ops fl ah kn) (hr : FetchReq w rb ss kd m k n f c p) :
  Calls Tryz.prog 169 #[.pointer (some ⟨B, 0, none⟩), .pointer (some ⟨blk, 0, none⟩), .pointer (some ⟨rb, 0, none⟩)] w fun e w' => e = .returned (.int .i64 (fetchCode ls ss kd m k n f c p)) /\ Ext w w' := by
 have r0 : w.cell? ⟨rb, 0, none⟩ = some (.int .i64 ss) := cell_at hr rfl
 have r1 : w.cell? ⟨rb, 1, none⟩ = some (.int .i64 kd) := cell_at hr rfl
 have r2 : w.cell? ⟨rb, 2, none⟩ = some (.int .i64 m) := cell_at hr rfl
 have r3 : w.cell? ⟨rb, 3, none⟩ = some (.int .i64 k) := cell_at hr rfl
 have r4 : w.cell? ⟨rb, 4, none⟩ = some (.int .i64 n) := cell_at hr rfl
 have r5 : w.cell? ⟨rb, 5, none⟩ = some (.int .i64 f) := cell_at hr rfl
 have r6 : w.cell? ⟨rb, 6, none⟩ = some (.int .i64 c) := cell_at hr rfl
 have r7 : w.cell? ⟨rb, 7, none⟩ = some (.int .i64 p) := cell_at hr rfl
 have HLo : Hid (∀ num w', Ext w w' -> _) := fun num w' hx => leaseOf_c B ls kd m k n num sv lv dv fl ah kn w' (hx.block h.deal) (h.lrow.ext hx) hls hfc
 unfold clsV at HLo
 have HLr : Hid (LeasesAt w lv ls) := h.lrow
 have HCd : Hid (fetchCode ls ss kd m k n f c p = if c < 1 \/ 40 < c then 5 else if p ≠ 0 /\ p ≠ 1 then 9 else if ∀ i : Nat, i < c.toNat -> heldP ls ss kd m k n (f + i) = true then 0 else 8) := rfl
 generalize fetchCode ls ss kd m k n f c p = cd at *
 clear h hr hfc
 go_enter Tryz.func169, Tryz.ntmps169
 go_wp2_with fail
 refine (isCount_c c w).mono ?_
 rintro e w1' ⟨rfl, rfl⟩
 by_cases hc : c < 1 \/ 40 < c
 ·have hb : (decide (1 <= c) && decide (c <= 40)) = false := by simp; omega
  rw [hb]
  go_wp2
  go_ret
  exact ⟨by rw [HCd.out, if_pos hc]; rfl, Ext.refl _⟩
 ·have hb : (decide (1 <= c) && decide (c <= 40)) = true := by simp; omega
  rw [hb]
  obtain ⟨cn, hcn⟩ : ∃ cn : Nat, c = cn := ⟨c.toNat, by omega⟩
  subst hcn
  have HCd2 : Hid (cd = if p ≠ 0 /\ p ≠ 1 then 9 else if ∀ i : Nat, i < cn -> heldP ls ss kd m k n (f + i) = true then 0 else 8) := by
   have h1 := HCd.out
   rw [if_neg hc] at h1
   exact h1
  have hcb : 1 <= cn /\ cn <= 40 := by omega
  clear hb hc HCd
  by_cases hp : p ≠ 0 /\ p ≠ 1
  ·have e0 : (p != 0) = true := by simpa using hp.1
   have e1 : (p != 1) = true := by simpa using hp.2
   have HP : Hid (p ≠ 0 /\ p ≠ 1) := hp
   clear hp
   go_wp2
   go_ret
   exact ⟨by rw [HCd2.out, if_pos HP.out]; rfl, Ext.refl _⟩
  ·have HP : Hid (¬ (p ≠ 0 /\ p ≠ 1)) := hp
   rcases (show p = 0 \/ p = 1 by omega) with rfl | rfl
   ·clear hp
    go_wp2_with fail
    go_loopw [36] (fun i wr => ∃ j : Nat, j <= cn /\ i = .int .i64 j /\ (∀ i : Nat, i < j -> heldP ls ss kd m k n (f + i) = true) /\ Ext w wr) (fun i _ => cn - (intOf i).toNat)
    case atStart => exact ⟨0, Nat.zero_le _, rfl, fun i hi => absurd hi (Nat.not_lt_zero _), Ext.refl _⟩
    case round =>
     obtain ⟨j, hj, rfl, hal, hx⟩ := hrel
     have HAl : Hid (∀ i : Nat, i < j -> heldP ls ss kd m k n (f + i) = true) := hal
     have HX : Hid (Ext w wr) := hx
     have r0 := hx.cell r0
     have r1 := hx.cell r1
     have r2 := hx.cell r2
     have r3 := hx.cell r3
     have r4 := hx.cell r4
     have r5 := hx.cell r5
     clear hal hx
     by_cases hlt : j < cn
     ·have hwf : IntKind.i64.wrap (f + (j : Int)) = f + (j : Int) := by rw [IntKind.wrap_i64]; omega
      have HLj : Hid (∀ w', Ext w w' -> _) := fun w' hx => HLo.out (f + (j : Int)) w' hx
      cases hfi : ls.findIdx? (covers kd m k n (f + (j : Int))) with
      | none =>
       have HN : Hid (¬ ∀ i : Nat, i < cn -> heldP ls ss kd m k n (f + i) = true) := fun hall => by
        have h1 := hall j hlt
        unfold heldP at h1
        rw [find_none_idx hfi] at h1
        cases h1
       rw [hfi] at HLj
       unfold ptrAt at HLj
       clear hfi
       go_wp2_with fail
       go_region_held3 (fun w' => (w'.cell? ⟨rb, 1, none⟩ = some (.int .i64 kd) /\ w'.cell? ⟨rb, 2, none⟩ = some (.int .i64 m) /\ w'.cell? ⟨rb, 3, none⟩ = some (.int .i64 k) /\ w'.cell? ⟨rb, 4, none⟩ = some (.int .i64 n) /\ w'.cell? ⟨rb, 5, none⟩ = some (.int .i64 f)) /\ Ext wr w')
        ((refine and_c5 r1 r2 r3 r4 r5 ?_; (repeat (first | with_reducible exact Ext.refl _ | with_reducible assumption | with_reducible refine Ext.drew ?_ | with_reducible refine Ext.alloc ?_ _ | with_reducible (apply Ext.chain; assumption))); done))
        (first | (go_at_call 126; refine (HLj.out _ (Ext.drew HX.out)).mono ?_; rintro e w2 ⟨rfl, hx2⟩))
       rename_i hh
       have HX2 : Hid (Ext w w2) := HX.out.trans hh.2
       clear hh hx2
       go_wp2_with fail
       go_quiet (fail)
       go_wp2
       go_ret
       exact ⟨by rw [HCd2.out, if_neg HP.out, if_neg HN.out]; rfl, HX2.out.drewN _⟩
      | some ix =>
       obtain ⟨hix, hfind⟩ := find_idx hfi
       have HH : Hid (heldP ls ss kd m k n (f + (j : Int)) = (ls[ix].s == ss && !ls[ix].r)) := by
        show heldP ls ss kd m k n (f + (j : Int)) = (ls[ix].s == ss && !ls[ix].r)
        unfold heldP
        rw [hfind]
       obtain ⟨g, cap, hlv⟩ : ∃ g cap, lv = .slice (some ⟨g, 0, none⟩) ls.length cap := by
        rcases LeasesAt.form HLr.out with ⟨_, e⟩ | ⟨g, cap, e, _⟩
        ·rw [e] at hix; simp at hix
        ·exact ⟨g, cap, e⟩
       have hlr := HLr.out
       rw [hlv] at hlr
       obtain ⟨l0, _, _, _, _, _, _, _, l8⟩ := LeasesAt.cells (hlr.ext HX.out) ix hix
       rw [hfi, hlv] at HLj
       unfold ptrAt at HLj
       clear hfi hfind hlr hlv
       generalize ls[ix].s = sx at *
       generalize ls[ix].r = rx at *
       go_wp2_with fail
       go_region_held3 (fun w' => (w'.cell? ⟨rb, 1, none⟩ = some (.int .i64 kd) /\ w'.cell? ⟨rb, 2, none⟩ = some (.int .i64 m) /\ w'.cell? ⟨rb, 3, none⟩ = some (.int .i64 k) /\ w'.cell? ⟨rb, 4, none⟩ = some (.int .i64 n) /\ w'.cell? ⟨rb, 5, none⟩ = some (.int .i64 f)) /\ Ext wr w')
        ((refine and_c5 r1 r2 r3 r4 r5 ?_; (repeat (first | with_reducible exact Ext.refl _ | with_reducible assumption | with_reducible refine Ext.drew ?_ | with_reducible refine Ext.alloc ?_ _ | with_reducible (apply Ext.chain; assumption))); done))
        (first | (go_at_call 126; refine (HLj.out _ (Ext.drew HX.out)).mono ?_; rintro e w2 ⟨rfl, hx2⟩))
       rename_i hh
       have HX2 : Hid (Ext w w2) := HX.out.trans hh.2
       have l0 := hh.2.cell l0
       have l8 := hh.2.cell l8
       have r0 := hh.2.cell r0
       clear hh hx2
       by_cases hgood : sx = ss /\ rx = false
       ·obtain ⟨rfl, rfl⟩ := hgood
        have HAl2 : Hid (∀ i : Nat, i < j + 1 -> heldP ls sx kd m k n (f + i) = true) := fun i hi => by
         by_cases e : i = j
         ·subst e
          rw [HH.out]; simp
         ·exact HAl.out i (by omega)
        go_wp2_with fail
        go_quiet (fail)
        go_wp2
        go_roundw
        case rel => exact ⟨j + 1, by omega, by go_num, HAl2.out, HX2.out.drewN _⟩
        case measure => simp [intOf]; omega
       ·have HN : Hid (¬ ∀ i : Nat, i < cn -> heldP ls ss kd m k n (f + i) = true) := fun hall => by
         have h1 := hall j hlt
         rw [HH.out] at h1
         apply hgood
         simpa using h1
        by_cases hs : sx = ss
        ·subst hs
         have hr : rx = true := by
          cases rx
          ·exact absurd ⟨rfl, rfl⟩ hgood
          ·rfl
         subst hr
         clear hgood HH
         go_wp2_with fail
         go_quiet (fail)
         go_wp2
         go_ret
         exact ⟨by rw [HCd2.out, if_neg HP.out, if_neg HN.out]; rfl, HX2.out.drewN _⟩
        ·clear hgood HH
         go_wp2_with fail
         go_quiet (fail)
         go_wp2
         go_ret
         exact ⟨by rw [HCd2.out, if_neg HP.out, if_neg HN.out]; rfl, HX2.out.drewN _⟩
     ·obtain rfl : j = cn := by omega
      go_wp2
      go_ret
      exact ⟨by rw [HCd2.out, if_neg HP.out, if_pos HAl.out]; rfl, HX.out⟩
   ·clear hp
    go_wp2_with fail
    go_loopw [36] (fun i wr => ∃ j : Nat, j <= cn /\ i = .int .i64 j /\ (∀ i : Nat, i < j -> heldP ls ss kd m k n (f + i) = true) /\ Ext w wr) (fun i _ => cn - (intOf i).toNat)
    case atStart => exact ⟨0, Nat.zero_le _, rfl, fun i hi => absurd hi (Nat.not_lt_zero _), Ext.refl _⟩
    case round =>
     obtain ⟨j, hj, rfl, hal, hx⟩ := hrel
     have HAl : Hid (∀ i : Nat, i < j -> heldP ls ss kd m k n (f + i) = true) := hal
     have HX : Hid (Ext w wr) := hx
     have r0 := hx.cell r0
     have r1 := hx.cell r1
     have r2 := hx.cell r2
     have r3 := hx.cell r3
     have r4 := hx.cell r4
     have r5 := hx.cell r5
     clear hal hx
     by_cases hlt : j < cn
     ·have hwf : IntKind.i64.wrap (f + (j : Int)) = f + (j : Int) := by rw [IntKind.wrap_i64]; omega
      have HLj : Hid (∀ w', Ext w w' -> _) := fun w' hx => HLo.out (f + (j : Int)) w' hx
      cases hfi : ls.findIdx? (covers kd m k n (f + (j : Int))) with
      | none =>
       have HN : Hid (¬ ∀ i : Nat, i < cn -> heldP ls ss kd m k n (f + i) = true) := fun hall => by
        have h1 := hall j hlt
        unfold heldP at h1
        rw [find_none_idx hfi] at h1
        cases h1
       rw [hfi] at HLj
       unfold ptrAt at HLj
       clear hfi
       go_wp2_with fail
       go_region_held3 (fun w' => (w'.cell? ⟨rb, 1, none⟩ = some (.int .i64 kd) /\ w'.cell? ⟨rb, 2, none⟩ = some (.int .i64 m) /\ w'.cell? ⟨rb, 3, none⟩ = some (.int .i64 k) /\ w'.cell? ⟨rb, 4, none⟩ = some (.int .i64 n) /\ w'.cell? ⟨rb, 5, none⟩ = some (.int .i64 f)) /\ Ext wr w')
        ((refine and_c5 r1 r2 r3 r4 r5 ?_; (repeat (first | with_reducible exact Ext.refl _ | with_reducible assumption | with_reducible refine Ext.drew ?_ | with_reducible refine Ext.alloc ?_ _ | with_reducible (apply Ext.chain; assumption))); done))
        (first | (go_at_call 126; refine (HLj.out _ (Ext.drew HX.out)).mono ?_; rintro e w2 ⟨rfl, hx2⟩))
       rename_i hh
       have HX2 : Hid (Ext w w2) := HX.out.trans hh.2
       clear hh hx2
       go_wp2_with fail
       go_quiet (fail)
       go_wp2
       go_ret
       exact ⟨by rw [HCd2.out, if_neg HP.out, if_neg HN.out]; rfl, HX2.out.drewN _⟩
      | some ix =>
       obtain ⟨hix, hfind⟩ := find_idx hfi
       have HH : Hid (heldP ls ss kd m k n (f + (j : Int)) = (ls[ix].s == ss && !ls[ix].r)) := by
        show heldP ls ss kd m k n (f + (j : Int)) = (ls[ix].s == ss && !ls[ix].r)
        unfold heldP
        rw [hfind]
       obtain ⟨g, cap, hlv⟩ : ∃ g cap, lv = .slice (some ⟨g, 0, none⟩) ls.length cap := by
        rcases LeasesAt.form HLr.out with ⟨_, e⟩ | ⟨g, cap, e, _⟩
        ·rw [e] at hix; simp at hix
        ·exact ⟨g, cap, e⟩
       have hlr := HLr.out
       rw [hlv] at hlr
       obtain ⟨l0, _, _, _, _, _, _, _, l8⟩ := LeasesAt.cells (hlr.ext HX.out) ix hix
       rw [hfi, hlv] at HLj
       unfold ptrAt at HLj
       clear hfi hfind hlr hlv
       generalize ls[ix].s = sx at *
       generalize ls[ix].r = rx at *
       go_wp2_with fail
       go_region_held3 (fun w' => (w'.cell? ⟨rb, 1, none⟩ = some (.int .i64 kd) /\ w'.cell? ⟨rb, 2, none⟩ = some (.int .i64 m) /\ w'.cell? ⟨rb, 3, none⟩ = some (.int .i64 k) /\ w'.cell? ⟨rb, 4, none⟩ = some (.int .i64 n) /\ w'.cell? ⟨rb, 5, none⟩ = some (.int .i64 f)) /\ Ext wr w')
        ((refine and_c5 r1 r2 r3 r4 r5 ?_; (repeat (first | with_reducible exact Ext.refl _ | with_reducible assumption | with_reducible refine Ext.drew ?_ | with_reducible refine Ext.alloc ?_ _ | with_reducible (apply Ext.chain; assumption))); done))
        (first | (go_at_call 126; refine (HLj.out _ (Ext.drew HX.out)).mono ?_; rintro e w2 ⟨rfl, hx2⟩))
       rename_i hh
       have HX2 : Hid (Ext w w2) := HX.out.trans hh.2
       have l0 := hh.2.cell l0
       have l8 := hh.2.cell l8
       have r0 := hh.2.cell r0
       clear hh hx2
       by_cases hgood : sx = ss /\ rx = false
       ·obtain ⟨rfl, rfl⟩ := hgood
        have HAl2 : Hid (∀ i : Nat, i < j + 1 -> heldP ls sx kd m k n (f + i) = true) := fun i hi => by
         by_cases e : i = j
         ·subst e
          rw [HH.out]; simp
         ·exact HAl.out i (by omega)
        go_wp2_with fail
        go_quiet (fail)
        go_wp2
        go_roundw
        case rel => exact ⟨j + 1, by omega, by go_num, HAl2.out, HX2.out.drewN _⟩
        case measure => simp [intOf]; omega
       ·have HN : Hid (¬ ∀ i : Nat, i < cn -> heldP ls ss kd m k n (f + i) = true) := fun hall => by
         have h1 := hall j hlt
         rw [HH.out] at h1
         apply hgood
         simpa using h1
        by_cases hs : sx = ss
        ·subst hs
         have hr : rx = true := by
          cases rx
          ·exact absurd ⟨rfl, rfl⟩ hgood
          ·rfl
         subst hr
         clear hgood HH
         go_wp2_with fail
         go_quiet (fail)
         go_wp2
         go_ret
         exact ⟨by rw [HCd2.out, if_neg HP.out, if_neg HN.out]; rfl, HX2.out.drewN _⟩
        ·clear hgood HH
         go_wp2_with fail
         go_quiet (fail)
         go_wp2
         go_ret
         exact ⟨by rw [HCd2.out, if_neg HP.out, if_neg HN.out]; rfl, HX2.out.drewN _⟩
     ·obtain rfl : j = cn := by omega
      go_wp2
      go_ret
      exact ⟨by rw [HCd2.out, if_neg HP.out, if_pos HAl.out]; rfl, HX.out⟩
end
end
-- GFe
section
set_option maxRecDepth 100000
set_option maxHeartbeats 3200000
open Go.RowKit Go.Maps
theorem zeroSh (w : World) : (zeroValue 176).run Tryz.prog w = .ok (.agg #[.slice none 0 0, .slice none 0 0]) w := by kernel_rfl
def Stk.sh (x : Stk) : Sh := shOf x.kd x.m x.k x.n
/-- A party's shares of a triple of a stock. -/
def sharesW (x : Stk) (p : Int) (i : Nat) : List Int := if p = 0 then part0 x.sh (x.ts.getD i ([], false)).1 else part1 x.sh (x.ts.getD i ([], false)).1
def fetched (x : Stk) (p : Int) (f j : Nat) : List Int := (List.range j).flatMap (fun i => sharesW x p (f + i))
theorem fetched_succ (x : Stk) (p : Int) (f j : Nat) : fetched x p f (j + 1) = fetched x p f j ++ sharesW x p (f + j) := by simp [fetched, List.range_succ]
section
variable {B : Nat} {F : Nat -> Prop} {sv lv dv : Value} {R : List StkR} {ls : List LsV} {ops : List OpV} {fl : Bool} {ah : Int} {kn : Bool}
/-- What is found of a triple whose shares are kept. -/
theorem StkAt.look {w : World} {x : StkR} (h : StkAt w F x) {i : Nat} (hi : i < x.ts.length) (hk : x.ts[i].2 = true) (hm : i <= 1000000) :
  ∃ a0 c0 a1 c1, (∀ w', Ext w w' -> (Instr.lookup 152 (.map (some x.mb)) (.int .i64 (i : Int)) false).run Tryz.prog w' = .ok (.agg #[.slice (some ⟨a0, 0, none⟩) (x.sh.x + x.sh.y + x.sh.z) c0, .slice (some ⟨a1, 0, none⟩) (x.sh.x + x.sh.y + x.sh.z) c1]) w') /\ WordsAt w a0 0 (part0 x.sh x.ts[i].1) /\ WordsAt w a1 0 (part1 x.sh x.ts[i].1) := by
 obtain ⟨D, hD, hK⟩ := h.map
 obtain ⟨v, hv, a0, c0, a1, c1, rfl, hw0, hw1, _, _⟩ := hK.2.2 i hi hk
 refine ⟨a0, c0, a1, c1, fun w' hx => ?_, hw0.1, hw1.1⟩
 have hD' : w'.ownsMap Tryz.prog 3 heldElem x.mb x.ts.length D := map_turn (S := fun _ => False) hD (Turn.of_ext hx) id
 obtain ⟨v', ps, hrun, hv'⟩ := hD'.lookup keyInt Tryz.underlying152 (zeroSh w') (zd := .held (.agg #[.slice none 0 0, .slice none 0 0])) (zp := []) rfl (keyOf_int_mk Tryz.underlying3 (a := (i : Int)) (by simp [Lit.wf, IntKind.min, IntKind.max, IntKind.signed, IntKind.bits]; omega))
 have hv2 : D.atKey (.int .i64 (i : Int)) (.held (.agg #[.slice none 0 0, .slice none 0 0])) = _ := hv
 rw [hv2] at hv'
 simp [heldElem] at hv'
 rw [hrun, hv'.1]
theorem ix_0 (a0 a1 L c0 c1 : Nat) (w : World) : (Instr.index 176 (.agg #[.slice (some ⟨a0, 0, none⟩) L c0, .slice (some ⟨a1, 0, none⟩) L c1]) (.int .i64 0)).run Tryz.prog w = .ok (.slice (some ⟨a0, 0, none⟩) L c0) w := by kernel_rfl
theorem ix_1 (a0 a1 L c0 c1 : Nat) (w : World) : (Instr.index 176 (.agg #[.slice (some ⟨a0, 0, none⟩) L c0, .slice (some ⟨a1, 0, none⟩) L c1]) (.int .i64 1)).run Tryz.prog w = .ok (.slice (some ⟨a1, 0, none⟩) L c1) w := by kernel_rfl
/-- A Fetch that is refused. -/
theorem storeFetchNo_c (rb : Nat) (ss kd m k n f c p cd : Int) (hcd : cd ≠ 0) (hR : R.length <= 100) (w : World) (h : StoreOf w B F sv lv dv R ls ops fl ah kn) (hr : FetchReq w rb ss kd m k n f c p)
  (hmf : ∀ w', Ext w w' -> Calls Tryz.prog 169 #[.pointer (some ⟨B, 0, none⟩), stkPtr R kd m k n, .pointer (some ⟨rb, 0, none⟩)] w' fun e w'' => e = .returned (.int .i64 cd) /\ Ext w' w'') :
  Calls Tryz.prog 120 #[.pointer (some ⟨B, 0, none⟩), .pointer (some ⟨rb, 0, none⟩)] w fun e w' => e = .returned (replyV cd 0 0 (.slice none 0 0)) /\ Ext w w' := by
 have HMF : Hid (∀ w', Ext w w' -> _) := hmf
 have HF : Hid (∀ w', Ext w w' -> _) := fun w' hx => findR_c kd m k n hR w' (h.ext hx)
 unfold clsV at HF
 have r1 : w.cell? ⟨rb, 1, none⟩ = some (.int .i64 kd) := cell_at hr rfl
 have r2 : w.cell? ⟨rb, 2, none⟩ = some (.int .i64 m) := cell_at hr rfl
 have r3 : w.cell? ⟨rb, 3, none⟩ = some (.int .i64 k) := cell_at hr rfl
 have r4 : w.cell? ⟨rb, 4, none⟩ = some (.int .i64 n) := cell_at hr rfl
 have hrl := lG w _ r1
 clear h hr hmf
 unfold replyV
 have hsp : ∃ a, stkPtr R kd m k n = .pointer a := by
  unfold stkPtr
  split
  ·exact ⟨_, rfl⟩
  ·exact ⟨_, rfl⟩
 obtain ⟨pa, hpa⟩ := hsp
 rw [hpa] at HMF HF
 clear hpa
 go_enter Tryz.func120, Tryz.ntmps120
 go_wp2_with fail
 refine (HF.out _ ((Ext.refl w).alloc _)).mono ?_
 rintro e w1 ⟨rfl, hx1⟩
 have hr1 := hx1.block (heap_alloc_new _ _)
 have HX1 : Hid (Ext w w1) := ((Ext.refl w).alloc _).trans hx1
 have HR1 : Hid _ := hr1
 clear hx1 hr1
 go_wp2_with fail
 refine (HMF.out _ HX1.out).mono ?_
 rintro e w2 ⟨rfl, hx2⟩
 have hr2 := hx2.block HR1.out
 have o0 := cell_at hr2 (i := 0) rfl
 have o1 := cell_at hr2 (i := 1) rfl
 have o2 := cell_at hr2 (i := 2) rfl
 have o3 := cell_at hr2 (i := 3) rfl
 have f0 := frozen_row hr2 0
 have f1 := frozen_row hr2 1
 have f2 := frozen_row hr2 2
 have f3 := frozen_row hr2 3
 have HX2 : Hid (Ext w w2) := HX1.out.trans hx2
 clear hx2 hr2
 go_wp2
 refine bodyPost_ret (v := .agg #[.int .i64 cd, .int .i64 0, .int .i64 0, .slice none 0 0]) (by simp [results, Tryz.results120, go_sem, o0, o1, o2, o3]) rfl ⟨rfl, ?_⟩
 exact ext4 HX2.out (Nat.le_refl _) _ _ _ _
theorem storeFetch_c (rb f c L : Nat) (x : StkR) (ss kd m k n p : Int) (hp : p = 0 \/ p = 1) (hf1 : f <= 1000) (hc1 : 1 <= c) (hc40 : c <= 40) (hR : R.length <= 100) (hfx : R.find? (fun x => x.is kd m k n) = some x) (hL : L = x.sh.x + x.sh.y + x.sh.z) (hL1 : 1 <= L) (hL2 : L <= 27)
  (hxk : ∀ i : Nat, i < c -> ∃ h : f + i < x.ts.length, x.ts[f + i].2 = true) (hlen : ∀ i (h : i < x.ts.length), x.ts[i].1.length = x.sh.x + x.sh.y + (x.sh.x + x.sh.y + x.sh.z)) (w : World) (h : StoreOf w B F sv lv dv R ls ops fl ah kn) (hr : FetchReq w rb ss kd m k n f c p)
  (hmf : ∀ w', Ext w w' -> Calls Tryz.prog 169 #[.pointer (some ⟨B, 0, none⟩), .pointer (some ⟨x.blk, 0, none⟩), .pointer (some ⟨rb, 0, none⟩)] w' fun e w'' => e = .returned (.int .i64 0) /\ Ext w' w'') :
  Calls Tryz.prog 120 #[.pointer (some ⟨B, 0, none⟩), .pointer (some ⟨rb, 0, none⟩)] w fun e w' => ∃ gv cv, e = .returned (replyV 0 f c (.slice (some ⟨gv, 0, none⟩) (c * L) cv)) /\ w'.ownsRow w.heap.size 146 1 (.slice (some ⟨gv, 0, none⟩) (c * L) cv) (c * L) ((fetched x.abs p f c).map (Value.int .u64)) /\ Ext w w' := by
 obtain ⟨i0, hi, hq0, hq1, hq2⟩ := info_parts infoU64
 have HMF : Hid (∀ w', Ext w w' -> _) := hmf
 have HF : Hid (∀ w', Ext w w' -> Calls Tryz.prog 168 #[.pointer (some ⟨B, 0, none⟩), .agg #[.int .i64 kd, .int .i64 m, .int .i64 k, .int .i64 n]] w' fun e w'' => e = .returned (.pointer (some ⟨x.blk, 0, none⟩)) /\ Ext w' w'') := fun w' hx => by
  have := findR_c kd m k n hR w' (h.ext hx)
  rwa [stkPtr, hfx] at this
 have hxR : x ∈ R := List.mem_of_find?_eq_some hfx
 have HLook : Hid (∀ i : Nat, i < c -> ∃ a0 c0 a1 c1 ap cp, (∀ w', Ext w w' -> (Instr.lookup 152 (.map (some x.mb)) (.int .i64 ((f + i : Nat) : Int)) false).run Tryz.prog w' = .ok (.agg #[.slice (some ⟨a0, 0, none⟩) L c0, .slice (some ⟨a1, 0, none⟩) L c1]) w') /\ (∀ W, (Instr.index 176 (.agg #[.slice (some ⟨a0, 0, none⟩) L c0, .slice (some ⟨a1, 0, none⟩) L c1]) (.int .i64 p)).run Tryz.prog W = .ok (.slice (some ⟨ap, 0, none⟩) L cp) W) /\ WordsAt w ap 0 (sharesW x.abs p (f + i)) /\ (sharesW x.abs p (f + i)).length = L) := fun i hic => by
  obtain ⟨hix, hk⟩ := hxk i hic
  obtain ⟨a0, c0, a1, c1, h1, h2, h3⟩ := (h.stk x hxR).look hix hk (by omega)
  rw [<- hL] at h1
  have hge : (x.abs.ts.getD (f + i) ([], false)).1 = x.ts[f + i].1 := by
   show (x.ts.getD (f + i) ([], false)).1 = _
   rw [List.getD_eq_getElem?_getD, List.getElem?_eq_getElem hix]; rfl
  have hl := hlen (f + i) hix
  have hp0 : (part0 x.sh x.ts[f + i].1).length = L := by rw [part0, List.length_drop]; omega
  have hp1 : (part1 x.sh x.ts[f + i].1).length = L := by rw [part1, List.length_zipWith, whole_len _ _ hl, hp0]; omega
  rcases hp with rfl | rfl
  ·refine ⟨a0, c0, a1, c1, a0, c0, h1, ix_0 a0 a1 L c0 c1, ?_, ?_⟩
   ·rw [sharesW, if_pos rfl, hge]; exact h2
   ·rw [sharesW, if_pos rfl, hge]; exact hp0
  ·refine ⟨a0, c0, a1, c1, a1, c1, h1, ix_1 a0 a1 L c0 c1, ?_, ?_⟩
   ·rw [sharesW, if_neg (by decide), hge]; exact h3
   ·rw [sharesW, if_neg (by decide), hge]; exact hp1
 have hb6 := (h.stk x hxR).blk
 have k6 : w.cell? ⟨x.blk, 6, none⟩ = some (.map (some x.mb)) := (cell_of_row w x.blk 6 _ _ _ hb6).trans rfl
 have r1 : w.cell? ⟨rb, 1, none⟩ = some (.int .i64 kd) := cell_at hr rfl
 have r2 : w.cell? ⟨rb, 2, none⟩ = some (.int .i64 m) := cell_at hr rfl
 have r3 : w.cell? ⟨rb, 3, none⟩ = some (.int .i64 k) := cell_at hr rfl
 have r4 : w.cell? ⟨rb, 4, none⟩ = some (.int .i64 n) := cell_at hr rfl
 have r5 : w.cell? ⟨rb, 5, none⟩ = some (.int .i64 (f : Int)) := cell_at hr rfl
 have r6 : w.cell? ⟨rb, 6, none⟩ = some (.int .i64 (c : Int)) := cell_at hr rfl
 have r7 : w.cell? ⟨rb, 7, none⟩ = some (.int .i64 p) := cell_at hr rfl
 have hrl := lG w _ r1
 have hkl := lG w _ k6
 clear h hr hmf hxk hlen hfx hxR hb6 hL
 obtain ⟨A, hA⟩ : ∃ A, fetched x.abs p f = A := ⟨_, rfl⟩
 obtain ⟨Sw, hSw⟩ : ∃ Sw, sharesW x.abs p = Sw := ⟨_, rfl⟩
 have HAs : Hid (∀ j, A (j + 1) = A j ++ Sw (f + j)) := fun j => by rw [<- hA, <- hSw]; exact fetched_succ _ _ _ _
 have HA0 : Hid (A 0 = []) := by rw [<- hA]; rfl
 rw [hA]
 rw [hSw] at HLook
 clear hA hSw
 generalize x.blk = blk at *
 generalize x.mb = mb at *
 unfold replyV
 go_enter Tryz.func120, Tryz.ntmps120
 go_wp2_with fail
 refine (HF.out _ ((Ext.refl w).alloc _)).mono ?_
 rintro e w1 ⟨rfl, hx1⟩
 have hr1 := hx1.block (heap_alloc_new _ _)
 have HX1 : Hid (Ext w w1) := ((Ext.refl w).alloc _).trans hx1
 have HR1 : Hid _ := hr1
 clear hx1 hr1
 go_wp2_with fail
 refine (HMF.out _ HX1.out).mono ?_
 rintro e w2 ⟨rfl, hx2⟩
 have HX2 : Hid (Ext w w2) := HX1.out.trans hx2
 have HRS : Hid _ := hx2.block HR1.out
 have r5 := HX2.out.cell r5
 have r6 := HX2.out.cell r6
 have r7 := HX2.out.cell r7
 have k6 := HX2.out.cell k6
 clear hx2 HR1 HX1 r1 r2 r3 r4
 go_wp2_with fail
 go_loopw [7, 27] (fun u i wr => ∃ j : Nat, j <= c /\ i = .int .i64 j /\ wr.ownsRow w2.heap.size 146 1 u (j * L) ((A j).map (Value.int .u64)) /\ Ext w2 wr) (fun _ i _ => c - (intOf i).toNat)
 case atStart => exact ⟨0, Nat.zero_le _, rfl, by rw [HA0.out, Nat.zero_mul]; exact World.ownsRow_nil _ _ _ _, Ext.refl _⟩
 case round =>
  obtain ⟨j, hj, rfl, ho, hx⟩ := hrel
  have HO : Hid (wr.ownsRow w2.heap.size 146 1 u7 (j * L) ((A j).map (Value.int .u64))) := ho
  have HX : Hid (Ext w2 wr) := hx
  clear ho hx
  by_cases hlt : j < c
  ·obtain ⟨a0, c0, a1, c1, ap, cp, hlk, hix, hwa, hwl⟩ := HLook.out j hlt
   have hwf : IntKind.i64.wrap ((f : Int) + (j : Int)) = ((f + j : Nat) : Int) := by rw [IntKind.wrap_i64]; omega
   obtain ⟨fj, hfj⟩ : ∃ fj, f + j = fj := ⟨_, rfl⟩
   rw [hfj] at hlk hwa hwl hwf
   have HFJ : Hid (f + j = fj) := hfj
   obtain ⟨jl, hjl⟩ : ∃ jl, j * L = jl := ⟨_, rfl⟩
   have hjlb : jl <= 1080 := by rw [<- hjl]; exact Nat.le_trans (Nat.mul_le_mul (Nat.le_of_lt (Nat.lt_of_lt_of_le hlt hc40)) hL2) (by omega)
   have HJL : Hid (j * L = jl) := hjl
   rw [hjl] at HO
   have SF : Hid (∀ w', Ext w2 w' -> ((w'.cell? ⟨blk, 6, none⟩ = some (.map (some mb)) /\ w'.cell? ⟨rb, 5, none⟩ = some (.int .i64 (f : Int)) /\ w'.cell? ⟨rb, 7, none⟩ = some (.int .i64 p)) /\ (Instr.lookup 152 (.map (some mb)) (.int .i64 (fj : Int)) false).run Tryz.prog w' = .ok (.agg #[.slice (some ⟨a0, 0, none⟩) L c0, .slice (some ⟨a1, 0, none⟩) L c1]) w') /\ Ext w2 w') := fun w' hx => ⟨⟨⟨hx.cell k6, hx.cell r5, hx.cell r7⟩, hlk w' (HX2.out.trans hx)⟩, hx⟩
   have HWA : Hid (WordsAt wr ap 0 (Sw fj)) := hwa.ext (HX2.out.trans HX.out)
   have HWL : Hid ((Sw fj).length = L) := hwl
   have hwl2 := HX2.out.le
   have hwl3 := HX.out.le
   clear hlk hwa hwl hfj hjl
   have HG : Hid (∀ q, u7.ownBlock = some q -> w2.heap.size <= q /\ q < wr.heap.size) := fun q hq => World.ownsRow.lt HO.out q hq
   have k6' := HX.out.cell k6
   have r5' := HX.out.cell r5
   have r7' := HX.out.cell r7
   have hxp : Ext w2 wr := HX.out
   clear k6 r5 r6 r7
   go_wp2_with fail
   go_region_held3 (fun w' => ((w'.cell? ⟨blk, 6, none⟩ = some (.map (some mb)) /\ w'.cell? ⟨rb, 5, none⟩ = some (.int .i64 (f : Int)) /\ w'.cell? ⟨rb, 7, none⟩ = some (.int .i64 p)) /\ (Instr.lookup 152 (.map (some mb)) (.int .i64 (fj : Int)) false).run Tryz.prog w' = .ok (.agg #[.slice (some ⟨a0, 0, none⟩) L c0, .slice (some ⟨a1, 0, none⟩) L c1]) w') /\ Ext w2 w')
    (first
      | (refine SF.out _ ?_; (repeat (first | with_reducible exact Ext.refl _ | with_reducible assumption | with_reducible refine Ext.drew ?_ | with_reducible refine Ext.alloc ?_ _ | with_reducible (apply Ext.chain; assumption))); done)
      | exact SF.out _ (Ext.grown (Ext.drew HX.out) hgrow (fun q hq => (HG.out q hq).1)))
    (first
      | (refine step_append_lies _ (by rfl) _ _ 31 (by rfl) w2.heap.size 146 i0 (.int .u64 0) 1 8 Tryz.underlying31 hi hq0 hq1 hq2 (by rfl) (by decide) u7 jl ((A j).map (Value.int .u64)) (by rfl) (Ext.owns (Ext.drew (Ext.refl _)) HO.out) ⟨_, 0, none⟩ L cp ((Sw fj).map (Value.int .u64)) (by rfl) (by rw [List.length_map, HWL.out, Nat.mul_one]) (WordsAt.cells (HWA.out.ext (Ext.drew (Ext.refl _)))) (words_one _) (by omega) (by simp [maxLen]; omega) (by omega) (by show w2.heap.size <= wr.heap.size; omega) _ rfl ?_; intro gv cv w3 hown3 hgrow hat hlt3))
   have HQ : Hid (w3.ownsRow w2.heap.size 146 1 (.slice (some ⟨gv, 0, none⟩) (jl + L) cv) (jl + L) ((A j).map (Value.int .u64) ++ (Sw fj).map (Value.int .u64)) /\ Ext w2 w3) := And.intro hown3 (Ext.grown (Ext.drew HX.out) hgrow (fun q hq => (HG.out q hq).1))
   clear hown3 hgrow hat
   go_wp2
   go_roundw
   case rel =>
    refine ⟨j + 1, by omega, by go_num, ?_, HQ.out.2⟩
    rw [HAs.out, HFJ.out, List.map_append, show (j + 1) * L = jl + L by rw [Nat.add_mul, Nat.one_mul, HJL.out]]
    exact HQ.out.1
   case measure => simp [intOf]; omega
  ·obtain rfl : j = c := by omega
   have hf2 := owns_form HO.out
   obtain ⟨gv, cv, rfl, _, _, _⟩ : ∃ gv cv, u7 = .slice (some ⟨gv, 0, none⟩) (j * L) cv /\ w2.heap.size <= gv /\ j * L <= cv /\ cv <= maxLen := by
    rcases hf2 with ⟨_, h, _⟩ | h
    ·have : 1 <= j * L := Nat.mul_pos hc1 hL1
     omega
    ·exact h
   have HXX : Hid (Ext w wr) := HX2.out.trans HX.out
   have hrs := HX.out.block HRS.out
   have r5 := HX.out.cell r5
   have r6 := HX.out.cell r6
   have o0 := cell_at hrs (i := 0) rfl
   have o1 := cell_at hrs (i := 1) rfl
   have o2 := cell_at hrs (i := 2) rfl
   have o3 := cell_at hrs (i := 3) rfl
   have f0 := frozen_row hrs 0
   have f1 := frozen_row hrs 1
   have f2 := frozen_row hrs 2
   have f3 := frozen_row hrs 3
   have HNE : Hid ((Value.slice (some ⟨gv, 0, none⟩) (j * L) cv).ownBlock ≠ some w.heap.size) := row_ne (B := w.heap.size) (t := 33) hrs HO.out (by decide)
   obtain ⟨jl, hjl⟩ : ∃ jl, j * L = jl := ⟨_, rfl⟩
   rw [hjl] at HO HNE ⊢
   have HJL : Hid (j * L = jl) := hjl
   have hrbw : w.heap.size ≠ rb := by omega
   have hwrl := lG wr _ o0
   clear hrs hf2 hjl k6
   go_wp2_with fail
   go_region
   all_goals go_wp2
   all_goals refine bodyPost_ret (v := .agg #[.int .i64 0, .int .i64 f, .int .i64 j, .slice (some ⟨gv, 0, none⟩) jl cv]) (by simp [results, Tryz.results120, go_sem, o0, o1, o2, o3]) rfl ⟨gv, cv, by rw [HJL.out], ?_, ?_⟩
   all_goals first
    | (rw [HJL.out]; exact World.ownsRow.drew (owns_setCell (owns_setCell (owns_setCell (owns_setCell (owns_base HO.out HX2.out.le) HNE.out _) HNE.out _) HNE.out _) HNE.out _))
    | exact Ext.drew (ext4 HXX.out (Nat.le_refl _) _ _ _ _)
end
end
-- ChkA
section
open Go.RowKit
theorem req_cells {W : World} {g : Nat} {t : TypeId} {k s i ck cm cl cn f c p : Value} (h : W.heap[g]? = some (.cells #[k, s, i, ck, cm, cl, cn, f, c, p] t (0, 0))) :
  W.cell? ⟨g, 0, none⟩ = some k /\ W.cell? ⟨g, 1, none⟩ = some s /\ W.cell? ⟨g, 2, none⟩ = some i /\ W.cell? ⟨g, 3, none⟩ = some ck /\ W.cell? ⟨g, 4, none⟩ = some cm /\ W.cell? ⟨g, 5, none⟩ = some cl /\ W.cell? ⟨g, 6, none⟩ = some cn /\ W.cell? ⟨g, 7, none⟩ = some f /\ W.cell? ⟨g, 8, none⟩ = some c /\ W.cell? ⟨g, 9, none⟩ = some p :=
 ⟨cell_at h rfl, cell_at h rfl, cell_at h rfl, cell_at h rfl, cell_at h rfl, cell_at h rfl, cell_at h rfl, cell_at h rfl, cell_at h rfl, cell_at h rfl⟩
end
-- Chk1
section
set_option maxRecDepth 100000
set_option maxHeartbeats 1600000
open Go.RowKit
/-- A request that bears something that it does not use. -/
theorem check_1a (s i ck cm cl cn f c p : Int) (h : ((0 == f && 0 == p)) = false) (w : World) :
  Calls Tryz.prog 55 #[.agg #[.int .i64 1, .int .i64 s, .int .i64 i, .int .i64 ck, .int .i64 cm, .int .i64 cl, .int .i64 cn, .int .i64 f, .int .i64 c, .int .i64 p]] w fun e w' => e = .returned (.tuple #[.nilIface, .int .i64 1]) /\ Ext w w' := by
 have hm1 := m_leasePlain
 have heq := eqReq
 go_enter Tryz.func55, Tryz.ntmps55
 go_wp2_with (go_at_call 84; refine (ofKind_1 s i ck cm cl cn f c p _).mono ?_; rintro e w1 ⟨b, rfl, hb, hlt, hx⟩)
 have hr := hx.block (at_new rfl)
 have HR : Hid _ := hr
 have HB : Hid _ := hb
 have HX : Ext w w1 := (Ext.refl w).alloc _ |>.trans hx
 obtain ⟨q0, q1, q2, q3, q4, q5, q6, q7, q8, q9⟩ := req_cells hr
 clear hr hb hx
 refine wp_region_any (by kernel_rfl) ?_
 change wpAny _ _ _ _ _ _ _ (World.drew _)
 refine wpAny_ready (rs := [0]) (by kernel_rfl) (by simp) ?_
 refine AllReady.cons rfl (fun K hK => ?_) AllReady.nil
 go_simp
 refine hK _ _ ?_
 clear hK K
 refine wpAny_ready (rs := [1]) (by kernel_rfl) (by simp) ?_
 refine AllReady.cons rfl (fun K hK => ?_) AllReady.nil
 go_simp
 refine hK _ _ ?_
 clear hK K
 refine wpAny_ready (rs := [2]) (by kernel_rfl) (by simp) ?_
 refine AllReady.cons rfl (fun K hK => ?_) AllReady.nil
 go_simp
 refine hK _ _ ?_
 clear hK K
 refine wpAny_take (i := 3) (v := .iface 201 (.pointer (some ⟨b, 0, none⟩))) rfl (by kernel_rfl) (by kernel_rfl) (by kernel_rfl) (fun _ _ _ h => h) (Or.inl ⟨by rfl, by intro w; go_simp⟩) ?_
 refine wpAny_ready (rs := [4, 5]) (by kernel_rfl) (by simp) ?_
 refine AllReady.cons rfl (fun K hK => ?_) (AllReady.cons rfl (fun K hK => ?_) AllReady.nil)
 ·go_simp
  go_wp2_with (go_at_call 209; refine (leasePlain_c b s i ck cm cl cn c _ (by exact HB.out)).mono ?_; rintro e w2 ⟨rfl, hx2⟩; obtain ⟨r0, r1, r2, r3, r4, r5, r6, r7, r8, r9⟩ := req_cells (hx2.block (by exact HR.out)))
  refine wpAny_ready (rs := [5]) (by kernel_rfl) (by simp) ?_
  refine AllReady.cons rfl (fun K hK => ?_) AllReady.nil
  go_simp
  refine hK _ _ ?_
  clear hK K
  refine wpAny_ready (rs := [6]) (by kernel_rfl) (by simp) ?_
  refine AllReady.cons rfl (fun K hK => ?_) AllReady.nil
  go_simp
  refine hK _ _ ?_
  clear hK K
  refine wpAny_ready (rs := [7]) (by kernel_rfl) (by simp) ?_
  refine AllReady.cons rfl (fun K hK => ?_) AllReady.nil
  go_simp
  refine hK _ _ ?_
  clear hK K
  refine wpAny_ready (rs := [8]) (by kernel_rfl) (by simp) ?_
  refine AllReady.cons rfl (fun K hK => ?_) AllReady.nil
  go_simp
  refine hK _ _ ?_
  clear hK K
  refine wpAny_ready (rs := [9]) (by kernel_rfl) (by simp) ?_
  refine AllReady.cons rfl (fun K hK => ?_) AllReady.nil
  go_simp
  refine hK _ _ ?_
  clear hK K
  refine wpAny_ready (rs := [10]) (by kernel_rfl) (by simp) ?_
  refine AllReady.cons rfl (fun K hK => ?_) AllReady.nil
  go_simp
  refine hK _ _ ?_
  clear hK K
  refine wpAny_ready (rs := [11]) (by kernel_rfl) (by simp) ?_
  refine AllReady.cons rfl (fun K hK => ?_) AllReady.nil
  go_simp
  refine hK _ _ ?_
  clear hK K
  refine wpAny_ready (rs := [12]) (by kernel_rfl) (by simp) ?_
  refine AllReady.cons rfl (fun K hK => ?_) AllReady.nil
  go_simp
  refine hK _ _ ?_
  clear hK K
  refine wpAny_ready (rs := [13]) (by kernel_rfl) (by simp) ?_
  refine AllReady.cons rfl (fun K hK => ?_) AllReady.nil
  go_simp
  refine hK _ _ ?_
  clear hK K
  refine wpAny_done (by kernel_rfl) ?_ _
  go_wp2
  go_ret2
  exact ⟨rfl, HX.trans (Ext.drew (Ext.refl _) |>.trans hx2)⟩
 ·go_simp
  refine hK _ _ ?_
  clear hK K
  refine wpAny_ready (rs := [4]) (by kernel_rfl) (by simp) ?_
  refine AllReady.cons rfl (fun K hK => ?_) AllReady.nil
  go_simp
  go_wp2_with (go_at_call 209; refine (leasePlain_c b s i ck cm cl cn c _ (by exact HB.out)).mono ?_; rintro e w2 ⟨rfl, hx2⟩; obtain ⟨r0, r1, r2, r3, r4, r5, r6, r7, r8, r9⟩ := req_cells (hx2.block (by exact HR.out)))
  refine wpAny_ready (rs := [6]) (by kernel_rfl) (by simp) ?_
  refine AllReady.cons rfl (fun K hK => ?_) AllReady.nil
  go_simp
  refine hK _ _ ?_
  clear hK K
  refine wpAny_ready (rs := [7]) (by kernel_rfl) (by simp) ?_
  refine AllReady.cons rfl (fun K hK => ?_) AllReady.nil
  go_simp
  refine hK _ _ ?_
  clear hK K
  refine wpAny_ready (rs := [8]) (by kernel_rfl) (by simp) ?_
  refine AllReady.cons rfl (fun K hK => ?_) AllReady.nil
  go_simp
  refine hK _ _ ?_
  clear hK K
  refine wpAny_ready (rs := [9]) (by kernel_rfl) (by simp) ?_
  refine AllReady.cons rfl (fun K hK => ?_) AllReady.nil
  go_simp
  refine hK _ _ ?_
  clear hK K
  refine wpAny_ready (rs := [10]) (by kernel_rfl) (by simp) ?_
  refine AllReady.cons rfl (fun K hK => ?_) AllReady.nil
  go_simp
  refine hK _ _ ?_
  clear hK K
  refine wpAny_ready (rs := [11]) (by kernel_rfl) (by simp) ?_
  refine AllReady.cons rfl (fun K hK => ?_) AllReady.nil
  go_simp
  refine hK _ _ ?_
  clear hK K
  refine wpAny_ready (rs := [12]) (by kernel_rfl) (by simp) ?_
  refine AllReady.cons rfl (fun K hK => ?_) AllReady.nil
  go_simp
  refine hK _ _ ?_
  clear hK K
  refine wpAny_ready (rs := [13]) (by kernel_rfl) (by simp) ?_
  refine AllReady.cons rfl (fun K hK => ?_) AllReady.nil
  go_simp
  refine hK _ _ ?_
  clear hK K
  refine wpAny_done (by kernel_rfl) ?_ _
  go_wp2
  go_ret2
  exact ⟨rfl, HX.trans (Ext.drew (Ext.refl _) |>.trans hx2)⟩
theorem vals_lease {W : World} {b : Nat} {s i ck cm cl cn c : Int} {vals : Nat -> Int} (hW : W.heap[b]? = some (.cells #[.int .i64 s, .int .i64 i, .int .i64 ck, .int .i64 cm, .int .i64 cl, .int .i64 cn, .int .i64 c] 210 (0, 0))) (hv : vals 0 = s /\ vals 1 = i /\ vals 2 = ck /\ vals 3 = cm /\ vals 4 = cl /\ vals 5 = cn /\ vals 6 = c) : ∀ x ∈ leaseL, W.cell? ⟨b, x.1, none⟩ = some (.int .i64 (vals x.1)) := by
 obtain ⟨v0, v1, v2, v3, v4, v5, v6⟩ := hv
 intro x hx
 simp only [leaseL, List.mem_cons, List.not_mem_nil, or_false] at hx
 rcases hx with rfl | rfl | rfl | rfl | rfl | rfl | rfl
 ·show W.cell? ⟨b, 0, none⟩ = some (.int .i64 (vals 0)); rw [v0]; exact cell_at hW rfl
 ·show W.cell? ⟨b, 1, none⟩ = some (.int .i64 (vals 1)); rw [v1]; exact cell_at hW rfl
 ·show W.cell? ⟨b, 2, none⟩ = some (.int .i64 (vals 2)); rw [v2]; exact cell_at hW rfl
 ·show W.cell? ⟨b, 3, none⟩ = some (.int .i64 (vals 3)); rw [v3]; exact cell_at hW rfl
 ·show W.cell? ⟨b, 4, none⟩ = some (.int .i64 (vals 4)); rw [v4]; exact cell_at hW rfl
 ·show W.cell? ⟨b, 5, none⟩ = some (.int .i64 (vals 5)); rw [v5]; exact cell_at hW rfl
 ·show W.cell? ⟨b, 6, none⟩ = some (.int .i64 (vals 6)); rw [v6]; exact cell_at hW rfl
/-- One that bears nothing besides: it fits, or not. -/
theorem check_1b (s i ck cm cl cn c : Int) (vals : Nat -> Int) (hv : vals 0 = s /\ vals 1 = i /\ vals 2 = ck /\ vals 3 = cm /\ vals 4 = cl /\ vals 5 = cn /\ vals 6 = c) (w : World) :
  Calls Tryz.prog 55 #[.agg #[.int .i64 1, .int .i64 s, .int .i64 i, .int .i64 ck, .int .i64 cm, .int .i64 cl, .int .i64 cn, .int .i64 0, .int .i64 c, .int .i64 0]] w fun e w' =>
   (fitB vals leaseL = true /\ ∃ b, e = .returned (.tuple #[.iface 201 (.pointer (some ⟨b, 0, none⟩)), .int .i64 0]) /\ w.heap.size <= b /\ w'.heap[b]? = some (.cells #[.int .i64 s, .int .i64 i, .int .i64 ck, .int .i64 cm, .int .i64 cl, .int .i64 cn, .int .i64 c] 210 (0, 0)) /\ Ext w w') \/
   (fitB vals leaseL = false /\ e = .returned (.tuple #[.nilIface, .int .i64 1]) /\ Ext w w') := by
 have HV : Hid (vals 0 = s /\ vals 1 = i /\ vals 2 = ck /\ vals 3 = cm /\ vals 4 = cl /\ vals 5 = cn /\ vals 6 = c) := hv
 have hm1 := m_leasePlain
 have hm2 := m_leaseFields
 have heq := eqReq
 clear hv
 go_enter Tryz.func55, Tryz.ntmps55
 go_wp2_with (go_at_call 84; refine (ofKind_1 s i ck cm cl cn 0 c 0 _).mono ?_; rintro e w1 ⟨b, rfl, hb, hlt, hx⟩)
 have HLB : Hid (w.heap.size <= b) := by
  show w.heap.size <= b
  have hlt' := hlt
  simp at hlt'
  omega
 have hr := hx.block (at_new rfl)
 have HR : Hid _ := hr
 have HB : Hid _ := hb
 have HX : Ext w w1 := (Ext.refl w).alloc _ |>.trans hx
 obtain ⟨q0, q1, q2, q3, q4, q5, q6, q7, q8, q9⟩ := req_cells hr
 clear hr hb hx
 have HVV : Hid _ := fun (W : World) hW => vals_lease (W := W) (b := b) hW HV.out
 cases HB2 : fitB vals leaseL
 all_goals
  have HFB : Hid _ := HB2
  clear HB2
  go_region_with (first
   | (go_at_call 209; refine (leasePlain_c b s i ck cm cl cn c _ (by exact HB.out)).mono ?_; rintro e w2 ⟨rfl, hx2⟩; obtain ⟨r0, r1, r2, r3, r4, r5, r6, r7, r8, r9⟩ := req_cells (hx2.block (by exact HR.out)))
   | (go_at_call 210; refine (leaseFields_c b _).mono ?_; rintro e w3 ⟨g, cap, rfl, ho, hx3⟩)
   | (go_at_call 85; refine (fit_c b g cap 7 _ leaseL vals _ rfl (by decide) ho ?_).mono ?_; exact HVV.out _ (hx3.block (by exact hx2.block (by exact HB.out))); rw [HFB.out]; rintro e w4 ⟨rfl, hx4⟩))
  all_goals go_wp2
  all_goals go_ret2
 ·exact .inr ⟨HFB.out, rfl, HX.trans ((Ext.refl _).drew.trans (hx2.trans (hx3.trans hx4)))⟩
 ·exact .inr ⟨HFB.out, rfl, HX.trans ((Ext.refl _).drew.trans (hx2.trans (hx3.trans hx4)))⟩
 ·exact .inl ⟨HFB.out, b, rfl, HLB.out, (hx2.trans (hx3.trans hx4)).block (by exact HB.out), HX.trans ((Ext.refl _).drew.trans (hx2.trans (hx3.trans hx4)))⟩
 ·exact .inl ⟨HFB.out, b, rfl, HLB.out, (hx2.trans (hx3.trans hx4)).block (by exact HB.out), HX.trans ((Ext.refl _).drew.trans (hx2.trans (hx3.trans hx4)))⟩
end
end Go.Proofs.YtmnjhhachdlmkaaGreat
