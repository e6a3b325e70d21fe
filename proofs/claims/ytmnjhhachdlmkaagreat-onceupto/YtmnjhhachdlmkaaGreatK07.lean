import Derived.Test.YtmnjhhachdlmkaaGreatK06
import Derived.Test.YtmnjhhachdlmkaaGreatK05
namespace Go.Proofs.YtmnjhhachdlmkaaGreat
open World renaming block_lt_of_cell? -> lG
open Value renaming ownBlock -> lH
-- GRl
section
set_option maxRecDepth 100000
set_option maxHeartbeats 1600000
open Go.RowKit Go.Maps
theorem and_c2 {a b : World} {p1 p2 : Addr} {v1 v2 : Value} (h1 : a.cell? p1 = some v1) (h2 : a.cell? p2 = some v2) (h : Ext a b) : (b.cell? p1 = some v1 /\ b.cell? p2 = some v2) /\ Ext a b := ⟨⟨h.cell h1, h.cell h2⟩, h⟩
theorem and_c3 {a b : World} {p1 p2 p3 : Addr} {v1 v2 v3 : Value} (h1 : a.cell? p1 = some v1) (h2 : a.cell? p2 = some v2) (h3 : a.cell? p3 = some v3) (h : Ext a b) : (b.cell? p1 = some v1 /\ b.cell? p2 = some v2 /\ b.cell? p3 = some v3) /\ Ext a b := ⟨⟨h.cell h1, h.cell h2, h.cell h3⟩, h⟩
def releaseCode (ls : List LsV) (ss ii : Int) : Int := match ls.find? (isNamed ss ii) with
 | none => 8
 | some l => if l.r then 8 else 0
theorem mr_against (a : Value) (w : World) : (method 417 235 (.agg #[a]) "dealer/store.against").run Tryz.prog w = .ok (225, .agg #[a]) w := by kernel_rfl
theorem mr_record (a : Value) (w : World) : (method 417 235 (.agg #[a]) "dealer/store.record").run Tryz.prog w = .ok (133, .agg #[a]) w := by kernel_rfl
theorem mr_apply (a : Value) (w : World) : (method 417 235 (.agg #[a]) "dealer/store.apply").run Tryz.prog w = .ok (226, .agg #[a]) w := by kernel_rfl
section
variable {B : Nat} {F : Nat -> Prop} {sv lv dv : Value} {R : List StkR} {ls : List LsV} {ops : List OpV} {fl : Bool} {ah : Int} {kn : Bool}
theorem releasingAgainst_c (rb : Nat) (ss ii : Int) (hls : ls.length <= 1000) (w : World) (h : StoreOf w B F sv lv dv R ls ops fl ah kn) (hr : ReleaseReq w rb ss ii) :
  Calls Tryz.prog 225 #[.agg #[.pointer (some ⟨rb, 0, none⟩)], .pointer (some ⟨B, 0, none⟩)] w fun e w' => e = .returned (.int .i64 (releaseCode ls ss ii)) /\ Ext w w' := by
 have H : Hid _ := h
 have r0 := cell_at hr (i := 0) rfl
 have r1 := cell_at hr (i := 1) rfl
 have hrl := lG w _ r0
 have HN : Hid (∀ w', Ext w w' -> Calls Tryz.prog 165 #[.pointer (some ⟨B, 0, none⟩), .int .i64 ss, .int .i64 ii] w' fun e w'' => e = .returned (ptrAt lv (ls.findIdx? (isNamed ss ii))) /\ Ext w' w'') := fun w' hx =>
  named_c B ls ss ii sv lv dv fl ah kn w' (h.deal.ext hx) (h.lrow.ext hx) hls
 have HCd : Hid (releaseCode ls ss ii = match ls.find? (isNamed ss ii) with
  | none => 8
  | some l => if l.r then 8 else 0) := rfl
 generalize releaseCode ls ss ii = cd at *
 clear h hr
 cases hf : ls.findIdx? (isNamed ss ii) with
 | none =>
  rw [find_none_idx hf] at HCd
  rw [hf] at HN
  unfold ptrAt at HN
  clear hf
  go_enter Tryz.func225, Tryz.ntmps225
  go_wp2_with fail
  have q0 : (w.alloc (.cells #[.pointer (some ⟨rb, 0, none⟩)] 235)).cell? ⟨w.heap.size, 0, none⟩ = some (.pointer (some ⟨rb, 0, none⟩)) := cell_in (Ext.refl _) 0 rfl
  have hXW : Ext w (w.alloc (.cells #[.pointer (some ⟨rb, 0, none⟩)] 235)) := (Ext.refl w).alloc _
  generalize World.alloc w _ = W at q0 hXW ⊢
  have r0 := hXW.cell r0
  have r1 := hXW.cell r1
  have HXW : Hid (Ext w W) := hXW
  clear hXW
  go_region_held3 (fun w' => (w'.cell? ⟨w.heap.size, 0, none⟩ = some (.pointer (some ⟨rb, 0, none⟩)) /\ w'.cell? ⟨rb, 0, none⟩ = some (.int .i64 ss) /\ w'.cell? ⟨rb, 1, none⟩ = some (.int .i64 ii)) /\ Ext W w')
   ((refine and_c3 q0 r0 r1 ?_; (repeat (first | with_reducible exact Ext.refl _ | with_reducible assumption | with_reducible refine Ext.drew ?_ | with_reducible refine Ext.alloc ?_ _ | with_reducible (apply Ext.chain; assumption))); done))
   (first | (go_at_call 165; refine (HN.out _ (Ext.drew HXW.out)).mono ?_; rintro e w1' ⟨rfl, hx2⟩))
  rename_i hh
  have HX2 : Hid (Ext w w1') := HXW.out.trans hh.2
  clear hh hx2
  go_wp2
  go_ret
  exact ⟨by rw [HCd.out]; rfl, HX2.out⟩
 | some ix =>
  obtain ⟨hix, hfi⟩ := find_idx hf
  rw [hfi] at HCd
  rw [hf] at HN
  obtain ⟨g, cap, hlv⟩ : ∃ g cap, lv = .slice (some ⟨g, 0, none⟩) ls.length cap := by
   rcases LeasesAt.form H.out.lrow with ⟨_, e⟩ | ⟨g, cap, e, _⟩
   ·rw [e] at hix; simp at hix
   ·exact ⟨g, cap, e⟩
  rw [hlv] at HN
  unfold ptrAt at HN
  have hlr := H.out.lrow
  rw [hlv] at hlr
  obtain ⟨_, _, _, _, _, _, _, _, l8⟩ := LeasesAt.cells hlr ix hix
  have HCd2 : Hid (cd = if ls[ix].r then 8 else 0) := HCd.out
  generalize ls[ix].r = rel at *
  clear hf hfi hlr HCd hlv H
  go_enter Tryz.func225, Tryz.ntmps225
  go_wp2_with fail
  have q0 : (w.alloc (.cells #[.pointer (some ⟨rb, 0, none⟩)] 235)).cell? ⟨w.heap.size, 0, none⟩ = some (.pointer (some ⟨rb, 0, none⟩)) := cell_in (Ext.refl _) 0 rfl
  have hXW : Ext w (w.alloc (.cells #[.pointer (some ⟨rb, 0, none⟩)] 235)) := (Ext.refl w).alloc _
  generalize World.alloc w _ = W at q0 hXW ⊢
  have r0 := hXW.cell r0
  have r1 := hXW.cell r1
  have l8 := hXW.cell l8
  have HXW : Hid (Ext w W) := hXW
  clear hXW
  go_region_held3 (fun w' => (w'.cell? ⟨w.heap.size, 0, none⟩ = some (.pointer (some ⟨rb, 0, none⟩)) /\ w'.cell? ⟨rb, 0, none⟩ = some (.int .i64 ss) /\ w'.cell? ⟨rb, 1, none⟩ = some (.int .i64 ii)) /\ Ext W w')
   ((refine and_c3 q0 r0 r1 ?_; (repeat (first | with_reducible exact Ext.refl _ | with_reducible assumption | with_reducible refine Ext.drew ?_ | with_reducible refine Ext.alloc ?_ _ | with_reducible (apply Ext.chain; assumption))); done))
   (first | (go_at_call 165; refine (HN.out _ (Ext.drew HXW.out)).mono ?_; rintro e w1' ⟨rfl, hx2⟩))
  rename_i hh
  have l8 := hh.2.cell l8
  have HX2 : Hid (Ext w w1') := HXW.out.trans hh.2
  clear hh hx2
  cases rel
  ·go_wp2
   go_ret
   exact ⟨by rw [HCd2.out]; rfl, HX2.out⟩
  ·go_wp2
   go_ret
   exact ⟨by rw [HCd2.out]; rfl, HX2.out⟩
end
end
-- GRa
section
set_option maxRecDepth 100000
set_option maxHeartbeats 1600000
open Go.RowKit Go.Maps
def LsV.free (l : LsV) : LsV := { l with r := true }
theorem owns_set {w : World} {base : Nat} {e : TypeId} {size g n cap : Nat} {xs : List Value} (h : w.ownsRow base e size (.slice (some ⟨g, 0, none⟩) n cap) n xs) (i : Nat) (v : Value) : (w.setCell ⟨g, i, none⟩ v).ownsRow base e size (.slice (some ⟨g, 0, none⟩) n cap) n (xs.set i v) := by
 obtain ⟨hl, ⟨h1, _⟩ | ⟨g', cap', cur, he, hb, hg, hc, hm, hs, ht⟩⟩ := h
 ·simp at h1
 ·simp at he
  obtain ⟨rfl, rfl⟩ := he
  refine ⟨by rw [List.length_set]; exact hl, .inr ⟨_, _, cur.setIfInBounds i v, rfl, hb, setCell_row hg v, hc, hm, by simp [hs], ?_⟩⟩
  rw [Array.toList_setIfInBounds, <- ht, List.take_set]
theorem lsCells_free (l : List LsV) (j : Nat) (hj : j < l.length) : lsCells (l.set j l[j].free) = (lsCells l).set (j * 9 + 8) (.bool true) := by
 have e : l = l.take j ++ (l[j] :: l.drop (j + 1)) := by simp
 have h1 : (lsCells (l.take j)).length = j * 9 := by rw [len_lsCells]; simp; omega
 have h2 : lsCells l = lsCells (l.take j) ++ (l[j].cells ++ lsCells (l.drop (j + 1))) := by
  have h3 : lsCells (l.take j ++ (l[j] :: l.drop (j + 1))) = lsCells (l.take j) ++ (l[j].cells ++ lsCells (l.drop (j + 1))) := by
   simp only [lsCells, List.flatMap_append, List.flatMap_cons]
  rw [<- e] at h3
  exact h3
 have h4 : l.set j l[j].free = l.take j ++ (l[j].free :: l.drop (j + 1)) := by
  rw [List.set_eq_take_append_cons_drop, if_pos hj]
 rw [h4, h2, List.set_append_right _ _ (by omega), h1, show j * 9 + 8 - j * 9 = 8 by omega]
 simp only [lsCells, List.flatMap_append, List.flatMap_cons]
 rfl
section
variable {B : Nat} {F : Nat -> Prop} {sv lv dv : Value} {R : List StkR} {ls : List LsV} {ops : List OpV} {fl : Bool} {ah : Int} {kn : Bool}
theorem releasingApply_c (rb ix : Nat) (ss ii : Int) (hls : ls.length <= 1000) (hix : ix < ls.length) (hf : ls.findIdx? (isNamed ss ii) = some ix) (w : World) (h : StoreOf w B F sv lv dv R ls ops fl ah kn) (hr : ReleaseReq w rb ss ii) :
  Calls Tryz.prog 226 #[.agg #[.pointer (some ⟨rb, 0, none⟩)], .pointer (some ⟨B, 0, none⟩)] w fun e w' => e = .returned (.tuple #[]) /\ StoreOf w' B (grow F w w') sv lv dv R (ls.set ix ls[ix].free) ops fl ah kn /\ Turn (fun b => b = B \/ lv.ownBlock = some b) w w' := by
 have H : Hid _ := h
 have r0 := cell_at hr (i := 0) rfl
 have r1 := cell_at hr (i := 1) rfl
 have hrl := lG w _ r0
 obtain ⟨g, cap, rfl⟩ : ∃ g cap, lv = .slice (some ⟨g, 0, none⟩) ls.length cap := by
  rcases LeasesAt.form h.lrow with ⟨_, e⟩ | ⟨g, cap, e, _⟩
  ·rw [e] at hix; simp at hix
  ·exact ⟨g, cap, e⟩
 have HN : Hid (∀ w', Ext w w' -> Calls Tryz.prog 165 #[.pointer (some ⟨B, 0, none⟩), .int .i64 ss, .int .i64 ii] w' fun e w'' => e = .returned (.pointer (some ⟨g, ix * 9, none⟩)) /\ Ext w' w'') := fun w' hx => by
  have := named_c B ls ss ii sv _ dv fl ah kn w' (h.deal.ext hx) (h.lrow.ext hx) hls
  rwa [hf] at this
 obtain ⟨_, _, _, _, _, _, _, _, l8⟩ := LeasesAt.cells h.lrow ix hix
 obtain ⟨cur, hcur⟩ := owns_block h.lrow (g := g) rfl
 have f8 := frozen_row hcur (ix * 9 + 8)
 have hgl := lG w _ l8
 have HLS : Hid (ls.length <= 1000 /\ ix < ls.length) := ⟨hls, hix⟩
 clear h hr hf hcur
 generalize hrel : ls[ix].r = rel at *
 clear hrel
 go_enter Tryz.func226, Tryz.ntmps226
 go_wp2_with fail
 have q0 : (w.alloc (.cells #[.pointer (some ⟨rb, 0, none⟩)] 235)).cell? ⟨w.heap.size, 0, none⟩ = some (.pointer (some ⟨rb, 0, none⟩)) := cell_in (Ext.refl _) 0 rfl
 have hXW : Ext w (w.alloc (.cells #[.pointer (some ⟨rb, 0, none⟩)] 235)) := (Ext.refl w).alloc _
 generalize World.alloc w _ = W at q0 hXW ⊢
 have r0 := hXW.cell r0
 have r1 := hXW.cell r1
 have l8 := hXW.cell l8
 have f8 := (hXW.frozen hgl).trans f8
 have hgl2 := Nat.lt_of_lt_of_le hgl hXW.le
 have HXW : Hid (Ext w W) := hXW
 clear hXW
 go_region_with (first | (go_at_call 165; refine (HN.out _ (Ext.drew HXW.out)).mono ?_; rintro e w1' ⟨rfl, hx2⟩; have l8c := (Ext.chain hx2 (Ext.drew (Ext.refl W))).cell l8; have f8c := ((Ext.chain hx2 (Ext.drew (Ext.refl W))).frozen hgl2).trans f8))
 all_goals
  have HXf : Hid (Ext w w1') := HXW.out.trans (Ext.chain hx2 (Ext.drew (Ext.refl W)))
  clear hx2 l8c f8c
  go_end0
  have hT : Turn (fun b => b = B \/ lH (.slice (some ⟨g, 0, none⟩) ls.length cap) = some b) w (w1'.setCell ⟨g, ix * 9 + 8, none⟩ (.bool true)) := Turn.setCell (p := ⟨g, ix * 9 + 8, none⟩) (Turn.of_ext HXf.out) (fun _ => .inr rfl) _
  refine ⟨rfl, H.out.setLv hT ?_ ?_ (fun q hq => .inl hq) (by rw [List.length_set]; have := HLS.out.2; omega), hT⟩
  ·exact (H.out.deal.ext HXf.out).same (Below.heap_setCell _ _ _ B (fun e => by
    obtain ⟨cur, hc⟩ := owns_block H.out.lrow (g := g) rfl
    exact H.out.deal.tne hc (by decide) e.symm))
  ·show World.ownsRow _ 0 56 9 _ _ _
   rw [lsCells_free ls ix HLS.out.2, List.length_set]
   exact owns_set (HXf.out.owns H.out.lrow) _ _
theorem doReleaseNo_c (rb : Nat) (ss ii : Int) (hls : ls.length <= 1000) (hcd : releaseCode ls ss ii ≠ 0) (w : World) (h : StoreOf w B F sv lv dv R ls ops fl ah kn) (hr : ReleaseReq w rb ss ii) :
  Calls Tryz.prog 98 #[.pointer (some ⟨B, 0, none⟩), .iface 235 (.agg #[.pointer (some ⟨rb, 0, none⟩)])] w fun e w' => e = .returned (.int .i64 (releaseCode ls ss ii)) /\ Ext w w' := by
 have h1 := mr_against
 have HA : Hid (∀ w', Ext w w' -> _) := fun w' hx => releasingAgainst_c rb ss ii hls w' (h.ext hx) (hx.block hr)
 clear h hr
 generalize releaseCode ls ss ii = cd at *
 go_enter Tryz.func98, Tryz.ntmps98
 go_wp2_with fail
 refine (HA.out _ (Ext.refl _)).mono ?_
 rintro e w1 ⟨rfl, hx1⟩
 go_wp2
 go_ret
 exact ⟨rfl, hx1⟩
theorem doRelease_c (rb ix ss ii : Nat) (hss : ss <= 2147483647) (hii : ii <= 2147483647) (hR : R.length <= 100) (hls : ls.length <= 900) (hops : ops.length <= 1000000) (hah : AhOk fl ah) (hok : ∀ x ∈ R, StkOk x.abs) (hlok : ∀ l ∈ ls, LsOk l) (hcd : releaseCode ls ss ii = 0) (hix : ix < ls.length) (hf : ls.findIdx? (isNamed ss ii) = some ix) (w : World) (h : StoreOf w B F sv lv dv R ls ops fl ah kn) (hr : ReleaseReq w rb ss ii) (hrF : ¬ F rb) :
  Calls Tryz.prog 98 #[.pointer (some ⟨B, 0, none⟩), .iface 235 (.agg #[.pointer (some ⟨rb, 0, none⟩)])] w fun e w' => DidSo kn fl ah (R.map StkR.abs) ls (relRec ss ii) e fun ok fl' ah' new => DoPost w w' B F R (if ok then ls.set ix ls[ix].free else ls) (ops ++ new) fl' ah' ok := by
 have h1 := mr_against
 have h2 := mr_record
 have h3 := mr_apply
 have HA : Hid (∀ w', Ext w w' -> Calls Tryz.prog 225 #[.agg #[.pointer (some ⟨rb, 0, none⟩)], .pointer (some ⟨B, 0, none⟩)] w' fun e w'' => e = .returned (.int .i64 0) /\ Ext w' w'') := fun w' hx => by
  have := releasingAgainst_c rb ss ii (by omega) w' (h.ext hx) (hx.block hr)
  rwa [hcd] at this
 have HRc : Hid (∀ w', Ext w w' -> _) := fun w' hx => releasingRecord_c rb ss ii hss hii w' (hx.block hr)
 have HAd : Hid (∀ w', Ext w w' -> _) := fun w' hx => add_c (relRec ss ii) (relRec_size _ _) hops hah hR hls hok hlok w' (h.ext hx)
 have H : Hid _ := h
 have HR : Hid (ReleaseReq w rb ss ii) := hr
 have HAp : Hid (∀ (w' : World) (F' : Nat -> Prop) (dv' : Value) (ops' : List OpV) (fl' : Bool) (ah' : Int), StoreOf w' B F' sv lv dv' R ls ops' fl' ah' true -> ReleaseReq w' rb ss ii -> _) := fun w' F' dv' ops' fl' ah' h hr => releasingApply_c rb ix ss ii (by omega) hix hf w' h hr
 have HNF : Hid (¬ F rb) := hrF
 clear h hr hcd hf hrF hops hss hii hls hR hah hok hlok
 unfold DidSo
 generalize ls.set ix ls[ix].free = ls1 at *
 generalize relRec ss ii = rec at *
 generalize addOps kn (R.map StkR.abs) ls rec = full at *
 generalize diskFl fl ah full.length = fl1 at *
 generalize diskAh fl ah full.length = ah1 at *
 generalize didOps fl ah full = did at *
 generalize diskOk fl ah full.length = ok at *
 go_enter Tryz.func98, Tryz.ntmps98
 go_wp2_with fail
 refine (HA.out _ (Ext.refl _)).mono ?_
 rintro e w1 ⟨rfl, hx1⟩
 have HX1 : Hid (Ext w w1) := hx1
 clear hx1
 go_wp2_with fail
 go_region_held3 (fun _ => True) (trivial) (first
  | (go_at_call 133; refine (HRc.out _ (Ext.chain HX1.out (Ext.refl _)).drew).mono ?_; rintro e w2 ⟨rfl, hx2⟩)
  | (go_at_call 144; refine (HAd.out _ (Ext.chain hx2 (Ext.drew HX1.out))).mono ?_; rintro e w3 ⟨dv', rfl, hS3, ht3⟩))
 all_goals
  have HX2 : Hid (Ext w w2) := Ext.chain hx2 (Ext.drew HX1.out)
  have HTT : Hid (Turn (fun b => b = B \/ dv.ownBlock = some b) w w3) := (Turn.of_ext HX2.out).trans ht3
  have HTF : Hid (Turn F w w3) := HTT.out.mono (fun b _ hb => hb.elim (fun e => e ▸ H.out.fB) (fun e => H.out.fd b e))
  have HR3 : Hid (ReleaseReq w3 rb ss ii) := HTF.out.ref HR.out HNF.out
  have HS3 : Hid (StoreOf w3 B (grow F w2 w3) sv lv dv' R ls (ops ++ did) fl1 ah1 ok) := hS3
  have HDk : Hid (DoPost w w3 B F R ls (ops ++ did) fl1 ah1 ok) := DoPost.disk hS3 H.out.lt HX2.out ht3 (fun b _ hb => hb.elim (fun e => e ▸ H.out.fB) (fun e => H.out.fd b e))
  have hs23 := ht3.size
  clear hx2 hS3 ht3
  cases ok with
  | false =>
   go_wp2
   go_ret
   exact ⟨rfl, HDk.out⟩
  | true =>
   go_wp2_with fail
   refine (HAp.out w3 _ dv' _ _ _ HS3.out HR3.out).mono ?_
   rintro e w4 ⟨rfl, q1, q2⟩
   have HQ : Hid _ := And.intro q1 q2
   clear q1 q2
   go_wp2
   go_ret
   obtain ⟨q1, q2⟩ := HQ.out
   refine ⟨rfl, DoPost.of q1 H.out.lt HX2.out HTF.out hs23 q2 (fun b hb => ?_) (fun b hb hor => ?_)⟩
   ·rcases hb with hb | hb
    ·exact hb.imp id (fun h => h.1)
    ·exact .inr (by omega)
   ·rcases hor with e | e
    ·exact e ▸ H.out.fB
    ·exact H.out.fl' b e
end
end
-- GAn
section
set_option maxRecDepth 100000
set_option maxHeartbeats 1600000
open Go.RowKit Go.Maps
def beforeCode (l : LsV) (kd m k n c : Int) : Bool := (l.kd == kd && (l.m == m && (l.k == k && l.n == n))) && l.c == c
theorem leasedBefore_c (g o rb : Nat) (l : LsV) (ss ii kd m k n c : Int) (w : World) (hr : LeaseReq w rb ss ii kd m k n c) (_hg : g ≠ rb)
  (hl : w.cell? ⟨g, o, none⟩ = some (.int .i64 l.s) /\ w.cell? ⟨g, o + 1, none⟩ = some (.int .i64 l.i) /\ w.cell? ⟨g, o + 2, none⟩ = some (.int .i64 l.kd) /\ w.cell? ⟨g, o + 3, none⟩ = some (.int .i64 l.m) /\ w.cell? ⟨g, o + 4, none⟩ = some (.int .i64 l.k) /\
  w.cell? ⟨g, o + 5, none⟩ = some (.int .i64 l.n) /\ w.cell? ⟨g, o + 6, none⟩ = some (.int .i64 l.f) /\ w.cell? ⟨g, o + 7, none⟩ = some (.int .i64 l.c) /\ w.cell? ⟨g, o + 8, none⟩ = some (.bool l.r)) :
  Calls Tryz.prog 166 #[.pointer (some ⟨g, o, none⟩), .pointer (some ⟨rb, 0, none⟩)] w fun e w' => e = .returned (if beforeCode l kd m k n c then replyV 0 l.f l.c (.slice none 0 0) else replyV 6 0 0 (.slice none 0 0)) /\ Ext w w' := by
 obtain ⟨l0, l1, l2, l3, l4, l5, l6, l7, l8⟩ := hl
 have r2 : w.cell? ⟨rb, 2, none⟩ = some (.int .i64 kd) := cell_at hr rfl
 have r3 : w.cell? ⟨rb, 3, none⟩ = some (.int .i64 m) := cell_at hr rfl
 have r4 : w.cell? ⟨rb, 4, none⟩ = some (.int .i64 k) := cell_at hr rfl
 have r5 : w.cell? ⟨rb, 5, none⟩ = some (.int .i64 n) := cell_at hr rfl
 have r6 : w.cell? ⟨rb, 6, none⟩ = some (.int .i64 c) := cell_at hr rfl
 have hrl := lG w _ r2
 have hgl := lG w _ l2
 have heq := fun (a b c e a' b' c' e' : Int) (w : World) => eqClass 9998 a b c e a' b' c' e' w
 have HB : Hid (beforeCode l kd m k n c = ((l.kd == kd && (l.m == m && (l.k == k && l.n == n))) && l.c == c)) := rfl
 clear hr l0 l1 l8
 unfold replyV
 generalize hbc : beforeCode l kd m k n c = bc at *
 clear hbc
 obtain ⟨_, _, lkd, lm, lk, ln, lf, lc, _⟩ := l
 simp only at *
 by_cases hb1 : (lkd == kd && (lm == m && (lk == k && ln == n))) = true
 ·by_cases hc : lc = c
  ·have hbt : bc = true := by rw [HB.out, hb1, hc]; simp
   subst hbt
   subst hc
   rw [if_pos rfl]
   clear HB
   go_enter Tryz.func166, Tryz.ntmps166
   go_wp2
   have hres0 : (w.alloc (.cells #[.int .i64 0, .int .i64 0, .int .i64 0, .slice none 0 0] 33)).heap[w.heap.size]? = some (.cells #[.int .i64 0, .int .i64 0, .int .i64 0, .slice none 0 0] 33 (0, 0)) := heap_alloc_new _ _
   have hXW : Ext w (w.alloc (.cells #[.int .i64 0, .int .i64 0, .int .i64 0, .slice none 0 0] 33)) := (Ext.refl w).alloc _
   generalize World.alloc w _ = W at hres0 hXW ⊢
   have l2 := hXW.cell l2
   have l3 := hXW.cell l3
   have l4 := hXW.cell l4
   have l5 := hXW.cell l5
   have l6 := hXW.cell l6
   have l7 := hXW.cell l7
   have r2 := hXW.cell r2
   have r3 := hXW.cell r3
   have r4 := hXW.cell r4
   have r5 := hXW.cell r5
   have r6 := hXW.cell r6
   have o0 : W.cell? ⟨w.heap.size, 0, none⟩ = some (.int .i64 0) := cell_at hres0 rfl
   have o1 : W.cell? ⟨w.heap.size, 1, none⟩ = some (.int .i64 0) := cell_at hres0 rfl
   have o2 : W.cell? ⟨w.heap.size, 2, none⟩ = some (.int .i64 0) := cell_at hres0 rfl
   have o3 : W.cell? ⟨w.heap.size, 3, none⟩ = some (.slice none 0 0) := cell_at hres0 rfl
   have f0 := frozen_row hres0 0
   have f1 := frozen_row hres0 1
   have f2 := frozen_row hres0 2
   have f3 := frozen_row hres0 3
   have hgw : w.heap.size ≠ g := by omega
   have HXW : Hid (Ext w W) := hXW
   clear hXW hres0
   go_quiet (fail)
   go_wp2
   go_region
   all_goals go_wp2
   all_goals refine bodyPost_ret (v := .agg #[.int .i64 0, .int .i64 lf, .int .i64 lc, .slice none 0 0]) (by simp [results, Tryz.results166, go_sem, o0, o1, o2, o3]) rfl ⟨rfl, ?_⟩
   all_goals first | exact Ext.drew (ext4 (Ext.drewN HXW.out _) (Nat.le_refl _) _ _ _ _) | exact ext4 (Ext.drewN HXW.out _) (Nat.le_refl _) _ _ _ _
  ·have hbt : bc = false := by rw [HB.out, hb1]; simpa using hc
   subst hbt
   rw [if_neg (by simp)]
   clear HB
   go_enter Tryz.func166, Tryz.ntmps166
   go_wp2
   have hres0 : (w.alloc (.cells #[.int .i64 0, .int .i64 0, .int .i64 0, .slice none 0 0] 33)).heap[w.heap.size]? = some (.cells #[.int .i64 0, .int .i64 0, .int .i64 0, .slice none 0 0] 33 (0, 0)) := heap_alloc_new _ _
   have hXW : Ext w (w.alloc (.cells #[.int .i64 0, .int .i64 0, .int .i64 0, .slice none 0 0] 33)) := (Ext.refl w).alloc _
   generalize World.alloc w _ = W at hres0 hXW ⊢
   have l2 := hXW.cell l2
   have l3 := hXW.cell l3
   have l4 := hXW.cell l4
   have l5 := hXW.cell l5
   have l6 := hXW.cell l6
   have l7 := hXW.cell l7
   have r2 := hXW.cell r2
   have r3 := hXW.cell r3
   have r4 := hXW.cell r4
   have r5 := hXW.cell r5
   have r6 := hXW.cell r6
   have o0 : W.cell? ⟨w.heap.size, 0, none⟩ = some (.int .i64 0) := cell_at hres0 rfl
   have o1 : W.cell? ⟨w.heap.size, 1, none⟩ = some (.int .i64 0) := cell_at hres0 rfl
   have o2 : W.cell? ⟨w.heap.size, 2, none⟩ = some (.int .i64 0) := cell_at hres0 rfl
   have o3 : W.cell? ⟨w.heap.size, 3, none⟩ = some (.slice none 0 0) := cell_at hres0 rfl
   have f0 := frozen_row hres0 0
   have f1 := frozen_row hres0 1
   have f2 := frozen_row hres0 2
   have f3 := frozen_row hres0 3
   have hgw : w.heap.size ≠ g := by omega
   have HXW : Hid (Ext w W) := hXW
   clear hXW hres0
   go_quiet (fail)
   go_wp2
   all_goals refine bodyPost_ret (v := .agg #[.int .i64 6, .int .i64 0, .int .i64 0, .slice none 0 0]) (by simp [results, Tryz.results166, go_sem, o0, o1, o2, o3]) rfl ⟨rfl, ?_⟩
   all_goals first | exact Ext.drew (ext4 (Ext.drewN HXW.out _) (Nat.le_refl _) _ _ _ _) | exact ext4 (Ext.drewN HXW.out _) (Nat.le_refl _) _ _ _ _
 ·have hb2 : (lkd == kd && (lm == m && (lk == k && ln == n))) = false := by simpa using hb1
  have hbt : bc = false := by rw [HB.out, hb2]; rfl
  subst hbt
  rw [if_neg (by simp)]
  clear HB hb1
  go_enter Tryz.func166, Tryz.ntmps166
  go_wp2
  have hres0 : (w.alloc (.cells #[.int .i64 0, .int .i64 0, .int .i64 0, .slice none 0 0] 33)).heap[w.heap.size]? = some (.cells #[.int .i64 0, .int .i64 0, .int .i64 0, .slice none 0 0] 33 (0, 0)) := heap_alloc_new _ _
  have hXW : Ext w (w.alloc (.cells #[.int .i64 0, .int .i64 0, .int .i64 0, .slice none 0 0] 33)) := (Ext.refl w).alloc _
  generalize World.alloc w _ = W at hres0 hXW ⊢
  have l2 := hXW.cell l2
  have l3 := hXW.cell l3
  have l4 := hXW.cell l4
  have l5 := hXW.cell l5
  have l6 := hXW.cell l6
  have l7 := hXW.cell l7
  have r2 := hXW.cell r2
  have r3 := hXW.cell r3
  have r4 := hXW.cell r4
  have r5 := hXW.cell r5
  have r6 := hXW.cell r6
  have o0 : W.cell? ⟨w.heap.size, 0, none⟩ = some (.int .i64 0) := cell_at hres0 rfl
  have o1 : W.cell? ⟨w.heap.size, 1, none⟩ = some (.int .i64 0) := cell_at hres0 rfl
  have o2 : W.cell? ⟨w.heap.size, 2, none⟩ = some (.int .i64 0) := cell_at hres0 rfl
  have o3 : W.cell? ⟨w.heap.size, 3, none⟩ = some (.slice none 0 0) := cell_at hres0 rfl
  have f0 := frozen_row hres0 0
  have f1 := frozen_row hres0 1
  have f2 := frozen_row hres0 2
  have f3 := frozen_row hres0 3
  have hgw : w.heap.size ≠ g := by omega
  have HXW : Hid (Ext w W) := hXW
  clear hXW hres0
  go_quiet (fail)
  go_wp2
  all_goals refine bodyPost_ret (v := .agg #[.int .i64 6, .int .i64 0, .int .i64 0, .slice none 0 0]) (by simp [results, Tryz.results166, go_sem, o0, o1, o2, o3]) rfl ⟨rfl, ?_⟩
  all_goals first | exact Ext.drew (ext4 (Ext.drewN HXW.out _) (Nat.le_refl _) _ _ _ _) | exact ext4 (Ext.drewN HXW.out _) (Nat.le_refl _) _ _ _ _
end
-- GWr
section
set_option maxRecDepth 100000
set_option maxHeartbeats 1600000
open Go.RowKit Go.Maps
structure AnsOk (F : Nat -> Prop) (n0 : Nat) (Pp : World -> World -> Int -> Int -> Int -> Value -> Prop) : Prop where
 lt : ∀ b, F b -> b < n0
 turn : ∀ w1 w2 c f n v, Pp w1 w2 c f n v -> Turn F w1 w2
 step : ∀ w w1 w2 w3 g c f n v, n0 <= w.heap.size -> Ext w w1 -> Pp w1 w2 c f n v -> Turn (fun q => q = g) w2 w3 -> w.heap.size <= g -> g < w1.heap.size -> Pp w w3 c f n v
def Answers (f : FuncId) (args : Array Value) (w : World) (Pp : World -> World -> Int -> Int -> Int -> Value -> Prop) : Prop :=
 Calls Tryz.prog f args w fun e w' => ∃ c fr n a l cp, e = .returned (replyV c fr n (.slice a l cp)) /\ Pp w w' c fr n (.slice a l cp)
theorem set4far {w : World} {g b j : Nat} (a0 a1 a2 a3 : Value) (hne : g ≠ b) {v : Value} (h : w.cell? ⟨b, j, none⟩ = some v) : ((((w.setCell ⟨g, 0, none⟩ a0).setCell ⟨g, 1, none⟩ a1).setCell ⟨g, 2, none⟩ a2).setCell ⟨g, 3, none⟩ a3).cell? ⟨b, j, none⟩ = some v := by
 rw [World.cell?_setCell_far _ _ _ _ hne, World.cell?_setCell_far _ _ _ _ hne, World.cell?_setCell_far _ _ _ _ hne, World.cell?_setCell_far _ _ _ _ hne]
 exact h
theorem storeLeaseNone_c {F : Nat -> Prop} {n0 : Nat} {Pp : World -> World -> Int -> Int -> Int -> Value -> Prop} (hok : AnsOk F n0 Pp) (B rb : Nat) (ss ii kd m k n c : Int) (w : World) (hn0 : n0 <= w.heap.size) (hr : LeaseReq w rb ss ii kd m k n c) (hrF : ¬ F rb)
  (hnm : ∀ w', Ext w w' -> Calls Tryz.prog 165 #[.pointer (some ⟨B, 0, none⟩), .int .i64 ss, .int .i64 ii] w' fun e w'' => e = .returned (.pointer none) /\ Ext w' w'')
  (hdt : ∀ w', Ext w w' -> Answers 167 #[.pointer (some ⟨B, 0, none⟩), .iface 233 (.agg #[.pointer (some ⟨rb, 0, none⟩)]), .int .i64 ss, .int .i64 ii] w' Pp) :
  Answers 119 #[.pointer (some ⟨B, 0, none⟩), .pointer (some ⟨rb, 0, none⟩)] w Pp := by
 unfold Answers at *
 have HOk : Hid (AnsOk F n0 Pp) := hok
 have HNm : Hid (∀ w', Ext w w' -> _) := hnm
 have HDt : Hid (∀ w', Ext w w' -> _) := hdt
 have HNF : Hid (¬ F rb) := hrF
 have r0 : w.cell? ⟨rb, 0, none⟩ = some (.int .i64 ss) := cell_at hr rfl
 have r1 : w.cell? ⟨rb, 1, none⟩ = some (.int .i64 ii) := cell_at hr rfl
 have hrl := lG w _ r0
 clear hok hnm hdt hr hrF
 unfold replyV at HDt ⊢
 go_enter Tryz.func119, Tryz.ntmps119
 go_wp2_with fail
 have hres0 : (w.alloc (.cells #[.int .i64 0, .int .i64 0, .int .i64 0, .slice none 0 0] 33)).heap[w.heap.size]? = some (.cells #[.int .i64 0, .int .i64 0, .int .i64 0, .slice none 0 0] 33 (0, 0)) := heap_alloc_new _ _
 have hXW : Ext w (w.alloc (.cells #[.int .i64 0, .int .i64 0, .int .i64 0, .slice none 0 0] 33)) := (Ext.refl w).alloc _
 generalize World.alloc w _ = W at hres0 hXW ⊢
 have r0 := hXW.cell r0
 have r1 := hXW.cell r1
 have HXW : Hid (Ext w W) := hXW
 have HRS : Hid (W.heap[w.heap.size]? = some (.cells #[.int .i64 0, .int .i64 0, .int .i64 0, .slice none 0 0] 33 (0, 0))) := hres0
 clear hXW hres0
 go_region_held3 (fun w' => (w'.cell? ⟨rb, 0, none⟩ = some (.int .i64 ss) /\ w'.cell? ⟨rb, 1, none⟩ = some (.int .i64 ii)) /\ Ext W w')
  ((refine and_c2 r0 r1 ?_; (repeat (first | with_reducible exact Ext.refl _ | with_reducible assumption | with_reducible refine Ext.drew ?_ | with_reducible refine Ext.alloc ?_ _ | with_reducible (apply Ext.chain; assumption))); done))
  (first | (go_at_call 165; refine (HNm.out _ (Ext.drew HXW.out)).mono ?_; rintro e V ⟨rfl, hx1⟩))
 rename_i hh
 have hD : Ext W V := hh.2
 clear hh hx1
 have r0 := hD.cell r0
 have r1 := hD.cell r1
 have HXV : Hid (Ext w V) := HXW.out.trans hD
 have HRV : Hid (V.heap[w.heap.size]? = some (.cells #[.int .i64 0, .int .i64 0, .int .i64 0, .slice none 0 0] 33 (0, 0))) := hD.block HRS.out
 have hVl := (Array.getElem?_eq_some_iff.1 HRV.out).1
 clear hD HXW HRS
 go_wp2_with fail
 go_region_held3 (fun w' => w'.cell? ⟨rb, 0, none⟩ = some (.int .i64 ss) /\ w'.cell? ⟨rb, 1, none⟩ = some (.int .i64 ii))
  (first | exact ⟨r0, r1⟩ | exact S2 | exact ⟨set4far _ _ _ _ (by omega) S2.1, set4far _ _ _ _ (by omega) S2.2⟩)
  (first
    | (go_at_call 167
       refine (HDt.out _ (Ext.drew HXV.out)).mono ?_
       rintro e w2 ⟨cc, cf, cn, va, vl, vc, rfl, hl2⟩
       have HL2 : Hid _ := hl2
       have q3 := HOk.out.turn _ _ _ _ _ _ hl2
       have hr2 : w2.heap[w.heap.size]? = some (.cells #[.int .i64 0, .int .i64 0, .int .i64 0, .slice none 0 0] 33 (0, 0)) := q3.ref (at_drew HRV.out) (fun e => by have := HOk.out.lt _ e; omega)
       have o0 := cell_at hr2 (i := 0) rfl
       have o1 := cell_at hr2 (i := 1) rfl
       have o2 := cell_at hr2 (i := 2) rfl
       have o3 := cell_at hr2 (i := 3) rfl
       have f0 := frozen_row hr2 0
       have f1 := frozen_row hr2 1
       have f2 := frozen_row hr2 2
       have f3 := frozen_row hr2 3
       have S2 : w2.cell? ⟨rb, 0, none⟩ = some (.int .i64 ss) /\ w2.cell? ⟨rb, 1, none⟩ = some (.int .i64 ii) := ⟨q3.cell r0 HNF.out, q3.cell r1 HNF.out⟩
       clear q3 hr2 hl2))
 go_wp2
 refine bodyPost_ret (v := .agg #[.int .i64 cc, .int .i64 cf, .int .i64 cn, .slice va vl vc]) (by simp [results, Tryz.results119, go_sem, o0, o1, o2, o3]) rfl ⟨cc, cf, cn, va, vl, vc, rfl, ?_⟩
 exact HOk.out.step _ _ _ _ w.heap.size _ _ _ _ hn0 (Ext.drew HXV.out) HL2.out (set4' (Ext.refl _) _ _ _ _) (Nat.le_refl _) hVl
end
-- GAx
section
set_option maxRecDepth 100000
set_option maxHeartbeats 1600000
open Go.RowKit Go.Maps
theorem ta_Lease (a : Addr) (w : World) : (Instr.typeAssert (.iface 201 (.pointer (some a))) 122 201 true).run Tryz.prog w = .ok (.tuple #[.pointer (some a), .bool true]) w := by kernel_rfl
theorem ta_Fetch0 (a : Addr) (w : World) : (Instr.typeAssert (.iface 203 (.pointer (some a))) 122 201 true).run Tryz.prog w = .ok (.tuple #[.pointer none, .bool false]) w := by kernel_rfl
theorem ta_Fetch (a : Addr) (w : World) : (Instr.typeAssert (.iface 203 (.pointer (some a))) 122 203 true).run Tryz.prog w = .ok (.tuple #[.pointer (some a), .bool true]) w := by kernel_rfl
theorem ta_Release0 (a : Addr) (w : World) : (Instr.typeAssert (.iface 205 (.pointer (some a))) 122 201 true).run Tryz.prog w = .ok (.tuple #[.pointer none, .bool false]) w := by kernel_rfl
theorem ta_Release1 (a : Addr) (w : World) : (Instr.typeAssert (.iface 205 (.pointer (some a))) 122 203 true).run Tryz.prog w = .ok (.tuple #[.pointer none, .bool false]) w := by kernel_rfl
theorem ta_Release (a : Addr) (w : World) : (Instr.typeAssert (.iface 205 (.pointer (some a))) 122 205 true).run Tryz.prog w = .ok (.tuple #[.pointer (some a), .bool true]) w := by kernel_rfl
theorem ta_Status0 (a : Addr) (w : World) : (Instr.typeAssert (.iface 207 (.pointer (some a))) 122 201 true).run Tryz.prog w = .ok (.tuple #[.pointer none, .bool false]) w := by kernel_rfl
theorem ta_Status1 (a : Addr) (w : World) : (Instr.typeAssert (.iface 207 (.pointer (some a))) 122 203 true).run Tryz.prog w = .ok (.tuple #[.pointer none, .bool false]) w := by kernel_rfl
theorem ta_Status2 (a : Addr) (w : World) : (Instr.typeAssert (.iface 207 (.pointer (some a))) 122 205 true).run Tryz.prog w = .ok (.tuple #[.pointer none, .bool false]) w := by kernel_rfl
theorem ta_Status (a : Addr) (w : World) : (Instr.typeAssert (.iface 207 (.pointer (some a))) 122 207 true).run Tryz.prog w = .ok (.tuple #[.pointer (some a), .bool true]) w := by kernel_rfl
theorem answerLease_c {F : Nat -> Prop} {n0 : Nat} {Pp : World -> World -> Int -> Int -> Int -> Value -> Prop} (hok : AnsOk F n0 Pp) (B rb : Nat) (w : World) (hn0 : n0 <= w.heap.size)
  (hin : ∀ w', Ext w w' -> Answers 119 #[.pointer (some ⟨B, 0, none⟩), .pointer (some ⟨rb, 0, none⟩)] w' Pp) :
  Answers 83 #[.pointer (some ⟨B, 0, none⟩), .iface 201 (.pointer (some ⟨rb, 0, none⟩))] w Pp := by
 unfold Answers at *
 have HOk : Hid (AnsOk F n0 Pp) := hok
 have HIn : Hid (∀ w', Ext w w' -> _) := hin
 have t0 := ta_Lease
 clear hok hin
 unfold replyV at HIn ⊢
 go_enter Tryz.func83, Tryz.ntmps83
 go_wp2_with fail
 have hres0 : (w.alloc (.cells #[.int .i64 0, .int .i64 0, .int .i64 0, .slice none 0 0] 33)).heap[w.heap.size]? = some (.cells #[.int .i64 0, .int .i64 0, .int .i64 0, .slice none 0 0] 33 (0, 0)) := heap_alloc_new _ _
 have hXW : Ext w (w.alloc (.cells #[.int .i64 0, .int .i64 0, .int .i64 0, .slice none 0 0] 33)) := (Ext.refl w).alloc _
 have hWl : w.heap.size < (w.alloc (.cells #[.int .i64 0, .int .i64 0, .int .i64 0, .slice none 0 0] 33)).heap.size := by simp
 generalize World.alloc w _ = W at hres0 hXW hWl ⊢
 refine (HIn.out _ hXW).mono ?_
 rintro e w2 ⟨cc, cf, cn, va, vl, vc, rfl, hl2⟩
 have HL2 : Hid _ := hl2
 have q3 := HOk.out.turn _ _ _ _ _ _ hl2
 have hr2 : w2.heap[w.heap.size]? = some (.cells #[.int .i64 0, .int .i64 0, .int .i64 0, .slice none 0 0] 33 (0, 0)) := q3.ref hres0 (fun e => by have := HOk.out.lt _ e; omega)
 have o0 := cell_at hr2 (i := 0) rfl
 have o1 := cell_at hr2 (i := 1) rfl
 have o2 := cell_at hr2 (i := 2) rfl
 have o3 := cell_at hr2 (i := 3) rfl
 have f0 := frozen_row hr2 0
 have f1 := frozen_row hr2 1
 have f2 := frozen_row hr2 2
 have f3 := frozen_row hr2 3
 have HXW : Hid (Ext w W) := hXW
 clear q3 hr2 hl2 hres0 hXW
 go_wp2
 refine bodyPost_ret (v := .agg #[.int .i64 cc, .int .i64 cf, .int .i64 cn, .slice va vl vc]) (by simp [results, Tryz.results83, go_sem, o0, o1, o2, o3]) rfl ⟨cc, cf, cn, va, vl, vc, rfl, ?_⟩
 exact HOk.out.step _ _ _ _ w.heap.size _ _ _ _ hn0 HXW.out HL2.out (set4' (Ext.refl _) _ _ _ _) (Nat.le_refl _) hWl
theorem dealerLease_c {F : Nat -> Prop} {n0 : Nat} {Pp : World -> World -> Int -> Int -> Int -> Value -> Prop} (hok : AnsOk F n0 Pp) (B rb : Nat) (w : World) (hn0 : n0 <= w.heap.size)
  (hin : ∀ w', Ext w w' -> Answers 83 #[.pointer (some ⟨B, 0, none⟩), .iface 201 (.pointer (some ⟨rb, 0, none⟩))] w' Pp) :
  Answers 54 #[.pointer (some ⟨B, 0, none⟩), .iface 201 (.pointer (some ⟨rb, 0, none⟩)), .int .i64 0] w Pp := by
 unfold Answers at *
 have HOk : Hid (AnsOk F n0 Pp) := hok
 have HIn : Hid (∀ w', Ext w w' -> _) := hin
 clear hok hin
 unfold replyV at HIn ⊢
 go_enter Tryz.func54, Tryz.ntmps54
 go_wp2_with fail
 have hres0 : (w.alloc (.cells #[.int .i64 0, .int .i64 0, .int .i64 0, .slice none 0 0] 33)).heap[w.heap.size]? = some (.cells #[.int .i64 0, .int .i64 0, .int .i64 0, .slice none 0 0] 33 (0, 0)) := heap_alloc_new _ _
 have hXW : Ext w (w.alloc (.cells #[.int .i64 0, .int .i64 0, .int .i64 0, .slice none 0 0] 33)) := (Ext.refl w).alloc _
 have hWl : w.heap.size < (w.alloc (.cells #[.int .i64 0, .int .i64 0, .int .i64 0, .slice none 0 0] 33)).heap.size := by simp
 generalize World.alloc w _ = W at hres0 hXW hWl ⊢
 refine (HIn.out _ hXW).mono ?_
 rintro e w2 ⟨cc, cf, cn, va, vl, vc, rfl, hl2⟩
 have HL2 : Hid _ := hl2
 have q3 := HOk.out.turn _ _ _ _ _ _ hl2
 have hr2 : w2.heap[w.heap.size]? = some (.cells #[.int .i64 0, .int .i64 0, .int .i64 0, .slice none 0 0] 33 (0, 0)) := q3.ref hres0 (fun e => by have := HOk.out.lt _ e; omega)
 have o0 := cell_at hr2 (i := 0) rfl
 have o1 := cell_at hr2 (i := 1) rfl
 have o2 := cell_at hr2 (i := 2) rfl
 have o3 := cell_at hr2 (i := 3) rfl
 have f0 := frozen_row hr2 0
 have f1 := frozen_row hr2 1
 have f2 := frozen_row hr2 2
 have f3 := frozen_row hr2 3
 have HXW : Hid (Ext w W) := hXW
 clear q3 hr2 hl2 hres0 hXW
 go_wp2
 refine bodyPost_ret (v := .agg #[.int .i64 cc, .int .i64 cf, .int .i64 cn, .slice va vl vc]) (by simp [results, Tryz.results54, go_sem, o0, o1, o2, o3]) rfl ⟨cc, cf, cn, va, vl, vc, rfl, ?_⟩
 exact HOk.out.step _ _ _ _ w.heap.size _ _ _ _ hn0 HXW.out HL2.out (set4' (Ext.refl _) _ _ _ _) (Nat.le_refl _) hWl
theorem answerFetch_c {F : Nat -> Prop} {n0 : Nat} {Pp : World -> World -> Int -> Int -> Int -> Value -> Prop} (hok : AnsOk F n0 Pp) (B rb : Nat) (w : World) (hn0 : n0 <= w.heap.size)
  (hin : ∀ w', Ext w w' -> Answers 120 #[.pointer (some ⟨B, 0, none⟩), .pointer (some ⟨rb, 0, none⟩)] w' Pp) :
  Answers 83 #[.pointer (some ⟨B, 0, none⟩), .iface 203 (.pointer (some ⟨rb, 0, none⟩))] w Pp := by
 unfold Answers at *
 have HOk : Hid (AnsOk F n0 Pp) := hok
 have HIn : Hid (∀ w', Ext w w' -> _) := hin
 have t0 := ta_Fetch0
 have t1 := ta_Fetch
 clear hok hin
 unfold replyV at HIn ⊢
 go_enter Tryz.func83, Tryz.ntmps83
 go_wp2_with fail
 have hres0 : (w.alloc (.cells #[.int .i64 0, .int .i64 0, .int .i64 0, .slice none 0 0] 33)).heap[w.heap.size]? = some (.cells #[.int .i64 0, .int .i64 0, .int .i64 0, .slice none 0 0] 33 (0, 0)) := heap_alloc_new _ _
 have hXW : Ext w (w.alloc (.cells #[.int .i64 0, .int .i64 0, .int .i64 0, .slice none 0 0] 33)) := (Ext.refl w).alloc _
 have hWl : w.heap.size < (w.alloc (.cells #[.int .i64 0, .int .i64 0, .int .i64 0, .slice none 0 0] 33)).heap.size := by simp
 generalize World.alloc w _ = W at hres0 hXW hWl ⊢
 refine (HIn.out _ hXW).mono ?_
 rintro e w2 ⟨cc, cf, cn, va, vl, vc, rfl, hl2⟩
 have HL2 : Hid _ := hl2
 have q3 := HOk.out.turn _ _ _ _ _ _ hl2
 have hr2 : w2.heap[w.heap.size]? = some (.cells #[.int .i64 0, .int .i64 0, .int .i64 0, .slice none 0 0] 33 (0, 0)) := q3.ref hres0 (fun e => by have := HOk.out.lt _ e; omega)
 have o0 := cell_at hr2 (i := 0) rfl
 have o1 := cell_at hr2 (i := 1) rfl
 have o2 := cell_at hr2 (i := 2) rfl
 have o3 := cell_at hr2 (i := 3) rfl
 have f0 := frozen_row hr2 0
 have f1 := frozen_row hr2 1
 have f2 := frozen_row hr2 2
 have f3 := frozen_row hr2 3
 have HXW : Hid (Ext w W) := hXW
 clear q3 hr2 hl2 hres0 hXW
 go_wp2
 refine bodyPost_ret (v := .agg #[.int .i64 cc, .int .i64 cf, .int .i64 cn, .slice va vl vc]) (by simp [results, Tryz.results83, go_sem, o0, o1, o2, o3]) rfl ⟨cc, cf, cn, va, vl, vc, rfl, ?_⟩
 exact HOk.out.step _ _ _ _ w.heap.size _ _ _ _ hn0 HXW.out HL2.out (set4' (Ext.refl _) _ _ _ _) (Nat.le_refl _) hWl
theorem dealerFetch_c {F : Nat -> Prop} {n0 : Nat} {Pp : World -> World -> Int -> Int -> Int -> Value -> Prop} (hok : AnsOk F n0 Pp) (B rb : Nat) (w : World) (hn0 : n0 <= w.heap.size)
  (hin : ∀ w', Ext w w' -> Answers 83 #[.pointer (some ⟨B, 0, none⟩), .iface 203 (.pointer (some ⟨rb, 0, none⟩))] w' Pp) :
  Answers 54 #[.pointer (some ⟨B, 0, none⟩), .iface 203 (.pointer (some ⟨rb, 0, none⟩)), .int .i64 0] w Pp := by
 unfold Answers at *
 have HOk : Hid (AnsOk F n0 Pp) := hok
 have HIn : Hid (∀ w', Ext w w' -> _) := hin
 clear hok hin
 unfold replyV at HIn ⊢
 go_enter Tryz.func54, Tryz.ntmps54
 go_wp2_with fail
 have hres0 : (w.alloc (.cells #[.int .i64 0, .int .i64 0, .int .i64 0, .slice none 0 0] 33)).heap[w.heap.size]? = some (.cells #[.int .i64 0, .int .i64 0, .int .i64 0, .slice none 0 0] 33 (0, 0)) := heap_alloc_new _ _
 have hXW : Ext w (w.alloc (.cells #[.int .i64 0, .int .i64 0, .int .i64 0, .slice none 0 0] 33)) := (Ext.refl w).alloc _
 have hWl : w.heap.size < (w.alloc (.cells #[.int .i64 0, .int .i64 0, .int .i64 0, .slice none 0 0] 33)).heap.size := by simp
 generalize World.alloc w _ = W at hres0 hXW hWl ⊢
 refine (HIn.out _ hXW).mono ?_
 rintro e w2 ⟨cc, cf, cn, va, vl, vc, rfl, hl2⟩
 have HL2 : Hid _ := hl2
 have q3 := HOk.out.turn _ _ _ _ _ _ hl2
 have hr2 : w2.heap[w.heap.size]? = some (.cells #[.int .i64 0, .int .i64 0, .int .i64 0, .slice none 0 0] 33 (0, 0)) := q3.ref hres0 (fun e => by have := HOk.out.lt _ e; omega)
 have o0 := cell_at hr2 (i := 0) rfl
 have o1 := cell_at hr2 (i := 1) rfl
 have o2 := cell_at hr2 (i := 2) rfl
 have o3 := cell_at hr2 (i := 3) rfl
 have f0 := frozen_row hr2 0
 have f1 := frozen_row hr2 1
 have f2 := frozen_row hr2 2
 have f3 := frozen_row hr2 3
 have HXW : Hid (Ext w W) := hXW
 clear q3 hr2 hl2 hres0 hXW
 go_wp2
 refine bodyPost_ret (v := .agg #[.int .i64 cc, .int .i64 cf, .int .i64 cn, .slice va vl vc]) (by simp [results, Tryz.results54, go_sem, o0, o1, o2, o3]) rfl ⟨cc, cf, cn, va, vl, vc, rfl, ?_⟩
 exact HOk.out.step _ _ _ _ w.heap.size _ _ _ _ hn0 HXW.out HL2.out (set4' (Ext.refl _) _ _ _ _) (Nat.le_refl _) hWl
theorem answerRelease_c {F : Nat -> Prop} {n0 : Nat} {Pp : World -> World -> Int -> Int -> Int -> Value -> Prop} (hok : AnsOk F n0 Pp) (B rb : Nat) (w : World) (hn0 : n0 <= w.heap.size)
  (hin : ∀ w', Ext w w' -> Answers 121 #[.pointer (some ⟨B, 0, none⟩), .pointer (some ⟨rb, 0, none⟩)] w' Pp) :
  Answers 83 #[.pointer (some ⟨B, 0, none⟩), .iface 205 (.pointer (some ⟨rb, 0, none⟩))] w Pp := by
 unfold Answers at *
 have HOk : Hid (AnsOk F n0 Pp) := hok
 have HIn : Hid (∀ w', Ext w w' -> _) := hin
 have t0 := ta_Release0
 have t1 := ta_Release1
 have t2 := ta_Release
 clear hok hin
 unfold replyV at HIn ⊢
 go_enter Tryz.func83, Tryz.ntmps83
 go_wp2_with fail
 have hres0 : (w.alloc (.cells #[.int .i64 0, .int .i64 0, .int .i64 0, .slice none 0 0] 33)).heap[w.heap.size]? = some (.cells #[.int .i64 0, .int .i64 0, .int .i64 0, .slice none 0 0] 33 (0, 0)) := heap_alloc_new _ _
 have hXW : Ext w (w.alloc (.cells #[.int .i64 0, .int .i64 0, .int .i64 0, .slice none 0 0] 33)) := (Ext.refl w).alloc _
 have hWl : w.heap.size < (w.alloc (.cells #[.int .i64 0, .int .i64 0, .int .i64 0, .slice none 0 0] 33)).heap.size := by simp
 generalize World.alloc w _ = W at hres0 hXW hWl ⊢
 refine (HIn.out _ hXW).mono ?_
 rintro e w2 ⟨cc, cf, cn, va, vl, vc, rfl, hl2⟩
 have HL2 : Hid _ := hl2
 have q3 := HOk.out.turn _ _ _ _ _ _ hl2
 have hr2 : w2.heap[w.heap.size]? = some (.cells #[.int .i64 0, .int .i64 0, .int .i64 0, .slice none 0 0] 33 (0, 0)) := q3.ref hres0 (fun e => by have := HOk.out.lt _ e; omega)
 have o0 := cell_at hr2 (i := 0) rfl
 have o1 := cell_at hr2 (i := 1) rfl
 have o2 := cell_at hr2 (i := 2) rfl
 have o3 := cell_at hr2 (i := 3) rfl
 have f0 := frozen_row hr2 0
 have f1 := frozen_row hr2 1
 have f2 := frozen_row hr2 2
 have f3 := frozen_row hr2 3
 have HXW : Hid (Ext w W) := hXW
 clear q3 hr2 hl2 hres0 hXW
 go_wp2
 refine bodyPost_ret (v := .agg #[.int .i64 cc, .int .i64 cf, .int .i64 cn, .slice va vl vc]) (by simp [results, Tryz.results83, go_sem, o0, o1, o2, o3]) rfl ⟨cc, cf, cn, va, vl, vc, rfl, ?_⟩
 exact HOk.out.step _ _ _ _ w.heap.size _ _ _ _ hn0 HXW.out HL2.out (set4' (Ext.refl _) _ _ _ _) (Nat.le_refl _) hWl
theorem dealerRelease_c {F : Nat -> Prop} {n0 : Nat} {Pp : World -> World -> Int -> Int -> Int -> Value -> Prop} (hok : AnsOk F n0 Pp) (B rb : Nat) (w : World) (hn0 : n0 <= w.heap.size)
  (hin : ∀ w', Ext w w' -> Answers 83 #[.pointer (some ⟨B, 0, none⟩), .iface 205 (.pointer (some ⟨rb, 0, none⟩))] w' Pp) :
  Answers 54 #[.pointer (some ⟨B, 0, none⟩), .iface 205 (.pointer (some ⟨rb, 0, none⟩)), .int .i64 0] w Pp := by
 unfold Answers at *
 have HOk : Hid (AnsOk F n0 Pp) := hok
 have HIn : Hid (∀ w', Ext w w' -> _) := hin
 clear hok hin
 unfold replyV at HIn ⊢
 go_enter Tryz.func54, Tryz.ntmps54
 go_wp2_with fail
 have hres0 : (w.alloc (.cells #[.int .i64 0, .int .i64 0, .int .i64 0, .slice none 0 0] 33)).heap[w.heap.size]? = some (.cells #[.int .i64 0, .int .i64 0, .int .i64 0, .slice none 0 0] 33 (0, 0)) := heap_alloc_new _ _
 have hXW : Ext w (w.alloc (.cells #[.int .i64 0, .int .i64 0, .int .i64 0, .slice none 0 0] 33)) := (Ext.refl w).alloc _
 have hWl : w.heap.size < (w.alloc (.cells #[.int .i64 0, .int .i64 0, .int .i64 0, .slice none 0 0] 33)).heap.size := by simp
 generalize World.alloc w _ = W at hres0 hXW hWl ⊢
 refine (HIn.out _ hXW).mono ?_
 rintro e w2 ⟨cc, cf, cn, va, vl, vc, rfl, hl2⟩
 have HL2 : Hid _ := hl2
 have q3 := HOk.out.turn _ _ _ _ _ _ hl2
 have hr2 : w2.heap[w.heap.size]? = some (.cells #[.int .i64 0, .int .i64 0, .int .i64 0, .slice none 0 0] 33 (0, 0)) := q3.ref hres0 (fun e => by have := HOk.out.lt _ e; omega)
 have o0 := cell_at hr2 (i := 0) rfl
 have o1 := cell_at hr2 (i := 1) rfl
 have o2 := cell_at hr2 (i := 2) rfl
 have o3 := cell_at hr2 (i := 3) rfl
 have f0 := frozen_row hr2 0
 have f1 := frozen_row hr2 1
 have f2 := frozen_row hr2 2
 have f3 := frozen_row hr2 3
 have HXW : Hid (Ext w W) := hXW
 clear q3 hr2 hl2 hres0 hXW
 go_wp2
 refine bodyPost_ret (v := .agg #[.int .i64 cc, .int .i64 cf, .int .i64 cn, .slice va vl vc]) (by simp [results, Tryz.results54, go_sem, o0, o1, o2, o3]) rfl ⟨cc, cf, cn, va, vl, vc, rfl, ?_⟩
 exact HOk.out.step _ _ _ _ w.heap.size _ _ _ _ hn0 HXW.out HL2.out (set4' (Ext.refl _) _ _ _ _) (Nat.le_refl _) hWl
theorem answerStatus_c {F : Nat -> Prop} {n0 : Nat} {Pp : World -> World -> Int -> Int -> Int -> Value -> Prop} (hok : AnsOk F n0 Pp) (B rb : Nat) (w : World) (hn0 : n0 <= w.heap.size)
  (hin : ∀ w', Ext w w' -> Answers 122 #[.pointer (some ⟨B, 0, none⟩), .pointer (some ⟨rb, 0, none⟩)] w' Pp) :
  Answers 83 #[.pointer (some ⟨B, 0, none⟩), .iface 207 (.pointer (some ⟨rb, 0, none⟩))] w Pp := by
 unfold Answers at *
 have HOk : Hid (AnsOk F n0 Pp) := hok
 have HIn : Hid (∀ w', Ext w w' -> _) := hin
 have t0 := ta_Status0
 have t1 := ta_Status1
 have t2 := ta_Status2
 have t3 := ta_Status
 clear hok hin
 unfold replyV at HIn ⊢
 go_enter Tryz.func83, Tryz.ntmps83
 go_wp2_with fail
 have hres0 : (w.alloc (.cells #[.int .i64 0, .int .i64 0, .int .i64 0, .slice none 0 0] 33)).heap[w.heap.size]? = some (.cells #[.int .i64 0, .int .i64 0, .int .i64 0, .slice none 0 0] 33 (0, 0)) := heap_alloc_new _ _
 have hXW : Ext w (w.alloc (.cells #[.int .i64 0, .int .i64 0, .int .i64 0, .slice none 0 0] 33)) := (Ext.refl w).alloc _
 have hWl : w.heap.size < (w.alloc (.cells #[.int .i64 0, .int .i64 0, .int .i64 0, .slice none 0 0] 33)).heap.size := by simp
 generalize World.alloc w _ = W at hres0 hXW hWl ⊢
 refine (HIn.out _ hXW).mono ?_
 rintro e w2 ⟨cc, cf, cn, va, vl, vc, rfl, hl2⟩
 have HL2 : Hid _ := hl2
 have q3 := HOk.out.turn _ _ _ _ _ _ hl2
 have hr2 : w2.heap[w.heap.size]? = some (.cells #[.int .i64 0, .int .i64 0, .int .i64 0, .slice none 0 0] 33 (0, 0)) := q3.ref hres0 (fun e => by have := HOk.out.lt _ e; omega)
 have o0 := cell_at hr2 (i := 0) rfl
 have o1 := cell_at hr2 (i := 1) rfl
 have o2 := cell_at hr2 (i := 2) rfl
 have o3 := cell_at hr2 (i := 3) rfl
 have f0 := frozen_row hr2 0
 have f1 := frozen_row hr2 1
 have f2 := frozen_row hr2 2
 have f3 := frozen_row hr2 3
 have HXW : Hid (Ext w W) := hXW
 clear q3 hr2 hl2 hres0 hXW
 go_wp2
 refine bodyPost_ret (v := .agg #[.int .i64 cc, .int .i64 cf, .int .i64 cn, .slice va vl vc]) (by simp [results, Tryz.results83, go_sem, o0, o1, o2, o3]) rfl ⟨cc, cf, cn, va, vl, vc, rfl, ?_⟩
 exact HOk.out.step _ _ _ _ w.heap.size _ _ _ _ hn0 HXW.out HL2.out (set4' (Ext.refl _) _ _ _ _) (Nat.le_refl _) hWl
theorem dealerStatus_c {F : Nat -> Prop} {n0 : Nat} {Pp : World -> World -> Int -> Int -> Int -> Value -> Prop} (hok : AnsOk F n0 Pp) (B rb : Nat) (w : World) (hn0 : n0 <= w.heap.size)
  (hin : ∀ w', Ext w w' -> Answers 83 #[.pointer (some ⟨B, 0, none⟩), .iface 207 (.pointer (some ⟨rb, 0, none⟩))] w' Pp) :
  Answers 54 #[.pointer (some ⟨B, 0, none⟩), .iface 207 (.pointer (some ⟨rb, 0, none⟩)), .int .i64 0] w Pp := by
 unfold Answers at *
 have HOk : Hid (AnsOk F n0 Pp) := hok
 have HIn : Hid (∀ w', Ext w w' -> _) := hin
 clear hok hin
 unfold replyV at HIn ⊢
 go_enter Tryz.func54, Tryz.ntmps54
 go_wp2_with fail
 have hres0 : (w.alloc (.cells #[.int .i64 0, .int .i64 0, .int .i64 0, .slice none 0 0] 33)).heap[w.heap.size]? = some (.cells #[.int .i64 0, .int .i64 0, .int .i64 0, .slice none 0 0] 33 (0, 0)) := heap_alloc_new _ _
 have hXW : Ext w (w.alloc (.cells #[.int .i64 0, .int .i64 0, .int .i64 0, .slice none 0 0] 33)) := (Ext.refl w).alloc _
 have hWl : w.heap.size < (w.alloc (.cells #[.int .i64 0, .int .i64 0, .int .i64 0, .slice none 0 0] 33)).heap.size := by simp
 generalize World.alloc w _ = W at hres0 hXW hWl ⊢
 refine (HIn.out _ hXW).mono ?_
 rintro e w2 ⟨cc, cf, cn, va, vl, vc, rfl, hl2⟩
 have HL2 : Hid _ := hl2
 have q3 := HOk.out.turn _ _ _ _ _ _ hl2
 have hr2 : w2.heap[w.heap.size]? = some (.cells #[.int .i64 0, .int .i64 0, .int .i64 0, .slice none 0 0] 33 (0, 0)) := q3.ref hres0 (fun e => by have := HOk.out.lt _ e; omega)
 have o0 := cell_at hr2 (i := 0) rfl
 have o1 := cell_at hr2 (i := 1) rfl
 have o2 := cell_at hr2 (i := 2) rfl
 have o3 := cell_at hr2 (i := 3) rfl
 have f0 := frozen_row hr2 0
 have f1 := frozen_row hr2 1
 have f2 := frozen_row hr2 2
 have f3 := frozen_row hr2 3
 have HXW : Hid (Ext w W) := hXW
 clear q3 hr2 hl2 hres0 hXW
 go_wp2
 refine bodyPost_ret (v := .agg #[.int .i64 cc, .int .i64 cf, .int .i64 cn, .slice va vl vc]) (by simp [results, Tryz.results54, go_sem, o0, o1, o2, o3]) rfl ⟨cc, cf, cn, va, vl, vc, rfl, ?_⟩
 exact HOk.out.step _ _ _ _ w.heap.size _ _ _ _ hn0 HXW.out HL2.out (set4' (Ext.refl _) _ _ _ _) (Nat.le_refl _) hWl
end
-- GWs
section
set_option maxRecDepth 100000
set_option maxHeartbeats 1600000
open Go.RowKit Go.Maps
theorem storeRelease_c {F : Nat -> Prop} {n0 : Nat} {Pp : World -> World -> Int -> Int -> Int -> Value -> Prop} (hok : AnsOk F n0 Pp) (B rb : Nat) (ss ii : Int) (w : World) (hn0 : n0 <= w.heap.size) (hr : ReleaseReq w rb ss ii) (hrF : ¬ F rb)
  (hdt : ∀ w', Ext w w' -> Answers 167 #[.pointer (some ⟨B, 0, none⟩), .iface 235 (.agg #[.pointer (some ⟨rb, 0, none⟩)]), .int .i64 ss, .int .i64 ii] w' Pp) :
  Answers 121 #[.pointer (some ⟨B, 0, none⟩), .pointer (some ⟨rb, 0, none⟩)] w Pp := by
 unfold Answers at *
 have HOk : Hid (AnsOk F n0 Pp) := hok
 have HDt : Hid (∀ w', Ext w w' -> _) := hdt
 have HNF : Hid (¬ F rb) := hrF
 have r0 : w.cell? ⟨rb, 0, none⟩ = some (.int .i64 ss) := cell_at hr rfl
 have r1 : w.cell? ⟨rb, 1, none⟩ = some (.int .i64 ii) := cell_at hr rfl
 have hrl := lG w _ r0
 clear hok hdt hr hrF
 unfold replyV at HDt ⊢
 go_enter Tryz.func121, Tryz.ntmps121
 go_wp2_with fail
 have hres0 : (w.alloc (.cells #[.int .i64 0, .int .i64 0, .int .i64 0, .slice none 0 0] 33)).heap[w.heap.size]? = some (.cells #[.int .i64 0, .int .i64 0, .int .i64 0, .slice none 0 0] 33 (0, 0)) := heap_alloc_new _ _
 have hXW : Ext w (w.alloc (.cells #[.int .i64 0, .int .i64 0, .int .i64 0, .slice none 0 0] 33)) := (Ext.refl w).alloc _
 generalize World.alloc w _ = W at hres0 hXW ⊢
 have r0 := hXW.cell r0
 have r1 := hXW.cell r1
 have HXW : Hid (Ext w W) := hXW
 have HRS : Hid (W.heap[w.heap.size]? = some (.cells #[.int .i64 0, .int .i64 0, .int .i64 0, .slice none 0 0] 33 (0, 0))) := hres0
 clear hXW hres0
 have HXV : Hid (Ext w W) := HXW.out
 have HRV : Hid (W.heap[w.heap.size]? = some (.cells #[.int .i64 0, .int .i64 0, .int .i64 0, .slice none 0 0] 33 (0, 0))) := HRS.out
 have hVl := (Array.getElem?_eq_some_iff.1 HRV.out).1
 clear HXW HRS
 go_region_held3 (fun w' => w'.cell? ⟨rb, 0, none⟩ = some (.int .i64 ss) /\ w'.cell? ⟨rb, 1, none⟩ = some (.int .i64 ii))
  (first | exact ⟨r0, r1⟩ | exact S2 | exact ⟨set4far _ _ _ _ (by omega) S2.1, set4far _ _ _ _ (by omega) S2.2⟩)
  (first
    | (go_at_call 167
       refine (HDt.out _ (Ext.drew HXV.out)).mono ?_
       rintro e w2 ⟨cc, cf, cn, va, vl, vc, rfl, hl2⟩
       have HL2 : Hid _ := hl2
       have q3 := HOk.out.turn _ _ _ _ _ _ hl2
       have hr2 : w2.heap[w.heap.size]? = some (.cells #[.int .i64 0, .int .i64 0, .int .i64 0, .slice none 0 0] 33 (0, 0)) := q3.ref (at_drew HRV.out) (fun e => by have := HOk.out.lt _ e; omega)
       have o0 := cell_at hr2 (i := 0) rfl
       have o1 := cell_at hr2 (i := 1) rfl
       have o2 := cell_at hr2 (i := 2) rfl
       have o3 := cell_at hr2 (i := 3) rfl
       have f0 := frozen_row hr2 0
       have f1 := frozen_row hr2 1
       have f2 := frozen_row hr2 2
       have f3 := frozen_row hr2 3
       have S2 : w2.cell? ⟨rb, 0, none⟩ = some (.int .i64 ss) /\ w2.cell? ⟨rb, 1, none⟩ = some (.int .i64 ii) := ⟨q3.cell r0 HNF.out, q3.cell r1 HNF.out⟩
       clear q3 hr2 hl2))
 go_wp2
 refine bodyPost_ret (v := .agg #[.int .i64 cc, .int .i64 cf, .int .i64 cn, .slice va vl vc]) (by simp [results, Tryz.results121, go_sem, o0, o1, o2, o3]) rfl ⟨cc, cf, cn, va, vl, vc, rfl, ?_⟩
 exact HOk.out.step _ _ _ _ w.heap.size _ _ _ _ hn0 (Ext.drew HXV.out) HL2.out (set4' (Ext.refl _) _ _ _ _) (Nat.le_refl _) hVl
theorem storeLeaseSome_c {F : Nat -> Prop} {n0 : Nat} {Pp : World -> World -> Int -> Int -> Int -> Value -> Prop} (hok : AnsOk F n0 Pp) (B rb : Nat) (ss ii kd m k n c : Int) (w : World) (hn0 : n0 <= w.heap.size) (hr : LeaseReq w rb ss ii kd m k n c) (pl : Addr)
  (hnm : ∀ w', Ext w w' -> Calls Tryz.prog 165 #[.pointer (some ⟨B, 0, none⟩), .int .i64 ss, .int .i64 ii] w' fun e w'' => e = .returned (.pointer (some pl)) /\ Ext w' w'')
  (hdt : ∀ w', Ext w w' -> Answers 166 #[.pointer (some pl), .pointer (some ⟨rb, 0, none⟩)] w' Pp) :
  Answers 119 #[.pointer (some ⟨B, 0, none⟩), .pointer (some ⟨rb, 0, none⟩)] w Pp := by
 unfold Answers at *
 have HOk : Hid (AnsOk F n0 Pp) := hok
 have HNm : Hid (∀ w', Ext w w' -> _) := hnm
 have HDt : Hid (∀ w', Ext w w' -> _) := hdt
 have r0 : w.cell? ⟨rb, 0, none⟩ = some (.int .i64 ss) := cell_at hr rfl
 have r1 : w.cell? ⟨rb, 1, none⟩ = some (.int .i64 ii) := cell_at hr rfl
 have hrl := lG w _ r0
 clear hok hnm hdt hr
 unfold replyV at HDt ⊢
 go_enter Tryz.func119, Tryz.ntmps119
 go_wp2_with fail
 have hres0 : (w.alloc (.cells #[.int .i64 0, .int .i64 0, .int .i64 0, .slice none 0 0] 33)).heap[w.heap.size]? = some (.cells #[.int .i64 0, .int .i64 0, .int .i64 0, .slice none 0 0] 33 (0, 0)) := heap_alloc_new _ _
 have hXW : Ext w (w.alloc (.cells #[.int .i64 0, .int .i64 0, .int .i64 0, .slice none 0 0] 33)) := (Ext.refl w).alloc _
 generalize World.alloc w _ = W at hres0 hXW ⊢
 have r0 := hXW.cell r0
 have r1 := hXW.cell r1
 have HXW : Hid (Ext w W) := hXW
 have HRS : Hid (W.heap[w.heap.size]? = some (.cells #[.int .i64 0, .int .i64 0, .int .i64 0, .slice none 0 0] 33 (0, 0))) := hres0
 clear hXW hres0
 go_region_held3 (fun w' => (w'.cell? ⟨rb, 0, none⟩ = some (.int .i64 ss) /\ w'.cell? ⟨rb, 1, none⟩ = some (.int .i64 ii)) /\ Ext W w')
  ((refine and_c2 r0 r1 ?_; (repeat (first | with_reducible exact Ext.refl _ | with_reducible assumption | with_reducible refine Ext.drew ?_ | with_reducible refine Ext.alloc ?_ _ | with_reducible (apply Ext.chain; assumption))); done))
  (first | (go_at_call 165; refine (HNm.out _ (Ext.drew HXW.out)).mono ?_; rintro e V ⟨rfl, hx1⟩))
 rename_i hh
 have hD : Ext W V := hh.2
 clear hh hx1
 have r0 := hD.cell r0
 have r1 := hD.cell r1
 have HXV : Hid (Ext w V) := HXW.out.trans hD
 have HRV : Hid (V.heap[w.heap.size]? = some (.cells #[.int .i64 0, .int .i64 0, .int .i64 0, .slice none 0 0] 33 (0, 0))) := hD.block HRS.out
 have hVl := (Array.getElem?_eq_some_iff.1 HRV.out).1
 clear hD HXW HRS
 go_wp2_with fail
 refine (HDt.out _ HXV.out).mono ?_
 rintro e w2 ⟨cc, cf, cn, va, vl, vc, rfl, hl2⟩
 have HL2 : Hid _ := hl2
 have q3 := HOk.out.turn _ _ _ _ _ _ hl2
 have hr2 : w2.heap[w.heap.size]? = some (.cells #[.int .i64 0, .int .i64 0, .int .i64 0, .slice none 0 0] 33 (0, 0)) := q3.ref HRV.out (fun e => by have := HOk.out.lt _ e; omega)
 have o0 := cell_at hr2 (i := 0) rfl
 have o1 := cell_at hr2 (i := 1) rfl
 have o2 := cell_at hr2 (i := 2) rfl
 have o3 := cell_at hr2 (i := 3) rfl
 have f0 := frozen_row hr2 0
 have f1 := frozen_row hr2 1
 have f2 := frozen_row hr2 2
 have f3 := frozen_row hr2 3
 clear q3 hr2 hl2
 go_wp2
 refine bodyPost_ret (v := .agg #[.int .i64 cc, .int .i64 cf, .int .i64 cn, .slice va vl vc]) (by simp [results, Tryz.results119, go_sem, o0, o1, o2, o3]) rfl ⟨cc, cf, cn, va, vl, vc, rfl, ?_⟩
 exact HOk.out.step _ _ _ _ w.heap.size _ _ _ _ hn0 HXV.out HL2.out (set4' (Ext.refl _) _ _ _ _) (Nat.le_refl _) hVl
section
variable {B : Nat} {F : Nat -> Prop} {sv lv dv : Value} {R : List StkR} {ls : List LsV} {ops : List OpV} {fl : Bool} {ah : Int} {kn : Bool}
def StatusReq (w : World) (rb : Nat) (kd m k n : Int) : Prop := w.heap[rb]? = some (.cells #[.int .i64 kd, .int .i64 m, .int .i64 k, .int .i64 n] 216 (0, 0))
theorem storeStatus_c (rb : Nat) (kd m k n : Int) (hR : R.length <= 100) (w : World) (h : StoreOf w B F sv lv dv R ls ops fl ah kn) (hr : StatusReq w rb kd m k n) :
  Calls Tryz.prog 122 #[.pointer (some ⟨B, 0, none⟩), .pointer (some ⟨rb, 0, none⟩)] w fun e w' => e = .returned (match R.find? (fun x => x.is kd m k n) with | none => replyV 2 0 0 (.slice none 0 0) | some x => replyV 0 x.leased x.ts.length (.slice none 0 0)) /\ Ext w w' := by
 have r0 : w.cell? ⟨rb, 0, none⟩ = some (.int .i64 kd) := cell_at hr rfl
 have r1 : w.cell? ⟨rb, 1, none⟩ = some (.int .i64 m) := cell_at hr rfl
 have r2 : w.cell? ⟨rb, 2, none⟩ = some (.int .i64 k) := cell_at hr rfl
 have r3 : w.cell? ⟨rb, 3, none⟩ = some (.int .i64 n) := cell_at hr rfl
 have hrl := lG w _ r0
 have HF : Hid (∀ w', Ext w w' -> _) := fun w' hx => findR_c kd m k n hR w' (h.ext hx)
 unfold clsV at HF
 unfold replyV
 cases hf : R.find? (fun x => x.is kd m k n) with
 | none =>
  have hp : stkPtr R kd m k n = .pointer none := by rw [stkPtr, hf]
  rw [hp] at HF
  clear hp hf h hr
  simp only
  go_enter Tryz.func122, Tryz.ntmps122
  go_wp2_with fail
  refine (HF.out _ ((Ext.refl w).alloc _)).mono ?_
  rintro e w1 ⟨rfl, hx1⟩
  have hr2 := hx1.block (heap_alloc_new _ _)
  have o0 := cell_at hr2 (i := 0) rfl
  have o1 := cell_at hr2 (i := 1) rfl
  have o2 := cell_at hr2 (i := 2) rfl
  have o3 := cell_at hr2 (i := 3) rfl
  have f0 := frozen_row hr2 0
  have f1 := frozen_row hr2 1
  have f2 := frozen_row hr2 2
  have f3 := frozen_row hr2 3
  have HX1 : Hid (Ext w w1) := ((Ext.refl w).alloc _).trans hx1
  clear hx1 hr2
  go_wp2
  refine bodyPost_ret (v := .agg #[.int .i64 2, .int .i64 0, .int .i64 0, .slice none 0 0]) (by simp [results, Tryz.results122, go_sem, o0, o1, o2, o3]) rfl ⟨rfl, ?_⟩
  exact ext4 HX1.out (Nat.le_refl _) _ _ _ _
 | some x =>
  have hp : stkPtr R kd m k n = .pointer (some ⟨x.blk, 0, none⟩) := by rw [stkPtr, hf]
  rw [hp] at HF
  have hxR : x ∈ R := List.mem_of_find?_eq_some hf
  have hb := (h.stk x hxR).blk
  have k4 : w.cell? ⟨x.blk, 4, none⟩ = some (.int .i64 x.ts.length) := (cell_of_row w x.blk 4 _ _ _ hb).trans rfl
  have k5 : w.cell? ⟨x.blk, 5, none⟩ = some (.int .i64 x.leased) := (cell_of_row w x.blk 5 _ _ _ hb).trans rfl
  have hbl := lG w _ k4
  clear hp hf h hr hxR hb
  simp only
  generalize x.ts.length = tl at *
  generalize x.leased = le at *
  generalize x.blk = blk at *
  go_enter Tryz.func122, Tryz.ntmps122
  go_wp2_with fail
  refine (HF.out _ ((Ext.refl w).alloc _)).mono ?_
  rintro e w1 ⟨rfl, hx1⟩
  have hr2 := hx1.block (heap_alloc_new _ _)
  have o0 := cell_at hr2 (i := 0) rfl
  have o1 := cell_at hr2 (i := 1) rfl
  have o2 := cell_at hr2 (i := 2) rfl
  have o3 := cell_at hr2 (i := 3) rfl
  have f0 := frozen_row hr2 0
  have f1 := frozen_row hr2 1
  have f2 := frozen_row hr2 2
  have f3 := frozen_row hr2 3
  have HX1 : Hid (Ext w w1) := ((Ext.refl w).alloc _).trans hx1
  have k4 := HX1.out.cell k4
  have k5 := HX1.out.cell k5
  have hbw : w.heap.size ≠ blk := by omega
  have hwl1 := lG w1 _ o0
  clear hx1 hr2
  go_wp2
  go_region
  all_goals go_wp2
  all_goals refine bodyPost_ret (v := .agg #[.int .i64 0, .int .i64 le, .int .i64 tl, .slice none 0 0]) (by simp [results, Tryz.results122, go_sem, o0, o1, o2, o3]) rfl ⟨rfl, ?_⟩
  all_goals exact Ext.drew (ext4 HX1.out (Nat.le_refl _) _ _ _ _)
end
end
-- GMf
section
set_option maxRecDepth 100000
set_option maxHeartbeats 1600000
open Go.RowKit Go.Maps
def FetchReq (w : World) (rb : Nat) (ss kd m k n f c p : Int) : Prop := w.heap[rb]? = some (.cells #[.int .i64 ss, .int .i64 kd, .int .i64 m, .int .i64 k, .int .i64 n, .int .i64 f, .int .i64 c, .int .i64 p] 212 (0, 0))
def heldP (ls : List LsV) (ss kd m k n num : Int) : Bool := match ls.find? (covers kd m k n num) with
 | none => false
 | some l => l.s == ss && !l.r
def fetchCode (ls : List LsV) (ss kd m k n f c p : Int) : Int := if c < 1 \/ 40 < c then 5 else if p ≠ 0 /\ p ≠ 1 then 9 else if ∀ i : Nat, i < c.toNat -> heldP ls ss kd m k n (f + i) = true then 0 else 8
theorem and_c5 {a b : World} {p1 p2 p3 p4 p5 : Addr} {v1 v2 v3 v4 v5 : Value} (h1 : a.cell? p1 = some v1) (h2 : a.cell? p2 = some v2) (h3 : a.cell? p3 = some v3) (h4 : a.cell? p4 = some v4) (h5 : a.cell? p5 = some v5) (h : Ext a b) :
  (b.cell? p1 = some v1 /\ b.cell? p2 = some v2 /\ b.cell? p3 = some v3 /\ b.cell? p4 = some v4 /\ b.cell? p5 = some v5) /\ Ext a b := ⟨⟨h.cell h1, h.cell h2, h.cell h3, h.cell h4, h.cell h5⟩, h⟩
theorem mayFetchNil_c (B rb : Nat) (w : World) :
  Calls Tryz.prog 169 #[.pointer (some ⟨B, 0, none⟩), .pointer none, .pointer (some ⟨rb, 0, none⟩)] w fun e w' => e = .returned (.int .i64 2) /\ w = w' := by
 go_enter Tryz.func169, Tryz.ntmps169
 go_wp2
 go_ret
 exact ⟨rfl, rfl⟩
section
variable {B : Nat} {F : Nat -> Prop} {sv lv dv : Value} {R : List StkR} {ls : List LsV} {ops : List OpV} {fl : Bool} {ah : Int} {kn : Bool}
theorem mayFetch_c (rb blk : Nat) (ss kd m k n f c p : Int) (hf0 : 0 <= f) (hf1 : f <= 2147483647) (hls : ls.length <= 1000) (hfc : ∀ l ∈ ls, 0 <= l.f /\ l.f <= 1000 /\ 0 <= l.c /\ l.c <= 1000) (w : World) (h : StoreOf w B F sv lv dv R ls ops fl ah kn) (hr : FetchReq w rb ss kd m k n f c p) :
  Calls Tryz.prog 169 #[.pointer (some ⟨B, 0, none⟩), .pointer (some ⟨blk, 0, none⟩), .pointer (some ⟨rb, 0, none⟩)] w fun e w' => e = .returned (.int .i64 (fetchCode ls ss kd m k n f c p)) /\ Ext w w' := by
 have r0 : w.cell? ⟨rb, 0, none⟩ = some (.int .i64 ss) := cell_at hr rfl
 have r1 : w.cell? ⟨rb, 1, none⟩ = some (.int .i64 kd) := cell_at hr rfl
 have r2 : w.cell? ⟨rb, 2, none⟩ = some (.int .i64 m) := cell_at hr rfl
 have r3 : w.cell? ⟨rb, 3, none⟩ = some (.int .i64 k) := cell_at hr rfl
 have r4 : w.cell? ⟨rb, 4, none⟩ = some (.int .i64 n) := cell_at hr rfl
 have r5 : w.cell? ⟨rb, 5, none⟩ = some (.int .i64 f) := cell_at hr rfl
 have r6 : w.cell? ⟨rb, 6, none⟩ = some (.int .i64 c) := cell_at hr rfl
 have r7 : w.cell? ⟨rb, 7, none⟩ = some (.int .i64 p) := cell_at hr rfl
 have HLo : Hid (∀ num w', Ext w w' -> _) := fun num w' hx => leaseOf_c B ls kd m k n num sv lv dv fl ah kn w' (h.deal.ext hx) (h.lrow.ext hx) hls hfc
 unfold clsV at HLo
 have HLr : Hid (LeasesAt w lv ls) := h.lrow
 have HCd : Hid (fetchCode ls ss kd m k n f c p = if c < 1 \/ 40 < c then 5 else if p ≠ 0 /\ p ≠ 1 then 9 else if ∀ i : Nat, i < c.toNat -> heldP ls ss kd m k n (f + i) = true then 0 else 8) := rfl
 generalize fetchCode ls ss kd m k n f c p = cd at *
 clear h hr hfc
 go_enter Tryz.func169, Tryz.ntmps169
 go_wp2_with fail
 refine (isCount_c c w).mono ?_
 rintro e w1' ⟨rfl, rfl⟩
 by_cases hc : c < 1 \/ 40 < c
 ·have hb : (decide (1 <= c) && decide (c <= 40)) = false := by simp; omega
  rw [hb]
  go_wp2
  go_ret
  exact ⟨by rw [HCd.out, if_pos hc]; rfl, Ext.refl _⟩
 ·have hb : (decide (1 <= c) && decide (c <= 40)) = true := by simp; omega
  rw [hb]
  obtain ⟨cn, hcn⟩ : ∃ cn : Nat, c = cn := ⟨c.toNat, by omega⟩
  subst hcn
  have HCd2 : Hid (cd = if p ≠ 0 /\ p ≠ 1 then 9 else if ∀ i : Nat, i < cn -> heldP ls ss kd m k n (f + i) = true then 0 else 8) := by
   have h1 := HCd.out
   rw [if_neg hc] at h1
   exact h1
  have hcb : 1 <= cn /\ cn <= 40 := by omega
  clear hb hc HCd
  by_cases hp : p ≠ 0 /\ p ≠ 1
  ·have e0 : (p != 0) = true := by simpa using hp.1
   have e1 : (p != 1) = true := by simpa using hp.2
   have HP : Hid (p ≠ 0 /\ p ≠ 1) := hp
   clear hp
   go_wp2
   go_ret
   exact ⟨by rw [HCd2.out, if_pos HP.out]; rfl, Ext.refl _⟩
  ·have HP : Hid (¬ (p ≠ 0 /\ p ≠ 1)) := hp
   rcases (show p = 0 \/ p = 1 by omega) with rfl | rfl
   ·clear hp
    go_wp2_with fail
    go_loopw [36] (fun i wr => ∃ j : Nat, j <= cn /\ i = .int .i64 j /\ (∀ i : Nat, i < j -> heldP ls ss kd m k n (f + i) = true) /\ Ext w wr) (fun i _ => cn - (intOf i).toNat)
    case atStart => exact ⟨0, Nat.zero_le _, rfl, fun i hi => absurd hi (Nat.not_lt_zero _), Ext.refl _⟩
    case round =>
     obtain ⟨j, hj, rfl, hal, hx⟩ := hrel
     have HAl : Hid (∀ i : Nat, i < j -> heldP ls ss kd m k n (f + i) = true) := hal
     have HX : Hid (Ext w wr) := hx
     have r0 := hx.cell r0
     have r1 := hx.cell r1
     have r2 := hx.cell r2
     have r3 := hx.cell r3
     have r4 := hx.cell r4
     have r5 := hx.cell r5
     clear hal hx
     by_cases hlt : j < cn
     ·have hwf : IntKind.i64.wrap (f + (j : Int)) = f + (j : Int) := by rw [IntKind.wrap_i64]; omega
      have HLj : Hid (∀ w', Ext w w' -> _) := fun w' hx => HLo.out (f + (j : Int)) w' hx
      cases hfi : ls.findIdx? (covers kd m k n (f + (j : Int))) with
      | none =>
       have HN : Hid (¬ ∀ i : Nat, i < cn -> heldP ls ss kd m k n (f + i) = true) := fun hall => by
        have h1 := hall j hlt
        unfold heldP at h1
        rw [find_none_idx hfi] at h1
        cases h1
       rw [hfi] at HLj
       unfold ptrAt at HLj
       clear hfi
       go_wp2_with fail
       go_region_held3 (fun w' => (w'.cell? ⟨rb, 1, none⟩ = some (.int .i64 kd) /\ w'.cell? ⟨rb, 2, none⟩ = some (.int .i64 m) /\ w'.cell? ⟨rb, 3, none⟩ = some (.int .i64 k) /\ w'.cell? ⟨rb, 4, none⟩ = some (.int .i64 n) /\ w'.cell? ⟨rb, 5, none⟩ = some (.int .i64 f)) /\ Ext wr w')
        ((refine and_c5 r1 r2 r3 r4 r5 ?_; (repeat (first | with_reducible exact Ext.refl _ | with_reducible assumption | with_reducible refine Ext.drew ?_ | with_reducible refine Ext.alloc ?_ _ | with_reducible (apply Ext.chain; assumption))); done))
        (first | (go_at_call 126; refine (HLj.out _ (Ext.drew HX.out)).mono ?_; rintro e w2 ⟨rfl, hx2⟩))
       rename_i hh
       have HX2 : Hid (Ext w w2) := HX.out.trans hh.2
       clear hh hx2
       go_wp2_with fail
       go_quiet (fail)
       go_wp2
       go_ret
       exact ⟨by rw [HCd2.out, if_neg HP.out, if_neg HN.out]; rfl, HX2.out.drewN _⟩
      | some ix =>
       obtain ⟨hix, hfind⟩ := find_idx hfi
       have HH : Hid (heldP ls ss kd m k n (f + (j : Int)) = (ls[ix].s == ss && !ls[ix].r)) := by
        show heldP ls ss kd m k n (f + (j : Int)) = (ls[ix].s == ss && !ls[ix].r)
        unfold heldP
        rw [hfind]
       obtain ⟨g, cap, hlv⟩ : ∃ g cap, lv = .slice (some ⟨g, 0, none⟩) ls.length cap := by
        rcases LeasesAt.form HLr.out with ⟨_, e⟩ | ⟨g, cap, e, _⟩
        ·rw [e] at hix; simp at hix
        ·exact ⟨g, cap, e⟩
       have hlr := HLr.out
       rw [hlv] at hlr
       obtain ⟨l0, _, _, _, _, _, _, _, l8⟩ := LeasesAt.cells (hlr.ext HX.out) ix hix
       rw [hfi, hlv] at HLj
       unfold ptrAt at HLj
       clear hfi hfind hlr hlv
       generalize ls[ix].s = sx at *
       generalize ls[ix].r = rx at *
       go_wp2_with fail
       go_region_held3 (fun w' => (w'.cell? ⟨rb, 1, none⟩ = some (.int .i64 kd) /\ w'.cell? ⟨rb, 2, none⟩ = some (.int .i64 m) /\ w'.cell? ⟨rb, 3, none⟩ = some (.int .i64 k) /\ w'.cell? ⟨rb, 4, none⟩ = some (.int .i64 n) /\ w'.cell? ⟨rb, 5, none⟩ = some (.int .i64 f)) /\ Ext wr w')
        ((refine and_c5 r1 r2 r3 r4 r5 ?_; (repeat (first | with_reducible exact Ext.refl _ | with_reducible assumption | with_reducible refine Ext.drew ?_ | with_reducible refine Ext.alloc ?_ _ | with_reducible (apply Ext.chain; assumption))); done))
        (first | (go_at_call 126; refine (HLj.out _ (Ext.drew HX.out)).mono ?_; rintro e w2 ⟨rfl, hx2⟩))
       rename_i hh
       have HX2 : Hid (Ext w w2) := HX.out.trans hh.2
       have l0 := hh.2.cell l0
       have l8 := hh.2.cell l8
       have r0 := hh.2.cell r0
       clear hh hx2
       by_cases hgood : sx = ss /\ rx = false
       ·obtain ⟨rfl, rfl⟩ := hgood
        have HAl2 : Hid (∀ i : Nat, i < j + 1 -> heldP ls sx kd m k n (f + i) = true) := fun i hi => by
         by_cases e : i = j
         ·subst e
          rw [HH.out]; simp
         ·exact HAl.out i (by omega)
        go_wp2_with fail
        go_quiet (fail)
        go_wp2
        go_roundw
        case rel => exact ⟨j + 1, by omega, by go_num, HAl2.out, HX2.out.drewN _⟩
        case measure => simp [intOf]; omega
       ·have HN : Hid (¬ ∀ i : Nat, i < cn -> heldP ls ss kd m k n (f + i) = true) := fun hall => by
         have h1 := hall j hlt
         rw [HH.out] at h1
         apply hgood
         simpa using h1
        by_cases hs : sx = ss
        ·subst hs
         have hr : rx = true := by
          cases rx
          ·exact absurd ⟨rfl, rfl⟩ hgood
          ·rfl
         subst hr
         clear hgood HH
         go_wp2_with fail
         go_quiet (fail)
         go_wp2
         go_ret
         exact ⟨by rw [HCd2.out, if_neg HP.out, if_neg HN.out]; rfl, HX2.out.drewN _⟩
        ·clear hgood HH
         go_wp2_with fail
         go_quiet (fail)
         go_wp2
         go_ret
         exact ⟨by rw [HCd2.out, if_neg HP.out, if_neg HN.out]; rfl, HX2.out.drewN _⟩
     ·obtain rfl : j = cn := by omega
      go_wp2
      go_ret
      exact ⟨by rw [HCd2.out, if_neg HP.out, if_pos HAl.out]; rfl, HX.out⟩
   ·clear hp
    go_wp2_with fail
    go_loopw [36] (fun i wr => ∃ j : Nat, j <= cn /\ i = .int .i64 j /\ (∀ i : Nat, i < j -> heldP ls ss kd m k n (f + i) = true) /\ Ext w wr) (fun i _ => cn - (intOf i).toNat)
    case atStart => exact ⟨0, Nat.zero_le _, rfl, fun i hi => absurd hi (Nat.not_lt_zero _), Ext.refl _⟩
    case round =>
     obtain ⟨j, hj, rfl, hal, hx⟩ := hrel
     have HAl : Hid (∀ i : Nat, i < j -> heldP ls ss kd m k n (f + i) = true) := hal
     have HX : Hid (Ext w wr) := hx
     have r0 := hx.cell r0
     have r1 := hx.cell r1
     have r2 := hx.cell r2
     have r3 := hx.cell r3
     have r4 := hx.cell r4
     have r5 := hx.cell r5
     clear hal hx
     by_cases hlt : j < cn
     ·have hwf : IntKind.i64.wrap (f + (j : Int)) = f + (j : Int) := by rw [IntKind.wrap_i64]; omega
      have HLj : Hid (∀ w', Ext w w' -> _) := fun w' hx => HLo.out (f + (j : Int)) w' hx
      cases hfi : ls.findIdx? (covers kd m k n (f + (j : Int))) with
      | none =>
       have HN : Hid (¬ ∀ i : Nat, i < cn -> heldP ls ss kd m k n (f + i) = true) := fun hall => by
        have h1 := hall j hlt
        unfold heldP at h1
        rw [find_none_idx hfi] at h1
        cases h1
       rw [hfi] at HLj
       unfold ptrAt at HLj
       clear hfi
       go_wp2_with fail
       go_region_held3 (fun w' => (w'.cell? ⟨rb, 1, none⟩ = some (.int .i64 kd) /\ w'.cell? ⟨rb, 2, none⟩ = some (.int .i64 m) /\ w'.cell? ⟨rb, 3, none⟩ = some (.int .i64 k) /\ w'.cell? ⟨rb, 4, none⟩ = some (.int .i64 n) /\ w'.cell? ⟨rb, 5, none⟩ = some (.int .i64 f)) /\ Ext wr w')
        ((refine and_c5 r1 r2 r3 r4 r5 ?_; (repeat (first | with_reducible exact Ext.refl _ | with_reducible assumption | with_reducible refine Ext.drew ?_ | with_reducible refine Ext.alloc ?_ _ | with_reducible (apply Ext.chain; assumption))); done))
        (first | (go_at_call 126; refine (HLj.out _ (Ext.drew HX.out)).mono ?_; rintro e w2 ⟨rfl, hx2⟩))
       rename_i hh
       have HX2 : Hid (Ext w w2) := HX.out.trans hh.2
       clear hh hx2
       go_wp2_with fail
       go_quiet (fail)
       go_wp2
       go_ret
       exact ⟨by rw [HCd2.out, if_neg HP.out, if_neg HN.out]; rfl, HX2.out.drewN _⟩
      | some ix =>
       obtain ⟨hix, hfind⟩ := find_idx hfi
       have HH : Hid (heldP ls ss kd m k n (f + (j : Int)) = (ls[ix].s == ss && !ls[ix].r)) := by
        show heldP ls ss kd m k n (f + (j : Int)) = (ls[ix].s == ss && !ls[ix].r)
        unfold heldP
        rw [hfind]
       obtain ⟨g, cap, hlv⟩ : ∃ g cap, lv = .slice (some ⟨g, 0, none⟩) ls.length cap := by
        rcases LeasesAt.form HLr.out with ⟨_, e⟩ | ⟨g, cap, e, _⟩
        ·rw [e] at hix; simp at hix
        ·exact ⟨g, cap, e⟩
       have hlr := HLr.out
       rw [hlv] at hlr
       obtain ⟨l0, _, _, _, _, _, _, _, l8⟩ := LeasesAt.cells (hlr.ext HX.out) ix hix
       rw [hfi, hlv] at HLj
       unfold ptrAt at HLj
       clear hfi hfind hlr hlv
       generalize ls[ix].s = sx at *
       generalize ls[ix].r = rx at *
       go_wp2_with fail
       go_region_held3 (fun w' => (w'.cell? ⟨rb, 1, none⟩ = some (.int .i64 kd) /\ w'.cell? ⟨rb, 2, none⟩ = some (.int .i64 m) /\ w'.cell? ⟨rb, 3, none⟩ = some (.int .i64 k) /\ w'.cell? ⟨rb, 4, none⟩ = some (.int .i64 n) /\ w'.cell? ⟨rb, 5, none⟩ = some (.int .i64 f)) /\ Ext wr w')
        ((refine and_c5 r1 r2 r3 r4 r5 ?_; (repeat (first | with_reducible exact Ext.refl _ | with_reducible assumption | with_reducible refine Ext.drew ?_ | with_reducible refine Ext.alloc ?_ _ | with_reducible (apply Ext.chain; assumption))); done))
        (first | (go_at_call 126; refine (HLj.out _ (Ext.drew HX.out)).mono ?_; rintro e w2 ⟨rfl, hx2⟩))
       rename_i hh
       have HX2 : Hid (Ext w w2) := HX.out.trans hh.2
       have l0 := hh.2.cell l0
       have l8 := hh.2.cell l8
       have r0 := hh.2.cell r0
       clear hh hx2
       by_cases hgood : sx = ss /\ rx = false
       ·obtain ⟨rfl, rfl⟩ := hgood
        have HAl2 : Hid (∀ i : Nat, i < j + 1 -> heldP ls sx kd m k n (f + i) = true) := fun i hi => by
         by_cases e : i = j
         ·subst e
          rw [HH.out]; simp
         ·exact HAl.out i (by omega)
        go_wp2_with fail
        go_quiet (fail)
        go_wp2
        go_roundw
        case rel => exact ⟨j + 1, by omega, by go_num, HAl2.out, HX2.out.drewN _⟩
        case measure => simp [intOf]; omega
       ·have HN : Hid (¬ ∀ i : Nat, i < cn -> heldP ls ss kd m k n (f + i) = true) := fun hall => by
         have h1 := hall j hlt
         rw [HH.out] at h1
         apply hgood
         simpa using h1
        by_cases hs : sx = ss
        ·subst hs
         have hr : rx = true := by
          cases rx
          ·exact absurd ⟨rfl, rfl⟩ hgood
          ·rfl
         subst hr
         clear hgood HH
         go_wp2_with fail
         go_quiet (fail)
         go_wp2
         go_ret
         exact ⟨by rw [HCd2.out, if_neg HP.out, if_neg HN.out]; rfl, HX2.out.drewN _⟩
        ·clear hgood HH
         go_wp2_with fail
         go_quiet (fail)
         go_wp2
         go_ret
         exact ⟨by rw [HCd2.out, if_neg HP.out, if_neg HN.out]; rfl, HX2.out.drewN _⟩
     ·obtain rfl : j = cn := by omega
      go_wp2
      go_ret
      exact ⟨by rw [HCd2.out, if_neg HP.out, if_pos HAl.out]; rfl, HX.out⟩
end
end
end Go.Proofs.YtmnjhhachdlmkaaGreat
