import Derived.Test.YtmnjhhachdlmkaaGreatK05
namespace Go.Proofs.YtmnjhhachdlmkaaGreat
open List renaming getElem_toArray -> lA, getElem_cons_succ -> lB, getElem_cons_zero -> lC, setIfInBounds_toArray -> lD, set_cons_zero -> lE, set_cons_succ -> lF
open World renaming block_lt_of_cell? -> lG
open Value renaming ownBlock -> lH
-- GDo
section
set_option maxRecDepth 100000
set_option maxHeartbeats 1600000
open Go.RowKit Go.Maps
theorem mm_against (a b c d e : Value) (w : World) : (method 417 174 (.agg #[a, b, c, d, e]) "dealer/store.against").run Tryz.prog w = .ok (206, .agg #[a, b, c, d, e]) w := by kernel_rfl
theorem mm_record (a b c d e : Value) (w : World) : (method 417 174 (.agg #[a, b, c, d, e]) "dealer/store.record").run Tryz.prog w = .ok (131, .agg #[a, b, c, d, e]) w := by kernel_rfl
theorem mm_apply (a b c d e : Value) (w : World) : (method 417 174 (.agg #[a, b, c, d, e]) "dealer/store.apply").run Tryz.prog w = .ok (207, .agg #[a, b, c, d, e]) w := by kernel_rfl
theorem mn_record (a b c d e : Value) (w : World) : (nilAhead 417 174 (.agg #[a, b, c, d, e]) "dealer/store.record").run Tryz.prog w = .ok (some false) w := by kernel_rfl
theorem ml_against (a : Value) (w : World) : (method 417 233 (.agg #[a]) "dealer/store.against").run Tryz.prog w = .ok (223, .agg #[a]) w := by kernel_rfl
theorem ml_record (a : Value) (w : World) : (method 417 233 (.agg #[a]) "dealer/store.record").run Tryz.prog w = .ok (132, .agg #[a]) w := by kernel_rfl
theorem ml_apply (a : Value) (w : World) : (method 417 233 (.agg #[a]) "dealer/store.apply").run Tryz.prog w = .ok (224, .agg #[a]) w := by kernel_rfl
section
variable {B : Nat} {F : Nat -> Prop} {sv lv dv : Value} {R : List StkR} {ls : List LsV} {ops : List OpV} {fl : Bool} {ah : Int} {kn : Bool}
theorem StoreOf.setDv {w w3 : World} {dv' : Value} {ops' : List OpV} {fl' : Bool} {ah' : Int} {kn' : Bool} (h : StoreOf w B F sv lv dv R ls ops fl ah kn) (ht : Turn (fun b => b = B \/ dv.ownBlock = some b) w w3) (hd : DealAt w3 B sv lv dv' fl' ah' kn') (hl : OpsAt w3 dv' ops') (hq : ∀ q, dv'.ownBlock = some q -> q < w.heap.size -> dv.ownBlock = some q) (hdn : dv' = .slice none 0 0 \/ 1 <= ops'.length) :
  StoreOf w3 B (grow F w w3) sv lv dv' R ls ops' fl' ah' kn' := by
 have hfar : ∀ b cur t, w.heap[b]? = some (.cells cur t (0, 0)) -> t ≠ 114 /\ t ≠ 112 -> t ≠ 134 -> ¬ (b = B \/ dv.ownBlock = some b) := fun b cur t hc h1 h2 hor => by
  rcases hor with e | e
  ·exact h.deal.tne hc h1 e
  ·obtain ⟨cur', hc'⟩ := owns_block h.orow e
   exact type_ne hc hc' h2 rfl
 have hfm : ∀ b D n, w.ownsMap Tryz.prog 3 heldElem b n D -> ¬ (b = B \/ dv.ownBlock = some b) := fun b D n hc hor => by
  rcases hor with e | e
  ·exact h.deal.mne hc e.symm
  ·obtain ⟨cur', hc'⟩ := owns_block h.orow e
   exact map_ne hc' hc rfl
 have hg : ∀ b, F b -> grow F w w3 b := fun b hb => .inl hb
 refine ⟨hd, ht.owns h.srow (fun q hq => let ⟨cur, hc⟩ := owns_block h.srow hq; hfar q cur _ hc (by decide) (by decide)), ht.owns h.lrow (fun q hq => let ⟨cur, hc⟩ := owns_block h.lrow hq; hfar q cur _ hc (by decide) (by decide)), hl, fun y hy => ?_, h.nb, h.nm, .inl h.fB, fun q hq => .inl (h.fs q hq), fun q hq => .inl (h.fl' q hq), fun q hq' => ?_, fun b hb => ?_, h.lnil, hdn⟩
 ·have hyk := h.stk y hy
  obtain ⟨D, hD, _⟩ := hyk.map
  exact (hyk.turn' ht (hfar _ _ _ hyk.blk (by decide) (by decide)) (hfm _ _ _ hD) (fun b cur hc => hfar b cur _ hc (by decide) (by decide))).mono hg
 ·by_cases e : q < w.heap.size
  ·exact .inl (h.fd _ (hq q hq' e))
  ·exact .inr ⟨by omega, owns_lt hl hq'⟩
 ·rcases hb with hb | hb
  ·exact Nat.lt_of_lt_of_le (h.lt b hb) ht.size
  ·exact hb.2
def addOps (kn : Bool) (S : List Stk) (ls : List LsV) (r : ByteArray) : List OpV := if kn = true then opsAdd (frameB r.data.toList) else opsNew (flatF (recsP S ls ++ [r]))
theorem addOps_len (kn : Bool) (S : List Stk) (ls : List LsV) (r : ByteArray) : (addOps kn S ls r).length = if kn = true then 2 else 4 := by
 unfold addOps
 split <;> rfl
def didOps (fl : Bool) (ah : Int) (l : List OpV) : List OpV := l.take (diskN fl ah l.length)
def AhOk (fl : Bool) (ah : Int) : Prop := fl = true -> 0 <= ah /\ ah <= 9223372036854775807
theorem didOps_len (fl : Bool) (ah : Int) (hah : AhOk fl ah) (l : List OpV) : (didOps fl ah l).length = diskN fl ah l.length := by
 unfold didOps
 rw [List.length_take]
 unfold diskN
 split
 ·rename_i h
  have := hah h.1
  omega
 ·omega
theorem did_nil {w w' : World} {kn' : Bool} {k : Nat} {xs : List Value} {l : List OpV} {dv' : Value} (hah : AhOk fl ah) (h : dv = .slice none 0 0 \/ 1 <= ops.length) (hd : DidOps B sv lv dv fl ah kn' k xs l w w' dv') : dv' = .slice none 0 0 \/ 1 <= (ops ++ didOps fl ah l).length := by
 by_cases e : diskN fl ah l.length = 0
 ·rcases h with h | h
  ·exact .inl (by rw [hd.same e]; exact h)
  ·exact .inr (by rw [List.length_append]; omega)
 ·exact .inr (by rw [List.length_append, didOps_len fl ah hah]; omega)
theorem StoreOf.did {w w' : World} {kn' : Bool} {l : List OpV} {dv' : Value} (hah : AhOk fl ah) (h : StoreOf w B F sv lv dv R ls ops fl ah kn) (hd : DidOps B sv lv dv fl ah kn' ops.length (opCells ops) l w w' dv') :
  StoreOf w' B (grow F w w') sv lv dv' R ls (ops ++ didOps fl ah l) (diskFl fl ah l.length) (diskAh fl ah l.length) kn' := by
 refine h.setDv hd.turn hd.deal ?_ hd.own (did_nil hah h.dnil hd)
 show World.ownsRow _ 0 134 4 dv' _ _
 rw [opCells_append, List.length_append, didOps_len fl ah hah]
 exact hd.row
theorem addNew_c (r : ByteArray) (hr : r.size <= 100000) (hops : ops.length <= 1000000) (hah : AhOk fl ah) (hR : R.length <= 100) (hls : ls.length <= 900) (hok : ∀ x ∈ R, StkOk x.abs) (hlok : ∀ l ∈ ls, LsOk l) (w : World) (h : StoreOf w B F sv lv dv R ls ops fl ah false) :
  Calls Tryz.prog 144 #[.pointer (some ⟨B, 2, none⟩), .string r, .func (.func 92) #[.pointer (some ⟨B, 0, none⟩)] #[]] w fun e w' =>
   ∃ dv', e = .returned (.bool (diskOk fl ah 4)) /\ DidOps B sv lv dv fl ah (diskOk fl ah 4) ops.length (opCells ops) (opsNew (flatF (recsP (R.map StkR.abs) ls ++ [r]))) w w' dv' := by
 obtain ⟨i0, hi, hz0, hz1, hz2⟩ := info_parts infoStr
 have HRe : Hid (∀ w', Ext w w' -> _) := fun w' hx => records_c hR hls hok hlok w' (h.ext hx)
 have hrl : (recsP (R.map StkR.abs) ls).length <= 1900 := by
  have h1 := List.length_filter_le (·.r) ls
  simp only [recsP, List.length_append, List.length_map]
  omega
 have HSz : Hid (∀ q ∈ recsP (R.map StkR.abs) ls ++ [r], q.size <= 100000) := fun q hq => by
  rcases List.mem_append.1 hq with hq | hq
  ·exact recs_size (fun x hx => by obtain ⟨y, hy, rfl⟩ := List.mem_map.1 hx; exact hok y hy) q hq
  ·rw [List.mem_singleton.1 hq]; exact hr
 have HD : Hid (DealAt w B sv lv dv fl ah false) := h.deal
 have HO : Hid (w.ownsRow 0 134 4 dv ops.length (opCells ops)) := h.orow
 have HAH : Hid (AhOk fl ah) := hah
 obtain ⟨_, _, _, _, _, c5⟩ := h.deal.cells
 obtain ⟨ok, hok'⟩ : ∃ ok, diskOk fl ah 4 = ok := ⟨_, rfl⟩
 rw [hok']
 have HOK : Hid (diskOk fl ah 4 = ok) := hok'
 clear h hok hlok hah hok'
 generalize recsP (R.map StkR.abs) ls = P at *
 go_enter Tryz.func144, Tryz.ntmps144
 go_wp2_with fail
 refine (HRe.out _ (Ext.refl _)).mono ?_
 rintro e w1 ⟨v, rfl, ho1, hx1⟩
 have HX1 : Hid (Ext w w1) := hx1
 have HO1 : Hid (StrsAt w1 w.heap.size v P) := ho1
 obtain ⟨va, vc, hv⟩ := owns_slice ho1
 subst hv
 have hw1 := hx1.le
 clear ho1 hx1
 go_wp2_with (at_builtin; refine wpList_append_lies _ rfl _ _ 166 rfl w.heap.size 9 i0 _ 1 16 Tryz.underlying166 hi hz0 hz1 hz2 rfl (by decide) _ P.length _ rfl (Ext.owns (Ext.alloc (Ext.refl _) _) HO1.out) ⟨_, 0, none⟩ 1 1 [.string r] rfl rfl (World.news_of_block (heap_alloc_new _ _)) (by simp [Value.oneCell']) (by decide) (by unfold maxLen; omega) (by omega) ?cb _ rfl ?_)
 case cb => simp; omega
 intro g cap3 w2 hown2 hgrow hat hlt1
 have HX2 : Hid (Ext w w2) := Ext.grown (Ext.alloc HX1.out _) hgrow (fun q hq => (World.ownsRow.lt HO1.out q hq).1)
 have HOW : Hid (w2.ownsRow w.heap.size 9 1 (.slice (some ⟨g, 0, none⟩) (P.length + 1) cap3) (P.length + 1) (strVs (P ++ [r]))) := by
  show World.ownsRow _ _ _ _ _ _ _
  rw [strVs, List.map_append]
  exact hown2
 clear hown2 hgrow hat
 go_wp2_with fail
 refine (replace_c B cap3 (P.length + 1) ops.length (some ⟨g, 0, none⟩) (P ++ [r]) sv lv dv fl ah false HAH.out (opCells ops) w2 (HD.out.ext HX2.out) (HX2.out.owns HO.out) (by simp) (by omega) HSz.out ?dc hops).mono ?_
 case dc =>
  intro i hi'
  refine ⟨g, rfl, ?_⟩
  have := World.ownsRow.cellAt HOW.out i (by simp at hi'; omega)
  rw [this, strVs, List.getElem?_map, List.getElem?_eq_getElem hi']
  rfl
 rintro e w3 ⟨dv', rfl, hd3⟩
 have HRR : Hid (DidOps B sv lv dv fl ah ok ops.length (opCells ops) (opsNew (flatF (P ++ [r]))) w w3 dv') := by
  rw [HOK.out] at hd3
  exact ⟨hd3.deal, hd3.row, (Turn.of_ext HX2.out).trans hd3.turn, fun q hq hl => hd3.own q hq (Nat.lt_of_lt_of_le hl HX2.out.le), hd3.same⟩
 clear hd3
 rw [HOK.out]
 go_wp2
 go_ret
 exact ⟨dv', rfl, HRR.out⟩
theorem add_c (r : ByteArray) (hr : r.size <= 100000) (hops : ops.length <= 1000000) (hah : AhOk fl ah) (hR : R.length <= 100) (hls : ls.length <= 900) (hok : ∀ x ∈ R, StkOk x.abs) (hlok : ∀ l ∈ ls, LsOk l) (w : World) (h : StoreOf w B F sv lv dv R ls ops fl ah kn) :
  Calls Tryz.prog 144 #[.pointer (some ⟨B, 2, none⟩), .string r, .func (.func 92) #[.pointer (some ⟨B, 0, none⟩)] #[]] w fun e w' =>
   ∃ dv', e = .returned (.bool (diskOk fl ah (addOps kn (R.map StkR.abs) ls r).length)) /\ StoreOf w' B (grow F w w') sv lv dv' R ls (ops ++ didOps fl ah (addOps kn (R.map StkR.abs) ls r)) (diskFl fl ah (addOps kn (R.map StkR.abs) ls r).length) (diskAh fl ah (addOps kn (R.map StkR.abs) ls r).length) (diskOk fl ah (addOps kn (R.map StkR.abs) ls r).length) /\ Turn (fun b => b = B \/ dv.ownBlock = some b) w w' := by
 cases kn with
 | true =>
  refine (addKnown_c B ops.length r _ sv lv dv fl ah hah (opCells ops) w h.deal h.orow hr hops).mono ?_
  rintro e w' ⟨dv', rfl, hd⟩
  exact ⟨dv', rfl, h.did hah hd, hd.turn⟩
 | false =>
  refine (addNew_c r hr hops hah hR hls hok hlok w h).mono ?_
  rintro e w' ⟨dv', rfl, hd⟩
  exact ⟨dv', rfl, h.did hah hd, hd.turn⟩
end
end
-- GDl
section
set_option maxRecDepth 100000
set_option maxHeartbeats 1600000
open Go.RowKit Go.Maps
def DoPost (w w'' : World) (B : Nat) (F : Nat -> Prop) (R' : List StkR) (ls' : List LsV) (ops' : List OpV) (fl' : Bool) (ah' : Int) (kn' : Bool) : Prop :=
 ∃ sv' lv' dv', StoreOf w'' B (grow F w w'') sv' lv' dv' R' ls' ops' fl' ah' kn' /\ Turn F w w''
theorem DoPost.of {w w2 w3 w4 : World} {B : Nat} {F F4 T : Nat -> Prop} {sv' lv' dv' : Value} {R' : List StkR} {ls' : List LsV} {ops' : List OpV} {fl' : Bool} {ah' : Int} {kn' : Bool} (h : StoreOf w4 B F4 sv' lv' dv' R' ls' ops' fl' ah' kn') (hF : ∀ b, F b -> b < w.heap.size) (hx : Ext w w2) (ht3 : Turn F w w3) (hs3 : w2.heap.size <= w3.heap.size) (ht : Turn T w3 w4) (hf : ∀ b, F4 b -> F b \/ w2.heap.size <= b) (hT : ∀ b, b < w.heap.size -> T b -> F b) : DoPost w w4 B F R' ls' ops' fl' ah' kn' := by
 have h1 := hx.le
 have h2 := ht.size
 refine ⟨sv', lv', dv', h.mono (fun b hb => ?_) (fun b hb => ?_), ht3.trans' ht hT⟩
 ·rcases hf b hb with h3 | h3
  ·exact .inl h3
  ·exact .inr ⟨by omega, h.lt b hb⟩
 ·rcases hb with hb | hb
  ·have := hF b hb
   omega
  ·exact hb.2
theorem DoPost.disk {w w2 w3 : World} {B : Nat} {F T : Nat -> Prop} {sv' lv' dv' : Value} {R' : List StkR} {ls' : List LsV} {ops' : List OpV} {fl' : Bool} {ah' : Int} {kn' : Bool} (h : StoreOf w3 B (grow F w2 w3) sv' lv' dv' R' ls' ops' fl' ah' kn') (hF : ∀ b, F b -> b < w.heap.size) (hx : Ext w w2) (ht : Turn T w2 w3) (hT : ∀ b, b < w.heap.size -> T b -> F b) : DoPost w w3 B F R' ls' ops' fl' ah' kn' := by
 refine DoPost.of (w2 := w2) (w3 := w3) (T := fun _ => False) h hF hx ((Turn.of_ext hx).trans' ht hT) ht.size (Turn.refl _ _) (fun b hb => hb.imp id (fun h => h.1)) (fun b _ h => h.elim)
def DidSo (kn fl : Bool) (ah : Int) (S : List Stk) (ls : List LsV) (rec : ByteArray) (e : Ending) (Q : Bool -> Bool -> Int -> List OpV -> Prop) : Prop :=
 e = .returned (.int .i64 (if diskOk fl ah (addOps kn S ls rec).length then 0 else 10)) /\ Q (diskOk fl ah (addOps kn S ls rec).length) (diskFl fl ah (addOps kn S ls rec).length) (diskAh fl ah (addOps kn S ls rec).length) (didOps fl ah (addOps kn S ls rec))
section
variable {B : Nat} {F : Nat -> Prop} {sv lv dv : Value} {R : List StkR} {ls : List LsV} {ops : List OpV} {fl : Bool} {ah : Int} {kn : Bool}
theorem doLeaseNo_c (rb : Nat) (kd m k n ss ii c : Int) (hR : R.length <= 100) (hls : ls.length <= 1000) (hRm : ∀ x ∈ R, x.ts.length <= 1000 /\ x.leased <= 1000) (hno : ls.findIdx? (isNamed ss ii) = none) (hcd : leaseCode R ls kd m k n c ≠ 0) (w : World) (h : StoreOf w B F sv lv dv R ls ops fl ah kn) (hr : LeaseReq w rb ss ii kd m k n c) :
  Calls Tryz.prog 98 #[.pointer (some ⟨B, 0, none⟩), .iface 233 (.agg #[.pointer (some ⟨rb, 0, none⟩)])] w fun e w' => e = .returned (.int .i64 (leaseCode R ls kd m k n c)) /\ Ext w w' := by
 have h1 := ml_against
 have HA : Hid (∀ w', Ext w w' -> _) := fun w' hx => leasingAgainst_c rb kd m k n ss ii c hR hls hRm hno w' (h.ext hx) (hx.block hr)
 clear h hr hRm hno
 generalize leaseCode R ls kd m k n c = cd at *
 go_enter Tryz.func98, Tryz.ntmps98
 go_wp2_with fail
 refine (HA.out _ (Ext.refl _)).mono ?_
 rintro e w1 ⟨rfl, hx1⟩
 go_wp2
 go_ret
 exact ⟨rfl, hx1⟩
theorem doLease_c (rb ix kd m k n ss ii c : Nat) (hss : ss <= 2147483647) (hii : ii <= 2147483647) (hkd : kd <= 255 /\ m <= 255 /\ k <= 255 /\ n <= 255) (hc : c <= 100) (hR : R.length <= 100) (hls : ls.length <= 900) (hops : ops.length <= 1000000) (hah : AhOk fl ah) (hok : ∀ x ∈ R, StkOk x.abs) (hlok : ∀ l ∈ ls, LsOk l) (hRm : ∀ x ∈ R, x.ts.length <= 1000 /\ x.leased <= 1000) (hno : ls.findIdx? (isNamed ss ii) = none) (hcd : leaseCode R ls kd m k n c = 0) (hix : ix < R.length) (hf : R.find? (fun x => x.is kd m k n) = some R[ix]) (w : World) (h : StoreOf w B F sv lv dv R ls ops fl ah kn) (hr : LeaseReq w rb ss ii kd m k n c) (hrF : ¬ F rb) :
  Calls Tryz.prog 98 #[.pointer (some ⟨B, 0, none⟩), .iface 233 (.agg #[.pointer (some ⟨rb, 0, none⟩)])] w fun e w' => DidSo kn fl ah (R.map StkR.abs) ls (leaseRec ss ii kd m k n c) e fun ok fl' ah' new => DoPost w w' B F (if ok then R.set ix (R[ix].lend c) else R) (if ok then ls ++ [⟨ss, ii, kd, m, k, n, R[ix].leased, c, false⟩] else ls) (ops ++ new) fl' ah' ok := by
 have h1 := ml_against
 have h2 := ml_record
 have h3 := ml_apply
 have HA : Hid (∀ w', Ext w w' -> _) := fun w' hx => leasingAgainst_c rb kd m k n ss ii c hR (by omega) hRm hno w' (h.ext hx) (hx.block hr)
 rw [hcd] at HA
 have HRc : Hid (∀ w', Ext w w' -> _) := fun w' hx => leasingRecord_c rb ss ii kd m k n c hss hii hkd.1 hkd.2.1 hkd.2.2.1 hkd.2.2.2 (by omega) w' (hx.block hr)
 have HAd : Hid (∀ w', Ext w w' -> _) := fun w' hx => add_c (leaseRec ss ii kd m k n c) (leaseRec_size _ _ _ _ _ _ _) hops hah hR hls hok hlok w' (h.ext hx)
 have H : Hid _ := h
 have HR : Hid (LeaseReq w rb ss ii kd m k n c) := hr
 have HAp : Hid (∀ (w' : World) (F' : Nat -> Prop) (dv' : Value) (ops' : List OpV) (fl' : Bool) (ah' : Int), StoreOf w' B F' sv lv dv' R ls ops' fl' ah' true -> LeaseReq w' rb ss ii kd m k n c -> _) := fun w' F' dv' ops' fl' ah' h hr => leasingApply_c rb ix kd m k n ss ii c hc hR (by omega) hix hf (hRm R[ix] (List.getElem_mem hix)).2 w' h hr
 have HXB : Hid (F R[ix].blk) := (h.stk R[ix] (List.getElem_mem hix)).fb
 have HNF : Hid (¬ F rb) := hrF
 clear h hr hRm hno hcd hf hrF hops hss hii hkd hls hR hah hok hlok
 unfold DidSo
 generalize R[ix] = X at *
 generalize leaseRec ss ii kd m k n c = rec at *
 generalize addOps kn (R.map StkR.abs) ls rec = full at *
 generalize diskFl fl ah full.length = fl1 at *
 generalize diskAh fl ah full.length = ah1 at *
 generalize didOps fl ah full = did at *
 generalize diskOk fl ah full.length = ok at *
 go_enter Tryz.func98, Tryz.ntmps98
 go_wp2_with fail
 refine (HA.out _ (Ext.refl _)).mono ?_
 rintro e w1 ⟨rfl, hx1⟩
 have HX1 : Hid (Ext w w1) := hx1
 clear hx1
 go_wp2_with fail
 go_region_held3 (fun _ => True) (trivial) (first
  | (go_at_call 132; refine (HRc.out _ (Ext.chain HX1.out (Ext.refl _)).drew).mono ?_; rintro e w2 ⟨rfl, hx2⟩)
  | (go_at_call 144; refine (HAd.out _ (Ext.chain hx2 (Ext.drew HX1.out))).mono ?_; rintro e w3 ⟨dv', rfl, hS3, ht3⟩))
 all_goals
  have HX2 : Hid (Ext w w2) := Ext.chain hx2 (Ext.drew HX1.out)
  have HTT : Hid (Turn (fun b => b = B \/ dv.ownBlock = some b) w w3) := (Turn.of_ext HX2.out).trans ht3
  have HTF : Hid (Turn F w w3) := HTT.out.mono (fun b _ hb => hb.elim (fun e => e ▸ H.out.fB) (fun e => H.out.fd b e))
  have HR3 : Hid (LeaseReq w3 rb ss ii kd m k n c) := HTF.out.ref HR.out HNF.out
  have HS3 : Hid (StoreOf w3 B (grow F w2 w3) sv lv dv' R ls (ops ++ did) fl1 ah1 ok) := hS3
  have HDk : Hid (DoPost w w3 B F R ls (ops ++ did) fl1 ah1 ok) := DoPost.disk hS3 H.out.lt HX2.out ht3 (fun b _ hb => hb.elim (fun e => e ▸ H.out.fB) (fun e => H.out.fd b e))
  have hs23 := ht3.size
  clear hx2 hS3 ht3
  cases ok with
  | false =>
   go_wp2
   go_ret
   exact ⟨rfl, HDk.out⟩
  | true =>
   go_wp2_with fail
   refine (HAp.out w3 _ dv' _ _ _ HS3.out HR3.out).mono ?_
   rintro e w4 ⟨lv', rfl, q1, q2⟩
   have HQ : Hid _ := And.intro q1 q2
   clear q1 q2
   go_wp2
   go_ret
   obtain ⟨q1, q2⟩ := HQ.out
   refine ⟨rfl, DoPost.of q1 H.out.lt HX2.out HTF.out hs23 q2 (fun b hb => ?_) (fun b hb hor => ?_)⟩
   ·rcases hb with hb | hb
    ·exact hb.imp id (fun h => h.1)
    ·exact .inr (by omega)
   ·rcases hor with e | e | e
    ·exact e ▸ H.out.fB
    ·exact H.out.fl' b e
    ·exact e ▸ HXB.out
end
end
-- GDm
section
set_option maxRecDepth 100000
set_option maxHeartbeats 1600000
open Go.RowKit Go.Maps
def makeS (S : List Stk) (kd m k n : Nat) (us : List (List Int × Bool)) : List Stk := match S.findIdx? (fun x => x.is kd m k n) with
 | some i => S.modify i (fun x => x.more us)
 | none => S ++ [⟨kd, m, k, n, us, 0⟩]
theorem find_idx {α : Type} {p : α -> Bool} {l : List α} {i : Nat} (h : l.findIdx? p = some i) : ∃ hi : i < l.length, l.find? p = some l[i] := by
 obtain ⟨hi, h1, h2⟩ := List.findIdx?_eq_some_iff_getElem.1 h
 refine ⟨hi, ?_⟩
 rw [List.find?_eq_some_iff_getElem]
 exact ⟨h1, i, hi, rfl, fun j hj => by simpa using h2 j hj⟩
theorem find_none_idx {α : Type} {p : α -> Bool} {l : List α} (h : l.findIdx? p = none) : l.find? p = none := by
 rw [List.find?_eq_none]
 intro x hx
 have := List.findIdx?_eq_none_iff.1 h x hx
 simp [this]
theorem idx_abs (R : List StkR) (kd m k n : Int) : (R.map StkR.abs).findIdx? (fun x => x.is kd m k n) = R.findIdx? (fun x => x.is kd m k n) := by
 rw [List.findIdx?_map]
 rfl
section
variable {B : Nat} {F : Nat -> Prop} {sv lv dv : Value} {R : List StkR} {ls : List LsV} {ops : List OpV} {fl : Bool} {ah : Int} {kn : Bool}
def makeCode (S : List Stk) (kd m k n : Int) (t : Nat) : Int := match S.find? (fun x => x.is kd m k n) with
 | some x => if 200 < x.ts.length + t then 4 else 0
 | none => if 6 <= S.length \/ 200 < t then 4 else 0
theorem makeCode_abs (R : List StkR) (kd m k n : Int) (t : Nat) : makeCode (R.map StkR.abs) kd m k n t = match R.find? (fun x => x.is kd m k n) with | some x => if 200 < x.ts.length + t then 4 else 0 | none => if 6 <= R.length \/ 200 < t then 4 else 0 := by
 unfold makeCode
 rw [List.find?_map, List.length_map]
 show (match Option.map StkR.abs (R.find? fun x => x.is kd m k n) with | some x => _ | none => _) = _
 cases R.find? (fun x => x.is kd m k n) <;> rfl
theorem doMakingNo_c (kd m k n : Nat) (tv : Option Addr) (t tcap : Nat) (ht : t <= 1000) (hR : R.length <= 100) (hRm : ∀ x ∈ R, x.ts.length <= 1000) (hcd : makeCode (R.map StkR.abs) kd m k n t ≠ 0) (w : World) (h : StoreOf w B F sv lv dv R ls ops fl ah kn) :
  Calls Tryz.prog 98 #[.pointer (some ⟨B, 0, none⟩), .iface 174 (.agg #[.int .i64 kd, .int .i64 m, .int .i64 k, .int .i64 n, .slice tv t tcap])] w fun e w' => e = .returned (.int .i64 (makeCode (R.map StkR.abs) kd m k n t)) /\ Ext w w' := by
 have h1 := mm_against
 have HA : Hid (∀ w', Ext w w' -> Calls Tryz.prog 206 #[.agg #[.int .i64 kd, .int .i64 m, .int .i64 k, .int .i64 n, .slice tv t tcap], .pointer (some ⟨B, 0, none⟩)] w' fun e w'' => e = .returned (.int .i64 (makeCode (R.map StkR.abs) kd m k n t)) /\ Ext w' w'') := fun w' hx => by
  have := makingAgainst_c kd m k n tv t tcap ht hR hRm w' (h.ext hx)
  exact this.mono fun e w'' h => ⟨h.1.trans (by rw [makeCode_abs]; cases R.find? (fun x : StkR => x.is (kd : Int) m k n) <;> rfl), h.2⟩
 clear h hRm
 generalize makeCode (R.map StkR.abs) kd m k n t = cd at *
 go_enter Tryz.func98, Tryz.ntmps98
 go_wp2_with fail
 refine (HA.out _ (Ext.refl _)).mono ?_
 rintro e w1 ⟨rfl, hx1⟩
 go_wp2
 go_ret
 exact ⟨rfl, hx1⟩
def ForP (R : List StkR) (kd m k n : Nat) (R1 : List StkR) (ix : Nat) : Prop :=
 (R1 = R /\ R.findIdx? (fun x => x.is kd m k n) = some ix) \/ (R.findIdx? (fun x => x.is kd m k n) = none /\ ix = R.length /\ ∃ gk mb, R1 = R ++ [⟨gk, mb, kd, m, k, n, [], 0⟩])
theorem is_cls {x : StkR} {kd m k n : Nat} (h : x.is kd m k n = true) : x.kd = kd /\ x.m = m /\ x.k = k /\ x.n = n := by
 have h2 : (x.kd : Int) = kd /\ (x.m : Int) = m /\ (x.k : Int) = k /\ (x.n : Int) = n := by simpa [StkR.is, StkR.v, StkV.is] using h
 omega
theorem ForP.sh {kd m k n : Nat} {R1 : List StkR} {ix : Nat} (h : ForP R kd m k n R1 ix) (hi : ix < R1.length) : R1[ix].sh = shOf kd m k n := by
 rcases h with ⟨rfl, h⟩ | ⟨_, rfl, gk, mb, rfl⟩
 ·obtain ⟨_, h1, _⟩ := List.findIdx?_eq_some_iff_getElem.1 h
  obtain ⟨e1, e2, e3, e4⟩ := is_cls h1
  rw [StkR.sh, e1, e2, e3, e4]
 ·simp [StkR.sh]
theorem forStock_c (kd m k n : Nat) (hR : R.length <= 100) (hRm : ∀ x ∈ R, x.ts.length <= 1000) (w : World) (h : StoreOf w B F sv lv dv R ls ops fl ah kn) :
  Calls Tryz.prog 208 #[.pointer (some ⟨B, 0, none⟩), clsV kd m k n] w fun e w'' => ∃ R1 sv1 ix F1, ∃ hix : ix < R1.length, e = .returned (.pointer (some ⟨R1[ix].blk, 0, none⟩)) /\ ForPost w w'' B F sv lv dv ls ops fl ah kn (ForP R kd m k n) R1 sv1 ix F1 hix := by
 cases hf : R.findIdx? (fun x => x.is kd m k n) with
 | some ix =>
  obtain ⟨hi, hfi⟩ := find_idx hf
  refine (stockSome_c kd m k n hR R[ix] hfi w h).mono ?_
  rintro e w' ⟨rfl, hx⟩
  exact ⟨R, sv, ix, F, hi, rfl, h.ext hx, .inl ⟨rfl, hf⟩, Turn.of_ext hx, fun _ hb => hb, fun _ hb => .inl hb, hRm _ (List.getElem_mem hi)⟩
 | none =>
  refine (stockNew_c kd m k n hR (find_none_idx hf) w h).mono ?_
  rintro e w' ⟨gk, mb, sv', rfl, hs, ht⟩
  refine ⟨_, sv', R.length, grow F w w', by simp, by simp, hs, .inr ⟨hf, rfl, gk, mb, rfl⟩, ht, fun _ hb => .inl hb, fun _ hb => hb.imp id (fun h => h.1), by simp⟩
theorem make_abs {kd m k n : Nat} {R1 : List StkR} {ix : Nat} {us : List (List Int × Bool)} (h : ForP R kd m k n R1 ix) (hi : ix < R1.length) : (R1.set ix (R1[ix].more us)).map StkR.abs = makeS (R.map StkR.abs) kd m k n us := by
 unfold makeS
 rw [idx_abs]
 rcases h with ⟨rfl, h⟩ | ⟨h, rfl, gk, mb, rfl⟩
 ·rw [h]
  apply List.ext_getElem (by simp)
  intro j h1 h2
  simp only [List.getElem_map, List.getElem_set, List.getElem_modify]
  by_cases e : ix = j
  ·subst e
   simp [StkR.abs, StkR.more, Stk.more]
  ·simp [e]
 ·rw [h]
  simp [StkR.abs, StkR.more]
theorem doMaking_c (kd m k n gt tcap t : Nat) (us : List (List Int × Bool)) (hus : us.length = t) (ht1 : t <= 200) (hsx : 1 <= (shOf kd m k n).x + (shOf kd m k n).y + (shOf kd m k n).z /\ (shOf kd m k n).x + (shOf kd m k n).y + (shOf kd m k n).z <= 27)
  (hul : ∀ u ∈ us, OkT (shOf kd m k n) u) (hR : R.length <= 100) (hRm : ∀ x ∈ R, x.ts.length <= 1000) (hls : ls.length <= 900) (hops : ops.length <= 1000000) (hah : AhOk fl ah) (hok : ∀ x ∈ R, StkOk x.abs) (hlok : ∀ l ∈ ls, LsOk l) (hcd : makeCode (R.map StkR.abs) kd m k n t = 0) (w : World) (h : StoreOf w B F sv lv dv R ls ops fl ah kn) (htr : TriRow w F gt (shOf kd m k n) us) :
  Calls Tryz.prog 98 #[.pointer (some ⟨B, 0, none⟩), .iface 174 (.agg #[.int .i64 kd, .int .i64 m, .int .i64 k, .int .i64 n, .slice (some ⟨gt, 0, none⟩) t tcap])] w fun e w' => DidSo kn fl ah (R.map StkR.abs) ls ⟨(makeB kd m k n (shOf kd m k n) us).toArray⟩ e fun ok fl' ah' new => ∃ R', DoPost w w' B F R' ls (ops ++ new) fl' ah' ok /\ R'.map StkR.abs = if ok then makeS (R.map StkR.abs) kd m k n us else R.map StkR.abs := by
 have h1 := mm_against
 have h2 := mm_record
 have h3 := mm_apply
 have h4 := mn_record
 have HA : Hid (∀ w', Ext w w' -> Calls Tryz.prog 206 #[.agg #[.int .i64 kd, .int .i64 m, .int .i64 k, .int .i64 n, .slice (some ⟨gt, 0, none⟩) t tcap], .pointer (some ⟨B, 0, none⟩)] w' fun e w'' => e = .returned (.int .i64 0) /\ Ext w' w'') := fun w' hx => by
  have := makingAgainst_c kd m k n (some ⟨gt, 0, none⟩) t tcap (by omega) hR hRm w' (h.ext hx)
  have t2 := this.mono (R' := fun e w'' => e = .returned (.int .i64 (makeCode (R.map StkR.abs) kd m k n t)) /\ Ext w' w'') fun e w'' h => ⟨h.1.trans (by rw [makeCode_abs]; cases R.find? (fun x : StkR => x.is (kd : Int) m k n) <;> rfl), h.2⟩
  rwa [hcd] at t2
 have htE : ∀ w', Ext w w' -> TriRow w' F gt (shOf kd m k n) us := fun w' hx => htr.turn (S := fun _ => False) (Turn.of_ext hx) id (fun _ _ _ => id)
 have HRc : Hid (∀ w', Ext w w' -> _) := fun w' hx => makingRecord_c kd m k n gt tcap t F (shOf kd m k n) hsx.1 hsx.2 us hus ht1 hul w' (htE w' hx)
 have hsz : (⟨(makeB kd m k n (shOf kd m k n) us).toArray⟩ : ByteArray).size <= 100000 := by
  show (makeB kd m k n (shOf kd m k n) us).toArray.size <= 100000
  have h1 := len_trisB hsx.2 hul
  have h3 : us.length * 433 <= 200 * 433 := Nat.mul_le_mul_right _ (by omega)
  rw [List.size_toArray, makeB, List.length_append]
  show 5 + _ <= _
  omega
 have HAd : Hid (∀ w', Ext w w' -> _) := fun w' hx => add_c ⟨(makeB kd m k n (shOf kd m k n) us).toArray⟩ hsz hops hah hR hls hok hlok w' (h.ext hx)
 have H : Hid _ := h
 have HTR : Hid (TriRow w F gt (shOf kd m k n) us) := htr
 have HAp : Hid (∀ (w' : World) (F' : Nat -> Prop) (dv' : Value) (ops' : List OpV) (fl' : Bool) (ah' : Int), StoreOf w' B F' sv lv dv' R ls ops' fl' ah' true -> TriRow w' F' gt (shOf kd m k n) us -> _) := fun w' F' dv' ops' fl' ah' h ht =>
  makingApply_c (F := F') (sv := sv) (lv := lv) (dv := dv') (ls := ls) (ops := ops') (fl := fl') (ah := ah') (kn := true) kd m k n (shOf kd m k n) hsx gt tcap us t hus (by omega) (ForP R kd m k n) (fun R1 ix hp hi => hp.sh hi) w' h.deal.lt (fun w'' hx => forStock_c kd m k n hR hRm w'' (h.ext hx)) ht
   ⟨by obtain ⟨cur, hc⟩ := ht.2; exact h.deal.tne hc (by decide), fun e => by obtain ⟨cur, hc⟩ := ht.2; obtain ⟨cur', hc'⟩ := owns_block h.srow e; exact type_ne hc hc' (by decide) rfl⟩ (fun q hq => owns_block h.srow hq) ⟨_, _, _, _, _, _, h.deal⟩
 clear h htr hRm hcd hops hul hus htE hsz hah hok hlok
 unfold DidSo
 generalize (⟨(makeB kd m k n (shOf kd m k n) us).toArray⟩ : ByteArray) = rec at *
 generalize addOps kn (R.map StkR.abs) ls rec = full at *
 generalize diskFl fl ah full.length = fl1 at *
 generalize diskAh fl ah full.length = ah1 at *
 generalize didOps fl ah full = did at *
 generalize diskOk fl ah full.length = ok at *
 go_enter Tryz.func98, Tryz.ntmps98
 go_wp2_with fail
 refine (HA.out _ (Ext.refl _)).mono ?_
 rintro e w1 ⟨rfl, hx1⟩
 have HX1 : Hid (Ext w w1) := hx1
 clear hx1
 go_wp2_with fail
 go_region_held3 (fun _ => True) (trivial) (first
  | (go_at_call 131; refine (HRc.out _ (Ext.chain HX1.out (Ext.refl _)).drew).mono ?_; rintro e w2 ⟨rfl, hx2⟩)
  | (go_at_call 144; refine (HAd.out _ (Ext.chain hx2 (Ext.drew HX1.out))).mono ?_; rintro e w3 ⟨dv', rfl, hS3, ht3⟩))
 all_goals
  have HX2 : Hid (Ext w w2) := Ext.chain hx2 (Ext.drew HX1.out)
  have HTT : Hid (Turn (fun b => b = B \/ dv.ownBlock = some b) w w3) := (Turn.of_ext HX2.out).trans ht3
  have HTF : Hid (Turn F w w3) := HTT.out.mono (fun b _ hb => hb.elim (fun e => e ▸ H.out.fB) (fun e => H.out.fd b e))
  have HTR3 : Hid (TriRow w3 (grow F w2 w3) gt (shOf kd m k n) us) := by
   refine (HTR.out.turn HTT.out (fun hor => ?_) (fun b cur hc hor => ?_)).mono (fun b hb => .inl hb)
   ·obtain ⟨cur, hc⟩ := HTR.out.2
    rcases hor with e | e
    ·exact H.out.deal.tne hc (by decide) e
    ·obtain ⟨cur', hc'⟩ := owns_block H.out.orow e
     exact type_ne hc hc' (by decide) rfl
   ·rcases hor with e | e
    ·exact H.out.deal.tne hc (by decide) e
    ·obtain ⟨cur', hc'⟩ := owns_block H.out.orow e
     exact type_ne hc hc' (by decide) rfl
  have HS3 : Hid (StoreOf w3 B (grow F w2 w3) sv lv dv' R ls (ops ++ did) fl1 ah1 ok) := hS3
  have HDk : Hid (DoPost w w3 B F R ls (ops ++ did) fl1 ah1 ok) := DoPost.disk hS3 H.out.lt HX2.out ht3 (fun b _ hb => hb.elim (fun e => e ▸ H.out.fB) (fun e => H.out.fd b e))
  have hs23 := ht3.size
  clear hx2 hS3 ht3
  cases ok with
  | false =>
   go_wp2
   go_ret
   exact ⟨rfl, R, HDk.out, rfl⟩
  | true =>
   go_wp2_with fail
   refine (HAp.out w3 _ dv' _ _ _ HS3.out HTR3.out).mono ?_
   rintro e w4 ⟨R1, sv1, ix, F1, hix, rfl, q1, q2, q3, q4, q5⟩
   have HQ : Hid _ := And.intro q1 (And.intro q2 (And.intro q3 (And.intro q4 q5)))
   clear q1 q2 q3 q4 q5
   go_wp2
   go_ret
   obtain ⟨q1, q2, q3, q4, q5⟩ := HQ.out
   have hs2 := HX2.out.le
   have hs3 := HTT.out.size
   refine ⟨rfl, _, DoPost.of q1 H.out.lt HX2.out HTF.out hs23 q5 (fun b hb => ?_) (fun b hb hor => ?_), make_abs q2 hix⟩
   ·rcases q4 b hb with hb | hb
    ·exact hb.imp id (fun h => h.1)
    ·exact .inr (by omega)
   ·rcases hor with e | e | e
    ·exact e ▸ H.out.fB
    ·exact H.out.fs b e
    ·rcases q4 b e with e | e
     ·rcases e with e | e
      ·exact e
      ·omega
     ·omega
end
end
-- GRf
section
set_option maxRecDepth 100000
set_option maxHeartbeats 3200000
open Go.RowKit Go.Maps
theorem infoShares : (Tryz.prog.info? 176).map (fun i => (i.zero, i.size, i.bytes)) = some (some (.agg #[.slice none 0 0, .slice none 0 0]), 2, 48) := by kernel_rfl
section
variable {B : Nat} {F : Nat -> Prop} {sv lv dv : Value} {R : List StkR} {ls : List LsV} {ops : List OpV} {fl : Bool} {ah : Int} {kn : Bool}
theorem refillCls_c (kd m k n : Int) (hcls : isCls kd m k n = false) (a : Option Addr) (len cap B : Nat) (w : World) :
  Calls Tryz.prog 65 #[.pointer (some ⟨B, 0, none⟩), clsV kd m k n, .slice a len cap] w fun e w' => e = .returned (.int .i64 2) /\ Ext w w' := by
 have HI : Hid (∀ w, Calls Tryz.prog 95 #[clsV kd m k n] w fun e w' => e = .returned (.bool false) /\ Ext w w') := fun w => by
  have := isClass_c kd m k n w
  rw [hcls] at this
  exact this
 unfold clsV at *
 clear hcls
 go_enter Tryz.func65, Tryz.ntmps65
 go_wp2_with fail
 refine (HI.out _).mono ?_; rintro e w1 ⟨rfl, hx1⟩
 have HX1 : Hid (Ext w w1) := ((Ext.refl w).alloc _).trans hx1
 clear hx1
 go_wp2
 go_ret
 exact ⟨rfl, HX1.out⟩
theorem refillDraws_c (kd m k n : Nat) (hcls : isCls kd m k n = true) (a : Option Addr) (len cap B E : Nat) (hE : E = (shOf kd m k n).x + (shOf kd m k n).y + ((shOf kd m k n).x + (shOf kd m k n).y + (shOf kd m k n).z)) (hlen : len <= 1000000000000000) (hno : len % E ≠ 0 \/ len / E < 1 \/ 12 < len / E) (w : World) :
  Calls Tryz.prog 65 #[.pointer (some ⟨B, 0, none⟩), clsV kd m k n, .slice a len cap] w fun e w' => e = .returned (.int .i64 3) /\ Ext w w' := by
 obtain ⟨hc, hs⟩ := shOf_of hcls
 have hle := Sh.le hs
 have HI : Hid (∀ w, Calls Tryz.prog 95 #[clsV kd m k n] w fun e w' => e = .returned (.bool true) /\ Ext w w') := fun w => by
  have := isClass_c kd m k n w
  rw [hcls] at this
  exact this
 have HDr : Hid _ := drawsOf_c hc hs
 rw [<- hE] at HDr
 have hE1 : 1 <= E /\ E <= 45 := by omega
 unfold clsV at *
 clear hcls hc hs hE hle
 have hdiv : Int.tdiv (len : Int) (E : Int) = ((len / E : Nat) : Int) := by rw [Int.tdiv_eq_ediv_of_nonneg (by omega)]; rfl
 have hmod : Int.tmod (len : Int) (E : Int) = ((len % E : Nat) : Int) := by rw [Int.tmod_eq_emod_of_nonneg (by omega)]; rfl
 have hne : ¬ ((E : Int) = 0) := by omega
 have hdl : len / E <= len := Nat.div_le_self _ _
 have HNo : Hid _ := hno
 generalize len / E = qd at *
 generalize len % E = qm at *
 have hwd : IntKind.i64.wrap (qd : Int) = (qd : Int) := by rw [IntKind.wrap_i64]; omega
 clear hno
 go_enter Tryz.func65, Tryz.ntmps65
 go_wp2_with fail
 refine (HI.out _).mono ?_; rintro e w1 ⟨rfl, hx1⟩
 obtain ⟨d0, d1, d2, d3⟩ := four_in hx1
 have HX1 : Hid (Ext w w1) := ((Ext.refl w).alloc _).trans hx1
 clear hx1
 go_wp2_with fail
 refine (HDr.out _).mono ?_; rintro e w2 ⟨rfl, hx2⟩
 have HX2 : Hid (Ext w w2) := HX1.out.trans hx2
 clear hx2 HX1 d0 d1 d2 d3
 go_wp2_with fail
 all_goals first
  | (go_ret; exact ⟨rfl, HX2.out⟩)
  | (exfalso; have := HNo.out; omega)
def chunk (D : List Int) (E j : Nat) : List Int := (D.drop (j * E)).take E
def chunks (D : List Int) (E c : Nat) : List (List Int) := (List.range c).map (chunk D E)
theorem len_chunks (D : List Int) (E c : Nat) : (chunks D E c).length = c := by simp [chunks]
theorem chunk_len {D : List Int} {E j c : Nat} (h : D.length = c * E) (hj : j < c) : (chunk D E j).length = E := by
 have h1 : (j + 1) * E <= c * E := Nat.mul_le_mul_right E hj
 rw [Nat.add_mul, Nat.one_mul] at h1
 rw [chunk, List.length_take, List.length_drop]
 omega
theorem chunk_in {D : List Int} (h : inU64 D) (E j : Nat) : inU64 (chunk D E j) := fun z hz => h z (List.mem_of_mem_drop (List.mem_of_mem_take hz))
def TriSo (w : World) (base : Nat) (tv : Value) (j : Nat) (s : Sh) (us : List (List Int)) : Prop :=
 ∃ xs, w.ownsRow base 176 2 tv j xs /\ us.length = j /\ ∀ i (h : i < us.length), ∃ a0 c0 a1 c1, xs[i * 2]? = some (.slice (some ⟨a0, 0, none⟩) (s.x + s.y + s.z) c0) /\ xs[i * 2 + 1]? = some (.slice (some ⟨a1, 0, none⟩) (s.x + s.y + s.z) c1) /\ WordsU w a0 (part0 s us[i]) /\ WordsU w a1 (part1 s us[i]) /\ base <= a0 /\ base <= a1
theorem refill_round {w wr w3 w4 : World} {mv j cnt E g cap3 a0 c0 a1 c1 L kd m k n : Nat} {ta : Option Addr} {tcp : Nat} {D : List Int} {xs : List Value}
  (hx : Ext w wr) (hmr : wr.heap[mv]? = some (.cells #[.int .i64 (kd : Int), .int .i64 m, .int .i64 k, .int .i64 n, .slice ta j tcp] 174 (0, 0)))
  (htv : wr.ownsRow w.heap.size 176 2 (.slice ta j tcp) j xs)
  (hxs : ∀ i (h : i < (chunks D E j).length), ∃ a0 c0 a1 c1, xs[i * 2]? = some (.slice (some ⟨a0, 0, none⟩) ((shOf kd m k n).x + (shOf kd m k n).y + (shOf kd m k n).z) c0) /\ xs[i * 2 + 1]? = some (.slice (some ⟨a1, 0, none⟩) ((shOf kd m k n).x + (shOf kd m k n).y + (shOf kd m k n).z) c1) /\ WordsU wr a0 (part0 (shOf kd m k n) (chunks D E j)[i]) /\ WordsU wr a1 (part1 (shOf kd m k n) (chunks D E j)[i]) /\ w.heap.size <= a0 /\ w.heap.size <= a1)
  (hcr : wr.heap[w.heap.size]? = some (.cells #[.int .i64 (kd : Int), .int .i64 m, .int .i64 k, .int .i64 n] 49 (0, 0))) (hmvw : w.heap.size <= mv) (hL : (shOf kd m k n).x + (shOf kd m k n).y + (shOf kd m k n).z = L)
  (hx3 : Ext wr w3) (ht34 : Turn (fun q => lH (.slice ta j tcp) = some q) w3 w4) (ht4 : Turn (fun q => lH (.slice ta j tcp) = some q) wr w4)
  (hm4 : w4.heap[mv]? = some (.cells #[.int .i64 (kd : Int), .int .i64 m, .int .i64 k, .int .i64 n, .slice ta j tcp] 174 (0, 0)))
  (how : w4.ownsRow w.heap.size 176 2 (.slice (some ⟨g, 0, none⟩) (j + 1) cap3) (j + 1) (xs ++ [.slice (some ⟨a0, 0, none⟩) L c0, .slice (some ⟨a1, 0, none⟩) L c1]))
  (h0 : w3.ownsRow wr.heap.size 146 1 (.slice (some ⟨a0, 0, none⟩) L c0) L ((part0 (shOf kd m k n) (chunk D E j)).map (Value.int .u64)))
  (h1 : w3.ownsRow wr.heap.size 146 1 (.slice (some ⟨a1, 0, none⟩) L c1) L ((part1 (shOf kd m k n) (chunk D E j)).map (Value.int .u64)))
  (_hcl : (chunk D E j).length = E) (hlt : j < cnt) :
  ∃ (j_1 : Nat) (tv : Value), j_1 <= cnt /\ Value.int .i64 ((j : Int) + 1) = Value.int .i64 (j_1 : Int) /\ (w4.setCell ⟨mv, 4, none⟩ (.slice (some ⟨g, 0, none⟩) (j + 1) cap3)).heap[mv]? = some (.cells #[.int .i64 (kd : Int), .int .i64 m, .int .i64 k, .int .i64 n, tv] 174 (0, 0)) /\
   TriSo (w4.setCell ⟨mv, 4, none⟩ (.slice (some ⟨g, 0, none⟩) (j + 1) cap3)) w.heap.size tv j_1 (shOf kd m k n) (chunks D E j_1) /\ Ext w (w4.setCell ⟨mv, 4, none⟩ (.slice (some ⟨g, 0, none⟩) (j + 1) cap3)) /\
   (w4.setCell ⟨mv, 4, none⟩ (.slice (some ⟨g, 0, none⟩) (j + 1) cap3)).heap[w.heap.size]? = some (.cells #[.int .i64 (kd : Int), .int .i64 m, .int .i64 k, .int .i64 n] 49 (0, 0)) := by
 have hTm : Turn (fun q => q = mv) w4 (w4.setCell ⟨mv, 4, none⟩ (.slice (some ⟨g, 0, none⟩) (j + 1) cap3)) := Turn.setCell (S := fun q => q = mv) (p := ⟨mv, 4, none⟩) (Turn.refl _ w4) (fun _ => rfl) _
 have hwm : ∀ {b : Nat} {zs : List Int}, WordsU w4 b zs -> WordsU (w4.setCell ⟨mv, 4, none⟩ (.slice (some ⟨g, 0, none⟩) (j + 1) cap3)) b zs := fun {b zs} h => h.turn hTm (by obtain ⟨cur, hc⟩ := h.2; exact type_ne hc hm4 (by decide))
 have hold : ∀ {b : Nat} {zs : List Int}, WordsU wr b zs -> WordsU w4 b zs := fun {b zs} h => h.turn ht4 (fun e => by obtain ⟨cur, hc⟩ := h.2; obtain ⟨cur', hc'⟩ := owns_block htv e; exact type_ne hc hc' (by decide) rfl)
 have hnew : ∀ {b : Nat} {zs : List Int}, WordsU w3 b zs -> WordsU w4 b zs := fun {b zs} h => h.turn ht34 (fun e => by
  obtain ⟨cur, hc⟩ := h.2
  obtain ⟨cur', hc'⟩ := owns_block htv e
  exact type_ne hc (hx3.block hc') (by decide) rfl)
 have hxl : xs.length = j * 2 := htv.1
 have hgm : g ≠ mv := by
  obtain ⟨cur, hc⟩ := owns_block how (g := g) rfl
  exact type_ne hc hm4 (by decide)
 have htw : ¬ lH (.slice ta j tcp) = some w.heap.size := row_ne (B := w.heap.size) hcr htv (by decide)
 have hwl := hx.le
 refine ⟨j + 1, .slice (some ⟨g, 0, none⟩) (j + 1) cap3, by omega, by simp, setCell_row hm4 _, ⟨xs ++ [.slice (some ⟨a0, 0, none⟩) L c0, .slice (some ⟨a1, 0, none⟩) L c1], owns_setCell how (by simpa [lH] using hgm) _, len_chunks _ _ _, fun i hi => ?_⟩, ?_, ?_⟩
 ·rw [len_chunks] at hi
  by_cases e : i = j
  ·subst e
   have hg : (chunks D E (i + 1))[i]'(by rw [len_chunks]; omega) = chunk D E i := by simp [chunks]
   refine ⟨a0, c0, a1, c1, ?_, ?_, ?_, ?_, Nat.le_trans hwl (h0.lt a0 rfl).1, Nat.le_trans hwl (h1.lt a1 rfl).1⟩
   ·rw [List.getElem?_append_right (by omega), hxl, hL]; simp
   ·rw [List.getElem?_append_right (by omega), hxl, hL, show i * 2 + 1 - i * 2 = 1 by omega]; simp
   ·rw [hg]; exact hwm (hnew (owns_wordsU h0))
   ·rw [hg]; exact hwm (hnew (owns_wordsU h1))
  ·have hi' : i < (chunks D E j).length := by rw [len_chunks]; omega
   have hg : (chunks D E (j + 1))[i]'(by rw [len_chunks]; omega) = (chunks D E j)[i] := by simp [chunks]
   obtain ⟨b0, d0, b1, d1, k1, k2, k3, k4, k5, k6⟩ := hxs i hi'
   refine ⟨b0, d0, b1, d1, ?_, ?_, ?_, ?_, k5, k6⟩
   ·rw [List.getElem?_append_left (by omega)]; exact k1
   ·rw [List.getElem?_append_left (by omega)]; exact k2
   ·rw [hg]; exact hwm (hold k3)
   ·rw [hg]; exact hwm (hold k4)
 ·refine Ext.setCell ?_ (by show w.heap.size <= mv; exact hmvw) _
  exact Turn.ext ((Turn.of_ext (S := fun _ => False) hx).trans' ht4 (fun i hi e => by
   have := (htv.lt i e).1
   omega))
 ·rw [Below.heap_setCell _ _ _ _ (fun e => type_ne hcr hmr (by decide) e)]
  exact ht4.ref hcr htw
def keptU (us : List (List Int)) : List (List Int × Bool) := us.map fun u => (u, true)
theorem sh0_draws {s : Sh} {u : List Int} (h : u.length = s.x + s.y + (s.x + s.y + s.z)) (hz : 1 <= s.z) : sh0 s u = part0 s u := by
 unfold sh0
 rw [if_neg (by omega)]
theorem sh1_draws {s : Sh} {u : List Int} (h : u.length = s.x + s.y + (s.x + s.y + s.z)) (hz : 1 <= s.z) : sh1 s u = part1 s u := by
 unfold sh1
 rw [if_neg (by omega)]
theorem okT_draws {s : Sh} {u : List Int} (h : u.length = s.x + s.y + (s.x + s.y + s.z)) (hz : 1 <= s.z) (h0 : inU64 (part0 s u)) (h1 : inU64 (part1 s u)) (b : Bool) : OkT s (u, b) := fun _ => by
 show (sh0 s u).length = _ /\ (sh1 s u).length = _ /\ inU64 (sh0 s u) /\ inU64 (sh1 s u)
 rw [sh0_draws h hz, sh1_draws h hz]
 have e0 : (part0 s u).length = s.x + s.y + s.z := by rw [part0, List.length_drop]; omega
 exact ⟨e0, by rw [part1, List.length_zipWith, whole_len _ _ h, e0]; omega, h0, h1⟩
theorem DoPost.lift {w wr w5 : World} {B : Nat} {F : Nat -> Prop} {R' : List StkR} {ls' : List LsV} {ops' : List OpV} {fl' : Bool} {ah' : Int} {kn' : Bool} (h : DoPost wr w5 B (grow F w wr) R' ls' ops' fl' ah' kn') (hx : Ext w wr) (hF : ∀ b, F b -> b < w.heap.size) : DoPost w w5 B F R' ls' ops' fl' ah' kn' := by
 obtain ⟨sv', lv', dv', h1, h2⟩ := h
 have e1 := hx.le
 have e2 := h2.size
 refine ⟨sv', lv', dv', h1.mono (fun b hb => ?_) (fun b hb => ?_), (Turn.of_ext hx).trans' h2 (fun b hb hor => ?_)⟩
 ·rcases hb with hb | hb
  ·rcases hb with hb | hb
   ·exact .inl hb
   ·exact .inr ⟨hb.1, by omega⟩
  ·exact .inr ⟨by omega, hb.2⟩
 ·rcases hb with hb | hb
  ·have := hF b hb
   omega
  ·exact hb.2
 ·rcases hor with h | h
  ·exact h
  ·omega
def FillSo (kn fl : Bool) (ah : Int) (R : List StkR) (ls : List LsV) (ops : List OpV) (kd m k n : Nat) (us : List (List Int × Bool)) (B : Nat) (F : Nat -> Prop) (w w' : World) (e : Ending) : Prop :=
 DidSo kn fl ah (R.map StkR.abs) ls ⟨(makeB kd m k n (shOf kd m k n) us).toArray⟩ e fun ok fl' ah' new => ∃ R', DoPost w w' B F R' ls (ops ++ new) fl' ah' ok /\ R'.map StkR.abs = if ok then makeS (R.map StkR.abs) kd m k n us else R.map StkR.abs
theorem refill_c (kd m k n : Nat) (hcls : isCls kd m k n = true) (b off len cap cnt E : Nat) (D : List Int) (hE : E = (shOf kd m k n).x + (shOf kd m k n).y + ((shOf kd m k n).x + (shOf kd m k n).y + (shOf kd m k n).z)) (hl : D.length = len) (hcap : len <= cap) (hlen : len = cnt * E) (hc1 : 1 <= cnt) (hc12 : cnt <= 12) (hu : inU64 D) (hu01 : ∀ u, u.length = E -> inU64 u -> inU64 (part0 (shOf kd m k n) u) /\ inU64 (part1 (shOf kd m k n) u))
  (hR : R.length <= 100) (hRm : ∀ x ∈ R, x.ts.length <= 1000) (hls : ls.length <= 900) (hops : ops.length <= 1000000) (hah : AhOk fl ah) (hok : ∀ x ∈ R, StkOk x.abs) (hlok : ∀ l ∈ ls, LsOk l) (w : World) (h : StoreOf w B F sv lv dv R ls ops fl ah kn) (hz : WordsAt w b off D) :
  Calls Tryz.prog 65 #[.pointer (some ⟨B, 0, none⟩), clsV kd m k n, .slice (some ⟨b, off, none⟩) len cap] w fun e w' =>
   (makeCode (R.map StkR.abs) kd m k n cnt ≠ 0 /\ e = .returned (.int .i64 (makeCode (R.map StkR.abs) kd m k n cnt)) /\ Ext w w') \/
   (makeCode (R.map StkR.abs) kd m k n cnt = 0 /\ FillSo kn fl ah R ls ops kd m k n (keptU (chunks D E cnt)) B F w w' e) := by
 obtain ⟨i0, hi, hz0, hz1, hz2⟩ := info_parts infoShares
 obtain ⟨hc, hs⟩ := shOf_of hcls
 have hle := Sh.le hs
 have HI : Hid (∀ w, Calls Tryz.prog 95 #[clsV kd m k n] w fun e w' => e = .returned (.bool true) /\ Ext w w') := fun w => by
  have := isClass_c kd m k n w
  rw [hcls] at this
  exact this
 have HDr : Hid _ := drawsOf_c hc hs
 rw [<- hE] at HDr
 have HM : Hid (∀ (off' cap' : Nat) (U : List Int), U.length = E -> E <= cap' -> ∀ w, WordsAt w b off' U -> _) := fun off' cap' U hU hcap' w hz => make_c hc hs b off' E cap' U hU hE hcap' w hz
 have hE1 : 5 <= E /\ E <= 45 := by omega
 have hz1' : 1 <= (shOf kd m k n).z := by
  have := Sh.le hs
  omega
 have hEq : ∀ u ∈ chunks D E cnt, u.length = (shOf kd m k n).x + (shOf kd m k n).y + ((shOf kd m k n).x + (shOf kd m k n).y + (shOf kd m k n).z) /\ inU64 u := fun u hu' => by
  obtain ⟨j, hj, rfl⟩ := List.mem_map.1 hu'
  exact ⟨(chunk_len (hl.trans hlen) (List.mem_range.1 hj)).trans hE, chunk_in hu E j⟩
 have HEq : Hid (∀ u ∈ chunks D E cnt, sh0 (shOf kd m k n) u = part0 (shOf kd m k n) u /\ sh1 (shOf kd m k n) u = part1 (shOf kd m k n) u) := fun u hu => ⟨sh0_draws (hEq u hu).1 hz1', sh1_draws (hEq u hu).1 hz1'⟩
 have HDo : Hid (∀ (w' : World) (gt tcap : Nat) (F' : Nat -> Prop), StoreOf w' B F' sv lv dv R ls ops fl ah kn -> TriRow w' F' gt (shOf kd m k n) (keptU (chunks D E cnt)) ->
   Calls Tryz.prog 98 #[.pointer (some ⟨B, 0, none⟩), .iface 174 (.agg #[.int .i64 (kd : Int), .int .i64 m, .int .i64 k, .int .i64 n, .slice (some ⟨gt, 0, none⟩) cnt tcap])] w' fun e w'' =>
   (makeCode (R.map StkR.abs) kd m k n cnt ≠ 0 /\ e = .returned (.int .i64 (makeCode (R.map StkR.abs) kd m k n cnt)) /\ Ext w' w'') \/
   (makeCode (R.map StkR.abs) kd m k n cnt = 0 /\ FillSo kn fl ah R ls ops kd m k n (keptU (chunks D E cnt)) B F' w' w'' e)) := fun w' gt tcap F' hst htr => by
  by_cases hcd : makeCode (R.map StkR.abs) kd m k n cnt = 0
  ·refine (doMaking_c kd m k n gt tcap cnt (keptU (chunks D E cnt)) (by simp [keptU, len_chunks]) (by omega) (by omega) ?_ hR hRm hls hops hah hok hlok hcd w' hst htr).mono fun e w'' h => .inr ⟨hcd, h⟩
   intro u hu'
   obtain ⟨v, hv, rfl⟩ := List.mem_map.1 hu'
   have h0 := hEq v hv
   have h1 := hu01 v (h0.1.trans hE.symm) h0.2
   exact okT_draws h0.1 hz1' h1.1 h1.2 true
  ·exact (doMakingNo_c kd m k n (some ⟨gt, 0, none⟩) cnt tcap (by omega) hR hRm hcd w' hst).mono fun e w'' h => .inl ⟨hcd, h⟩
 have H : Hid _ := h
 have HZ : Hid (WordsAt w b off D) := hz
 have HL : Hid (D.length = cnt * E) := hl.trans hlen
 have HB0 : Hid (b < w.heap.size) := lG w _ (hz 0 (by rw [hl, hlen]; have := Nat.mul_le_mul hc1 hE1.1; omega))
 have hlenb : len <= 540 := by rw [hlen]; exact Nat.le_trans (Nat.mul_le_mul hc12 hE1.2) (by omega)
 have hdiv : Int.tdiv (len : Int) (E : Int) = (cnt : Int) := by rw [hlen, Int.natCast_mul, Int.mul_tdiv_cancel _ (by omega)]
 have hmod : Int.tmod (len : Int) (E : Int) = 0 := by rw [hlen, Int.natCast_mul]; exact Int.mul_tmod_left _ _
 have hne : ¬ ((E : Int) = 0) := by omega
 have HLen : Hid (len = cnt * E /\ len <= cap) := ⟨hlen, hcap⟩
 unfold clsV at *
 clear hcls hc hs hE hle hRm hops h hz hu hu01 hl hlen hcap hah hok hlok hz1' hEq
 generalize hsL : (shOf kd m k n).x + (shOf kd m k n).y + (shOf kd m k n).z = L at *
 have HSL : Hid ((shOf kd m k n).x + (shOf kd m k n).y + (shOf kd m k n).z = L) := hsL
 clear hsL
 go_enter Tryz.func65, Tryz.ntmps65
 go_wp2_with fail
 refine (HI.out _).mono ?_; rintro e w1 ⟨rfl, hx1⟩
 obtain ⟨d0, d1, d2, d3⟩ := four_in hx1
 have hcb : w1.heap[w.heap.size]? = some (.cells #[.int .i64 (kd : Int), .int .i64 m, .int .i64 k, .int .i64 n] 49 (0, 0)) := hx1.block (heap_alloc_new w _)
 have HX1 : Hid (Ext w w1) := ((Ext.refl w).alloc _).trans hx1
 clear hx1
 go_wp2_with fail
 refine (HDr.out _).mono ?_; rintro e w2 ⟨rfl, hx2⟩
 have d0 := hx2.cell d0
 have d1 := hx2.cell d1
 have d2 := hx2.cell d2
 have d3 := hx2.cell d3
 have HX2 : Hid (Ext w w2) := HX1.out.trans hx2
 have hc0 := lG w2 _ d0
 have HCB : Hid (w2.heap[w.heap.size]? = some (.cells #[.int .i64 (kd : Int), .int .i64 m, .int .i64 k, .int .i64 n] 49 (0, 0))) := hx2.block hcb
 clear hx2 HX1 hcb
 go_wp2_with fail
 have hmv : (w2.alloc (.cells #[.int .i64 (kd : Int), .int .i64 m, .int .i64 k, .int .i64 n, .slice none 0 0] 174)).heap[w2.heap.size]? = some (.cells #[.int .i64 (kd : Int), .int .i64 m, .int .i64 k, .int .i64 n, .slice none 0 0] 174 (0, 0)) := heap_alloc_new w2 _
 have hXV : Ext w2 (w2.alloc (.cells #[.int .i64 (kd : Int), .int .i64 m, .int .i64 k, .int .i64 n, .slice none 0 0] 174)) := (Ext.refl w2).alloc _
 generalize World.alloc w2 _ = V at hmv hXV ⊢
 obtain ⟨mv, hmvE⟩ : ∃ mv, w2.heap.size = mv := ⟨_, rfl⟩
 rw [hmvE] at hmv
 have hmvw : w.heap.size <= mv := by rw [<- hmvE]; exact HX2.out.le
 have hccm : w.heap.size < mv := by rw [<- hmvE]; exact hc0
 have HXV : Hid (Ext w V) := HX2.out.trans hXV
 have HMV : Hid (V.heap[mv]? = some (.cells #[.int .i64 (kd : Int), .int .i64 m, .int .i64 k, .int .i64 n, .slice none 0 0] 174 (0, 0))) := hmv
 have hmvl : mv < V.heap.size := (Array.getElem?_eq_some_iff.1 hmv).1
 have HC : Hid (V.heap[w.heap.size]? = some (.cells #[.int .i64 (kd : Int), .int .i64 m, .int .i64 k, .int .i64 n] 49 (0, 0))) := hXV.block HCB.out
 simp only [hmvE]
 clear hXV hmv HX2 hmvE hdiv hmod hne hc0 d0 d1 d2 d3
 go_loopw [36] (fun i wr => ∃ (j : Nat) (tv : Value), j <= cnt /\ i = .int .i64 j /\ wr.heap[mv]? = some (.cells #[.int .i64 (kd : Int), .int .i64 m, .int .i64 k, .int .i64 n, tv] 174 (0, 0)) /\ TriSo wr w.heap.size tv j (shOf kd m k n) (chunks D E j) /\ Ext w wr /\ wr.heap[w.heap.size]? = some (.cells #[.int .i64 (kd : Int), .int .i64 m, .int .i64 k, .int .i64 n] 49 (0, 0))) (fun i _ => cnt - (intOf i).toNat)
 case atStart => exact ⟨0, .slice none 0 0, Nat.zero_le _, rfl, HMV.out, ⟨[], World.ownsRow_nil _ _ _ _, rfl, fun i hi => by simp [chunks] at hi⟩, HXV.out, HC.out⟩
 case round =>
  obtain ⟨j, tv, hj, rfl, hmvr, htso, hx, hcb⟩ := hrel
  have HCr : Hid (wr.heap[w.heap.size]? = some (.cells #[.int .i64 (kd : Int), .int .i64 m, .int .i64 k, .int .i64 n] 49 (0, 0))) := hcb
  have d0 : wr.cell? ⟨w.heap.size, 0, none⟩ = some (.int .i64 (kd : Int)) := cell_at hcb rfl
  have d1 : wr.cell? ⟨w.heap.size, 1, none⟩ = some (.int .i64 (m : Int)) := cell_at hcb rfl
  have d2 : wr.cell? ⟨w.heap.size, 2, none⟩ = some (.int .i64 (k : Int)) := cell_at hcb rfl
  have d3 : wr.cell? ⟨w.heap.size, 3, none⟩ = some (.int .i64 (n : Int)) := cell_at hcb rfl
  have HMR : Hid _ := hmvr
  have HTS : Hid (TriSo wr w.heap.size tv j (shOf kd m k n) (chunks D E j)) := htso
  have HX : Hid (Ext w wr) := hx
  clear hmvr htso hx hcb
  by_cases hlt : j < cnt
  -- ROUND
  ·skip
   have hju : j < (chunks D E cnt).length := by rw [len_chunks]; exact hlt
   obtain ⟨lo, hlo⟩ : ∃ lo, j * E = lo := ⟨_, rfl⟩
   obtain ⟨hi', hhi⟩ : ∃ hi', (j + 1) * E = hi' := ⟨_, rfl⟩
   have hlh : lo + E = hi' := by rw [<- hlo, <- hhi, Nat.add_mul, Nat.one_mul]
   have hhl : hi' <= len := by rw [<- hhi, HLen.out.1]; exact Nat.mul_le_mul_right E hlt
   have v1 : IntKind.i64.wrap ((j : Int) * (E : Int)) = (lo : Int) := by rw [<- Int.natCast_mul, hlo]; exact wrap_small (by omega)
   have v3 : IntKind.i64.wrap (((j : Int) + 1) * (E : Int)) = (hi' : Int) := by rw [show ((j : Int) + 1) * (E : Int) = (((j + 1) * E : Nat) : Int) by simp, hhi]; exact wrap_small (by omega)
   have v4 : IntKind.i64.wrap (IntKind.i64.wrap ((j : Int) + 1) * (E : Int)) = (hi' : Int) := by rw [show IntKind.i64.wrap ((j : Int) + 1) = (j : Int) + 1 by rw [IntKind.wrap_i64]; omega]; exact v3
   have tS : ∀ W, (Instr.slice 31 (.slice (some ⟨b, off, none⟩) len cap) (some (.int .i64 (lo : Int))) (some (.int .i64 (hi' : Int))) none).run Tryz.prog W = .ok (.slice (some ⟨b, off + lo, none⟩) E (cap - lo)) W := fun W => by
    rw [slice_lh b off len cap lo hi' (by omega) (by have := HLen.out.2; omega), show hi' - lo = E by omega]
   have HU : Hid ((chunk D E j).length = E /\ WordsAt wr b (off + lo) (chunk D E j) /\ E <= cap - lo) := by
    refine ⟨chunk_len HL.out hlt, ?_, by have := HLen.out.2; omega⟩
    have h1 := ((HZ.out.ext HX.out).drop lo).take E
    rw [<- hlo] at h1 ⊢
    exact h1
   obtain ⟨xs, htv, _, hxs⟩ := HTS.out
   obtain ⟨ta, tcp, htvE⟩ := owns_slice htv
   have HTV : Hid (wr.ownsRow w.heap.size 176 2 tv j xs) := htv
   have HXS : Hid _ := hxs
   have e4 : wr.cell? ⟨mv, 4, none⟩ = some tv := cell_at HMR.out rfl
   have hwl := HX.out.le
   have hmvr : mv < wr.heap.size := lG wr _ e4
   have HTM : Hid (tv.ownBlock ≠ some mv) := row_ne (B := mv) HMR.out htv (by decide)
   have HTW : Hid (tv.ownBlock ≠ some w.heap.size) := row_ne (B := w.heap.size) HCr.out htv (by decide)
   clear htv hxs hlo hhi
   subst htvE
   have SD : Hid (∀ W, Turn (fun q => lH (.slice ta j tcp) = some q) wr W -> (fun w' => w'.cell? ⟨w.heap.size, 0, none⟩ = some (.int .i64 (kd : Int)) /\ w'.cell? ⟨w.heap.size, 1, none⟩ = some (.int .i64 (m : Int)) /\ w'.cell? ⟨w.heap.size, 2, none⟩ = some (.int .i64 (k : Int)) /\ w'.cell? ⟨w.heap.size, 3, none⟩ = some (.int .i64 (n : Int))) W) := fun W hT => ⟨hT.cell d0 HTW.out, hT.cell d1 HTW.out, hT.cell d2 HTW.out, hT.cell d3 HTW.out⟩
   go_wp2_with fail
   refine wp_region_held_drew (S := (fun w' => w'.cell? ⟨w.heap.size, 0, none⟩ = some (.int .i64 (kd : Int)) /\ w'.cell? ⟨w.heap.size, 1, none⟩ = some (.int .i64 (m : Int)) /\ w'.cell? ⟨w.heap.size, 2, none⟩ = some (.int .i64 (k : Int)) /\ w'.cell? ⟨w.heap.size, 3, none⟩ = some (.int .i64 (n : Int)))) (by kernel_rfl) ⟨d0, d1, d2, d3⟩ (fun hHeld => ?_)
   refine zT 0 hHeld ?_
   refine zT 2 hHeld ?_
   refine zT 3 hHeld ?_
   refine zT 4 hHeld ?_
   refine zT 5 hHeld ?_
   refine zT 6 hHeld ?_
   refine zT 7 hHeld ?_
   refine zT 8 hHeld ?_
   refine zT 9 hHeld ?_
   refine zT 10 hHeld ?_
   refine zT 11 hHeld ?_
   refine wpAnyH_ready (rs := [1, 12]) (by kernel_rfl) (by simp) ?_
   refine AllReadyH.cons (o := _) rfl (fun K hK => ?_) (AllReadyH.cons (o := _) rfl (fun K hK => ?_) AllReadyH.nil)
   ·skip
    (try simp only [lA, lB, lC])
    go_simp
    refine hK.out _ _ ?ha1 (fun hHeld => ?_)
    case ha1 => exact SD.out _ (Turn.of_ext (Ext.drew (Ext.refl _)))
    clear hK K
    try simp only [Act.put, lA, lB, lC, lD, lE, lF]
    refine wpAnyH_ready (rs := [12]) (by kernel_rfl) (by simp) ?_
    refine AllReadyH.cons (o := _) rfl (fun K hK => ?_) AllReadyH.nil
    (try simp only [lA, lB, lC])
    go_simp
    refine (HM.out _ _ _ HU.out.1 HU.out.2.2 _ (HU.out.2.1.ext (Ext.drew (Ext.refl _)))).mono ?_
    rintro e w3 ⟨a0, c0, a1, c1, rfl, h0, h1, hx3⟩
    have hX3 : Ext wr w3 := (Ext.drew (Ext.refl wr)).trans hx3
    have HX3 : Hid (Ext wr w3) := hX3
    have HH : Hid _ := And.intro h0 h1
    have e4 := hX3.cell e4
    have hl3 := lG w3 _ e4
    have hw3 := hX3.le
    clear h0 h1 hx3
    refine hK.out _ _ ?hc1 (fun hHeld => ?_)
    case hc1 => exact SD.out _ (Turn.of_ext hX3)
    clear hK K hX3
    try simp only [Act.put, lA, lB, lC, lD, lE, lF]
    refine wpAnyH_ready (rs := [13]) (by kernel_rfl) (by simp) ?_
    refine AllReadyH.cons (o := _) rfl (fun K hK => ?_) AllReadyH.nil
    (try simp only [lA, lB, lC])
    go_simp
    refine hK.out _ _ ?hb1 (fun hHeld => ?_)
    case hb1 => exact SD.out _ (Turn.of_ext (Ext.alloc HX3.out _))
    clear hK K
    try simp only [Act.put, lA, lB, lC, lD, lE, lF]
    refine wpAnyH_ready (rs := [14]) (by kernel_rfl) (by simp) ?_
    refine AllReadyH.cons (o := _) rfl (fun K hK => ?_) AllReadyH.nil
    refine step_append_lies _ (by rfl) _ _ 172 (by rfl) w.heap.size 176 i0 _ 2 48 Tryz.underlying172 hi hz0 hz1 hz2 (by rfl) (by decide) (.slice ta j tcp) j xs (by rfl) (Ext.owns (Ext.alloc HX3.out _) HTV.out) ⟨_, 0, none⟩ 1 1 [.slice (some ⟨a0, 0, none⟩) L c0, .slice (some ⟨a1, 0, none⟩) L c1] (by rfl) (by rfl) (World.news_of_block (heap_alloc_new _ _)) (by simp [Value.oneCell']) (by decide) (by unfold maxLen; omega) (by omega) ?hbase1 _ rfl ?_
    case hbase1 => exact Nat.le_trans hwl (Ext.le (Ext.alloc HX3.out _))
    intro g cap3 w4 hown4 hgrow4 hat4 hlt4
    have ht4 : Turn (fun q => lH (.slice ta j tcp) = some q) wr w4 := Turn.grown (Turn.of_ext (Ext.alloc HX3.out _)) hgrow4 (fun q hq _ => hq)
    have HT4 : Hid (Turn (fun q => lH (.slice ta j tcp) = some q) wr w4) := ht4
    have hm4 : w4.heap[mv]? = some (.cells #[.int .i64 (kd : Int), .int .i64 m, .int .i64 k, .int .i64 n, .slice ta j tcp] 174 (0, 0)) := ht4.ref HMR.out HTM.out
    have HM4 : Hid (w4.heap[mv]? = some (.cells #[.int .i64 (kd : Int), .int .i64 m, .int .i64 k, .int .i64 n, .slice ta j tcp] 174 (0, 0))) := hm4
    have e4d : w4.cell? ⟨mv, 4, none⟩ = some (.slice ta j tcp) := cell_at hm4 rfl
    have f4d := frozen_row hm4 4
    have HOW : Hid (w4.ownsRow w.heap.size 176 2 (.slice (some ⟨g, 0, none⟩) (j + 1) cap3) (j + 1) (xs ++ [.slice (some ⟨a0, 0, none⟩) L c0, .slice (some ⟨a1, 0, none⟩) L c1])) := hown4
    have HGR : Hid _ := And.intro hgrow4 hat4
    refine hK.out _ _ ?hd1 (fun hHeld => ?_)
    case hd1 => exact SD.out _ ht4
    clear hK K hown4 hgrow4 hat4 ht4 hm4
    try simp only [Act.put, lA, lB, lC, lD, lE, lF]
    refine zT 15 hHeld ?_
    refine wpAnyH_ready (rs := [16]) (by kernel_rfl) (by simp) ?_
    refine AllReadyH.cons (o := _) rfl (fun K hK => ?_) AllReadyH.nil
    (try simp only [lA, lB, lC])
    go_simp
    refine hK.out _ _ ?he1 (fun hHeld => ?_)
    case he1 =>
     obtain ⟨s0, s1, s2, s3⟩ := SD.out _ HT4.out
     have hne : mv ≠ w.heap.size := by omega
     exact ⟨(World.cell?_setCell_far _ _ _ _ hne).trans s0, (World.cell?_setCell_far _ _ _ _ hne).trans s1, (World.cell?_setCell_far _ _ _ _ hne).trans s2, (World.cell?_setCell_far _ _ _ _ hne).trans s3⟩
    clear hK K
    try simp only [Act.put, lA, lB, lC, lD, lE, lF]
    refine wpAnyH_done (by kernel_rfl) ?_ _
    clear hHeld e4d f4d d0 d1 d2 d3 e4
    go_wp2
    go_roundw
    case rel =>
     have hT34 : Turn (fun q => lH (.slice ta j tcp) = some q) w3 w4 := Turn.grown (Turn.of_ext (Ext.alloc (Ext.refl w3) _)) HGR.out.1 (fun q hq _ => hq)
     obtain ⟨h0, h1⟩ := HH.out
     exact refill_round HX.out HMR.out HTV.out HXS.out HCr.out hmvw HSL.out HX3.out hT34 HT4.out HM4.out HOW.out h0 h1 HU.out.1 hlt
    case measure => simp [intOf]; omega
   ·skip
    (try simp only [lA, lB, lC])
    go_simp
    refine (HM.out _ _ _ HU.out.1 HU.out.2.2 _ (HU.out.2.1.ext (Ext.drew (Ext.refl _)))).mono ?_
    rintro e w3 ⟨a0, c0, a1, c1, rfl, h0, h1, hx3⟩
    have hX3 : Ext wr w3 := (Ext.drew (Ext.refl wr)).trans hx3
    have HX3 : Hid (Ext wr w3) := hX3
    have HH : Hid _ := And.intro h0 h1
    have e4 := hX3.cell e4
    have hl3 := lG w3 _ e4
    have hw3 := hX3.le
    clear h0 h1 hx3
    refine hK.out _ _ ?hc2 (fun hHeld => ?_)
    case hc2 => exact SD.out _ (Turn.of_ext hX3)
    clear hK K hX3
    try simp only [Act.put, lA, lB, lC, lD, lE, lF]
    refine wpAnyH_ready (rs := [1, 13]) (by kernel_rfl) (by simp) ?_
    refine AllReadyH.cons (o := _) rfl (fun K hK => ?_) (AllReadyH.cons (o := _) rfl (fun K hK => ?_) AllReadyH.nil)
    ·skip
     (try simp only [lA, lB, lC])
     go_simp
     refine hK.out _ _ ?ha2 (fun hHeld => ?_)
     case ha2 => exact SD.out _ (Turn.of_ext (HX3.out))
     clear hK K
     try simp only [Act.put, lA, lB, lC, lD, lE, lF]
     refine wpAnyH_ready (rs := [13]) (by kernel_rfl) (by simp) ?_
     refine AllReadyH.cons (o := _) rfl (fun K hK => ?_) AllReadyH.nil
     (try simp only [lA, lB, lC])
     go_simp
     refine hK.out _ _ ?hb2 (fun hHeld => ?_)
     case hb2 => exact SD.out _ (Turn.of_ext (Ext.alloc HX3.out _))
     clear hK K
     try simp only [Act.put, lA, lB, lC, lD, lE, lF]
     refine wpAnyH_ready (rs := [14]) (by kernel_rfl) (by simp) ?_
     refine AllReadyH.cons (o := _) rfl (fun K hK => ?_) AllReadyH.nil
     refine step_append_lies _ (by rfl) _ _ 172 (by rfl) w.heap.size 176 i0 _ 2 48 Tryz.underlying172 hi hz0 hz1 hz2 (by rfl) (by decide) (.slice ta j tcp) j xs (by rfl) (Ext.owns (Ext.alloc HX3.out _) HTV.out) ⟨_, 0, none⟩ 1 1 [.slice (some ⟨a0, 0, none⟩) L c0, .slice (some ⟨a1, 0, none⟩) L c1] (by rfl) (by rfl) (World.news_of_block (heap_alloc_new _ _)) (by simp [Value.oneCell']) (by decide) (by unfold maxLen; omega) (by omega) ?hbase2 _ rfl ?_
     case hbase2 => exact Nat.le_trans hwl (Ext.le (Ext.alloc HX3.out _))
     intro g cap3 w4 hown4 hgrow4 hat4 hlt4
     have ht4 : Turn (fun q => lH (.slice ta j tcp) = some q) wr w4 := Turn.grown (Turn.of_ext (Ext.alloc HX3.out _)) hgrow4 (fun q hq _ => hq)
     have HT4 : Hid (Turn (fun q => lH (.slice ta j tcp) = some q) wr w4) := ht4
     have hm4 : w4.heap[mv]? = some (.cells #[.int .i64 (kd : Int), .int .i64 m, .int .i64 k, .int .i64 n, .slice ta j tcp] 174 (0, 0)) := ht4.ref HMR.out HTM.out
     have HM4 : Hid (w4.heap[mv]? = some (.cells #[.int .i64 (kd : Int), .int .i64 m, .int .i64 k, .int .i64 n, .slice ta j tcp] 174 (0, 0))) := hm4
     have e4d : w4.cell? ⟨mv, 4, none⟩ = some (.slice ta j tcp) := cell_at hm4 rfl
     have f4d := frozen_row hm4 4
     have HOW : Hid (w4.ownsRow w.heap.size 176 2 (.slice (some ⟨g, 0, none⟩) (j + 1) cap3) (j + 1) (xs ++ [.slice (some ⟨a0, 0, none⟩) L c0, .slice (some ⟨a1, 0, none⟩) L c1])) := hown4
     have HGR : Hid _ := And.intro hgrow4 hat4
     refine hK.out _ _ ?hd2 (fun hHeld => ?_)
     case hd2 => exact SD.out _ ht4
     clear hK K hown4 hgrow4 hat4 ht4 hm4
     try simp only [Act.put, lA, lB, lC, lD, lE, lF]
     refine zT 15 hHeld ?_
     refine wpAnyH_ready (rs := [16]) (by kernel_rfl) (by simp) ?_
     refine AllReadyH.cons (o := _) rfl (fun K hK => ?_) AllReadyH.nil
     (try simp only [lA, lB, lC])
     go_simp
     refine hK.out _ _ ?he2 (fun hHeld => ?_)
     case he2 =>
      obtain ⟨s0, s1, s2, s3⟩ := SD.out _ HT4.out
      have hne : mv ≠ w.heap.size := by omega
      exact ⟨(World.cell?_setCell_far _ _ _ _ hne).trans s0, (World.cell?_setCell_far _ _ _ _ hne).trans s1, (World.cell?_setCell_far _ _ _ _ hne).trans s2, (World.cell?_setCell_far _ _ _ _ hne).trans s3⟩
     clear hK K
     try simp only [Act.put, lA, lB, lC, lD, lE, lF]
     refine wpAnyH_done (by kernel_rfl) ?_ _
     clear hHeld e4d f4d d0 d1 d2 d3 e4
     go_wp2
     go_roundw
     case rel =>
      have hT34 : Turn (fun q => lH (.slice ta j tcp) = some q) w3 w4 := Turn.grown (Turn.of_ext (Ext.alloc (Ext.refl w3) _)) HGR.out.1 (fun q hq _ => hq)
      obtain ⟨h0, h1⟩ := HH.out
      exact refill_round HX.out HMR.out HTV.out HXS.out HCr.out hmvw HSL.out HX3.out hT34 HT4.out HM4.out HOW.out h0 h1 HU.out.1 hlt
     case measure => simp [intOf]; omega
    ·skip
     (try simp only [lA, lB, lC])
     go_simp
     refine hK.out _ _ ?hb3 (fun hHeld => ?_)
     case hb3 => exact SD.out _ (Turn.of_ext (Ext.alloc HX3.out _))
     clear hK K
     try simp only [Act.put, lA, lB, lC, lD, lE, lF]
     refine wpAnyH_ready (rs := [1]) (by kernel_rfl) (by simp) ?_
     refine AllReadyH.cons (o := _) rfl (fun K hK => ?_) AllReadyH.nil
     (try simp only [lA, lB, lC])
     go_simp
     refine hK.out _ _ ?ha3 (fun hHeld => ?_)
     case ha3 => exact SD.out _ (Turn.of_ext (Ext.alloc HX3.out _))
     clear hK K
     try simp only [Act.put, lA, lB, lC, lD, lE, lF]
     refine wpAnyH_ready (rs := [14]) (by kernel_rfl) (by simp) ?_
     refine AllReadyH.cons (o := _) rfl (fun K hK => ?_) AllReadyH.nil
     refine step_append_lies _ (by rfl) _ _ 172 (by rfl) w.heap.size 176 i0 _ 2 48 Tryz.underlying172 hi hz0 hz1 hz2 (by rfl) (by decide) (.slice ta j tcp) j xs (by rfl) (Ext.owns (Ext.alloc HX3.out _) HTV.out) ⟨_, 0, none⟩ 1 1 [.slice (some ⟨a0, 0, none⟩) L c0, .slice (some ⟨a1, 0, none⟩) L c1] (by rfl) (by rfl) (World.news_of_block (heap_alloc_new _ _)) (by simp [Value.oneCell']) (by decide) (by unfold maxLen; omega) (by omega) ?hbase3 _ rfl ?_
     case hbase3 => exact Nat.le_trans hwl (Ext.le (Ext.alloc HX3.out _))
     intro g cap3 w4 hown4 hgrow4 hat4 hlt4
     have ht4 : Turn (fun q => lH (.slice ta j tcp) = some q) wr w4 := Turn.grown (Turn.of_ext (Ext.alloc HX3.out _)) hgrow4 (fun q hq _ => hq)
     have HT4 : Hid (Turn (fun q => lH (.slice ta j tcp) = some q) wr w4) := ht4
     have hm4 : w4.heap[mv]? = some (.cells #[.int .i64 (kd : Int), .int .i64 m, .int .i64 k, .int .i64 n, .slice ta j tcp] 174 (0, 0)) := ht4.ref HMR.out HTM.out
     have HM4 : Hid (w4.heap[mv]? = some (.cells #[.int .i64 (kd : Int), .int .i64 m, .int .i64 k, .int .i64 n, .slice ta j tcp] 174 (0, 0))) := hm4
     have e4d : w4.cell? ⟨mv, 4, none⟩ = some (.slice ta j tcp) := cell_at hm4 rfl
     have f4d := frozen_row hm4 4
     have HOW : Hid (w4.ownsRow w.heap.size 176 2 (.slice (some ⟨g, 0, none⟩) (j + 1) cap3) (j + 1) (xs ++ [.slice (some ⟨a0, 0, none⟩) L c0, .slice (some ⟨a1, 0, none⟩) L c1])) := hown4
     have HGR : Hid _ := And.intro hgrow4 hat4
     refine hK.out _ _ ?hd3 (fun hHeld => ?_)
     case hd3 => exact SD.out _ ht4
     clear hK K hown4 hgrow4 hat4 ht4 hm4
     try simp only [Act.put, lA, lB, lC, lD, lE, lF]
     refine zT 15 hHeld ?_
     refine wpAnyH_ready (rs := [16]) (by kernel_rfl) (by simp) ?_
     refine AllReadyH.cons (o := _) rfl (fun K hK => ?_) AllReadyH.nil
     (try simp only [lA, lB, lC])
     go_simp
     refine hK.out _ _ ?he3 (fun hHeld => ?_)
     case he3 =>
      obtain ⟨s0, s1, s2, s3⟩ := SD.out _ HT4.out
      have hne : mv ≠ w.heap.size := by omega
      exact ⟨(World.cell?_setCell_far _ _ _ _ hne).trans s0, (World.cell?_setCell_far _ _ _ _ hne).trans s1, (World.cell?_setCell_far _ _ _ _ hne).trans s2, (World.cell?_setCell_far _ _ _ _ hne).trans s3⟩
     clear hK K
     try simp only [Act.put, lA, lB, lC, lD, lE, lF]
     refine wpAnyH_done (by kernel_rfl) ?_ _
     clear hHeld e4d f4d d0 d1 d2 d3 e4
     go_wp2
     go_roundw
     case rel =>
      have hT34 : Turn (fun q => lH (.slice ta j tcp) = some q) w3 w4 := Turn.grown (Turn.of_ext (Ext.alloc (Ext.refl w3) _)) HGR.out.1 (fun q hq _ => hq)
      obtain ⟨h0, h1⟩ := HH.out
      exact refill_round HX.out HMR.out HTV.out HXS.out HCr.out hmvw HSL.out HX3.out hT34 HT4.out HM4.out HOW.out h0 h1 HU.out.1 hlt
     case measure => simp [intOf]; omega
  -- DONE
  ·obtain rfl : j = cnt := by omega
   obtain ⟨xs, htv, _, hxs⟩ := HTS.out
   obtain ⟨gt, tcap, rfl, _, _, _⟩ : ∃ gt tcap, tv = .slice (some ⟨gt, 0, none⟩) j tcap /\ w.heap.size <= gt /\ j <= tcap /\ tcap <= maxLen := by
    rcases owns_form htv with ⟨_, h, _⟩ | h
    ·omega
    ·exact h
   have HST : Hid (StoreOf wr B (grow F w wr) sv lv dv R ls ops fl ah kn) := (H.out.ext HX.out).mono (fun b hb => .inl hb) (fun b hb => by
    rcases hb with hb | hb
    ·exact Nat.lt_of_lt_of_le (H.out.lt b hb) HX.out.le
    ·exact hb.2)
   have HTR : Hid (TriRow wr (grow F w wr) gt (shOf kd m k n) (keptU (chunks D E j))) := by
    refine ⟨fun i hi => ?_, owns_block htv rfl⟩
    have hi2 : i < (chunks D E j).length := by simpa [keptU] using hi
    obtain ⟨a0, c0, a1, c1, k1, k2, k3, k4, k5, k6⟩ := hxs i hi2
    obtain ⟨q0, q1⟩ := HEq.out _ (List.getElem_mem hi2)
    have hku : (keptU (chunks D E j))[i] = ((chunks D E j)[i], true) := by simp [keptU]
    rw [hku]
    rw [HSL.out] at k1 k2
    refine .inl ⟨rfl, a0, c0, a1, c1, by rw [HSL.out]; exact owns_cell htv k1, by rw [HSL.out]; exact owns_cell htv k2, by show WordsU _ _ (sh0 _ _); rw [q0]; exact k3, by show WordsU _ _ (sh1 _ _); rw [q1]; exact k4, .inr ⟨k5, ?_⟩, .inr ⟨k6, ?_⟩⟩
    ·obtain ⟨cur, hc⟩ := k3.2
     exact (Array.getElem?_eq_some_iff.1 hc).1
    ·obtain ⟨cur, hc⟩ := k4.2
     exact (Array.getElem?_eq_some_iff.1 hc).1
   have m0 : wr.cell? ⟨mv, 0, none⟩ = some (.int .i64 (kd : Int)) := cell_at HMR.out rfl
   have m1 : wr.cell? ⟨mv, 1, none⟩ = some (.int .i64 (m : Int)) := cell_at HMR.out rfl
   have m2 : wr.cell? ⟨mv, 2, none⟩ = some (.int .i64 (k : Int)) := cell_at HMR.out rfl
   have m3 : wr.cell? ⟨mv, 3, none⟩ = some (.int .i64 (n : Int)) := cell_at HMR.out rfl
   have m4 : wr.cell? ⟨mv, 4, none⟩ = some (.slice (some ⟨gt, 0, none⟩) j tcap) := cell_at HMR.out rfl
   clear htv hxs HTS d0 d1 d2 d3
   go_wp2_with fail
   refine (HDo.out wr gt tcap _ HST.out HTR.out).mono ?_
   rintro e w5 hpost
   have HPo : Hid _ := hpost
   clear hpost
   obtain ⟨cd, hcd⟩ : ∃ cd, e = .returned (.int .i64 cd) := by
    rcases HPo.out with ⟨_, h, _⟩ | ⟨_, h, _⟩
    ·exact ⟨_, h⟩
    ·exact ⟨_, h⟩
   subst hcd
   go_wp2
   go_ret
   rcases HPo.out with ⟨h1, h2, h3⟩ | ⟨h1, h2, R', h3, h4⟩
   ·exact .inl ⟨h1, h2, HX.out.trans h3⟩
   ·exact .inr ⟨h1, h2, R', h3.lift HX.out H.out.lt, h4⟩
end
end
-- GTo
section
set_option maxRecDepth 100000
set_option maxHeartbeats 1600000
open Go.RowKit Go.Maps
def replyV (c f n : Int) (v : Value) : Value := .agg #[.int .i64 c, .int .i64 f, .int .i64 n, v]
theorem set4 {w1 w2 : World} {g : Nat} (hx : Ext w1 w2) (a b c d : Value) : Turn (fun q => q = g) w1 (World.drew ((((w2.setCell ⟨g, 0, none⟩ a).setCell ⟨g, 1, none⟩ b).setCell ⟨g, 2, none⟩ c).setCell ⟨g, 3, none⟩ d)) :=
 Turn.drew (Turn.setCell (S := fun q => q = g) (p := ⟨g, 3, none⟩) (Turn.setCell (S := fun q => q = g) (p := ⟨g, 2, none⟩) (Turn.setCell (S := fun q => q = g) (p := ⟨g, 1, none⟩) (Turn.setCell (S := fun q => q = g) (p := ⟨g, 0, none⟩) (Turn.of_ext hx) (fun _ => rfl) a) (fun _ => rfl) b) (fun _ => rfl) c) (fun _ => rfl) d)
theorem set4' {w1 w2 : World} {g : Nat} (hx : Ext w1 w2) (a b c d : Value) : Turn (fun q => q = g) w1 ((((w2.setCell ⟨g, 0, none⟩ a).setCell ⟨g, 1, none⟩ b).setCell ⟨g, 2, none⟩ c).setCell ⟨g, 3, none⟩ d) :=
 Turn.setCell (S := fun q => q = g) (p := ⟨g, 3, none⟩) (Turn.setCell (S := fun q => q = g) (p := ⟨g, 2, none⟩) (Turn.setCell (S := fun q => q = g) (p := ⟨g, 1, none⟩) (Turn.setCell (S := fun q => q = g) (p := ⟨g, 0, none⟩) (Turn.of_ext hx) (fun _ => rfl) a) (fun _ => rfl) b) (fun _ => rfl) c) (fun _ => rfl) d
theorem ext4 {w w1 : World} {g : Nat} (h : Ext w w1) (hg : w.heap.size <= g) (a b c d : Value) : Ext w ((((w1.setCell ⟨g, 0, none⟩ a).setCell ⟨g, 1, none⟩ b).setCell ⟨g, 2, none⟩ c).setCell ⟨g, 3, none⟩ d) :=
 Ext.setCell (Ext.setCell (Ext.setCell (Ext.setCell h hg _) hg _) hg _) hg _
section
variable {B : Nat} {F : Nat -> Prop} {sv lv dv : Value} {R : List StkR} {ls : List LsV} {ops : List OpV} {fl : Bool} {ah : Int} {kn : Bool}
theorem DoPost.step {w w1 w2 w3 : World} {g : Nat} {R' : List StkR} {ls' : List LsV} {ops' : List OpV} {fl' : Bool} {ah' : Int} {kn' : Bool} (h : DoPost w1 w2 B F R' ls' ops' fl' ah' kn') (hx : Ext w w1) (ht : Turn (fun q => q = g) w2 w3) (hF : ∀ b, F b -> b < w.heap.size) (hg0 : w.heap.size <= g) (hg1 : g < w1.heap.size) : DoPost w w3 B F R' ls' ops' fl' ah' kn' := by
 obtain ⟨sv', lv', dv', h1, h3⟩ := h
 have e1 := hx.le
 have e2 := h3.size
 have e3 := ht.size
 refine ⟨sv', lv', dv', (h1.turn ht (fun b hb e => ?_)).mono (fun b hb => ?_) (fun b hb => ?_), ((Turn.of_ext hx).trans h3).trans' ht (fun b hb e => ?_)⟩
 ·rcases hb with hb | hb
  ·have := hF b hb
   omega
  ·omega
 ·rcases hb with hb | hb
  ·exact .inl hb
  ·exact .inr ⟨by omega, by omega⟩
 ·rcases hb with hb | hb
  ·have := hF b hb
   omega
  ·exact hb.2
 ·omega
theorem doToLeaseNo_c {Q : World -> World -> Prop} (hQt : ∀ w1 w2, Q w1 w2 -> Turn F w1 w2) (hQs : ∀ w w1 w2 w3 g, (∀ b, F b -> b < w.heap.size) -> Ext w w1 -> Q w1 w2 -> Turn (fun q => q = g) w2 w3 -> w.heap.size <= g -> g < w1.heap.size -> Q w w3) (cv : Value) (_hcv : cv.oneCell' = true) (cd ss ii : Int) (hcd : cd ≠ 0) (w : World) (hF : ∀ b, F b -> b < w.heap.size) (hdo : ∀ w', Ext w w' -> Calls Tryz.prog 98 #[.pointer (some ⟨B, 0, none⟩), cv] w' fun e w'' => e = .returned (.int .i64 cd) /\ Q w' w'') :
  Calls Tryz.prog 167 #[.pointer (some ⟨B, 0, none⟩), cv, .int .i64 ss, .int .i64 ii] w fun e w' => e = .returned (replyV cd 0 0 (.slice none 0 0)) /\ Q w w' := by
 have HDo : Hid (∀ w', Ext w w' -> _) := hdo
 have HF : Hid (∀ b, F b -> b < w.heap.size) := hF
 have HQ : Hid _ := And.intro hQt hQs
 clear hdo hF hQt hQs
 unfold replyV
 go_enter Tryz.func167, Tryz.ntmps167
 go_wp2_with fail
 refine (HDo.out _ ((Ext.refl w).alloc _)).mono ?_
 rintro e w1 ⟨rfl, hq1⟩
 have hT := HQ.out.1 _ _ hq1
 have hr2 : w1.heap[w.heap.size]? = some (.cells #[.int .i64 0, .int .i64 0, .int .i64 0, .slice none 0 0] 33 (0, 0)) := hT.ref (heap_alloc_new _ _) (fun e => by
  have := HF.out _ e
  omega)
 have o0 := cell_at hr2 (i := 0) rfl
 have o1 := cell_at hr2 (i := 1) rfl
 have o2 := cell_at hr2 (i := 2) rfl
 have o3 := cell_at hr2 (i := 3) rfl
 have f0 := frozen_row hr2 0
 have f1 := frozen_row hr2 1
 have f2 := frozen_row hr2 2
 have f3 := frozen_row hr2 3
 have HQ1 : Hid _ := hq1
 clear hq1 hr2 hT
 go_wp2
 refine bodyPost_ret (v := .agg #[.int .i64 cd, .int .i64 0, .int .i64 0, .slice none 0 0]) (by simp [results, Tryz.results167, go_sem, o0, o1, o2, o3]) rfl ⟨rfl, ?_⟩
 exact HQ.out.2 _ _ _ _ _ HF.out ((Ext.refl w).alloc _) HQ1.out (set4' (Ext.refl _) _ _ _ _) (Nat.le_refl _) (by simp)
theorem doToLeaseYes_c (cv : Value) (_hcv : cv.oneCell' = true) (ss ii : Int) (R' : List StkR) (ls' : List LsV) (ix : Nat) (hix : ix < ls'.length) (hn : ls'.findIdx? (isNamed ss ii) = some ix) (hls : ls'.length <= 1000) (w : World) {ops' : List OpV} {fl' : Bool} {ah' : Int} {kn' : Bool} (h : StoreOf w B F sv lv dv R ls ops fl ah kn)
  (hdo : ∀ w', Ext w w' -> Calls Tryz.prog 98 #[.pointer (some ⟨B, 0, none⟩), cv] w' fun e w'' => e = .returned (.int .i64 0) /\ DoPost w' w'' B F R' ls' ops' fl' ah' kn') :
  Calls Tryz.prog 167 #[.pointer (some ⟨B, 0, none⟩), cv, .int .i64 ss, .int .i64 ii] w fun e w' => e = .returned (replyV 0 ls'[ix].f ls'[ix].c (.slice none 0 0)) /\ DoPost w w' B F R' ls' ops' fl' ah' kn' := by
 have HDo : Hid (∀ w', Ext w w' -> _) := hdo
 have HF : Hid (∀ b, F b -> b < w.heap.size) := h.lt
 have hB := h.deal.lt
 have HN : Hid (ls'.findIdx? (isNamed ss ii) = some ix) := hn
 clear hdo h hn
 unfold replyV
 go_enter Tryz.func167, Tryz.ntmps167
 go_wp2_with fail
 refine (HDo.out _ ((Ext.refl w).alloc _)).mono ?_
 rintro e w1 ⟨rfl, hpo⟩
 have HPo : Hid _ := hpo
 obtain ⟨sv', lv', dv', hS, hT⟩ := hpo
 have hres : w1.heap[w.heap.size]? = some (.cells #[.int .i64 0, .int .i64 0, .int .i64 0, .slice none 0 0] 33 (0, 0)) := hT.ref (heap_alloc_new _ _) (fun e => by
  have := HF.out _ e
  omega)
 obtain ⟨la, lcap, hlv⟩ := owns_slice hS.lrow
 have HNm : Hid (∀ w', Ext w1 w' -> Calls Tryz.prog 165 #[.pointer (some ⟨B, 0, none⟩), .int .i64 ss, .int .i64 ii] w' fun e w'' => e = .returned (ptrAt lv' (some ix)) /\ Ext w' w'') := fun w' hx => by
  have := named_c B ls' ss ii sv' lv' dv' fl' ah' kn' w' (hS.deal.ext hx) (hS.lrow.ext hx) hls
  rwa [HN.out] at this
 obtain ⟨g, cap, rfl, _⟩ : ∃ g cap, lv' = .slice (some ⟨g, 0, none⟩) ls'.length cap /\ True := by
  rcases LeasesAt.form hS.lrow with ⟨_, e⟩ | ⟨g, cap, e, _⟩
  ·rw [e] at hix; simp at hix
  ·exact ⟨g, cap, e, trivial⟩
 obtain ⟨_, _, _, _, _, _, l6, l7, _⟩ := LeasesAt.cells hS.lrow ix hix
 have hgw : w.heap.size ≠ g := fun e => by
  obtain ⟨cur, hc⟩ := owns_block hS.lrow (g := g) rfl
  exact type_ne hres hc (by decide) e
 have hgl := lG w1 _ l6
 have HRes : Hid _ := hres
 clear hS hT hres hlv
 unfold ptrAt at HNm
 go_wp2_with fail
 refine (HNm.out _ (Ext.refl _)).mono ?_
 rintro e w2 ⟨rfl, hx2⟩
 have l6 := hx2.cell l6
 have l7 := hx2.cell l7
 have hr2 := hx2.block HRes.out
 have o0 := cell_at hr2 (i := 0) rfl
 have o1 := cell_at hr2 (i := 1) rfl
 have o2 := cell_at hr2 (i := 2) rfl
 have o3 := cell_at hr2 (i := 3) rfl
 have f0 := frozen_row hr2 0
 have f1 := frozen_row hr2 1
 have f2 := frozen_row hr2 2
 have f3 := frozen_row hr2 3
 have HX2 : Hid (Ext w1 w2) := hx2
 have hgl2 := lG w2 _ l6
 clear hx2 hr2
 obtain ⟨lf, hlf⟩ : ∃ lf, ls'[ix].f = lf := ⟨_, rfl⟩
 obtain ⟨lc, hlc⟩ : ∃ lc, ls'[ix].c = lc := ⟨_, rfl⟩
 have HLF : Hid (ls'[ix].f = lf /\ ls'[ix].c = lc) := ⟨hlf, hlc⟩
 rw [hlf] at l6
 rw [hlc] at l7
 clear hlf hlc
 go_wp2
 go_region
 all_goals go_wp2
 all_goals refine bodyPost_ret (v := .agg #[.int .i64 0, .int .i64 lf, .int .i64 lc, .slice none 0 0]) (by simp [results, Tryz.results167, go_sem, o0, o1, o2, o3]) rfl ⟨by rw [HLF.out.1, HLF.out.2], ?_⟩
 all_goals exact DoPost.step HPo.out ((Ext.refl w).alloc _) (set4 HX2.out _ _ _ _) HF.out (Nat.le_refl _) (by simp)
end
end
end Go.Proofs.YtmnjhhachdlmkaaGreat
