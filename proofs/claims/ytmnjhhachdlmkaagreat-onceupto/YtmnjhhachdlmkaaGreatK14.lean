import Derived.Test.YtmnjhhachdlmkaaGreatK13
namespace Go.Proofs.YtmnjhhachdlmkaaGreat
set_option linter.unusedVariables false
set_option linter.unusedSimpArgs false
open World renaming block_lt_of_cell? -> lG
open Value renaming ownBlock -> lH
-- GCd
section
set_option maxRecDepth 100000
set_option maxHeartbeats 3200000
open Go.RowKit Go.Maps
section
variable {B : Nat} {F : Nat -> Prop} {sv lv dv : Value} {R : List StkR} {ls : List LsV} {ops : List OpV} {fl : Bool} {ah : Int} {kn : Bool}
theorem StoreOf.addCopy {w w3 : World} {gs cs : Nat} {x : StkR} (h : StoreOf w B F sv lv dv R ls ops fl ah kn)
  (ht : Turn (fun b => b = B \/ sv.ownBlock = some b) w w3) (hd : DealAt w3 B (.slice (some ⟨gs, 0, none⟩) (R.length + 1) cs) lv dv fl ah kn)
  (hs : w3.ownsRow 0 151 1 (.slice (some ⟨gs, 0, none⟩) (R.length + 1) cs) (R.length + 1) (stkPtrs R ++ [.pointer (some ⟨x.blk, 0, none⟩)]))
  (hx : StkAt w3 (grow F w w3) x) (hgk : w.heap.size <= x.blk) (hmb : w.heap.size <= x.mb) (hgs : sv.ownBlock = some gs \/ w.heap.size <= gs) :
  StoreOf w3 B (grow F w w3) (.slice (some ⟨gs, 0, none⟩) (R.length + 1) cs) lv dv (R ++ [x]) ls ops fl ah kn := by
 have hfar : ∀ b cur t, w.heap[b]? = some (.cells cur t (0, 0)) -> t ≠ 114 /\ t ≠ 112 -> t ≠ 151 -> ¬ (b = B \/ sv.ownBlock = some b) := fun b cur t hc h1 h2 hor => by
  rcases hor with e | e
  ·exact h.deal.tne hc h1 e
  ·obtain ⟨cur', hc'⟩ := owns_block h.srow e
   exact type_ne hc hc' h2 rfl
 have hfm : ∀ b D n, w.ownsMap Tryz.prog 3 heldElem b n D -> ¬ (b = B \/ sv.ownBlock = some b) := fun b D n hc hor => by
  rcases hor with e | e
  ·exact h.deal.mne hc e.symm
  ·obtain ⟨cur', hc'⟩ := owns_block h.srow e
   exact map_ne hc' hc rfl
 have hg : ∀ b, F b -> grow F w w3 b := fun b hb => .inl hb
 have ltn : ∀ {b : Nat} {o : Obj}, w3.heap[b]? = some o -> b < w3.heap.size := fun hb => (Array.getElem?_eq_some_iff.1 hb).1
 have old : ∀ x ∈ R, x.blk < w.heap.size /\ x.mb < w.heap.size := fun x hx => ⟨h.lt _ (h.stk x hx).fb, h.lt _ (h.stk x hx).fm⟩
 refine ⟨hd, ?_, ht.owns h.lrow (fun q hq => let ⟨cur, hc⟩ := owns_block h.lrow hq; hfar q cur _ hc (by decide) (by decide)), ht.owns h.orow (fun q hq => let ⟨cur, hc⟩ := owns_block h.orow hq; hfar q cur _ hc (by decide) (by decide)), ?_, ?_, ?_, .inl h.fB, ?_, fun q hq => .inl (h.fl' q hq), fun q hq => .inl (h.fd q hq), ?_, h.lnil, h.dnil⟩
 ·have e : stkPtrs (R ++ [x]) = stkPtrs R ++ [.pointer (some ⟨x.blk, 0, none⟩)] := by simp [stkPtrs]
  rw [e, List.length_append]
  exact hs
 ·intro y hy
  rcases List.mem_append.1 hy with hy | hy
  ·have hyk := h.stk y hy
   obtain ⟨D, hD, _⟩ := hyk.map
   exact (hyk.turn' ht (hfar _ _ _ hyk.blk (by decide) (by decide)) (hfm _ _ _ hD) (fun b cur hc => hfar b cur _ hc (by decide) (by decide))).mono hg
  ·rw [List.mem_singleton.1 hy]
   exact hx
 ·rw [List.map_append, List.nodup_append]
  refine ⟨h.nb, by simp, ?_⟩
  intro a ha b hb
  obtain ⟨x, hx, rfl⟩ := List.mem_map.1 ha
  simp at hb
  have := (old x hx).1
  omega
 ·rw [List.map_append, List.nodup_append]
  refine ⟨h.nm, by simp, ?_⟩
  intro a ha b hb
  obtain ⟨x, hx, rfl⟩ := List.mem_map.1 ha
  simp at hb
  have := (old x hx).2
  omega
 ·intro q hq
  simp [lH] at hq
  subst hq
  rcases hgs with e | e
  ·exact .inl (h.fs _ e)
  ·exact .inr ⟨e, by obtain ⟨cur, hc⟩ := owns_block hs (g := gs) rfl; exact ltn hc⟩
 ·intro b hb
  rcases hb with hb | hb
  ·exact Nat.lt_of_lt_of_le (h.lt b hb) ht.size
  ·exact hb.2
structure CopyAt (w wr : World) (NB : Nat) (F : Nat -> Prop) (lv : Value) (ls : List LsV) (R : List StkR) (sv1 : Value) (R1 : List StkR) : Prop where
 st : StoreOf wr NB (grow F w wr) sv1 lv (.slice none 0 0) R1 ls [] false 0 false
 abs : R1.map StkR.abs = R.map StkR.abs
 new : ∀ x ∈ R1, w.heap.size <= x.blk /\ w.heap.size <= x.mb
 sv : ∀ q, sv1.ownBlock = some q -> w.heap.size <= q
 ext : Ext w wr
def forgetL (S : List Stk) (l : LsV) : List Stk := match S.findIdx? (fun x => x.is l.kd l.m l.k l.n) with
 | some ix => S.modify ix (fun x => x.forget l.f.toNat l.c.toNat)
 | none => S
def compactS (S : List Stk) (ls : List LsV) : List Stk := ls.foldl (fun S l => if l.r = true then forgetL S l else S) S
theorem compactS_snoc (S : List Stk) (ls : List LsV) (l : LsV) : compactS S (ls ++ [l]) = if l.r = true then forgetL (compactS S ls) l else compactS S ls := by simp [compactS]
theorem forgetL_len (S : List Stk) (l : LsV) : (forgetL S l).length = S.length := by
 unfold forgetL
 split <;> simp
theorem compactS_len (S : List Stk) (ls : List LsV) : (compactS S ls).length = S.length := by
 induction ls generalizing S with
 | nil => rfl
 | cons l t ih =>
  show (compactS (if l.r = true then forgetL S l else S) t).length = _
  rw [ih]
  split
  ·exact forgetL_len _ _
  ·rfl
theorem any_set {α : Type} {p : α -> Bool} {l : List α} {i : Nat} (hi : i < l.length) {y : α} (h : p y = p l[i]) : (l.set i y).any p = l.any p := by
 have e : ∀ l : List α, l.any p = (l.map p).any id := fun l => by rw [List.any_map]; rfl
 rw [e, e l, List.map_set, h]
 congr 1
 apply List.ext_getElem (by simp)
 intro j a b
 rw [List.getElem_set]
 split
 ·rename_i e; subst e; simp
 ·rfl
theorem any_forget (S : List Stk) (l : LsV) (kd m k n : Int) : (forgetL S l).any (fun x => x.is kd m k n) = S.any (fun x => x.is kd m k n) := by
 unfold forgetL
 split
 ·rename_i ix hix
  obtain ⟨hi, _⟩ := find_idx hix
  rw [modify_set _ _ hi]
  exact any_set hi rfl
 ·rfl
theorem any_compact (S : List Stk) (ls : List LsV) (kd m k n : Int) : (compactS S ls).any (fun x => x.is kd m k n) = S.any (fun x => x.is kd m k n) := by
 induction ls generalizing S with
 | nil => rfl
 | cons l t ih =>
  show (compactS (if l.r = true then forgetL S l else S) t).any _ = _
  rw [ih]
  split
  ·exact any_forget _ _ _ _ _ _
  ·rfl
structure CompAt (w wr : World) (NB : Nat) (F : Nat -> Prop) (lv : Value) (ls : List LsV) (S : List Stk) (sv1 : Value) (R1 : List StkR) : Prop where
 st : StoreOf wr NB (grow F w wr) sv1 lv (.slice none 0 0) R1 ls [] false 0 false
 abs : R1.map StkR.abs = S
 new : ∀ x ∈ R1, w.heap.size <= x.blk /\ w.heap.size <= x.mb
 sv : ∀ q, sv1.ownBlock = some q -> w.heap.size <= q
 ext : Ext w wr
 nb : w.heap.size <= NB
theorem CompAt.alloc {w wr : World} {NB : Nat} {lv1 sv1 : Value} {S : List Stk} {R1 : List StkR} (h : CompAt w wr NB F lv1 ls S sv1 R1) (o : Obj) : CompAt w (wr.alloc o) NB F lv1 ls S sv1 R1 where
 st := (h.st.ext ((Ext.refl wr).alloc o)).mono (fun b hb => hb.imp id (fun h => ⟨h.1, by simp; omega⟩)) (fun b hb => by
  rcases hb with hb | hb
  ·have := h.st.lt b (.inl hb)
   simp; omega
  ·exact hb.2)
 abs := h.abs
 new := h.new
 sv := h.sv
 ext := h.ext.alloc o
 nb := h.nb
theorem CompAt.more {w wr w' : World} {NB : Nat} {lv1 sv1 : Value} {S : List Stk} {R1 : List StkR} (h : CompAt w wr NB F lv1 ls S sv1 R1) (hx : Ext wr w') : CompAt w w' NB F lv1 ls S sv1 R1 where
 st := (h.st.ext hx).mono (fun b hb => hb.imp id (fun h => ⟨h.1, Nat.lt_of_lt_of_le h.2 hx.le⟩)) (fun b hb => by
  rcases hb with hb | hb
  ·exact Nat.lt_of_lt_of_le (h.st.lt b (.inl hb)) hx.le
  ·exact hb.2)
 abs := h.abs
 new := h.new
 sv := h.sv
 ext := h.ext.trans hx
 nb := h.nb
theorem CompAt.forget {w wr : World} {NB : Nat} {lv1 sv1 : Value} {R1 R0 : List StkR} {t : List LsV} (h : CompAt w wr NB F lv1 ls (compactS (R0.map StkR.abs) t) sv1 R1) (l : LsV) (b0 : 0 <= l.f) (b1 : l.f <= 1000) (b2 : 0 <= l.c) (b3 : l.c <= 1000) (b4 : (R1.map StkR.abs).any (fun x => x.is l.kd l.m l.k l.n) = true) (hR1 : R1.length <= 100) (w' : World) (hx : Ext wr w') :
  Calls Tryz.prog 164 #[.pointer (some ⟨NB, 0, none⟩), .agg #[.int .i64 l.s, .int .i64 l.i, .int .i64 l.kd, .int .i64 l.m, .int .i64 l.k, .int .i64 l.n, .int .i64 l.f, .int .i64 l.c, .bool true]] w' fun e w'' => e = .returned (.tuple #[]) /\ ∃ R3, CompAt w w'' NB F lv1 ls (forgetL (compactS (R0.map StkR.abs) t) l) sv1 R3 := by
 have h' := h.more hx
 obtain ⟨f, hf⟩ := Int.eq_ofNat_of_zero_le b0
 obtain ⟨c, hc⟩ := Int.eq_ofNat_of_zero_le b2
 rw [hf, hc]
 cases hix : R1.findIdx? (fun x => x.is l.kd l.m l.k l.n) with
 | none =>
  rw [<- idx_abs] at hix
  have h1 := List.findIdx?_eq_none_iff.1 hix
  obtain ⟨x, hxm, hxp⟩ := List.any_eq_true.1 b4
  rw [h1 x hxm] at hxp
  cases hxp
 | some ix =>
  obtain ⟨hi, hfi⟩ := find_idx hix
  refine (forget_c l.s l.i l.kd l.m l.k l.n f c true ix (by omega) (by omega) hR1 hi hfi w' h'.st).mono ?_
  rintro e w'' ⟨he, hst, ht⟩
  have hn := h'.new R1[ix] (List.getElem_mem hi)
  have hs := ht.size
  refine ⟨he, _, ⟨hst.mono (fun b hb => hb.imp id (fun h => ⟨h.1, by omega⟩)) (fun b hb => ?_), ?_, fun y hy => ?_, h'.sv, ?_, h'.nb⟩⟩
  ·rcases hb with hb | hb
   ·exact hst.lt b (.inl hb)
   ·exact hb.2
  ·rw [<- h.abs]
   unfold forgetL
   rw [idx_abs, hix]
   simp only
   rw [modify_set _ _ (by simpa using hi), List.map_set, hf, hc]
   congr 1
   simp
   rfl
  ·rcases List.mem_or_eq_of_mem_set hy with hy | rfl
   ·exact h'.new y hy
   ·exact hn
  ·exact Turn.ext ((Turn.of_ext (S := fun _ => False) h'.ext).trans' ht (fun b hb e => by omega))
theorem copy_step {w wr V w4 : World} {NB j rl g1 cap1 ob mb clock s1c : Nat} {s1a : Option Addr} {es : Array MapEntry} {R R1 : List StkR} {X : StkR} {D : DataW Value} {lv1 : Value} (hc : CopyAt w wr NB F lv1 ls (R.take j) (.slice s1a rl s1c) R1) (hj : j < R.length) (hX : R[j] = X) (hrl : R1.length = rl)
  (hV0 : V.heap[ob]? = some (.cells #[.int .i64 (X.kd : Int), .int .i64 (X.m : Int), .int .i64 (X.k : Int), .int .i64 (X.n : Int), .int .i64 (X.ts.length : Int), .int .i64 (X.leased : Int), .map (some X.mb)] 154 (0, 0))) (hV1 : V.heap[mb]? = some (.map es clock)) (hXV : Ext wr V)
  (hfit : WideElems.Fit Tryz.prog 3 heldElem es clock /\ es.size <= X.ts.length /\ D = .map (List.foldr DataW.insert [] (List.map (WideElems.rg Tryz.prog 3 heldElem) es.toList))) (hK : Kept wr F X.sh X.ts D) (hob : wr.heap.size = ob /\ wr.heap.size + 1 = mb) (hNBw : w.heap.size <= NB)
  (hown : w4.ownsRow 0 151 1 (.slice (some ⟨g1, 0, none⟩) (rl + 1) cap1) (rl + 1) (stkPtrs R1 ++ [.pointer (some ⟨ob, 0, none⟩)]))
  (hgrow : ((V.setCell ⟨ob, 6, none⟩ (.map (some mb))).alloc (.cells #[.pointer (some ⟨ob, 0, none⟩)] 151)).grownBy w4 (lH (.slice s1a rl s1c))) (hat : lH (.slice s1a rl s1c) = some g1 \/ g1 = V.heap.size + 1) :
  DealAt w4 NB (.slice s1a rl s1c) lv1 (.slice none 0 0) false 0 false /\ CopyAt w (w4.setCell ⟨NB, 0, none⟩ (.slice (some ⟨g1, 0, none⟩) (rl + 1) cap1)) NB F lv1 ls (R.take (j + 1)) (.slice (some ⟨g1, 0, none⟩) (rl + 1) cap1) (R1 ++ [{ X with blk := ob, mb := mb }]) := by
 subst hrl
 have hst := hc.st
 have hNB := hst.deal.lt
 have hsz : V.heap.size = (V.setCell ⟨ob, 6, none⟩ (.map (some mb))).heap.size := by simp [World.setCell]
 have hle := hXV.le
 have hT1 : Turn (fun b => b = ob) V (V.setCell ⟨ob, 6, none⟩ (.map (some mb))) := Turn.setCell (S := fun b => b = ob) (p := ⟨ob, 6, none⟩) (Turn.refl _ V) (fun _ => rfl) _
 have hT2 : Turn (fun b => b = NB \/ lH (.slice s1a R1.length s1c) = some b) wr w4 :=
  Turn.grown (((Turn.of_ext (S := fun b => b = NB \/ lH (.slice s1a R1.length s1c) = some b) hXV).trans' hT1 (fun b hb e => by omega)).alloc _) hgrow (fun q hq _ => .inr hq)
 have hsv := hst.srow
 have hnsv : ∀ b, wr.heap.size <= b -> ¬ lH (.slice s1a R1.length s1c) = some b := fun b hb e => by
  have := owns_lt hsv e
  omega
 have hD4 : DealAt w4 NB (.slice s1a R1.length s1c) lv1 (.slice none 0 0) false 0 false := by
  have h1 : DealAt (V.setCell ⟨ob, 6, none⟩ (.map (some mb))) NB (.slice s1a R1.length s1c) lv1 (.slice none 0 0) false 0 false := (hst.deal.ext hXV).turn hT1 (by omega)
  exact (h1.ext ((Ext.refl _).alloc _)).same (hgrow.block NB (by simp; omega) (fun e => hst.deal.rne hsv (by decide) e.symm))
 refine ⟨hD4, ?_⟩
 have hT3 : Turn (fun b => b = NB) w4 (w4.setCell ⟨NB, 0, none⟩ (.slice (some ⟨g1, 0, none⟩) (R1.length + 1) cap1)) := Turn.setCell (S := fun b => b = NB) (p := ⟨NB, 0, none⟩) (Turn.refl _ w4) (fun _ => rfl) _
 have hT : Turn (fun b => b = NB \/ lH (.slice s1a R1.length s1c) = some b) wr (w4.setCell ⟨NB, 0, none⟩ (.slice (some ⟨g1, 0, none⟩) (R1.length + 1) cap1)) := hT2.trans (hT3.mono (fun _ _ e => .inl e))
 have hg1 : g1 ≠ NB := fun e => by
  obtain ⟨cur, hcur⟩ := owns_block hown (g := g1) rfl
  exact hD4.tne hcur (by decide) e
 have hob4 : w4.heap[ob]? = some (.cells ({ X with blk := ob, mb := mb } : StkR).row 154 (0, 0)) := by
  rw [hgrow.block ob (by simp; omega) (fun e => hnsv ob (by omega) e.symm)]
  exact at_old (setCell_row hV0 _)
 have hmb4 : w4.heap[mb]? = some (.map es clock) := by
  have hml := (Array.getElem?_eq_some_iff.1 hV1).1
  rw [hgrow.block mb (by simp; omega) (fun e => hnsv mb (by omega) e.symm)]
  exact at_old (hT1.ref hV1 (by omega))
 have hs4 : w4.heap.size = (w4.setCell ⟨NB, 0, none⟩ (.slice (some ⟨g1, 0, none⟩) (R1.length + 1) cap1)).heap.size := by simp [World.setCell]
 have hU : ∀ b cur, wr.heap[b]? = some (.cells cur 146 (0, 0)) -> ¬ (b = NB \/ lH (.slice s1a R1.length s1c) = some b) := fun b cur hcur hor => by
  rcases hor with e | e
  ·exact hst.deal.tne hcur (by decide) e
  ·obtain ⟨cur', hc'⟩ := owns_block hsv e
   exact type_ne hcur hc' (by decide) rfl
 have hx : StkAt (w4.setCell ⟨NB, 0, none⟩ (.slice (some ⟨g1, 0, none⟩) (R1.length + 1) cap1)) (grow (grow F w wr) wr (w4.setCell ⟨NB, 0, none⟩ (.slice (some ⟨g1, 0, none⟩) (R1.length + 1) cap1))) { X with blk := ob, mb := mb } := by
  refine ⟨hT3.ref hob4 (show ¬ ob = NB by omega), ⟨D, ⟨es, clock, hT3.ref hmb4 (show ¬ mb = NB by omega), hfit⟩, (hK.turn' hT hU).mono (fun b hb => .inl (.inl hb))⟩, .inr ⟨by show wr.heap.size <= ob; omega, ?_⟩, .inr ⟨by show wr.heap.size <= mb; omega, ?_⟩⟩
  ·show ob < _
   rw [<- hs4]
   exact (Array.getElem?_eq_some_iff.1 hob4).1
  ·show mb < _
   rw [<- hs4]
   exact (Array.getElem?_eq_some_iff.1 hmb4).1
 have hwr := hc.ext.le
 have hst2 := StoreOf.addCopy hst hT (hD4.set0 _) (owns_setCell hown (by simpa [lH] using hg1) _) hx (by show wr.heap.size <= ob; omega) (by show wr.heap.size <= mb; omega) (hat.imp id (fun h => by omega))
 refine ⟨hst2.mono (fun b hb => ?_) (fun b hb => ?_), ?_, fun y hy => ?_, fun q hq => ?_, ?_⟩
 ·have hl := hst2.lt b hb
  rcases hb with hb | hb
  ·rcases hb with hb | hb
   ·exact .inl hb
   ·exact .inr ⟨hb.1, hl⟩
  ·exact .inr ⟨by omega, hl⟩
 ·rcases hb with hb | hb
  ·exact hst2.lt b (.inl (.inl hb))
  ·exact hb.2
 ·rw [List.map_append, hc.abs, List.take_succ_eq_append_getElem hj, List.map_append, hX]
  rfl
 ·rcases List.mem_append.1 hy with hy | hy
  ·exact hc.new y hy
  ·rw [List.mem_singleton.1 hy]
   exact ⟨by show w.heap.size <= ob; omega, by show w.heap.size <= mb; omega⟩
 ·simp [lH] at hq
  subst hq
  rcases hat with e | e
  ·exact hc.sv _ e
  ·omega
 ·exact Turn.ext ((Turn.of_ext (S := fun _ => False) hc.ext).trans' hT (fun b hb hor => by
   rcases hor with e | e
   ·omega
   ·have := hc.sv b e
    omega))
theorem compacted_c (hR : R.length <= 100) (hls : ls.length <= 900) (hof : ∀ l ∈ ls, 0 <= l.f /\ l.f <= 1000 /\ 0 <= l.c /\ l.c <= 1000 /\ (R.map StkR.abs).any (fun x => x.is l.kd l.m l.k l.n) = true) (w : World) (h : StoreOf w B F sv lv dv R ls ops fl ah kn) :
  Calls Tryz.prog 117 #[.pointer (some ⟨B, 0, none⟩)] w fun e w' => ∃ NB sv1 R1, e = .returned (.pointer (some ⟨NB, 0, none⟩)) /\ CompAt w w' NB F lv ls (compactS (R.map StkR.abs) ls) sv1 R1 := by
 have HOF : Hid _ := hof
 clear hof
 obtain ⟨i0, hi, hz0, hz1, hz2⟩ := info_parts infoPStock
 obtain ⟨c0, c1, _⟩ := h.deal.cells
 have hB := h.deal.lt
 have H : Hid _ := h
 obtain ⟨sa, sc, hsv⟩ := owns_slice h.srow
 obtain ⟨la, lc, hlv⟩ := owns_slice h.lrow
 subst hsv hlv
 clear h
 obtain ⟨rn, hrn⟩ : ∃ rn, R.length = rn := ⟨_, rfl⟩
 obtain ⟨ln, hln⟩ : ∃ ln, ls.length = ln := ⟨_, rfl⟩
 have HRN : Hid (R.length = rn) := hrn
 have HLN : Hid (ls.length = ln) := hln
 rw [hrn] at c0 hR
 rw [hln] at c1 hls
 clear hrn hln
 go_enter Tryz.func117, Tryz.ntmps117
 go_wp2_with fail
 have HC0 : Hid (CopyAt w (w.alloc (.cells #[.slice none 0 0, .slice la ln lc, .slice none 0 0, .bool false, .int .i64 0, .bool false] 112)) w.heap.size F (.slice la ls.length lc) ls [] (.slice none 0 0) []) := by
  have hX : Ext w (w.alloc (.cells #[.slice none 0 0, .slice la ln lc, .slice none 0 0, .bool false, .int .i64 0, .bool false] 112)) := (Ext.refl w).alloc _
  refine ⟨⟨⟨_, .inr rfl, by rw [HLN.out]; exact heap_alloc_new _ _⟩, World.ownsRow_nil _ _ _ _, H.out.lrow.ext hX, World.ownsRow_nil _ _ _ _, fun x hx => by simp at hx, by simp, by simp, .inr ⟨Nat.le_refl _, by simp⟩, fun q hq => by simp [lH] at hq, fun q hq => .inl (H.out.fl' q hq), fun q hq => by simp [lH] at hq, fun b hb => ?_, H.out.lnil, .inl rfl⟩, rfl, fun x hx => by simp at hx, fun q hq => by simp [lH] at hq, hX⟩
  rcases hb with hb | hb
  ·exact Nat.lt_of_lt_of_le (H.out.lt b hb) hX.le
  ·exact hb.2
 generalize World.alloc w _ = W at HC0 ⊢
 obtain ⟨NB, hNB⟩ : ∃ NB, w.heap.size = NB := ⟨_, rfl⟩
 rw [hNB] at HC0 ⊢
 have hNBw : w.heap.size <= NB := by omega
 have HNB : Hid (w.heap.size = NB) := hNB
 clear hNB
 go_loopw [20] (fun i wr => ∃ (j : Nat) (sv1 : Value) (R1 : List StkR), j <= rn /\ i = .int .i64 j /\ CopyAt w wr NB F (.slice la ls.length lc) ls (R.take j) sv1 R1) (fun i _ => rn - (intOf i).toNat)
 case atStart => exact ⟨0, _, [], Nat.zero_le _, rfl, HC0.out⟩
 case round =>
  obtain ⟨j, sv1, R1, hj, rfl, hcp⟩ := hrel
  have HC : Hid (CopyAt w wr NB F (.slice la ls.length lc) ls (R.take j) sv1 R1) := hcp
  have hx := hcp.ext
  have hwl := hx.le
  by_cases hlt : j < rn
  ·have hjR : j < R.length := by rw [HRN.out]; exact hlt
   have hsr := H.out.srow
   rcases owns_form hsr with ⟨_, h0, _⟩ | ⟨g, cap, hg, _, _, _⟩
   ·omega
   ·injection hg with hg1 hg2 hg3
    subst hg1 hg3
    rw [HRN.out] at hsr
    have e0 : wr.cell? ⟨g, j, none⟩ = some (.pointer (some ⟨R[j].blk, 0, none⟩)) := hx.cell (owns_cell hsr (by simp [stkPtrs, hjR]))
    have hgl := lG wr _ e0
    have hxs := (H.out.ext hx).stk R[j] (List.getElem_mem hjR)
    have hkb := hxs.blk
    have k0 : wr.cell? ⟨R[j].blk, 0, none⟩ = some (.int .i64 (R[j].kd : Int)) := cell_at hkb rfl
    have k1 : wr.cell? ⟨R[j].blk, 1, none⟩ = some (.int .i64 (R[j].m : Int)) := cell_at hkb rfl
    have k2 : wr.cell? ⟨R[j].blk, 2, none⟩ = some (.int .i64 (R[j].k : Int)) := cell_at hkb rfl
    have k3 : wr.cell? ⟨R[j].blk, 3, none⟩ = some (.int .i64 (R[j].n : Int)) := cell_at hkb rfl
    have k4 : wr.cell? ⟨R[j].blk, 4, none⟩ = some (.int .i64 (R[j].ts.length : Int)) := cell_at hkb rfl
    have k5 : wr.cell? ⟨R[j].blk, 5, none⟩ = some (.int .i64 (R[j].leased : Int)) := cell_at hkb rfl
    have k6 : wr.cell? ⟨R[j].blk, 6, none⟩ = some (.map (some R[j].mb)) := cell_at hkb rfl
    have hbl := lG wr _ k0
    obtain ⟨D, hD, hK⟩ := hxs.map
    have hml := hD.lt
    obtain ⟨es, clock, hmb, hfit⟩ := hD
    have HMB : Hid (wr.heap[R[j].mb]? = some (.map es clock)) := hmb
    have HFit : Hid _ := hfit
    have HK : Hid (Kept wr F R[j].sh R[j].ts D) := hK
    have hnb := hcp.st.deal.cells.1
    have hNBl := hcp.st.deal.lt
    obtain ⟨s1a, s1c, hs1⟩ := owns_slice hcp.st.srow
    subst hs1
    clear hcp hsr hxs hkb hmb hfit hK hx
    obtain ⟨X, hX⟩ : ∃ X, R[j] = X := ⟨_, rfl⟩
    have HXJ : Hid (R[j] = X) := hX
    rw [hX] at e0 k0 k1 k2 k3 k4 k5 k6 hbl hml HMB HFit HK
    clear hX
    go_wp2_with fail
    refine (mapClone_c X.mb es clock _ (at_old HMB.out)).mono ?_
    rintro e w2 ⟨rfl, rfl⟩
    rw [World.size_alloc]
    have hV0 : ((wr.alloc (.cells #[.int .i64 (X.kd : Int), .int .i64 (X.m : Int), .int .i64 (X.k : Int), .int .i64 (X.n : Int), .int .i64 (X.ts.length : Int), .int .i64 (X.leased : Int), .map (some X.mb)] 154)).alloc (.map es clock)).heap[wr.heap.size]? = some (.cells #[.int .i64 (X.kd : Int), .int .i64 (X.m : Int), .int .i64 (X.k : Int), .int .i64 (X.n : Int), .int .i64 (X.ts.length : Int), .int .i64 (X.leased : Int), .map (some X.mb)] 154 (0, 0)) := at_old (heap_alloc_new _ _)
    have hV1 : ((wr.alloc (.cells #[.int .i64 (X.kd : Int), .int .i64 (X.m : Int), .int .i64 (X.k : Int), .int .i64 (X.n : Int), .int .i64 (X.ts.length : Int), .int .i64 (X.leased : Int), .map (some X.mb)] 154)).alloc (.map es clock)).heap[wr.heap.size + 1]? = some (.map es clock) := at_new (by simp)
    have hXV : Ext wr ((wr.alloc (.cells #[.int .i64 (X.kd : Int), .int .i64 (X.m : Int), .int .i64 (X.k : Int), .int .i64 (X.n : Int), .int .i64 (X.ts.length : Int), .int .i64 (X.leased : Int), .map (some X.mb)] 154)).alloc (.map es clock)) := ((Ext.refl wr).alloc _).alloc _
    generalize World.alloc (World.alloc wr _) _ = V at hV0 hV1 hXV ⊢
    obtain ⟨ob, hob⟩ : ∃ ob, wr.heap.size = ob := ⟨_, rfl⟩
    obtain ⟨mb, hmbE⟩ : ∃ mb, wr.heap.size + 1 = mb := ⟨_, rfl⟩
    rw [hmbE] at hV1 ⊢
    rw [hob] at hV0 ⊢
    have hlo : wr.heap.size <= ob /\ wr.heap.size <= mb /\ ob ≠ mb := by omega
    have o6 : V.cell? ⟨ob, 6, none⟩ = some (.map (some X.mb)) := cell_at hV0 rfl
    have f6 := frozen_row hV0 6
    have hobl := lG V _ o6
    have hnbo : NB ≠ ob := by omega
    have hnb := hXV.cell hnb
    have hNBl2 := Nat.lt_of_lt_of_le hNBl hXV.le
    have HV : Hid _ := And.intro hV0 (And.intro hV1 hXV)
    have HHB : Hid (wr.heap.size = ob /\ wr.heap.size + 1 = mb) := ⟨hob, hmbE⟩
    clear hV0 hV1 hXV hob hmbE e0 k0 k1 k2 k3 k4 k5 k6
    have hsV := HV.out.2.2.owns HC.out.st.srow
    have HSV : Hid (V.ownsRow 0 151 1 (.slice s1a R1.length s1c) R1.length (stkPtrs R1)) := hsV
    have HR1L : Hid (R1.length = j) := by
     have h1 := congrArg List.length HC.out.abs
     simp at h1
     show R1.length = j
     omega
    obtain ⟨rl, hrl⟩ : ∃ rl, R1.length = rl := ⟨_, rfl⟩
    have HRL : Hid (R1.length = rl) := hrl
    have hrlb : rl <= 100 := by rw [<- hrl, HR1L.out]; omega
    rw [hrl] at HSV hnb
    have HNE : Hid (lH (.slice s1a rl s1c) ≠ some ob) := fun e => by
     have := owns_lt HSV.out e
     have := owns_lt HC.out.st.srow (g := ob) (by rw [hrl]; exact e)
     omega
    clear hsV hrl
    go_wp2_with (at_builtin; refine wpList_append_lies _ rfl _ _ 106 rfl 0 151 i0 _ 1 8 Tryz.underlying106 hi hz0 hz1 hz2 rfl (by decide) (.slice s1a rl s1c) rl (stkPtrs R1) rfl (Ext.owns (Ext.alloc (Ext.refl _) _) (owns_setCell HSV.out HNE.out _)) ⟨_, 0, none⟩ 1 1 [.pointer (some ⟨ob, 0, none⟩)] rfl rfl (World.news_of_block (at_new (by simp))) (by simp [Value.oneCell']) (by decide) (by unfold maxLen; omega) (by omega) (Nat.zero_le _) _ rfl ?_)
    intro g1 cap1 w4 hown4 hgrow4 hat4 hlt4
    have hcs := copy_step (by rw [<- HRL.out]; exact HC.out) hjR HXJ.out HRL.out HV.out.1 HV.out.2.1 HV.out.2.2 HFit.out HK.out HHB.out hNBw hown4 hgrow4 hat4
    have n0 := hcs.1.cells.1
    have fn0 := hcs.1.frozen 0
    have hNB4 := hcs.1.lt
    have HCS : Hid _ := hcs.2
    clear hcs hown4 hgrow4 hat4
    go_wp2
    go_roundw
    case rel => exact ⟨j + 1, _, _, by omega, by go_num, HCS.out⟩
    case measure => simp [intOf]; omega
  ·obtain rfl : j = rn := by omega
   have HC1 : Hid (CompAt w wr NB F (.slice la ls.length lc) ls (R.map StkR.abs) sv1 R1) := by
    have h := hcp
    rw [List.take_of_length_le (by rw [HRN.out]; exact Nat.le_refl _)] at h
    exact ⟨h.st, h.abs, h.new, h.sv, h.ext, hNBw⟩
   have c1 := hx.cell c1
   have hBr := Nat.lt_of_lt_of_le hB hwl
   clear hcp hx HC
   go_wp2
   go_loopw [48] (fun i wr => ∃ (q : Nat) (R2 : List StkR), q <= ln /\ i = .int .i64 q /\ CompAt w wr NB F (.slice la ls.length lc) ls (compactS (R.map StkR.abs) (ls.take q)) sv1 R2) (fun i _ => ln - (intOf i).toNat)
   case atStart => exact ⟨0, R1, Nat.zero_le _, rfl, HC1.out⟩
   case round =>
    clear c1 hBr hwl
    obtain ⟨q, R2, hq, rfl, hcp⟩ := hrel
    have HC : Hid (CompAt w wr NB F (.slice la ls.length lc) ls (compactS (R.map StkR.abs) (ls.take q)) sv1 R2) := hcp
    have hx := hcp.ext
    have hwl := hx.le
    clear hcp
    by_cases hlt : q < ln
    ·have hqL : q < ls.length := by rw [HLN.out]; exact hlt
     have hlr := H.out.lrow
     rcases owns_form hlr with ⟨_, h0, _⟩ | ⟨g, cap, hg, _, _, _⟩
     ·omega
     ·injection hg with hg1 hg2 hg3
      subst hg1 hg3
      obtain ⟨l0, l1, l2, l3, l4, l5, l6, l7, l8⟩ := (hlr.ext hx).cells q hqL
      have hgl := lG wr _ l0
      have hnx : compactS (R.map StkR.abs) (ls.take (q + 1)) = if ls[q].r = true then forgetL (compactS (R.map StkR.abs) (ls.take q)) ls[q] else compactS (R.map StkR.abs) (ls.take q) := by
       rw [List.take_succ_eq_append_getElem hqL, compactS_snoc]
      obtain ⟨b0, b1, b2, b3, b4⟩ := HOF.out ls[q] (List.getElem_mem hqL)
      rw [<- any_compact _ (ls.take q), <- HC.out.abs] at b4
      have hNBl := HC.out.st.deal.lt
      have hR2 : R2.length <= 100 := by
       have h1 := congrArg List.length HC.out.abs
       rw [compactS_len, List.length_map, List.length_map, HRN.out] at h1
       omega
      clear hlr hx
      cases hrr : ls[q].r with
      | false =>
       rw [hrr] at l8
       have HNx : Hid (compactS (R.map StkR.abs) (ls.take (q + 1)) = compactS (R.map StkR.abs) (ls.take q)) := by
        show _ = _
        rw [hnx, hrr]
        rfl
       generalize ls[q] = l at *
       clear hnx hrr
       go_wp2
       go_roundw
       case rel =>
        refine ⟨q + 1, R2, by omega, by go_num, ?_⟩
        rw [HNx.out]
        exact HC.out.alloc _
       case measure => simp [intOf]; omega
      | true =>
       rw [hrr] at l8
       obtain ⟨l, hl⟩ : ∃ l, ls[q] = l := ⟨_, rfl⟩
       rw [hl] at l0 l1 l2 l3 l4 l5 l6 l7 hnx hrr b0 b1 b2 b3 b4
       have HFg : Hid (∀ w', Ext wr w' -> _) := fun w' hx => HC.out.forget l b0 b1 b2 b3 b4 hR2 w' hx
       have HNx : Hid (compactS (R.map StkR.abs) (ls.take (q + 1)) = forgetL (compactS (R.map StkR.abs) (ls.take q)) l) := by
        show _ = _
        rw [hnx, if_pos hrr]
       obtain ⟨lf, ef⟩ := Int.eq_ofNat_of_zero_le b0
       obtain ⟨lc', ec⟩ := Int.eq_ofNat_of_zero_le b2
       clear hnx hrr hl b0 b1 b2 b3 b4 ef ec
       go_wp2_with fail
       refine (HFg.out _ ((Ext.refl wr).alloc _)).mono ?_
       rintro e w3 ⟨rfl, R3, hc3⟩
       have HC3 : Hid _ := hc3
       clear hc3
       go_wp2
       go_roundw
       case rel => exact ⟨q + 1, R3, by omega, by go_num, by rw [HNx.out]; exact HC3.out⟩
       case measure => simp [intOf]; omega
    ·obtain rfl : q = ln := by omega
     have HF : Hid (CompAt w wr NB F (.slice la ls.length lc) ls (compactS (R.map StkR.abs) ls) sv1 R2) := by
      have h := HC.out
      rw [List.take_of_length_le (by rw [HLN.out]; exact Nat.le_refl _)] at h
      exact h
     go_wp2
     go_ret
     exact ⟨_, _, _, rfl, HF.out⟩
end
end
-- GCm
section
set_option maxRecDepth 100000
set_option maxHeartbeats 3200000
open Go.RowKit Go.Maps
theorem okT_drop {s : Sh} {u : List Int × Bool} : OkT s (dropT u) := fun h => by simp [dropT] at h
theorem stkOk_forget {x : Stk} (h : StkOk x) (f c : Nat) : StkOk (x.forget f c) where
 sh := h.sh
 made := by
  have e : (x.forget f c).ts.length = x.ts.length := forgetN_len _ _ _
  rw [e]; exact h.made
 ts := fun u hu => by
  obtain ⟨i, hi, rfl⟩ := List.getElem_of_mem hu
  have h1 := forgetN_at x.ts f c i
  have hi' : i < x.ts.length := by
   have e : (x.forget f c).ts.length = x.ts.length := forgetN_len _ _ _
   omega
  have h2 : (x.forget f c).ts[i]? = some (x.forget f c).ts[i] := List.getElem?_eq_getElem hi
  have h3 : (x.forget f c).ts[i]? = (forgetN x.ts f c)[i]? := rfl
  rw [h3, h1, List.getElem?_eq_getElem hi'] at h2
  simp only [Option.map_some, Option.some.injEq] at h2
  rw [<- h2]
  split
  ·exact okT_drop
  ·exact h.ts _ (List.getElem_mem hi')
theorem stkOk_forgetL {S : List Stk} (h : ∀ x ∈ S, StkOk x) (l : LsV) : ∀ x ∈ forgetL S l, StkOk x := by
 unfold forgetL
 split
 ·rename_i ix hix
  obtain ⟨hi, _⟩ := find_idx hix
  rw [modify_set _ _ hi]
  intro x hx
  rcases List.mem_or_eq_of_mem_set hx with hx | rfl
  ·exact h x hx
  ·exact stkOk_forget (h _ (List.getElem_mem hi)) _ _
 ·exact h
theorem stkOk_compact {S : List Stk} (h : ∀ x ∈ S, StkOk x) (ls : List LsV) : ∀ x ∈ compactS S ls, StkOk x := by
 induction ls generalizing S with
 | nil => exact h
 | cons l t ih =>
  show ∀ x ∈ compactS (if l.r = true then forgetL S l else S) t, StkOk x
  apply ih
  split
  ·exact stkOk_forgetL h l
  ·exact h
section
variable {B : Nat} {F : Nat -> Prop} {sv lv dv : Value} {R : List StkR} {ls : List LsV} {ops : List OpV} {fl : Bool} {ah : Int} {kn : Bool}
theorem StoreOf.swap {w w2 w3 : World} {NB : Nat} {sv1 dv' : Value} {R1 : List StkR} {S1 : List Stk} {ops' : List OpV} {fl' : Bool} {ah' : Int} {kn' : Bool} (h : StoreOf w B F sv lv dv R ls ops fl ah kn) (hc : CompAt w w2 NB F lv ls S1 sv1 R1)
  (ht : Turn (fun b => b = B \/ dv.ownBlock = some b) w2 w3) (hd : DealAt w3 B sv lv dv' fl' ah' kn') (ho : OpsAt w3 dv' ops') (hq : ∀ q, dv'.ownBlock = some q -> q < w2.heap.size -> dv.ownBlock = some q) (hdn : dv' = .slice none 0 0 \/ 1 <= ops'.length) :
  DoPost w (w3.setCell ⟨B, 0, none⟩ sv1) B F R1 ls ops' fl' ah' kn' := by
 have hle := hc.ext.le
 have hsz := ht.size
 have hBw := h.deal.lt
 have hT3 : Turn (fun b => b = B) w3 (w3.setCell ⟨B, 0, none⟩ sv1) := Turn.setCell (S := fun b => b = B) (p := ⟨B, 0, none⟩) (Turn.refl _ w3) (fun _ => rfl) _
 have hT : Turn (fun b => b = B \/ dv.ownBlock = some b) w2 (w3.setCell ⟨B, 0, none⟩ sv1) := ht.trans (hT3.mono (fun _ _ e => .inl e))
 have hold : ∀ b, (b = B \/ dv.ownBlock = some b) -> b < w.heap.size := fun b hb => hb.elim (fun e => e ▸ hBw) (fun e => owns_lt h.orow e)
 have hs3 : w3.heap.size = (w3.setCell ⟨B, 0, none⟩ sv1).heap.size := by simp [World.setCell]
 have hst := hc.st
 have hdB : ∀ b cur t, w2.heap[b]? = some (.cells cur t (0, 0)) -> (t ≠ 114 /\ t ≠ 112) -> t ≠ 134 -> ¬ (b = B \/ dv.ownBlock = some b) := fun b cur t hcu h1 h2 hor => by
  rcases hor with e | e
  ·exact (h.deal.ext hc.ext).tne hcu h1 e
  ·obtain ⟨cur', hc'⟩ := owns_block h.orow e
   exact type_ne hcu (hc.ext.block hc') h2 rfl
 refine ⟨sv1, lv, dv', ⟨hd.set0 _, hT.owns hst.srow (fun q hqq hor => by have := hc.sv q hqq; have := hold q hor; omega), ?_, ?_, fun y hy => ?_, hst.nb, hst.nm, .inl h.fB, fun q hqq => .inr ⟨hc.sv q hqq, ?_⟩, fun q hqq => .inl (h.fl' q hqq), fun q hqq => ?_, fun b hb => ?_, h.lnil, hdn⟩, (Turn.of_ext hc.ext).trans' hT (fun b hb hor => hor.elim (fun e => e ▸ h.fB) (fun e => h.fd b e))⟩
 ·refine hT.owns hst.lrow (fun q hqq => ?_)
  obtain ⟨cur, hcu⟩ := owns_block hst.lrow hqq
  exact hdB q cur _ hcu (by decide) (by decide)
 ·exact owns_setCell ho (hd.rne ho (by decide)) _
 ·have hyk := hst.stk y hy
  have hn := hc.new y hy
  refine (hyk.turn' hT (fun hor => by have := hold _ hor; omega) (fun hor => by have := hold _ hor; omega) (fun b cur hcu => hdB b cur _ hcu (by decide) (by decide))).mono (fun b hb => hb.imp id (fun h => ⟨h.1, by omega⟩))
 ·rw [<- hs3]
  have := owns_lt hst.srow hqq
  omega
 ·by_cases e : q < w2.heap.size
  ·exact .inl (h.fd _ (hq q hqq e))
  ·exact .inr ⟨by omega, by rw [<- hs3]; exact owns_lt ho hqq⟩
 ·rcases hb with hb | hb
  ·have := h.lt b hb
   rw [<- hs3]
   omega
  ·exact hb.2
def CompSo (B : Nat) (F : Nat -> Prop) (R : List StkR) (ls : List LsV) (ops : List OpV) (fl : Bool) (ah : Int) (k1 k0 : Nat) (S1 : List Stk) (recs : List ByteArray) (ok : Bool) (w w' : World) (c : Int) : Prop :=
 (k1 = k0 /\ c = 0 /\ Ext w w') \/ (k1 ≠ k0 /\ c = (if ok then 0 else 10) /\ ∃ R', DoPost w w' B F R' ls (ops ++ didOps fl ah (opsNew (flatF recs))) (diskFl fl ah 4) (diskAh fl ah 4) ok /\ R'.map StkR.abs = if ok then S1 else R.map StkR.abs)
theorem storeCompact_c (hR : R.length <= 100) (hRm : ∀ x ∈ R, x.ts.length <= 1000) (hls : ls.length <= 900) (hops : ops.length <= 1000000) (hah : AhOk fl ah) (hok : ∀ x ∈ R, StkOk x.abs) (hlok : ∀ l ∈ ls, LsOk l) (hof : ∀ l ∈ ls, 0 <= l.f /\ l.f <= 1000 /\ 0 <= l.c /\ l.c <= 1000 /\ (R.map StkR.abs).any (fun x => x.is l.kd l.m l.k l.n) = true) (w : World) (h : StoreOf w B F sv lv dv R ls ops fl ah kn) :
  Calls Tryz.prog 81 #[.pointer (some ⟨B, 0, none⟩)] w fun e w' => ∃ c, e = .returned (.int .i64 c) /\ CompSo B F R ls ops fl ah (keptN (compactS (R.map StkR.abs) ls)) (keptN (R.map StkR.abs)) (compactS (R.map StkR.abs) ls) (recsP (compactS (R.map StkR.abs) ls) ls) (diskOk fl ah 4) w w' c := by
 have HCo : Hid _ := compacted_c hR hls hof w h
 have hok' := stkOk_compact (S := R.map StkR.abs) (fun x hx => by obtain ⟨y, hy, rfl⟩ := List.mem_map.1 hx; exact hok y hy) ls
 have hlen' := compactS_len (R.map StkR.abs) ls
 obtain ⟨S1, hS1⟩ : ∃ S1, compactS (R.map StkR.abs) ls = S1 := ⟨_, rfl⟩
 rw [hS1] at HCo hok' hlen' ⊢
 have HKp : Hid (∀ w', Ext w w' -> Calls Tryz.prog 118 #[.pointer (some ⟨B, 0, none⟩)] w' fun e w'' => e = .returned (.int .i64 (keptN (R.map StkR.abs))) /\ Ext w' w'') := fun w' hx => kept_c hR hRm w' (h.ext hx)
 have hlR1 : ∀ R1 : List StkR, R1.map StkR.abs = S1 -> R1.length <= 100 := fun R1 e => by
  have := congrArg List.length e
  rw [hlen', List.length_map, List.length_map] at this
  omega
 have HKn : Hid (∀ w2 NB sv1 R1, CompAt w w2 NB F lv ls S1 sv1 R1 -> ∀ w', Ext w2 w' -> Calls Tryz.prog 118 #[.pointer (some ⟨NB, 0, none⟩)] w' fun e w'' => e = .returned (.int .i64 (keptN S1)) /\ Ext w' w'') := fun w2 NB sv1 R1 hc w' hx => by
  have := kept_c (hlR1 R1 hc.abs) (fun x hx => by
   have := (hok' x.abs (by rw [<- hc.abs]; exact List.mem_map.2 ⟨x, hx, rfl⟩)).made.2
   have e : x.abs.ts.length = x.ts.length := rfl
   omega) w' (hc.st.ext hx)
  rwa [hc.abs] at this
 have HRe : Hid (∀ w2 NB sv1 R1, CompAt w w2 NB F lv ls S1 sv1 R1 -> ∀ w', Ext w2 w' -> Calls Tryz.prog 92 #[.pointer (some ⟨NB, 0, none⟩)] w' fun e w'' => ∃ v, e = .returned v /\ StrsAt w'' w'.heap.size v (recsP S1 ls) /\ Ext w' w'') := fun w2 NB sv1 R1 hc w' hx => by
  have := records_c (hlR1 R1 hc.abs) hls (fun x hx => hok' x.abs (by rw [<- hc.abs]; exact List.mem_map.2 ⟨x, hx, rfl⟩)) hlok w' (hc.st.ext hx)
  rwa [hc.abs] at this
 have HSz : Hid (∀ q ∈ recsP S1 ls, q.size <= 100000) := recs_size hok'
 have hrl : (recsP S1 ls).length <= 1900 := by
  have h1 := List.length_filter_le (·.r) ls
  simp only [recsP, List.length_append, List.length_map]
  rw [List.length_map] at hlen'
  omega
 have H : Hid (StoreOf w B F sv lv dv R ls ops fl ah kn) := h
 have HAH : Hid (AhOk fl ah) := hah
 have HOps : Hid (ops.length <= 1000000) := hops
 have hB := h.deal.lt
 obtain ⟨kk0, hkk0⟩ : ∃ kk0, keptN (R.map StkR.abs) = kk0 := ⟨_, rfl⟩
 obtain ⟨kk1, hkk1⟩ : ∃ kk1, keptN S1 = kk1 := ⟨_, rfl⟩
 rw [hkk0] at HKp ⊢
 rw [hkk1] at HKn ⊢
 obtain ⟨ok, hdk⟩ : ∃ ok, diskOk fl ah 4 = ok := ⟨_, rfl⟩
 have HOK : Hid (diskOk fl ah 4 = ok) := hdk
 rw [hdk]
 generalize recsP S1 ls = recs at *
 clear h hok hlok hof hok' hlen' hlR1 hS1 hah hops hkk0 hkk1 hdk hRm hls hR
 go_enter Tryz.func81, Tryz.ntmps81
 go_wp2_with fail
 refine Calls.mono HCo.out ?_
 rintro e w2 ⟨NB, sv1, R1, rfl, hc⟩
 have HC : Hid (CompAt w w2 NB F lv ls S1 sv1 R1) := hc
 have hNB := hc.st.deal.lt
 have hw2 := hc.ext.le
 have HKn2 : Hid (∀ w', Ext w2 w' -> _) := HKn.out w2 NB sv1 R1 hc
 have HRe2 : Hid (∀ w', Ext w2 w' -> _) := HRe.out w2 NB sv1 R1 hc
 have HKp2 : Hid (∀ w', Ext w2 w' -> _) := fun w' hx => HKp.out w' (hc.ext.trans hx)
 clear hc
 go_wp2_with fail
 refine (HKn2.out _ (Ext.refl _)).mono ?_
 rintro e w3 ⟨rfl, hx3⟩
 have HX3 : Hid (Ext w2 w3) := hx3
 clear hx3
 go_wp2_with fail
 refine (HKp2.out _ HX3.out).mono ?_
 rintro e w4 ⟨rfl, hx4⟩
 have HX4 : Hid (Ext w2 w4) := HX3.out.trans hx4
 clear hx4
 by_cases hkk : kk1 = kk0
 ·subst hkk
  have HXf : Hid (Ext w w4) := HC.out.ext.trans HX4.out
  go_wp2
  go_ret
  exact ⟨0, rfl, .inl ⟨rfl, rfl, HXf.out⟩⟩
 ·have hkb : ((kk1 : Int) == (kk0 : Int)) = false := by simp; omega
  have HKK : Hid (kk1 ≠ kk0) := hkk
  clear hkk
  have HRp : Hid (∀ (w5 : World) (va : Option Addr) (vc : Nat), Ext w2 w5 -> StrsAt w5 w4.heap.size (.slice va recs.length vc) recs -> Calls Tryz.prog 91 #[.pointer (some ⟨B, 2, none⟩), .slice va recs.length vc] w5 fun e w' =>
   ∃ dv', e = .returned (.bool (diskOk fl ah 4)) /\ DidOps B sv lv dv fl ah (diskOk fl ah 4) ops.length (opCells ops) (opsNew (flatF recs)) w5 w' dv') := fun w5 va vc hx5 ho5 => by
   refine replace_c B vc recs.length ops.length va recs sv lv dv fl ah kn HAH.out (opCells ops) w5 (H.out.deal.ext (HC.out.ext.trans hx5)) ((HC.out.ext.trans hx5).owns H.out.orow) rfl (by omega) HSz.out ?dc HOps.out
   case dc =>
    intro i hi'
    rcases owns_form ho5 with ⟨_, h0, _⟩ | ⟨g, cap, hg, _, _, _⟩
    ·omega
    ·injection hg with hg1 hg2 hg3
     subst hg1
     refine ⟨g, rfl, ?_⟩
     have := World.ownsRow.cellAt ho5 i (by omega)
     rw [this, strVs, List.getElem?_map, List.getElem?_eq_getElem hi']
     rfl
  rw [HOK.out] at HRp
  have hB4 : B < w4.heap.size := Nat.lt_of_lt_of_le hB (Nat.le_trans hw2 HX4.out.le)
  have hb4 := HX4.out.le
  go_wp2_with fail
  go_region_held3 (fun _ => True) (trivial) (first
   | (go_at_call 92; refine (HRe2.out _ (Ext.drew HX4.out)).mono ?_; rintro e w5 ⟨v, rfl, ho5, hx5⟩; obtain ⟨va, vc, hv⟩ := owns_slice ho5; subst hv)
   | (go_at_call 91; refine (HRp.out _ _ _ (Ext.chain hx5 (Ext.drew HX4.out)) ho5).mono ?_; rintro e w6 ⟨dv', rfl, hd6⟩))
  have HX5 : Hid (Ext w2 w5) := Ext.chain hx5 (Ext.drew HX4.out)
  clear hx5 ho5
  have HC5 : Hid (CompAt w w5 NB F lv ls S1 sv1 R1) := HC.out.more HX5.out
  have HO6 : Hid (OpsAt w6 dv' (ops ++ didOps fl ah (opsNew (flatF recs)))) := by
   show World.ownsRow _ 0 134 4 dv' _ _
   rw [opCells_append, List.length_append, didOps_len fl ah HAH.out]
   exact hd6.row
  cases ok with
  | false =>
   have HP : Hid (DoPost w w6 B F R ls (ops ++ didOps fl ah (opsNew (flatF recs))) (diskFl fl ah 4) (diskAh fl ah 4) false) :=
    DoPost.disk ((H.out.ext HC5.out.ext).did HAH.out hd6) H.out.lt HC5.out.ext hd6.turn (fun b _ hb => hb.elim (fun e => e ▸ H.out.fB) (fun e => H.out.fd b e))
   clear hd6
   go_wp2
   go_ret
   exact ⟨10, rfl, .inr ⟨HKK.out, rfl, R, HP.out, rfl⟩⟩
  | true =>
   have HP : Hid (DoPost w (w6.setCell ⟨B, 0, none⟩ sv1) B F R1 ls (ops ++ didOps fl ah (opsNew (flatF recs))) (diskFl fl ah 4) (diskAh fl ah 4) true) := H.out.swap HC5.out hd6.turn hd6.deal HO6.out hd6.own (did_nil HAH.out H.out.dnil hd6)
   have b0 := hd6.deal.cells.1
   have fb0 := hd6.deal.frozen 0
   have hB6 := hd6.deal.lt
   have hNB5 := HC5.out.st.deal.cells.1
   have n0 : w6.cell? ⟨NB, 0, none⟩ = some sv1 := hd6.turn.cell hNB5 (fun hor => by
    have h1 := HC5.out.nb
    rcases hor with e | e
    ·have : NB = B := e
     omega
    ·have := owns_lt H.out.orow (show dv.ownBlock = some NB from e)
     omega)
   have hNB6 := lG w6 _ n0
   have HAb : Hid (R1.map StkR.abs = S1) := HC5.out.abs
   obtain ⟨s1a, s1c, hs1⟩ := owns_slice HC5.out.st.srow
   obtain ⟨s0a, s0c, hs0⟩ := owns_slice H.out.srow
   rw [hs1] at n0 HP
   rw [hs0] at b0
   clear hd6 hNB5 hs1 hs0
   go_wp2
   go_ret
   exact ⟨0, rfl, .inr ⟨HKK.out, rfl, R1, HP.out, HAb.out⟩⟩
theorem dealerCompact_c {Q : World -> Int -> Prop} (w : World) (h : Calls Tryz.prog 81 #[.pointer (some ⟨B, 0, none⟩)] w fun e w' => ∃ c, e = .returned (.int .i64 c) /\ Q w' c) :
  Calls Tryz.prog 46 #[.pointer (some ⟨B, 0, none⟩)] w fun e w' => ∃ c, e = .returned (.int .i64 c) /\ Q w' c := by
 have HC : Hid _ := h
 clear h
 go_enter Tryz.func46, Tryz.ntmps46
 go_wp2_with fail
 refine Calls.mono HC.out ?_
 rintro e w2 ⟨c, rfl, hq⟩
 have HQ : Hid _ := hq
 clear hq
 go_wp2
 go_ret
 exact ⟨c, rfl, HQ.out⟩
end
end
-- VRt
section
set_option maxRecDepth 100000
set_option maxHeartbeats 6400000
open Go.RowKit Go.Maps
theorem readP_bound : ∀ (N : Nat) (l : List UInt8), l.length <= N -> (readP l).length * 12 <= l.length /\ ∀ r ∈ readP l, r.length <= l.length
 | N, l, hN => by
  cases hu : unframeP l with
  | none => rw [readP_none hu]; simp
  | some r =>
   have h1 := unframe_len hu
   rw [readP_some hu]
   cases N with
   | zero => omega
   | succ N =>
    have ih := readP_bound N (l.drop (12 + r.length)) (by rw [List.length_drop]; omega)
    rw [List.length_drop] at ih
    refine ⟨by simp only [List.length_cons]; omega, fun q hq => ?_⟩
    rcases List.mem_cons.1 hq with rfl | hq
    ·omega
    ·have := ih.2 q hq
     omega
theorem did_all (l : List OpV) : didOps false 0 l = l := by
 unfold didOps
 rw [show diskN false 0 l.length = l.length from rfl, List.take_length]
theorem StoreOf.move {w w' : World} {B B' : Nat} {F : Nat -> Prop} {sv lv dv : Value} {R : List StkR} {ls : List LsV} {ops : List OpV} {fl : Bool} {ah : Int} {kn : Bool} (h : StoreOf w B F sv lv dv R ls ops fl ah kn) (hx : Ext w w') (hd : DealAt w' B' sv lv dv fl ah kn) : StoreOf w' B' (fun b => F b \/ b = B') sv lv dv R ls ops fl ah kn := by
 have h2 := (h.ext hx).mono (F' := fun b => F b \/ b = B') (fun b hb => .inl hb) (fun b hb => hb.elim ((h.ext hx).lt b) (fun e => e ▸ hd.lt))
 exact ⟨hd, h2.srow, h2.lrow, h2.orow, h2.stk, h2.nb, h2.nm, .inr rfl, h2.fs, h2.fl', h2.fd, h2.lt, h2.lnil, h2.dnil⟩
structure RestSo (w w' : World) (st : List Stk × List LsV) (B : Nat) (R : List StkR) (ls : List LsV) (F : Nat -> Prop) (sv lv dv : Value) (ah : Int) : Prop where
 store : StoreOf w' B F sv lv dv R ls (opsNew (flatF (recsP st.1 st.2))) false ah true
 eq : st = (R.map StkR.abs, ls)
 far : ∀ b, F b -> w.heap.size <= b
 ext : Ext w w'
 ah0 : ah = 0
theorem InvK.stkOk {S : List Stk} {ls : List LsV} (h : InvK S ls) {x : Stk} (hx : x ∈ S) : StkOk x := by
 obtain ⟨hofc, hok⟩ := shOf_of (h.cls x hx)
 have hle := Sh.le hok
 have hm := h.made x hx
 have e : x.sh = shOf x.kd x.m x.k x.n := rfl
 exact ⟨by rw [e]; omega, ⟨hm.1, hm.2.1⟩, h.ok x hx⟩
theorem storeRestart_c (fa : Option Addr) (n cap : Nat) (fs : List (ByteArray × ByteArray)) (hn : fs.length = n) (hnb : n <= 4611686018427387904) (hsz : ∀ f ∈ fs, f.2.size <= 1000000000) (w : World) (h : FilesAt w fa fs) :
  Calls Tryz.prog 60 #[.slice fa n cap] w fun e w' => ∃ B R ls F sv lv dv ah, e = .returned (.agg #[sv, lv, dv, .bool false, .int .i64 ah, .bool true]) /\ RestSo w w' (restartS (fileB fs)) B R ls F sv lv dv ah := by
 have HJr : Hid (∀ w', Ext w w' -> _) := fun w' hx => journalRead_c fa n cap fs hn hnb hsz w' (h.ext hx)
 have hfz := fileB_size fs _ hsz
 have hdl : (fileB fs).data.toList.length = (fileB fs).size := by simp
 have hbd := readP_bound _ (fileB fs).data.toList (Nat.le_refl _)
 obtain ⟨recs0, hrecs0⟩ : ∃ recs0, strL (readP (fileB fs).data.toList) = recs0 := ⟨_, rfl⟩
 have hr0l : recs0.length <= 1000000000 := by rw [<- hrecs0]; simp [strL]; omega
 have HR0 : Hid (∀ r ∈ recs0, r.size <= 1000000000) := fun r hr => by
  rw [<- hrecs0] at hr
  obtain ⟨l, hl, rfl⟩ := List.mem_map.1 hr
  have := hbd.2 l hl
  show l.toArray.size <= _
  rw [List.size_toArray]
  omega
 have hst : restartS (fileB fs) = if soundS (replayS recs0 ([], [])).1 (replayS recs0 ([], [])).2 then replayS recs0 ([], []) else ([], []) := by
  unfold restartS
  rw [hrecs0]
 have hQ := restartS_inv (fileB fs)
 have hK0 : InvK (replayS recs0 ([], [])).1 (replayS recs0 ([], [])).2 := replayS_inv _ _ invK_nil
 obtain ⟨st, hstE⟩ : ∃ st, restartS (fileB fs) = st := ⟨_, rfl⟩
 rw [hstE] at hst hQ ⊢
 obtain ⟨recs, hrecs⟩ : ∃ recs, recsP st.1 st.2 = recs := ⟨_, rfl⟩
 have HRecs : Hid (recsP st.1 st.2 = recs) := hrecs
 have hrl : recs.length <= 1900 := by
  rw [<- hrecs]
  have h1 := List.length_filter_le (·.r) st.2
  have h2 := hQ.stocks
  have h3 := hQ.leases
  simp only [recsP, List.length_append, List.length_map]
  omega
 have HSz : Hid (∀ q ∈ recs, q.size <= 100000) := by
  show ∀ q ∈ recs, q.size <= 100000
  rw [<- hrecs]
  exact recs_size (fun x hx => hQ.toInvK.stkOk hx)
 have HRe0 : Hid (∀ (Bs : Nat) (R : List StkR) (ls : List LsV) (F1 : Nat -> Prop) (sv lv : Value), st = (R.map StkR.abs, ls) -> ∀ w', StoreOf w' Bs F1 sv lv (.slice none 0 0) R ls [] false 0 false -> Calls Tryz.prog 92 #[.pointer (some ⟨Bs, 0, none⟩)] w' fun e w'' => ∃ v, e = .returned v /\ StrsAt w'' w'.heap.size v recs /\ Ext w' w'') := fun Bs R ls F1 sv lv he w' hs => by
  have hq := hQ.toInvK
  rw [he] at hq
  have := records_c (by have := hq.stocks; simp at this; omega) (by have := hq.leases; omega) (fun x hx => hq.stkOk (List.mem_map.2 ⟨x, hx, rfl⟩)) hq.lok w' hs
  rw [<- hrecs, he]
  exact this
 have HRp0 : Hid (∀ (Bs : Nat) (sv lv : Value) (w5 : World) (va : Option Addr) (vc : Nat) (b0 : Nat), DealAt w5 Bs sv lv (.slice none 0 0) false 0 false -> StrsAt w5 b0 (.slice va recs.length vc) recs -> Calls Tryz.prog 91 #[.pointer (some ⟨Bs, 2, none⟩), .slice va recs.length vc] w5 fun e w' =>
   ∃ dv', e = .returned (.bool (diskOk false 0 4)) /\ DidOps Bs sv lv (.slice none 0 0) false 0 (diskOk false 0 4) 0 [] (opsNew (flatF recs)) w5 w' dv') := fun Bs sv lv w5 va vc b0 hd ho5 => by
  refine replace_c Bs vc recs.length 0 va recs sv lv (.slice none 0 0) false 0 false (fun e => by cases e) [] w5 hd (World.ownsRow_nil _ _ _ _) rfl (by omega) HSz.out ?dc (by omega)
  case dc =>
   intro i hi'
   rcases owns_form ho5 with ⟨_, h0, _⟩ | ⟨g, cap, hg, _, _, _⟩
   ·omega
   ·injection hg with hg1 hg2 hg3
    subst hg1
    refine ⟨g, rfl, ?_⟩
    have := World.ownsRow.cellAt ho5 i (by omega)
    rw [this, strVs, List.getElem?_map, List.getElem?_eq_getElem hi']
    rfl
 have hah0 : AhOk false 0 := fun e => by cases e
 rw [hrecs0] at HJr
 have HST : Hid (st = if soundS (replayS recs0 ([], [])).1 (replayS recs0 ([], [])).2 then replayS recs0 ([], []) else ([], [])) := hst
 have HK0 : Hid (InvK (replayS recs0 ([], [])).1 (replayS recs0 ([], [])).2) := hK0
 clear h hn hnb hsz hfz hdl hbd hrecs0 hst hQ hK0 hstE hrecs
 go_enter Tryz.func60, Tryz.ntmps60
 go_wp2_with fail
 have hz0 : (w.alloc (.cells #[.slice none 0 0, .slice none 0 0, .slice none 0 0, .bool false, .int .i64 0, .bool false] 112)).heap[w.heap.size]? = some (.cells #[.slice none 0 0, .slice none 0 0, .slice none 0 0, .bool false, .int .i64 0, .bool false] 112 (0, 0)) := heap_alloc_new _ _
 have hXW : Ext w (w.alloc (.cells #[.slice none 0 0, .slice none 0 0, .slice none 0 0, .bool false, .int .i64 0, .bool false] 112)) := (Ext.refl w).alloc _
 obtain ⟨zb, hzb⟩ : ∃ zb, w.heap.size = zb := ⟨_, rfl⟩
 have HZW : Hid (w.heap.size = zb) := hzb
 simp only [hzb] at hz0 ⊢
 generalize World.alloc w _ = W at hz0 hXW ⊢
 have HZ0 : Hid _ := hz0
 have HXW : Hid (Ext w W) := hXW
 have hzW : zb < W.heap.size := (Array.getElem?_eq_some_iff.1 hz0).1
 clear hz0 hXW hzb
 refine (HJr.out _ HXW.out).mono ?_
 rintro e w1 ⟨v, rfl, hst1, hx1⟩
 obtain ⟨ra, rc, hv⟩ := owns_slice hst1
 subst hv
 have HRl : Hid (∀ w', Ext w1 w' -> _) := fun w' hx => replay_c (match ra with | some a => a.block | none => 0) recs0.length rc recs0 rfl hr0l HR0.out ra w' (by
  rcases owns_form hst1 with ⟨_, h0, _⟩ | ⟨g, cap, hg, _, _, _⟩
  ·exact .inl h0
  ·injection hg with hg1 hg2 hg3
   subst hg1
   refine .inr ⟨rfl, fun i hi => hx.cell ?_⟩
   have := World.ownsRow.cellAt hst1 i (by omega)
   rw [this, strVs, List.getElem?_map, List.getElem?_eq_getElem hi]
   rfl)
 have HX1 : Hid (Ext W w1) := hx1
 clear hst1 hx1
 generalize recs0.length = r0n at *
 go_wp2_with fail
 refine (HRl.out _ (Ext.refl _)).mono ?_
 rintro e w2 ⟨B0, R, ls, F, sv, lv, rfl, hso⟩
 obtain ⟨sa, sc, rfl⟩ := owns_slice hso.store.srow
 obtain ⟨la, lc, rfl⟩ := owns_slice hso.store.lrow
 have HSo := hid2 hso
 obtain ⟨sn, hsn⟩ : ∃ sn, R.length = sn := ⟨_, rfl⟩
 obtain ⟨ln, hln⟩ : ∃ ln, ls.length = ln := ⟨_, rfl⟩
 simp only [hsn, hln] at HSo ⊢
 have HX2 : Hid (Ext W w2) := HX1.out.trans hso.ext
 have HRep : Hid (replayS recs0 ([], []) = (R.map StkR.abs, ls)) := hso.eq
 clear hso hsn hln
 go_wp2_with fail
 have hs0 : (w2.alloc (.cells #[.slice sa sn sc, .slice la ln lc, .slice none 0 0, .bool false, .int .i64 0, .bool false] 112)).heap[w2.heap.size]? = some (.cells #[.slice sa sn sc, .slice la ln lc, .slice none 0 0, .bool false, .int .i64 0, .bool false] 112 (0, 0)) := heap_alloc_new _ _
 have hx2a : Ext w2 (w2.alloc (.cells #[.slice sa sn sc, .slice la ln lc, .slice none 0 0, .bool false, .int .i64 0, .bool false] 112)) := (Ext.refl w2).alloc _
 obtain ⟨Bs, hBs⟩ : ∃ Bs, w2.heap.size = Bs := ⟨_, rfl⟩
 have HBw : Hid (w2.heap.size = Bs) := hBs
 simp only [hBs] at hs0 ⊢
 generalize World.alloc w2 _ = w2a at hs0 hx2a ⊢
 have hmv := HSo.out.store.move hx2a (⟨_, .inr rfl, hs0⟩ : DealAt w2a Bs (.slice sa sn sc) (.slice la ln lc) (.slice none 0 0) false 0 false)
 have HS2 := hid2 hmv
 have HX2a : Hid (Ext W w2a) := HX2.out.trans hx2a
 have hK : InvK (R.map StkR.abs) ls := by
  have := HK0.out
  rw [HRep.out] at this
  exact this
 have hKs := hK.stocks
 have HIs : Hid _ := isSound_c (R := R) (ls := ls) (by simp at hKs; omega) (fun x hx => by
  have := hK.made x.abs (List.mem_map.2 ⟨x, hx, rfl⟩)
  have e1 : x.abs.ts.length = x.ts.length := rfl
  omega) (fun x hx => (hK.stkOk (List.mem_map.2 ⟨x, hx, rfl⟩)).sh.1) (by have := hK.leases; omega) (fun l hl => by
  obtain ⟨h1, h2, h3, x, h4, h5⟩ := hK.of l hl
  have := hK.made x (List.mem_of_find?_eq_some h4)
  omega) w2a hmv
 have hzBs : zb < Bs := by have := HX2.out.le; omega
 have HZB : Hid (zb < Bs) := hzBs
 have HBs : Hid True := trivial
 have HRe := hid2 (HRe0.out Bs)
 have HRp := hid2 (HRp0.out Bs)
 have HFar1 : Hid (∀ b, (F b \/ b = Bs) -> zb < b) := fun b hb => by
  rcases hb with e | e
  ·have h1 := HSo.out.far b e
   have h2 := HX1.out.le
   omega
  ·omega
 have HFin : Hid (∀ (w5 w6 w7 : World) (R : List StkR) (ls : List LsV) (F1 : Nat -> Prop) (sv lv dv : Value) (fl1 : Bool) (ah1 : Int), fl1 = false /\ ah1 = 0 -> st = (R.map StkR.abs, ls) -> (∀ b, F1 b -> zb < b) -> Ext w w5 -> zb < w5.heap.size -> Turn (fun b => b = Bs) w5 w6 -> Turn (fun b => b = zb) w6 w7 -> StoreOf w6 Bs (grow F1 w5 w6) sv lv dv R ls ([] ++ didOps false 0 (opsNew (flatF recs))) fl1 ah1 true -> ∃ B R ls F sv' lv' dv' ah, Ending.returned (.agg #[sv, lv, dv, .bool fl1, .int .i64 ah1, .bool true]) = .returned (.agg #[sv', lv', dv', .bool false, .int .i64 ah, .bool true]) /\ RestSo w w7 st B R ls F sv' lv' dv' ah) := fun w5 w6 w7 R ls F1 sv lv dv fl1 ah1 e1 e2 h3 h4 h8 h5 h6 h7 => by
  have hzw := HZW.out
  have hbz := HZB.out
  obtain ⟨e1, e0⟩ := e1
  subst e1
  rw [did_all, List.nil_append] at h7
  have h45 := h4.le
  have hfar : ∀ b, grow F1 w5 w6 b -> zb < b := fun b hb => by
   rcases hb with e | e
   ·exact h3 b e
   ·have := h5.size
    have := h4.le
    omega
  refine ⟨Bs, R, ls, grow F1 w5 w6, sv, lv, dv, ah1, rfl, ?_, e2, fun b hb => by have := hfar b hb; omega, ?_, e0⟩
  ·rw [HRecs.out]
   exact h7.turn h6 (fun b hb e => by have := hfar b hb; omega)
  ·exact Turn.ext (((Turn.of_ext (S := fun _ => False) h4).trans' h5 (fun b hb e => by omega)).trans' h6 (fun b hb e => by omega))
 clear hs0 hx2a hmv hK hKs hBs HSo
 cases hsd : soundS (R.map StkR.abs) ls with
 | true =>
  rw [hsd] at HIs
  refine Calls.mono HIs.out ?_
  rintro e w3 ⟨rfl, hx3⟩
  have HS := hid2 (HS2.out.ext hx3)
  have HZ := hid2 ((HX2a.out.trans hx3).block HZ0.out)
  have HX := hid2 (HXW.out.trans (HX2a.out.trans hx3))
  have HAb : Hid (st = (R.map StkR.abs, ls)) := by
   show _ = _
   rw [HST.out, HRep.out, if_pos hsd]
  have HFar := hid2 HFar1.out
  obtain ⟨F1, hF1⟩ : ∃ F1 : Nat -> Prop, (fun b => F b \/ b = Bs) = F1 := ⟨_, rfl⟩
  simp only [hF1] at HS
  have HFar : Hid (∀ b, F1 b -> zb < b) := fun b hb => HFar.out b (by rw [<- hF1] at hb; exact hb)
  clear hx3 hsd hF1
  have HRe2 : Hid (∀ w', Ext w3 w' -> _) := fun w' hx => HRe.out R ls F1 (.slice sa sn sc) (.slice la ln lc) HAb.out w' (HS.out.ext hx)
  have HRp2 : Hid (∀ (w5 : World) (va : Option Addr) (vc : Nat) (b0 : Nat), Ext w3 w5 -> StrsAt w5 b0 (.slice va recs.length vc) recs -> _) := fun w5 va vc b0 hx5 ho5 => HRp.out (.slice sa sn sc) (.slice la ln lc) w5 va vc b0 (HS.out.ext hx5).deal ho5
  have hBs3 := HS.out.deal.lt
  go_wp2_with fail
  refine (HRe2.out _ (Ext.refl _)).mono ?_
  rintro e w5 ⟨v, rfl, ho5, hx5⟩
  obtain ⟨va, vc, hv⟩ := owns_slice ho5
  subst hv
  have HO5 := hid2 ho5
  have HX5 : Hid (Ext w3 w5) := hx5
  have hBs5 : Bs < w5.heap.size := Nat.lt_of_lt_of_le hBs3 hx5.le
  clear ho5 hx5
  go_wp2_with fail
  refine (HRp2.out _ _ _ _ HX5.out HO5.out).mono ?_
  rintro e w6 ⟨dv', rfl, hd6⟩
  have HS6 := hid2 ((HS.out.ext HX5.out).did hah0 hd6)
  obtain ⟨d0, d1, d2, d3, d4, d5⟩ := HS6.out.deal.cells
  obtain ⟨da, dc, hda⟩ := owns_slice hd6.row
  subst hda
  obtain ⟨dn, hdn⟩ : ∃ dn, 0 + diskN false 0 (opsNew (flatF recs)).length = dn := ⟨_, rfl⟩
  obtain ⟨fl1, hfl1⟩ : ∃ fl1, diskFl false 0 (opsNew (flatF recs)).length = fl1 := ⟨_, rfl⟩
  obtain ⟨ah1, hah1⟩ : ∃ ah1, diskAh false 0 (opsNew (flatF recs)).length = ah1 := ⟨_, rfl⟩
  have HZ6 : Hid _ := hd6.turn.ref (HX5.out.block HZ.out) (fun hor => by
   rcases hor with e | e
   ·have := HZB.out; have := HBs.out; omega
   ·simp [lH] at e)
  have HT6 : Hid (Turn (fun b => b = Bs) w5 w6) := hd6.turn.mono (fun b _ hb => hb.elim id (fun e => by simp [lH] at e))
  simp only [hdn, hfl1, hah1] at HS6 d0 d1 d2 d3 d4 d5
  have hok4 : diskOk false 0 4 = true := rfl
  rw [hok4] at HS6 d5
  have HFl : Hid (fl1 = false /\ ah1 = 0) := ⟨hfl1.symm, hah1.symm⟩
  clear hd6 hdn hfl1 hah1
  have z0 := cell_at HZ6.out (i := 0) rfl
  have z1 := cell_at HZ6.out (i := 1) rfl
  have z2 := cell_at HZ6.out (i := 2) rfl
  have z3 := cell_at HZ6.out (i := 3) rfl
  have z4 := cell_at HZ6.out (i := 4) rfl
  have z5 := cell_at HZ6.out (i := 5) rfl
  have f0 := frozen_row HZ6.out 0
  have f1 := frozen_row HZ6.out 1
  have f2 := frozen_row HZ6.out 2
  have f3 := frozen_row HZ6.out 3
  have f4 := frozen_row HZ6.out 4
  have f5 := frozen_row HZ6.out 5
  have hBl := lG w6 _ d0
  have hzl := lG w6 _ z0
  go_wp2
  have hb6 : ((((((w6.setCell ⟨zb, 0, none⟩ (.slice sa sn sc)).setCell ⟨zb, 1, none⟩ (.slice la ln lc)).setCell ⟨zb, 2, none⟩ (.slice da dn dc)).setCell ⟨zb, 3, none⟩ (.bool fl1)).setCell ⟨zb, 4, none⟩ (.int .i64 ah1)).setCell ⟨zb, 5, none⟩ (.bool true)).heap[zb]? = some (.cells #[.slice sa sn sc, .slice la ln lc, .slice da dn dc, .bool fl1, .int .i64 ah1, .bool true] 112 (0, 0)) := setCell_row (setCell_row (setCell_row (setCell_row (setCell_row (setCell_row HZ6.out _) _) _) _) _) _
  have hT6 : Turn (fun q => q = zb) w6 ((((((w6.setCell ⟨zb, 0, none⟩ (.slice sa sn sc)).setCell ⟨zb, 1, none⟩ (.slice la ln lc)).setCell ⟨zb, 2, none⟩ (.slice da dn dc)).setCell ⟨zb, 3, none⟩ (.bool fl1)).setCell ⟨zb, 4, none⟩ (.int .i64 ah1)).setCell ⟨zb, 5, none⟩ (.bool true)) := set6 _ _ _ _ _ _ _ _
  have k0 := cell_at hb6 (i := 0) rfl
  have k1 := cell_at hb6 (i := 1) rfl
  have k2 := cell_at hb6 (i := 2) rfl
  have k3 := cell_at hb6 (i := 3) rfl
  have k4 := cell_at hb6 (i := 4) rfl
  have k5 := cell_at hb6 (i := 5) rfl
  generalize World.setCell (World.setCell (World.setCell (World.setCell (World.setCell (World.setCell w6 _ _) _ _) _ _) _ _) _ _) _ _ = w7 at hb6 hT6 k0 k1 k2 k3 k4 k5 ⊢
  refine bodyPost_ret (v := .agg #[.slice sa sn sc, .slice la ln lc, .slice da dn dc, .bool fl1, .int .i64 ah1, .bool true]) (by simp [results, Tryz.results60, go_sem, k0, k1, k2, k3, k4, k5]) rfl ?_
  exact HFin.out w5 w6 w7 R ls F1 _ _ _ fl1 ah1 HFl.out HAb.out HFar.out (HX.out.trans HX5.out) (by have := HX5.out.le; have := HZB.out; omega) HT6.out hT6 HS6.out
 | false =>
  rw [hsd] at HIs
  refine Calls.mono HIs.out ?_
  rintro e w3 ⟨rfl, hx3⟩
  have HS3 := hid2 (HS2.out.ext hx3)
  obtain ⟨d0, d1, d2, d3, d4, d5⟩ := HS3.out.deal.cells
  have g0 := HS3.out.deal.frozen 0
  have g1 := HS3.out.deal.frozen 1
  have g2 := HS3.out.deal.frozen 2
  have g3 := HS3.out.deal.frozen 3
  have g4 := HS3.out.deal.frozen 4
  have g5 := HS3.out.deal.frozen 5
  have hBl3 := lG w3 _ d0
  obtain ⟨t, ht, hb3⟩ := HS3.out.deal.ex
  have hb4 : ((((((w3.setCell ⟨Bs, 0, none⟩ (.slice none 0 0)).setCell ⟨Bs, 1, none⟩ (.slice none 0 0)).setCell ⟨Bs, 2, none⟩ (.slice none 0 0)).setCell ⟨Bs, 3, none⟩ (.bool false)).setCell ⟨Bs, 4, none⟩ (.int .i64 0)).setCell ⟨Bs, 5, none⟩ (.bool false)).heap[Bs]? = some (.cells #[.slice none 0 0, .slice none 0 0, .slice none 0 0, .bool false, .int .i64 0, .bool false] t (0, 0)) := setCell_row (setCell_row (setCell_row (setCell_row (setCell_row (setCell_row hb3 _) _) _) _) _) _
  have hT4 : Turn (fun b => b = Bs) w3 ((((((w3.setCell ⟨Bs, 0, none⟩ (.slice none 0 0)).setCell ⟨Bs, 1, none⟩ (.slice none 0 0)).setCell ⟨Bs, 2, none⟩ (.slice none 0 0)).setCell ⟨Bs, 3, none⟩ (.bool false)).setCell ⟨Bs, 4, none⟩ (.int .i64 0)).setCell ⟨Bs, 5, none⟩ (.bool false)) := set6 _ _ _ _ _ _ _ _
  have HB4 := hid2 hb4
  have HT4 := hid2 hT4
  have HTt : Hid (t = 114 \/ t = 112) := ht
  have HX3 : Hid (Ext W w3) := HX2a.out.trans hx3
  clear hb3 hb4 hT4 ht hx3
  go_wp2_with fail
  generalize World.setCell (World.setCell (World.setCell (World.setCell (World.setCell (World.setCell w3 _ _) _ _) _ _) _ _) _ _) _ _ = w4 at HB4 HT4 ⊢
  have HS : Hid (StoreOf w4 Bs (fun b => b = Bs) (.slice none 0 0) (.slice none 0 0) (.slice none 0 0) [] [] [] false 0 false) := ⟨⟨t, HTt.out, HB4.out⟩, World.ownsRow_nil _ _ _ _, World.ownsRow_nil _ _ _ _, World.ownsRow_nil _ _ _ _, by simp, by simp, by simp, rfl, fun q hq => by simp [lH] at hq, fun q hq => by simp [lH] at hq, fun q hq => by simp [lH] at hq, fun b hb => by rw [hb]; exact (Array.getElem?_eq_some_iff.1 HB4.out).1, .inl rfl, .inl rfl⟩
  have HZ := hid2 (HT4.out.ref (HX3.out.block HZ0.out) (fun e => by have := HZB.out; omega))
  have HX : Hid (Ext w w4) := Turn.ext ((Turn.of_ext (S := fun _ => False) (HXW.out.trans HX3.out)).trans' HT4.out (fun b hb e => by have := HZB.out; have := HZW.out; omega))
  have HAb : Hid (st = (([] : List StkR).map StkR.abs, ([] : List LsV))) := by
   show _ = _
   rw [HST.out, HRep.out, if_neg (by rw [hsd]; decide)]
   rfl
  have HFar : Hid (∀ b, b = Bs -> zb < b) := fun b hb => by have := HZB.out; omega
  clear hsd d0 d1 d2 d3 d4 d5 g0 g1 g2 g3 g4 g5 hBl3
  have HRe2 : Hid (∀ w', Ext w4 w' -> _) := fun w' hx => HRe.out [] [] (fun b => b = Bs) (.slice none 0 0) (.slice none 0 0) HAb.out w' (HS.out.ext hx)
  have HRp2 : Hid (∀ (w5 : World) (va : Option Addr) (vc : Nat) (b0 : Nat), Ext w4 w5 -> StrsAt w5 b0 (.slice va recs.length vc) recs -> _) := fun w5 va vc b0 hx5 ho5 => HRp.out (.slice none 0 0) (.slice none 0 0) w5 va vc b0 (HS.out.ext hx5).deal ho5
  have hBs3 := HS.out.deal.lt
  refine (HRe2.out _ (Ext.refl _)).mono ?_
  rintro e w5 ⟨v, rfl, ho5, hx5⟩
  obtain ⟨va, vc, hv⟩ := owns_slice ho5
  subst hv
  have HO5 := hid2 ho5
  have HX5 : Hid (Ext w4 w5) := hx5
  have hBs5 : Bs < w5.heap.size := Nat.lt_of_lt_of_le hBs3 hx5.le
  clear ho5 hx5
  go_wp2_with fail
  refine (HRp2.out _ _ _ _ HX5.out HO5.out).mono ?_
  rintro e w6 ⟨dv', rfl, hd6⟩
  have HS6 := hid2 ((HS.out.ext HX5.out).did hah0 hd6)
  obtain ⟨d0, d1, d2, d3, d4, d5⟩ := HS6.out.deal.cells
  obtain ⟨da, dc, hda⟩ := owns_slice hd6.row
  subst hda
  obtain ⟨dn, hdn⟩ : ∃ dn, 0 + diskN false 0 (opsNew (flatF recs)).length = dn := ⟨_, rfl⟩
  obtain ⟨fl1, hfl1⟩ : ∃ fl1, diskFl false 0 (opsNew (flatF recs)).length = fl1 := ⟨_, rfl⟩
  obtain ⟨ah1, hah1⟩ : ∃ ah1, diskAh false 0 (opsNew (flatF recs)).length = ah1 := ⟨_, rfl⟩
  have HZ6 : Hid _ := hd6.turn.ref (HX5.out.block HZ.out) (fun hor => by
   rcases hor with e | e
   ·have := HZB.out; have := HBs.out; omega
   ·simp [lH] at e)
  have HT6 : Hid (Turn (fun b => b = Bs) w5 w6) := hd6.turn.mono (fun b _ hb => hb.elim id (fun e => by simp [lH] at e))
  simp only [hdn, hfl1, hah1] at HS6 d0 d1 d2 d3 d4 d5
  have hok4 : diskOk false 0 4 = true := rfl
  rw [hok4] at HS6 d5
  have HFl : Hid (fl1 = false /\ ah1 = 0) := ⟨hfl1.symm, hah1.symm⟩
  clear hd6 hdn hfl1 hah1
  have z0 := cell_at HZ6.out (i := 0) rfl
  have z1 := cell_at HZ6.out (i := 1) rfl
  have z2 := cell_at HZ6.out (i := 2) rfl
  have z3 := cell_at HZ6.out (i := 3) rfl
  have z4 := cell_at HZ6.out (i := 4) rfl
  have z5 := cell_at HZ6.out (i := 5) rfl
  have f0 := frozen_row HZ6.out 0
  have f1 := frozen_row HZ6.out 1
  have f2 := frozen_row HZ6.out 2
  have f3 := frozen_row HZ6.out 3
  have f4 := frozen_row HZ6.out 4
  have f5 := frozen_row HZ6.out 5
  have hBl := lG w6 _ d0
  have hzl := lG w6 _ z0
  go_wp2
  have hb6 : ((((((w6.setCell ⟨zb, 0, none⟩ (.slice none 0 0)).setCell ⟨zb, 1, none⟩ (.slice none 0 0)).setCell ⟨zb, 2, none⟩ (.slice da dn dc)).setCell ⟨zb, 3, none⟩ (.bool fl1)).setCell ⟨zb, 4, none⟩ (.int .i64 ah1)).setCell ⟨zb, 5, none⟩ (.bool true)).heap[zb]? = some (.cells #[.slice none 0 0, .slice none 0 0, .slice da dn dc, .bool fl1, .int .i64 ah1, .bool true] 112 (0, 0)) := setCell_row (setCell_row (setCell_row (setCell_row (setCell_row (setCell_row HZ6.out _) _) _) _) _) _
  have hT6 : Turn (fun q => q = zb) w6 ((((((w6.setCell ⟨zb, 0, none⟩ (.slice none 0 0)).setCell ⟨zb, 1, none⟩ (.slice none 0 0)).setCell ⟨zb, 2, none⟩ (.slice da dn dc)).setCell ⟨zb, 3, none⟩ (.bool fl1)).setCell ⟨zb, 4, none⟩ (.int .i64 ah1)).setCell ⟨zb, 5, none⟩ (.bool true)) := set6 _ _ _ _ _ _ _ _
  have k0 := cell_at hb6 (i := 0) rfl
  have k1 := cell_at hb6 (i := 1) rfl
  have k2 := cell_at hb6 (i := 2) rfl
  have k3 := cell_at hb6 (i := 3) rfl
  have k4 := cell_at hb6 (i := 4) rfl
  have k5 := cell_at hb6 (i := 5) rfl
  generalize World.setCell (World.setCell (World.setCell (World.setCell (World.setCell (World.setCell w6 _ _) _ _) _ _) _ _) _ _) _ _ = w7 at hb6 hT6 k0 k1 k2 k3 k4 k5 ⊢
  refine bodyPost_ret (v := .agg #[.slice none 0 0, .slice none 0 0, .slice da dn dc, .bool fl1, .int .i64 ah1, .bool true]) (by simp [results, Tryz.results60, go_sem, k0, k1, k2, k3, k4, k5]) rfl ?_
  exact HFin.out w5 w6 w7 [] [] (fun b => b = Bs) _ _ _ fl1 ah1 HFl.out HAb.out HFar.out (HX.out.trans HX5.out) (by have := HX5.out.le; have := HZB.out; omega) HT6.out hT6 HS6.out
structure DealRest (w w' : World) (st : List Stk × List LsV) (B : Nat) (R : List StkR) (ls : List LsV) (F : Nat -> Prop) (sv lv dv : Value) (ah : Int) : Prop where
 store : StoreOf w' B F sv lv dv R ls (opsNew (flatF (recsP st.1 st.2))) false ah true
 eq : st = (R.map StkR.abs, ls)
 far : ∀ b, F b -> w.heap.size <= b
 ext : Ext w w'
 ah0 : ah = 0
theorem dealerRestart_c (fa : Option Addr) (n cap : Nat) (fs : List (ByteArray × ByteArray)) (hn : fs.length = n) (hnb : n <= 4611686018427387904) (hsz : ∀ f ∈ fs, f.2.size <= 1000000000) (w : World) (h : FilesAt w fa fs) :
  Calls Tryz.prog 27 #[.slice fa n cap] w fun e w' => ∃ B R ls F sv lv dv ah, e = .returned (.pointer (some ⟨B, 0, none⟩)) /\ DealRest w w' (restartS (fileB fs)) B R ls F sv lv dv ah := by
 have HR : Hid (∀ w', Ext w w' -> _) := fun w' hx => storeRestart_c fa n cap fs hn hnb hsz w' (h.ext hx)
 clear hn hnb hsz h
 go_enter Tryz.func27, Tryz.ntmps27
 go_wp2_with fail
 refine (HR.out _ (Ext.refl _)).mono ?_
 rintro e w1 ⟨B0, R, ls, F, sv, lv, dv, ah, rfl, hso⟩
 obtain ⟨sa, sc, rfl⟩ := owns_slice hso.store.srow
 obtain ⟨la, lc, rfl⟩ := owns_slice hso.store.lrow
 obtain ⟨da, dc, rfl⟩ := owns_slice hso.store.orow
 have HSo := hid2 hso
 obtain ⟨sn, hsn⟩ : ∃ sn, R.length = sn := ⟨_, rfl⟩
 obtain ⟨ln, hln⟩ : ∃ ln, ls.length = ln := ⟨_, rfl⟩
 obtain ⟨dn, hdn⟩ : ∃ dn, (opsNew (flatF (recsP (restartS (fileB fs)).1 (restartS (fileB fs)).2))).length = dn := ⟨_, rfl⟩
 simp only [hsn, hln, hdn] at HSo ⊢
 clear hso hsn hln hdn
 go_wp2
 go_ret
 have hx : Ext w1 (w1.alloc (.cells #[.slice sa sn sc, .slice la ln lc, .slice da dn dc, .bool false, .int .i64 ah, .bool true] 114)) := (Ext.refl w1).alloc _
 have hmv := HSo.out.store.move hx (B' := w1.heap.size) ⟨_, .inl rfl, heap_alloc_new _ _⟩
 refine ⟨w1.heap.size, R, ls, _, _, _, _, ah, rfl, hmv, HSo.out.eq, fun b hb => ?_, HSo.out.ext.trans hx, HSo.out.ah0⟩
 rcases hb with e | e
 ·exact HSo.out.far b e
 ·rw [e]; exact HSo.out.ext.le
end
-- JAb
section
set_option maxRecDepth 100000
set_option maxHeartbeats 800000
open Go.RowKit Go.Maps
theorem check_no (k s i ck cm cl cn f c p : Int) (h1 : (k == 1) = false) (h2 : (k == 2) = false) (h3 : (k == 3) = false) (h4 : (k == 4) = false) (w : World) :
  Calls Tryz.prog 55 #[.agg #[.int .i64 k, .int .i64 s, .int .i64 i, .int .i64 ck, .int .i64 cm, .int .i64 cl, .int .i64 cn, .int .i64 f, .int .i64 c, .int .i64 p]] w fun e w' =>
   e = .returned (.tuple #[.nilIface, .int .i64 1]) /\ Ext w w' := by
 go_enter Tryz.func55, Tryz.ntmps55
 go_wp2_with (go_at_call 84; refine (ofKind_no k s i ck cm cl cn f c p h1 h2 h3 h4 _).mono ?_; rintro e w1 ⟨rfl, hx⟩)
 have HX : Ext w w1 := (Ext.refl w).alloc _ |>.trans hx
 clear hx
 go_quiet (fail)
 go_wp2
 go_ret2
 exact ⟨rfl, HX.drewN _⟩
theorem did_kinds {kn fl : Bool} {ah : Int} {S : List Stk} {ls : List LsV} {rec : ByteArray} : ∀ o ∈ didOps fl ah (addOps kn S ls rec), 0 <= o.k /\ o.k <= 5 := fun o ho => by
 have h1 := List.mem_of_mem_take ho
 unfold addOps at h1
 split at h1
 ·simp only [opsAdd, List.mem_cons, List.not_mem_nil, or_false] at h1
  rcases h1 with rfl | rfl <;> simp
 ·simp only [opsNew, List.mem_cons, List.not_mem_nil, or_false] at h1
  rcases h1 with rfl | rfl | rfl | rfl <;> simp
def ownT (kk : Int) : TypeId := if kk = 1 then 201 else if kk = 2 then 203 else if kk = 3 then 205 else 207
def OwnQ (kk s i kd m k n f c p : Int) (W : World) (rb : Nat) : Prop :=
 (kk = 1 /\ inB s i kd m k n f c p (f == 0 && p == 0) = true /\ LeaseReq W rb s i kd m k n c) \/ (kk = 2 /\ inB s i kd m k n f c p (i == 0) = true /\ FetchReq W rb s kd m k n f c p) \/
 (kk = 3 /\ inB s i kd m k n f c p ((kd == 0 && (m == 0 && (k == 0 && n == 0))) && (f == 0 && (c == 0 && p == 0))) = true /\ ReleaseReq W rb s i) \/ (kk = 4 /\ inB s i kd m k n f c p (s == 0 && (i == 0 && (f == 0 && (c == 0 && p == 0)))) = true /\ StatusReq W rb kd m k n)
theorem own1 {s i kd m k n f c p : Int} {W : World} {rb : Nat} (h : OwnQ 1 s i kd m k n f c p W rb) : inB s i kd m k n f c p (f == 0 && p == 0) = true /\ LeaseReq W rb s i kd m k n c := by
 rcases h with h | h | h | h
 ·exact h.2
 all_goals exact absurd h.1 (by decide)
theorem own2 {s i kd m k n f c p : Int} {W : World} {rb : Nat} (h : OwnQ 2 s i kd m k n f c p W rb) : inB s i kd m k n f c p (i == 0) = true /\ FetchReq W rb s kd m k n f c p := by
 rcases h with h | h | h | h
 ·exact absurd h.1 (by decide)
 ·exact h.2
 all_goals exact absurd h.1 (by decide)
theorem own3 {s i kd m k n f c p : Int} {W : World} {rb : Nat} (h : OwnQ 3 s i kd m k n f c p W rb) : inB s i kd m k n f c p ((kd == 0 && (m == 0 && (k == 0 && n == 0))) && (f == 0 && (c == 0 && p == 0))) = true /\ ReleaseReq W rb s i := by
 rcases h with h | h | h | h
 ·exact absurd h.1 (by decide)
 ·exact absurd h.1 (by decide)
 ·exact h.2
 ·exact absurd h.1 (by decide)
theorem own4 {s i kd m k n f c p : Int} {W : World} {rb : Nat} (h : OwnQ 4 s i kd m k n f c p W rb) : inB s i kd m k n f c p (s == 0 && (i == 0 && (f == 0 && (c == 0 && p == 0)))) = true /\ StatusReq W rb kd m k n := by
 rcases h with h | h | h | h
 ·exact absurd h.1 (by decide)
 ·exact absurd h.1 (by decide)
 ·exact absurd h.1 (by decide)
 ·exact h.2
theorem AskAns.o1 {B : Nat} {s i kd m k n f c p : Int} {req : Value} {w : World} {Pp : World -> World -> Int -> Int -> Int -> Value -> Prop} (h : AskAns B 201 (fun W rb => LeaseReq W rb s i kd m k n c) req w Pp) : AskAns B (ownT 1) (OwnQ 1 s i kd m k n f c p) req w Pp := ⟨h.ask, fun w1 rb hx hr hq => h.ans w1 rb hx hr (own1 hq).2⟩
theorem AskAns.o2 {B : Nat} {s i kd m k n f c p : Int} {req : Value} {w : World} {Pp : World -> World -> Int -> Int -> Int -> Value -> Prop} (h : AskAns B 203 (fun W rb => FetchReq W rb s kd m k n f c p) req w Pp) : AskAns B (ownT 2) (OwnQ 2 s i kd m k n f c p) req w Pp := ⟨h.ask, fun w1 rb hx hr hq => h.ans w1 rb hx hr (own2 hq).2⟩
theorem AskAns.o3 {B : Nat} {s i kd m k n f c p : Int} {req : Value} {w : World} {Pp : World -> World -> Int -> Int -> Int -> Value -> Prop} (h : AskAns B 205 (fun W rb => ReleaseReq W rb s i) req w Pp) : AskAns B (ownT 3) (OwnQ 3 s i kd m k n f c p) req w Pp := ⟨h.ask, fun w1 rb hx hr hq => h.ans w1 rb hx hr (own3 hq).2⟩
theorem AskAns.o4 {B : Nat} {s i kd m k n f c p : Int} {req : Value} {w : World} {Pp : World -> World -> Int -> Int -> Int -> Value -> Prop} (h : AskAns B 207 (fun W rb => StatusReq W rb kd m k n) req w Pp) : AskAns B (ownT 4) (OwnQ 4 s i kd m k n f c p) req w Pp := ⟨h.ask, fun w1 rb hx hr hq => h.ans w1 rb hx hr (own4 hq).2⟩
def AskPost (A : Ans) (w w'' : World) (B : Nat) (F : Nat -> Prop) (R : List StkR) (ls : List LsV) (ops : List OpV) (fl : Bool) (ah : Int) (e : Ending) : Prop :=
 ∃ c0 f0 n0 zs ra rl rc R' ls' F' new fl' ah', e = .returned (replyV c0 f0 n0 (.slice ra rl rc)) /\ zs.length <= 100000000 /\ AskSo A w w'' B F R ls ops fl ah c0 f0 n0 zs (.slice ra rl rc) R' ls' F' new fl' ah'
structure AskDoes (A : Ans) (B : Nat) (F : Nat -> Prop) (R : List StkR) (ls : List LsV) (ops : List OpV) (fl : Bool) (ah : Int) (tt : TypeId) (Q : World -> Nat -> Prop) (req : Value) (w : World) : Prop where
 ask : Calls Tryz.prog 20 #[.pointer (some ⟨B, 0, none⟩), req] w fun e w'' => AskPost A w w'' B F R ls ops fl ah e
 ans : ∀ w1 rb, Ext w w1 -> w.heap.size <= rb -> Q w1 rb -> Calls Tryz.prog 54 #[.pointer (some ⟨B, 0, none⟩), .iface tt (.pointer (some ⟨rb, 0, none⟩)), .int .i64 0] w1 fun e w'' => AskPost A w1 w'' B F R ls ops fl ah e
def RefDoes (A : Ans) (G : Nat -> Prop) (q : Nat) (req : Value) (w : World) : Prop :=
 Calls Tryz.prog 149 #[.pointer (some ⟨q, 0, none⟩), req] w fun e w'' => ∃ pv v, e = .returned (.tuple #[pv, replyV A.c A.f A.n v]) /\ RefSo G A w w'' pv v
section
variable {w : World} {B q : Nat} {G F : Nat -> Prop} {R : List StkR} {ls : List LsV} {ops : List OpV} {fl : Bool} {ah : Int} {kn : Bool} {req : Value} {tt : TypeId} {Q : World -> Nat -> Prop} {f : FuncId} {args : Array Value}
end
def vl (l : List Int) : Nat -> Int := fun j => l.getD j 0
theorem fit1 (s i kd m k n c : Int) : fitB (vl [s, i, kd, m, k, n, c]) leaseL = true ↔ inB s i kd m k n 0 c 0 true = true := by
 simp [fitB, leaseL, vl, inB, isNum, isByt]
 omega
theorem fit2 (s kd m k n f c p : Int) : fitB (vl [s, kd, m, k, n, f, c, p]) fetchL = true ↔ inB s 0 kd m k n f c p true = true := by
 simp [fitB, fetchL, vl, inB, isNum, isByt]
 omega
theorem fit3 (s i : Int) : fitB (vl [s, i]) releaseL = true ↔ inB s i 0 0 0 0 0 0 0 true = true := by
 simp [fitB, releaseL, vl, inB, isNum, isByt]
theorem fit4 (kd m k n : Int) : fitB (vl [kd, m, k, n]) statusL = true ↔ inB 0 0 kd m k n 0 0 0 true = true := by
 simp [fitB, statusL, vl, inB, isNum, isByt]
 omega
theorem no_fit {a b : Bool} (h : a = true ↔ b = true) (hb : b = false) : a = false := by
 cases a
 ·rfl
 ·rw [h.1 rfl] at hb; cases hb
structure GoodA (A : Ans) : Prop where
 ne : A.c ≠ 10
 c : 0 <= A.c /\ A.c < 256
 f : 0 <= A.f /\ A.f < 4294967296
 n : 0 <= A.n /\ A.n < 4294967296
 zs : inU64 A.zs
theorem good_quiet {c0 f0 n0 : Int} {nx : Option (List Stk × List LsV)} (h1 : 0 <= c0 /\ c0 < 10) (h2 : 0 <= f0 /\ f0 <= 1000) (h3 : 0 <= n0 /\ n0 <= 1000) : GoodA ⟨c0, f0, n0, [], nx⟩ :=
 ⟨fun e => by have e : c0 = 10 := e; omega, ⟨h1.1, by show c0 < 256; omega⟩, ⟨h2.1, by show f0 < 4294967296; omega⟩, ⟨h3.1, by show n0 < 4294967296; omega⟩, fun _ h => by simp at h⟩
theorem good_code {c0 : Int} (h1 : 0 <= c0 /\ c0 < 10) : GoodA (.code c0) := good_quiet h1 (by decide) (by decide)
theorem is_eqs {x : Stk} {kd m k n : Int} (h : x.is kd m k n = true) : (x.kd : Int) = kd /\ (x.m : Int) = m /\ (x.k : Int) = k /\ (x.n : Int) = n := by
 simp [Stk.is] at h
 exact ⟨h.1, h.2.1, h.2.2.1, h.2.2.2⟩
section
variable {R : List StkR} {ls : List LsV} {ops : List OpV}
abbrev BothDo (R : List StkR) (ls : List LsV) (ops : List OpV) (kk s i kd m k n f c p : Int) : Prop :=
 ∃ A : Ans, GoodA A /\ (∀ w B F fl ah, AhOk fl ah -> StoreOk w B F R ls ops fl ah -> AskDoes A B F R ls ops fl ah (ownT kk) (OwnQ kk s i kd m k n f c p) (reqV kk s i kd m k n f c p) w) /\ (∀ w G q, RefAt w G q (R.map StkR.abs) ls -> (∀ b, G b -> b < w.heap.size) -> RefDoes A G q (reqV kk s i kd m k n f c p) w) /\ ∀ S' ls', A.next = some (S', ls') -> InvS S' ls'
end
end
-- JAc
section
open Go.RowKit Go.Maps
section
variable {R : List StkR} {ls : List LsV} {ops : List OpV}
theorem fetched_len {x : Stk} {p : Int} {f L c : Nat} (h : ∀ i : Nat, (hi : i < c) -> (sharesW x p (f + i)).length = L) : ∀ j, j <= c -> (fetched x p f j).length = j * L
 | 0, _ => by simp [fetched]
 | j + 1, hj => by rw [fetched_succ, List.length_append, fetched_len h j (by omega), h j (by omega), Nat.add_mul, Nat.one_mul]
theorem fetched_in {x : Stk} {p : Int} {f c : Nat} (hpp : p = 0 \/ p = 1) (hok : StkOk x) (h : ∀ i : Nat, i < c -> ∃ hi : f + i < x.ts.length, x.ts[f + i].2 = true) : inU64 (fetched x p f c) := by
 intro z hz
 unfold fetched at hz
 obtain ⟨i, hi, hz⟩ := List.mem_flatMap.1 hz
 obtain ⟨h1, h2⟩ := h i (List.mem_range.1 hi)
 have hge : x.ts.getD (f + i) ([], false) = x.ts[f + i] := by
  rw [List.getD_eq_getElem?_getD, List.getElem?_eq_getElem h1]; rfl
 obtain ⟨_, _, k1, k2⟩ := hok.ts _ (List.getElem_mem h1) h2
 rw [sharesW, hge] at hz
 split at hz
 ·exact k1 z hz
 ·exact k2 z hz
end
end
-- JRb
section
open Go.RowKit Go.Maps
section
variable {R : List StkR} {ls : List LsV} {ops : List OpV}
theorem cls_nat {kd m k n : Int} (h : isCls kd m k n = true) : 0 <= kd /\ 0 <= m /\ 0 <= k /\ 0 <= n := by
 by_cases h0 : kd = 0
 ·subst h0; rw [isCls_0] at h; simp at h; omega
 ·by_cases h1 : kd = 1
  ·subst h1; rw [isCls_1] at h; simp at h; omega
  ·by_cases h2 : kd = 2
   ·subst h2; rw [isCls_2] at h; simp at h; omega
   ·rw [isCls_no m k n h0 h1 h2] at h; cases h
abbrev BothFill (R : List StkR) (ls : List LsV) (ops : List OpV) (kd m k n : Int) (a : Option Addr) (len cap : Nat) (D : List Int) : Prop :=
 ∃ A : Ans, A.c ≠ 10 /\ (A.next = none -> A.c ≠ 0) /\ (A.next ≠ none -> A.c = 0) /\
  (∀ w B F fl ah gh, AhOk fl ah -> StoreOk w B F R ls ops fl ah -> WordsAt w gh 0 D -> Calls Tryz.prog 34 #[.pointer (some ⟨B, 0, none⟩), clsV kd m k n, .slice (some ⟨gh, 0, none⟩) len (len + 8)] w fun e w'' => ∃ c0 f0 n0 zs R' ls' F' new fl' ah', e = .returned (.int .i64 c0) /\ AskSo A w w'' B F R ls ops fl ah c0 f0 n0 zs (.slice none 0 0) R' ls' F' new fl' ah') /\
  (∀ w G q, RefAt w G q (R.map StkR.abs) ls -> (∀ b, G b -> b < w.heap.size) -> DrawsAt w a len D -> Calls Tryz.prog 102 #[.pointer (some ⟨q, 0, none⟩), clsV kd m k n, .slice a len cap] w fun e w'' => ∃ pa, e = .returned (.tuple #[.pointer pa, .int .i64 A.c]) /\ RefSo G A w w'' (.pointer pa) (.slice none 0 0)) /\
  ∀ S' ls', A.next = some (S', ls') -> InvS S' ls'
theorem DoPost.back {w w1 w2 : World} {B : Nat} {F : Nat -> Prop} {R' : List StkR} {ls' : List LsV} {ops' : List OpV} {fl' : Bool} {ah' : Int} {kn' : Bool} (h : DoPost w1 w2 B F R' ls' ops' fl' ah' kn') (hx : Ext w w1) (hF : ∀ b, F b -> b < w2.heap.size) : DoPost w w2 B F R' ls' ops' fl' ah' kn' := by
 obtain ⟨sv, lv, dv, h1, h2⟩ := h
 have h3 := hx.le
 exact ⟨sv, lv, dv, h1.mono (fun b hb => hb.imp id (fun h => ⟨by omega, h.2⟩)) (fun b hb => hb.elim (hF b) (fun h => h.2)), (Turn.of_ext hx).trans h2⟩
end
end
-- JSa
section
open Go.RowKit Go.Maps
structure LiveAt (w : World) (P B N0 c : Nat) (G : Nat -> Prop) (v : GV) (q : Nat) (R : List StkR) (ls : List LsV) (F : Nat -> Prop) (ops : List OpV) (fl : Bool) (ah : Int) : Prop where
 game : GameOf w P B G v q (R.map StkR.abs) ls ops c
 store : StoreOk w B F R ls ops fl ah
 ar : ArIs v fl ah
 ah : AhOk fl ah
 far : Far F G P v
 inv : InvS (R.map StkR.abs) ls
 ops : ops.length <= 4 * c
 hF : ∀ b, F b -> N0 <= b
 hP : ∀ b, GOwn P v b -> N0 <= b
 hN : N0 <= w.heap.size
def Live (w : World) (P B N0 c : Nat) : Prop := ∃ G v q R ls F ops fl ah, LiveAt w P B N0 c G v q R ls F ops fl ah
end
end Go.Proofs.YtmnjhhachdlmkaaGreat
