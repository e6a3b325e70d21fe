import Derived.Test.YtmnjhhachdlmkaaGreatK09
import Derived.Test.YtmnjhhachdlmkaaGreatK18
namespace Go.Proofs.YtmnjhhachdlmkaaGreat
set_option linter.unusedVariables false
set_option linter.unusedSimpArgs false
open World renaming block_lt_of_cell? -> lG
-- VDp
section
open Go.RowKit Go.Maps
abbrev FileV := ByteArray × ByteArray
def atK (fs : List FileV) (a : ByteArray) : Nat -> Int
 | 0 => -1
 | k + 1 => if (fs.getD k (sNone, sNone)).1 = a then (k : Int) else atK fs a k
def dropN (fs : List FileV) (a : ByteArray) : List FileV := fs.filter fun f => !decide (f.1 = a)
def putF (o : OpV) (f : FileV) : FileV := (f.1, if o.k = 0 then o.c else f.2 ++ o.c)
def opS (fs : List FileV) (o : OpV) : List FileV :=
 if o.k = 0 \/ o.k = 1 then
  if atK fs o.a fs.length < 0 then fs ++ [(o.a, o.c)] else fs.modify (atK fs o.a fs.length).toNat (putF o)
 else if o.k = 3 then
  if 0 <= atK fs o.a fs.length /\ o.a ≠ o.b then dropN (dropN fs o.a) o.b ++ [(o.b, (fs.getD (atK fs o.a fs.length).toNat (sNone, sNone)).2)] else fs
 else if o.k = 5 then dropN fs o.a
 else fs
def doneS (fs : List FileV) (ops : List OpV) : List FileV := ops.foldl opS fs
theorem doneS_append (fs : List FileV) (a b : List OpV) : doneS fs (a ++ b) = doneS (doneS fs a) b := by simp [doneS]
theorem atK_range (fs : List FileV) (a : ByteArray) (k : Nat) : atK fs a k = -1 \/ 0 <= atK fs a k /\ atK fs a k < k /\ (fs.getD (atK fs a k).toNat (sNone, sNone)).1 = a := by
 induction k with
 | zero => exact .inl rfl
 | succ k ih =>
  unfold atK
  split
  ·rename_i h
   exact .inr ⟨by omega, by omega, by simpa using h⟩
  ·rcases ih with h | ⟨h1, h2, h3⟩
   ·exact .inl h
   ·exact .inr ⟨h1, by omega, h3⟩
theorem atK_names {fs gs : List FileV} (a : ByteArray) (k : Nat) (h : ∀ i, i < k -> (fs.getD i (sNone, sNone)).1 = (gs.getD i (sNone, sNone)).1) : atK fs a k = atK gs a k := by
 induction k with
 | zero => rfl
 | succ k ih =>
  unfold atK
  rw [h k (by omega), ih (fun i hi => h i (by omega))]
theorem modify_names (fs : List FileV) (o : OpV) (j i : Nat) : ((fs.modify j (putF o)).getD i (sNone, sNone)).1 = (fs.getD i (sNone, sNone)).1 := by
 simp only [List.getD_eq_getElem?_getD, List.getElem?_modify]
 cases fs[i]? with
 | none => rfl
 | some f =>
  show (if j = i then putF o f else f).1 = f.1
  split <;> rfl
theorem getD_modify {fs : List FileV} {o : OpV} {j : Nat} (h : j < fs.length) : (fs.modify j (putF o)).getD j (sNone, sNone) = putF o (fs.getD j (sNone, sNone)) := by
 simp only [List.getD_eq_getElem?_getD, List.getElem?_modify, List.getElem?_eq_getElem h, if_pos]
 rfl
theorem fileB_snoc (fs : List FileV) (f : FileV) : fileB (fs ++ [f]) = if f.1 = sFile then f.2 else fileB fs := by simp [fileB]
theorem fileB_at (fs : List FileV) : ∀ k, k <= fs.length -> fileB (fs.take k) = if atK fs sFile k < 0 then ⟨#[]⟩ else (fs.getD (atK fs sFile k).toNat (sNone, sNone)).2 := by
 intro k
 induction k with
 | zero => intro _; rfl
 | succ k ih =>
  intro hk
  have hkl : k < fs.length := by omega
  have e : fs.getD k (sNone, sNone) = fs[k] := by simp [List.getD_eq_getElem?_getD, List.getElem?_eq_getElem hkl]
  rw [List.take_succ_eq_append_getElem hkl, fileB_snoc, ih (by omega)]
  conv => rhs; unfold atK
  rw [e]
  by_cases h : fs[k].1 = sFile
  ·rw [if_pos h, if_pos h, if_neg (by omega)]
   simp [List.getD_eq_getElem?_getD, List.getElem?_eq_getElem hkl]
  ·rw [if_neg h, if_neg h]
theorem fileB_all (fs : List FileV) : fileB fs = if atK fs sFile fs.length < 0 then ⟨#[]⟩ else (fs.getD (atK fs sFile fs.length).toNat (sNone, sNone)).2 := by
 have := fileB_at fs fs.length (Nat.le_refl _)
 rw [List.take_length] at this
 exact this
theorem atK_snoc (fs : List FileV) (a c : ByteArray) : atK (fs ++ [(a, c)]) a (fs ++ [(a, c)]).length = fs.length := by
 rw [List.length_append, List.length_singleton]
 unfold atK
 rw [if_pos (by simp)]
theorem opS_write (fs : List FileV) (a b c : ByteArray) : 0 <= atK (opS fs ⟨0, a, b, c⟩) a (opS fs ⟨0, a, b, c⟩).length /\ ((opS fs ⟨0, a, b, c⟩).getD (atK (opS fs ⟨0, a, b, c⟩) a (opS fs ⟨0, a, b, c⟩).length).toNat (sNone, sNone)).2 = c := by
 have e : opS fs ⟨0, a, b, c⟩ = if atK fs a fs.length < 0 then fs ++ [(a, c)] else fs.modify (atK fs a fs.length).toNat (putF ⟨0, a, b, c⟩) := by unfold opS; rw [if_pos (.inl rfl)]
 rw [e]
 by_cases h : atK fs a fs.length < 0
 ·rw [if_pos h, atK_snoc]
  exact ⟨by omega, by simp⟩
 ·rw [if_neg h]
  have hn : atK (fs.modify (atK fs a fs.length).toNat (putF ⟨0, a, b, c⟩)) a (fs.modify (atK fs a fs.length).toNat (putF ⟨0, a, b, c⟩)).length = atK fs a fs.length := by
   rw [List.length_modify]
   exact atK_names a _ (fun i _ => modify_names fs _ _ i)
  rw [hn]
  have hr := atK_range fs a fs.length
  refine ⟨by omega, ?_⟩
  rw [getD_modify (by omega)]
  rfl
theorem fileB_new (fs : List FileV) (b : List UInt8) : fileB (doneS fs (opsNew b)) = ⟨b.toArray⟩ := by
 have hne : sDraft ≠ sFile := by decide
 obtain ⟨h1, h2⟩ := opS_write fs sDraft sNone ⟨b.toArray⟩
 have e : doneS fs (opsNew b) = dropN (dropN (opS fs ⟨0, sDraft, sNone, ⟨b.toArray⟩⟩) sDraft) sFile ++ [(sFile, ⟨b.toArray⟩)] := by
  have e1 : doneS fs (opsNew b) = opS (opS (opS (opS fs ⟨0, sDraft, sNone, ⟨b.toArray⟩⟩) ⟨2, sDraft, sNone, sNone⟩) ⟨3, sDraft, sFile, sNone⟩) ⟨4, sNone, sNone, sNone⟩ := rfl
  have e2 : ∀ gs : List FileV, opS gs ⟨2, sDraft, sNone, sNone⟩ = gs := fun gs => by simp [opS]
  have e4 : ∀ gs : List FileV, opS gs ⟨4, sNone, sNone, sNone⟩ = gs := fun gs => by simp [opS]
  rw [e1, e4, e2]
  generalize opS fs ⟨0, sDraft, sNone, ⟨b.toArray⟩⟩ = gs at *
  unfold opS
  rw [if_neg (by simp), if_pos rfl, if_pos ⟨h1, hne⟩]
  simp only [h2]
 rw [e, fileB_snoc, if_pos rfl]
theorem fileB_add (fs : List FileV) (b : List UInt8) : fileB (doneS fs (opsAdd b)) = fileB fs ++ ⟨b.toArray⟩ := by
 have e1 : doneS fs (opsAdd b) = opS fs ⟨1, sFile, sNone, ⟨b.toArray⟩⟩ := by
  show opS (opS fs ⟨1, sFile, sNone, ⟨b.toArray⟩⟩) ⟨2, sFile, sNone, sNone⟩ = _
  have e2 : ∀ gs : List FileV, opS gs ⟨2, sFile, sNone, sNone⟩ = gs := fun gs => by simp [opS]
  rw [e2]
 rw [e1]
 have e : opS fs ⟨1, sFile, sNone, ⟨b.toArray⟩⟩ = if atK fs sFile fs.length < 0 then fs ++ [(sFile, ⟨b.toArray⟩)] else fs.modify (atK fs sFile fs.length).toNat (putF ⟨1, sFile, sNone, ⟨b.toArray⟩⟩) := by unfold opS; rw [if_pos (.inr rfl)]
 rw [e]
 by_cases h : atK fs sFile fs.length < 0
 ·rw [if_pos h, fileB_snoc, if_pos rfl, fileB_all fs, if_pos h]
  exact (ByteArray.empty_append).symm
 ·rw [if_neg h, fileB_all, fileB_all fs, if_neg h]
  have hn : atK (fs.modify (atK fs sFile fs.length).toNat (putF ⟨1, sFile, sNone, ⟨b.toArray⟩⟩)) sFile (fs.modify (atK fs sFile fs.length).toNat (putF ⟨1, sFile, sNone, ⟨b.toArray⟩⟩)).length = atK fs sFile fs.length := by
   rw [List.length_modify]
   exact atK_names sFile _ (fun i _ => modify_names fs _ _ i)
  have hr := atK_range fs sFile fs.length
  rw [hn, if_neg h, getD_modify (by omega)]
  rfl
theorem flat_add (rs : List ByteArray) (r : ByteArray) : (⟨(flatF rs).toArray⟩ : ByteArray) ++ ⟨(frameB r.data.toList).toArray⟩ = ⟨(flatF (rs ++ [r])).toArray⟩ := by
 rw [flatF_snoc]
 apply ByteArray.ext
 simp [ByteArray.data_append]
def capO (M : Nat) (o : OpV) : Nat := if o.k = 1 then M + o.c.size else max M o.c.size
def capN (M : Nat) (ops : List OpV) : Nat := ops.foldl capO M
theorem capN_append (M : Nat) (a b : List OpV) : capN M (a ++ b) = capN (capN M a) b := by simp [capN]
theorem capO_le (M : Nat) (o : OpV) : M <= capO M o := by unfold capO; split <;> omega
theorem capN_le (M : Nat) (ops : List OpV) : M <= capN M ops := by
 induction ops generalizing M with
 | nil => exact Nat.le_refl _
 | cons o t ih => exact Nat.le_trans (capO_le M o) (ih (capO M o))
theorem opS_size {fs : List FileV} {M : Nat} (h : ∀ f ∈ fs, f.2.size <= M) (o : OpV) : ∀ f ∈ opS fs o, f.2.size <= capO M o := by
 have hM := capO_le M o
 have hat : ∀ i, (fs.getD i (sNone, sNone)).2.size <= M := fun i => by
  rw [List.getD_eq_getElem?_getD]
  cases hq : fs[i]? with
  | none => exact Nat.zero_le _
  | some f => exact h f (List.mem_of_getElem? hq)
 have hdrop : ∀ (gs : List FileV) a, (∀ f ∈ gs, f.2.size <= capO M o) -> ∀ f ∈ dropN gs a, f.2.size <= capO M o := fun gs a hg f hf => hg f (List.mem_filter.1 hf).1
 have h' : ∀ f ∈ fs, f.2.size <= capO M o := fun f hf => Nat.le_trans (h f hf) hM
 unfold opS
 split
 ·rename_i hk
  split
  ·intro f hf
   rcases List.mem_append.1 hf with hf | hf
   ·exact h' f hf
   ·simp at hf
    subst hf
    unfold capO
    split <;> simp <;> omega
  ·intro f hf
   obtain ⟨i, hi, rfl⟩ := List.getElem_of_mem hf
   rw [List.length_modify] at hi
   rw [List.getElem_modify]
   have := h _ (List.getElem_mem hi)
   split
   ·unfold putF capO
    simp only
    rcases hk with hk | hk
    ·rw [if_pos hk, if_neg (by omega)]; omega
    ·rw [if_neg (by omega), if_pos hk, ByteArray.size_append]; omega
   ·omega
 ·split
  ·split
   ·intro f hf
    rcases List.mem_append.1 hf with hf | hf
    ·exact hdrop _ _ (hdrop _ _ h') f hf
    ·simp at hf
     subst hf
     exact Nat.le_trans (hat _) hM
   ·exact h'
  ·split
   ·exact hdrop _ _ h'
   ·exact h'
theorem doneS_size {fs : List FileV} {M : Nat} (h : ∀ f ∈ fs, f.2.size <= M) (ops : List OpV) : ∀ f ∈ doneS fs ops, f.2.size <= capN M ops := by
 induction ops generalizing fs M with
 | nil => exact h
 | cons o t ih => exact ih (opS_size h o)
theorem dropN_len (fs : List FileV) (a : ByteArray) : (dropN fs a).length <= fs.length := List.length_filter_le _ _
theorem opS_len (fs : List FileV) (o : OpV) : (opS fs o).length <= fs.length + 1 := by
 unfold opS
 split
 ·split
  ·simp
  ·simp
 ·split
  ·split
   ·have h1 := dropN_len fs o.a
    have h2 := dropN_len (dropN fs o.a) o.b
    simp
    omega
   ·omega
  ·split
   ·have h1 := dropN_len fs o.a
    omega
   ·omega
theorem doneS_len (fs : List FileV) (ops : List OpV) : (doneS fs ops).length <= fs.length + ops.length := by
 induction ops generalizing fs with
 | nil => simp [doneS]
 | cons o t ih =>
  have h1 := opS_len fs o
  have h2 := ih (opS fs o)
  show (doneS (opS fs o) t).length <= _
  simp only [List.length_cons]
  omega
end
-- VOb
section
open Go.RowKit Go.Maps
theorem norm_idx (S : List Stk) (kd m k n : Int) : (normS S).findIdx? (fun x => x.is kd m k n) = S.findIdx? (fun x => x.is kd m k n) := by
 unfold normS
 rw [List.findIdx?_map]
 rfl
theorem norm_find (S : List Stk) (kd m k n : Int) : (normS S).find? (fun x => x.is kd m k n) = (S.find? (fun x => x.is kd m k n)).map Stk.norm := by
 unfold normS
 rw [List.find?_map]
 rfl
theorem norm_len (S : List Stk) : (normS S).length = S.length := by simp [normS]
theorem norm_makeCode (S : List Stk) (kd m k n : Int) (t : Nat) : makeCode (normS S) kd m k n t = makeCode S kd m k n t := by
 unfold makeCode
 rw [norm_find, norm_len]
 cases S.find? (fun x => x.is kd m k n) with
 | none => rfl
 | some x => simp [Stk.norm]
theorem norm_leaseCode (S : List Stk) (ls : List LsV) (kd m k n c : Int) : leaseCodeS (normS S) ls kd m k n c = leaseCodeS S ls kd m k n c := by
 unfold leaseCodeS
 rw [norm_find]
 cases S.find? (fun x => x.is kd m k n) with
 | none => rfl
 | some x => simp [Stk.norm]
theorem norm_leasedAt (S : List Stk) (kd m k n : Int) : leasedAt (normS S) kd m k n = leasedAt S kd m k n := by
 unfold leasedAt
 rw [norm_find]
 cases S.find? (fun x => x.is kd m k n) with
 | none => rfl
 | some x => rfl
theorem norm_at (S : List Stk) (i : Nat) (h : i < S.length) : (normS S)[i]'(by rw [norm_len]; exact h) = S[i].norm := by simp [normS]
theorem norm_makeS (S : List Stk) (kd m k n : Nat) (us : List (List Int × Bool)) : makeS (normS S) kd m k n (us.map (normU (shOf kd m k n))) = normS (makeS S kd m k n us) := by
 unfold makeS
 rw [norm_idx]
 cases hq : S.findIdx? (fun x => x.is kd m k n) with
 | none =>
  simp only [normS, List.map_append, List.map_cons, List.map_nil]
  rfl
 | some ix =>
  obtain ⟨hix, hf⟩ := find_idx hq
  simp only
  refine List.ext_getElem (by simp [norm_len]) (fun i h1 h2 => ?_)
  have hi : i < S.length := by simpa [norm_len] using h2
  rw [List.getElem_modify, norm_at S i hi]
  rw [norm_at _ i (by simpa using hi), List.getElem_modify]
  by_cases he : ix = i
  ·subst he
   rw [if_pos rfl, if_pos rfl]
   have hx : S[ix].is kd m k n = true := by simpa using List.find?_some hf
   obtain ⟨e1, e2, e3, e4⟩ := is_iff.1 hx
   have hs : S[ix].sh = shOf kd m k n := by unfold Stk.sh; rw [show S[ix].kd = kd by omega, show S[ix].m = m by omega, show S[ix].k = k by omega, show S[ix].n = n by omega]
   unfold Stk.norm Stk.more
   simp only [List.map_append]
   rw [<- hs]
   rfl
  ·rw [if_neg he, if_neg he]
theorem norm_lendS (S : List Stk) (kd m k n : Int) (c : Nat) : lendS (normS S) kd m k n c = normS (lendS S kd m k n c) := by
 unfold lendS
 rw [norm_idx]
 cases hq : S.findIdx? (fun x => x.is kd m k n) with
 | none => rfl
 | some ix =>
  simp only
  refine List.ext_getElem (by simp [norm_len]) (fun i h1 h2 => ?_)
  have hi : i < S.length := by simpa [norm_len] using h2
  rw [List.getElem_modify, norm_at S i hi, norm_at _ i (by simpa using hi), List.getElem_modify]
  by_cases he : ix = i
  ·rw [if_pos he, if_pos he]; rfl
  ·rw [if_neg he, if_neg he]
def Backs (d : DS) (fs : List FileV) : Prop := d.kn = true -> ∃ rs, (∀ r ∈ rs, r.size <= 100000) /\ fileB (doneS fs d.ops) = ⟨(flatF rs).toArray⟩ /\ Plays rs ([], []) (normS d.S, d.ls)
theorem did_whole {fl : Bool} {ah : Int} {l : List OpV} (h : diskOk fl ah l.length = true) : didOps fl ah l = l := by
 unfold didOps diskN
 unfold diskOk at h
 rw [if_neg (by
  rintro ⟨h1, h2⟩
  rw [h1] at h
  simp at h
  omega), List.take_length]
theorem backs_add {d : DS} {fs : List FileV} {rec : ByteArray} {c : Chg} {S' : List Stk} {ls' : List LsV} (h : Backs d fs) (hI : InvK d.S d.ls) (hr : rec.size <= 100000) (hc : changeP rec.data.toList = some c) (ha : applyS (normS d.S) d.ls c = some (normS S', ls')) : Backs (d.add rec S' ls') fs := by
 intro hk
 have hok : d.ok rec = true := hk
 have hall := did_whole hok
 unfold DS.add
 simp only [hok, if_true]
 rw [hall, doneS_append]
 cases hkn : d.kn with
 | true =>
  obtain ⟨rs, h1, h2, h3⟩ := h hkn
  refine ⟨rs ++ [rec], fun r hm => ?_, ?_, h3.trans (Plays.one hc ha)⟩
  ·rcases List.mem_append.1 hm with hm | hm
   ·exact h1 r hm
   ·simp at hm; subst hm; exact hr
  ·unfold addOps
   rw [if_pos rfl, fileB_add, h2, flat_add]
 | false =>
  refine ⟨recsP d.S d.ls ++ [rec], fun r hm => ?_, ?_, (plays_recs hI).trans (Plays.one hc ha)⟩
  ·rcases List.mem_append.1 hm with hm | hm
   ·exact recs_size (fun x hx => hI.stkOk hx) r hm
   ·simp at hm; subst hm; exact hr
  ·unfold addOps
   rw [if_neg (by simp), fileB_new]
theorem backs_failAt {d : DS} {fs : List FileV} (h : Backs d fs) (n : Int) : Backs (d.failAt n) fs := h
theorem backs_opened (fs : List FileV) : Backs DS.opened fs := fun h => by cases h
theorem backs_restart (fb : ByteArray) (fs : List FileV) : Backs (DS.restart fb) fs := fun _ =>
 ⟨recsP (DS.restart fb).S (DS.restart fb).ls, recs_size (fun x hx => (restart_good fb).inv.toInvK.stkOk hx), fileB_new _ _, plays_recs (restart_good fb).inv.toInvK⟩
theorem backs_compact {d : DS} {fs : List FileV} (h : Backs d fs) (hg : d.Good) : Backs d.compact.2 fs := by
 unfold DS.compact
 split
 ·exact h
 ·intro hk
  have hok : diskOk d.fl d.ah 4 = true := hk
  have hc := hg.inv.compact
  have hl : (opsNew (flatF (recsP (compactS d.S d.ls) d.ls))).length = 4 := rfl
  have hall : didOps d.fl d.ah (opsNew (flatF (recsP (compactS d.S d.ls) d.ls))) = _ := did_whole (by rw [hl]; exact hok)
  simp only [hok, if_true]
  rw [hall, doneS_append]
  exact ⟨recsP (compactS d.S d.ls) d.ls, recs_size (fun x hx => hc.toInvK.stkOk hx), fileB_new _ _, plays_recs hc.toInvK⟩
theorem len_fillU (kd m k n : Int) (D : List Int) : (fillU kd m k n D).length = D.length / drawsN kd m k n := by simp [fillU, keptU, chunks]
theorem isCls_nats {kd m k n : Int} (h : isCls kd m k n = true) : isCls (kd.toNat : Nat) (m.toNat : Nat) (k.toNat : Nat) (n.toNat : Nat) = true /\ ((kd.toNat : Nat) : Int) = kd /\ ((m.toNat : Nat) : Int) = m /\ ((k.toNat : Nat) : Int) = k /\ ((n.toNat : Nat) : Int) = n := by
 obtain ⟨p1, p2, p3, p4⟩ := cls_nat h
 have e1 : ((kd.toNat : Nat) : Int) = kd := by omega
 have e2 : ((m.toNat : Nat) : Int) = m := by omega
 have e3 : ((k.toNat : Nat) : Int) = k := by omega
 have e4 : ((n.toNat : Nat) : Int) = n := by omega
 refine ⟨?_, e1, e2, e3, e4⟩
 rw [e1, e2, e3, e4]
 exact h
theorem fill_parts {d : DS} {kd m k n : Int} {D : List Int} (hg : d.Good) (hu : inU64 D) (hc : fillCode d.S kd m k n D = 0) :
  isCls (kd.toNat : Nat) (m.toNat : Nat) (k.toNat : Nat) (n.toNat : Nat) = true /\ fillU kd m k n D ≠ [] /\ (fillU kd m k n D).length <= 12 /\ (∀ u ∈ fillU kd m k n D, OkT (shOf kd.toNat m.toNat k.toNat n.toNat) u) /\ makeCode d.S (kd.toNat : Nat) (m.toNat : Nat) (k.toNat : Nat) (n.toNat : Nat) (fillU kd m k n D).length = 0 := by
 have hinv := fill_inv hg hu hc
 unfold fillCode at hc
 split at hc
 ·rename_i hcls
  obtain ⟨hN, e1, e2, e3, e4⟩ := isCls_nats hcls
  split at hc
  ·simp at hc
  ·rename_i hno
   have hl := len_fillU kd m k n D
   refine ⟨hN, fun h => ?_, by omega, fun u hmu => ?_, ?_⟩
   ·rw [h] at hl; simp at hl; omega
   ·have hix : ∃ x ∈ makeS d.S kd.toNat m.toNat k.toNat n.toNat (fillU kd m k n D), x.sh = shOf kd.toNat m.toNat k.toNat n.toNat /\ u ∈ x.ts := by
     unfold makeS
     cases hq : d.S.findIdx? (fun x => x.is kd.toNat m.toNat k.toNat n.toNat) with
     | none => exact ⟨_, List.mem_append_right _ (List.mem_singleton.2 rfl), rfl, hmu⟩
     | some ix =>
      obtain ⟨hix, hf⟩ := find_idx hq
      have hx : d.S[ix].is kd.toNat m.toNat k.toNat n.toNat = true := by simpa using List.find?_some hf
      obtain ⟨q1, q2, q3, q4⟩ := is_iff.1 hx
      refine ⟨d.S[ix].more (fillU kd m k n D), ?_, ?_, List.mem_append_right _ hmu⟩
      ·have : (d.S.modify ix (fun x => x.more (fillU kd m k n D)))[ix]'(by simpa using hix) = d.S[ix].more (fillU kd m k n D) := by rw [List.getElem_modify, if_pos rfl]
       simp only
       rw [<- this]
       exact List.getElem_mem _
      ·show shOf d.S[ix].kd d.S[ix].m d.S[ix].k d.S[ix].n = _
       rw [show d.S[ix].kd = kd.toNat by omega, show d.S[ix].m = m.toNat by omega, show d.S[ix].k = k.toNat by omega, show d.S[ix].n = n.toNat by omega]
    obtain ⟨x, hx, hs, hux⟩ := hix
    have := hinv.ok x hx u hux
    rw [hs] at this
    exact this
   ·rw [hl, e1, e2, e3, e4]
    exact hc
 ·simp at hc
theorem fillRec_size {d : DS} {kd m k n : Int} {D : List Int} (hg : d.Good) (hu : inU64 D) (hc : fillCode d.S kd m k n D = 0) : (fillRec kd m k n D).size <= 6000 := by
 obtain ⟨h1, h2, h3, h4, h5⟩ := fill_parts hg hu hc
 have hle := Sh.le (shOf_of h1).2
 have ht := len_trisB (s := shOf kd.toNat m.toNat k.toNat n.toNat) (by omega) h4
 have hm := Nat.mul_le_mul_right 433 h3
 show (makeB kd.toNat m.toNat k.toNat n.toNat (shOf kd.toNat m.toNat k.toNat n.toNat) (fillU kd m k n D)).toArray.size <= 6000
 rw [List.size_toArray]
 unfold makeB
 rw [List.length_append]
 have hh : (headB kd.toNat m.toNat k.toNat n.toNat).length = 5 := rfl
 omega
theorem backs_refill {d : DS} {fs : List FileV} {kd m k n : Int} {D : List Int} (h : Backs d fs) (hg : d.Good) (hu : inU64 D) : Backs (d.refill kd m k n D).2 fs := by
 unfold DS.refill
 split
 ·rename_i hc
  obtain ⟨h1, h2, h3, h4, h5⟩ := fill_parts hg hu hc
  have hs := fillRec_size hg hu hc
  refine backs_add h hg.inv.toInvK (by omega) (c := .making kd.toNat m.toNat k.toNat n.toNat ((fillU kd m k n D).map (normU (shOf kd.toNat m.toNat k.toNat n.toNat)))) ?_ ?_
  ·exact changeP_make h1 h2 h4
  ·simp only [applyS]
   rw [norm_makeCode, List.length_map, if_pos h5, norm_makeS]
 ·exact h
theorem inB_nums {s i kd m k n f c p : Int} {z : Bool} (h : inB s i kd m k n f c p z = true) : (0 <= s /\ s <= 2147483647) /\ (0 <= i /\ i <= 2147483647) /\ (0 <= c /\ c <= 2147483647) /\ (0 <= kd /\ kd <= 255) /\ (0 <= m /\ m <= 255) /\ (0 <= k /\ k <= 255) /\ (0 <= n /\ n <= 255) /\ z = true := by
 simp only [inB, isNum, isByt, Bool.and_eq_true, decide_eq_true_eq] at h
 obtain ⟨h1, h2, h3, h4, h5, h6, h7, h8, h9, h10⟩ := h
 exact ⟨by omega, by omega, by omega, by omega, by omega, by omega, by omega, h10⟩
theorem lease_cast {s i kd m k n c : Int} (h1 : 0 <= s) (h2 : 0 <= i) (h3 : 0 <= kd) (h4 : 0 <= m) (h5 : 0 <= k) (h6 : 0 <= n) (h7 : 0 <= c) : ((s.toNat : Nat) : Int) = s /\ ((i.toNat : Nat) : Int) = i /\ ((kd.toNat : Nat) : Int) = kd /\ ((m.toNat : Nat) : Int) = m /\ ((k.toNat : Nat) : Int) = k /\ ((n.toNat : Nat) : Int) = n /\ ((c.toNat : Nat) : Int) = c := by omega
theorem leaseRec_len (s i kd m k n c : Nat) : (leaseRec s i kd m k n c).size <= 6000 := by
 show ([1] ++ flatB (leaseVals s i kd m k n c) leaseL).toArray.size <= 6000
 simp [flatB, leaseL, len_bytesOf]
theorem relRec_len (s i : Nat) : (relRec s i).size <= 6000 := by
 show ([3] ++ flatB (releaseVals s i) releaseL).toArray.size <= 6000
 simp [flatB, releaseL, len_bytesOf]
theorem recOf_size (kk s i kd m k n c : Int) : (recOf kk s i kd m k n c).size <= 6000 := by
 unfold recOf
 split
 ·exact leaseRec_len ..
 ·exact relRec_len ..
theorem find_of_idx_none {ls : List LsV} {p : LsV -> Bool} (h : ls.find? p = none) : ls.findIdx? p = none := by
 cases hq : ls.findIdx? p with
 | none => rfl
 | some i =>
  obtain ⟨hi, h2⟩ := find_idx hq
  rw [h] at h2
  cases h2
theorem backs_ask {d : DS} {fs : List FileV} (h : Backs d fs) (hg : d.Good) (kk s i kd m k n f c p : Int) : Backs (d.ask kk s i kd m k n f c p).2 fs := by
 unfold DS.ask
 have hsz : (recOf kk s i kd m k n c).size <= 100000 := by have := recOf_size kk s i kd m k n c; omega
 by_cases h1 : kk = 1
 ·subst h1
  unfold ansS
  rw [if_pos rfl]
  split
  ·rename_i hin
   obtain ⟨n1, n2, n3, n4, n5, n6, n7, _⟩ := inB_nums hin
   obtain ⟨e1, e2, e3, e4, e5, e6, e7⟩ := lease_cast n1.1 n2.1 n4.1 n5.1 n6.1 n7.1 n3.1
   split
   ·split
    ·exact h
    ·exact h
   ·rename_i hf
    split
    ·rename_i hcd
     refine backs_add h hg.inv.toInvK hsz (c := .leasing s.toNat i.toNat kd.toNat m.toNat k.toNat n.toNat c.toNat) (changeP_lease (by omega) (by omega) (by omega) (by omega) (by omega) (by omega) (by omega)) ?_
     simp only [applyS, e1, e2, e3, e4, e5, e6, e7]
     rw [find_of_idx_none hf, norm_leaseCode, hcd, norm_leasedAt, norm_lendS]
     rfl
    ·exact h
  ·exact h
 ·by_cases h3 : kk = 3
  ·subst h3
   unfold ansS
   rw [if_neg h1, if_neg (by decide), if_pos rfl]
   split
   ·rename_i hin
    obtain ⟨n1, n2, _⟩ := inB_nums hin
    split
    ·rename_i l hf
     split
     ·exact h
     ·rename_i hr
      refine backs_add h hg.inv.toInvK hsz (c := .releasing s.toNat i.toNat) (changeP_release (by omega) (by omega)) ?_
      have e1 : ((s.toNat : Nat) : Int) = s := by omega
      have e2 : ((i.toNat : Nat) : Int) = i := by omega
      simp only [applyS, e1, e2]
      have hcd : releaseCode d.ls s i = 0 := by unfold releaseCode; rw [hf]; simp only [if_neg hr]
      rw [if_pos hcd]
    ·exact h
   ·exact h
  ·unfold ansS
   rw [if_neg h1]
   by_cases h2 : kk = 2
   ·rw [if_pos h2]
    split
    ·split
     ·exact h
     ·split
      ·exact h
      ·split
       ·exact h
       ·split
        ·exact h
        ·exact h
    ·exact h
   ·rw [if_neg h2, if_neg h3]
    split
    ·split
     ·split
      ·exact h
      ·exact h
     ·exact h
    ·exact h
theorem cap_take (M : Nat) (l : List OpV) (q : Nat) : capN M (l.take q) <= capN M l := by
 conv => rhs; rw [<- List.take_append_drop q l, capN_append]
 exact capN_le _ _
theorem cap_new (M : Nat) (b : List UInt8) : capN M (opsNew b) <= max M b.length := by
 simp only [capN, opsNew, List.foldl_cons, List.foldl_nil, capO]
 have e1 : (⟨b.toArray⟩ : ByteArray).size = b.length := by show b.toArray.size = _; simp
 have e2 : sNone.size = 0 := rfl
 simp only [e1, e2]
 simp
theorem cap_opsAdd (M : Nat) (b : List UInt8) : capN M (opsAdd b) <= M + b.length := by
 simp only [capN, opsAdd, List.foldl_cons, List.foldl_nil, capO]
 have e1 : (⟨b.toArray⟩ : ByteArray).size = b.length := by show b.toArray.size = _; simp
 have e2 : sNone.size = 0 := rfl
 simp only [e1, e2]
 simp
theorem recs_count (S : List Stk) (ls : List LsV) : (recsP S ls).length <= S.length + 2 * ls.length := by
 have := List.length_filter_le (fun l : LsV => l.r) ls
 simp only [recsP, List.length_append, List.length_map]
 omega
theorem recs_flat {S : List Stk} {ls : List LsV} (hI : InvK S ls) : (flatF (recsP S ls)).length <= 7000000 := by
 have h1 := len_flatF (recsP S ls) (recs_size (fun x hx => hI.stkOk hx))
 have h2 := recs_count S ls
 have := hI.stocks
 have := hI.leases
 have h3 := Nat.mul_le_mul_right 100012 (show (recsP S ls).length <= 66 by omega)
 omega
theorem recs_flat1 {S : List Stk} {ls : List LsV} (hI : InvK S ls) {r : ByteArray} (hr : r.size <= 100000) : (flatF (recsP S ls ++ [r])).length <= 7000000 := by
 have h1 := len_flatF (recsP S ls ++ [r]) (fun x hx => by
  rcases List.mem_append.1 hx with hx | hx
  ·exact recs_size (fun x hx => hI.stkOk hx) x hx
  ·simp at hx; subst hx; exact hr)
 have h2 := recs_count S ls
 have := hI.stocks
 have := hI.leases
 rw [List.length_append, List.length_singleton] at h1
 have h3 := Nat.mul_le_mul_right 100012 (show (recsP S ls).length + 1 <= 67 by omega)
 omega
theorem cap_add {d : DS} {rec : ByteArray} {S' : List Stk} {ls' : List LsV} (M : Nat) (hI : InvK d.S d.ls) (hr : rec.size <= 6000) : capN M (d.add rec S' ls').ops <= max (capN M d.ops) 7000000 + 6012 := by
 unfold DS.add
 simp only
 rw [capN_append]
 refine Nat.le_trans (cap_take _ _ _) ?_
 unfold addOps
 have hl : rec.data.toList.length = rec.size := by simp
 split
 ·have := cap_opsAdd (capN M d.ops) (frameB rec.data.toList)
  rw [len_frameB] at this
  omega
 ·have := cap_new (capN M d.ops) (flatF (recsP d.S d.ls ++ [rec]))
  have := recs_flat1 hI (show rec.size <= 100000 by omega)
  omega
theorem cap_after {d : DS} {A : Ans} {rec : ByteArray} (M : Nat) (hI : InvK d.S d.ls) (hr : rec.size <= 6000) : capN M (d.after A rec).2.ops <= max (capN M d.ops) 7000000 + 6012 := by
 unfold DS.after
 split
 ·simp only; omega
 ·exact cap_add M hI hr
theorem cap_refill {d : DS} {kd m k n : Int} {D : List Int} (M : Nat) (hg : d.Good) (hu : inU64 D) : capN M (d.refill kd m k n D).2.ops <= max (capN M d.ops) 7000000 + 6012 := by
 unfold DS.refill
 split
 ·rename_i hc
  exact cap_add M hg.inv.toInvK (fillRec_size hg hu hc)
 ·simp only; omega
theorem cap_compact {d : DS} (M : Nat) (hg : d.Good) : capN M d.compact.2.ops <= max (capN M d.ops) 7000000 + 6012 := by
 unfold DS.compact
 split
 ·simp only; omega
 ·simp only
  rw [capN_append]
  refine Nat.le_trans (cap_take _ _ _) ?_
  have := cap_new (capN M d.ops) (flatF (recsP (compactS d.S d.ls) d.ls))
  have := recs_flat hg.inv.compact.toInvK
  omega
def Sz (d : DS) (fs : List FileV) (N : Nat) : Prop := ∃ M, (∀ f ∈ fs, f.2.size <= M) /\ capN M d.ops <= 7000000 + 6012 * N
theorem Sz.next {d d' : DS} {fs : List FileV} {N : Nat} (h : Sz d fs N) (k : ∀ M, capN M d'.ops <= max (capN M d.ops) 7000000 + 6012) : Sz d' fs (N + 1) := by
 obtain ⟨M, h1, h2⟩ := h
 refine ⟨M, h1, Nat.le_trans (k M) ?_⟩
 generalize capN M d.ops = X at *
 omega
theorem Sz.files {d : DS} {fs : List FileV} {N : Nat} (h : Sz d fs N) : ∀ f ∈ doneS fs d.ops, f.2.size <= 7000000 + 6012 * N := by
 obtain ⟨M, h1, h2⟩ := h
 intro f hf
 have := doneS_size h1 d.ops f hf
 omega
theorem Sz.restart {d : DS} {fs : List FileV} {N : Nat} (h : Sz d fs N) (fb : ByteArray) : Sz (DS.restart fb) (doneS fs d.ops) N := by
 obtain ⟨X, hX⟩ : ∃ X, X = 7000000 + 6012 * N := ⟨_, rfl⟩
 have h1 := cap_new X (flatF (recsP (DS.restart fb).S (DS.restart fb).ls))
 have h2 := recs_flat (restart_good fb).inv.toInvK
 have e : (DS.restart fb).ops = opsNew (flatF (recsP (DS.restart fb).S (DS.restart fb).ls)) := rfl
 rw [<- e] at h1
 exact ⟨X, by rw [hX]; exact h.files, by omega⟩
end
-- VOc
section
open Go.RowKit Go.Maps
theorem ask_good {d : DS} (hg : d.Good) (ho : d.ops.length <= 1000000) (kk s i kd m k n f c p : Int) : (d.ask kk s i kd m k n f c p).2.Good := by
 have hI := hg.inv
 have e : (d.S.map (fun x : Stk => (⟨0, 0, x.kd, x.m, x.k, x.n, x.ts, x.leased⟩ : StkR))).map StkR.abs = d.S := by
  rw [List.map_map]
  exact (List.map_congr_left (fun x _ => rfl)).trans (List.map_id _)
 rw [<- e] at hI
 have hx := ask_x hI ho kk s i kd m k n f c p
 rw [e] at hx
 unfold DS.ask
 exact hg.after hx.2.2
theorem covers_iff {kd m k n num : Int} {l : LsV} : covers kd m k n num l = true ↔ (l.kd = kd /\ l.m = m /\ l.k = k /\ l.n = n) /\ l.f <= num /\ num < l.f + l.c := by
 simp only [covers, Bool.and_eq_true, beq_iff_eq, decide_eq_true_eq]
theorem sound_norm {S : List Stk} {ls : List LsV} (hI : InvQ S ls) : soundS (normS S) ls = true := by
 refine List.all_eq_true.2 (fun y hy => ?_)
 obtain ⟨x, hx, rfl⟩ := List.mem_map.1 hy
 refine List.all_eq_true.2 (fun j hj => ?_)
 have hjl : j < x.ts.length := by simpa [Stk.norm] using hj
 unfold soundT
 have e : (x.norm.ts.getD j ([], false)).2 = x.ts[j].2 := by
  simp only [Stk.norm, List.getD_eq_getElem?_getD, List.getElem?_map, List.getElem?_eq_getElem hjl, Option.map_some, Option.getD_some, normU_2]
 rw [e]
 cases hk : x.ts[j].2 with
 | true => rfl
 | false =>
  obtain ⟨l, hl, h1, h2, h3, h4⟩ := hI.kept x hx j hjl hk
  obtain ⟨e1, e2, e3, e4⟩ := is_iff.1 h2
  have hcov : covers x.kd x.m x.k x.n j l = true := covers_iff.2 ⟨⟨e1.symm, e2.symm, e3.symm, e4.symm⟩, h3, h4⟩
  unfold coverR
  show (false || match ls.find? (covers x.kd x.m x.k x.n j) with | some l => l.r | none => false) = true
  rw [Bool.false_or]
  cases hf : ls.find? (covers x.kd x.m x.k x.n j) with
  | none => exact absurd hcov (by simpa using List.find?_eq_none.1 hf l hl)
  | some l' =>
   obtain ⟨⟨q1, q2, q3, q4⟩, q5, q6⟩ := covers_iff.1 (List.find?_some hf)
   have := same_lease hI hl (List.mem_of_find?_eq_some hf) ⟨by omega, by omega, by omega, by omega⟩ ⟨h3, h4⟩ ⟨q5, q6⟩
   rw [this]
   exact h1
theorem restart_backs {d : DS} {fs : List FileV} (h : Backs d fs) (hk : d.kn = true) (hg : d.Good) : (DS.restart (fileB (doneS fs d.ops))).S = normS d.S /\ (DS.restart (fileB (doneS fs d.ops))).ls = d.ls := by
 obtain ⟨rs, h1, h2, h3⟩ := h hk
 have hr : replayS (strL (readP (fileB (doneS fs d.ops)).data.toList)) ([], []) = (normS d.S, d.ls) := by
  rw [h2]
  show replayS (strL (readP (flatF rs).toArray.toList)) ([], []) = _
  rw [List.toList_toArray, readP_flat rs h1]
  exact h3.all
 unfold DS.restart restartS
 rw [hr]
 simp only [sound_norm hg.inv, if_true]
 exact ⟨trivial, trivial⟩
def DS.settle (d : DS) : Bool × DS := match d.ls.find? (fun l => !l.r) with
 | some l => (true, ((d.failAt (-1)).ask 3 l.s l.i 0 0 0 0 0 0 0).2)
 | none => (((d.failAt (-1)).refill 0 1 1 1 (fillS [] 5)).1 == 0, ((d.failAt (-1)).refill 0 1 1 1 (fillS [] 5)).2)
theorem ok_free {d : DS} (h : d.fl = false) (rec : ByteArray) : d.ok rec = true := by unfold DS.ok diskOk; rw [h]; rfl
theorem ask_free {d : DS} (hg : d.Good) (hf : d.fl = false) {l : LsV} (hl : l ∈ d.ls) : d.ask 3 l.s l.i 0 0 0 0 0 0 0 = if l.r = true then (⟨8, 0, 0, []⟩, d) else (⟨0, l.f, l.c, []⟩, d.add (relRec l.s.toNat l.i.toNat) d.S (freeS d.ls l.s l.i)) := by
 obtain ⟨p1, p2, _⟩ := hg.inv.lok l hl
 have hin : inB l.s l.i 0 0 0 0 0 0 0 (((0 : Int) == 0 && ((0 : Int) == 0 && ((0 : Int) == 0 && (0 : Int) == 0))) && ((0 : Int) == 0 && ((0 : Int) == 0 && (0 : Int) == 0))) = true := by
  simp [inB, isNum, isByt]
  omega
 have hfind : d.ls.find? (isNamed l.s l.i) = some l := by
  cases hq : d.ls.find? (isNamed l.s l.i) with
  | none =>
   have := List.find?_eq_none.1 hq l hl
   simp [isNamed] at this
  | some l' =>
   obtain ⟨i, hi, rfl⟩ := List.getElem_of_mem hl
   obtain ⟨j, hj, hje⟩ := List.getElem_of_mem (List.mem_of_find?_eq_some hq)
   have hn := List.find?_some hq
   simp only [isNamed, Bool.and_eq_true, beq_iff_eq] at hn
   rw [<- hje] at hn ⊢
   have := hg.inv.names j i hj hi hn.1 hn.2
   subst this
   rfl
 unfold DS.ask ansS
 rw [if_neg (by decide), if_neg (by decide), if_pos rfl, if_pos hin, hfind]
 simp only
 cases hr : l.r with
 | true => rfl
 | false =>
  simp only [DS.after, Bool.false_eq_true, if_false]
  rw [ok_free hf]
  rfl
theorem settle_kn {d : DS} (hg : d.Good) (h : d.settle.1 = true) : d.settle.2.kn = true := by
 unfold DS.settle at h ⊢
 cases hq : d.ls.find? (fun l => !l.r) with
 | some l =>
  rw [hq] at h
  simp only
  have hl : l ∈ (d.failAt (-1)).ls := List.mem_of_find?_eq_some hq
  have hr : l.r = false := by simpa using List.find?_some hq
  rw [ask_free (failAt_good hg (by decide)) rfl hl, if_neg (by rw [hr]; simp)]
  exact ok_free (d := d.failAt (-1)) rfl (relRec l.s.toNat l.i.toNat)
 | none =>
  rw [hq] at h
  simp only at h ⊢
  unfold DS.refill at h ⊢
  split at h
  ·rename_i hc
   rw [if_pos hc]
   exact ok_free (d := d.failAt (-1)) rfl (fillRec 0 1 1 1 (fillS [] 5))
  ·rename_i hc
   simp at h
   exact absurd h hc
def stepR (d : DS) (fs : List FileV) (kd a b c n : Int) (D : List Int) : Rep × DS × List FileV :=
 if pickN kd 7 = 6 then
  (⟨0, 0, 0, []⟩, if d.settle.1 = true then (DS.restart (fileB (doneS fs d.settle.2.ops)), doneS fs d.settle.2.ops) else (d.settle.2, fs))
 else ((stepS d kd a b c n D).1, (stepS d kd a b c n D).2, fs)
structure RunOk (d : DS) (fs : List FileV) (N : Nat) : Prop where
 good : d.Good
 backs : Backs d fs
 sz : Sz d fs N
 len : fs.length + d.ops.length <= 8 * N
 ops : d.ops.length <= 4 * N + 4
theorem runOk_opened : RunOk DS.opened [] 0 where
 good := ⟨⟨⟨by simp [DS.opened], by simp [DS.opened], by simp [DS.opened], by simp [DS.opened], fun i j hi => by simp [DS.opened] at hi, by simp [DS.opened], by simp [DS.opened], by simp [DS.opened], by simp [DS.opened], fun i hi => by simp [DS.opened] at hi, fun i hi => by simp [DS.opened] at hi, fun i j hi => by simp [DS.opened] at hi⟩, by simp [DS.opened]⟩, fun h => by cases h⟩
 backs := backs_opened []
 sz := ⟨0, by simp, by simp [DS.opened, capN]⟩
 len := by simp [DS.opened]
 ops := by simp [DS.opened]
theorem fill5 : inU64 (fillS [] 5) := fillS_u64 [] (by decide)
theorem settle_ok {d : DS} {fs : List FileV} {N : Nat} (h : RunOk d fs N) (hN : N <= 200000) : d.settle.2.Good /\ Backs d.settle.2 fs /\ Sz d.settle.2 fs (N + 1) /\ (fs.length + d.settle.2.ops.length <= 8 * N + 4 /\ d.settle.2.ops.length <= 4 * N + 8) := by
 have hg := failAt_good h.good (n := -1) (by decide)
 have hb := backs_failAt h.backs (-1)
 have hs : Sz (d.failAt (-1)) fs N := h.sz
 have hl : fs.length + (d.failAt (-1)).ops.length <= 8 * N := h.len
 have hl2 : (d.failAt (-1)).ops.length <= 4 * N + 4 := h.ops
 have hops : (d.failAt (-1)).ops.length <= 1000000 := by omega
 unfold DS.settle
 split
 ·rename_i l _
  refine ⟨ask_good hg hops _ _ _ _ _ _ _ _ _ _, backs_ask hb hg _ _ _ _ _ _ _ _ _ _, hs.next (fun M => cap_after M hg.inv.toInvK (recOf_size _ _ _ _ _ _ _ _)), ?_⟩
  have := after_ops (ansS (d.failAt (-1)).S (d.failAt (-1)).ls 3 l.s l.i 0 0 0 0 0 0 0) (recOf 3 l.s l.i 0 0 0 0 0) hg.ah
  show fs.length + ((d.failAt (-1)).after _ _).2.ops.length <= _ /\ ((d.failAt (-1)).after _ _).2.ops.length <= _
  omega
 ·refine ⟨refill_good hg fill5, backs_refill hb hg fill5, hs.next (fun M => cap_refill M hg fill5), ?_⟩
  have := refill_ops (d := d.failAt (-1)) 0 1 1 1 (fillS [] 5) hg.ah
  simp only
  omega
theorem draws_small (a b : Int) : (1 + pickN b 4) * (shOf (clsK (pickN a 4)).1 (clsK (pickN a 4)).2.1 (clsK (pickN a 4)).2.2.1 (clsK (pickN a 4)).2.2.2).dr <= 400 := by
 have hcls := clsK_cls (pickN a 4)
 obtain ⟨hofc, hok⟩ := shOf_of hcls
 have hle := Sh.le hok
 have hdrs : (shOf (clsK (pickN a 4)).1 (clsK (pickN a 4)).2.1 (clsK (pickN a 4)).2.2.1 (clsK (pickN a 4)).2.2.2).dr <= 100 := by unfold Sh.dr; omega
 have lb := pickN_lt b (show 0 < 4 by decide)
 have := Nat.mul_le_mul (show 1 + pickN b 4 <= 4 by omega) hdrs
 omega
theorem stepS_run {d : DS} {fs : List FileV} {N : Nat} (h : RunOk d fs N) (hN : N <= 200000) (kd a b c n : Int) (D : List Int) : RunOk (stepS d kd a b c n D).2 fs (N + 1) := by
 have hl := stepS_ops (d := d) kd a b c n D h.good.ah
 have hlen := h.len
 have hlo := h.ops
 have hops : d.ops.length <= 1000000 := by omega
 suffices hm : (stepS d kd a b c n D).2.Good /\ Backs (stepS d kd a b c n D).2 fs /\ Sz (stepS d kd a b c n D).2 fs (N + 1) from ⟨hm.1, hm.2.1, hm.2.2, by omega, by omega⟩
 have hask : ∀ kk s i kd m k n f c p : Int, (d.ask kk s i kd m k n f c p).2.Good /\ Backs (d.ask kk s i kd m k n f c p).2 fs /\ Sz (d.ask kk s i kd m k n f c p).2 fs (N + 1) := fun kk s i kd m k n f c p =>
  ⟨ask_good h.good hops _ _ _ _ _ _ _ _ _ _, backs_ask h.backs h.good _ _ _ _ _ _ _ _ _ _, h.sz.next (fun M => cap_after M h.good.inv.toInvK (recOf_size _ _ _ _ _ _ _ _))⟩
 unfold stepS
 simp only
 split
 ·have hu := fillS_u64 D (Nat.le_trans (draws_small a b) (by decide))
  exact ⟨refill_good h.good hu, backs_refill h.backs h.good hu, h.sz.next (fun M => cap_refill M h.good hu)⟩
 ·exact hask _ _ _ _ _ _ _ _ _ _
 ·exact hask _ _ _ _ _ _ _ _ _ _
 ·exact ⟨compact_good h.good, backs_compact h.backs h.good, h.sz.next (fun M => cap_compact M h.good)⟩
 ·have := pickN_lt a (show 0 < 10 by decide)
  refine ⟨failAt_good h.good (by omega), backs_failAt h.backs _, h.sz.next (fun M => ?_)⟩
  show capN M d.ops <= _
  omega
 ·exact hask _ _ _ _ _ _ _ _ _ _
theorem restart_run {d : DS} {fs : List FileV} {N : Nat} (hs : Sz d fs N) (fb : ByteArray) (hl : fs.length + d.ops.length <= 8 * N - 4) (hN : 1 <= N) : RunOk (DS.restart fb) (doneS fs d.ops) N where
 good := restart_good fb
 backs := backs_restart fb _
 sz := hs.restart fb
 len := by
  have h1 := doneS_len fs d.ops
  have h2 : (DS.restart fb).ops.length = 4 := rfl
  omega
 ops := by
  have h2 : (DS.restart fb).ops.length = 4 := rfl
  omega
theorem stepR_run {d : DS} {fs : List FileV} {N : Nat} (h : RunOk d fs N) (hN : N <= 200000) (kd a b c n : Int) (D : List Int) : RunOk (stepR d fs kd a b c n D).2.1 (stepR d fs kd a b c n D).2.2 (N + 1) := by
 unfold stepR
 split
 ·obtain ⟨h1, h2, h3, h4⟩ := settle_ok h hN
  simp only
  split
  ·exact restart_run h3 _ (by omega) (by omega)
  ·exact ⟨h1, h2, h3, by simp only; omega, by simp only; omega⟩
 ·exact stepS_run h hN kd a b c n D
end
-- VOd
section
open Go.RowKit Go.Maps
structure Keep4 (d : DS) : Prop where
 cls : ∀ x ∈ d.S, ∃ q : Nat, q < 4 /\ (x.kd, x.m, x.k, x.n) = clsK q
 ses : ∀ l ∈ d.ls, 1 <= l.s /\ l.s <= 3
def Cls4 (S : List Stk) : Prop := ∀ x ∈ S, ∃ q : Nat, q < 4 /\ (x.kd, x.m, x.k, x.n) = clsK q
theorem cls4_modify {S : List Stk} (h : Cls4 S) (i : Nat) (f : Stk -> Stk) (hf : ∀ x, ((f x).kd, (f x).m, (f x).k, (f x).n) = (x.kd, x.m, x.k, x.n)) : Cls4 (S.modify i f) := by
 intro x hx
 obtain ⟨j, hj, rfl⟩ := List.getElem_of_mem hx
 rw [List.length_modify] at hj
 rw [List.getElem_modify]
 split
 ·rw [hf]; exact h _ (List.getElem_mem hj)
 ·exact h _ (List.getElem_mem hj)
theorem cls4_norm {S : List Stk} (h : Cls4 S) : Cls4 (normS S) := by
 intro x hx
 obtain ⟨y, hy, rfl⟩ := List.mem_map.1 hx
 exact h y hy
theorem cls4_make {S : List Stk} (h : Cls4 S) (q : Nat) (hq : q < 4) (us : List (List Int × Bool)) : Cls4 (makeS S (clsK q).1 (clsK q).2.1 (clsK q).2.2.1 (clsK q).2.2.2 us) := by
 unfold makeS
 split
 ·exact cls4_modify h _ _ (fun x => rfl)
 ·intro x hx
  rcases List.mem_append.1 hx with hx | hx
  ·exact h x hx
  ·simp at hx; subst hx; exact ⟨q, hq, rfl⟩
theorem cls4_lend {S : List Stk} (h : Cls4 S) (kd m k n : Int) (c : Nat) : Cls4 (lendS S kd m k n c) := by
 unfold lendS
 split
 ·exact cls4_modify h _ _ (fun x => rfl)
 ·exact h
theorem cls4_forget {S : List Stk} (h : Cls4 S) (l : LsV) : Cls4 (forgetL S l) := by
 unfold forgetL
 split
 ·exact cls4_modify h _ _ (fun x => rfl)
 ·exact h
theorem cls4_compact {S : List Stk} (h : Cls4 S) (ls : List LsV) : Cls4 (compactS S ls) := by
 unfold compactS
 induction ls generalizing S with
 | nil => exact h
 | cons l t ih =>
  simp only [List.foldl_cons]
  apply ih
  split
  ·exact cls4_forget h l
  ·exact h
theorem ses_free {ls : List LsV} (h : ∀ l ∈ ls, 1 <= l.s /\ l.s <= 3) (s i : Int) : ∀ l ∈ freeS ls s i, 1 <= l.s /\ l.s <= 3 := by
 unfold freeS
 split
 ·intro l hl
  obtain ⟨j, hj, rfl⟩ := List.getElem_of_mem hl
  rw [List.length_modify] at hj
  rw [List.getElem_modify]
  split
  ·show 1 <= ls[j].s /\ ls[j].s <= 3
   exact h _ (List.getElem_mem hj)
  ·exact h _ (List.getElem_mem hj)
 ·exact h
theorem keep4_add {d : DS} (h : Keep4 d) (rec : ByteArray) {S' : List Stk} {ls' : List LsV} (h1 : Cls4 S') (h2 : ∀ l ∈ ls', 1 <= l.s /\ l.s <= 3) : Keep4 (d.add rec S' ls') := by
 unfold DS.add
 refine ⟨?_, ?_⟩
 ·show ∀ x ∈ (if d.ok rec then S' else d.S), _
  split
  ·exact h1
  ·exact h.cls
 ·show ∀ x ∈ (if d.ok rec then ls' else d.ls), _
  split
  ·exact h2
  ·exact h.ses
theorem keep4_refill {d : DS} (h : Keep4 d) (q : Nat) (hq : q < 4) (D : List Int) : Keep4 (d.refill (clsK q).1 (clsK q).2.1 (clsK q).2.2.1 (clsK q).2.2.2 D).2 := by
 unfold DS.refill
 split
 ·exact keep4_add h _ (cls4_make h.cls q hq _) h.ses
 ·exact h
theorem keep4_compact {d : DS} (h : Keep4 d) : Keep4 d.compact.2 := by
 unfold DS.compact
 split
 ·exact h
 ·refine ⟨?_, h.ses⟩
  show ∀ x ∈ (if diskOk d.fl d.ah 4 then compactS d.S d.ls else d.S), _
  split
  ·exact cls4_compact h.cls _
  ·exact h.cls
theorem keep4_ask {d : DS} (h : Keep4 d) (kk s i kd m k n f c p : Int) (hs : 1 <= s /\ s <= 3) : Keep4 (d.ask kk s i kd m k n f c p).2 := by
 unfold DS.ask DS.after
 split
 ·exact h
 ·rename_i S' ls' hn
  unfold ansS at hn
  split at hn
  ·split at hn
   ·split at hn
    ·split at hn
     ·cases hn
     ·cases hn
    ·split at hn
     ·injection hn with hn
      injection hn with h1 h2
      subst h1 h2
      refine keep4_add h _ (cls4_lend h.cls _ _ _ _ _) (fun l hl => ?_)
      rcases List.mem_append.1 hl with hl | hl
      ·exact h.ses l hl
      ·simp at hl; subst hl; exact hs
     ·cases hn
   ·cases hn
  ·split at hn
   ·split at hn
    ·split at hn
     ·cases hn
     ·split at hn
      ·cases hn
      ·split at hn
       ·cases hn
       ·split at hn
        ·cases hn
        ·cases hn
    ·cases hn
   ·split at hn
    ·split at hn
     ·split at hn
      ·split at hn
       ·cases hn
       ·injection hn with hn
        injection hn with h1 h2
        subst h1 h2
        exact keep4_add h _ h.cls (ses_free h.ses _ _)
      ·cases hn
     ·cases hn
    ·split at hn
     ·split at hn
      ·split at hn
       ·cases hn
       ·cases hn
      ·cases hn
     ·cases hn
theorem keep4_settle {d : DS} (h : Keep4 d) : Keep4 d.settle.2 := by
 have h0 : Keep4 (d.failAt (-1)) := ⟨h.cls, h.ses⟩
 unfold DS.settle
 split
 ·rename_i l hl
  exact keep4_ask h0 _ _ _ _ _ _ _ _ _ _ (h.ses l (List.mem_of_find?_eq_some hl))
 ·exact keep4_refill h0 0 (by decide) _
theorem keep4_step {d : DS} {fs : List FileV} {N : Nat} (h : Keep4 d) (hr : RunOk d fs N) (hN : N <= 200000) (kd a b c n : Int) (D : List Int) : Keep4 (stepR d fs kd a b c n D).2.1 := by
 unfold stepR
 split
 ·simp only
  have h1 := keep4_settle h
  obtain ⟨g1, g2, _⟩ := settle_ok hr hN
  split
  ·rename_i ht
   obtain ⟨e1, e2⟩ := restart_backs g2 (settle_kn hr.good ht) g1
   refine ⟨?_, ?_⟩
   ·show ∀ x ∈ (DS.restart (fileB (doneS fs d.settle.2.ops))).S, _
    rw [e1]
    exact cls4_norm h1.cls
   ·show ∀ x ∈ (DS.restart (fileB (doneS fs d.settle.2.ops))).ls, _
    rw [e2]
    exact h1.ses
  ·exact h1
 ·unfold stepS
  simp only
  have la := pickN_lt a (show 0 < 4 by decide)
  have l3 := pickN_lt a (show 0 < 3 by decide)
  have hs : 1 <= (((1 + pickN a 3 : Nat)) : Int) /\ (((1 + pickN a 3 : Nat)) : Int) <= 3 := by omega
  split
  ·exact keep4_refill h (pickN a 4) la _
  ·exact keep4_ask h _ _ _ _ _ _ _ _ _ _ hs
  ·exact keep4_ask h _ _ _ _ _ _ _ _ _ _ hs
  ·exact keep4_compact h
  ·exact ⟨h.cls, h.ses⟩
  ·exact keep4_ask h _ _ _ _ _ _ _ _ _ _ hs
end
-- VDn
section
set_option maxRecDepth 100000
set_option maxHeartbeats 1600000
open Go.RowKit Go.Maps
theorem infoFile : (Tryz.prog.info? 74).map (fun i => (i.zero, i.size, i.bytes)) = some (some (.agg #[.string ⟨#[]⟩, .string ⟨#[]⟩]), 2, 32) := by kernel_rfl
def fileCells (fs : List FileV) : List Value := fs.flatMap fun f => [.string f.1, .string f.2]
theorem fileCells_append (a b : List FileV) : fileCells (a ++ b) = fileCells a ++ fileCells b := by simp [fileCells]
theorem len_fileCells (fs : List FileV) : (fileCells fs).length = fs.length * 2 := by
 induction fs with
 | nil => rfl
 | cons f t ih => simp [fileCells] at ih ⊢; omega
theorem fileCells_at (fs : List FileV) (i : Nat) (h : i < fs.length) : (fileCells fs)[i * 2]? = some (.string fs[i].1) /\ (fileCells fs)[i * 2 + 1]? = some (.string fs[i].2) := by
 induction fs generalizing i with
 | nil => simp at h
 | cons f t ih =>
  have e : fileCells (f :: t) = .string f.1 :: .string f.2 :: fileCells t := by simp [fileCells]
  cases i with
  | zero => rw [e]; simp
  | succ i =>
   have := ih i (by simpa using h)
   rw [e, show (i + 1) * 2 = i * 2 + 2 by omega]
   simpa using this
theorem file_one (fs : List FileV) : ∀ u ∈ fileCells fs, u.oneCell' = true := by
 intro u hu
 simp only [fileCells, List.mem_flatMap, List.mem_cons, List.not_mem_nil, or_false] at hu
 obtain ⟨o, _, h⟩ := hu
 rcases h with rfl | rfl <;> rfl
def FileRow (w : World) (base : Nat) (v : Value) (fs : List FileV) : Prop := w.ownsRow base 74 2 v fs.length (fileCells fs)
theorem FileRow.cells {w : World} {base g n cap : Nat} {fs : List FileV} (h : FileRow w base (.slice (some ⟨g, 0, none⟩) n cap) fs) (i : Nat) (hi : i < fs.length) : w.cell? ⟨g, i * 2, none⟩ = some (.string fs[i].1) /\ w.cell? ⟨g, i * 2 + 1, none⟩ = some (.string fs[i].2) := by
 obtain ⟨a, cap', e⟩ := owns_slice h
 have en : n = fs.length := by simp at e; exact e.2.1
 subst en
 exact ⟨owns_cell h (fileCells_at fs i hi).1, owns_cell h (fileCells_at fs i hi).2⟩
theorem str_ne {a b : ByteArray} (h : a ≠ b) : (a.toList == b.toList) = false := by
 rw [Bool.eq_false_iff]
 intro hq
 apply h
 have hq2 : a.toList = b.toList := by simpa using hq
 rw [ByteArray.toList_eq, ByteArray.toList_eq] at hq2
 cases a; cases b
 congr 1
 exact Array.toList_inj.1 hq2
theorem dropN_take (fs : List FileV) (a : ByteArray) (j : Nat) (h : j < fs.length) : dropN (fs.take (j + 1)) a = if fs[j].1 = a then dropN (fs.take j) a else dropN (fs.take j) a ++ [fs[j]] := by
 rw [List.take_succ_eq_append_getElem h]
 simp only [dropN, List.filter_append, List.filter_cons, List.filter_nil]
 by_cases he : fs[j].1 = a
 ·simp [he]
 ·simp [he]
theorem without_c {g n cap : Nat} {fs : List FileV} (name : ByteArray) (hn : fs.length = n) (hnb : n <= 100000000) (w : World) (h : FileRow w 0 (.slice (some ⟨g, 0, none⟩) n cap) fs) :
  Calls Tryz.prog 63 #[.slice (some ⟨g, 0, none⟩) n cap, .string name] w fun e w' => ∃ v', e = .returned v' /\ FileRow w' w.heap.size v' (dropN fs name) /\ Ext w w' := by
 obtain ⟨i0, hi, hz0, hz1, hz2⟩ := info_parts infoFile
 have HN : Hid (fs.length = n) := hn
 have HF : Hid (FileRow w 0 (.slice (some ⟨g, 0, none⟩) n cap) fs) := h
 clear hn h
 go_enter Tryz.func63, Tryz.ntmps63
 go_wp2_with fail
 go_loopw [5, 6] (fun u i wr => ∃ j : Nat, j <= n /\ i = .int .i64 j /\ FileRow wr w.heap.size u (dropN (fs.take j) name) /\ Ext w wr) (fun _ i _ => n - (intOf i).toNat)
 case atStart => exact ⟨0, Nat.zero_le _, rfl, World.ownsRow_nil _ _ _ _, Ext.refl _⟩
 case round =>
  obtain ⟨j, hj, rfl, ho, hx⟩ := hrel
  have HX : Hid (Ext w wr) := hx
  have HO : Hid (FileRow wr w.heap.size u5 (dropN (fs.take j) name)) := ho
  clear hx ho
  by_cases hlt : j < n
  ·have hjl : j < fs.length := by rw [HN.out]; exact hlt
   obtain ⟨k0, k1⟩ := (show FileRow wr 0 (.slice (some ⟨g, 0, none⟩) n cap) fs from HX.out.owns HF.out).cells j hjl
   have hgl := lG wr _ k0
   have hj0 : (0 : Int) <= (j : Int) := by omega
   have hj1 : (j : Int) < n := by omega
   have HT := dropN_take fs name j hjl
   have hdl : (dropN (fs.take j) name).length <= j := Nat.le_trans (dropN_len _ _) (by simp; omega)
   by_cases he : fs[j].1 = name
   ·rw [if_pos he] at HT
    have HTT : Hid _ := HT
    rw [he] at k0
    clear HT he
    generalize fs[j].2 = by1 at *
    go_wp2_with fail
    go_roundw
    case rel => exact ⟨j + 1, by omega, by go_num, by rw [HTT.out]; exact HO.out, HX.out⟩
    case measure => simp [intOf]; omega
   ·rw [if_neg he] at HT
    have HTT : Hid _ := HT
    have he3 := str_ne he
    obtain ⟨f, hf⟩ : ∃ f, fs[j] = f := ⟨_, rfl⟩
    rw [hf] at k0 k1 he3 HTT
    clear HT he hf
    obtain ⟨by0, by1⟩ := f
    simp only at k0 k1 he3
    go_wp2_with (at_builtin; refine wpList_append_own _ rfl _ _ 40 rfl w.heap.size 74 i0 _ 2 32 Tryz.underlying40 hi hz0 hz1 hz2 rfl (by decide) _ _ _ rfl (World.ownsRow.alloc HO.out _) ⟨_, 0, none⟩ 1 1 [.string by0, .string by1] rfl rfl ?c1 ?c2 ?c3 ?c4 ?c5 ?_)
    case c2 => exact ⟨rfl, rfl⟩
    case c3 => unfold maxLen; omega
    case c4 => omega
    case c5 => have := HX.out.le; omega
    intro v4 w4 ho4 hg4 _
    have HX4 : Hid (Ext w w4) := Ext.grown (HX.out.alloc _) hg4 (fun q hq => (World.ownsRow.lt HO.out q hq).1)
    have HO4 : Hid (FileRow w4 w.heap.size v4 (dropN (fs.take (j + 1)) name)) := by
     show World.ownsRow _ _ _ _ _ _ _
     rw [HTT.out, fileCells_append, List.length_append]
     exact ho4
    clear ho4 hg4
    go_wp2
    go_roundw
    case rel => exact ⟨j + 1, by omega, by go_num, HO4.out, HX4.out⟩
    case measure => simp [intOf]; omega
  ·obtain rfl : j = n := by omega
   have hft : dropN (fs.take j) name = dropN fs name := by rw [List.take_of_length_le (by rw [HN.out]; exact Nat.le_refl _)]
   go_wp2
   go_ret
   exact ⟨_, rfl, by rw [<- hft]; exact HO.out, HX.out⟩
theorem without0_c (name : ByteArray) (w : World) :
  Calls Tryz.prog 63 #[.slice none 0 0, .string name] w fun e w' => ∃ v', e = .returned v' /\ FileRow w' w.heap.size v' (dropN [] name) /\ Ext w w' := by
 go_enter Tryz.func63, Tryz.ntmps63
 go_wp2_with fail
 go_loopw [5, 6] (fun u i wr => i = .int .i64 0 /\ u = .slice none 0 0 /\ Ext w wr) (fun _ _ _ => 0)
 case atStart => exact ⟨rfl, rfl, Ext.refl _⟩
 case round =>
  obtain ⟨rfl, rfl, hx⟩ := hrel
  have HX : Hid (Ext w wr) := hx
  clear hx
  go_wp2
  go_ret
  exact ⟨_, rfl, World.ownsRow_nil _ _ _ _, HX.out⟩
theorem without_x {v : Value} {fs : List FileV} (name : ByteArray) (hnb : fs.length <= 100000000) (w : World) (h : FileRow w 0 v fs) :
  Calls Tryz.prog 63 #[v, .string name] w fun e w' => ∃ v', e = .returned v' /\ FileRow w' w.heap.size v' (dropN fs name) /\ Ext w w' := by
 rcases owns_form h with ⟨rfl, hl, _⟩ | ⟨g, cap, rfl, _, _, _⟩
 ·obtain rfl : fs = [] := List.length_eq_zero_iff.1 hl
  exact without0_c name w
 ·exact without_c name rfl hnb w h
end
end Go.Proofs.YtmnjhhachdlmkaaGreat
