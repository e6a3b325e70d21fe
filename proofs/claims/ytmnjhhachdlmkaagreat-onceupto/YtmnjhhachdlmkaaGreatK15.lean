import Derived.Test.YtmnjhhachdlmkaaGreatK09
import Derived.Test.YtmnjhhachdlmkaaGreatK12
import Derived.Test.YtmnjhhachdlmkaaGreatK14
namespace Go.Proofs.YtmnjhhachdlmkaaGreat
set_option linter.unusedVariables false
set_option linter.unusedSimpArgs false
open Value renaming ownBlock -> lH
-- HCo
section
open Go.RowKit Go.Maps
structure SameBut (x y : Stk) : Prop where
 kd : y.kd = x.kd
 m : y.m = x.m
 k : y.k = x.k
 n : y.n = x.n
 leased : y.leased = x.leased
 len : y.ts.length = x.ts.length
 ts : ∀ i (h : i < x.ts.length) (h' : i < y.ts.length), y.ts[i].1 = x.ts[i].1
structure RowJ (w w2 wr : World) (G : Nat -> Prop) (S S' : List Stk) (a1 : Option Addr) (n cap1 j : Nat) : Prop where
 ex : ∃ css : List (List Value), wr.ownsRow w.heap.size 198 7 (.slice a1 n cap1) n css.flatten /\ css.length = S.length /\ ∀ i (hi : i < S.length) (hi' : i < S'.length), ∃ cs, css[i]? = some cs /\ RefStk w2 G (if i < j then S'[i] else S[i]) cs
 turn : Turn (fun b => lH (.slice a1 n cap1) = some b) w2 wr
end
-- JCq
section
open Go.RowKit Go.Maps
def covB (x : Stk) (t : Nat) (l : LsV) : Bool := l.r && (x.is l.kd l.m l.k l.n && (decide (l.f.toNat <= t) && decide (t < l.f.toNat + l.c.toNat)))
def Uniq (S : List Stk) : Prop := ∀ i j (hi : i < S.length) (hj : j < S.length), S[i].is S[j].kd S[j].m S[j].k S[j].n = true -> i = j
structure ForgotBy (p : Nat -> Bool) (x y : Stk) : Prop where
 same : SameBut x y
 flag : ∀ t (h : t < x.ts.length) (h' : t < y.ts.length), y.ts[t].2 = (x.ts[t].2 && !p t)
theorem SameBut.is {x y : Stk} (h : SameBut x y) (kd m k n : Int) : y.is kd m k n = x.is kd m k n := by
 unfold Stk.is
 rw [h.kd, h.m, h.k, h.n]
theorem SameBut.refl (x : Stk) : SameBut x x := ⟨rfl, rfl, rfl, rfl, rfl, rfl, fun _ _ _ => rfl⟩
theorem SameBut.trans {x y z : Stk} (h : SameBut x y) (g : SameBut y z) : SameBut x z := ⟨g.kd.trans h.kd, g.m.trans h.m, g.k.trans h.k, g.n.trans h.n, g.leased.trans h.leased, g.len.trans h.len, fun i hi hi' => (g.ts i (by rw [h.len]; exact hi) hi').trans (h.ts i hi _)⟩
theorem ForgotBy.refl (x : Stk) : ForgotBy (fun _ => false) x x := ⟨.refl x, fun t h h' => by simp⟩
theorem ForgotBy.trans {p q : Nat -> Bool} {x y z : Stk} (h : ForgotBy p x y) (g : ForgotBy q y z) : ForgotBy (fun t => p t || q t) x z :=
 ⟨h.same.trans g.same, fun t ht ht' => by rw [g.flag t (by rw [h.same.len]; exact ht) ht', h.flag t ht _]; cases x.ts[t].2 <;> cases p t <;> cases q t <;> rfl⟩
theorem forgot_forget (x : Stk) (f c : Nat) : ForgotBy (fun t => decide (f <= t) && decide (t < f + c)) x (x.forget f c) := by
 have hl : (x.forget f c).ts.length = x.ts.length := forgetN_len _ _ _
 have hat : ∀ t (h : t < x.ts.length) (h' : t < (x.forget f c).ts.length), (x.forget f c).ts[t] = if f <= t /\ t < f + c then dropT x.ts[t] else x.ts[t] := fun t h h' => by
  have h1 := forgetN_at x.ts f c t
  have h2 : (forgetN x.ts f c)[t]? = some (x.forget f c).ts[t] := List.getElem?_eq_getElem h'
  rw [h2, List.getElem?_eq_getElem h] at h1
  injection h1
 refine ⟨⟨rfl, rfl, rfl, rfl, rfl, hl, fun i hi hi' => ?_⟩, fun t h h' => ?_⟩
 ·rw [hat i hi hi']
  split <;> rfl
 ·rw [hat t h h']
  by_cases hc : f <= t /\ t < f + c
  ·rw [if_pos hc]
   simp [dropT, hc.1, hc.2]
  ·rw [if_neg hc]
   have : (decide (f <= t) && decide (t < f + c)) = false := by
    cases hq : (decide (f <= t) && decide (t < f + c))
    ·rfl
    ·simp at hq; exact absurd hq hc
   simp only [this]
   cases x.ts[t].2 <;> rfl
theorem uniq_of {S T : List Stk} (h : Uniq S) (hl : T.length = S.length) (hs : ∀ i (hi : i < S.length) (hi' : i < T.length), SameBut S[i] T[i]) : Uniq T := fun i j hi hj hh => by
 have hi2 : i < S.length := by omega
 have hj2 : j < S.length := by omega
 have h1 := hs i hi2 hi
 have h2 := hs j hj2 hj
 rw [h1.is, h2.kd, h2.m, h2.k, h2.n] at hh
 exact h i j hi2 hj2 hh
theorem is_same {x y : Stk} {kd m k n : Int} (h1 : x.is kd m k n = true) (h2 : y.is kd m k n = true) : x.is y.kd y.m y.k y.n = true := by
 simp [Stk.is] at h1 h2 ⊢
 omega
theorem forgetL_at' {S : List Stk} (hu : Uniq S) (l : LsV) (i : Nat) (hi : i < S.length) : ∃ y, (forgetL S l)[i]? = some y /\ ForgotBy (fun t => S[i].is l.kd l.m l.k l.n && (decide (l.f.toNat <= t) && decide (t < l.f.toNat + l.c.toNat))) S[i] y := by
 unfold forgetL
 cases hf : S.findIdx? (fun x => x.is l.kd l.m l.k l.n) with
 | none =>
  have hno : S[i].is l.kd l.m l.k l.n = false := by
   have := List.findIdx?_eq_none_iff.1 hf S[i] (List.getElem_mem hi)
   simpa using this
  simp only [hno, Bool.false_and]
  exact ⟨S[i], List.getElem?_eq_getElem hi, .refl _⟩
 | some ix =>
  obtain ⟨hix, hxi, _⟩ := List.findIdx?_eq_some_iff_getElem.1 hf
  by_cases e : ix = i
  ·subst e
   simp only [hxi, Bool.true_and]
   exact ⟨_, by rw [List.getElem?_modify_eq, List.getElem?_eq_getElem hi]; rfl, forgot_forget _ _ _⟩
  ·have hno : S[i].is l.kd l.m l.k l.n = false := by
    cases hq : S[i].is l.kd l.m l.k l.n
    ·rfl
    ·exact absurd (hu ix i hix hi (is_same hxi hq)) e
   simp only [hno, Bool.false_and]
   exact ⟨S[i], by rw [List.getElem?_modify_ne _ _ e, List.getElem?_eq_getElem hi], .refl _⟩
theorem forgetL_at {S : List Stk} (hu : Uniq S) (l : LsV) (i : Nat) (hi : i < S.length) (hi' : i < (forgetL S l).length) : ForgotBy (fun t => S[i].is l.kd l.m l.k l.n && (decide (l.f.toNat <= t) && decide (t < l.f.toNat + l.c.toNat))) S[i] (forgetL S l)[i] := by
 obtain ⟨y, h1, h2⟩ := forgetL_at' hu l i hi
 rw [List.getElem?_eq_getElem hi'] at h1
 injection h1 with h1
 rw [h1]
 exact h2
theorem ForgotBy.congr {p q : Nat -> Bool} {x y : Stk} (h : ForgotBy p x y) (e : ∀ t, p t = q t) : ForgotBy q x y := ⟨h.same, fun t ht ht' => by rw [h.flag t ht ht', e]⟩
theorem compactS_at (ls : List LsV) : ∀ {S : List Stk}, Uniq S -> ∀ i (hi : i < S.length) (hi' : i < (compactS S ls).length), ForgotBy (fun t => ls.any (covB S[i] t)) S[i] (compactS S ls)[i] := by
 induction ls with
 | nil =>
  intro S _ i hi _
  exact .refl _
 | cons l t ih =>
  intro S hu i hi hi'
  have hstep : compactS S (l :: t) = compactS (if l.r = true then forgetL S l else S) t := rfl
  by_cases hr : l.r = true
  ·have hl2 := forgetL_len S l
   have hu2 : Uniq (forgetL S l) := uniq_of hu hl2 (fun j hj hj' => (forgetL_at hu l j hj hj').same)
   have h1 := forgetL_at hu l i hi (by omega)
   have h2 := ih hu2 i (by omega) (by rw [compactS_len]; omega)
   have h3 := h1.trans h2
   have e : compactS S (l :: t) = compactS (forgetL S l) t := by rw [hstep, if_pos hr]
   simp only [e]
   refine h3.congr (fun u => ?_)
   rw [List.any_cons]
   congr 1
   ·simp [covB, hr]
   ·congr 1
    funext l'
    unfold covB
    rw [h1.same.is]
  ·have e : compactS S (l :: t) = compactS S t := by rw [hstep, if_neg hr]
   have h2 := ih hu i hi (by rw [compactS_len]; omega)
   simp only [e]
   refine h2.congr (fun u => ?_)
   rw [List.any_cons]
   have : covB S[i] u l = false := by simp [covB, hr]
   rw [this]
   rfl
/-! Counting. -/
end
-- VKq
section
open Go.RowKit Go.Maps
theorem heldQ_eq {S : List Stk} {ls : List LsV} (h : InvQ S ls) (ss kd m k n num : Int) : heldP ls ss kd m k n num = ls.any (holdsP ss kd m k n num) := by
 have hc : ∀ l : LsV, holdsP ss kd m k n num l = (covers kd m k n num l && (l.s == ss && !l.r)) := fun l => by
  unfold holdsP covers
  cases l.s == ss <;> cases l.r <;> simp
 unfold heldP
 cases hf : ls.find? (covers kd m k n num) with
 | none =>
  symm
  rw [List.any_eq_false]
  intro l hl
  have := List.find?_eq_none.1 hf l hl
  rw [hc]
  simp at this
  simp [this]
 | some l =>
  have hl := List.mem_of_find?_eq_some hf
  have hcl := List.find?_some hf
  simp only
  cases hb : (l.s == ss && !l.r) with
  | true =>
   symm
   rw [List.any_eq_true]
   exact ⟨l, hl, by rw [hc, hcl, hb]; rfl⟩
  | false =>
   symm
   rw [List.any_eq_false]
   intro l' hl' hh
   rw [hc] at hh
   have hcl' : covers kd m k n num l' = true := by
    cases hq : covers kd m k n num l'
    ·rw [hq] at hh; simp at hh
    ·rfl
   obtain ⟨a, ha, rfl⟩ := List.getElem_of_mem hl
   obtain ⟨b, hb', rfl⟩ := List.getElem_of_mem hl'
   have hne : a ≠ b := fun e => by
    subst e
    rw [hcl, hb] at hh
    simp at hh
   simp [covers] at hcl hcl'
   rcases Nat.lt_or_gt_of_ne hne with hlt | hlt
   ·have := h.toInvK.apart a b ha hb' hlt ⟨by rw [hcl.1.1, hcl'.1.1], by rw [hcl.1.2.1, hcl'.1.2.1], by rw [hcl.1.2.2.1, hcl'.1.2.2.1], by rw [hcl.1.2.2.2, hcl'.1.2.2.2]⟩
    omega
   ·have := h.toInvK.apart b a hb' ha hlt ⟨by rw [hcl.1.1, hcl'.1.1], by rw [hcl.1.2.1, hcl'.1.2.1], by rw [hcl.1.2.2.1, hcl'.1.2.2.1], by rw [hcl.1.2.2.2, hcl'.1.2.2.2]⟩
    omega
theorem heldQ_in {S : List Stk} {ls : List LsV} (h : InvQ S ls) {ss kd m k n num : Int} {x : Stk} (hx : S.find? (fun x => x.is kd m k n) = some x) (hh : ls.any (holdsP ss kd m k n num) = true) : 0 <= num /\ num < x.ts.length := by
 obtain ⟨l, hl, hp⟩ := List.any_eq_true.1 hh
 simp [holdsP] at hp
 obtain ⟨h1, h2, h3, y, h4, h5⟩ := h.toInvK.of l hl
 rw [hp.2.1.1, hp.2.1.2.1, hp.2.1.2.2.1, hp.2.1.2.2.2, hx] at h4
 injection h4 with h4
 subst h4
 have := h.made x (List.mem_of_find?_eq_some hx)
 omega
theorem heldQ_kept {S : List Stk} {ls : List LsV} (h : InvQ S ls) {ss kd m k n : Int} {j : Nat} {x : Stk} (hx : S.find? (fun x => x.is kd m k n) = some x) (hj : j < x.ts.length) (hh : ls.any (holdsP ss kd m k n j) = true) : x.ts[j].2 = true := by
 cases hk : x.ts[j].2 with
 | true => rfl
 | false =>
  exfalso
  obtain ⟨l', hl', h1, h2, h3, h4⟩ := h.kept x (List.mem_of_find?_eq_some hx) j hj hk
  obtain ⟨l, hl, hp⟩ := List.any_eq_true.1 hh
  have hxi : x.is kd m k n = true := by simpa using List.find?_some hx
  simp [holdsP] at hp
  simp [Stk.is] at hxi h2
  obtain ⟨a, ha, rfl⟩ := List.getElem_of_mem hl
  obtain ⟨b, hb, rfl⟩ := List.getElem_of_mem hl'
  have hne : a ≠ b := fun e => by
   subst e
   rw [h1] at hp
   simp at hp
  rcases Nat.lt_or_gt_of_ne hne with hlt | hlt
  ·have := h.toInvK.apart a b ha hb hlt (by omega)
   omega
  ·have := h.toInvK.apart b a hb ha hlt (by omega)
   omega
theorem InvQ.small {R : List StkR} {ls : List LsV} (h : InvQ (R.map StkR.abs) ls) : Small R ls where
 stocks := by have := h.stocks; simp at this; omega
 leases := by have := h.leases; omega
 made := fun x hx => by
  have := h.made x.abs (List.mem_map.2 ⟨x, hx, rfl⟩)
  have e1 : x.abs.ts.length = x.ts.length := rfl
  have e2 : x.abs.leased = x.leased := rfl
  omega
 fc := fun l hl => by
  obtain ⟨h1, h2, h3, x, h4, h5⟩ := h.toInvK.of l hl
  have := h.made x (List.mem_of_find?_eq_some h4)
  omega
 ok := fun x hx => h.toInvK.stkOk (List.mem_map.2 ⟨x, hx, rfl⟩)
 lok := h.lok
theorem InvQ.lease {S : List Stk} {ls : List LsV} (h : InvQ S ls) {ix c : Nat} {s i kd m k n : Int} (hix : ix < S.length) (hfx : S.findIdx? (fun x => x.is kd m k n) = some ix) (hcd : leaseCodeS S ls kd m k n c = 0) (hno : ls.findIdx? (isNamed s i) = none) (hlo : LsOk ⟨s, i, kd, m, k, n, S[ix].leased, c, false⟩) : InvQ (S.set ix (S[ix].lend c)) (ls ++ [⟨s, i, kd, m, k, n, S[ix].leased, c, false⟩]) :=
 ⟨h.toInvK.lease hix hfx hcd hno hlo, fun x hx j hj hk => by
  rcases mem_set_of hx with hx | rfl
  ·obtain ⟨l, hl, h1⟩ := h.kept x hx j hj hk
   exact ⟨l, List.mem_append_left _ hl, h1⟩
  ·obtain ⟨l, hl, h1⟩ := h.kept _ (List.getElem_mem hix) j hj hk
   exact ⟨l, List.mem_append_left _ hl, h1⟩⟩
theorem InvQ.free {S : List Stk} {ls : List LsV} (h : InvQ S ls) {ix : Nat} (hix : ix < ls.length) : InvQ S (ls.set ix ls[ix].free) :=
 ⟨h.toInvK.free hix, fun x hx j hj hk => by
  obtain ⟨l, hl, h1, h2, h3⟩ := h.kept x hx j hj hk
  obtain ⟨a, ha, rfl⟩ := List.getElem_of_mem hl
  by_cases e : ix = a
  ·subst e
   exact ⟨ls[ix].free, List.mem_iff_getElem.2 ⟨ix, by simpa using hix, by rw [List.getElem_set_self]⟩, rfl, h2, h3⟩
  ·exact ⟨ls[a], List.mem_iff_getElem.2 ⟨a, by simpa using ha, by rw [List.getElem_set_ne e]⟩, h1, h2, h3⟩⟩
theorem InvQ.more {S : List Stk} {ls : List LsV} (h : InvQ S ls) {ix : Nat} (hix : ix < S.length) {us : List (List Int × Bool)} (hl : S[ix].ts.length + us.length <= 200) (hok : ∀ u ∈ us, OkT S[ix].sh u) (hk : ∀ u ∈ us, u.2 = true) : InvQ (S.set ix (S[ix].more us)) ls :=
 ⟨h.toInvK.more hix hl hok, fun x hx j hj hkk => by
  rcases mem_set_of hx with hx | rfl
  ·exact h.kept x hx j hj hkk
  ·have hj2 : j < S[ix].ts.length + us.length := by simpa [Stk.more] using hj
   by_cases e : j < S[ix].ts.length
   ·have hkk2 : S[ix].ts[j].2 = false := by
     have : (S[ix].ts ++ us)[j]'(by simpa using hj2) = S[ix].ts[j] := List.getElem_append_left e
     rw [<- this]
     exact hkk
    exact h.kept _ (List.getElem_mem hix) j e hkk2
   ·exfalso
    have hju : j - S[ix].ts.length < us.length := by omega
    have : (S[ix].ts ++ us)[j]'(by simpa using hj2) = us[j - S[ix].ts.length] := List.getElem_append_right (by omega)
    have hkk2 : us[j - S[ix].ts.length].2 = false := by
     rw [<- this]
     exact hkk
    rw [hk _ (List.getElem_mem hju)] at hkk2
    cases hkk2⟩
theorem InvQ.first {S : List Stk} {ls : List LsV} (h : InvQ S ls) {kd m k n : Nat} (hcl : isCls kd m k n = true) (hf : S.find? (fun x => x.is kd m k n) = none) (hS : S.length < 6) {us : List (List Int × Bool)} (hu1 : 1 <= us.length) (hl : us.length <= 200) (hok : ∀ u ∈ us, OkT (shOf kd m k n) u) (hk : ∀ u ∈ us, u.2 = true) : InvQ (S ++ [⟨kd, m, k, n, us, 0⟩]) ls :=
 ⟨h.toInvK.first hcl hf hS hu1 hl hok, fun x hx j hj hkk => by
  rcases List.mem_append.1 hx with hx | hx
  ·exact h.kept x hx j hj hkk
  ·exfalso
   have e := List.mem_singleton.1 hx
   subst e
   simp only at hj hkk
   rw [hk _ (List.getElem_mem hj)] at hkk
   cases hkk⟩
theorem InvQ.make {S : List Stk} {ls : List LsV} (h : InvQ S ls) {kd m k n : Nat} (hcl : isCls kd m k n = true) {us : List (List Int × Bool)} (hu1 : 1 <= us.length) (hok : ∀ u ∈ us, OkT (shOf kd m k n) u) (hk : ∀ u ∈ us, u.2 = true) (hcd : makeCode S kd m k n us.length = 0) : InvQ (makeS S kd m k n us) ls := by
 unfold makeCode at hcd
 cases hf : S.findIdx? (fun x => x.is kd m k n) with
 | some ix =>
  obtain ⟨hix, hfi⟩ := find_idx hf
  rw [hfi] at hcd
  simp only at hcd
  have hle : ¬ 200 < S[ix].ts.length + us.length := fun h' => by rw [if_pos h'] at hcd; simp at hcd
  have e : makeS S kd m k n us = S.set ix (S[ix].more us) := by
   unfold makeS
   rw [hf]
   exact modify_set S ix hix _
  rw [e]
  have hxi : S[ix].is kd m k n = true := by simpa using List.find?_some hfi
  obtain ⟨e1, e2, e3, e4⟩ := is_eqsK hxi
  have e5 : S[ix].sh = shOf kd m k n := by
   show shOf S[ix].kd S[ix].m S[ix].k S[ix].n = _
   rw [show S[ix].kd = kd by omega, show S[ix].m = m by omega, show S[ix].k = k by omega, show S[ix].n = n by omega]
  exact h.more hix (by omega) (by rw [e5]; exact hok) hk
 | none =>
  have hfn := find_none_idx hf
  rw [hfn] at hcd
  simp only at hcd
  have hle : ¬ (6 <= S.length \/ 200 < us.length) := fun h' => by rw [if_pos h'] at hcd; simp at hcd
  unfold makeS
  rw [hf]
  exact h.first hcl hfn (by omega) hu1 (by omega) hok hk
theorem InvK.uniq' {S : List Stk} {ls : List LsV} (h : InvK S ls) : Uniq S := h.uniq
theorem InvQ.compact {S : List Stk} {ls : List LsV} (h : InvQ S ls) : InvQ (compactS S ls) ls := by
 have hl := compactS_len S ls
 have hu := h.toInvK.uniq'
 have hat : ∀ y ∈ compactS S ls, ∃ i, ∃ hi : i < S.length, ∃ hi' : i < (compactS S ls).length, (compactS S ls)[i] = y := fun y hy => by
  obtain ⟨i, hi, rfl⟩ := List.getElem_of_mem hy
  exact ⟨i, by omega, hi, rfl⟩
 refine ⟨⟨by rw [hl]; exact h.stocks, fun y hy => ?_, fun y hy => ?_, fun y hy t ht => ?_, uniq_of hu hl (fun i hi hi' => (compactS_at ls hu i hi hi').same), h.lok, h.leases, h.cnt, fun l hl2 => ?_, h.seq, fun i hi' => ?_, h.names⟩, fun y hy j hj hk => ?_⟩
 ·obtain ⟨i, hi, hi', rfl⟩ := hat y hy
  have hs := (compactS_at ls hu i hi hi').same
  rw [hs.kd, hs.m, hs.k, hs.n]
  exact h.cls S[i] (List.getElem_mem hi)
 ·obtain ⟨i, hi, hi', rfl⟩ := hat y hy
  have hs := (compactS_at ls hu i hi hi').same
  rw [hs.len, hs.leased]
  exact h.made S[i] (List.getElem_mem hi)
 ·obtain ⟨i, hi, hi', rfl⟩ := hat y hy
  have hf := compactS_at ls hu i hi hi'
  have hs := hf.same
  obtain ⟨a, ha, rfl⟩ := List.getElem_of_mem ht
  have ha' : a < S[i].ts.length := by rw [<- hs.len]; exact ha
  intro hk
  have hsh : (compactS S ls)[i].sh = S[i].sh := by
   show shOf _ _ _ _ = shOf _ _ _ _
   rw [hs.kd, hs.m, hs.k, hs.n]
  rw [hs.ts a ha' ha, hsh]
  refine h.ok S[i] (List.getElem_mem hi) _ (List.getElem_mem ha') ?_
  rw [hf.flag a ha' ha] at hk
  cases hq : S[i].ts[a].2 with
  | true => rfl
  | false => rw [hq] at hk; simp at hk
 ·obtain ⟨x, hx, hxi⟩ := has_of (h.has l hl2)
  obtain ⟨i, hi, rfl⟩ := List.getElem_of_mem hx
  have hi' : i < (compactS S ls).length := by omega
  exact find_has ⟨(compactS S ls)[i], List.getElem_mem hi', by rw [(compactS_at ls hu i hi hi').same.is]; exact hxi⟩
 ·have hi : i < S.length := by omega
  have hs := (compactS_at ls hu i hi hi').same
  rw [hs.leased, hs.kd, hs.m, hs.k, hs.n]
  exact h.sum i hi
 ·obtain ⟨i, hi, hi', rfl⟩ := hat y hy
  have hf := compactS_at ls hu i hi hi'
  have hj' : j < S[i].ts.length := by rw [<- hf.same.len]; exact hj
  rw [hf.flag j hj' hj] at hk
  cases hq : S[i].ts[j].2 with
  | false =>
   obtain ⟨l, hl, h1, h2, h3⟩ := h.kept S[i] (List.getElem_mem hi) j hj' hq
   exact ⟨l, hl, h1, by rw [hf.same.is]; exact h2, h3⟩
  | true =>
   rw [hq] at hk
   simp only [Bool.true_and, Bool.not_eq_false'] at hk
   obtain ⟨l, hl, hc⟩ := List.any_eq_true.1 hk
   have h0 := h.toInvK.of l hl
   simp [covB] at hc
   exact ⟨l, hl, hc.1, by rw [hf.same.is]; exact hc.2.1, by omega, by omega⟩
end
-- VAo
section
open Go.RowKit Go.Maps
def ansS (S : List Stk) (ls : List LsV) (kk s i kd m k n f c p : Int) : Ans :=
 if kk = 1 then
  if inB s i kd m k n f c p (f == 0 && p == 0) = true then
   match ls.find? (isNamed s i) with
   | some l => if beforeCode l kd m k n c = true then ⟨0, l.f, l.c, [], none⟩ else .code 6
   | none => if leaseCodeS S ls kd m k n c = 0 then ⟨0, leasedAt S kd m k n, c, [], some (lendS S kd m k n c.toNat, ls ++ [⟨s, i, kd, m, k, n, leasedAt S kd m k n, c, false⟩])⟩ else .code (leaseCodeS S ls kd m k n c)
  else .code 1
 else if kk = 2 then
  if inB s i kd m k n f c p (i == 0) = true then
   match S.find? (fun x => x.is kd m k n) with
   | none => .code 2
   | some x => if c < 1 \/ 40 < c then .code 5 else if 1 < p then .code 9 else if fetchCode ls s kd m k n f c p = 0 then ⟨0, f, c, fetched x p f.toNat c.toNat, none⟩ else .code 8
  else .code 1
 else if kk = 3 then
  if inB s i kd m k n f c p ((kd == 0 && (m == 0 && (k == 0 && n == 0))) && (f == 0 && (c == 0 && p == 0))) = true then
   match ls.find? (isNamed s i) with
   | some l => if l.r then .code 8 else ⟨0, l.f, l.c, [], some (S, freeS ls s i)⟩
   | none => .code 8
  else .code 1
 else if kk = 4 then
  if inB s i kd m k n f c p (s == 0 && (i == 0 && (f == 0 && (c == 0 && p == 0)))) = true then
   match S.find? (fun x => x.is kd m k n) with
   | none => .code 2
   | some x => ⟨0, x.leased, x.ts.length, [], none⟩
  else .code 1
 else .code 1
section
variable {R : List StkR} {ls : List LsV} {ops : List OpV}
abbrev OneDo (A : Ans) (R : List StkR) (ls : List LsV) (ops : List OpV) (kk s i kd m k n f c p : Int) : Prop :=
 GoodA A /\ (∀ w B F fl ah, AhOk fl ah -> StoreOk w B F R ls ops fl ah -> AskDoes A B F R ls ops fl ah (ownT kk) (OwnQ kk s i kd m k n f c p) (reqV kk s i kd m k n f c p) w) /\ ∀ S' ls', A.next = some (S', ls') -> InvQ S' ls'
theorem shareK_len {x : Stk} {p : Int} {j L : Nat} (hok : StkOk x) (hj : j < x.ts.length) (hk : x.ts[j].2 = true) (hL : L = x.sh.x + x.sh.y + x.sh.z) : (sharesW x p j).length = L := by
 have hge : x.ts.getD j ([], false) = x.ts[j] := by
  rw [List.getD_eq_getElem?_getD, List.getElem?_eq_getElem hj]; rfl
 obtain ⟨h1, h2, _, _⟩ := hok.ts _ (List.getElem_mem hj) hk
 rw [sharesW, hge]
 split
 ·rw [h1, hL]
 ·rw [h2, hL]
end
end
-- VAx
section
open Go.RowKit Go.Maps
structure DS where
 S : List Stk
 ls : List LsV
 ops : List OpV
 fl : Bool
 ah : Int
 kn : Bool
def DS.ok (d : DS) (rec : ByteArray) : Bool := diskOk d.fl d.ah (addOps d.kn d.S d.ls rec).length
def DS.add (d : DS) (rec : ByteArray) (S' : List Stk) (ls' : List LsV) : DS :=
 ⟨if d.ok rec then S' else d.S, if d.ok rec then ls' else d.ls, d.ops ++ didOps d.fl d.ah (addOps d.kn d.S d.ls rec), diskFl d.fl d.ah (addOps d.kn d.S d.ls rec).length, diskAh d.fl d.ah (addOps d.kn d.S d.ls rec).length, d.ok rec⟩
structure Rep where
 c : Int
 f : Int
 n : Int
 zs : List Int
def DS.after (d : DS) (A : Ans) (rec : ByteArray) : Rep × DS :=
 match A.next with
 | none => (⟨A.c, A.f, A.n, A.zs⟩, d)
 | some (S', ls') => (if d.ok rec then ⟨A.c, A.f, A.n, A.zs⟩ else ⟨10, 0, 0, []⟩, d.add rec S' ls')
structure StoreX (w : World) (B : Nat) (F : Nat -> Prop) (R : List StkR) (ls : List LsV) (ops : List OpV) (fl : Bool) (ah : Int) (kn : Bool) : Prop where
 ex : ∃ sv lv dv, StoreOf w B F sv lv dv R ls ops fl ah kn
 kinds : ∀ o ∈ ops, 0 <= o.k /\ o.k <= 5
def DealX (w : World) (B : Nat) (F : Nat -> Prop) (d : DS) : Prop := ∃ R, R.map StkR.abs = d.S /\ StoreX w B F R d.ls d.ops d.fl d.ah d.kn
structure XSo (p : Rep × DS) (w w' : World) (B : Nat) (F : Nat -> Prop) (rv : Value) (F' : Nat -> Prop) : Prop where
 row : w'.ownsRow w.heap.size 146 1 rv p.1.zs.length (p.1.zs.map (Value.int .u64))
 deal : DealX w' B F' p.2
 turn : Turn F w w'
 grows : ∀ b, F' b -> F b \/ w.heap.size <= b
 free : ∀ b, rv.ownBlock = some b -> ¬ F' b
def XPost (p : Rep × DS) (w w'' : World) (B : Nat) (F : Nat -> Prop) (e : Ending) : Prop :=
 ∃ ra rl rc F', e = .returned (replyV p.1.c p.1.f p.1.n (.slice ra rl rc)) /\ p.1.zs.length <= 100000000 /\ XSo p w w'' B F (.slice ra rl rc) F'
structure AskX (p : Rep × DS) (B : Nat) (F : Nat -> Prop) (tt : TypeId) (Q : World -> Nat -> Prop) (req : Value) (w : World) : Prop where
 ask : Calls Tryz.prog 20 #[.pointer (some ⟨B, 0, none⟩), req] w fun e w'' => XPost p w w'' B F e
 ans : ∀ w1 rb, Ext w w1 -> w.heap.size <= rb -> Q w1 rb -> Calls Tryz.prog 54 #[.pointer (some ⟨B, 0, none⟩), .iface tt (.pointer (some ⟨rb, 0, none⟩)), .int .i64 0] w1 fun e w'' => XPost p w1 w'' B F e
section
variable {w : World} {B : Nat} {F : Nat -> Prop} {R : List StkR} {ls : List LsV} {ops : List OpV} {fl : Bool} {ah : Int} {kn : Bool} {req : Value} {tt : TypeId} {Q : World -> Nat -> Prop} {f : FuncId} {args : Array Value}
theorem StoreX.ext {w' : World} (h : StoreX w B F R ls ops fl ah kn) (hx : Ext w w') : StoreX w' B F R ls ops fl ah kn := by
 obtain ⟨⟨sv, lv, dv, h1⟩, h2⟩ := h
 exact ⟨⟨sv, lv, dv, h1.ext hx⟩, h2⟩
theorem StoreX.lt (h : StoreX w B F R ls ops fl ah kn) : ∀ b, F b -> b < w.heap.size := by
 obtain ⟨⟨sv, lv, dv, h1⟩, _⟩ := h
 exact h1.lt
abbrev dsOf (R : List StkR) (ls : List LsV) (ops : List OpV) (fl : Bool) (ah : Int) (kn : Bool) : DS := ⟨R.map StkR.abs, ls, ops, fl, ah, kn⟩
theorem xpost_quiet {c0 f0 n0 : Int} (rec : ByteArray) (hst : StoreX w B F R ls ops fl ah kn) (h : Answers f args w (PQuiet c0 f0 n0)) : Calls Tryz.prog f args w fun e w'' => XPost ((dsOf R ls ops fl ah kn).after ⟨c0, f0, n0, [], none⟩ rec) w w'' B F e := by
 refine Calls.mono h ?_
 rintro e w' ⟨c, f, n, a, l, cap, he, rfl, rfl, rfl, hv, hx⟩
 rw [hv] at he
 exact ⟨none, 0, 0, F, he, by simp [DS.after], World.ownsRow_nil _ _ _ _, ⟨R, rfl, hst.ext hx⟩, Turn.of_ext hx, fun b hb => .inl hb, fun b hb => by simp [lH] at hb⟩
theorem xpost_words {f0 n0 : Int} {zs : List Int} (rec : ByteArray) (hz : zs.length <= 100000000) (hst : StoreX w B F R ls ops fl ah kn) (h : Answers f args w (PWords f0 n0 zs)) : Calls Tryz.prog f args w fun e w'' => XPost ((dsOf R ls ops fl ah kn).after ⟨0, f0, n0, zs, none⟩ rec) w w'' B F e := by
 refine Calls.mono h ?_
 rintro e w' ⟨c, f, n, a, l, cap, he, rfl, rfl, rfl, hv, hx⟩
 exact ⟨a, l, cap, F, he, hz, hv, ⟨R, rfl, hst.ext hx⟩, Turn.of_ext hx, fun b hb => .inl hb, fun b hb hf => by
  have h1 := (World.ownsRow.lt hv b hb).1
  have h2 := hst.lt b hf
  omega⟩
theorem DoPost.x {R' : List StkR} {ls' : List LsV} {new : List OpV} {fl' : Bool} {ah' : Int} {kn' : Bool} {w' : World} (h : DoPost w w' B F R' ls' (ops ++ new) fl' ah' kn') (hk : ∀ o ∈ ops, 0 <= o.k /\ o.k <= 5) (hn : ∀ o ∈ new, 0 <= o.k /\ o.k <= 5) : StoreX w' B (grow F w w') R' ls' (ops ++ new) fl' ah' kn' /\ Turn F w w' := by
 obtain ⟨sv, lv, dv, h1, h2⟩ := h
 exact ⟨⟨⟨sv, lv, dv, h1⟩, fun o ho => (List.mem_append.1 ho).elim (hk o) (hn o)⟩, h2⟩
theorem xpost_did {f0 n0 : Int} {R' : List StkR} {ls' : List LsV} {rec : ByteArray} (hst : StoreX w B F R ls ops fl ah kn) (h : Answers f args w (PDid B F R ls ops fl ah kn rec R' ls' f0 n0)) : Calls Tryz.prog f args w fun e w'' => XPost ((dsOf R ls ops fl ah kn).after ⟨0, f0, n0, [], some (R'.map StkR.abs, ls')⟩ rec) w w'' B F e := by
 unfold PDid at h
 have hk := did_kinds (kn := kn) (fl := fl) (ah := ah) (S := R.map StkR.abs) (ls := ls) (rec := rec)
 cases hok : diskOk fl ah (addOps kn (R.map StkR.abs) ls rec).length with
 | true =>
  rw [if_pos hok] at h
  refine Calls.mono h ?_
  rintro e w' ⟨c, f, n, a, l, cap, he, rfl, rfl, rfl, hv, hd⟩
  rw [hv] at he
  obtain ⟨hs, ht⟩ := hd.x hst.kinds hk
  have e1 : (dsOf R ls ops fl ah kn).ok rec = true := hok
  refine ⟨none, 0, 0, grow F w w', ?_, ?_, ?_, ⟨R', ?_, ?_⟩, ht, fun b hb => hb.imp id (fun h => h.1), fun b hb => by simp [lH] at hb⟩
  ·simp only [DS.after, e1, if_true]; exact he
  ·simp only [DS.after, e1, if_true]; simp
  ·simp only [DS.after, e1, if_true]; exact World.ownsRow_nil _ _ _ _
  ·simp only [DS.after, DS.add, e1, if_true]
  ·simp only [DS.after, DS.add, e1, if_true]; exact hs
 | false =>
  rw [if_neg (by rw [hok]; decide)] at h
  refine Calls.mono h ?_
  rintro e w' ⟨c, f, n, a, l, cap, he, rfl, rfl, rfl, hv, hd⟩
  rw [hv] at he
  obtain ⟨hs, ht⟩ := hd.x hst.kinds hk
  have e1 : (dsOf R ls ops fl ah kn).ok rec = false := hok
  refine ⟨none, 0, 0, grow F w w', ?_, ?_, ?_, ⟨R, ?_, ?_⟩, ht, fun b hb => hb.imp id (fun h => h.1), fun b hb => by simp [lH] at hb⟩
  ·simp only [DS.after, e1]; exact he
  ·simp only [DS.after, e1]; simp
  ·simp only [DS.after, e1]; exact World.ownsRow_nil _ _ _ _
  ·simp only [DS.after, DS.add, e1]; rfl
  ·simp only [DS.after, DS.add, e1]; exact hs
theorem x_quiet {c0 f0 n0 : Int} {rec : ByteArray} (hst : StoreX w B F R ls ops fl ah kn) (h : AskAns B tt Q req w (PQuiet c0 f0 n0)) : AskX ((dsOf R ls ops fl ah kn).after ⟨c0, f0, n0, [], none⟩ rec) B F tt Q req w :=
 ⟨xpost_quiet rec hst h.ask, fun w1 rb hx hr hq => xpost_quiet rec (hst.ext hx) (h.ans w1 rb hx hr hq)⟩
theorem x_words {f0 n0 : Int} {zs : List Int} {rec : ByteArray} (hz : zs.length <= 100000000) (hst : StoreX w B F R ls ops fl ah kn) (h : AskAns B tt Q req w (PWords f0 n0 zs)) : AskX ((dsOf R ls ops fl ah kn).after ⟨0, f0, n0, zs, none⟩ rec) B F tt Q req w :=
 ⟨xpost_words rec hz hst h.ask, fun w1 rb hx hr hq => xpost_words rec hz (hst.ext hx) (h.ans w1 rb hx hr hq)⟩
theorem x_did {f0 n0 : Int} {R' : List StkR} {ls' : List LsV} {rec : ByteArray} (hst : StoreX w B F R ls ops fl ah kn) (h : AskAns B tt Q req w (PDid B F R ls ops fl ah kn rec R' ls' f0 n0)) : AskX ((dsOf R ls ops fl ah kn).after ⟨0, f0, n0, [], some (R'.map StkR.abs, ls')⟩ rec) B F tt Q req w :=
 ⟨xpost_did hst h.ask, fun w1 rb hx hr hq => xpost_did (hst.ext hx) (h.ans w1 rb hx hr hq)⟩
end
section
variable {R : List StkR} {ls : List LsV} {ops : List OpV}
abbrev OneX (A : Ans) (rec : ByteArray) (R : List StkR) (ls : List LsV) (ops : List OpV) (kk s i kd m k n f c p : Int) : Prop :=
 GoodA A /\ (∀ w B F fl ah kn, AhOk fl ah -> StoreX w B F R ls ops fl ah kn -> AskX ((dsOf R ls ops fl ah kn).after A rec) B F (ownT kk) (OwnQ kk s i kd m k n f c p) (reqV kk s i kd m k n f c p) w) /\ ∀ S' ls', A.next = some (S', ls') -> InvQ S' ls'
theorem onex_code {c0 : Int} {rec : ByteArray} {kk s i kd m k n f c p : Int} (h1 : ∀ w B F fl ah kn, StoreX w B F R ls ops fl ah kn -> AskX ((dsOf R ls ops fl ah kn).after (.code c0) rec) B F (ownT kk) (OwnQ kk s i kd m k n f c p) (reqV kk s i kd m k n f c p) w) (hc : 0 <= c0 /\ c0 < 10) : OneX (.code c0) rec R ls ops kk s i kd m k n f c p :=
 ⟨good_code hc, fun w B F fl ah kn _ => h1 w B F fl ah kn, fun S' ls' h => by simp [Ans.code] at h⟩
theorem badx_one {rec : ByteArray} {kk s i kd m k n f c p : Int} (hck : ∀ w', Calls Tryz.prog 55 #[.agg #[.int .i64 kk, .int .i64 s, .int .i64 i, .int .i64 kd, .int .i64 m, .int .i64 k, .int .i64 n, .int .i64 f, .int .i64 c, .int .i64 p]] w' fun e w'' => e = .returned (.tuple #[.nilIface, .int .i64 1]) /\ Ext w' w'') (hno : ∀ W rb, ¬ OwnQ kk s i kd m k n f c p W rb) : OneX (.code 1) rec R ls ops kk s i kd m k n f c p :=
 onex_code (fun w B _F _ _ _ hst => ⟨xpost_quiet rec hst (quiet_of (askBad_c B kk s i kd m k n f c p w (fun w' _ => hck w'))), fun w1 rb _ _ hq => absurd hq (hno w1 rb)⟩) (by decide)
theorem onex_lease (hI : InvQ (R.map StkR.abs) ls) (hops : ops.length <= 1000000) (s i kd m k n f c p : Int) : OneX (ansS (R.map StkR.abs) ls 1 s i kd m k n f c p) (leaseRec s.toNat i.toNat kd.toNat m.toNat k.toNat n.toNat c.toNat) R ls ops 1 s i kd m k n f c p := by
 have hsm := hI.small
 unfold ansS
 rw [if_pos rfl]
 cases hin : inB s i kd m k n f c p (f == 0 && p == 0) with
 | false =>
  rw [if_neg (by decide)]
  cases hz : (f == 0 && p == 0) with
  | false =>
   exact badx_one (fun w' => check_1a s i kd m k n f c p (by
    simp at hz ⊢
    intro h1 h2
    exact hz h1.symm h2.symm) w') (fun W rb ho => by rw [(own1 ho).1] at hin; cases hin)
  | true =>
   simp at hz
   obtain ⟨rfl, rfl⟩ := hz
   exact badx_one (fun w' => (check_1b s i kd m k n c (vl [s, i, kd, m, k, n, c]) ⟨rfl, rfl, rfl, rfl, rfl, rfl, rfl⟩ w').mono (fun e w'' h => by
    rcases h with ⟨h, _⟩ | ⟨_, h⟩
    ·rw [no_fit (fit1 s i kd m k n c) (by simpa using hin)] at h; cases h
    ·exact h)) (fun W rb ho => by rw [(own1 ho).1] at hin; cases hin)
 | true =>
  rw [if_pos rfl]
  obtain ⟨rfl, rfl⟩ : f = 0 /\ p = 0 := by
   simp [inB] at hin
   exact ⟨hin.2.2.2.2.2.2.2.2.2.1, hin.2.2.2.2.2.2.2.2.2.2⟩
  have hfit : fitB (vl [s, i, kd, m, k, n, c]) leaseL = true := (fit1 s i kd m k n c).2 (by simpa using hin)
  have hrg : (0 <= s /\ s <= 2147483647) /\ (0 <= i /\ i <= 2147483647) /\ (0 <= c /\ c <= 2147483647) /\ (0 <= kd /\ kd < 256) /\ (0 <= m /\ m < 256) /\ (0 <= k /\ k < 256) /\ (0 <= n /\ n < 256) := by
   simp [inB, isNum_iff, isByt_iff] at hin
   omega
  have hll : ls.length <= 900 := by have := hI.leases; omega
  cases hf : ls.findIdx? (isNamed s i) with
  | some ix =>
   obtain ⟨hix, hfd⟩ := find_idx hf
   rw [hfd]
   simp only
   refine ⟨?_, fun w B F fl ah kn hah hst => ?_, fun S' ls' h => ?_⟩
   ·have hfc := hsm.fc _ (List.getElem_mem hix)
    split
    ·exact good_quiet (by decide) ⟨hfc.1, hfc.2.1⟩ hfc.2.2
    ·exact good_code (by decide)
   ·obtain ⟨sv, lv, dv, h1⟩ := hst.ex
    have := askLeaseSome_c s i kd m k n c ix hsm hix hf (vl [s, i, kd, m, k, n, c]) ⟨rfl, rfl, rfl, rfl, rfl, rfl, rfl⟩ hfit w h1
    split
    ·rename_i hb
     rw [if_pos hb] at this
     exact x_quiet hst this.o1
    ·rename_i hb
     rw [if_neg hb] at this
     exact x_quiet hst this.o1
   ·split at h <;> simp [Ans.code] at h
  | none =>
   rw [find_none_idx hf]
   simp only
   by_cases hcd : leaseCodeS (R.map StkR.abs) ls kd m k n c = 0
   ·rw [if_pos hcd]
    cases hfx : (R.map StkR.abs).findIdx? (fun x => x.is kd m k n) with
    | none =>
     unfold leaseCodeS at hcd
     rw [find_none_idx hfx] at hcd
     simp at hcd
    | some ix =>
     obtain ⟨hix, hfi⟩ := find_idx hfx
     have hixR : ix < R.length := by simpa using hix
     have hfxR : R.find? (fun x => x.is kd m k n) = some R[ix] := by
      rw [idx_abs] at hfx
      obtain ⟨_, h2⟩ := find_idx hfx
      exact h2
     have hc40 : 1 <= c /\ c <= 40 := by
      unfold leaseCodeS at hcd
      rw [hfi] at hcd
      simp only at hcd
      split at hcd
      ·simp at hcd
      ·omega
     obtain ⟨cn, rfl⟩ := Int.eq_ofNat_of_zero_le (show 0 <= c by omega)
     obtain ⟨sn, rfl⟩ := Int.eq_ofNat_of_zero_le hrg.1.1
     obtain ⟨im, rfl⟩ := Int.eq_ofNat_of_zero_le hrg.2.1.1
     obtain ⟨kdn, rfl⟩ := Int.eq_ofNat_of_zero_le hrg.2.2.2.1.1
     obtain ⟨mn, rfl⟩ := Int.eq_ofNat_of_zero_le hrg.2.2.2.2.1.1
     obtain ⟨kn', rfl⟩ := Int.eq_ofNat_of_zero_le hrg.2.2.2.2.2.1.1
     obtain ⟨nn, rfl⟩ := Int.eq_ofNat_of_zero_le hrg.2.2.2.2.2.2.1
     have hab : (R.map StkR.abs)[ix] = R[ix].abs := by simp
     have hset : (R.set ix (R[ix].lend cn)).map StkR.abs = (R.map StkR.abs).set ix ((R.map StkR.abs)[ix].lend cn) := by
      rw [List.map_set, hab]; rfl
     have hlsd : (R.map StkR.abs)[ix].leased = R[ix].leased := by rw [hab]; rfl
     have hla : leasedAt (R.map StkR.abs) kdn mn kn' nn = R[ix].leased := by rw [leasedAt_eq hfi, hlsd]
     have hld : lendS (R.map StkR.abs) kdn mn kn' nn (cn : Int).toNat = (R.set ix (R[ix].lend cn)).map StkR.abs := by rw [lendS_eq hfx hix, hset]; rfl
     rw [hla, hld]
     have hSm := hsm.made _ (List.getElem_mem hixR)
     refine ⟨good_quiet (by decide) (by omega) (by omega), fun w B F fl ah kn hah hst => ?_, fun S' ls' h => ?_⟩
     ·obtain ⟨sv, lv, dv, h1⟩ := hst.ex
      exact x_did hst (AskAns.o1 (askLease_c sn im kdn mn kn' nn cn ix hsm hops hah hf (by rw [leaseCode_abs]; exact hcd) hixR hfxR (by omega) (by omega) (by omega) (by omega) w h1))
     ·injection h with h
      injection h with h1 h2
      subst h1 h2
      rw [hset, <- hlsd]
      refine hI.lease hix hfx hcd hf ?_
      unfold LsOk
      simp only
      omega
   ·rw [if_neg hcd]
    have hc10 : 0 <= leaseCodeS (R.map StkR.abs) ls kd m k n c /\ leaseCodeS (R.map StkR.abs) ls kd m k n c < 10 := by
     unfold leaseCodeS
     split
     ·decide
     ·split
      ·decide
      ·split
       ·decide
       ·split <;> decide
    refine onex_code (c0 := leaseCodeS (R.map StkR.abs) ls kd m k n c) (fun w B F fl ah kn hst => ?_) hc10
    obtain ⟨sv, lv, dv, h1⟩ := hst.ex
    have := askLeaseNo_c s i kd m k n c hsm hf (by rw [leaseCode_abs]; exact hcd) (vl [s, i, kd, m, k, n, c]) ⟨rfl, rfl, rfl, rfl, rfl, rfl, rfl⟩ hfit w h1
    rw [leaseCode_abs] at this
    exact x_quiet hst this.o1
theorem onex_status (rec : ByteArray) (hI : InvQ (R.map StkR.abs) ls) (s i kd m k n f c p : Int) : OneX (ansS (R.map StkR.abs) ls 4 s i kd m k n f c p) rec R ls ops 4 s i kd m k n f c p := by
 have hsm := hI.small
 unfold ansS
 rw [if_neg (by decide), if_neg (by decide), if_neg (by decide), if_pos rfl]
 cases hin : inB s i kd m k n f c p (s == 0 && (i == 0 && (f == 0 && (c == 0 && p == 0)))) with
 | false =>
  rw [if_neg (by decide)]
  cases hz : (s == 0 && (i == 0 && (f == 0 && (c == 0 && p == 0)))) with
  | false =>
   exact badx_one (fun w' => check_4a s i kd m k n f c p (by
    simp at hz ⊢
    intro h1 h2 h3 h4 h5
    exact hz h1.symm h2.symm h3.symm h4.symm h5.symm) w') (fun W rb ho => by rw [(own4 ho).1] at hin; cases hin)
  | true =>
   simp at hz
   obtain ⟨rfl, rfl, rfl, rfl, rfl⟩ := hz
   exact badx_one (fun w' => (check_4b kd m k n (vl [kd, m, k, n]) ⟨rfl, rfl, rfl, rfl⟩ w').mono (fun e w'' h => by
    rcases h with ⟨h, _⟩ | ⟨_, h⟩
    ·rw [no_fit (fit4 kd m k n) (by simpa using hin)] at h; cases h
    ·exact h)) (fun W rb ho => by rw [(own4 ho).1] at hin; cases hin)
 | true =>
  rw [if_pos rfl]
  obtain ⟨rfl, rfl, rfl, rfl, rfl⟩ : s = 0 /\ i = 0 /\ f = 0 /\ c = 0 /\ p = 0 := by
   simp [inB] at hin
   exact hin.2.2.2.2.2.2.2.2.2
  have hfit : fitB (vl [kd, m, k, n]) statusL = true := (fit4 kd m k n).2 (by simpa using hin)
  cases hfx : (R.map StkR.abs).findIdx? (fun x => x.is kd m k n) with
  | none =>
   rw [find_none_idx hfx]
   have hfR : R.find? (fun x => x.is kd m k n) = none := by
    rw [idx_abs] at hfx
    exact find_none_idx hfx
   refine onex_code (c0 := 2) (fun w B F fl ah kn hst => ?_) (by decide)
   obtain ⟨sv, lv, dv, h1⟩ := hst.ex
   have := askStatus_c kd m k n hsm (vl [kd, m, k, n]) ⟨rfl, rfl, rfl, rfl⟩ hfit w h1
   rw [hfR] at this
   exact x_quiet hst this.o4
  | some ix =>
   obtain ⟨hix, hfi⟩ := find_idx hfx
   have hixR : ix < R.length := by simpa using hix
   have hfR : R.find? (fun x => x.is kd m k n) = some R[ix] := by
    rw [idx_abs] at hfx
    obtain ⟨_, h2⟩ := find_idx hfx
    exact h2
   have hab : (R.map StkR.abs)[ix] = R[ix].abs := by simp
   rw [hfi, hab]
   refine ⟨good_quiet (by decide) (by have := (hsm.made _ (List.getElem_mem hixR)).2; show 0 <= ((R[ix].leased : Nat) : Int) /\ ((R[ix].leased : Nat) : Int) <= 1000; omega) (by have := (hsm.made _ (List.getElem_mem hixR)).1; show 0 <= ((R[ix].ts.length : Nat) : Int) /\ ((R[ix].ts.length : Nat) : Int) <= 1000; omega), fun w B F fl ah kn hah hst => ?_, fun S' ls' h => by simp at h⟩
   obtain ⟨sv, lv, dv, h1⟩ := hst.ex
   have := askStatus_c kd m k n hsm (vl [kd, m, k, n]) ⟨rfl, rfl, rfl, rfl⟩ hfit w h1
   rw [hfR] at this
   exact x_quiet hst this.o4
theorem onex_release (hI : InvQ (R.map StkR.abs) ls) (hops : ops.length <= 1000000) (s i kd m k n f c p : Int) : OneX (ansS (R.map StkR.abs) ls 3 s i kd m k n f c p) (relRec s.toNat i.toNat) R ls ops 3 s i kd m k n f c p := by
 have hsm := hI.small
 unfold ansS
 rw [if_neg (by decide), if_neg (by decide), if_pos rfl]
 cases hin : inB s i kd m k n f c p ((kd == 0 && (m == 0 && (k == 0 && n == 0))) && (f == 0 && (c == 0 && p == 0))) with
 | false =>
  rw [if_neg (by decide)]
  cases hz : ((kd == 0 && (m == 0 && (k == 0 && n == 0))) && (f == 0 && (c == 0 && p == 0))) with
  | false =>
   exact badx_one (fun w' => check_3a s i kd m k n f c p (by
    cases hq : ((0 == kd && (0 == m && (0 == k && 0 == n))) && (0 == f && (0 == c && 0 == p)))
    ·rfl
    ·simp at hq
     obtain ⟨⟨rfl, rfl, rfl, rfl⟩, rfl, rfl, rfl⟩ := hq
     simp at hz) w') (fun W rb ho => by rw [(own3 ho).1] at hin; cases hin)
  | true =>
   simp at hz
   obtain ⟨⟨rfl, rfl, rfl, rfl⟩, rfl, rfl, rfl⟩ := hz
   exact badx_one (fun w' => (check_3b s i (vl [s, i]) ⟨rfl, rfl⟩ w').mono (fun e w'' h => by
    rcases h with ⟨h, _⟩ | ⟨_, h⟩
    ·rw [no_fit (fit3 s i) (by simpa using hin)] at h; cases h
    ·exact h)) (fun W rb ho => by rw [(own3 ho).1] at hin; cases hin)
 | true =>
  rw [if_pos rfl]
  obtain ⟨⟨rfl, rfl, rfl, rfl⟩, rfl, rfl, rfl⟩ : (kd = 0 /\ m = 0 /\ k = 0 /\ n = 0) /\ f = 0 /\ c = 0 /\ p = 0 := by
   simp [inB] at hin
   exact hin.2.2.2.2.2.2.2.2.2
  have hfit : fitB (vl [s, i]) releaseL = true := (fit3 s i).2 (by simpa using hin)
  have hrg : (0 <= s /\ s <= 2147483647) /\ (0 <= i /\ i <= 2147483647) := by
   simp [inB, isNum_iff, isByt_iff] at hin
   omega
  have h8 : releaseCode ls s i ≠ 0 -> releaseCode ls s i = 8 -> OneX (.code 8) (relRec s.toNat i.toNat) R ls ops 3 s i 0 0 0 0 0 0 0 := fun hcd h8 => by
   refine onex_code (c0 := 8) (fun w B F fl ah kn hst => ?_) (by decide)
   obtain ⟨sv, lv, dv, h1⟩ := hst.ex
   have := askReleaseNo_c s i hsm hcd (vl [s, i]) ⟨rfl, rfl⟩ hfit w h1
   rw [h8] at this
   exact x_quiet hst this.o3
  cases hf : ls.findIdx? (isNamed s i) with
  | none =>
   have hfn := find_none_idx hf
   rw [hfn]
   have hc8 : releaseCode ls s i = 8 := by unfold releaseCode; rw [hfn]
   exact h8 (by rw [hc8]; decide) hc8
  | some ix =>
   obtain ⟨hix, hfi⟩ := find_idx hf
   rw [hfi]
   simp only
   cases hrel : ls[ix].r with
   | true =>
    have hc8 : releaseCode ls s i = 8 := by unfold releaseCode; rw [hfi]; simp [hrel]
    exact h8 (by rw [hc8]; decide) hc8
   | false =>
    have hcd : releaseCode ls s i = 0 := by unfold releaseCode; rw [hfi]; simp [hrel]
    rw [freeS_eq hf hix]
    obtain ⟨sn, rfl⟩ := Int.eq_ofNat_of_zero_le hrg.1.1
    obtain ⟨im, rfl⟩ := Int.eq_ofNat_of_zero_le hrg.2.1
    refine ⟨good_quiet (by decide) ⟨(hsm.fc _ (List.getElem_mem hix)).1, (hsm.fc _ (List.getElem_mem hix)).2.1⟩ (hsm.fc _ (List.getElem_mem hix)).2.2, fun w B F fl ah kn hah hst => ?_, fun S' ls' h => ?_⟩
    ·obtain ⟨sv, lv, dv, h1⟩ := hst.ex
     exact x_did hst (AskAns.o3 (askRelease_c sn im ix hsm hops hah hcd hix hf (by omega) (by omega) w h1))
    ·injection h with h
     injection h with h1 h2
     subst h1 h2
     exact hI.free hix
theorem onex_fetch (rec : ByteArray) (hI : InvQ (R.map StkR.abs) ls) (s i kd m k n f c p : Int) : OneX (ansS (R.map StkR.abs) ls 2 s i kd m k n f c p) rec R ls ops 2 s i kd m k n f c p := by
 have hsm := hI.small
 unfold ansS
 rw [if_neg (by decide), if_pos rfl]
 cases hin : inB s i kd m k n f c p (i == 0) with
 | false =>
  rw [if_neg (by decide)]
  cases hz : (i == 0) with
  | false =>
   exact badx_one (fun w' => check_2a s i kd m k n f c p (by
    simp at hz ⊢
    exact fun h => hz h.symm) w') (fun W rb ho => by rw [(own2 ho).1] at hin; cases hin)
  | true =>
   simp at hz
   subst hz
   exact badx_one (fun w' => (check_2b s kd m k n f c p (vl [s, kd, m, k, n, f, c, p]) ⟨rfl, rfl, rfl, rfl, rfl, rfl, rfl, rfl⟩ w').mono (fun e w'' h => by
    rcases h with ⟨h, _⟩ | ⟨_, h⟩
    ·rw [no_fit (fit2 s kd m k n f c p) (by simpa using hin)] at h; cases h
    ·exact h)) (fun W rb ho => by rw [(own2 ho).1] at hin; cases hin)
 | true =>
  rw [if_pos rfl]
  obtain rfl : i = 0 := by
   simp [inB] at hin
   exact hin.2.2.2.2.2.2.2.2.2
  have hfit : fitB (vl [s, kd, m, k, n, f, c, p]) fetchL = true := (fit2 s kd m k n f c p).2 (by simpa using hin)
  have hrg : (0 <= f /\ f <= 2147483647) /\ (0 <= c /\ c <= 2147483647) /\ (0 <= p /\ p < 256) := by
   simp [inB, isNum_iff, isByt_iff] at hin
   omega
  have hno : ∀ cd : Int, cd ≠ 0 -> 0 <= cd /\ cd < 10 -> ((R.find? (fun x => x.is kd m k n) = none /\ cd = 2) \/ ((R.find? (fun x => x.is kd m k n)).isSome /\ cd = fetchCode ls s kd m k n f c p)) -> OneX (.code cd) rec R ls ops 2 s 0 kd m k n f c p := fun cd h0 h10 h1 => by
   refine onex_code (c0 := cd) (fun w B F fl ah kn hst => ?_) h10
   obtain ⟨sv, lv, dv, hs1⟩ := hst.ex
   exact x_quiet hst (AskAns.o2 (askFetchNo_c s kd m k n f c p cd hsm h0 hrg.1.1 hrg.1.2 h1 (vl [s, kd, m, k, n, f, c, p]) ⟨rfl, rfl, rfl, rfl, rfl, rfl, rfl, rfl⟩ hfit w hs1))
  cases hfx : (R.map StkR.abs).findIdx? (fun x => x.is kd m k n) with
  | none =>
   rw [find_none_idx hfx]
   have hfR : R.find? (fun x => x.is kd m k n) = none := by
    rw [idx_abs] at hfx
    exact find_none_idx hfx
   exact hno 2 (by decide) (by decide) (.inl ⟨hfR, rfl⟩)
  | some ix =>
   obtain ⟨hix, hfi⟩ := find_idx hfx
   have hixR : ix < R.length := by simpa using hix
   have hfR : R.find? (fun x => x.is kd m k n) = some R[ix] := by
    rw [idx_abs] at hfx
    obtain ⟨_, h2⟩ := find_idx hfx
    exact h2
   have hsome : (R.find? (fun x => x.is kd m k n)).isSome := by rw [hfR]; rfl
   have hab : (R.map StkR.abs)[ix] = R[ix].abs := by simp
   rw [hfi, hab]
   simp only
   by_cases hcc : c < 1 \/ 40 < c
   ·rw [if_pos hcc]
    exact hno 5 (by decide) (by decide) (.inr ⟨hsome, by unfold fetchCode; rw [if_pos hcc]⟩)
   ·rw [if_neg hcc]
    by_cases hp1 : 1 < p
    ·rw [if_pos hp1]
     exact hno 9 (by decide) (by decide) (.inr ⟨hsome, by unfold fetchCode; rw [if_neg hcc, if_pos (by omega)]⟩)
    ·rw [if_neg hp1]
     have hpp : p = 0 \/ p = 1 := by omega
     have hmem : R[ix].abs ∈ R.map StkR.abs := List.mem_map.2 ⟨R[ix], List.getElem_mem hixR, rfl⟩
     have hok := hI.toInvK.stkOk hmem
     obtain ⟨L, hL⟩ : ∃ L, L = R[ix].abs.sh.x + R[ix].abs.sh.y + R[ix].abs.sh.z := ⟨_, rfl⟩
     have hLb : 1 <= L /\ L <= 27 := by rw [hL]; exact hok.sh
     have hmade := hI.made _ hmem
     have hfiA : (R.map StkR.abs).find? (fun x => x.is kd m k n) = some R[ix].abs := by rw [hfi, hab]
     have hinj : ∀ j : Nat, ls.any (holdsP s kd m k n j) = true -> j < R[ix].abs.ts.length := fun j hj => by
      have := heldQ_in hI hfiA hj
      omega
     obtain ⟨fn, rfl⟩ := Int.eq_ofNat_of_zero_le hrg.1.1
     obtain ⟨cn, rfl⟩ := Int.eq_ofNat_of_zero_le hrg.2.1.1
     by_cases hcode : fetchCode ls s kd m k n fn cn p = 0
     ·rw [if_pos hcode]
      have hall : ∀ j : Nat, j < cn -> ls.any (holdsP s kd m k n ((fn + j : Nat) : Int)) = true := by
       have hc := hcode
       unfold fetchCode at hc
       rw [if_neg hcc, if_neg (by omega)] at hc
       split at hc
       ·rename_i hh
        intro j hj
        have := hh j (by omega)
        rw [heldQ_eq hI] at this
        simpa using this
       ·simp at hc
      have h0 := hinj fn (by have := hall 0 (by omega); simpa using this)
      have hkj : ∀ j : Nat, j < cn -> ∃ hi : fn + j < R[ix].abs.ts.length, R[ix].abs.ts[fn + j].2 = true := fun j hj => ⟨hinj (fn + j) (hall j hj), heldQ_kept hI hfiA (hinj (fn + j) (hall j hj)) (hall j hj)⟩
      have hlz : (fetched R[ix].abs p fn cn).length = cn * L := fetched_len (c := cn) (fun j hj => shareK_len hok (hkj j hj).1 (hkj j hj).2 hL) cn (Nat.le_refl _)
      have hcL : cn * L <= 40 * 27 := Nat.mul_le_mul (by omega) hLb.2
      refine ⟨⟨by show (0 : Int) ≠ 10; decide, by show (0 : Int) <= 0 /\ (0 : Int) < 256; decide, by show 0 <= (fn : Int) /\ (fn : Int) < 4294967296; omega, by show 0 <= (cn : Int) /\ (cn : Int) < 4294967296; omega, fetched_in hpp hok hkj⟩, fun w B F fl ah kn hah hst => ?_, fun S' ls' h => by simp at h⟩
      obtain ⟨sv, lv, dv, hs1⟩ := hst.ex
      exact x_words (by show (fetched R[ix].abs p fn cn).length <= _; rw [hlz]; omega) hst (AskAns.o2 (askFetch_c fn cn L R[ix] s kd m k n p hsm hpp (by have e : R[ix].abs.ts.length = R[ix].ts.length := rfl; omega) (by omega) (by omega) hfR hL hLb.1 hLb.2 hcode hkj hok.ts hlz (vl [s, kd, m, k, n, fn, cn, p]) ⟨rfl, rfl, rfl, rfl, rfl, rfl, rfl, rfl⟩ hfit w hs1))
     ·rw [if_neg hcode]
      have h8 : fetchCode ls s kd m k n fn cn p = 8 := by
       unfold fetchCode at hcode ⊢
       rw [if_neg hcc, if_neg (by omega)] at hcode ⊢
       split
       ·rename_i hh
        rw [if_pos hh] at hcode
        exact absurd rfl hcode
       ·rfl
      exact hno 8 (by decide) (by decide) (.inr ⟨hsome, h8.symm⟩)
def recOf (kk s i kd m k n c : Int) : ByteArray := if kk = 1 then leaseRec s.toNat i.toNat kd.toNat m.toNat k.toNat n.toNat c.toNat else relRec s.toNat i.toNat
theorem ask_x (hI : InvQ (R.map StkR.abs) ls) (hops : ops.length <= 1000000) (kk s i kd m k n f c p : Int) : OneX (ansS (R.map StkR.abs) ls kk s i kd m k n f c p) (recOf kk s i kd m k n c) R ls ops kk s i kd m k n f c p := by
 by_cases h1 : kk = 1
 ·subst h1; rw [recOf, if_pos rfl]; exact onex_lease hI hops s i kd m k n f c p
 rw [recOf, if_neg h1]
 by_cases h2 : kk = 2
 ·subst h2; exact onex_fetch _ hI s i kd m k n f c p
 by_cases h3 : kk = 3
 ·subst h3; exact onex_release hI hops s i kd m k n f c p
 by_cases h4 : kk = 4
 ·subst h4; exact onex_status _ hI s i kd m k n f c p
 have e : ansS (R.map StkR.abs) ls kk s i kd m k n f c p = .code 1 := by
  unfold ansS
  rw [if_neg h1, if_neg h2, if_neg h3, if_neg h4]
 rw [e]
 exact badx_one (fun w' => check_no kk s i kd m k n f c p (by simpa using h1) (by simpa using h2) (by simpa using h3) (by simpa using h4) w') (fun W rb ho => by
  rcases ho with ho | ho | ho | ho
  ·exact h1 ho.1
  ·exact h2 ho.1
  ·exact h3 ho.1
  ·exact h4 ho.1)
end
end
-- JCo
section
open Go.RowKit Go.Maps
section
variable {w : World} {P B q c : Nat} {G F : Nat -> Prop} {v : GV} {S : List Stk} {ls : List LsV} {ops0 : List OpV} {fl : Bool} {ah : Int}
end
def compA (S : List Stk) (ls : List LsV) : Ans := ⟨0, 0, 0, [], some (compactS S ls, ls)⟩
structure CompDid (w w' : World) (B : Nat) (F : Nat -> Prop) (R : List StkR) (ls : List LsV) (ops : List OpV) (fl : Bool) (ah : Int) (c0 : Int) (R' : List StkR) (F' : Nat -> Prop) (new : List OpV) (fl' : Bool) (ah' : Int) : Prop where
 store : StoreOk w' B F' R' ls (ops ++ new) fl' ah'
 turn : Turn F w w'
 grows : ∀ b, F' b -> F b \/ w.heap.size <= b
 next : (compactS (R.map StkR.abs) ls = R.map StkR.abs /\ c0 = 0 /\ new = [] /\ R' = R /\ fl' = fl /\ ah' = ah) \/ AskNext (compA (R.map StkR.abs) ls) R ls fl ah c0 0 0 [] R' ls new fl' ah'
end
-- GFl
section
set_option maxRecDepth 100000
open Go.RowKit Go.Maps
section
variable {B : Nat} {F : Nat -> Prop} {sv lv dv : Value} {R : List StkR} {ls : List LsV} {ops : List OpV} {fl : Bool} {ah : Int} {kn : Bool}
theorem StoreOf.fail {w : World} (h : StoreOf w B F sv lv dv R ls ops fl ah kn) (f : Bool) (a : Int) : StoreOf ((w.setCell ⟨B, 3, none⟩ (.bool f)).setCell ⟨B, 4, none⟩ (.int .i64 a)) B F sv lv dv R ls ops f a kn /\ Turn (fun b => b = B) w ((w.setCell ⟨B, 3, none⟩ (.bool f)).setCell ⟨B, 4, none⟩ (.int .i64 a)) := by
 have hT : Turn (fun b => b = B) w ((w.setCell ⟨B, 3, none⟩ (.bool f)).setCell ⟨B, 4, none⟩ (.int .i64 a)) := Turn.setCell (S := fun b => b = B) (p := ⟨B, 4, none⟩) (Turn.setCell (S := fun b => b = B) (p := ⟨B, 3, none⟩) (Turn.refl _ w) (fun _ => rfl) _) (fun _ => rfl) _
 refine ⟨⟨(h.deal.set3 f).set4 a, hT.owns h.srow (fun q hq e => h.deal.rne h.srow (by decide) (e ▸ hq)), hT.owns h.lrow (fun q hq e => h.deal.rne h.lrow (by decide) (e ▸ hq)), hT.owns h.orow (fun q hq e => h.deal.rne h.orow (by decide) (e ▸ hq)), fun x hx => ?_, h.nb, h.nm, h.fB, h.fs, h.fl', h.fd, fun b hb => Nat.lt_of_lt_of_le (h.lt b hb) hT.size, h.lnil, h.dnil⟩, hT⟩
 have hxk := h.stk x hx
 obtain ⟨D, hD, _⟩ := hxk.map
 exact hxk.turn' hT (fun e => h.deal.tne hxk.blk (by decide) e) (fun e => h.deal.mne hD e.symm) (fun b cur hc e => h.deal.tne hc (by decide) e)
theorem diskFailAt_c (n : Int) (w : World) (h : StoreOf w B F sv lv dv R ls ops fl ah kn) :
  Calls Tryz.prog 94 #[.pointer (some ⟨B, 2, none⟩), .int .i64 n] w fun e w' => e = .returned (.tuple #[]) /\ StoreOf w' B F sv lv dv R ls ops (decide (0 <= n)) n kn /\ Turn (fun b => b = B) w w' := by
 obtain ⟨_, _, _, c3, c4, _⟩ := h.deal.cells
 have hB := h.deal.lt
 have f3 := h.deal.frozen 3
 have f4 := h.deal.frozen 4
 have H : Hid _ := h.fail (decide (0 <= n)) n
 clear h
 go_enter Tryz.func94, Tryz.ntmps94
 go_wp2
 go_end0
 exact ⟨rfl, H.out.1, H.out.2⟩
theorem storeFailAt_c (n : Int) (w : World) (h : StoreOf w B F sv lv dv R ls ops fl ah kn) :
  Calls Tryz.prog 64 #[.pointer (some ⟨B, 0, none⟩), .int .i64 n] w fun e w' => e = .returned (.tuple #[]) /\ StoreOf w' B F sv lv dv R ls ops (decide (0 <= n)) n kn /\ Turn (fun b => b = B) w w' := by
 have HD : Hid (∀ w', Ext w w' -> _) := fun w' hx => diskFailAt_c n w' (h.ext hx)
 have hB := h.deal.lt
 clear h
 go_enter Tryz.func64, Tryz.ntmps64
 go_wp2_with fail
 refine (HD.out _ (Ext.refl _)).mono ?_
 rintro e w1 ⟨rfl, h1, h2⟩
 have HR : Hid _ := And.intro h1 h2
 clear h1 h2
 go_wp2
 go_end0
 exact ⟨rfl, HR.out.1, HR.out.2⟩
theorem dealerFailAt_c (n : Int) (w : World) (h : StoreOf w B F sv lv dv R ls ops fl ah kn) :
  Calls Tryz.prog 33 #[.pointer (some ⟨B, 0, none⟩), .int .i64 n] w fun e w' => e = .returned (.tuple #[]) /\ StoreOf w' B F sv lv dv R ls ops (decide (0 <= n)) n kn /\ Turn (fun b => b = B) w w' := by
 have HD : Hid (∀ w', Ext w w' -> _) := fun w' hx => storeFailAt_c n w' (h.ext hx)
 have hB := h.deal.lt
 clear h
 go_enter Tryz.func33, Tryz.ntmps33
 go_wp2_with fail
 refine (HD.out _ (Ext.refl _)).mono ?_
 rintro e w1 ⟨rfl, h1, h2⟩
 have HR : Hid _ := And.intro h1 h2
 clear h1 h2
 go_wp2
 go_end0
 exact ⟨rfl, HR.out.1, HR.out.2⟩
end
end
-- VAy
section
open Go.RowKit Go.Maps
def drawsN (kd m k n : Int) : Nat := (shOf kd.toNat m.toNat k.toNat n.toNat).x + (shOf kd.toNat m.toNat k.toNat n.toNat).y + ((shOf kd.toNat m.toNat k.toNat n.toNat).x + (shOf kd.toNat m.toNat k.toNat n.toNat).y + (shOf kd.toNat m.toNat k.toNat n.toNat).z)
def fillU (kd m k n : Int) (D : List Int) : List (List Int × Bool) := keptU (chunks D (drawsN kd m k n) (D.length / drawsN kd m k n))
def fillRec (kd m k n : Int) (D : List Int) : ByteArray := ⟨(makeB kd.toNat m.toNat k.toNat n.toNat (shOf kd.toNat m.toNat k.toNat n.toNat) (fillU kd m k n D)).toArray⟩
def fillCode (S : List Stk) (kd m k n : Int) (D : List Int) : Int :=
 if isCls kd m k n = true then
  if D.length % drawsN kd m k n ≠ 0 \/ D.length / drawsN kd m k n < 1 \/ 12 < D.length / drawsN kd m k n then 3
  else makeCode S kd m k n (D.length / drawsN kd m k n)
 else 2
def DS.refill (d : DS) (kd m k n : Int) (D : List Int) : Int × DS :=
 if fillCode d.S kd m k n D = 0 then (if d.ok (fillRec kd m k n D) then 0 else 10, d.add (fillRec kd m k n D) (makeS d.S kd.toNat m.toNat k.toNat n.toNat (fillU kd m k n D)) d.ls)
 else (fillCode d.S kd m k n D, d)
def DS.compact (d : DS) : Int × DS :=
 if keptN (compactS d.S d.ls) = keptN d.S then (0, d)
 else (if diskOk d.fl d.ah 4 then 0 else 10, ⟨if diskOk d.fl d.ah 4 then compactS d.S d.ls else d.S, d.ls, d.ops ++ didOps d.fl d.ah (opsNew (flatF (recsP (compactS d.S d.ls) d.ls))), diskFl d.fl d.ah 4, diskAh d.fl d.ah 4, diskOk d.fl d.ah 4⟩)
def DS.failAt (d : DS) (n : Int) : DS := ⟨d.S, d.ls, d.ops, decide (0 <= n), n, d.kn⟩
structure DS.Good (d : DS) : Prop where
 inv : InvQ d.S d.ls
 ah : AhOk d.fl d.ah
structure CallX (d' : DS) (w w' : World) (B : Nat) (F : Nat -> Prop) (F' : Nat -> Prop) : Prop where
 deal : DealX w' B F' d'
 turn : Turn F w w'
 grows : ∀ b, F' b -> F b \/ w.heap.size <= b
section
variable {w : World} {B : Nat} {F : Nat -> Prop} {d : DS}
theorem DealX.ext {w' : World} (h : DealX w B F d) (hx : Ext w w') : DealX w' B F d := by
 obtain ⟨R, h1, h2⟩ := h
 exact ⟨R, h1, h2.ext hx⟩
theorem DealX.lt (h : DealX w B F d) : ∀ b, F b -> b < w.heap.size := by
 obtain ⟨R, _, h2⟩ := h
 exact h2.lt
theorem DealX.turn {X : Nat -> Prop} {w' : World} (h : DealX w B F d) (ht : Turn X w w') (hx : ∀ b, F b -> ¬ X b) : DealX w' B F d := by
 obtain ⟨R, h1, ⟨sv, lv, dv, h2⟩, h3⟩ := h
 exact ⟨R, h1, ⟨sv, lv, dv, h2.turn ht hx⟩, h3⟩
theorem CallX.still {w' : World} (h : DealX w B F d) (hx : Ext w w') : CallX d w w' B F F := ⟨h.ext hx, Turn.of_ext hx, fun _ hb => .inl hb⟩
theorem ahOk_did {fl : Bool} {ah : Int} (h : AhOk fl ah) (n : Nat) : AhOk (diskFl fl ah n) (diskAh fl ah n) := by
 unfold AhOk diskFl diskAh lessAh at *
 intro h1
 simp at h1
 have := h h1.1
 rw [if_neg (by omega), if_pos h1.1]
 omega
theorem DS.Good.add {S' : List Stk} {ls' : List LsV} (h : d.Good) (hI : InvQ S' ls') (rec : ByteArray) : (d.add rec S' ls').Good := by
 refine ⟨?_, ahOk_did h.ah _⟩
 unfold DS.add
 cases d.ok rec
 ·exact h.inv
 ·exact hI
theorem DS.Good.after {A : Ans} {rec : ByteArray} (h : d.Good) (hA : ∀ S' ls', A.next = some (S', ls') -> InvQ S' ls') : (d.after A rec).2.Good := by
 unfold DS.after
 split
 ·exact h
 ·rename_i S' ls' hn
  exact h.add (hA _ _ hn) rec
theorem fill_inv {kd m k n : Int} {D : List Int} (h : d.Good) (hu : inU64 D) (hc : fillCode d.S kd m k n D = 0) : InvQ (makeS d.S kd.toNat m.toNat k.toNat n.toNat (fillU kd m k n D)) d.ls := by
 unfold fillCode at hc
 split at hc
 ·rename_i hcls
  split at hc
  ·simp at hc
  ·rename_i hno
   obtain ⟨p1, p2, p3, p4⟩ := cls_nat hcls
   obtain ⟨kd, rfl⟩ := Int.eq_ofNat_of_zero_le p1
   obtain ⟨m, rfl⟩ := Int.eq_ofNat_of_zero_le p2
   obtain ⟨k, rfl⟩ := Int.eq_ofNat_of_zero_le p3
   obtain ⟨n, rfl⟩ := Int.eq_ofNat_of_zero_le p4
   have hle := Sh.le (shOf_of hcls).2
   have hmod : D.length % drawsN kd m k n = 0 := by omega
   have hcnt : D.length = (D.length / drawsN kd m k n) * drawsN kd m k n := by
    have := Nat.div_add_mod D.length (drawsN kd m k n)
    rw [Nat.mul_comm, hmod] at this
    omega
   have hl : (fillU kd m k n D).length = D.length / drawsN kd m k n := by simp [fillU, keptU, len_chunks]
   refine h.inv.make hcls (by rw [hl]; omega) (fun u hmu => ?_) (fun u hmu => ?_) (by rw [hl]; exact hc)
   ·obtain ⟨v, hv, rfl⟩ := List.mem_map.1 hmu
    obtain ⟨j, hj, rfl⟩ := List.mem_map.1 hv
    exact okT_draws (chunk_len hcnt (List.mem_range.1 hj)) (by show 1 <= (shOf kd m k n).z; omega) (part0_in _ (chunk_in hu _ _)) (part1_in _ _) true
   ·obtain ⟨v, hv, rfl⟩ := List.mem_map.1 hmu
    rfl
 ·simp at hc
theorem refill_good {kd m k n : Int} {D : List Int} (h : d.Good) (hu : inU64 D) : (d.refill kd m k n D).2.Good := by
 unfold DS.refill
 split
 ·rename_i hc
  exact h.add (fill_inv h hu hc) _
 ·exact h
theorem compact_good (h : d.Good) : (d.compact).2.Good := by
 unfold DS.compact
 split
 ·exact h
 ·refine ⟨?_, ahOk_did h.ah 4⟩
  simp only
  cases diskOk d.fl d.ah 4
  ·exact h.inv
  ·exact h.inv.compact
theorem failAt_good (h : d.Good) {n : Int} (hn : n <= 9223372036854775807) : (d.failAt n).Good := by
 refine ⟨h.inv, fun h1 => ?_⟩
 simp [DS.failAt] at h1 ⊢
 omega
theorem failAt_x (n : Int) (h : DealX w B F d) : Calls Tryz.prog 33 #[.pointer (some ⟨B, 0, none⟩), .int .i64 n] w fun e w' => e = .returned (.tuple #[]) /\ CallX (d.failAt n) w w' B F F := by
 obtain ⟨R, h1, ⟨sv, lv, dv, h2⟩, h3⟩ := h
 refine (dealerFailAt_c n w h2).mono ?_
 rintro e w' ⟨rfl, h4, h5⟩
 exact ⟨rfl, ⟨R, h1, ⟨sv, lv, dv, h4⟩, h3⟩, h5.mono (fun b _ hb => hb ▸ h2.fB), fun _ hb => .inl hb⟩
theorem leases_x (hg : d.Good) (h : DealX w B F d) : Calls Tryz.prog 15 #[.pointer (some ⟨B, 0, none⟩)] w fun e w' => ∃ v', e = .returned v' /\ w'.ownsRow w.heap.size 56 9 v' d.ls.length (lsCells d.ls) /\ Ext w w' := by
 obtain ⟨R, h1, ⟨sv, lv, dv, h2⟩, h3⟩ := h
 exact dealerLeases_c (by have := hg.inv.leases; omega) w h2
theorem disk_x (ho : d.ops.length <= 1000000) (h : DealX w B F d) : Calls Tryz.prog 29 #[.pointer (some ⟨B, 0, none⟩)] w fun e w' => ∃ v', e = .returned v' /\ w'.ownsRow w.heap.size 134 4 v' d.ops.length (opCells d.ops) /\ Ext w w' := by
 obtain ⟨R, h1, ⟨sv, lv, dv, h2⟩, h3⟩ := h
 exact dealerDisk_c ho w h2
theorem classes_x (hg : d.Good) (h : DealX w B F d) : Calls Tryz.prog 16 #[.pointer (some ⟨B, 0, none⟩)] w fun e w' => ∃ v', e = .returned v' /\ w'.ownsRow w.heap.size 116 7 v' d.S.length (toldAll d.S) /\ Ext w w' := by
 obtain ⟨R, h1, ⟨sv, lv, dv, h2⟩, h3⟩ := h
 have hl : R.length = d.S.length := by rw [<- h1]; simp
 have := dealerClasses_c (by have := hg.inv.stocks; omega) w h2
 rw [h1, hl] at this
 exact this
theorem compact_x (hg : d.Good) (ho : d.ops.length <= 1000000) (h : DealX w B F d) : Calls Tryz.prog 46 #[.pointer (some ⟨B, 0, none⟩)] w fun e w' => e = .returned (.int .i64 d.compact.1) /\ ∃ F', CallX d.compact.2 w w' B F F' := by
 have h0 := h
 obtain ⟨R, h1, ⟨sv, lv, dv, h2⟩, h3⟩ := h
 have hI := hg.inv
 rw [<- h1] at hI
 have hsm := hI.small
 refine (dealerCompact_c (Q := fun w' c => _) w (storeCompact_c hsm.stocks (fun x hx => (hsm.made x hx).1) hsm.leases ho hg.ah hsm.ok hsm.lok (fun l hl => by
  have h2 := hsm.fc l hl
  obtain ⟨x, h4⟩ := hI.has l hl
  exact ⟨h2.1, h2.2.1, h2.2.2.1, h2.2.2.2, List.any_eq_true.2 ⟨x, List.mem_of_find?_eq_some h4, by simpa using List.find?_some h4⟩⟩) w h2)).mono ?_
 rintro e w' ⟨c, rfl, hc⟩
 rw [h1] at hc
 unfold DS.compact
 rcases hc with ⟨hk, rfl, hx⟩ | ⟨hk, hc, R', hd, hm⟩
 ·rw [if_pos hk]
  exact ⟨rfl, F, CallX.still h0 hx⟩
 ·rw [if_neg hk]
  have hkk : ∀ o ∈ didOps d.fl d.ah (opsNew (flatF (recsP (compactS d.S d.ls) d.ls))), 0 <= o.k /\ o.k <= 5 := fun o ho => by
   have h1 := List.mem_of_mem_take ho
   simp only [opsNew, List.mem_cons, List.not_mem_nil, or_false] at h1
   rcases h1 with rfl | rfl | rfl | rfl <;> simp
  obtain ⟨hs, ht⟩ := hd.x h3 hkk
  exact ⟨by rw [hc], grow F w w', ⟨R', by rw [hm, h1], hs⟩, ht, fun b hb => hb.imp id (fun h => h.1)⟩
theorem refill_x {kd m k n : Int} {gh off len cap : Nat} {D : List Int} (hg : d.Good) (ho : d.ops.length <= 1000000) (hD : D.length = len) (hu : inU64 D) (hlen : len <= 100000000) (hcap : len <= cap) (h : DealX w B F d) (hz : WordsAt w gh off D) :
  Calls Tryz.prog 34 #[.pointer (some ⟨B, 0, none⟩), clsV kd m k n, .slice (some ⟨gh, off, none⟩) len cap] w fun e w' => e = .returned (.int .i64 (d.refill kd m k n D).1) /\ ∃ F', CallX (d.refill kd m k n D).2 w w' B F F' := by
 have hno : ∀ c0 : Int, c0 ≠ 0 -> fillCode d.S kd m k n D = c0 -> (∀ w', Ext w w' -> Calls Tryz.prog 65 #[.pointer (some ⟨B, 0, none⟩), clsV kd m k n, .slice (some ⟨gh, off, none⟩) len cap] w' fun e w'' => e = .returned (.int .i64 c0) /\ Ext w' w'') -> Calls Tryz.prog 34 #[.pointer (some ⟨B, 0, none⟩), clsV kd m k n, .slice (some ⟨gh, off, none⟩) len cap] w fun e w' => e = .returned (.int .i64 (d.refill kd m k n D).1) /\ ∃ F', CallX (d.refill kd m k n D).2 w w' B F F' := fun c0 hc hf h1 => by
  have e1 : d.refill kd m k n D = (c0, d) := by unfold DS.refill; rw [hf, if_neg hc]
  rw [e1]
  refine (dealerRefill_c kd m k n (some ⟨gh, off, none⟩) len cap B F w h.lt (fun w1 w2 c => c = c0 /\ Ext w1 w2) (fun w1 w2 c h => Turn.of_ext h.2) (fun w1 w2 w3 c hx h => ⟨h.1, hx.trans h.2⟩) (fun w' hx => (h1 w' hx).mono (fun e w'' h => ⟨c0, h.1, rfl, h.2⟩))).mono ?_
  rintro e w' ⟨c, rfl, rfl, hx⟩
  exact ⟨rfl, F, CallX.still h hx⟩
 cases hcls : isCls kd m k n with
 | false => exact hno 2 (by decide) (by unfold fillCode; rw [hcls]; rfl) (fun w' _ => refillCls_c kd m k n hcls (some ⟨gh, off, none⟩) len cap B w')
 | true =>
  obtain ⟨p1, p2, p3, p4⟩ := cls_nat hcls
  obtain ⟨kd, rfl⟩ := Int.eq_ofNat_of_zero_le p1
  obtain ⟨m, rfl⟩ := Int.eq_ofNat_of_zero_le p2
  obtain ⟨k, rfl⟩ := Int.eq_ofNat_of_zero_le p3
  obtain ⟨n, rfl⟩ := Int.eq_ofNat_of_zero_le p4
  obtain ⟨E, hE⟩ : ∃ E, E = drawsN kd m k n := ⟨_, rfl⟩
  have hE' : E = (shOf kd m k n).x + (shOf kd m k n).y + ((shOf kd m k n).x + (shOf kd m k n).y + (shOf kd m k n).z) := hE
  have hle := Sh.le (shOf_of hcls).2
  have hE1 : 1 <= E := by omega
  by_cases hq : len % E ≠ 0 \/ len / E < 1 \/ 12 < len / E
  ·exact hno 3 (by decide) (by unfold fillCode; rw [if_pos hcls, hD, <- hE, if_pos hq]) (fun w' _ => refillDraws_c kd m k n hcls (some ⟨gh, off, none⟩) len cap B E hE' (by omega) hq w')
  ·have hmod : len % E = 0 := by omega
   have hcnt : len = (len / E) * E := by
    have := Nat.div_add_mod len E
    rw [Nat.mul_comm, hmod] at this
    omega
   obtain ⟨cnt, hcn⟩ : ∃ cnt, len / E = cnt := ⟨_, rfl⟩
   rw [hcn] at hcnt
   have hu01 : ∀ u, u.length = E -> inU64 u -> inU64 (part0 (shOf kd m k n) u) /\ inU64 (part1 (shOf kd m k n) u) := fun u _ hu => ⟨part0_in _ hu, part1_in _ _⟩
   have hfc : fillCode d.S kd m k n D = makeCode d.S kd m k n cnt := by unfold fillCode; rw [if_pos hcls, hD, <- hE, if_neg hq, hcn]
   have h0 := h
   obtain ⟨R, h1, ⟨sv, lv, dv, h2⟩, h3⟩ := h
   have hI := hg.inv
   rw [<- h1] at hI
   have hsm := hI.small
   have hin : ∀ w', Ext w w' -> _ := fun w' hx => refill_c kd m k n hcls gh off len cap cnt E D hE' hD hcap hcnt (by omega) (by omega) hu hu01 hsm.stocks (fun x hx => (hsm.made x hx).1) hsm.leases ho hg.ah hsm.ok hsm.lok w' (h2.ext hx) (hz.ext hx)
   rw [h1] at hin
   by_cases hcd : makeCode d.S kd m k n cnt = 0
   ·have hus : fillU kd m k n D = keptU (chunks D E cnt) := by unfold fillU; rw [hD, <- hE, hcn]
    have e1 : d.refill kd m k n D = (if d.ok (fillRec kd m k n D) then 0 else 10, d.add (fillRec kd m k n D) (makeS d.S kd m k n (keptU (chunks D E cnt))) d.ls) := by
     unfold DS.refill
     rw [hfc, if_pos hcd, hus]
     rfl
    have hrec : fillRec kd m k n D = ⟨(makeB kd m k n (shOf kd m k n) (keptU (chunks D E cnt))).toArray⟩ := by unfold fillRec; rw [hus]; rfl
    rw [e1]
    refine (dealerRefill_c kd m k n (some ⟨gh, off, none⟩) len cap B F w h0.lt (fun w1 w2 c => (∀ b, F b -> b < w2.heap.size) /\ FillSo d.kn d.fl d.ah R d.ls d.ops kd m k n (keptU (chunks D E cnt)) B F w1 w2 (.returned (.int .i64 c))) (fun w1 w2 c h => by obtain ⟨_, _, _, ⟨_, _, _, _, ht⟩, _⟩ := h; exact ht) (fun w1 w2 w3 c hx h => ?_) (fun w' hx => ?_)).mono ?_
    ·obtain ⟨hF2, hc, R', hd, hm⟩ := h
     exact ⟨hF2, hc, R', hd.back hx hF2, hm⟩
    ·refine (hin w' hx).mono ?_
     rintro e w'' (⟨hq, _⟩ | ⟨_, hc, R', hd, hm⟩)
     ·exact absurd hcd hq
     ·refine ⟨_, hc, fun b hb => ?_, rfl, R', hd, hm⟩
      obtain ⟨_, _, _, hs, ht⟩ := hd
      exact Nat.lt_of_lt_of_le (h0.lt b hb) (Nat.le_trans hx.le ht.size)
    ·rintro e w' ⟨c, rfl, _, hc, R', hd, hm⟩
     rw [h1, <- hrec] at hc hd hm
     injection hc with hc
     injection hc with _ hc
     have hk := did_kinds (kn := d.kn) (fl := d.fl) (ah := d.ah) (S := d.S) (ls := d.ls) (rec := fillRec kd m k n D)
     obtain ⟨hs, ht⟩ := hd.x h3 hk
     refine ⟨by rw [hc]; rfl, grow F w w', ⟨R', ?_, ?_⟩, ht, fun b hb => hb.imp id (fun h => h.1)⟩
     ·rw [hm]; rfl
     ·unfold DS.add
      have e2 : (if d.ok (fillRec kd m k n D) = true then d.ls else d.ls) = d.ls := by split <;> rfl
      simp only [e2]
      exact hs
   ·have h4 : makeCode d.S kd m k n cnt = 4 := by
     unfold makeCode at hcd ⊢
     split
     ·rename_i x hx
      rw [hx] at hcd
      simp only at hcd ⊢
      split
      ·rfl
      ·rename_i hq
       rw [if_neg hq] at hcd
       exact absurd rfl hcd
     ·rename_i hx
      rw [hx] at hcd
      simp only at hcd ⊢
      split
      ·rfl
      ·rename_i hq
       rw [if_neg hq] at hcd
       exact absurd rfl hcd
    refine hno 4 (by decide) (by rw [hfc, h4]) (fun w' hx => (hin w' hx).mono ?_)
    rintro e w'' (⟨_, he, hx⟩ | ⟨hq, _⟩)
    ·rw [h4] at he; exact ⟨he, hx⟩
    ·exact absurd hq hcd
def DS.ask (d : DS) (kk s i kd m k n f c p : Int) : Rep × DS := d.after (ansS d.S d.ls kk s i kd m k n f c p) (recOf kk s i kd m k n c)
theorem ask_xd (hg : d.Good) (ho : d.ops.length <= 1000000) (kk s i kd m k n f c p : Int) (h : DealX w B F d) : AskX (d.ask kk s i kd m k n f c p) B F (ownT kk) (OwnQ kk s i kd m k n f c p) (reqV kk s i kd m k n f c p) w /\ (d.ask kk s i kd m k n f c p).2.Good := by
 obtain ⟨R, h1, h2⟩ := h
 have hI := hg.inv
 have hah := hg.ah
 unfold DS.ask
 obtain ⟨S, ls, ops, fl, ah, kn⟩ := d
 simp only at h1 h2 hI ho hah
 subst h1
 have hx := ask_x hI ho kk s i kd m k n f c p
 exact ⟨hx.2.1 w B F fl ah kn hah h2, hg.after hx.2.2⟩
def DS.opened : DS := ⟨[], [], [], false, 0, false⟩
def DS.restart (fb : ByteArray) : DS := ⟨(restartS fb).1, (restartS fb).2, opsNew (flatF (recsP (restartS fb).1 (restartS fb).2)), false, 0, true⟩
theorem restart_good (fb : ByteArray) : (DS.restart fb).Good := ⟨restartS_inv fb, fun h => by cases h⟩
theorem restart_x (fa : Option Addr) (n cap : Nat) (fs : List (ByteArray × ByteArray)) (hn : fs.length = n) (hnb : n <= 4611686018427387904) (hsz : ∀ f ∈ fs, f.2.size <= 1000000000) (w : World) (h : FilesAt w fa fs) :
  Calls Tryz.prog 27 #[.slice fa n cap] w fun e w' => ∃ B F, e = .returned (.pointer (some ⟨B, 0, none⟩)) /\ DealX w' B F (DS.restart (fileB fs)) /\ (∀ b, F b -> w.heap.size <= b) /\ Ext w w' := by
 refine (dealerRestart_c fa n cap fs hn hnb hsz w h).mono ?_
 rintro e w' ⟨B, R, ls, F, sv, lv, dv, ah, rfl, hd⟩
 refine ⟨B, F, rfl, ⟨R, ?_, ⟨sv, lv, dv, ?_⟩, ?_⟩, hd.far, hd.ext⟩
 ·unfold DS.restart; rw [hd.eq]
 ·have h1 := hd.store
  rw [hd.ah0] at h1
  unfold DS.restart
  rw [hd.eq] at h1 ⊢
  exact h1
 ·intro o ho
  simp only [DS.restart, opsNew, List.mem_cons, List.not_mem_nil, or_false] at ho
  rcases ho with rfl | rfl | rfl | rfl <;> simp
end
end
-- JBg
section
open Go.RowKit Go.Maps
theorem openD_c (w : World) : Calls Tryz.prog 40 #[] w fun e w' => e = .returned (.pointer (some ⟨w.heap.size, 0, none⟩)) /\ w' = w.alloc (.cells #[.slice none 0 0, .slice none 0 0, .slice none 0 0, .bool false, .int .i64 0, .bool false] 114) := by
 go_enter Tryz.func40, Tryz.ntmps40
 go_wp2
 go_ret
 exact ⟨rfl, rfl⟩
end
-- VKp
section
set_option maxRecDepth 100000
set_option maxHeartbeats 1600000
open Go.RowKit Go.Maps
theorem opened_c (w : World) : Calls Tryz.prog 45 #[] w fun e w' => e = .returned (.pointer (some ⟨w.heap.size, 0, none⟩)) /\ w' = w.alloc (.cells #[.slice none 0 0, .slice none 0 0, .slice none 0 0, .bool false, .int .i64 0, .bool false] 114) := by
 go_enter Tryz.func45, Tryz.ntmps45
 go_wp2_with fail
 refine (openD_c w).mono ?_
 rintro e w1 ⟨rfl, rfl⟩
 go_wp2
 go_ret
 exact ⟨rfl, rfl⟩
theorem keepLease_c (s i kd m k n c : Int) (w : World) : Calls Tryz.prog 51 #[.int .i64 s, .int .i64 i, clsV kd m k n, .int .i64 c] w fun e w' => e = .returned (.agg #[.int .i64 1, .int .i64 s, .int .i64 i, .int .i64 kd, .int .i64 m, .int .i64 k, .int .i64 n, .int .i64 0, .int .i64 c, .int .i64 0]) /\ Ext w w' := by
 unfold clsV
 go_enter Tryz.func51, Tryz.ntmps51
 go_wp2
 refine bodyPost_ret (v := .agg #[.int .i64 1, .int .i64 s, .int .i64 i, .int .i64 kd, .int .i64 m, .int .i64 k, .int .i64 n, .int .i64 0, .int .i64 c, .int .i64 0]) (by simp [results, Tryz.results51, go_sem]) rfl ⟨rfl, ?_⟩
 (repeat (first | exact Ext.refl _ | refine Ext.drew ?_ | refine Ext.alloc ?_ _ | refine Ext.setCell ?_ (by simp) _))
theorem keepFetch_c (s kd m k n f c p : Int) (w : World) : Calls Tryz.prog 53 #[.int .i64 s, clsV kd m k n, .int .i64 f, .int .i64 c, .int .i64 p] w fun e w' => e = .returned (.agg #[.int .i64 2, .int .i64 s, .int .i64 0, .int .i64 kd, .int .i64 m, .int .i64 k, .int .i64 n, .int .i64 f, .int .i64 c, .int .i64 p]) /\ Ext w w' := by
 unfold clsV
 go_enter Tryz.func53, Tryz.ntmps53
 go_wp2
 refine bodyPost_ret (v := .agg #[.int .i64 2, .int .i64 s, .int .i64 0, .int .i64 kd, .int .i64 m, .int .i64 k, .int .i64 n, .int .i64 f, .int .i64 c, .int .i64 p]) (by simp [results, Tryz.results53, go_sem]) rfl ⟨rfl, ?_⟩
 (repeat (first | exact Ext.refl _ | refine Ext.drew ?_ | refine Ext.alloc ?_ _ | refine Ext.setCell ?_ (by simp) _))
theorem keepRelease_c (s i : Int) (w : World) : Calls Tryz.prog 52 #[.int .i64 s, .int .i64 i] w fun e w' => e = .returned (reqV 3 s i 0 0 0 0 0 0 0) /\ Ext w w' := by
 unfold reqV
 go_enter Tryz.func52, Tryz.ntmps52
 go_wp2
 refine bodyPost_ret (v := .agg #[.int .i64 3, .int .i64 s, .int .i64 i, .int .i64 0, .int .i64 0, .int .i64 0, .int .i64 0, .int .i64 0, .int .i64 0, .int .i64 0]) (by simp [results, Tryz.results52, go_sem]) rfl ⟨rfl, ?_⟩
 (repeat (first | exact Ext.refl _ | refine Ext.drew ?_ | refine Ext.alloc ?_ _ | refine Ext.setCell ?_ (by simp) _))
def pickN (c : Int) (n : Nat) : Nat := ((if c < 0 then -(c + 1) else c) % n).toNat
theorem pickN_lt (c : Int) {n : Nat} (h : 0 < n) : pickN c n < n := by
 unfold pickN
 have h1 := Int.emod_lt_of_pos (if c < 0 then -(c + 1) else c) (show (0 : Int) < (n : Int) by omega)
 have h2 := Int.emod_nonneg (if c < 0 then -(c + 1) else c) (show (n : Int) ≠ 0 by omega)
 omega
theorem pick_c (c : Int) (n : Nat) (hn : 0 < n) (hn2 : n <= 9223372036854775807) (hc0 : -9223372036854775808 <= c) (hc1 : c <= 9223372036854775807) (w : World) : Calls Tryz.prog 18 #[.int .i64 c, .int .i64 (n : Int)] w fun e w' => e = .returned (.int .i64 (pickN c n)) /\ w = w' := by
 have hnz : ¬ ((n : Int) = 0) := by omega
 have hn0 : ¬ n = 0 := by omega
 have hp := pickN_lt c hn
 by_cases hc : c < 0
 ·have hw : IntKind.i64.wrap (-(c + 1)) = -(c + 1) := by rw [IntKind.wrap_i64]; omega
  have h0 : (0 : Int) <= -(c + 1) := by omega
  have hm : Int.tmod (-(c + 1)) (n : Int) = (pickN c n : Int) := by
   rw [Int.tmod_eq_emod_of_nonneg h0]
   unfold pickN
   rw [if_pos hc]
   have := Int.emod_nonneg (-(c + 1)) (show (n : Int) ≠ 0 by omega)
   omega
  go_enter Tryz.func18, Tryz.ntmps18
  go_wp2
  all_goals first
   | (go_ret; exact ⟨ret_int (by first | exact hm | (rw [<- hm]; rfl) | (rw [Int.neg_tmod] at hm; exact hm) | simp_all), rfl⟩)
 ·have h0 : (0 : Int) <= c := by omega
  have hm : Int.tmod c (n : Int) = (pickN c n : Int) := by
   rw [Int.tmod_eq_emod_of_nonneg h0]
   unfold pickN
   rw [if_neg hc]
   have := Int.emod_nonneg c (show (n : Int) ≠ 0 by omega)
   omega
  go_enter Tryz.func18, Tryz.ntmps18
  go_wp2
  go_ret
  exact ⟨ret_int (by first | exact hm | simp_all), rfl⟩
theorem sizes_c {kd m k n : Nat} {s : Sh} (hc : ofCls kd m k n s) (hs : s.ok) (w : World) : Calls Tryz.prog 61 #[clsV kd m k n] w fun e w' => e = .returned (.tuple #[.int .i64 (s.x : Int), .int .i64 (s.y : Int), .int .i64 (s.z : Int)]) /\ Ext w w' := by
 obtain ⟨h1, h2, h3, h4, h5, h6, h7, h8, h9⟩ := hs
 unfold clsV
 rcases hc with ⟨rfl, rfl, rfl, rfl⟩ | ⟨hk, rfl⟩
 ·simp only [Sh.x, Sh.y, Sh.z, Nat.mul_one]
  clear h1 h2 h3 h4 h5 h6 h7 h8 h9
  go_enter Tryz.func61, Tryz.ntmps61
  go_wp2
  go_quiet (fail)
  go_wp2
  go_ret3
  exact ⟨rfl, Ext.drewN ((Ext.refl w).alloc _) _⟩
 ·simp only [Sh.x, Sh.y, Sh.z, Nat.one_mul]
  simp only at h3 h4 h5 h6 h7 h8
  have e1 : wrap64 ((m : Int) * (k : Int)) = ((m * k : Nat) : Int) := by rw [show ∀ z : Int, wrap64 z = IntKind.i64.wrap z from fun z => by rw [IntKind.wrap_i64, wrap64], <- Int.natCast_mul]; exact wrap_small (by have := mul_le9 h4 h6; omega)
  have e2 : wrap64 ((k : Int) * (n : Int)) = ((k * n : Nat) : Int) := by rw [show ∀ z : Int, wrap64 z = IntKind.i64.wrap z from fun z => by rw [IntKind.wrap_i64, wrap64], <- Int.natCast_mul]; exact wrap_small (by have := mul_le9 h6 h8; omega)
  have e3 : wrap64 ((m : Int) * (n : Int)) = ((m * n : Nat) : Int) := by rw [show ∀ z : Int, wrap64 z = IntKind.i64.wrap z from fun z => by rw [IntKind.wrap_i64, wrap64], <- Int.natCast_mul]; exact wrap_small (by have := mul_le9 h4 h8; omega)
  have hkd : ¬ (kd : Int) = 2 := by omega
  have HE : Hid _ := And.intro e1 (And.intro e2 e3)
  clear e1 e2 e3 h1 h2 h3 h4 h5 h6 h7 h8 h9 hk
  go_enter Tryz.func61, Tryz.ntmps61
  go_wp2
  go_quiet (fail)
  go_wp2
  go_ret3
  obtain ⟨e1, e2, e3⟩ := HE.out
  exact ⟨sizes3 e1 e2 e3, Ext.drewN ((Ext.refl w).alloc _) _⟩
end
end Go.Proofs.YtmnjhhachdlmkaaGreat
