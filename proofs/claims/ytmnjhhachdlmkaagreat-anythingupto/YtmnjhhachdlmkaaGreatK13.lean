import Derived.Shelf.SlMaps.Clone
import Derived.Test.YtmnjhhachdlmkaaGreatK12
import Derived.Test.YtmnjhhachdlmkaaGreatK06
import Derived.Test.YtmnjhhachdlmkaaGreatK01
import Derived.Test.YtmnjhhachdlmkaaGreatK09
namespace Go.Proofs.YtmnjhhachdlmkaaGreat
set_option linter.unusedVariables false
set_option linter.unusedSimpArgs false
open List renaming getElem_cons_zero -> lC, set_cons_zero -> lE, set_cons_succ -> lF
open World renaming block_lt_of_cell? -> lG
-- JAn
section
open Go.RowKit Go.Maps
section
variable {w : World} {P B q c : Nat} {G F : Nat -> Prop} {v : GV} {S : List Stk} {ls : List LsV} {ops0 : List OpV} {fl : Bool} {ah : Int}
theorem GameOf.more {G' : Nat -> Prop} (h : GameOf w P B G v q S ls ops0 c) (hsub : ∀ b, G b -> G' b) (hlt : ∀ b, G' b -> b < w.heap.size) (ha : ∀ b, GOwn P v b -> ¬ G' b) : GameOf w P B G' v q S ls ops0 c where
 blk := h.blk
 wrow := h.wrow.mono hsub
 ref := h.ref.mono hsub
 orow := h.orow.mono hsub
 prow := let ⟨np, h1, h2⟩ := h.prow; ⟨np, h1, h2.mono hsub⟩
 bW := let ⟨m, h1, h2⟩ := h.bW; ⟨m, h1, h2.mono hsub⟩
 bS := let ⟨m, h1, h2⟩ := h.bS; ⟨m, h1, h2.mono hsub⟩
 bL := let ⟨m, h1, h2⟩ := h.bL; ⟨m, h1, h2.mono hsub⟩
 bO := let ⟨m, h1, h2⟩ := h.bO; ⟨m, h1, h2.mono hsub⟩
 ltG := hlt
 apart := ha
theorem GameOf.count {c' : Nat} (h : GameOf w P B G v q S ls ops0 c) (hc : c <= c') : GameOf w P B G v q S ls ops0 c' where
 blk := h.blk
 wrow := h.wrow
 ref := h.ref
 orow := h.orow
 prow := let ⟨np, h1, h2⟩ := h.prow; ⟨np, by omega, h2⟩
 bW := let ⟨m, h1, h2⟩ := h.bW; ⟨m, by omega, h2⟩
 bS := let ⟨m, h1, h2⟩ := h.bS; ⟨m, by omega, h2⟩
 bL := let ⟨m, h1, h2⟩ := h.bL; ⟨m, by omega, h2⟩
 bO := let ⟨m, h1, h2⟩ := h.bO; ⟨m, by omega, h2⟩
 ltG := h.ltG
 apart := h.apart
end
end
-- JAo
section
open Go.RowKit Go.Maps
section
variable {w : World} {P B q c : Nat} {G F : Nat -> Prop} {v : GV} {S : List Stk} {ls : List LsV} {ops0 : List OpV} {fl : Bool} {ah : Int}
structure AnsIn (A : Ans) (new : List OpV) (v : GV) (c0 f0 n0 : Int) (zs : List Int) : Prop where
 ex : (A.c ≠ 10 /\ (A.next = none -> new = []) /\ (∀ S' ls'', A.next = some (S', ls'') -> new ≠ [] /\ A.c = 0) /\ (v.ar = true -> (new.length : Int) <= v.fi /\ v.fi <= 9223372036854775807) /\ c0 = A.c /\ f0 = A.f /\ n0 = A.n /\ zs = A.zs) \/ (A.c ≠ 10 /\ A.next ≠ none /\ A.zs = [] /\ v.ar = true /\ v.fi = (new.length : Int) /\ c0 = 10 /\ f0 = 0 /\ n0 = 0 /\ zs = [])
theorem AnsIn.yes {A : Ans} {new : List OpV} {v : GV} (h1 : A.c ≠ 10) (h2 : A.next = none -> new = []) (h3 : ∀ S' ls'', A.next = some (S', ls'') -> new ≠ [] /\ A.c = 0) (h4 : v.ar = true -> (new.length : Int) <= v.fi /\ v.fi <= 9223372036854775807) : AnsIn A new v A.c A.f A.n A.zs := ⟨.inl ⟨h1, h2, h3, h4, rfl, rfl, rfl, rfl⟩⟩
theorem AnsIn.no {A : Ans} {new : List OpV} {v : GV} (h1 : A.c ≠ 10) (h2 : A.next ≠ none) (h3 : A.zs = []) (h4 : v.ar = true) (h5 : v.fi = (new.length : Int)) : AnsIn A new v 10 0 0 [] := ⟨.inr ⟨h1, h2, h3, h4, h5, rfl, rfl, rfl, rfl⟩⟩
structure AnsOut (A : Ans) (new : List OpV) (v v' : GV) (S : List Stk) (ls : List LsV) (c0 : Int) (S' : List Stk) (ls' : List LsV) : Prop where
 yes : c0 ≠ 10 -> S' = (A.next.getD (S, ls)).1 /\ ls' = (A.next.getD (S, ls)).2 /\ v'.ar = v.ar /\ v'.fi = lessAh v.ar v.fi new.length
 no : c0 = 10 -> S' = S /\ ls' = ls /\ v'.ar = false
end
end
-- JAs
section
open Go.RowKit Go.Maps
structure AskNext (A : Ans) (R : List StkR) (ls : List LsV) (fl : Bool) (ah : Int) (c0 f0 n0 : Int) (zs : List Int) (R' : List StkR) (ls' : List LsV) (new : List OpV) (fl' : Bool) (ah' : Int) : Prop where
 ex : (A.next = none /\ c0 = A.c /\ f0 = A.f /\ n0 = A.n /\ zs = A.zs /\ R' = R /\ ls' = ls /\ new = [] /\ fl' = fl /\ ah' = ah) \/ (A.next = some (R'.map StkR.abs, ls') /\ new ≠ [] /\ new.length <= 4 /\ A.c = 0 /\ (fl = true -> (new.length : Int) <= ah) /\ c0 = A.c /\ f0 = A.f /\ n0 = A.n /\ zs = A.zs /\ fl' = fl /\ ah' = lessAh fl ah new.length) \/ (R'.map StkR.abs = R.map StkR.abs /\ A.next ≠ none /\ A.zs = [] /\ fl = true /\ ah = (new.length : Int) /\ new.length <= 4 /\ c0 = 10 /\ f0 = 0 /\ n0 = 0 /\ zs = [] /\ ls' = ls /\ fl' = false)
theorem AskNext.still {A : Ans} {R : List StkR} {ls : List LsV} {fl : Bool} {ah : Int} (h : A.next = none) : AskNext A R ls fl ah A.c A.f A.n A.zs R ls [] fl ah := ⟨.inl ⟨h, rfl, rfl, rfl, rfl, rfl, rfl, rfl, rfl, rfl⟩⟩
theorem AskNext.done {A : Ans} {R : List StkR} {ls : List LsV} {fl : Bool} {ah : Int} {R' : List StkR} {ls' : List LsV} {new : List OpV} (h1 : A.next = some (R'.map StkR.abs, ls')) (h2 : new ≠ []) (h3 : new.length <= 4) (h4 : A.c = 0) (h5 : fl = true -> (new.length : Int) <= ah) : AskNext A R ls fl ah A.c A.f A.n A.zs R' ls' new fl (lessAh fl ah new.length) := ⟨.inr (.inl ⟨h1, h2, h3, h4, h5, rfl, rfl, rfl, rfl, rfl, rfl⟩)⟩
theorem AskNext.broken {A : Ans} {R : List StkR} {ls : List LsV} {fl : Bool} {ah : Int} {R' : List StkR} {new : List OpV} {ah' : Int} (h1 : R'.map StkR.abs = R.map StkR.abs) (h2 : A.next ≠ none) (h3 : A.zs = []) (h4 : fl = true) (h5 : ah = (new.length : Int)) (h6 : new.length <= 4) : AskNext A R ls fl ah 10 0 0 [] R' ls new false ah' := ⟨.inr (.inr ⟨h1, h2, h3, h4, h5, h6, rfl, rfl, rfl, rfl, rfl, rfl⟩)⟩
theorem AskNext.ans {A : Ans} {R : List StkR} {ls : List LsV} {fl : Bool} {ah : Int} {c0 f0 n0 : Int} {zs : List Int} {R' : List StkR} {ls' : List LsV} {new : List OpV} {fl' : Bool} {ah' : Int} (h : AskNext A R ls fl ah c0 f0 n0 zs R' ls' new fl' ah') {v : GV} (hv : ArIs v fl ah) (ha : AhOk fl ah) (h10 : A.c ≠ 10) : AnsIn A new v c0 f0 n0 zs := by
 rcases h.ex with ⟨h1, rfl, rfl, rfl, rfl, rfl, rfl, rfl, rfl, rfl⟩ | ⟨h1, h2, h3, h4, h5, rfl, rfl, rfl, rfl, rfl, rfl⟩ | ⟨h0, h1, h2, h3, h4, h5, rfl, rfl, rfl, rfl, rfl, rfl⟩
 ·skip
  refine .yes h10 (fun _ => rfl) (fun _ _ h => by rw [h1] at h; cases h) (fun hf => ?_)
  have hf' := hv.1 ▸ hf
  rw [hv.2 hf']
  exact ha hf'
 ·skip
  refine .yes h10 (fun h => by rw [h1] at h; cases h) (fun _ _ _ => ⟨h2, h4⟩) (fun hf => ?_)
  have hf' := hv.1 ▸ hf
  rw [hv.2 hf']
  exact ⟨h5 hf', (ha hf').2⟩
 ·exact .no h10 h1 h2 (hv.1.trans h3) ((hv.2 h3).trans h4)
theorem AskNext.out {A : Ans} {R : List StkR} {ls : List LsV} {fl : Bool} {ah : Int} {c0 f0 n0 : Int} {zs : List Int} {R' : List StkR} {ls' : List LsV} {new : List OpV} {fl' : Bool} {ah' : Int} (h : AskNext A R ls fl ah c0 f0 n0 zs R' ls' new fl' ah') {v v' : GV} {S' : List Stk} {ls'' : List LsV} (hv : ArIs v fl ah) (ha : AhOk fl ah) (h10 : A.c ≠ 10) (ho : AnsOut A new v v' (R.map StkR.abs) ls c0 S' ls'') :
  S' = R'.map StkR.abs /\ ls'' = ls' /\ ArIs v' fl' ah' /\ AhOk fl' ah' /\ ((R'.map StkR.abs = R.map StkR.abs /\ ls' = ls) \/ A.next = some (R'.map StkR.abs, ls')) := by
 rcases h.ex with ⟨h1, rfl, rfl, rfl, rfl, rfl, rfl, rfl, rfl, rfl⟩ | ⟨h1, h2, h3, h4, h5, rfl, rfl, rfl, rfl, rfl, rfl⟩ | ⟨h0, h1, h2, h3, h4, h5, rfl, rfl, rfl, rfl, rfl, rfl⟩
 ·skip
  obtain ⟨e1, e2, e3, e4⟩ := ho.yes h10
  rw [h1] at e1 e2
  rw [List.length_nil, less_zero] at e4
  exact ⟨e1, e2, hv.same e3 e4, ha, .inl ⟨rfl, rfl⟩⟩
 ·skip
  obtain ⟨e1, e2, e3, e4⟩ := ho.yes h10
  rw [h1] at e1 e2
  refine ⟨e1, e2, ⟨e3.trans hv.1, fun hf => ?_⟩, fun hf => ?_, .inr h1⟩
  ·rw [e4, hv.1, hv.2 hf]
  ·have := ha hf
   have := h5 hf
   unfold lessAh
   rw [if_pos hf]
   omega
 ·skip
  obtain ⟨e1, e2, e3⟩ := ho.no rfl
  exact ⟨e1.trans h0.symm, e2, ⟨e3, fun h => (by cases h)⟩, fun h => (by cases h), .inl ⟨h0, rfl⟩⟩
structure AskSo (A : Ans) (w w' : World) (B : Nat) (F : Nat -> Prop) (R : List StkR) (ls : List LsV) (ops : List OpV) (fl : Bool) (ah : Int) (c0 f0 n0 : Int) (zs : List Int) (rv : Value) (R' : List StkR) (ls' : List LsV) (F' : Nat -> Prop) (new : List OpV) (fl' : Bool) (ah' : Int) : Prop where
 row : w'.ownsRow w.heap.size 146 1 rv zs.length (zs.map (Value.int .u64))
 store : StoreOk w' B F' R' ls' (ops ++ new) fl' ah'
 turn : Turn F w w'
 grows : ∀ b, F' b -> F b \/ w.heap.size <= b
 free : ∀ b, rv.ownBlock = some b -> ¬ F' b
 next : AskNext A R ls fl ah c0 f0 n0 zs R' ls' new fl' ah'
section
variable {w : World} {P B q c : Nat} {G F : Nat -> Prop} {v : GV} {S : List Stk} {ls : List LsV} {ops0 : List OpV} {fl : Bool} {ah : Int}
end
end
-- JRf
section
open Go.RowKit Go.Maps
theorem DrawsAt.turn {X : Nat -> Prop} {w w' : World} {a : Option Addr} {n : Nat} {D : List Int} (h : DrawsAt w a n D) (ht : Turn X w w') (hx : ∀ b off, n ≠ 0 /\ a = some ⟨b, off, none⟩ -> ¬ X b) : DrawsAt w' a n D := by
 by_cases hn : n = 0
 ·exact .inl hn
 ·exact h.imp id (fun ⟨b, off, e, k⟩ => ⟨b, off, e, k.turn ht (hx b off ⟨hn, e⟩)⟩)
theorem AskNext.nil {A : Ans} {R : List StkR} {ls : List LsV} {fl : Bool} {ah : Int} {c0 f0 n0 : Int} {zs : List Int} {R' : List StkR} {ls' : List LsV} {new : List OpV} {fl' : Bool} {ah' : Int} (h : AskNext A R ls fl ah c0 f0 n0 zs R' ls' new fl' ah') (hn : A.next = none) : c0 = A.c /\ new = [] /\ R' = R /\ ls' = ls /\ fl' = fl /\ ah' = ah := by
 rcases h.ex with ⟨h1, rfl, rfl, rfl, rfl, rfl, rfl, rfl, rfl, rfl⟩ | ⟨h1, h2, h3, h4, h5, rfl, rfl, rfl, rfl, rfl, rfl⟩ | ⟨h0, h1, h2, h3, h4, h5, rfl, rfl, rfl, rfl, rfl, rfl⟩
 ·exact ⟨rfl, rfl, rfl, rfl, rfl, rfl⟩
 ·rw [hn] at h1; cases h1
 ·exact absurd hn h1
section
variable {w : World} {P B q c : Nat} {G F : Nat -> Prop} {v : GV} {S : List Stk} {ls : List LsV} {ops0 : List OpV} {fl : Bool} {ah : Int}
end
end
-- JLk
section
open Go.RowKit Go.Maps
section
variable {w : World} {P B q c : Nat} {G F : Nat -> Prop} {v : GV} {ls : List LsV} {ops0 : List OpV} {fl : Bool} {ah : Int}
end
end
-- JPu
section
open Go.RowKit Go.Maps
structure InvS (S : List Stk) (ls : List LsV) : Prop where
 stocks : S.length <= 6
 cls : ∀ x ∈ S, isCls x.kd x.m x.k x.n = true
 made : ∀ x ∈ S, 1 <= x.ts.length /\ x.ts.length <= 200 /\ x.leased <= x.ts.length
 ts : ∀ x ∈ S, ∀ t ∈ x.ts, t.1.length = x.each /\ inU64 t.1
 kept : ∀ x ∈ S, ∀ j (hj : j < x.ts.length), x.ts[j].2 = false -> ∃ l ∈ ls, l.r = true /\ x.is l.kd l.m l.k l.n = true /\ l.f <= (j : Int) /\ (j : Int) < l.f + l.c
 uniq : ∀ i j (hi : i < S.length) (hj : j < S.length), S[i].is S[j].kd S[j].m S[j].k S[j].n = true -> i = j
 lok : ∀ l ∈ ls, LsOk l
 leases : ls.length <= 30
 of : ∀ l ∈ ls, 0 <= l.f /\ 1 <= l.c /\ l.c <= 40 /\ ∃ x, S.find? (fun x => x.is l.kd l.m l.k l.n) = some x /\ l.f + l.c <= x.leased
 apart : ∀ i j (hi : i < ls.length) (hj : j < ls.length), i < j -> ls[i].kd = ls[j].kd /\ ls[i].m = ls[j].m /\ ls[i].k = ls[j].k /\ ls[i].n = ls[j].n -> ls[i].f + ls[i].c <= ls[j].f \/ ls[j].f + ls[j].c <= ls[i].f
theorem idx_map {α : Type} (p : α -> Bool) (l : List α) : l.findIdx? p = (l.map p).findIdx? id := by rw [List.findIdx?_map]; rfl
theorem idx_set {α : Type} {p : α -> Bool} {l : List α} {i : Nat} (hi : i < l.length) {y : α} (h : p y = p l[i]) : (l.set i y).findIdx? p = l.findIdx? p := by
 rw [idx_map, idx_map p l, List.map_set, h]
 congr 1
 apply List.ext_getElem (by simp)
 intro j h1 h2
 by_cases e : i = j
 ·subst e; simp
 ·rw [List.getElem_set_ne e]
theorem find_set {α : Type} {p : α -> Bool} {l : List α} {i : Nat} (hi : i < l.length) {y : α} (h : p y = p l[i]) {x : α} (hf : l.find? p = some x) : (l.set i y).find? p = some x \/ (l[i] = x /\ (l.set i y).find? p = some y) := by
 cases hx : l.findIdx? p with
 | none => rw [find_none_idx hx] at hf; cases hf
 | some j =>
  obtain ⟨hj, hfj⟩ := find_idx hx
  rw [hf] at hfj
  injection hfj with hfj
  have hs : (l.set i y).findIdx? p = some j := by rw [idx_set hi h]; exact hx
  obtain ⟨hj', hfs⟩ := find_idx hs
  by_cases e : i = j
  ·subst e
   right
   refine ⟨hfj.symm, ?_⟩
   rw [hfs, List.getElem_set_self]
  ·left
   rw [hfs, List.getElem_set_ne e, hfj]
theorem uniq_set {S : List Stk} (h : ∀ i j (hi : i < S.length) (hj : j < S.length), S[i].is S[j].kd S[j].m S[j].k S[j].n = true -> i = j) {ix : Nat} (hix : ix < S.length) {y : Stk} (hy : ∀ kd m k n, y.is kd m k n = S[ix].is kd m k n) (hc : y.kd = S[ix].kd /\ y.m = S[ix].m /\ y.k = S[ix].k /\ y.n = S[ix].n) : ∀ i j (hi : i < (S.set ix y).length) (hj : j < (S.set ix y).length), (S.set ix y)[i].is (S.set ix y)[j].kd (S.set ix y)[j].m (S.set ix y)[j].k (S.set ix y)[j].n = true -> i = j := by
 intro i j hi hj hh
 have hi' : i < S.length := by simpa using hi
 have hj' : j < S.length := by simpa using hj
 refine h i j hi' hj' ?_
 by_cases e1 : ix = i
 ·subst e1
  rw [List.getElem_set_self, hy] at hh
  by_cases e2 : ix = j
  ·subst e2
   rw [List.getElem_set_self, hc.1, hc.2.1, hc.2.2.1, hc.2.2.2] at hh
   exact hh
  ·rw [List.getElem_set_ne e2] at hh
   exact hh
 ·rw [List.getElem_set_ne e1] at hh
  by_cases e2 : ix = j
  ·subst e2
   rw [List.getElem_set_self, hc.1, hc.2.1, hc.2.2.1, hc.2.2.2] at hh
   exact hh
  ·rw [List.getElem_set_ne e2] at hh
   exact hh
theorem mem_set_of {α : Type} {l : List α} {i : Nat} {y x : α} (h : x ∈ l.set i y) : x ∈ l \/ x = y := List.mem_or_eq_of_mem_set h
theorem InvS.lease {S : List Stk} {ls : List LsV} (h : InvS S ls) {ix c : Nat} {s i kd m k n : Int} (hix : ix < S.length) (hfx : S.findIdx? (fun x => x.is kd m k n) = some ix) (hcd : leaseCodeS S ls kd m k n c = 0) (hlk : LsOk ⟨s, i, kd, m, k, n, S[ix].leased, c, false⟩) : InvS (S.set ix (S[ix].lend c)) (ls ++ [⟨s, i, kd, m, k, n, S[ix].leased, c, false⟩]) := by
 obtain ⟨_, hfi⟩ := find_idx hfx
 obtain ⟨hcc, hfew, hfull⟩ : ¬ ((c : Int) < 1 \/ 40 < (c : Int)) /\ ¬ ((S[ix].ts.length : Int) - S[ix].leased < c) /\ ¬ 30 <= ls.length := by
  unfold leaseCodeS at hcd
  rw [hfi] at hcd
  simp only at hcd
  split at hcd
  ·simp at hcd
  ·rename_i h1
   split at hcd
   ·simp at hcd
   ·rename_i h2
    split at hcd
    ·simp at hcd
    ·rename_i h3
     exact ⟨h1, h2, h3⟩
 have hmem : S[ix] ∈ S := List.getElem_mem hix
 refine ⟨by simpa using h.stocks, fun x hx => ?_, fun x hx => ?_, fun x hx => ?_, fun x hx j hj hk => ?_, uniq_set h.uniq hix (fun _ _ _ _ => rfl) ⟨rfl, rfl, rfl, rfl⟩, fun l hl => ?_, by simp; omega, fun l hl => ?_, fun a b ha hb hab hcl => ?_⟩
 ·rcases mem_set_of hx with hx | rfl
  ·exact h.cls x hx
  ·exact h.cls S[ix] hmem
 ·rcases mem_set_of hx with hx | rfl
  ·exact h.made x hx
  ·have := h.made _ hmem
   exact ⟨this.1, this.2.1, by show S[ix].leased + c <= S[ix].ts.length; omega⟩
 ·rcases mem_set_of hx with hx | rfl
  ·exact h.ts x hx
  ·exact h.ts S[ix] hmem
 ·rcases mem_set_of hx with hx | rfl
  ·obtain ⟨l, hl, h1⟩ := h.kept x hx j hj hk
   exact ⟨l, List.mem_append.2 (.inl hl), h1⟩
  ·obtain ⟨l, hl, h1⟩ := h.kept S[ix] hmem j hj hk
   exact ⟨l, List.mem_append.2 (.inl hl), h1⟩
 ·rcases List.mem_append.1 hl with hl | hl
  ·exact h.lok l hl
  ·rw [List.mem_singleton.1 hl]
   exact hlk
 ·rcases List.mem_append.1 hl with hl | hl
  ·obtain ⟨h1, h2, h3, x, h4, h5⟩ := h.of l hl
   refine ⟨h1, h2, h3, ?_⟩
   rcases find_set hix (y := S[ix].lend c) (show Stk.is _ _ _ _ _ = Stk.is _ _ _ _ _ from rfl) h4 with h6 | ⟨h6, h7⟩
   ·exact ⟨x, h6, h5⟩
   ·refine ⟨_, h7, ?_⟩
    rw [<- h6] at h5
    show l.f + l.c <= ((S[ix].leased + c : Nat) : Int)
    omega
  ·rw [List.mem_singleton.1 hl]
   refine ⟨by simp, by simp only; omega, by simp only; omega, ?_⟩
   rcases find_set hix (y := S[ix].lend c) (show Stk.is _ kd m k n = Stk.is _ kd m k n from rfl) hfi with h6 | ⟨_, h7⟩
   ·obtain ⟨hj', hfs⟩ := find_idx (show (S.set ix (S[ix].lend c)).findIdx? (fun x => x.is kd m k n) = some ix by rw [idx_set hix (y := S[ix].lend c) (show Stk.is _ kd m k n = Stk.is _ kd m k n from rfl)]; exact hfx)
    refine ⟨_, hfs, ?_⟩
    rw [List.getElem_set_self]
    show ((S[ix].leased : Nat) : Int) + c <= ((S[ix].leased + c : Nat) : Int)
    omega
   ·refine ⟨_, h7, ?_⟩
    show ((S[ix].leased : Nat) : Int) + c <= ((S[ix].leased + c : Nat) : Int)
    omega
 ·by_cases hbl : b < ls.length
  ·rw [List.getElem_append_left (show a < ls.length by omega), List.getElem_append_left hbl] at hcl ⊢
   exact h.apart a b (by omega) hbl hab hcl
  ·have hb' : b = ls.length := by simp at hb; omega
   have ha' : a < ls.length := by omega
   subst hb'
   rw [List.getElem_append_left ha'] at hcl ⊢
   rw [List.getElem_concat_length rfl] at hcl ⊢
   left
   obtain ⟨h1, h2, h3, x, h4, h5⟩ := h.of ls[a] (List.getElem_mem ha')
   rw [hcl.1, hcl.2.1, hcl.2.2.1, hcl.2.2.2] at h4
   simp only at h4
   rw [hfi] at h4
   injection h4 with h4
   rw [<- h4] at h5
   exact h5
theorem InvS.free {S : List Stk} {ls : List LsV} (h : InvS S ls) {ix : Nat} (hix : ix < ls.length) : InvS S (ls.set ix ls[ix].free) := by
 have key : ∀ j (hj : j < (ls.set ix ls[ix].free).length), ∃ hj' : j < ls.length, (ls.set ix ls[ix].free)[j].kd = ls[j].kd /\ (ls.set ix ls[ix].free)[j].m = ls[j].m /\ (ls.set ix ls[ix].free)[j].k = ls[j].k /\ (ls.set ix ls[ix].free)[j].n = ls[j].n /\ (ls.set ix ls[ix].free)[j].f = ls[j].f /\ (ls.set ix ls[ix].free)[j].c = ls[j].c := fun j hj => by
  have hj' : j < ls.length := by simpa using hj
  refine ⟨hj', ?_⟩
  by_cases e : ix = j
  ·subst e
   rw [List.getElem_set_self]
   exact ⟨rfl, rfl, rfl, rfl, rfl, rfl⟩
  ·rw [List.getElem_set_ne e]
   exact ⟨rfl, rfl, rfl, rfl, rfl, rfl⟩
 refine ⟨h.stocks, h.cls, h.made, h.ts, fun x hx j hj hk => ?_, h.uniq, fun l hl => ?_, by simpa using h.leases, fun l hl => ?_, fun a b ha hb hab hcl => ?_⟩
 ·obtain ⟨l, hl, h1, h2⟩ := h.kept x hx j hj hk
  obtain ⟨a, ha, rfl⟩ := List.getElem_of_mem hl
  by_cases e : ix = a
  ·subst e
   exact ⟨ls[ix].free, List.mem_of_getElem (i := ix) (h := by simpa using ha) (by rw [List.getElem_set_self]), rfl, h2⟩
  ·exact ⟨ls[a], List.mem_of_getElem (i := a) (h := by simpa using ha) (by rw [List.getElem_set_ne e]), h1, h2⟩
 ·rcases mem_set_of hl with hl | rfl
  ·exact h.lok l hl
  ·exact h.lok ls[ix] (List.getElem_mem hix)
 ·rcases mem_set_of hl with hl | rfl
  ·exact h.of l hl
  ·exact h.of ls[ix] (List.getElem_mem hix)
 ·obtain ⟨ha', a1, a2, a3, a4, a5, a6⟩ := key a ha
  obtain ⟨hb', b1, b2, b3, b4, b5, b6⟩ := key b hb
  rw [a5, a6, b5, b6]
  exact h.apart a b ha' hb' hab ⟨by rw [<- a1, <- b1]; exact hcl.1, by rw [<- a2, <- b2]; exact hcl.2.1, by rw [<- a3, <- b3]; exact hcl.2.2.1, by rw [<- a4, <- b4]; exact hcl.2.2.2⟩
theorem InvS.make {S : List Stk} {ls : List LsV} (h : InvS S ls) {kd m k n cnt : Nat} {us : List (List Int)} (hcls : isCls kd m k n = true) (hus : us.length = cnt) (h1 : 1 <= cnt) (hul : ∀ u ∈ us, u.length = (shOf kd m k n).x + (shOf kd m k n).y + ((shOf kd m k n).x + (shOf kd m k n).y + (shOf kd m k n).z) /\ inU64 u) (hcd : makeCode S kd m k n cnt = 0) : InvS (makeS S kd m k n (keptU us)) ls := by
 unfold makeS
 unfold makeCode at hcd
 cases hfx : S.findIdx? (fun x => x.is kd m k n) with
 | none =>
  rw [find_none_idx hfx] at hcd
  simp only at hcd ⊢
  split at hcd
  ·simp at hcd
  ·rename_i hno
   refine ⟨by simp; omega, fun x hx => ?_, fun x hx => ?_, fun x hx => ?_, fun x hx j hj hk => ?_, fun i j hi hj hh => ?_, h.lok, h.leases, fun l hl => ?_, h.apart⟩
   ·rcases List.mem_append.1 hx with hx | hx
    ·exact h.cls x hx
    ·rw [List.mem_singleton.1 hx]; exact hcls
   ·rcases List.mem_append.1 hx with hx | hx
    ·exact h.made x hx
    ·rw [List.mem_singleton.1 hx]
     simp only [keptU, List.length_map, hus]
     omega
   ·rcases List.mem_append.1 hx with hx | hx
    ·exact h.ts x hx
    ·rw [List.mem_singleton.1 hx]
     intro t ht
     obtain ⟨u, hu, rfl⟩ := List.mem_map.1 ht
     exact hul u hu
   ·rcases List.mem_append.1 hx with hx | hx
    ·exact h.kept x hx j hj hk
    ·have e := List.mem_singleton.1 hx
     subst e
     simp [keptU] at hk
   ·have hno2 : ∀ y ∈ S, y.is kd m k n = false := fun y hy => by
     have := List.findIdx?_eq_none_iff.1 hfx y hy
     simpa using this
    by_cases hi' : i < S.length
    ·by_cases hj' : j < S.length
     ·rw [List.getElem_append_left hi', List.getElem_append_left hj'] at hh
      exact h.uniq i j hi' hj' hh
     ·have ej : j = S.length := by simp at hj; omega
      subst ej
      rw [List.getElem_append_left hi', List.getElem_concat_length rfl] at hh
      rw [hno2 _ (List.getElem_mem hi')] at hh
      cases hh
    ·have ei : i = S.length := by simp at hi; omega
     subst ei
     by_cases hj' : j < S.length
     ·rw [List.getElem_append_left hj', List.getElem_concat_length rfl] at hh
      have h3 : S[j].is kd m k n = true := by
       simp [Stk.is] at hh ⊢
       omega
      rw [hno2 _ (List.getElem_mem hj')] at h3
      cases h3
     ·simp at hj; omega
   ·obtain ⟨k1, k2, k3, x, k4, k5⟩ := h.of l hl
    exact ⟨k1, k2, k3, x, by rw [List.find?_append, k4]; rfl, k5⟩
 | some ix =>
  obtain ⟨hix, hfi⟩ := find_idx hfx
  rw [hfi] at hcd
  simp only at hcd ⊢
  have hno : ¬ 200 < S[ix].ts.length + cnt := by
   intro hb
   rw [if_pos hb] at hcd
   simp at hcd
  have hmem : S[ix] ∈ S := List.getElem_mem hix
  have hisx : S[ix].is kd m k n = true := (List.findIdx?_eq_some_iff_getElem.1 hfx).2.1
  have e4 : S[ix].kd = kd /\ S[ix].m = m /\ S[ix].k = k /\ S[ix].n = n := by
   simp [Stk.is] at hisx
   omega
  have hmod : S.modify ix (fun x => x.more (keptU us)) = S.set ix (S[ix].more (keptU us)) := by
   apply List.ext_getElem (by simp)
   intro j a b
   rw [List.getElem_modify, List.getElem_set]
   split
   ·rename_i e; subst e; rfl
   ·rfl
  rw [hmod]
  refine ⟨by simpa using h.stocks, fun x hx => ?_, fun x hx => ?_, fun x hx => ?_, fun x hx j hj hk => ?_, uniq_set h.uniq hix (fun _ _ _ _ => rfl) ⟨rfl, rfl, rfl, rfl⟩, h.lok, h.leases, fun l hl => ?_, h.apart⟩
  ·rcases mem_set_of hx with hx | rfl
   ·exact h.cls x hx
   ·exact h.cls S[ix] hmem
  ·rcases mem_set_of hx with hx | rfl
   ·exact h.made x hx
   ·have := h.made _ hmem
    show 1 <= (S[ix].ts ++ keptU us).length /\ (S[ix].ts ++ keptU us).length <= 200 /\ S[ix].leased <= (S[ix].ts ++ keptU us).length
    simp only [keptU, List.length_append, List.length_map, hus]
    omega
  ·rcases mem_set_of hx with hx | rfl
   ·exact h.ts x hx
   ·intro t ht
    rcases List.mem_append.1 (show t ∈ S[ix].ts ++ keptU us from ht) with ht | ht
    ·exact h.ts _ hmem t ht
    ·obtain ⟨u, hu, rfl⟩ := List.mem_map.1 ht
     refine ⟨?_, (hul u hu).2⟩
     have := (hul u hu).1
     show u.length = (shOf S[ix].kd S[ix].m S[ix].k S[ix].n).x + (shOf S[ix].kd S[ix].m S[ix].k S[ix].n).y + ((shOf S[ix].kd S[ix].m S[ix].k S[ix].n).x + (shOf S[ix].kd S[ix].m S[ix].k S[ix].n).y + (shOf S[ix].kd S[ix].m S[ix].k S[ix].n).z)
     rw [e4.1, e4.2.1, e4.2.2.1, e4.2.2.2]; exact this
  ·rcases mem_set_of hx with hx | rfl
   ·exact h.kept x hx j hj hk
   ·have hj2 : j < (S[ix].ts ++ keptU us).length := hj
    have hk2 : (S[ix].ts ++ keptU us)[j].2 = false := hk
    by_cases hj' : j < S[ix].ts.length
    ·rw [List.getElem_append_left hj'] at hk2
     exact h.kept S[ix] hmem j hj' hk2
    ·rw [List.getElem_append_right (by omega)] at hk2
     simp [keptU] at hk2
  ·obtain ⟨k1, k2, k3, x, k4, k5⟩ := h.of l hl
   refine ⟨k1, k2, k3, ?_⟩
   rcases find_set hix (y := S[ix].more (keptU us)) (show Stk.is _ _ _ _ _ = Stk.is _ _ _ _ _ from rfl) k4 with k6 | ⟨k6, k7⟩
   ·exact ⟨x, k6, k5⟩
   ·refine ⟨_, k7, ?_⟩
    rw [<- k6] at k5
    exact k5
theorem InvS.stkOk {S : List Stk} {ls : List LsV} (h : InvS S ls) {x : Stk} (hx : x ∈ S) : StkOk x := by
 obtain ⟨hofc, hok⟩ := shOf_of (h.cls x hx)
 have hle := Sh.le hok
 have hm := h.made x hx
 have e : x.sh = shOf x.kd x.m x.k x.n := rfl
 refine ⟨by rw [e]; omega, ⟨hm.1, hm.2.1⟩, fun u hu => ?_⟩
 obtain ⟨h1, h2⟩ := h.ts x hx u hu
 obtain ⟨D, b⟩ := u
 exact okT_draws h1 (by rw [e]; exact hle.2.2.2.2.1) (part0_in _ h2) (part1_in _ _) b
theorem InvS.small {R : List StkR} {ls : List LsV} (h : InvS (R.map StkR.abs) ls) : Small R ls where
 stocks := by have := h.stocks; simp at this; omega
 leases := by have := h.leases; omega
 made := fun x hx => by
  have := h.made x.abs (List.mem_map.2 ⟨x, hx, rfl⟩)
  have e1 : x.abs.ts.length = x.ts.length := rfl
  have e2 : x.abs.leased = x.leased := rfl
  omega
 fc := fun l hl => by
  obtain ⟨h1, h2, h3, x, h4, h5⟩ := h.of l hl
  have := h.made x (List.mem_of_find?_eq_some h4)
  omega
 ok := fun x hx => h.stkOk (List.mem_map.2 ⟨x, hx, rfl⟩)
 lok := h.lok
end
-- VRp
section
open Go.RowKit Go.Maps
def w4 (D : List UInt8) (j : Nat) : Nat := be ((D.drop (1 + 4 * j)).take 4)
theorem be_short (l : List UInt8) (n : Nat) (h : l.length <= n) : be l < 256 ^ n := by
 induction n generalizing l with
 | zero =>
  have : l = [] := List.length_eq_zero_iff.1 (by omega)
  subst this
  simp [be]
 | succ n ih =>
  rcases List.eq_nil_or_concat l with rfl | ⟨t, c, rfl⟩
  ·simp [be]
   exact Nat.pow_pos (by omega)
  ·have h1 := ih t (by simp at h; omega)
   have h2 := c.toNat_lt
   rw [List.concat_eq_append, be_snoc, Nat.pow_succ]
   omega
end
-- VKi
section
open Go.RowKit Go.Maps
def sameC (l : LsV) (kd m k n : Int) : Bool := l.kd == kd && (l.m == m && (l.k == k && l.n == n))
def sumK (kd m k n : Int) : List LsV -> Int
 | [] => 0
 | l :: t => (if sameC l kd m k n then l.c else 0) + sumK kd m k n t
theorem sumK_append (kd m k n : Int) (a b : List LsV) : sumK kd m k n (a ++ b) = sumK kd m k n a + sumK kd m k n b := by
 induction a with
 | nil => simp [sumK]
 | cons x t ih => simp only [List.cons_append, sumK, ih]; omega
theorem sumK_nonneg {kd m k n : Int} {ls : List LsV} (h : ∀ l ∈ ls, 0 <= l.c) : 0 <= sumK kd m k n ls := by
 induction ls with
 | nil => simp [sumK]
 | cons x t ih =>
  have h1 := h x (by simp)
  have h2 := ih (fun l hl => h l (by simp [hl]))
  simp only [sumK]
  split <;> omega
theorem sumK_zero {kd m k n : Int} {ls : List LsV} (h : ∀ l ∈ ls, sameC l kd m k n = false) : sumK kd m k n ls = 0 := by
 induction ls with
 | nil => rfl
 | cons x t ih =>
  simp only [sumK]
  rw [h x (by simp), ih (fun l hl => h l (by simp [hl]))]
  simp
theorem sumK_set {kd m k n : Int} {ls : List LsV} {ix : Nat} (hix : ix < ls.length) {y : LsV} (hc : y.c = ls[ix].c) (hs : sameC y kd m k n = sameC ls[ix] kd m k n) : sumK kd m k n (ls.set ix y) = sumK kd m k n ls := by
 induction ls generalizing ix with
 | nil => simp at hix
 | cons x t ih =>
  cases ix with
  | zero =>
   simp only [lE, sumK]
   simp only [lC] at hc hs
   rw [hc, hs]
  | succ ix =>
   simp only [lF, sumK]
   rw [ih (by simpa using hix) (by simpa using hc) (by simpa using hs)]
theorem sumK_take {kd m k n : Int} {ls : List LsV} (h : ∀ l ∈ ls, 0 <= l.c) (i : Nat) (hi : i < ls.length) (hs : sameC ls[i] kd m k n = true) : sumK kd m k n (ls.take i) + ls[i].c <= sumK kd m k n ls := by
 conv => rhs; rw [<- List.take_append_drop (i + 1) ls]
 rw [sumK_append, List.take_succ_eq_append_getElem hi, sumK_append]
 have h1 := sumK_nonneg (kd := kd) (m := m) (k := k) (n := n) (ls := ls.drop (i + 1)) (fun l hl => h l (List.mem_of_mem_drop hl))
 simp only [sumK, hs, if_true]
 omega
theorem sameC_iff {l : LsV} {kd m k n : Int} : sameC l kd m k n = true ↔ l.kd = kd /\ l.m = m /\ l.k = k /\ l.n = n := by simp [sameC]
structure InvK (S : List Stk) (ls : List LsV) : Prop where
 stocks : S.length <= 6
 cls : ∀ x ∈ S, isCls x.kd x.m x.k x.n = true
 made : ∀ x ∈ S, 1 <= x.ts.length /\ x.ts.length <= 200 /\ x.leased <= x.ts.length
 ok : ∀ x ∈ S, ∀ t ∈ x.ts, OkT x.sh t
 uniq : ∀ i j (hi : i < S.length) (hj : j < S.length), S[i].is S[j].kd S[j].m S[j].k S[j].n = true -> i = j
 lok : ∀ l ∈ ls, LsOk l
 leases : ls.length <= 30
 cnt : ∀ l ∈ ls, 1 <= l.c /\ l.c <= 40
 has : ∀ l ∈ ls, ∃ x, S.find? (fun x => x.is l.kd l.m l.k l.n) = some x
 seq : ∀ i (hi : i < ls.length), ls[i].f = sumK ls[i].kd ls[i].m ls[i].k ls[i].n (ls.take i)
 sum : ∀ i (hi : i < S.length), (S[i].leased : Int) = sumK S[i].kd S[i].m S[i].k S[i].n ls
 names : ∀ i j (hi : i < ls.length) (hj : j < ls.length), ls[i].s = ls[j].s -> ls[i].i = ls[j].i -> i = j
theorem invK_nil : InvK [] [] := ⟨by simp, by simp, by simp, by simp, fun i j hi => by simp at hi, by simp, by simp, by simp, by simp, fun i hi => by simp at hi, fun i hi => by simp at hi, fun i j hi => by simp at hi⟩
theorem InvK.nonneg {S : List Stk} {ls : List LsV} (h : InvK S ls) : ∀ l ∈ ls, 0 <= l.c := fun l hl => by have := h.cnt l hl; omega
theorem InvK.of {S : List Stk} {ls : List LsV} (h : InvK S ls) : ∀ l ∈ ls, 0 <= l.f /\ 1 <= l.c /\ l.c <= 40 /\ ∃ x, S.find? (fun x => x.is l.kd l.m l.k l.n) = some x /\ l.f + l.c <= x.leased := fun l hl => by
 obtain ⟨i, hi, rfl⟩ := List.getElem_of_mem hl
 have hc := h.cnt _ hl
 obtain ⟨x, hx⟩ := h.has _ hl
 obtain ⟨j, hj, hjx⟩ := List.getElem_of_mem (List.mem_of_find?_eq_some hx)
 have hxi : x.is ls[i].kd ls[i].m ls[i].k ls[i].n = true := by simpa using List.find?_some hx
 obtain ⟨e1, e2, e3, e4⟩ := (by simpa [Stk.is] using hxi : (x.kd : Int) = ls[i].kd /\ (x.m : Int) = ls[i].m /\ (x.k : Int) = ls[i].k /\ (x.n : Int) = ls[i].n)
 have hs := h.sum j hj
 rw [hjx, e1, e2, e3, e4] at hs
 have ht := sumK_take h.nonneg i hi (sameC_iff.2 ⟨rfl, rfl, rfl, rfl⟩)
 have hq := h.seq i hi
 have hn := sumK_nonneg (kd := ls[i].kd) (m := ls[i].m) (k := ls[i].k) (n := ls[i].n) (ls := ls.take i) (fun l hl => h.nonneg l (List.mem_of_mem_take hl))
 exact ⟨by omega, hc.1, hc.2, x, hx, by omega⟩
theorem InvK.apart {S : List Stk} {ls : List LsV} (h : InvK S ls) : ∀ i j (hi : i < ls.length) (hj : j < ls.length), i < j -> ls[i].kd = ls[j].kd /\ ls[i].m = ls[j].m /\ ls[i].k = ls[j].k /\ ls[i].n = ls[j].n -> ls[i].f + ls[i].c <= ls[j].f \/ ls[j].f + ls[j].c <= ls[i].f := fun i j hi hj hij ⟨e1, e2, e3, e4⟩ => by
 left
 rw [h.seq i hi, h.seq j hj, <- e1, <- e2, <- e3, <- e4]
 have ht := sumK_take (kd := ls[i].kd) (m := ls[i].m) (k := ls[i].k) (n := ls[i].n) (ls := ls.take j) (fun l hl => h.nonneg l (List.mem_of_mem_take hl)) i (by simp; omega) (by rw [List.getElem_take]; exact sameC_iff.2 ⟨rfl, rfl, rfl, rfl⟩)
 rw [List.take_take, Nat.min_eq_left (by omega), List.getElem_take] at ht
 exact ht
theorem is_eqsK {x : Stk} {kd m k n : Int} (h : x.is kd m k n = true) : (x.kd : Int) = kd /\ (x.m : Int) = m /\ (x.k : Int) = k /\ (x.n : Int) = n := by
 simpa [Stk.is] using h
theorem find_has {S : List Stk} {kd m k n : Int} (h : ∃ x ∈ S, x.is kd m k n = true) : ∃ x, S.find? (fun x => x.is kd m k n) = some x := by
 obtain ⟨x, hx, hi⟩ := h
 cases hf : S.find? (fun x => x.is kd m k n) with
 | some y => exact ⟨y, rfl⟩
 | none => exact absurd hi (by simpa using List.find?_eq_none.1 hf x hx)
theorem has_of {S : List Stk} {kd m k n : Int} (h : ∃ x, S.find? (fun x => x.is kd m k n) = some x) : ∃ x ∈ S, x.is kd m k n = true := by
 obtain ⟨x, hx⟩ := h
 exact ⟨x, List.mem_of_find?_eq_some hx, by simpa using List.find?_some hx⟩
theorem InvK.more {S : List Stk} {ls : List LsV} (h : InvK S ls) {ix : Nat} (hix : ix < S.length) {us : List (List Int × Bool)} (hl : S[ix].ts.length + us.length <= 200) (hok : ∀ u ∈ us, OkT S[ix].sh u) : InvK (S.set ix (S[ix].more us)) ls where
 stocks := by simpa using h.stocks
 cls := fun x hx => by
  rcases mem_set_of hx with hx | rfl
  ·exact h.cls x hx
  ·exact h.cls S[ix] (List.getElem_mem hix)
 made := fun x hx => by
  rcases mem_set_of hx with hx | rfl
  ·exact h.made x hx
  ·have := h.made _ (List.getElem_mem hix)
   simp only [Stk.more, List.length_append]
   omega
 ok := fun x hx t ht => by
  rcases mem_set_of hx with hx | rfl
  ·exact h.ok x hx t ht
  ·rcases List.mem_append.1 ht with ht | ht
   ·exact h.ok _ (List.getElem_mem hix) t ht
   ·exact hok t ht
 uniq := uniq_set h.uniq hix (fun _ _ _ _ => rfl) ⟨rfl, rfl, rfl, rfl⟩
 lok := h.lok
 leases := h.leases
 cnt := h.cnt
 has := fun l hl => by
  obtain ⟨x, hx, hi⟩ := has_of (h.has l hl)
  obtain ⟨j, hj, rfl⟩ := List.getElem_of_mem hx
  refine find_has ?_
  by_cases e : ix = j
  ·subst e
   exact ⟨S[ix].more us, List.mem_iff_getElem.2 ⟨ix, by simpa using hix, by rw [List.getElem_set_self]⟩, hi⟩
  ·exact ⟨S[j], List.mem_iff_getElem.2 ⟨j, by simpa using hj, by rw [List.getElem_set_ne e]⟩, hi⟩
 seq := h.seq
 sum := fun i hi => by
  have hi' : i < S.length := by simpa using hi
  by_cases e : ix = i
  ·subst e
   rw [List.getElem_set_self]
   exact h.sum ix hix
  ·rw [List.getElem_set_ne e]
   exact h.sum i hi'
 names := h.names
theorem InvK.first {S : List Stk} {ls : List LsV} (h : InvK S ls) {kd m k n : Nat} (hcl : isCls kd m k n = true) (hf : S.find? (fun x => x.is kd m k n) = none) (hS : S.length < 6) {us : List (List Int × Bool)} (hu1 : 1 <= us.length) (hl : us.length <= 200) (hok : ∀ u ∈ us, OkT (shOf kd m k n) u) : InvK (S ++ [⟨kd, m, k, n, us, 0⟩]) ls := by
 have hno : ∀ x ∈ S, x.is kd m k n = false := fun x hx => by simpa using List.find?_eq_none.1 hf x hx
 exact {
  stocks := by simp; omega
  cls := fun x hx => by
   rcases List.mem_append.1 hx with hx | hx
   ·exact h.cls x hx
   ·rw [List.mem_singleton.1 hx]; exact hcl
  made := fun x hx => by
   rcases List.mem_append.1 hx with hx | hx
   ·exact h.made x hx
   ·rw [List.mem_singleton.1 hx]; exact ⟨hu1, hl, Nat.zero_le _⟩
  ok := fun x hx t ht => by
   rcases List.mem_append.1 hx with hx | hx
   ·exact h.ok x hx t ht
   ·rw [List.mem_singleton.1 hx] at ht ⊢; exact hok t ht
  uniq := fun i j hi hj hh => by
   rw [List.length_append] at hi hj
   simp only [List.length_singleton] at hi hj
   by_cases e1 : i < S.length
   ·by_cases e2 : j < S.length
    ·rw [List.getElem_append_left e1, List.getElem_append_left e2] at hh
     exact h.uniq i j e1 e2 hh
    ·rw [List.getElem_append_left e1, List.getElem_append_right (by omega)] at hh
     simp only [show j - S.length = 0 by omega, lC] at hh
     rw [hno _ (List.getElem_mem e1)] at hh
     cases hh
   ·by_cases e2 : j < S.length
    ·rw [List.getElem_append_right (by omega), List.getElem_append_left e2] at hh
     simp only [show i - S.length = 0 by omega, lC] at hh
     have := hno _ (List.getElem_mem e2)
     simp [Stk.is] at hh this
     omega
    ·omega
  lok := h.lok
  leases := h.leases
  cnt := h.cnt
  has := fun l hl => by
   obtain ⟨x, hx, hi⟩ := has_of (h.has l hl)
   exact find_has ⟨x, List.mem_append_left _ hx, hi⟩
  seq := h.seq
  sum := fun i hi => by
   rw [List.length_append] at hi
   simp only [List.length_singleton] at hi
   by_cases e1 : i < S.length
   ·rw [List.getElem_append_left e1]
    exact h.sum i e1
   ·rw [List.getElem_append_right (by omega)]
    simp only [show i - S.length = 0 by omega, lC]
    symm
    refine sumK_zero (fun l hl => ?_)
    obtain ⟨x, hx, hi2⟩ := has_of (h.has l hl)
    cases hq : sameC l kd m k n with
    | false => rfl
    | true =>
     obtain ⟨e1, e2, e3, e4⟩ := sameC_iff.1 hq
     rw [e1, e2, e3, e4, hno x hx] at hi2
     cases hi2
  names := h.names }
theorem InvK.lease {S : List Stk} {ls : List LsV} (h : InvK S ls) {ix c : Nat} {s i kd m k n : Int} (hix : ix < S.length) (hfx : S.findIdx? (fun x => x.is kd m k n) = some ix) (hcd : leaseCodeS S ls kd m k n c = 0) (hno : ls.findIdx? (isNamed s i) = none) (hlo : LsOk ⟨s, i, kd, m, k, n, S[ix].leased, c, false⟩) : InvK (S.set ix (S[ix].lend c)) (ls ++ [⟨s, i, kd, m, k, n, S[ix].leased, c, false⟩]) := by
 obtain ⟨_, hfi⟩ := find_idx hfx
 have hxi : S[ix].is kd m k n = true := by simpa using List.find?_some hfi
 obtain ⟨e1, e2, e3, e4⟩ := is_eqsK hxi
 have hcc : 1 <= c /\ c <= 40 /\ S[ix].leased + c <= S[ix].ts.length /\ ls.length < 30 := by
  unfold leaseCodeS at hcd
  rw [hfi] at hcd
  simp only at hcd
  split at hcd
  ·simp at hcd
  ·split at hcd
   ·simp at hcd
   ·split at hcd
    ·simp at hcd
    ·omega
 have hsn : ∀ l ∈ ls, isNamed s i l = false := fun l hl => by simpa using List.find?_eq_none.1 (find_none_idx hno) l hl
 exact {
  stocks := by simpa using h.stocks
  cls := fun x hx => by
   rcases mem_set_of hx with hx | rfl
   ·exact h.cls x hx
   ·exact h.cls S[ix] (List.getElem_mem hix)
  made := fun x hx => by
   rcases mem_set_of hx with hx | rfl
   ·exact h.made x hx
   ·have := h.made _ (List.getElem_mem hix)
    simp only [Stk.lend]
    omega
  ok := fun x hx t ht => by
   rcases mem_set_of hx with hx | rfl
   ·exact h.ok x hx t ht
   ·exact h.ok _ (List.getElem_mem hix) t ht
  uniq := uniq_set h.uniq hix (fun _ _ _ _ => rfl) ⟨rfl, rfl, rfl, rfl⟩
  lok := fun l hl => by
   rcases List.mem_append.1 hl with hl | hl
   ·exact h.lok l hl
   ·rw [List.mem_singleton.1 hl]; exact hlo
  leases := by simp; omega
  cnt := fun l hl => by
   rcases List.mem_append.1 hl with hl | hl
   ·exact h.cnt l hl
   ·rw [List.mem_singleton.1 hl]; show 1 <= (c : Int) /\ (c : Int) <= 40; omega
  has := fun l hl => by
   refine find_has ?_
   rcases List.mem_append.1 hl with hl | hl
   ·obtain ⟨x, hx, hi⟩ := has_of (h.has l hl)
    obtain ⟨j, hj, rfl⟩ := List.getElem_of_mem hx
    by_cases e : ix = j
    ·subst e
     exact ⟨S[ix].lend c, List.mem_iff_getElem.2 ⟨ix, by simpa using hix, by rw [List.getElem_set_self]⟩, hi⟩
    ·exact ⟨S[j], List.mem_iff_getElem.2 ⟨j, by simpa using hj, by rw [List.getElem_set_ne e]⟩, hi⟩
   ·rw [List.mem_singleton.1 hl]
    exact ⟨S[ix].lend c, List.mem_iff_getElem.2 ⟨ix, by simpa using hix, by rw [List.getElem_set_self]⟩, hxi⟩
  seq := fun a ha => by
   rw [List.length_append] at ha
   simp only [List.length_singleton] at ha
   by_cases e : a < ls.length
   ·rw [List.getElem_append_left e, List.take_append_of_le_length (by omega)]
    exact h.seq a e
   ·have ea : a = ls.length := by omega
    subst ea
    rw [List.getElem_append_right (by omega), List.take_left]
    simp only [Nat.sub_self, lC]
    rw [h.sum ix hix, e1, e2, e3, e4]
  sum := fun a ha => by
   have ha' : a < S.length := by simpa using ha
   rw [sumK_append]
   by_cases e : ix = a
   ·subst e
    rw [List.getElem_set_self]
    show ((S[ix].leased + c : Nat) : Int) = sumK S[ix].kd S[ix].m S[ix].k S[ix].n ls + sumK S[ix].kd S[ix].m S[ix].k S[ix].n [_]
    rw [<- h.sum ix hix]
    simp only [sumK]
    rw [if_pos (sameC_iff.2 ⟨e1.symm, e2.symm, e3.symm, e4.symm⟩)]
    show _ = _ + ((c : Int) + 0)
    omega
   ·rw [List.getElem_set_ne e, h.sum a ha']
    simp only [sumK]
    rw [if_neg]
    ·omega
    ·intro hq
     obtain ⟨q1, q2, q3, q4⟩ := sameC_iff.1 hq
     simp only at q1 q2 q3 q4
     refine e (h.uniq ix a hix ha' ?_)
     simp [Stk.is]
     omega
  names := fun a b ha hb n1 n2 => by
   rw [List.length_append] at ha hb
   simp only [List.length_singleton] at ha hb
   by_cases e1 : a < ls.length
   ·by_cases e2 : b < ls.length
    ·rw [List.getElem_append_left e1, List.getElem_append_left e2] at n1 n2
     exact h.names a b e1 e2 n1 n2
    ·rw [List.getElem_append_left e1, List.getElem_append_right (by omega)] at n1 n2
     simp only [show b - ls.length = 0 by omega, lC] at n1 n2
     have := hsn _ (List.getElem_mem e1)
     simp [isNamed, n1, n2] at this
   ·by_cases e2 : b < ls.length
    ·rw [List.getElem_append_right (by omega), List.getElem_append_left e2] at n1 n2
     simp only [show a - ls.length = 0 by omega, lC] at n1 n2
     have := hsn _ (List.getElem_mem e2)
     simp [isNamed, n1, n2] at this
    ·omega }
theorem InvK.free {S : List Stk} {ls : List LsV} (h : InvK S ls) {ix : Nat} (hix : ix < ls.length) : InvK S (ls.set ix ls[ix].free) := by
 have hm : ∀ l ∈ ls.set ix ls[ix].free, ∃ l' ∈ ls, l.s = l'.s /\ l.i = l'.i /\ l.kd = l'.kd /\ l.m = l'.m /\ l.k = l'.k /\ l.n = l'.n /\ l.f = l'.f /\ l.c = l'.c := fun l hl => by
  rcases mem_set_of hl with hl | rfl
  ·exact ⟨l, hl, rfl, rfl, rfl, rfl, rfl, rfl, rfl, rfl⟩
  ·exact ⟨ls[ix], List.getElem_mem hix, rfl, rfl, rfl, rfl, rfl, rfl, rfl, rfl⟩
 have hg : ∀ a (ha : a < (ls.set ix ls[ix].free).length), ∃ ha' : a < ls.length, (ls.set ix ls[ix].free)[a].s = ls[a].s /\ (ls.set ix ls[ix].free)[a].i = ls[a].i /\ (ls.set ix ls[ix].free)[a].kd = ls[a].kd /\ (ls.set ix ls[ix].free)[a].m = ls[a].m /\ (ls.set ix ls[ix].free)[a].k = ls[a].k /\ (ls.set ix ls[ix].free)[a].n = ls[a].n /\ (ls.set ix ls[ix].free)[a].f = ls[a].f := fun a ha => by
  have ha' : a < ls.length := by simpa using ha
  refine ⟨ha', ?_⟩
  by_cases e : ix = a
  ·subst e
   rw [List.getElem_set_self]
   exact ⟨rfl, rfl, rfl, rfl, rfl, rfl, rfl⟩
  ·rw [List.getElem_set_ne e]
   exact ⟨rfl, rfl, rfl, rfl, rfl, rfl, rfl⟩
 exact {
  stocks := h.stocks
  cls := h.cls
  made := h.made
  ok := h.ok
  uniq := h.uniq
  lok := fun l hl => by
   obtain ⟨l', hl', e1, e2, e3, e4, e5, e6, e7, e8⟩ := hm l hl
   have := h.lok l' hl'
   unfold LsOk at this ⊢
   rw [e1, e2, e3, e4, e5, e6, e8]
   exact this
  leases := by simpa using h.leases
  cnt := fun l hl => by
   obtain ⟨l', hl', e1, e2, e3, e4, e5, e6, e7, e8⟩ := hm l hl
   rw [e8]
   exact h.cnt l' hl'
  has := fun l hl => by
   obtain ⟨l', hl', e1, e2, e3, e4, e5, e6, e7, e8⟩ := hm l hl
   rw [e3, e4, e5, e6]
   exact h.has l' hl'
  seq := fun a ha => by
   obtain ⟨ha', e1, e2, e3, e4, e5, e6, e7⟩ := hg a ha
   rw [e3, e4, e5, e6, e7, h.seq a ha', List.take_set]
   by_cases e : ix < a
   ·rw [sumK_set (by simp; omega) (by simp [LsV.free]) (by simp [LsV.free, sameC])]
   ·rw [List.set_eq_of_length_le (by simp; omega)]
  sum := fun a ha => by rw [sumK_set (y := ls[ix].free) hix rfl rfl]; exact h.sum a ha
  names := fun a b ha hb n1 n2 => by
   obtain ⟨ha', e1, e2, _⟩ := hg a ha
   obtain ⟨hb', e3, e4, _⟩ := hg b hb
   rw [e1, e3] at n1
   rw [e2, e4] at n2
   exact h.names a b ha' hb' n1 n2 }
theorem rawW_in (D : List UInt8) (n : Nat) : inU64 (rawW D n) := fun z hz => by
 obtain ⟨i, _, rfl⟩ := List.mem_map.1 hz
 have := be_short ((D.drop (1 + 8 * i)).take 8) 8 (by rw [List.length_take]; omega)
 omega
theorem share_ok {L : Nat} {sh : Sh} (hL : sh.x + sh.y + sh.z = L) {l : List UInt8} {u : List Int × Bool} {n : Nat} (h : shareP L l = some (u, n)) : OkT sh u := by
 unfold shareP at h
 split at h
 ·injection h with h; injection h with h1 h2
  intro hk
  rw [<- h1] at hk
  cases hk
 ·split at h
  ·cases h
  ·injection h with h; injection h with h1 h2
   intro _
   have hlen : (rawW l (2 * L)).length = 2 * (sh.x + sh.y + sh.z) := by rw [rawW_len, hL]
   rw [<- h1]
   unfold sh0 sh1
   simp only
   rw [if_pos hlen, if_pos hlen, List.length_take, List.length_drop, hlen]
   have hin := rawW_in l (2 * L)
   exact ⟨by omega, by omega, fun z hz => hin z (List.mem_of_mem_take hz), fun z hz => hin z (List.mem_of_mem_drop hz)⟩
theorem making_ok {L : Nat} {sh : Sh} (hL : sh.x + sh.y + sh.z = L) : ∀ (N : Nat) (l : List UInt8) (us : List (List Int × Bool)), l.length <= N -> makingP L l = some us -> (∀ u ∈ us, OkT sh u) /\ (l ≠ [] -> 1 <= us.length)
 | N, l, us, hN, h => by
  by_cases hl : l = []
  ·subst hl
   rw [makingP_nil] at h
   injection h with h
   subst h
   exact ⟨by simp, fun e => absurd rfl e⟩
  ·cases hs : shareP L l with
   | none => rw [makingP_none hl hs] at h; cases h
   | some p =>
    obtain ⟨u, n⟩ := p
    rw [makingP_some hl hs] at h
    cases hq : makingP L (l.drop n) with
    | none => rw [hq] at h; cases h
    | some us' =>
     rw [hq] at h
     injection h with h
     subst h
     have hp := share_pos hs
     have hlp : 0 < l.length := List.length_pos_iff.2 hl
     cases N with
     | zero => omega
     | succ N =>
      have ih := making_ok hL N (l.drop n) us' (by rw [List.length_drop]; omega) hq
      refine ⟨fun v hv => ?_, fun _ => by simp⟩
      rcases List.mem_cons.1 hv with rfl | hv
      ·exact share_ok hL hs
      ·exact ih.1 v hv
def ChgOk : Chg -> Prop
 | .inl (kd, m, k, n, us) => isCls kd m k n = true /\ 1 <= us.length /\ ∀ u ∈ us, OkT (shOf kd m k n) u
 | .inr (.inl (s, i, kd, m, k, n, c)) => s <= 2147483647 /\ i <= 2147483647 /\ kd <= 255 /\ m <= 255 /\ k <= 255 /\ n <= 255 /\ c <= 2147483647
 | .inr (.inr _) => True
theorem applyS_inv {S : List Stk} {ls : List LsV} {c : Chg} {st : List Stk × List LsV} (h : InvK S ls) (hc : ChgOk c) (ha : applyS S ls c = some st) : InvK st.1 st.2 := by
 rcases c with ⟨kd, m, k, n, us⟩ | ⟨s, i, kd, m, k, n, c⟩ | ⟨s, i⟩
 ·skip
  obtain ⟨hcl, hu1, hok⟩ := hc
  simp only [applyS] at ha
  split at ha
  ·rename_i hcd
   injection ha with ha
   subst ha
   unfold makeCode at hcd
   cases hf : S.findIdx? (fun x => x.is kd m k n) with
   | some ix =>
    obtain ⟨hix, hfi⟩ := find_idx hf
    rw [hfi] at hcd
    simp only at hcd
    have hle : ¬ 200 < S[ix].ts.length + us.length := fun h' => by rw [if_pos h'] at hcd; simp at hcd
    have e : makeS S kd m k n us = S.set ix (S[ix].more us) := by
     unfold makeS
     rw [hf]
     exact modify_set S ix hix _
    show InvK (makeS S kd m k n us) ls
    rw [e]
    refine h.more hix (by omega) ?_
    have hxi : S[ix].is kd m k n = true := by simpa using List.find?_some hfi
    obtain ⟨e1, e2, e3, e4⟩ := is_eqsK hxi
    have e5 : S[ix].sh = shOf kd m k n := by
     show shOf S[ix].kd S[ix].m S[ix].k S[ix].n = _
     rw [show S[ix].kd = kd by omega, show S[ix].m = m by omega, show S[ix].k = k by omega, show S[ix].n = n by omega]
    rw [e5]
    exact hok
   | none =>
    have hfn := find_none_idx hf
    rw [hfn] at hcd
    simp only at hcd
    have hle : ¬ (6 <= S.length \/ 200 < us.length) := fun h' => by rw [if_pos h'] at hcd; simp at hcd
    show InvK (makeS S kd m k n us) ls
    unfold makeS
    rw [hf]
    exact h.first hcl hfn (by omega) hu1 (by omega) hok
  ·cases ha
 ·skip
  simp only [applyS] at ha
  split at ha
  ·cases ha
  ·rename_i hno
   split at ha
   ·rename_i hcd
    injection ha with ha
    subst ha
    have hno' : ls.findIdx? (isNamed (s : Int) i) = none := by
     cases hq : ls.findIdx? (isNamed (s : Int) i) with
     | none => rfl
     | some _ => rw [hq] at hno; simp at hno
    cases hf : S.findIdx? (fun x => x.is kd m k n) with
    | none =>
     unfold leaseCodeS at hcd
     rw [find_none_idx hf] at hcd
     simp at hcd
    | some ix =>
     obtain ⟨hix, hfi⟩ := find_idx hf
     show InvK (lendS S kd m k n c) (ls ++ [⟨s, i, kd, m, k, n, leasedAt S kd m k n, c, false⟩])
     rw [lendS_eq hf hix, leasedAt_eq hfi]
     refine h.lease hix hf hcd hno' ?_
     unfold ChgOk at hc
     unfold LsOk
     simp only
     omega
   ·cases ha
 ·skip
  simp only [applyS] at ha
  split at ha
  ·rename_i hcd
   injection ha with ha
   subst ha
   show InvK S (freeS ls s i)
   cases hf : ls.findIdx? (isNamed (s : Int) i) with
   | none =>
    unfold freeS
    rw [hf]
    exact h
   | some ix =>
    obtain ⟨hix, _⟩ := find_idx hf
    rw [freeS_eq hf hix]
    exact h.free hix
  ·cases ha
theorem decTo_leK {l : List (Nat × Int × Int)} {r : List UInt8} {vs : List Nat} (hd : decTo l r = some (vs, [])) (k : Nat) (h : k < vs.length) (h' : k < l.length) : (vs[k] : Int) <= l[k].2.2 := by
 have key : ∀ (l : List (Nat × Int × Int)) (r : List UInt8), bounded l r -> ∀ (k : Nat) (h : k < (valsOf l r).length) (h' : k < l.length), ((valsOf l r)[k] : Int) <= l[k].2.2 := by
  intro l
  induction l with
  | nil => intro r _ k h; simp [valsOf] at h
  | cons x t ih =>
   intro r hb k h h'
   cases k with
   | zero => exact hb.1
   | succ k => exact ih _ hb.2 k (by simpa [valsOf] using h) (by simpa using h')
 obtain ⟨_, h2, h3⟩ := (decTo_iff l r vs).1 hd
 subst h2
 exact key l r h3 k h h'
theorem changeP_ok {l : List UInt8} {c : Chg} (h : changeP l = some c) : ChgOk c := by
 unfold changeP at h
 split at h
 ·cases h
 ·split at h
  ·split at h
   ·cases h
   ·rename_i h5
    split at h
    ·rename_i hcl
     cases hm : makingP _ (l.drop 5) with
     | none => rw [hm] at h; cases h
     | some us =>
      rw [hm] at h
      injection h with h
      subst h
      have := making_ok rfl _ _ _ (Nat.le_refl _) hm
      refine ⟨hcl, this.2 (fun e => ?_), this.1⟩
      have := congrArg List.length e
      rw [List.length_drop] at this
      simp at this
      omega
    ·cases h
  ·split at h
   ·split at h
    ·rename_i hd
     injection h with h
     subst h
     have b0 := decTo_leK hd 0 (by simp) (by decide)
     have b1 := decTo_leK hd 1 (by simp) (by decide)
     have b2 := decTo_leK hd 2 (by simp) (by decide)
     have b3 := decTo_leK hd 3 (by simp) (by decide)
     have b4 := decTo_leK hd 4 (by simp) (by decide)
     have b5 := decTo_leK hd 5 (by simp) (by decide)
     have b6 := decTo_leK hd 6 (by simp) (by decide)
     simp [leaseL] at b0 b1 b2 b3 b4 b5 b6
     unfold ChgOk
     omega
    ·cases h
   ·split at h
    ·split at h
     ·injection h with h
      subst h
      trivial
     ·cases h
    ·cases h
theorem replayS_inv (rs : List ByteArray) (st : List Stk × List LsV) (h : InvK st.1 st.2) : InvK (replayS rs st).1 (replayS rs st).2 := by
 induction rs generalizing st with
 | nil => exact h
 | cons r rs ih =>
  unfold replayS
  cases hc : changeP r.data.toList with
  | none => exact h
  | some c =>
   simp only
   cases ha : applyS st.1 st.2 c with
   | none => exact h
   | some st' => exact ih st' (applyS_inv h (changeP_ok hc) ha)
def restartS (fb : ByteArray) : List Stk × List LsV := if soundS (replayS (strL (readP fb.data.toList)) ([], [])).1 (replayS (strL (readP fb.data.toList)) ([], [])).2 then replayS (strL (readP fb.data.toList)) ([], []) else ([], [])
structure InvQ (S : List Stk) (ls : List LsV) : Prop extends InvK S ls where
 kept : ∀ x ∈ S, ∀ j (hj : j < x.ts.length), x.ts[j].2 = false -> ∃ l ∈ ls, l.r = true /\ x.is l.kd l.m l.k l.n = true /\ l.f <= (j : Int) /\ (j : Int) < l.f + l.c
theorem sound_kept {S : List Stk} {ls : List LsV} (h : soundS S ls = true) : ∀ x ∈ S, ∀ j (hj : j < x.ts.length), x.ts[j].2 = false -> ∃ l ∈ ls, l.r = true /\ x.is l.kd l.m l.k l.n = true /\ l.f <= (j : Int) /\ (j : Int) < l.f + l.c := fun x hx j hj hk => by
 have h1 := List.all_eq_true.1 h x hx
 have h2 := List.all_eq_true.1 h1 j (List.mem_range.2 hj)
 unfold soundT at h2
 rw [List.getD_eq_getElem?_getD, List.getElem?_eq_getElem hj, Option.getD_some, hk, Bool.false_or] at h2
 unfold coverR at h2
 cases hf : ls.find? (covers x.kd x.m x.k x.n j) with
 | none => rw [hf] at h2; cases h2
 | some l =>
  rw [hf] at h2
  have hc : covers x.kd x.m x.k x.n j l = true := by simpa using List.find?_some hf
  simp [covers] at hc
  refine ⟨l, List.mem_of_find?_eq_some hf, h2, ?_, ?_, ?_⟩
  ·simp [Stk.is]; omega
  ·omega
  ·omega
theorem restartS_inv (fb : ByteArray) : InvQ (restartS fb).1 (restartS fb).2 := by
 unfold restartS
 split
 ·rename_i h
  exact ⟨replayS_inv _ _ invK_nil, sound_kept h⟩
 ·exact ⟨invK_nil, by simp⟩
end
-- GCp
section
set_option maxRecDepth 100000
set_option maxHeartbeats 2000000
open Go.RowKit Go.Maps
theorem mapClone_c (b : Nat) (es : Array MapEntry) (clock : Nat) (w : World) (hb : w.heap[b]? = some (.map es clock)) :
  Calls Tryz.prog 163 #[.map (some b)] w fun e w' => e = .returned (.map (some w.heap.size)) /\ w' = w.alloc (.map es clock) := by
 have hq := fun w => run_eql_map_nil_sl (P := Tryz.prog) w 152 _ _ (some b) Tryz.underlying152
 go_enter Tryz.func163, Tryz.ntmps163
 go_wp2
 rw [run_callFunc_extern Tryz.func184 (by kernel_rfl) (by kernel_rfl) (by kernel_rfl) (e := Extern.MapsClone.clone) (by kernel_rfl), run_maps_clone_sl w 152 hb]
 simp only [Result.andThen]
 rw [Oper.upon_value]
 go_wp2
 rw [run_typeAssert_map_sl _ 152 _ _ _ _ Tryz.underlying152]
 simp only [Result.andThen]
 rw [Oper.upon_value]
 go_wp2
 go_ret
 exact ⟨rfl, rfl⟩
def keptN (S : List Stk) : Nat := (S.map fun x => (x.ts.filter (·.2)).length).sum
theorem keptN_le {S : List Stk} (h : ∀ x ∈ S, x.ts.length <= 1000) : keptN S <= S.length * 1000 := by
 induction S with
 | nil => simp [keptN]
 | cons x t ih =>
  have h1 := ih (fun y hy => h y (by simp [hy]))
  have h2 := h x (by simp)
  have h3 := List.length_filter_le (·.2) x.ts
  simp only [keptN, List.map_cons, List.sum_cons, List.length_cons] at h1 ⊢
  omega
section
variable {B : Nat} {F : Nat -> Prop} {sv lv dv : Value} {R : List StkR} {ls : List LsV} {ops : List OpV} {fl : Bool} {ah : Int} {kn : Bool}
theorem kept_c (hR : R.length <= 100) (hRm : ∀ x ∈ R, x.ts.length <= 1000) (w : World) (h : StoreOf w B F sv lv dv R ls ops fl ah kn) :
  Calls Tryz.prog 118 #[.pointer (some ⟨B, 0, none⟩)] w fun e w' => e = .returned (.int .i64 (keptN (R.map StkR.abs))) /\ Ext w w' := by
 obtain ⟨c0, c1, _⟩ := h.deal.cells
 have hB := h.deal.lt
 have H : Hid _ := h
 have HRM : Hid _ := hRm
 obtain ⟨sa, sc, hsv⟩ := owns_slice h.srow
 subst hsv
 clear h hRm
 obtain ⟨rn, hrn⟩ : ∃ rn, R.length = rn := ⟨_, rfl⟩
 have HRN : Hid (R.length = rn) := hrn
 rw [hrn] at c0 hR
 clear hrn
 go_enter Tryz.func118, Tryz.ntmps118
 go_wp2
 go_loopw [3, 11] (fun u i wr => ∃ j : Nat, j <= rn /\ i = .int .i64 j /\ u = .int .i64 (keptN ((R.map StkR.abs).take j)) /\ Ext w wr) (fun _ i _ => rn - (intOf i).toNat)
 case atStart => exact ⟨0, Nat.zero_le _, rfl, rfl, Ext.refl _⟩
 case round =>
  obtain ⟨j, hj, rfl, rfl, hx⟩ := hrel
  by_cases hlt : j < rn
  ·have hjR : j < R.length := by rw [HRN.out]; exact hlt
   have hsr := H.out.srow
   rcases owns_form hsr with ⟨_, h0, _⟩ | ⟨g, cap, hg, _, _, _⟩
   ·omega
   ·injection hg with hg1 hg2 hg3
    subst hg1 hg3
    rw [HRN.out] at hsr
    have e0 : wr.cell? ⟨g, j, none⟩ = some (.pointer (some ⟨R[j].blk, 0, none⟩)) := hx.cell (owns_cell hsr (by simp [stkPtrs, hjR]))
    have hgl := lG wr _ e0
    have hxs := (H.out.ext hx).stk R[j] (List.getElem_mem hjR)
    have k6 : wr.cell? ⟨R[j].blk, 6, none⟩ = some (.map (some R[j].mb)) := (cell_of_row wr R[j].blk 6 _ _ _ hxs.blk).trans rfl
    have hbl := lG wr _ k6
    obtain ⟨D, hD, hK⟩ := hxs.map
    have hln := fun ty => hD.len Tryz.underlying152 ty
    rw [hK.1] at hln
    have hnx : keptN ((R.map StkR.abs).take (j + 1)) = keptN ((R.map StkR.abs).take j) + (R[j].ts.filter (·.2)).length := by
     rw [List.take_succ_eq_append_getElem (by simpa using hjR), keptN, List.map_append, List.sum_append]
     simp [keptN, StkR.abs]
    have hb1 : keptN ((R.map StkR.abs).take j) <= 100000 := by
     have h1 := keptN_le (S := (R.map StkR.abs).take j) (fun x hx => by
      obtain ⟨y, hy, rfl⟩ := List.mem_map.1 (List.mem_of_mem_take hx)
      exact HRM.out y hy)
     rw [List.length_take] at h1
     have h2 : min j (R.map StkR.abs).length * 1000 <= 100 * 1000 := Nat.mul_le_mul_right _ (by omega)
     omega
    have hb2 : (R[j].ts.filter (·.2)).length <= 1000 := Nat.le_trans (List.length_filter_le _ _) (HRM.out _ (List.getElem_mem hjR))
    have HNx : Hid _ := hnx
    have HX : Hid (Ext w wr) := hx
    clear hnx hsr hxs hD hK hx
    generalize keptN ((R.map StkR.abs).take j) = a at *
    generalize (R[j].ts.filter (·.2)).length = b at *
    generalize R[j].blk = blk at *
    generalize R[j].mb = mb at *
    go_wp2
    go_roundw
    case rel => exact ⟨j + 1, by omega, by go_num, by rw [HNx.out]; simp, HX.out⟩
    case measure => simp [intOf]; omega
  ·obtain rfl : j = rn := by omega
   have HF : Hid (keptN ((R.map StkR.abs).take j) = keptN (R.map StkR.abs)) := by
    show _ = _
    rw [List.take_of_length_le (by rw [List.length_map, HRN.out]; exact Nat.le_refl _)]
   have HX : Hid (Ext w wr) := hx
   clear hx
   go_wp2
   go_ret
   exact ⟨ret_int (by rw [HF.out]), HX.out⟩
end
end
-- GFg
section
set_option maxRecDepth 100000
set_option maxHeartbeats 1600000
open Go.RowKit Go.Maps
def dropT (t : List Int × Bool) : List Int × Bool := (t.1, false)
def forgetN (ts : List (List Int × Bool)) (f : Nat) : Nat -> List (List Int × Bool)
 | 0 => ts
 | j + 1 => (forgetN ts f j).modify (f + j) dropT
theorem forgetN_len (ts : List (List Int × Bool)) (f j : Nat) : (forgetN ts f j).length = ts.length := by
 induction j with
 | zero => rfl
 | succ j ih => rw [forgetN, List.length_modify, ih]
theorem forgetN_at (ts : List (List Int × Bool)) (f j i : Nat) : (forgetN ts f j)[i]? = (ts[i]?).map fun t => if f <= i /\ i < f + j then dropT t else t := by
 induction j with
 | zero =>
  rw [forgetN]
  cases ts[i]? with
  | none => rfl
  | some t =>
   simp
   intro h1 h2
   omega
 | succ j ih =>
  rw [forgetN, List.getElem?_modify, ih]
  cases ts[i]? with
  | none => rfl
  | some t =>
   show some (if f + j = i then dropT (if f <= i /\ i < f + j then dropT t else t) else (if f <= i /\ i < f + j then dropT t else t)) = some (if f <= i /\ i < f + (j + 1) then dropT t else t)
   congr 1
   by_cases e : f + j = i
   ·rw [if_pos e, if_neg (by omega), if_pos (by omega)]
   ·rw [if_neg e]
    by_cases h : f <= i /\ i < f + j
    ·rw [if_pos h, if_pos (by omega)]
    ·rw [if_neg h, if_neg (by omega)]
def StkR.forget (x : StkR) (f c : Nat) : StkR := { x with ts := forgetN x.ts f c }
def Stk.forget (x : Stk) (f c : Nat) : Stk := { x with ts := forgetN x.ts f c }
theorem filter_modify {ts : List (List Int × Bool)} (i : Nat) : ((ts.modify i dropT).filter (·.2)).length + (if (ts[i]?.map (·.2)).getD false = true then 1 else 0) = (ts.filter (·.2)).length := by
 induction ts generalizing i with
 | nil => simp
 | cons t r ih =>
  cases i with
  | zero =>
   cases h : t.2 <;> simp [dropT, h]
  | succ i =>
   have := ih i
   rw [List.modify_succ_cons]
   cases h : t.2 <;> simp [h] at this ⊢ <;> omega
theorem Kept.del {w : World} {F : Nat -> Prop} {s : Sh} {ts : List (List Int × Bool)} {D : DataW Value} (h : Kept w F s ts D) (hD : Tidy D) (i : Nat) : Kept w F s (ts.modify i dropT) (D.del (.int .i64 (i : Int))) := by
 obtain ⟨h1, h2, h3⟩ := h
 refine ⟨?_, fun j => ?_, fun j hj hk => ?_⟩
 ·have e1 := size_del (k := .int .i64 (i : Int)) hD
  have e2 := filter_modify (ts := ts) i
  rw [h2 i] at e1
  omega
 ·by_cases e : i = j
  ·subst e
   rw [has_del_same, List.getElem?_modify_eq]
   cases ts[i]? <;> rfl
  ·rw [has_del_other (int_ne (Ne.symm e)), h2 j, List.getElem?_modify]
   cases ts[j]? with
   | none => rfl
   | some t => simp [e]
 ·have hj' : j < ts.length := by simpa using hj
  by_cases e : i = j
  ·subst e
   rw [List.getElem_modify, if_pos rfl] at hk
   simp [dropT] at hk
  ·rw [List.getElem_modify, if_neg e] at hk ⊢
   rw [atKey_del_other (int_ne (Ne.symm e))]
   exact h3 j hj' hk
theorem Turn.map {S : Nat -> Prop} {w w' : World} {b : Nat} (h : w.mapTurned w' b) (hs : S b) : Turn S w w' := by
 obtain ⟨es, clock, es', clock', hb, rfl⟩ := h
 refine ⟨rfl, rfl, rfl, by simp [Go.ChangeMaps.setBlock], fun k hk hn => ?_⟩
 show (w.heap.setIfInBounds b _)[k]? = _
 rw [Array.getElem?_setIfInBounds_ne (fun e => hn (by rw [<- e]; exact hs))]
section
variable {B : Nat} {F : Nat -> Prop} {sv lv dv : Value} {R : List StkR} {ls : List LsV} {ops : List OpV} {fl : Bool} {ah : Int} {kn : Bool}
theorem map_set_self {x : StkR} {R : List StkR} {i : Nat} (h : i < R.length) (e : R[i] = x) : R.set i x = R := by rw [<- e, List.set_getElem_self]
theorem forget_c (s i kd m k n : Int) (f c : Nat) (rr : Bool) (ix : Nat) (hc : c <= 1000) (hf : f <= 1000) (hR : R.length <= 100) (hix : ix < R.length) (hfx : R.find? (fun x => x.is kd m k n) = some R[ix]) (w : World) (h : StoreOf w B F sv lv dv R ls ops fl ah kn) :
  Calls Tryz.prog 164 #[.pointer (some ⟨B, 0, none⟩), .agg #[.int .i64 s, .int .i64 i, .int .i64 kd, .int .i64 m, .int .i64 k, .int .i64 n, .int .i64 f, .int .i64 c, .bool rr]] w fun e w' => e = .returned (.tuple #[]) /\ StoreOf w' B F sv lv dv (R.set ix (R[ix].forget f c)) ls ops fl ah kn /\ Turn (fun b => b = R[ix].mb) w w' := by
 have HF : Hid (∀ w', Ext w w' -> Calls Tryz.prog 168 #[.pointer (some ⟨B, 0, none⟩), .agg #[.int .i64 kd, .int .i64 m, .int .i64 k, .int .i64 n]] w' fun e w'' => e = .returned (.pointer (some ⟨R[ix].blk, 0, none⟩)) /\ Ext w' w'') := fun w' hx => by
  have := findR_c kd m k n hR w' (h.ext hx)
  rwa [stkPtr, hfx] at this
 have H : Hid _ := h
 obtain ⟨X, hX⟩ : ∃ X, R[ix] = X := ⟨_, rfl⟩
 have HX : Hid (R[ix] = X) := hX
 have hxi := h.stk R[ix] (List.getElem_mem hix)
 rw [hX] at hxi HF ⊢
 have hbw : X.blk < w.heap.size := (Array.getElem?_eq_some_iff.1 hxi.blk).1
 obtain ⟨D0, hD0, _⟩ := hxi.map
 have hmw : X.mb < w.heap.size := hD0.lt
 have hbm : X.blk ≠ X.mb := map_ne hxi.blk hD0
 have HXI : Hid (StkAt w F X) := hxi
 clear h hfx hX hD0 hxi
 go_enter Tryz.func164, Tryz.ntmps164
 go_wp2_with fail
 refine (HF.out _ ((Ext.refl w).alloc _)).mono ?_
 rintro e w1 ⟨rfl, hx1⟩
 have l6 := cell_in hx1 6 rfl
 have l7 := cell_in hx1 7 rfl
 have HX1 : Hid (Ext w w1) := ((Ext.refl w).alloc _).trans hx1
 have hw1 := HX1.out.le
 have hll := lG w1 _ l6
 clear hx1
 go_wp2_with fail
 go_loopw [12] (fun i wr => ∃ j : Nat, j <= c /\ i = .int .i64 j /\ StoreOf wr B F sv lv dv (R.set ix (X.forget f j)) ls ops fl ah kn /\ Turn (fun b => b = X.mb) w1 wr) (fun i _ => c - (intOf i).toNat)
 case atStart =>
  refine ⟨0, Nat.zero_le _, rfl, ?_, Turn.refl _ _⟩
  rw [map_set_self hix (by rw [HX.out]; rfl)]
  exact H.out.ext HX1.out
 case round =>
  obtain ⟨j, hj, rfl, hs, ht⟩ := hrel
  have HS : Hid _ := hs
  have HT : Hid (Turn (fun b => b = X.mb) w1 wr) := ht
  have hlm : ¬ w.heap.size = X.mb := by omega
  have l6 := ht.cell l6 hlm
  have hxj := hs.stk _ (mem_set_self hix (X.forget f j))
  have hlr : w.heap.size < wr.heap.size := lG wr _ l6
  clear hs ht
  by_cases hlt : j < c
  ·have hkb : wr.heap[X.blk]? = some (.cells (X.forget f j).row 154 (0, 0)) := hxj.blk
   have k6 : wr.cell? ⟨X.blk, 6, none⟩ = some (.map (some X.mb)) := (cell_of_row wr X.blk 6 _ _ _ hkb).trans rfl
   obtain ⟨D, hD, hK⟩ := hxj.map
   have hD : wr.ownsMap Tryz.prog 3 heldElem X.mb X.ts.length D := by
    have e : (X.forget f j).ts.length = X.ts.length := forgetN_len _ _ _
    rw [e] at hD
    exact hD
   have hwf : IntKind.i64.wrap ((f : Int) + (j : Int)) = ((f + j : Nat) : Int) := by rw [IntKind.wrap_i64]; omega
   obtain ⟨fj, hfj⟩ : ∃ fj, f + j = fj := ⟨_, rfl⟩
   rw [hfj] at hwf
   have HFJ : Hid (f + j = fj) := hfj
   have hfj1 : fj <= 2000 := by omega
   have hown2 := hD.drew
   have hdr : ∀ ty, ∃ w', (Builtin.delete_ #[152, 3] ty #[.map (some X.mb), .int .i64 (fj : Int)]).run Tryz.prog wr.drew = .ok (.tuple #[]) w' /\ w'.ownsMap Tryz.prog 3 heldElem X.mb X.ts.length (D.del (.int .i64 (fj : Int))) /\ wr.drew.mapTurned w' X.mb := fun ty =>
    hown2.drop keyInt Tryz.underlying152 (keyOf_int_mk Tryz.underlying3 (a := (fj : Int)) (by simp [Lit.wf, IntKind.min, IntKind.max, IntKind.signed, IntKind.bits]; omega)) ty
   obtain ⟨w3, hrun, hown3, hturn3⟩ := hdr 0
   have hT3 : Turn (fun b => b = X.mb) wr w3 := (Turn.refl _ wr).drew.trans (Turn.map hturn3 rfl)
   have k6' := hT3.cell k6 (fun e => hbm e)
   have l6' := hT3.cell l6 hlm
   have HST : Hid (StoreOf w3 B F sv lv dv (R.set ix (X.forget f (j + 1))) ls ops fl ah kn) := by
    have hU : ∀ b cur, wr.heap[b]? = some (.cells cur 146 (0, 0)) -> ¬ (b = X.mb) := fun b cur hc e => map_ne hc hD e
    have hx' : StkAt w3 F (X.forget f (j + 1)) := by
     refine ⟨?_, ⟨D.del (.int .i64 (fj : Int)), ?_, ?_⟩, hxj.fb, hxj.fm⟩
     ·have h1 := hT3.ref hkb (fun e => hbm e)
      have e : (X.forget f (j + 1)).row = (X.forget f j).row := by
       have e1 : (X.forget f (j + 1)).ts.length = X.ts.length := forgetN_len _ _ _
       have e2 : (X.forget f j).ts.length = X.ts.length := forgetN_len _ _ _
       unfold StkR.row
       rw [e1, e2]
       rfl
      rw [e]
      exact h1
     ·have e : (X.forget f (j + 1)).ts.length = X.ts.length := forgetN_len _ _ _
      rw [e]
      exact hown3
     ·have h1 := (hK.turn' hT3 hU).del (hown2.tidy keyInt) fj
      have e : (X.forget f (j + 1)).ts = ((X.forget f j).ts).modify fj dropT := by
       show forgetN X.ts f (j + 1) = _
       rw [forgetN, HFJ.out]
       rfl
      rw [e]
      exact h1
    have h := HS.out.setStk ix (by simpa using hix) (X.forget f (j + 1)) (by simp [StkR.forget]) (by simp [StkR.forget]) (by simpa [StkR.forget] using hT3.mono (fun b _ e => .inr e)) hx'
    rw [set_set] at h
    exact h
   have HT3 : Hid (Turn (fun b => b = X.mb) w1 w3) := HT.out.trans hT3
   have hbr : X.blk < wr.heap.size := lG wr _ k6
   clear hxj hkb hD hK hown2 hown3 hturn3 hT3 hfj hdr
   generalize X.blk = blk at *
   generalize X.mb = mb at *
   go_wp2_with fail
   go_region_held3 (fun w' => w'.cell? ⟨blk, 6, none⟩ = some (.map (some mb)) /\ w'.cell? ⟨w.heap.size, 6, none⟩ = some (.int .i64 (f : Int)))
    (first | exact ⟨k6, l6⟩ | exact ⟨k6', l6'⟩) (fail)
   clear k6 l6 k6' l6' hrun
   go_wp2
   go_roundw
   case rel => exact ⟨j + 1, by omega, by go_num, HST.out, HT3.out⟩
   case measure => simp [intOf]; omega
  ·obtain rfl : j = c := by omega
   have HTf : Hid (Turn (fun b => b = X.mb) w wr) := (Turn.of_ext HX1.out).trans HT.out
   clear hxj
   go_wp2
   go_end0
   exact ⟨rfl, HS.out, HTf.out⟩
end
end
end Go.Proofs.YtmnjhhachdlmkaaGreat
