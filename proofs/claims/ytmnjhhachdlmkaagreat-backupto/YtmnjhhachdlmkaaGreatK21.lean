import Derived.Test.YtmnjhhachdlmkaaGreatK20
import Derived.Test.YtmnjhhachdlmkaaGreatK17
import Derived.Test.YtmnjhhachdlmkaaGreatK18
import Derived.Test.YtmnjhhachdlmkaaGreatK09
namespace Go.Proofs.YtmnjhhachdlmkaaGreat
set_option linter.unusedVariables false
set_option linter.unusedSimpArgs false
open Value renaming ownBlock -> lH
-- VSr
section
open Go.RowKit Go.Maps
structure RunS (w : World) (P : Nat) (G : Nat -> Prop) (d : DS) (fs : List FileV) : Prop where
 ex : ∃ B F fv, RunAt w P B fv /\ DealX w B F d /\ FileRow w 0 fv fs /\ ¬ F P /\ (∀ q, fv.ownBlock = some q -> ¬ F q /\ G q /\ q ≠ P) /\ (∀ b, F b -> G b)
 own : G P
 lt : ∀ b, G b -> b < w.heap.size
theorem RunS.turn {w w' : World} {P : Nat} {G X : Nat -> Prop} {d : DS} {fs : List FileV} (h : RunS w P G d fs) (ht : Turn X w w') (hx : ∀ b, G b -> ¬ X b) : RunS w' P G d fs := by
 obtain ⟨⟨B, F, fv, h1, h2, h3, h4, h5, h6⟩, h7, h8⟩ := h
 exact ⟨⟨B, F, fv, ht.ref h1 (hx P h7), h2.turn ht (fun b hb => hx b (h6 b hb)), ht.owns h3 (fun q hq => hx q (h5 q hq).2.1), h4, h5, h6⟩, h7, fun b hb => Nat.lt_of_lt_of_le (h8 b hb) ht.size⟩
theorem RunS.ext {w w' : World} {P : Nat} {G : Nat -> Prop} {d : DS} {fs : List FileV} (h : RunS w P G d fs) (hx : Ext w w') : RunS w' P G d fs := h.turn (X := fun _ => False) (Turn.of_ext hx) (fun _ _ => id)
structure StepR (d' : DS) (fs' : List FileV) (zs : List Int) (w w' : World) (P : Nat) (G G' : Nat -> Prop) (rv : Value) : Prop where
 run : RunS w' P G' d' fs'
 turn : Turn G w w'
 grows : ∀ b, G' b -> G b \/ w.heap.size <= b
 row : w'.ownsRow w.heap.size 146 1 rv zs.length (zs.map (Value.int .u64))
 free : ∀ b, rv.ownBlock = some b -> ¬ G' b
def StepRP (p : Rep × DS × List FileV) (w w' : World) (P : Nat) (G : Nat -> Prop) (e : Ending) : Prop :=
 ∃ ra rl rc G', e = .returned (.tuple #[replyV p.1.c p.1.f p.1.n (.slice ra rl rc), .bool true]) /\ p.1.zs.length <= 100000000 /\ StepR p.2.1 p.2.2 p.1.zs w w' P G G' (.slice ra rl rc)
theorem stepR_plain {w w' : World} {P B : Nat} {fv : Value} {F G : Nat -> Prop} {d : DS} {fs : List FileV} {p : Rep × DS} {e : Ending} (hr : RunAt w P B fv) (hd : DealX w B F d) (hf : FileRow w 0 fv fs) (h4 : ¬ F P) (h5 : ∀ q, fv.ownBlock = some q -> ¬ F q /\ G q /\ q ≠ P) (h6 : ∀ b, F b -> G b) (h7 : G P) (h8 : ∀ b, G b -> b < w.heap.size) (h : StepPost p w w' P fv F e) : StepRP (p.1, p.2, fs) w w' P G e := by
 obtain ⟨ra, rl, rc, F', he, hz, hx⟩ := h
 obtain ⟨B', h1, h2⟩ := hx.run
 have hPl := h8 P h7
 have hPF : ¬ F' P := fun hf => (hx.grows P hf).elim h4 (fun h => by omega)
 refine ⟨ra, rl, rc, fun b => F' b \/ b = P \/ fv.ownBlock = some b, he, hz, ⟨⟨⟨B', F', fv, h1, h2, hx.turn.owns hf (fun q hq => (h5 q hq).1), hPF, fun q hq => ⟨fun hf' => ?_, .inr (.inr hq), (h5 q hq).2.2⟩, fun b hb => .inl hb⟩, .inr (.inl rfl), fun b hb => ?_⟩, hx.turn.mono (fun b _ hb => h6 b hb), fun b hb => ?_, hx.row, fun b hb hg => ?_⟩⟩
 ·have h9 := h8 q (h5 q hq).2.1
  exact (hx.grows q hf').elim (h5 q hq).1 (fun h => by omega)
 ·have hs := hx.turn.size
  rcases hb with hb | hb | hb
  ·exact h2.lt b hb
  ·omega
  ·have := h8 b (h5 b hb).2.1; omega
 ·rcases hb with hb | hb | hb
  ·exact (hx.grows b hb).imp (h6 b) id
  ·subst hb; exact .inl h7
  ·exact .inl (h5 b hb).2.1
 ·have h9 := (World.ownsRow.lt hx.row b hb).1
  rcases hg with hg | hg | hg
  ·exact hx.free b hb hg
  ·omega
  ·have := h8 b (h5 b hg).2.1; omega
end
-- VS6
section
set_option maxRecDepth 100000
set_option maxHeartbeats 6400000
open Go.RowKit Go.Maps
theorem six_no {w W w2 V : World} {P B rb : Nat} {fv : Value} {F F' G : Nat -> Prop} {d' : DS} {fs : List FileV} (hX : Ext w W) (hf : FileRow w 0 fv fs) (h4 : ¬ F P) (h5 : ∀ q, fv.ownBlock = some q -> ¬ F q /\ G q /\ q ≠ P) (h6 : ∀ b, F b -> G b) (h7 : G P) (h8 : ∀ b, G b -> b < w.heap.size) (hx : RunX d' W w2 P B fv F F') (hFr : ¬ F rb) (hrb : w.heap.size <= rb) (hrW : rb < W.heap.size) (hV : Turn (fun b => b = rb) w2 V) : StepR d' fs [] w V P G (fun b => F' b \/ b = P \/ fv.ownBlock = some b) (.slice none 0 0) := by
 have hPl := h8 P h7
 have hl := hX.le
 have hs2 := hx.turn.size
 have hsV := hV.size
 have hPF : ¬ F' P := fun hf => (hx.grows P hf).elim h4 (fun h => by omega)
 have hrF : ¬ F' rb := fun hf => (hx.grows rb hf).elim hFr (fun h => by omega)
 have hd := hx.deal.turn hV (fun b hb e => hrF (e ▸ hb))
 refine ⟨⟨⟨B, F', fv, hV.ref hx.run (by omega), hd, hV.owns (hx.turn.owns (hX.owns hf) (fun q hq => (h5 q hq).1)) (fun q hq e => by have := h8 q (h5 q hq).2.1; omega), hPF, fun q hq => ⟨fun hf' => ?_, .inr (.inr hq), (h5 q hq).2.2⟩, fun b hb => .inl hb⟩, .inr (.inl rfl), fun b hb => ?_⟩, ((Turn.of_ext hX).trans (hx.turn.mono (fun b _ hb => h6 b hb))).trans' hV (fun b hb e => by omega), fun b hb => ?_, World.ownsRow_nil _ _ _ _, fun b hb => by simp [lH] at hb⟩
 ·have h9 := h8 q (h5 q hq).2.1
  exact (hx.grows q hf').elim (h5 q hq).1 (fun h => by omega)
 ·rcases hb with hb | hb | hb
  ·exact hd.lt b hb
  ·omega
  ·have := h8 b (h5 b hb).2.1; omega
 ·rcases hb with hb | hb | hb
  ·exact (hx.grows b hb).imp (h6 b) (fun h => by omega)
  ·subst hb; exact .inl h7
  ·exact .inl (h5 b hb).2.1
theorem six_yes {w W w2 w3 V : World} {P B B' rb : Nat} {fv fv' : Value} {F F' F'' G : Nat -> Prop} {d' : DS} {fs : List FileV} (hX : Ext w W) (h6 : ∀ b, F b -> G b) (h7 : G P) (h8 : ∀ b, G b -> b < w.heap.size) (hx : RunX d' W w2 P B fv F F') (ha : AgainX d' fs w2 w3 P B' F'' fv') (hrb : w.heap.size <= rb) (hrW : rb < W.heap.size) (hV : Turn (fun b => b = rb) w3 V) : StepR (DS.restart (fileB (doneS fs d'.ops))) (doneS fs d'.ops) [] w V P G (fun b => F'' b \/ b = P \/ fv'.ownBlock = some b) (.slice none 0 0) := by
 have hPl := h8 P h7
 have hl := hX.le
 have hs2 := hx.turn.size
 have hs3 := ha.turn.size
 have hsV := hV.size
 have hd := ha.deal.turn hV (fun b hb e => by have := ha.new b hb; omega)
 have hbl : ∀ q, fv'.ownBlock = some q -> w2.heap.size <= q /\ q < w3.heap.size := fun q hq => World.ownsRow.lt ha.row q hq
 refine ⟨⟨⟨B', F'', fv', hV.ref ha.run (by omega), hd, hV.owns (owns_base ha.row (Nat.zero_le _)) (fun q hq e => by have := hbl q hq; omega), fun hf => by have := ha.new P hf; omega, fun q hq => ⟨ha.free q hq, .inr (.inr hq), by have := hbl q hq; omega⟩, fun b hb => .inl hb⟩, .inr (.inl rfl), fun b hb => ?_⟩, (((Turn.of_ext hX).trans (hx.turn.mono (fun b _ hb => h6 b hb))).trans' ha.turn (fun b hb e => by subst e; exact h7)).trans' hV (fun b hb e => by omega), fun b hb => ?_, World.ownsRow_nil _ _ _ _, fun b hb => by simp [lH] at hb⟩
 ·rcases hb with hb | hb | hb
  ·exact hd.lt b hb
  ·omega
  ·have := hbl b hb; omega
 ·rcases hb with hb | hb | hb
  ·have := ha.new b hb; exact .inr (by omega)
  ·subst hb; exact .inl h7
  ·have := hbl b hb; exact .inr (by omega)
theorem step6_x {P N : Nat} {G : Nat -> Prop} {d : DS} {fs : List FileV} (kd a b c n : Int) (dr : Value) (D : List Int) (hk : pickN kd 7 = 6) (h1 : inI kd) (hrun : RunOk d fs N) (hN : N <= 155000) (w : World) (hs : RunS w P G d fs) :
  Calls Tryz.prog 14 #[.pointer (some ⟨P, 0, none⟩), stepV kd a b c n dr] w fun e w' => StepRP (stepR d fs kd a b c n D) w w' P G e := by
 obtain ⟨⟨B, F, fv, hr, hd, hf, h4, h5, h6⟩, h7, h8⟩ := hs
 obtain ⟨g1, g2, g3, g4⟩ := settle_ok hrun (by omega)
 have hops := hrun.ops
 have HK : Hid _ := fun w => pick_c kd 7 (by decide) (by decide) h1.1 h1.2 w
 rw [hk] at HK
 have HSe : Hid (∀ w', Ext w w' -> _) := fun w' hx => settled_x hrun.good (by omega) w' (hx.block hr) (hd.ext hx) h4
 have HStep : Hid (stepR d fs kd a b c n D = (⟨0, 0, 0, []⟩, if d.settle.1 = true then (DS.restart (fileB (doneS fs d.settle.2.ops)), doneS fs d.settle.2.ops) else (d.settle.2, fs))) := by
  show _ = _
  unfold stepR
  rw [if_pos hk]
 obtain ⟨M, hM1, hM2⟩ := g3
 have HAg : Hid (∀ (w' : World) (F' : Nat -> Prop), RunAt w' P B fv -> DealX w' B F' d.settle.2 -> FileRow w' 0 fv fs -> _) := fun w' F' a1 a2 a3 => again_x (by omega) (by omega) hM1 (by omega) w' a1 a2 a3
 have HAll : Hid (FileRow w 0 fv fs /\ (¬ F P) /\ (∀ q, fv.ownBlock = some q -> ¬ F q /\ G q /\ q ≠ P) /\ (∀ b, F b -> G b) /\ G P /\ ∀ b, G b -> b < w.heap.size) := ⟨hf, h4, h5, h6, h7, h8⟩
 have hPl : P < w.heap.size := h8 P h7
 have HD : Hid (DealX w B F d) := hd
 generalize d.settle = st at *
 obtain ⟨sb1, d1⟩ := st
 simp only at *
 unfold stepV
 clear h1 hr hd hf h4 h5 h6 h7 h8 g1 g2 g4 hM1 hM2 hrun hops hk
 go_enter Tryz.func14, Tryz.ntmps14
 go_wp2_with fail
 refine (HK.out _).mono ?_
 rintro e w1 ⟨rfl, rfl⟩
 go_wp2_with fail
 have hrr := heap_alloc_new (w.alloc (.cells #[.int .i64 kd, .int .i64 a, .int .i64 b, .int .i64 c, .int .i64 n, dr] 37)) (.cells #[.int .i64 0, .int .i64 0, .int .i64 0, .slice none 0 0] 33)
 have hsz : (w.alloc (.cells #[.int .i64 kd, .int .i64 a, .int .i64 b, .int .i64 c, .int .i64 n, dr] 37)).heap.size = w.heap.size + 1 := by show (w.heap.push _).size = _; exact Array.size_push ..
 rw [hsz] at hrr
 have hX := ((Ext.refl w).alloc (.cells #[.int .i64 kd, .int .i64 a, .int .i64 b, .int .i64 c, .int .i64 n, dr] 37)).alloc (.cells #[.int .i64 0, .int .i64 0, .int .i64 0, .slice none 0 0] 33)
 generalize World.alloc (World.alloc w _) _ = W at hrr hX ⊢
 obtain ⟨sb, hsb⟩ : ∃ sb, w.heap.size = sb := ⟨_, rfl⟩
 obtain ⟨rb, hrb⟩ : ∃ rb, w.heap.size + 1 = rb := ⟨_, rfl⟩
 rw [hrb] at hrr ⊢
 rw [hsb]
 have HRR : Hid _ := hrr
 have HX : Hid (Ext w W) := hX
 have HFR : Hid (¬ F rb /\ w.heap.size <= rb) := ⟨fun hf => by have := HD.out.lt rb hf; omega, by omega⟩
 have HFS2 : Hid (rb < W.heap.size) := (Array.getElem?_eq_some_iff.1 HRR.out).1
 clear hrr hX hsz hsb hrb hPl
 refine (HSe.out _ HX.out).mono ?_
 rintro e w2 ⟨rfl, F', hx⟩
 have HRX : Hid (RunX d1 W w2 P B fv F F') := hx
 have hrr2 := hx.turn.ref HRR.out HFR.out.1
 clear hx
 cases sb1
 ·have HRR2 : Hid _ := hrr2
  have r0 := (cell_of_row w2 _ 0 _ _ _ hrr2).trans (show _ = some (.int .i64 0) from rfl)
  have r1 := (cell_of_row w2 _ 1 _ _ _ hrr2).trans (show _ = some (.int .i64 0) from rfl)
  have r2 := (cell_of_row w2 _ 2 _ _ _ hrr2).trans (show _ = some (.int .i64 0) from rfl)
  have r3 := (cell_of_row w2 _ 3 _ _ _ hrr2).trans (show _ = some (.slice none 0 0) from rfl)
  have f0 := frozen_row hrr2 0
  have f1 := frozen_row hrr2 1
  have f2 := frozen_row hrr2 2
  have f3 := frozen_row hrr2 3
  clear hrr2
  go_wp2
  obtain ⟨hv, hVT⟩ := four_end HRR2.out (.int .i64 0) (.int .i64 0) (.int .i64 0) (.slice none 0 0)
  generalize World.setCell _ _ _ = V at hv hVT ⊢
  have v0 := (cell_of_row V _ 0 _ _ _ hv).trans (show _ = some (.int .i64 0) from rfl)
  have v1 := (cell_of_row V _ 1 _ _ _ hv).trans (show _ = some (.int .i64 0) from rfl)
  have v2 := (cell_of_row V _ 2 _ _ _ hv).trans (show _ = some (.int .i64 0) from rfl)
  have v3 := (cell_of_row V _ 3 _ _ _ hv).trans (show _ = some (.slice none 0 0) from rfl)
  obtain ⟨a1, a2, a3, a4, a5, a6⟩ := HAll.out
  have hst := six_no HX.out a1 a2 a3 a4 a5 a6 HRX.out HFR.out.1 HFR.out.2 HFS2.out hVT
  rw [HStep.out]
  clear hv r0 r1 r2 r3 f0 f1 f2 f3
  refine bodyPost_ret (v := .tuple #[.agg #[.int .i64 0, .int .i64 0, .int .i64 0, .slice none 0 0], .bool true]) ?_ rfl ⟨none, 0, 0, _, rfl, by simp, hst⟩
  simp [results, Tryz.results14, go_sem, v0, v1, v2, v3]
 ·have hFW : FileRow w2 0 fv fs := HRX.out.turn.owns (HX.out.owns HAll.out.1) (fun q hq => (HAll.out.2.2.1 q hq).1)
  have HFW : Hid (FileRow w2 0 fv fs) := hFW
  have HRRw : Hid _ := hrr2
  clear hFW hrr2
  go_wp2_with fail
  refine (HAg.out _ _ HRX.out.run HRX.out.deal HFW.out).mono ?_
  rintro e w3 ⟨rfl, B', F'', fv', ha⟩
  have HA3 : Hid (AgainX d1 fs w2 w3 P B' F'' fv') := ha
  have hrr3 := ha.turn.ref HRRw.out (by have := HAll.out.2.2.2.2.2 P HAll.out.2.2.2.2.1; have := HFR.out.2; omega)
  have HRR2 : Hid _ := hrr3
  have r0 := (cell_of_row w3 _ 0 _ _ _ hrr3).trans (show _ = some (.int .i64 0) from rfl)
  have r1 := (cell_of_row w3 _ 1 _ _ _ hrr3).trans (show _ = some (.int .i64 0) from rfl)
  have r2 := (cell_of_row w3 _ 2 _ _ _ hrr3).trans (show _ = some (.int .i64 0) from rfl)
  have r3 := (cell_of_row w3 _ 3 _ _ _ hrr3).trans (show _ = some (.slice none 0 0) from rfl)
  have f0 := frozen_row hrr3 0
  have f1 := frozen_row hrr3 1
  have f2 := frozen_row hrr3 2
  have f3 := frozen_row hrr3 3
  clear hrr3 ha
  go_wp2
  obtain ⟨hv, hVT⟩ := four_end HRR2.out (.int .i64 0) (.int .i64 0) (.int .i64 0) (.slice none 0 0)
  generalize World.setCell _ _ _ = V at hv hVT ⊢
  have v0 := (cell_of_row V _ 0 _ _ _ hv).trans (show _ = some (.int .i64 0) from rfl)
  have v1 := (cell_of_row V _ 1 _ _ _ hv).trans (show _ = some (.int .i64 0) from rfl)
  have v2 := (cell_of_row V _ 2 _ _ _ hv).trans (show _ = some (.int .i64 0) from rfl)
  have v3 := (cell_of_row V _ 3 _ _ _ hv).trans (show _ = some (.slice none 0 0) from rfl)
  obtain ⟨a1, a2, a3, a4, a5, a6⟩ := HAll.out
  have hst := six_yes HX.out a4 a5 a6 HRX.out HA3.out HFR.out.2 HFS2.out hVT
  rw [HStep.out]
  clear hv r0 r1 r2 r3 f0 f1 f2 f3
  refine bodyPost_ret (v := .tuple #[.agg #[.int .i64 0, .int .i64 0, .int .i64 0, .slice none 0 0], .bool true]) ?_ rfl ⟨none, 0, 0, _, rfl, by simp, hst⟩
  simp [results, Tryz.results14, go_sem, v0, v1, v2, v3]
theorem stepR_x {P N : Nat} {G : Nat -> Prop} {d : DS} {fs : List FileV} (kd a b c n : Int) (ra : Option Addr) (rl rcap : Nat) (D : List Int) (h1 : inI kd) (h2 : inI a) (h3 : inI b) (h4 : inI c) (h5 : inI n) (hdl : D.length = rl) (hrm : rl <= 100000000000000) (hrun : RunOk d fs N) (hN : N <= 155000) (w : World) (hs : RunS w P G d fs) (hdw : DrawsAt w ra rl D) :
  Calls Tryz.prog 14 #[.pointer (some ⟨P, 0, none⟩), stepV kd a b c n (.slice ra rl rcap)] w fun e w' => StepRP (stepR d fs kd a b c n D) w w' P G e := by
 by_cases hk : pickN kd 7 = 6
 ·exact step6_x kd a b c n _ D hk h1 hrun hN w hs
 ·obtain ⟨⟨B, F, fv, hr, hd, hf, a4, a5, a6⟩, a7, a8⟩ := hs
  have e : stepR d fs kd a b c n D = ((stepS d kd a b c n D).1, (stepS d kd a b c n D).2, fs) := by unfold stepR; rw [if_neg hk]
  rw [e]
  have hops := hrun.ops
  refine (step_x kd a b c n ra rl rcap D hk h1 h2 h3 h4 h5 hdl hrm hrun.good (by omega) w hr hd a4 hdw).mono ?_
  intro e w' h
  exact stepR_plain hr hd hf a4 a5 a6 a7 a8 h
end
-- VRu
section
open Go.RowKit Go.Maps
structure RunsOf (w wr : World) (P j : Nat) (d : DS) (fs : List FileV) (G : Nat -> Prop) : Prop where
 run : RunS wr P G d fs
 ok : RunOk d fs j
 keep : Keep4 d
 new : ∀ b, G b -> w.heap.size <= b
 turn : Turn (fun b => w.heap.size <= b) w wr
theorem runs_began {w w1 : World} {P B : Nat} (h1 : RunAt w1 P B (.slice none 0 0)) (h2 : DealX w1 B (fun b => b = B) DS.opened) (h3 : w.heap.size <= P) (h4 : w.heap.size <= B) (h5 : P ≠ B) (hx : Ext w w1) : RunsOf w w1 P 0 DS.opened [] (fun b => b = P \/ b = B) := by
 refine ⟨⟨⟨B, fun b => b = B, .slice none 0 0, h1, h2, World.ownsRow_nil _ _ _ _, h5, fun q hq => by simp [lH] at hq, fun b hb => .inr hb⟩, .inl rfl, fun b hb => ?_⟩, runOk_opened, ⟨by simp [DS.opened], by simp [DS.opened]⟩, fun b hb => ?_, Turn.of_ext hx⟩
 ·rcases hb with rfl | rfl
  ·exact (Array.getElem?_eq_some_iff.1 h1).1
  ·exact h2.lt b rfl
 ·rcases hb with rfl | rfl
  ·exact h3
  ·exact h4
theorem RunsOf.ext {w wr w' : World} {P j : Nat} {d : DS} {fs : List FileV} {G : Nat -> Prop} (h : RunsOf w wr P j d fs G) (hx : Ext wr w') : RunsOf w w' P j d fs G := ⟨h.run.ext hx, h.ok, h.keep, h.new, h.turn.trans (Turn.of_ext hx)⟩
theorem RunsOf.next {w wr w' : World} {P j : Nat} {d d' : DS} {fs fs' : List FileV} {G G' : Nat -> Prop} {zs : List Int} {rv : Value} (h : RunsOf w wr P j d fs G) (hs : StepR d' fs' zs wr w' P G G' rv) (ho : RunOk d' fs' (j + 1)) (hk : Keep4 d') : RunsOf w w' P (j + 1) d' fs' G' :=
 ⟨hs.run, ho, hk, fun b hb => (hs.grows b hb).elim (h.new b) (fun h' => Nat.le_trans h.turn.size h'), h.turn.trans' hs.turn (fun b _ hb => h.new b hb)⟩
structure StepAt (w : World) (b off : Nat) (kd a b' c n : Int) (ra : Option Addr) (rl rcap : Nat) (D : List Int) : Prop where
 s0 : w.cell? ⟨b, off, none⟩ = some (.int .i64 kd)
 s1 : w.cell? ⟨b, off + 1, none⟩ = some (.int .i64 a)
 s2 : w.cell? ⟨b, off + 2, none⟩ = some (.int .i64 b')
 s3 : w.cell? ⟨b, off + 3, none⟩ = some (.int .i64 c)
 s4 : w.cell? ⟨b, off + 4, none⟩ = some (.int .i64 n)
 s5 : w.cell? ⟨b, off + 5, none⟩ = some (.slice ra rl rcap)
 i1 : inI kd
 i2 : inI a
 i3 : inI b'
 i4 : inI c
 i5 : inI n
 len : D.length = rl
 le : rl <= 100000000
 dw : DrawsAt w ra rl D
theorem StepAt.turn {w w' : World} {b off : Nat} {kd a b' c n : Int} {ra : Option Addr} {rl rcap : Nat} {D : List Int} {N0 : Nat} (h : StepAt w b off kd a b' c n ra rl rcap D) (ht : Turn (fun b => N0 <= b) w w') (hb : b < N0) (hd : ∀ b off, rl ≠ 0 /\ ra = some ⟨b, off, none⟩ -> b < N0) : StepAt w' b off kd a b' c n ra rl rcap D :=
 have k : ∀ {i v}, w.cell? ⟨b, i, none⟩ = some v -> w'.cell? ⟨b, i, none⟩ = some v := fun hc => ht.cell hc (fun hl => by simp only at hl; omega)
 ⟨k h.s0, k h.s1, k h.s2, k h.s3, k h.s4, k h.s5, h.i1, h.i2, h.i3, h.i4, h.i5, h.len, h.le, h.dw.turn ht (fun b off e hl => by have := hd b off e; omega)⟩
theorem script_at {w wr : World} {N0 n j : Nat} {sa : Option Addr} (h : KScriptAt w N0 sa n) (ht : Turn (fun b => N0 <= b) w wr) (hj : j < n) : ∃ b off, sa = some ⟨b, off, none⟩ /\ b < N0 /\ ∃ kd a b' c n' ra rl rcap D, StepAt wr b (off + j * 6) kd a b' c n' ra rl rcap D /\ ∀ b off, rl ≠ 0 /\ ra = some ⟨b, off, none⟩ -> b < N0 := by
 obtain ⟨b, off, rfl, hb, hcs⟩ := (h.turn ht).resolve_left (by omega)
 obtain ⟨cs, ⟨kd, a, b', c, n', ra, rl, rcap, D, rfl, i1, i2, i3, i4, i5, hDl, hrl, hdw, hbo⟩, hcell⟩ := hcs j hj
 exact ⟨b, off, rfl, hb, kd, a, b', c, n', ra, rl, rcap, D, ⟨hcell 0 _ rfl, hcell 1 _ rfl, hcell 2 _ rfl, hcell 3 _ rfl, hcell 4 _ rfl, hcell 5 _ rfl, i1, i2, i3, i4, i5, hDl, hrl, hdw⟩, hbo⟩
end
-- VWc
section
open Go.RowKit Go.Maps
def strK (k : UInt8) (r : List UInt8) : ByteArray := ⟨(k :: r).toArray⟩
theorem strK_size (k : UInt8) (r : List UInt8) : (strK k r).size = r.length + 1 := by simp [strK, ByteArray.size]
theorem strK_head (k : UInt8) (r : List UInt8) (h : 0 < (strK k r).size) : ((strK k r)[0]).toNat = k.toNat := by rfl
theorem strK_rest (k : UInt8) (r : List UInt8) : ((strK k r).extract 1 (strK k r).size).data.toList = r := by
 have h := ext_hi (strK k r) 1
 rw [h]
 simp [strK]
theorem flatB_len (vals : Nat -> Nat) (L : List (Nat × Int × Int)) : (flatB vals L).length <= (L.map fun x => x.2.1.toNat).sum := by
 induction L with
 | nil => simp [flatB]
 | cons x t ih =>
  have e : flatB vals (x :: t) = bytesOf (vals x.1) x.2.1.toNat ++ flatB vals t := by simp [flatB]
  rw [e, List.length_append, len_bytesOf, List.map_cons, List.sum_cons]
  omega
theorem maxLen_big : 1000 <= maxLen := by decide
theorem write_1 (s i ck cm cl cn c : Nat) (h_s : s <= 2147483647) (h_i : i <= 2147483647) (h_c : c <= 2147483647) (h_ck : ck <= 255) (h_cm : cm <= 255) (h_cl : cl <= 255) (h_cn : cn <= 255) : ∃ str, OwnK str 1 (s : Int) (i : Int) (ck : Int) (cm : Int) (cl : Int) (cn : Int) 0 (c : Int) 0 := by
 have hd := decTo_enc (fun j => ([s, i, ck, cm, cl, cn, c] : List Nat).getD j 0) leaseL (by
  intro x hx
  simp only [leaseL, List.mem_cons, List.not_mem_nil, or_false] at hx
  rcases hx with rfl | rfl | rfl | rfl | rfl | rfl | rfl <;> simp <;> omega)
 have hl := flatB_len (fun j => ([s, i, ck, cm, cl, cn, c] : List Nat).getD j 0) leaseL
 have hl' : (leaseL.map fun x => x.2.1.toNat).sum <= 100 := by decide
 have := maxLen_big
 refine ⟨strK 1 (flatB (fun j => ([s, i, ck, cm, cl, cn, c] : List Nat).getD j 0) leaseL), own_1 _ (by rw [strK_size]; omega) (by rw [strK_size]; omega) (strK_head _ _ _) s i ck cm cl cn c ?_⟩
 rw [strK_rest, hd]
 rfl
theorem write_2 (s ck cm cl cn f c p : Nat) (h_s : s <= 2147483647) (h_f : f <= 2147483647) (h_c : c <= 2147483647) (h_ck : ck <= 255) (h_cm : cm <= 255) (h_cl : cl <= 255) (h_cn : cn <= 255) (h_p : p <= 255) : ∃ str, OwnK str 2 (s : Int) 0 (ck : Int) (cm : Int) (cl : Int) (cn : Int) (f : Int) (c : Int) (p : Int) := by
 have hd := decTo_enc (fun j => ([s, ck, cm, cl, cn, f, c, p] : List Nat).getD j 0) fetchL (by
  intro x hx
  simp only [fetchL, List.mem_cons, List.not_mem_nil, or_false] at hx
  rcases hx with rfl | rfl | rfl | rfl | rfl | rfl | rfl | rfl <;> simp <;> omega)
 have hl := flatB_len (fun j => ([s, ck, cm, cl, cn, f, c, p] : List Nat).getD j 0) fetchL
 have hl' : (fetchL.map fun x => x.2.1.toNat).sum <= 100 := by decide
 have := maxLen_big
 refine ⟨strK 2 (flatB (fun j => ([s, ck, cm, cl, cn, f, c, p] : List Nat).getD j 0) fetchL), own_2 _ (by rw [strK_size]; omega) (by rw [strK_size]; omega) (strK_head _ _ _) s ck cm cl cn f c p ?_⟩
 rw [strK_rest, hd]
 rfl
theorem write_3 (s i : Nat) (h_s : s <= 2147483647) (h_i : i <= 2147483647) : ∃ str, OwnK str 3 (s : Int) (i : Int) 0 0 0 0 0 0 0 := by
 have hd := decTo_enc (fun j => ([s, i] : List Nat).getD j 0) releaseL (by
  intro x hx
  simp only [releaseL, List.mem_cons, List.not_mem_nil, or_false] at hx
  rcases hx with rfl | rfl <;> simp <;> omega)
 have hl := flatB_len (fun j => ([s, i] : List Nat).getD j 0) releaseL
 have hl' : (releaseL.map fun x => x.2.1.toNat).sum <= 100 := by decide
 have := maxLen_big
 refine ⟨strK 3 (flatB (fun j => ([s, i] : List Nat).getD j 0) releaseL), own_3 _ (by rw [strK_size]; omega) (by rw [strK_size]; omega) (strK_head _ _ _) s i ?_⟩
 rw [strK_rest, hd]
 rfl
theorem clsK_byte (c : Int) : (clsK c).1 <= 255 /\ (clsK c).2.1 <= 255 /\ (clsK c).2.2.1 <= 255 /\ (clsK c).2.2.2 <= 255 := by
 unfold clsK
 have h := pickN_lt c (show 0 < 8 by decide)
 generalize pickN c 8 = q at h
 obtain rfl | rfl | rfl | rfl | rfl | rfl | rfl | rfl : q = 0 \/ q = 1 \/ q = 2 \/ q = 3 \/ q = 4 \/ q = 5 \/ q = 6 \/ q = 7 := by omega
 all_goals decide
theorem write_req (kd a b c n : Int) : ∃ str kk s i kd' m k n' f cc p, reqOf kd a b c n = reqV kk s i kd' m k n' f cc p /\ OwnK str kk s i kd' m k n' f cc p := by
 have la := pickN_lt a (show 0 < 3 by decide)
 have lb := pickN_lt b (show 0 < 4 by decide)
 have lf := pickN_lt b (show 0 < 12 by decide)
 have ln := pickN_lt n (show 0 < 6 by decide)
 have lp := pickN_lt (Int.tdiv a 3) (show 0 < 3 by decide)
 have hq := clsK_byte (pickN c 4)
 unfold reqOf
 dsimp only
 split
 ·obtain ⟨str, h⟩ := write_1 (1 + pickN a 3) (pickN b 4) _ _ _ _ (pickN n 6) (by omega) (by omega) (by omega) hq.1 hq.2.1 hq.2.2.1 hq.2.2.2
  exact ⟨str, _, _, _, _, _, _, _, _, _, _, rfl, h⟩
 ·split
  ·obtain ⟨str, h⟩ := write_3 (1 + pickN a 3) (pickN b 4) (by omega) (by omega)
   exact ⟨str, _, _, _, _, _, _, _, _, _, _, rfl, h⟩
  ·obtain ⟨str, h⟩ := write_2 (1 + pickN a 3) _ _ _ _ (pickN b 12) (pickN n 6) (pickN (Int.tdiv a 3) 3) (by omega) (by omega) (by omega) hq.1 hq.2.1 hq.2.2.1 hq.2.2.2 (by omega)
   exact ⟨str, _, _, _, _, _, _, _, _, _, _, rfl, h⟩
def natsK (zs : List Int) : List Nat := zs.map Int.toNat
theorem natsK_back {zs : List Int} (h : inU64 zs) : (natsK zs).map (fun z : Nat => Value.int .u64 (z : Int)) = zs.map (Value.int .u64) := by
 unfold natsK
 rw [List.map_map]
 apply List.map_congr_left
 intro z hz
 have := (h z hz).1
 show Value.int .u64 ((z.toNat : Nat) : Int) = Value.int .u64 z
 rw [Int.toNat_of_nonneg this]
theorem natsK_in {zs : List Int} (h : inU64 zs) : ∀ z ∈ natsK zs, z <= 18446744073709551615 := fun z hz => by
 obtain ⟨y, hy, rfl⟩ := List.mem_map.1 hz
 have := h y hy
 omega
theorem wordsK_of {w : World} {base : Nat} {ra : Option Addr} {rl rc : Nat} {zs : List Int} (h : w.ownsRow base 146 1 (.slice ra rl rc) zs.length (zs.map (Value.int .u64))) (hz : inU64 zs) (hl : zs.length <= 100000000) : WordsIn w ra rl (natsK zs) := by
 have hnl : (natsK zs).length = zs.length := by simp [natsK]
 obtain ⟨_, h2⟩ := h
 rcases h2 with ⟨e, h0⟩ | ⟨g, cap, cur, e, hb, hg, hc1, hc2, hcs, ht⟩
 ·injection e with e1 e2 e3
  subst e2
  exact ⟨by omega, by omega, natsK_in hz, .inl rfl⟩
 ·injection e with e1 e2 e3
  subst e1 e2 e3
  refine ⟨by omega, by omega, natsK_in hz, .inr ⟨g, 0, rfl, fun i hi => ?_⟩⟩
  have hrow : w.ownsRow base 146 1 (.slice (some ⟨g, 0, none⟩) zs.length rc) zs.length (zs.map (Value.int .u64)) := ⟨by simp, .inr ⟨g, rc, cur, rfl, hb, hg, hc1, hc2, hcs, ht⟩⟩
  have := World.ownsRow.cellAt hrow i (by omega)
  rw [Nat.zero_add, this, <- natsK_back hz, List.getElem?_map, List.getD_eq_getElem?_getD, List.getElem?_eq_getElem (by omega)]
  rfl
def repB (r : Rep) : ByteArray := ⟨(replyB r.c r.f r.n (natsK r.zs)).toArray⟩
theorem after_in {d : DS} {A : Ans} (hz : inU64 A.zs) (rec : ByteArray) : inU64 (d.after A rec).1.zs := by
 unfold DS.after
 split
 ·exact hz
 ·dsimp only
  split
  ·exact hz
  ·intro z h; simp at h
theorem ask_in {w : World} {B : Nat} {F : Nat -> Prop} {d : DS} (hg : d.Good) (ho : d.ops.length <= 1000000) (kk s i kd m k n f c p : Int) (h : DealX w B F d) : inU64 (d.ask kk s i kd m k n f c p).1.zs := by
 obtain ⟨R, h1, h2⟩ := h
 have hI := hg.inv
 unfold DS.ask
 obtain ⟨S, ls, ops, fl, ah, kn⟩ := d
 simp only at h1 h2 hI ho
 subst h1
 exact after_in (ask_x hI ho kk s i kd m k n f c p).1.zs _
structure LeftX (d' : DS) (w w' : World) (B : Nat) (F F' : Nat -> Prop) : Prop where
 deal : DealX w' B F' d'
 turn : Turn F w w'
 grows : ∀ b, F' b -> F b \/ w.heap.size <= b
theorem serve_x {w : World} {B : Nat} {F : Nat -> Prop} {d : DS} {str : ByteArray} {kk s i kd m k n f c p : Int} (hk : OwnK str kk s i kd m k n f c p) (hg : d.Good) (ho : d.ops.length <= 1000000) (h : DealX w B F d) :
  Calls Tryz.prog 25 #[.pointer (some ⟨B, 0, none⟩), .string str] w fun e w' => e = .returned (.string (repB (d.ask kk s i kd m k n f c p).1)) /\ ∃ F', LeftX (d.ask kk s i kd m k n f c p).2 w w' B F F' := by
 have hz := ask_in hg ho kk s i kd m k n f c p h
 have hx := fun w' (hw : Ext w w') => (ask_xd hg ho kk s i kd m k n f c p (h.ext hw)).1
 generalize d.ask kk s i kd m k n f c p = P at hz hx ⊢
 refine (serveWalk_c B str w (M := fun w1 w2 iv ec => ec = 0 /\ ∃ rb, iv = .iface (ownT kk) (.pointer (some ⟨rb, 0, none⟩)) /\ OwnQ kk s i kd m k n f c p w2 rb /\ Ext w1 w2 /\ w1.heap.size <= rb) (N := fun w2 w3 c0 f0 n0 ra rl rc zn => c0 = P.1.c /\ f0 = P.1.f /\ n0 = P.1.n /\ zn = natsK P.1.zs /\ ∃ F', XSo P w2 w3 B F (.slice ra rl rc) F') (fun w' _ => (hk.own w').mono ?_) (fun w1 w2 iv ec hx1 hm => ?_)).mono ?_
 ·rintro e w2 ⟨rb, rfl, hq, hx2, hle⟩
  exact ⟨_, _, rfl, rfl, rb, rfl, hq, hx2, hle⟩
 ·obtain ⟨rfl, rb, rfl, hq, hx2, hle⟩ := hm
  refine ((hx w1 hx1).ans w2 rb hx2 hle hq).mono ?_
  rintro e w3 ⟨ra, rl, rc, F', rfl, hl, hso⟩
  exact ⟨_, _, _, ra, rl, rc, _, rfl, ⟨rfl, rfl, rfl, rfl, F', hso⟩, wordsK_of hso.row hz hl⟩
 ·rintro e w4 ⟨w1, w2, w3, iv, ec, c0, f0, n0, ra, rl, rc, zs, rfl, hx1, ⟨_, rb, _, _, hx2, _⟩, ⟨rfl, rfl, rfl, rfl, F', hso⟩, hx4⟩
  have hx12 := hx1.trans hx2
  exact ⟨rfl, F', hso.deal.ext hx4, ((Turn.of_ext hx12).trans hso.turn).trans (Turn.of_ext hx4), fun b hb => (hso.grows b hb).imp id (fun hl => Nat.le_trans hx12.le hl)⟩
theorem serveBad_x {str : ByteArray} (hk : BadK str) (B : Nat) (w : World) :
  Calls Tryz.prog 25 #[.pointer (some ⟨B, 0, none⟩), .string str] w fun e w' => e = .returned (.string (repB ⟨1, 0, 0, []⟩)) /\ Ext w w' := by
 refine (serveWalk_c B str w (M := fun w1 w2 iv ec => ec = 1 /\ iv = .nilIface /\ Ext w1 w2) (N := fun w2 w3 c0 f0 n0 ra rl rc zn => c0 = 1 /\ f0 = 0 /\ n0 = 0 /\ zn = [] /\ Ext w2 w3) (fun w' _ => (hk.own w').mono ?_) (fun w1 w2 iv ec hx1 hm => ?_)).mono ?_
 ·rintro e w2 ⟨rfl, hx2⟩
  exact ⟨_, _, rfl, rfl, rfl, hx2⟩
 ·obtain ⟨rfl, rfl, hx2⟩ := hm
  refine (dealerBad_c B w2).mono ?_
  rintro e w3 ⟨rfl, hx3⟩
  exact ⟨1, 0, 0, none, 0, 0, [], rfl, ⟨rfl, rfl, rfl, rfl, hx3⟩, ⟨rfl, by omega, by simp, .inl rfl⟩⟩
 ·rintro e w4 ⟨w1, w2, w3, iv, ec, c0, f0, n0, ra, rl, rc, zs, rfl, hx1, ⟨_, _, hx2⟩, ⟨rfl, rfl, rfl, rfl, hx3⟩, hx4⟩
  exact ⟨rfl, ((hx1.trans hx2).trans hx3).trans hx4⟩
end
-- VSm
section
open Go.RowKit Go.Maps
end
-- VKe
section
open Go.RowKit Go.Maps
structure RepV where
 c : Int
 f : Int
 n : Int
 ra : Option Addr
 rl : Nat
 rc : Nat
 zs : List Int
def RepV.cells (y : RepV) : List Value := [.int .i64 y.c, .int .i64 y.f, .int .i64 y.n, .slice y.ra y.rl y.rc]
def repCells (ys : List RepV) : List Value := ys.flatMap RepV.cells
def DS.told (d : DS) (l : LsV) (q : Nat) : Rep := (d.ask 2 l.s 0 l.kd l.m l.k l.n l.f l.c ((q % 2 : Nat) : Int)).1
structure AskEnd (wr V : World) (B : Nat) (F F' : Nat -> Prop) (p : Rep × DS) (rb : Nat) (ra : Option Addr) (rl rc : Nat) : Prop where
 deal : DealX V B F' p.2
 turn : Turn F wr V
 grows : ∀ b, F' b -> F b \/ wr.heap.size <= b
 rep : V.heap[rb]? = some (.cells #[.int .i64 p.1.c, .int .i64 p.1.f, .int .i64 p.1.n, .slice ra rl rc] 33 (0, 0))
 new : wr.heap.size <= rb
 out : ¬ F' rb
 le : p.1.zs.length <= 100000000
 row : V.ownsRow wr.heap.size 146 1 (.slice ra rl rc) p.1.zs.length (p.1.zs.map (Value.int .u64))
 free : ∀ b, (Value.slice ra rl rc).ownBlock = some b -> ¬ F' b
theorem ask_end {wr wA w6 w7 V : World} {B : Nat} {F F' : Nat -> Prop} {p : Rep × DS} {rb : Nat} {ra : Option Addr} {rl rc : Nat} (hx : Ext wr wA) (hso : XSo p wA w6 B F (.slice ra rl rc) F') (hzs : p.1.zs.length <= 100000000) (hx7 : Ext w6 w7) (hV : Turn (fun b => b = rb) w7 V) (hv : V.heap[rb]? = some (.cells #[.int .i64 p.1.c, .int .i64 p.1.f, .int .i64 p.1.n, .slice ra rl rc] 33 (0, 0))) (hn : wr.heap.size <= rb) (hF : ¬ F' rb) (hr : rb < wA.heap.size \/ w6.heap.size <= rb) : AskEnd wr V B F F' p rb ra rl rc := by
 have hl := hx.le
 have h6 := hso.turn.size
 refine ⟨(hso.deal.ext hx7).turn hV (fun b hb e => hF (e ▸ hb)), (((Turn.of_ext hx).trans hso.turn).trans (Turn.of_ext hx7)).trans' hV (fun b hb e => by omega), fun b hb => (hso.grows b hb).imp id (fun h => by omega), hv, hn, hF, hzs, hV.owns (hx7.owns (owns_base hso.row hl)) (fun q hq e => ?_), hso.free⟩
 have := World.ownsRow.lt hso.row q hq
 omega
structure RepAt (w : World) (F : Nat -> Prop) (r : Rep) (y : RepV) : Prop where
 c : y.c = r.c
 f : y.f = r.f
 n : y.n = r.n
 zs : y.zs = r.zs
 len : y.zs.length = y.rl
 le : y.rl <= 100000000
 row : RdRow w y.ra y.rl (y.zs.map (Value.int .u64))
 own : ∀ g, y.ra = some ⟨g, 0, none⟩ -> g < w.heap.size /\ ¬ F g /\ ∃ cur, w.heap[g]? = some (.cells cur 146 (0, 0))
theorem RepAt.turn {w w' : World} {F F' X : Nat -> Prop} {r : Rep} {y : RepV} (h : RepAt w F r y) (ht : Turn X w w') (hx : ∀ b cur, X b -> w.heap[b]? = some (.cells cur 146 (0, 0)) -> F b \/ w.heap.size <= b) (hF : ∀ b, F' b -> F b \/ w.heap.size <= b) : RepAt w' F' r y := by
 have hno : ∀ g, y.ra = some ⟨g, 0, none⟩ -> ¬ X g := fun g hg hX => by
  obtain ⟨h1, h2, cur, h3⟩ := h.own g hg
  exact (hx g cur hX h3).elim h2 (fun h' => by omega)
 refine ⟨h.c, h.f, h.n, h.zs, h.len, h.le, h.row.turn ht hno, fun g hg => ?_⟩
 obtain ⟨h1, h2, cur, h3⟩ := h.own g hg
 exact ⟨Nat.lt_of_lt_of_le h1 ht.size, fun hf => (hF g hf).elim h2 (fun h' => by omega), cur, ht.ref h3 (hno g hg)⟩
structure WasX (w3 wr : World) (B : Nat) (F1 : Nat -> Prop) (d : DS) (u : Value) (ys : List RepV) (F' : Nat -> Prop) : Prop where
 deal : DealX wr B F' d
 turn : Turn F1 w3 wr
 grows : ∀ b, F' b -> F1 b \/ w3.heap.size <= b
 row : wr.ownsRow w3.heap.size 33 4 u ys.length (repCells ys)
 free : ∀ q, u.ownBlock = some q -> ¬ F' q
 reps : ∀ q (h : q < ys.length) (h' : q < d.ls.length), RepAt wr F' (d.told d.ls[q] q) ys[q]
end
end Go.Proofs.YtmnjhhachdlmkaaGreat
