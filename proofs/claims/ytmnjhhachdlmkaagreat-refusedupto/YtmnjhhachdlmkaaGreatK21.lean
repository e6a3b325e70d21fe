import Derived.Test.YtmnjhhachdlmkaaGreatK20
import Derived.Test.YtmnjhhachdlmkaaGreatK17
import Derived.Test.YtmnjhhachdlmkaaGreatK18
import Derived.Test.YtmnjhhachdlmkaaGreatK09
namespace Go.Proofs.YtmnjhhachdlmkaaGreat
set_option linter.unusedVariables false
set_option linter.unusedSimpArgs false
open Value renaming ownBlock -> lH
-- VSr
section
open Go.RowKit Go.Maps
structure RunS (w : World) (P : Nat) (G : Nat -> Prop) (d : DS) (fs : List FileV) : Prop where
 ex : ∃ B F fv, RunAt w P B fv /\ DealX w B F d /\ FileRow w 0 fv fs /\ ¬ F P /\ (∀ q, fv.ownBlock = some q -> ¬ F q /\ G q /\ q ≠ P) /\ (∀ b, F b -> G b)
 own : G P
 lt : ∀ b, G b -> b < w.heap.size
theorem RunS.turn {w w' : World} {P : Nat} {G X : Nat -> Prop} {d : DS} {fs : List FileV} (h : RunS w P G d fs) (ht : Turn X w w') (hx : ∀ b, G b -> ¬ X b) : RunS w' P G d fs := by
 obtain ⟨⟨B, F, fv, h1, h2, h3, h4, h5, h6⟩, h7, h8⟩ := h
 exact ⟨⟨B, F, fv, ht.ref h1 (hx P h7), h2.turn ht (fun b hb => hx b (h6 b hb)), ht.owns h3 (fun q hq => hx q (h5 q hq).2.1), h4, h5, h6⟩, h7, fun b hb => Nat.lt_of_lt_of_le (h8 b hb) ht.size⟩
theorem RunS.ext {w w' : World} {P : Nat} {G : Nat -> Prop} {d : DS} {fs : List FileV} (h : RunS w P G d fs) (hx : Ext w w') : RunS w' P G d fs := h.turn (X := fun _ => False) (Turn.of_ext hx) (fun _ _ => id)
structure StepR (d' : DS) (fs' : List FileV) (zs : List Int) (w w' : World) (P : Nat) (G G' : Nat -> Prop) (rv : Value) : Prop where
 run : RunS w' P G' d' fs'
 turn : Turn G w w'
 grows : ∀ b, G' b -> G b \/ w.heap.size <= b
 row : w'.ownsRow w.heap.size 146 1 rv zs.length (zs.map (Value.int .u64))
 free : ∀ b, rv.ownBlock = some b -> ¬ G' b
def StepRP (p : Rep × DS × List FileV) (w w' : World) (P : Nat) (G : Nat -> Prop) (e : Ending) : Prop :=
 ∃ ra rl rc G', e = .returned (.tuple #[replyV p.1.c p.1.f p.1.n (.slice ra rl rc), .bool true]) /\ p.1.zs.length <= 100000000 /\ StepR p.2.1 p.2.2 p.1.zs w w' P G G' (.slice ra rl rc)
theorem stepR_plain {w w' : World} {P B : Nat} {fv : Value} {F G : Nat -> Prop} {d : DS} {fs : List FileV} {p : Rep × DS} {e : Ending} (hr : RunAt w P B fv) (hd : DealX w B F d) (hf : FileRow w 0 fv fs) (h4 : ¬ F P) (h5 : ∀ q, fv.ownBlock = some q -> ¬ F q /\ G q /\ q ≠ P) (h6 : ∀ b, F b -> G b) (h7 : G P) (h8 : ∀ b, G b -> b < w.heap.size) (h : StepPost p w w' P fv F e) : StepRP (p.1, p.2, fs) w w' P G e := by
 obtain ⟨ra, rl, rc, F', he, hz, hx⟩ := h
 obtain ⟨B', h1, h2⟩ := hx.run
 have hPl := h8 P h7
 have hPF : ¬ F' P := fun hf => (hx.grows P hf).elim h4 (fun h => by omega)
 refine ⟨ra, rl, rc, fun b => F' b \/ b = P \/ fv.ownBlock = some b, he, hz, ⟨⟨⟨B', F', fv, h1, h2, hx.turn.owns hf (fun q hq => (h5 q hq).1), hPF, fun q hq => ⟨fun hf' => ?_, .inr (.inr hq), (h5 q hq).2.2⟩, fun b hb => .inl hb⟩, .inr (.inl rfl), fun b hb => ?_⟩, hx.turn.mono (fun b _ hb => h6 b hb), fun b hb => ?_, hx.row, fun b hb hg => ?_⟩⟩
 ·have h9 := h8 q (h5 q hq).2.1
  exact (hx.grows q hf').elim (h5 q hq).1 (fun h => by omega)
 ·have hs := hx.turn.size
  rcases hb with hb | hb | hb
  ·exact h2.lt b hb
  ·omega
  ·have := h8 b (h5 b hb).2.1; omega
 ·rcases hb with hb | hb | hb
  ·exact (hx.grows b hb).imp (h6 b) id
  ·subst hb; exact .inl h7
  ·exact .inl (h5 b hb).2.1
 ·have h9 := (World.ownsRow.lt hx.row b hb).1
  rcases hg with hg | hg | hg
  ·exact hx.free b hb hg
  ·omega
  ·have := h8 b (h5 b hg).2.1; omega
end
-- VS6
section
set_option maxRecDepth 100000
set_option maxHeartbeats 6400000
open Go.RowKit Go.Maps
theorem six_no {w W w2 V : World} {P B rb : Nat} {fv : Value} {F F' G : Nat -> Prop} {d' : DS} {fs : List FileV} (hX : Ext w W) (hf : FileRow w 0 fv fs) (h4 : ¬ F P) (h5 : ∀ q, fv.ownBlock = some q -> ¬ F q /\ G q /\ q ≠ P) (h6 : ∀ b, F b -> G b) (h7 : G P) (h8 : ∀ b, G b -> b < w.heap.size) (hx : RunX d' W w2 P B fv F F') (hFr : ¬ F rb) (hrb : w.heap.size <= rb) (hrW : rb < W.heap.size) (hV : Turn (fun b => b = rb) w2 V) : StepR d' fs [] w V P G (fun b => F' b \/ b = P \/ fv.ownBlock = some b) (.slice none 0 0) := by
 have hPl := h8 P h7
 have hl := hX.le
 have hs2 := hx.turn.size
 have hsV := hV.size
 have hPF : ¬ F' P := fun hf => (hx.grows P hf).elim h4 (fun h => by omega)
 have hrF : ¬ F' rb := fun hf => (hx.grows rb hf).elim hFr (fun h => by omega)
 have hd := hx.deal.turn hV (fun b hb e => hrF (e ▸ hb))
 refine ⟨⟨⟨B, F', fv, hV.ref hx.run (by omega), hd, hV.owns (hx.turn.owns (hX.owns hf) (fun q hq => (h5 q hq).1)) (fun q hq e => by have := h8 q (h5 q hq).2.1; omega), hPF, fun q hq => ⟨fun hf' => ?_, .inr (.inr hq), (h5 q hq).2.2⟩, fun b hb => .inl hb⟩, .inr (.inl rfl), fun b hb => ?_⟩, ((Turn.of_ext hX).trans (hx.turn.mono (fun b _ hb => h6 b hb))).trans' hV (fun b hb e => by omega), fun b hb => ?_, World.ownsRow_nil _ _ _ _, fun b hb => by simp [lH] at hb⟩
 ·have h9 := h8 q (h5 q hq).2.1
  exact (hx.grows q hf').elim (h5 q hq).1 (fun h => by omega)
 ·rcases hb with hb | hb | hb
  ·exact hd.lt b hb
  ·omega
  ·have := h8 b (h5 b hb).2.1; omega
 ·rcases hb with hb | hb | hb
  ·exact (hx.grows b hb).imp (h6 b) (fun h => by omega)
  ·subst hb; exact .inl h7
  ·exact .inl (h5 b hb).2.1
theorem six_yes {w W w2 w3 V : World} {P B B' rb : Nat} {fv fv' : Value} {F F' F'' G : Nat -> Prop} {d' : DS} {fs : List FileV} (hX : Ext w W) (h6 : ∀ b, F b -> G b) (h7 : G P) (h8 : ∀ b, G b -> b < w.heap.size) (hx : RunX d' W w2 P B fv F F') (ha : AgainX d' fs w2 w3 P B' F'' fv') (hrb : w.heap.size <= rb) (hrW : rb < W.heap.size) (hV : Turn (fun b => b = rb) w3 V) : StepR (DS.restart (fileB (doneS fs d'.ops))) (doneS fs d'.ops) [] w V P G (fun b => F'' b \/ b = P \/ fv'.ownBlock = some b) (.slice none 0 0) := by
 have hPl := h8 P h7
 have hl := hX.le
 have hs2 := hx.turn.size
 have hs3 := ha.turn.size
 have hsV := hV.size
 have hd := ha.deal.turn hV (fun b hb e => by have := ha.new b hb; omega)
 have hbl : ∀ q, fv'.ownBlock = some q -> w2.heap.size <= q /\ q < w3.heap.size := fun q hq => World.ownsRow.lt ha.row q hq
 refine ⟨⟨⟨B', F'', fv', hV.ref ha.run (by omega), hd, hV.owns (owns_base ha.row (Nat.zero_le _)) (fun q hq e => by have := hbl q hq; omega), fun hf => by have := ha.new P hf; omega, fun q hq => ⟨ha.free q hq, .inr (.inr hq), by have := hbl q hq; omega⟩, fun b hb => .inl hb⟩, .inr (.inl rfl), fun b hb => ?_⟩, (((Turn.of_ext hX).trans (hx.turn.mono (fun b _ hb => h6 b hb))).trans' ha.turn (fun b hb e => by subst e; exact h7)).trans' hV (fun b hb e => by omega), fun b hb => ?_, World.ownsRow_nil _ _ _ _, fun b hb => by simp [lH] at hb⟩
 ·rcases hb with hb | hb | hb
  ·exact hd.lt b hb
  ·omega
  ·have := hbl b hb; omega
 ·rcases hb with hb | hb | hb
  ·have := ha.new b hb; exact .inr (by omega)
  ·subst hb; exact .inl h7
  ·have := hbl b hb; exact .inr (by omega)
theorem step6_x {P N : Nat} {G : Nat -> Prop} {d : DS} {fs : List FileV} (kd a b c n : Int) (dr : Value) (D : List Int) (hk : pickN kd 7 = 6) (h1 : inI kd) (hrun : RunOk d fs N) (hN : N <= 155000) (w : World) (hs : RunS w P G d fs) :
  Calls Tryz.prog 14 #[.pointer (some ⟨P, 0, none⟩), stepV kd a b c n dr] w fun e w' => StepRP (stepR d fs kd a b c n D) w w' P G e := by
 obtain ⟨⟨B, F, fv, hr, hd, hf, h4, h5, h6⟩, h7, h8⟩ := hs
 obtain ⟨g1, g2, g3, g4⟩ := settle_ok hrun (by omega)
 have hops := hrun.ops
 have HK : Hid _ := fun w => pick_c kd 7 (by decide) (by decide) h1.1 h1.2 w
 rw [hk] at HK
 have HSe : Hid (∀ w', Ext w w' -> _) := fun w' hx => settled_x hrun.good (by omega) w' (hx.block hr) (hd.ext hx) h4
 have HStep : Hid (stepR d fs kd a b c n D = (⟨0, 0, 0, []⟩, if d.settle.1 = true then (DS.restart (fileB (doneS fs d.settle.2.ops)), doneS fs d.settle.2.ops) else (d.settle.2, fs))) := by
  show _ = _
  unfold stepR
  rw [if_pos hk]
 obtain ⟨M, hM1, hM2⟩ := g3
 have HAg : Hid (∀ (w' : World) (F' : Nat -> Prop), RunAt w' P B fv -> DealX w' B F' d.settle.2 -> FileRow w' 0 fv fs -> _) := fun w' F' a1 a2 a3 => again_x (by omega) (by omega) hM1 (by omega) w' a1 a2 a3
 have HAll : Hid (FileRow w 0 fv fs /\ (¬ F P) /\ (∀ q, fv.ownBlock = some q -> ¬ F q /\ G q /\ q ≠ P) /\ (∀ b, F b -> G b) /\ G P /\ ∀ b, G b -> b < w.heap.size) := ⟨hf, h4, h5, h6, h7, h8⟩
 have hPl : P < w.heap.size := h8 P h7
 have HD : Hid (DealX w B F d) := hd
 generalize d.settle = st at *
 obtain ⟨sb1, d1⟩ := st
 simp only at *
 unfold stepV
 clear h1 hr hd hf h4 h5 h6 h7 h8 g1 g2 g4 hM1 hM2 hrun hops hk
 go_enter Tryz.func14, Tryz.ntmps14
 go_wp2_with fail
 refine (HK.out _).mono ?_
 rintro e w1 ⟨rfl, rfl⟩
 go_wp2_with fail
 have hrr := heap_alloc_new (w.alloc (.cells #[.int .i64 kd, .int .i64 a, .int .i64 b, .int .i64 c, .int .i64 n, dr] 37)) (.cells #[.int .i64 0, .int .i64 0, .int .i64 0, .slice none 0 0] 33)
 have hsz : (w.alloc (.cells #[.int .i64 kd, .int .i64 a, .int .i64 b, .int .i64 c, .int .i64 n, dr] 37)).heap.size = w.heap.size + 1 := by show (w.heap.push _).size = _; exact Array.size_push ..
 rw [hsz] at hrr
 have hX := ((Ext.refl w).alloc (.cells #[.int .i64 kd, .int .i64 a, .int .i64 b, .int .i64 c, .int .i64 n, dr] 37)).alloc (.cells #[.int .i64 0, .int .i64 0, .int .i64 0, .slice none 0 0] 33)
 generalize World.alloc (World.alloc w _) _ = W at hrr hX ⊢
 obtain ⟨sb, hsb⟩ : ∃ sb, w.heap.size = sb := ⟨_, rfl⟩
 obtain ⟨rb, hrb⟩ : ∃ rb, w.heap.size + 1 = rb := ⟨_, rfl⟩
 rw [hrb] at hrr ⊢
 rw [hsb]
 have HRR : Hid _ := hrr
 have HX : Hid (Ext w W) := hX
 have HFR : Hid (¬ F rb /\ w.heap.size <= rb) := ⟨fun hf => by have := HD.out.lt rb hf; omega, by omega⟩
 have HFS2 : Hid (rb < W.heap.size) := (Array.getElem?_eq_some_iff.1 HRR.out).1
 clear hrr hX hsz hsb hrb hPl
 refine (HSe.out _ HX.out).mono ?_
 rintro e w2 ⟨rfl, F', hx⟩
 have HRX : Hid (RunX d1 W w2 P B fv F F') := hx
 have hrr2 := hx.turn.ref HRR.out HFR.out.1
 clear hx
 cases sb1
 ·have HRR2 : Hid _ := hrr2
  have r0 := (cell_of_row w2 _ 0 _ _ _ hrr2).trans (show _ = some (.int .i64 0) from rfl)
  have r1 := (cell_of_row w2 _ 1 _ _ _ hrr2).trans (show _ = some (.int .i64 0) from rfl)
  have r2 := (cell_of_row w2 _ 2 _ _ _ hrr2).trans (show _ = some (.int .i64 0) from rfl)
  have r3 := (cell_of_row w2 _ 3 _ _ _ hrr2).trans (show _ = some (.slice none 0 0) from rfl)
  have f0 := frozen_row hrr2 0
  have f1 := frozen_row hrr2 1
  have f2 := frozen_row hrr2 2
  have f3 := frozen_row hrr2 3
  clear hrr2
  go_wp2
  obtain ⟨hv, hVT⟩ := four_end HRR2.out (.int .i64 0) (.int .i64 0) (.int .i64 0) (.slice none 0 0)
  generalize World.setCell _ _ _ = V at hv hVT ⊢
  have v0 := (cell_of_row V _ 0 _ _ _ hv).trans (show _ = some (.int .i64 0) from rfl)
  have v1 := (cell_of_row V _ 1 _ _ _ hv).trans (show _ = some (.int .i64 0) from rfl)
  have v2 := (cell_of_row V _ 2 _ _ _ hv).trans (show _ = some (.int .i64 0) from rfl)
  have v3 := (cell_of_row V _ 3 _ _ _ hv).trans (show _ = some (.slice none 0 0) from rfl)
  obtain ⟨a1, a2, a3, a4, a5, a6⟩ := HAll.out
  have hst := six_no HX.out a1 a2 a3 a4 a5 a6 HRX.out HFR.out.1 HFR.out.2 HFS2.out hVT
  rw [HStep.out]
  clear hv r0 r1 r2 r3 f0 f1 f2 f3
  refine bodyPost_ret (v := .tuple #[.agg #[.int .i64 0, .int .i64 0, .int .i64 0, .slice none 0 0], .bool true]) ?_ rfl ⟨none, 0, 0, _, rfl, by simp, hst⟩
  simp [results, Tryz.results14, go_sem, v0, v1, v2, v3]
 ·have hFW : FileRow w2 0 fv fs := HRX.out.turn.owns (HX.out.owns HAll.out.1) (fun q hq => (HAll.out.2.2.1 q hq).1)
  have HFW : Hid (FileRow w2 0 fv fs) := hFW
  have HRRw : Hid _ := hrr2
  clear hFW hrr2
  go_wp2_with fail
  refine (HAg.out _ _ HRX.out.run HRX.out.deal HFW.out).mono ?_
  rintro e w3 ⟨rfl, B', F'', fv', ha⟩
  have HA3 : Hid (AgainX d1 fs w2 w3 P B' F'' fv') := ha
  have hrr3 := ha.turn.ref HRRw.out (by have := HAll.out.2.2.2.2.2 P HAll.out.2.2.2.2.1; have := HFR.out.2; omega)
  have HRR2 : Hid _ := hrr3
  have r0 := (cell_of_row w3 _ 0 _ _ _ hrr3).trans (show _ = some (.int .i64 0) from rfl)
  have r1 := (cell_of_row w3 _ 1 _ _ _ hrr3).trans (show _ = some (.int .i64 0) from rfl)
  have r2 := (cell_of_row w3 _ 2 _ _ _ hrr3).trans (show _ = some (.int .i64 0) from rfl)
  have r3 := (cell_of_row w3 _ 3 _ _ _ hrr3).trans (show _ = some (.slice none 0 0) from rfl)
  have f0 := frozen_row hrr3 0
  have f1 := frozen_row hrr3 1
  have f2 := frozen_row hrr3 2
  have f3 := frozen_row hrr3 3
  clear hrr3 ha
  go_wp2
  obtain ⟨hv, hVT⟩ := four_end HRR2.out (.int .i64 0) (.int .i64 0) (.int .i64 0) (.slice none 0 0)
  generalize World.setCell _ _ _ = V at hv hVT ⊢
  have v0 := (cell_of_row V _ 0 _ _ _ hv).trans (show _ = some (.int .i64 0) from rfl)
  have v1 := (cell_of_row V _ 1 _ _ _ hv).trans (show _ = some (.int .i64 0) from rfl)
  have v2 := (cell_of_row V _ 2 _ _ _ hv).trans (show _ = some (.int .i64 0) from rfl)
  have v3 := (cell_of_row V _ 3 _ _ _ hv).trans (show _ = some (.slice none 0 0) from rfl)
  obtain ⟨a1, a2, a3, a4, a5, a6⟩ := HAll.out
  have hst := six_yes HX.out a4 a5 a6 HRX.out HA3.out HFR.out.2 HFS2.out hVT
  rw [HStep.out]
  clear hv r0 r1 r2 r3 f0 f1 f2 f3
  refine bodyPost_ret (v := .tuple #[.agg #[.int .i64 0, .int .i64 0, .int .i64 0, .slice none 0 0], .bool true]) ?_ rfl ⟨none, 0, 0, _, rfl, by simp, hst⟩
  simp [results, Tryz.results14, go_sem, v0, v1, v2, v3]
theorem stepR_x {P N : Nat} {G : Nat -> Prop} {d : DS} {fs : List FileV} (kd a b c n : Int) (ra : Option Addr) (rl rcap : Nat) (D : List Int) (h1 : inI kd) (h2 : inI a) (h3 : inI b) (h4 : inI c) (h5 : inI n) (hdl : D.length = rl) (hrm : rl <= 100000000000000) (hrun : RunOk d fs N) (hN : N <= 155000) (w : World) (hs : RunS w P G d fs) (hdw : DrawsAt w ra rl D) :
  Calls Tryz.prog 14 #[.pointer (some ⟨P, 0, none⟩), stepV kd a b c n (.slice ra rl rcap)] w fun e w' => StepRP (stepR d fs kd a b c n D) w w' P G e := by
 by_cases hk : pickN kd 7 = 6
 ·exact step6_x kd a b c n _ D hk h1 hrun hN w hs
 ·obtain ⟨⟨B, F, fv, hr, hd, hf, a4, a5, a6⟩, a7, a8⟩ := hs
  have e : stepR d fs kd a b c n D = ((stepS d kd a b c n D).1, (stepS d kd a b c n D).2, fs) := by unfold stepR; rw [if_neg hk]
  rw [e]
  have hops := hrun.ops
  refine (step_x kd a b c n ra rl rcap D hk h1 h2 h3 h4 h5 hdl hrm hrun.good (by omega) w hr hd a4 hdw).mono ?_
  intro e w' h
  exact stepR_plain hr hd hf a4 a5 a6 a7 a8 h
end
-- VRu
section
open Go.RowKit Go.Maps
structure RunsOf (w wr : World) (P j : Nat) (d : DS) (fs : List FileV) (G : Nat -> Prop) : Prop where
 run : RunS wr P G d fs
 ok : RunOk d fs j
 keep : Keep4 d
 new : ∀ b, G b -> w.heap.size <= b
 turn : Turn (fun b => w.heap.size <= b) w wr
theorem runs_began {w w1 : World} {P B : Nat} (h1 : RunAt w1 P B (.slice none 0 0)) (h2 : DealX w1 B (fun b => b = B) DS.opened) (h3 : w.heap.size <= P) (h4 : w.heap.size <= B) (h5 : P ≠ B) (hx : Ext w w1) : RunsOf w w1 P 0 DS.opened [] (fun b => b = P \/ b = B) := by
 refine ⟨⟨⟨B, fun b => b = B, .slice none 0 0, h1, h2, World.ownsRow_nil _ _ _ _, h5, fun q hq => by simp [lH] at hq, fun b hb => .inr hb⟩, .inl rfl, fun b hb => ?_⟩, runOk_opened, ⟨by simp [DS.opened], by simp [DS.opened]⟩, fun b hb => ?_, Turn.of_ext hx⟩
 ·rcases hb with rfl | rfl
  ·exact (Array.getElem?_eq_some_iff.1 h1).1
  ·exact h2.lt b rfl
 ·rcases hb with rfl | rfl
  ·exact h3
  ·exact h4
theorem RunsOf.ext {w wr w' : World} {P j : Nat} {d : DS} {fs : List FileV} {G : Nat -> Prop} (h : RunsOf w wr P j d fs G) (hx : Ext wr w') : RunsOf w w' P j d fs G := ⟨h.run.ext hx, h.ok, h.keep, h.new, h.turn.trans (Turn.of_ext hx)⟩
theorem RunsOf.next {w wr w' : World} {P j : Nat} {d d' : DS} {fs fs' : List FileV} {G G' : Nat -> Prop} {zs : List Int} {rv : Value} (h : RunsOf w wr P j d fs G) (hs : StepR d' fs' zs wr w' P G G' rv) (ho : RunOk d' fs' (j + 1)) (hk : Keep4 d') : RunsOf w w' P (j + 1) d' fs' G' :=
 ⟨hs.run, ho, hk, fun b hb => (hs.grows b hb).elim (h.new b) (fun h' => Nat.le_trans h.turn.size h'), h.turn.trans' hs.turn (fun b _ hb => h.new b hb)⟩
structure StepAt (w : World) (b off : Nat) (kd a b' c n : Int) (ra : Option Addr) (rl rcap : Nat) (D : List Int) : Prop where
 s0 : w.cell? ⟨b, off, none⟩ = some (.int .i64 kd)
 s1 : w.cell? ⟨b, off + 1, none⟩ = some (.int .i64 a)
 s2 : w.cell? ⟨b, off + 2, none⟩ = some (.int .i64 b')
 s3 : w.cell? ⟨b, off + 3, none⟩ = some (.int .i64 c)
 s4 : w.cell? ⟨b, off + 4, none⟩ = some (.int .i64 n)
 s5 : w.cell? ⟨b, off + 5, none⟩ = some (.slice ra rl rcap)
 i1 : inI kd
 i2 : inI a
 i3 : inI b'
 i4 : inI c
 i5 : inI n
 len : D.length = rl
 le : rl <= 100000000
 dw : DrawsAt w ra rl D
theorem StepAt.turn {w w' : World} {b off : Nat} {kd a b' c n : Int} {ra : Option Addr} {rl rcap : Nat} {D : List Int} {N0 : Nat} (h : StepAt w b off kd a b' c n ra rl rcap D) (ht : Turn (fun b => N0 <= b) w w') (hb : b < N0) (hd : ∀ b off, rl ≠ 0 /\ ra = some ⟨b, off, none⟩ -> b < N0) : StepAt w' b off kd a b' c n ra rl rcap D :=
 have k : ∀ {i v}, w.cell? ⟨b, i, none⟩ = some v -> w'.cell? ⟨b, i, none⟩ = some v := fun hc => ht.cell hc (fun hl => by simp only at hl; omega)
 ⟨k h.s0, k h.s1, k h.s2, k h.s3, k h.s4, k h.s5, h.i1, h.i2, h.i3, h.i4, h.i5, h.len, h.le, h.dw.turn ht (fun b off e hl => by have := hd b off e; omega)⟩
theorem script_at {w wr : World} {N0 n j : Nat} {sa : Option Addr} (h : KScriptAt w N0 sa n) (ht : Turn (fun b => N0 <= b) w wr) (hj : j < n) : ∃ b off, sa = some ⟨b, off, none⟩ /\ b < N0 /\ ∃ kd a b' c n' ra rl rcap D, StepAt wr b (off + j * 6) kd a b' c n' ra rl rcap D /\ ∀ b off, rl ≠ 0 /\ ra = some ⟨b, off, none⟩ -> b < N0 := by
 obtain ⟨b, off, rfl, hb, hcs⟩ := (h.turn ht).resolve_left (by omega)
 obtain ⟨cs, ⟨kd, a, b', c, n', ra, rl, rcap, D, rfl, i1, i2, i3, i4, i5, hDl, hrl, hdw, hbo⟩, hcell⟩ := hcs j hj
 exact ⟨b, off, rfl, hb, kd, a, b', c, n', ra, rl, rcap, D, ⟨hcell 0 _ rfl, hcell 1 _ rfl, hcell 2 _ rfl, hcell 3 _ rfl, hcell 4 _ rfl, hcell 5 _ rfl, i1, i2, i3, i4, i5, hDl, hrl, hdw⟩, hbo⟩
end
end Go.Proofs.YtmnjhhachdlmkaaGreat
