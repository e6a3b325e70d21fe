import Derived.Test.YtmnjhhachdlmkaaGreatK19
import Derived.Test.YtmnjhhachdlmkaaGreatK18
import Derived.Test.YtmnjhhachdlmkaaGreatK17
namespace Go.Proofs.YtmnjhhachdlmkaaGreat
set_option linter.unusedVariables false
set_option linter.unusedSimpArgs false
open World renaming block_lt_of_cell? -> lG
open Value renaming ownBlock -> lH
-- VAg
section
set_option maxRecDepth 100000
set_option maxHeartbeats 6400000
open Go.RowKit Go.Maps
theorem FileRow.at {w : World} {base n cap : Nat} {fa : Option Addr} {fs : List FileV} (h : FileRow w base (.slice fa n cap) fs) : fs.length = n /\ FilesAt w fa fs := by
 rcases owns_form h with ⟨e, hl, _⟩ | ⟨g, cap', e, _, _, _⟩
 ·injection e with e1 e2 e3
  obtain rfl : fs = [] := List.length_eq_zero_iff.1 hl
  exact ⟨by simp [e2], .inl rfl⟩
 ·injection e with e1 e2 e3
  subst e1 e2
  refine ⟨rfl, .inr ⟨g, 0, rfl, fun i hi => ?_⟩⟩
  rw [Nat.zero_add]
  exact h.cells i hi
structure AgainX (d : DS) (fs : List FileV) (w w' : World) (P : Nat) (B' : Nat) (F' : Nat -> Prop) (fv' : Value) : Prop where
 run : RunAt w' P B' fv'
 deal : DealX w' B' F' (DS.restart (fileB (doneS fs d.ops)))
 row : FileRow w' w.heap.size fv' (doneS fs d.ops)
 new : ∀ b, F' b -> w.heap.size <= b
 free : ∀ q, fv'.ownBlock = some q -> ¬ F' q
 turn : Turn (fun b => b = P) w w'
theorem again_x {P B : Nat} {fv : Value} {F : Nat -> Prop} {d : DS} {fs : List FileV} {M : Nat} (hnb : fs.length + d.ops.length <= 10000000) (ho : d.ops.length <= 1000000) (hM : ∀ f ∈ fs, f.2.size <= M) (hcap : capN M d.ops <= 1000000000) (w : World) (hr : RunAt w P B fv) (hd : DealX w B F d) (hf : FileRow w 0 fv fs) :
  Calls Tryz.prog 48 #[.pointer (some ⟨P, 0, none⟩)] w fun e w' => e = .returned (.bool true) /\ ∃ B' F' fv', AgainX d fs w w' P B' F' fv' := by
 have hp0 := cell_at hr (i := 0) rfl
 have hp1 := cell_at hr (i := 1) rfl
 have hPl := lG w _ hp0
 have HR : Hid (RunAt w P B fv) := hr
 have HDk : Hid (∀ w', Ext w w' -> _) := fun w' hx => disk_x ho (hd.ext hx)
 have HDn : Hid (∀ w' dv, Ext w w' -> w'.ownsRow 0 134 4 dv d.ops.length (opCells d.ops) -> _) := fun w' dv hx hrow => done_x hnb hM hcap w' (hx.owns hf) hrow
 have HSz : Hid ((doneS fs d.ops).length <= 4611686018427387904 /\ ∀ f ∈ doneS fs d.ops, f.2.size <= 1000000000) := ⟨by have := doneS_len fs d.ops; omega, fun f hf => Nat.le_trans (doneS_size hM d.ops f hf) hcap⟩
 clear hr hd hf hM hcap hnb ho
 go_enter Tryz.func48, Tryz.ntmps48
 go_wp2_with fail
 refine (HDk.out _ (Ext.refl _)).mono ?_
 rintro e w1 ⟨dv, rfl, ho1, hx1⟩
 have HX1 : Hid (Ext w w1) := hx1
 have HO1 : Hid (w1.ownsRow 0 134 4 dv d.ops.length (opCells d.ops)) := owns_base ho1 (Nat.zero_le _)
 have p0 := hx1.cell hp0
 have p1 := hx1.cell hp1
 have hP1 := lG w1 _ p0
 clear ho1 hx1 hp0 hp1 hPl
 go_wp2_with fail
 refine (HDn.out _ _ HX1.out HO1.out).mono ?_
 rintro e w2 ⟨v2, rfl, hr2, hx2⟩
 obtain ⟨fa, fcap, rfl⟩ := owns_slice hr2
 have HX2 : Hid (Ext w w2) := HX1.out.trans hx2
 have HR2 : Hid (FileRow w2 w.heap.size (.slice fa (doneS fs d.ops).length fcap) (doneS fs d.ops)) := owns_base hr2 HX1.out.le
 have hrow := HX2.out.block HR.out
 have HRow : Hid _ := hrow
 have q0 := cell_at hrow (i := 0) rfl
 have q1 := cell_at hrow (i := 1) rfl
 have f0 := frozen_row hrow 0
 have f1 := frozen_row hrow 1
 have hP2 := lG w2 _ q0
 have HRe : Hid (∀ w', FilesAt w' fa (doneS fs d.ops) -> _) := fun w' h => restart_x fa (doneS fs d.ops).length fcap (doneS fs d.ops) rfl HSz.out.1 HSz.out.2 w' h
 generalize hgs : doneS fs d.ops = gs at *
 generalize hgl : gs.length = gn at *
 have HGS : Hid (doneS fs d.ops = gs /\ gs.length = gn) := ⟨hgs, hgl⟩
 clear hr2 hx2 p0 p1 hP1 hrow hgs hgl
 go_wp2_with fail
 have hw3 := setCell_row (i := 1) HRow.out (.slice fa gn fcap)
 have ht3 : Turn (fun b => b = P) w2 (w2.setCell ⟨P, 1, none⟩ (.slice fa gn fcap)) := Turn.setCell (S := fun b => b = P) (Turn.refl _ _) (fun _ => rfl) _
 have hPw : P < w.heap.size := (Array.getElem?_eq_some_iff.1 HR.out).1
 have HPw : Hid (P < w.heap.size) := hPw
 have hr3 : FileRow (w2.setCell ⟨P, 1, none⟩ (.slice fa gn fcap)) w.heap.size (.slice fa gn fcap) gs := ht3.owns HR2.out (fun q hq e => by
  have := (World.ownsRow.lt HR2.out q hq).1
  omega)
 generalize World.setCell w2 _ _ = w3 at hw3 ht3 hr3 ⊢
 have HT3 : Hid (Turn (fun b => b = P) w2 w3) := ht3
 have HR3 : Hid (FileRow w3 w.heap.size (.slice fa gn fcap) gs) := hr3
 have HW3 : Hid (w3.heap[P]? = some (.cells #[.pointer (some ⟨B, 0, none⟩), .slice fa gn fcap] 42 (0, 0))) := by
  show _ = _
  simpa using hw3
 refine (HRe.out _ hr3.at.2).mono ?_
 clear hw3 ht3 hr3 q0 q1 f0 f1 hP2 hPw
 rintro e w4 ⟨B', F', rfl, hd4, hF4, hx4⟩
 have hrow := hx4.block HW3.out
 have HD4 : Hid (DealX w4 B' F' (DS.restart (fileB gs))) := hd4
 have HF4 : Hid (∀ b, F' b -> w3.heap.size <= b) := hF4
 have HX4 : Hid (Ext w3 w4) := hx4
 have HRow4 : Hid _ := hrow
 have q0 := cell_at hrow (i := 0) rfl
 have q1 := cell_at hrow (i := 1) rfl
 have f0 := frozen_row hrow 0
 have f1 := frozen_row hrow 1
 have hP4 := lG w4 _ q0
 clear hd4 hF4 hx4 hrow
 go_wp2_with fail
 have hw5 := setCell_row (i := 0) HRow4.out (.pointer (some ⟨B', 0, none⟩))
 have ht5 : Turn (fun b => b = P) w4 (w4.setCell ⟨P, 0, none⟩ (.pointer (some ⟨B', 0, none⟩))) := Turn.setCell (S := fun b => b = P) (Turn.refl _ _) (fun _ => rfl) _
 have hP3 : P < w3.heap.size := (Array.getElem?_eq_some_iff.1 HW3.out).1
 have hd5 := HD4.out.turn ht5 (fun b hb e => by have := HF4.out b hb; omega)
 have hr5 : FileRow (w4.setCell ⟨P, 0, none⟩ (.pointer (some ⟨B', 0, none⟩))) w.heap.size (.slice fa gn fcap) gs := ht5.owns (HX4.out.owns HR3.out) (fun q hq e => by
  have := (World.ownsRow.lt HR3.out q hq).1
  have := HPw.out
  omega)
 have hT : Turn (fun b => b = P) w (w4.setCell ⟨P, 0, none⟩ (.pointer (some ⟨B', 0, none⟩))) := ((Turn.of_ext HX2.out).trans HT3.out).trans ((Turn.of_ext HX4.out).trans ht5)
 go_ret
 have h23 := HT3.out.size
 have hw2 := HX2.out.le
 refine ⟨by simp [*], B', F', .slice fa gn fcap, ⟨by show _ = _; simpa using hw5, by rw [HGS.out.1]; exact hd5, by rw [HGS.out.1]; exact hr5, fun b hb => by have := HF4.out b hb; omega, fun q hq hf => ?_, hT⟩⟩
 have h1 := HF4.out q hf
 have h2 := (World.ownsRow.lt HR3.out q hq).2
 omega
end
-- VSr
section
open Go.RowKit Go.Maps
structure RunS (w : World) (P : Nat) (G : Nat -> Prop) (d : DS) (fs : List FileV) : Prop where
 ex : ∃ B F fv, RunAt w P B fv /\ DealX w B F d /\ FileRow w 0 fv fs /\ ¬ F P /\ (∀ q, fv.ownBlock = some q -> ¬ F q /\ G q /\ q ≠ P) /\ (∀ b, F b -> G b)
 own : G P
 lt : ∀ b, G b -> b < w.heap.size
theorem RunS.turn {w w' : World} {P : Nat} {G X : Nat -> Prop} {d : DS} {fs : List FileV} (h : RunS w P G d fs) (ht : Turn X w w') (hx : ∀ b, G b -> ¬ X b) : RunS w' P G d fs := by
 obtain ⟨⟨B, F, fv, h1, h2, h3, h4, h5, h6⟩, h7, h8⟩ := h
 exact ⟨⟨B, F, fv, ht.ref h1 (hx P h7), h2.turn ht (fun b hb => hx b (h6 b hb)), ht.owns h3 (fun q hq => hx q (h5 q hq).2.1), h4, h5, h6⟩, h7, fun b hb => Nat.lt_of_lt_of_le (h8 b hb) ht.size⟩
theorem RunS.ext {w w' : World} {P : Nat} {G : Nat -> Prop} {d : DS} {fs : List FileV} (h : RunS w P G d fs) (hx : Ext w w') : RunS w' P G d fs := h.turn (X := fun _ => False) (Turn.of_ext hx) (fun _ _ => id)
structure StepR (d' : DS) (fs' : List FileV) (zs : List Int) (w w' : World) (P : Nat) (G G' : Nat -> Prop) (rv : Value) : Prop where
 run : RunS w' P G' d' fs'
 turn : Turn G w w'
 grows : ∀ b, G' b -> G b \/ w.heap.size <= b
 row : w'.ownsRow w.heap.size 146 1 rv zs.length (zs.map (Value.int .u64))
 free : ∀ b, rv.ownBlock = some b -> ¬ G' b
def StepRP (p : Rep × DS × List FileV) (w w' : World) (P : Nat) (G : Nat -> Prop) (e : Ending) : Prop :=
 ∃ ra rl rc G', e = .returned (.tuple #[replyV p.1.c p.1.f p.1.n (.slice ra rl rc), .bool true]) /\ p.1.zs.length <= 100000000 /\ StepR p.2.1 p.2.2 p.1.zs w w' P G G' (.slice ra rl rc)
theorem stepR_plain {w w' : World} {P B : Nat} {fv : Value} {F G : Nat -> Prop} {d : DS} {fs : List FileV} {p : Rep × DS} {e : Ending} (hr : RunAt w P B fv) (hd : DealX w B F d) (hf : FileRow w 0 fv fs) (h4 : ¬ F P) (h5 : ∀ q, fv.ownBlock = some q -> ¬ F q /\ G q /\ q ≠ P) (h6 : ∀ b, F b -> G b) (h7 : G P) (h8 : ∀ b, G b -> b < w.heap.size) (h : StepPost p w w' P fv F e) : StepRP (p.1, p.2, fs) w w' P G e := by
 obtain ⟨ra, rl, rc, F', he, hz, hx⟩ := h
 obtain ⟨B', h1, h2⟩ := hx.run
 have hPl := h8 P h7
 have hPF : ¬ F' P := fun hf => (hx.grows P hf).elim h4 (fun h => by omega)
 refine ⟨ra, rl, rc, fun b => F' b \/ b = P \/ fv.ownBlock = some b, he, hz, ⟨⟨⟨B', F', fv, h1, h2, hx.turn.owns hf (fun q hq => (h5 q hq).1), hPF, fun q hq => ⟨fun hf' => ?_, .inr (.inr hq), (h5 q hq).2.2⟩, fun b hb => .inl hb⟩, .inr (.inl rfl), fun b hb => ?_⟩, hx.turn.mono (fun b _ hb => h6 b hb), fun b hb => ?_, hx.row, fun b hb hg => ?_⟩⟩
 ·have h9 := h8 q (h5 q hq).2.1
  exact (hx.grows q hf').elim (h5 q hq).1 (fun h => by omega)
 ·have hs := hx.turn.size
  rcases hb with hb | hb | hb
  ·exact h2.lt b hb
  ·omega
  ·have := h8 b (h5 b hb).2.1; omega
 ·rcases hb with hb | hb | hb
  ·exact (hx.grows b hb).imp (h6 b) id
  ·subst hb; exact .inl h7
  ·exact .inl (h5 b hb).2.1
 ·have h9 := (World.ownsRow.lt hx.row b hb).1
  rcases hg with hg | hg | hg
  ·exact hx.free b hb hg
  ·omega
  ·have := h8 b (h5 b hg).2.1; omega
end
-- VS6
section
set_option maxRecDepth 100000
set_option maxHeartbeats 6400000
open Go.RowKit Go.Maps
theorem six_no {w W w2 V : World} {P B rb : Nat} {fv : Value} {F F' G : Nat -> Prop} {d' : DS} {fs : List FileV} (hX : Ext w W) (hf : FileRow w 0 fv fs) (h4 : ¬ F P) (h5 : ∀ q, fv.ownBlock = some q -> ¬ F q /\ G q /\ q ≠ P) (h6 : ∀ b, F b -> G b) (h7 : G P) (h8 : ∀ b, G b -> b < w.heap.size) (hx : RunX d' W w2 P B fv F F') (hFr : ¬ F rb) (hrb : w.heap.size <= rb) (hrW : rb < W.heap.size) (hV : Turn (fun b => b = rb) w2 V) : StepR d' fs [] w V P G (fun b => F' b \/ b = P \/ fv.ownBlock = some b) (.slice none 0 0) := by
 have hPl := h8 P h7
 have hl := hX.le
 have hs2 := hx.turn.size
 have hsV := hV.size
 have hPF : ¬ F' P := fun hf => (hx.grows P hf).elim h4 (fun h => by omega)
 have hrF : ¬ F' rb := fun hf => (hx.grows rb hf).elim hFr (fun h => by omega)
 have hd := hx.deal.turn hV (fun b hb e => hrF (e ▸ hb))
 refine ⟨⟨⟨B, F', fv, hV.ref hx.run (by omega), hd, hV.owns (hx.turn.owns (hX.owns hf) (fun q hq => (h5 q hq).1)) (fun q hq e => by have := h8 q (h5 q hq).2.1; omega), hPF, fun q hq => ⟨fun hf' => ?_, .inr (.inr hq), (h5 q hq).2.2⟩, fun b hb => .inl hb⟩, .inr (.inl rfl), fun b hb => ?_⟩, ((Turn.of_ext hX).trans (hx.turn.mono (fun b _ hb => h6 b hb))).trans' hV (fun b hb e => by omega), fun b hb => ?_, World.ownsRow_nil _ _ _ _, fun b hb => by simp [lH] at hb⟩
 ·have h9 := h8 q (h5 q hq).2.1
  exact (hx.grows q hf').elim (h5 q hq).1 (fun h => by omega)
 ·rcases hb with hb | hb | hb
  ·exact hd.lt b hb
  ·omega
  ·have := h8 b (h5 b hb).2.1; omega
 ·rcases hb with hb | hb | hb
  ·exact (hx.grows b hb).imp (h6 b) (fun h => by omega)
  ·subst hb; exact .inl h7
  ·exact .inl (h5 b hb).2.1
theorem six_yes {w W w2 w3 V : World} {P B B' rb : Nat} {fv fv' : Value} {F F' F'' G : Nat -> Prop} {d' : DS} {fs : List FileV} (hX : Ext w W) (h6 : ∀ b, F b -> G b) (h7 : G P) (h8 : ∀ b, G b -> b < w.heap.size) (hx : RunX d' W w2 P B fv F F') (ha : AgainX d' fs w2 w3 P B' F'' fv') (hrb : w.heap.size <= rb) (hrW : rb < W.heap.size) (hV : Turn (fun b => b = rb) w3 V) : StepR (DS.restart (fileB (doneS fs d'.ops))) (doneS fs d'.ops) [] w V P G (fun b => F'' b \/ b = P \/ fv'.ownBlock = some b) (.slice none 0 0) := by
 have hPl := h8 P h7
 have hl := hX.le
 have hs2 := hx.turn.size
 have hs3 := ha.turn.size
 have hsV := hV.size
 have hd := ha.deal.turn hV (fun b hb e => by have := ha.new b hb; omega)
 have hbl : ∀ q, fv'.ownBlock = some q -> w2.heap.size <= q /\ q < w3.heap.size := fun q hq => World.ownsRow.lt ha.row q hq
 refine ⟨⟨⟨B', F'', fv', hV.ref ha.run (by omega), hd, hV.owns (owns_base ha.row (Nat.zero_le _)) (fun q hq e => by have := hbl q hq; omega), fun hf => by have := ha.new P hf; omega, fun q hq => ⟨ha.free q hq, .inr (.inr hq), by have := hbl q hq; omega⟩, fun b hb => .inl hb⟩, .inr (.inl rfl), fun b hb => ?_⟩, (((Turn.of_ext hX).trans (hx.turn.mono (fun b _ hb => h6 b hb))).trans' ha.turn (fun b hb e => by subst e; exact h7)).trans' hV (fun b hb e => by omega), fun b hb => ?_, World.ownsRow_nil _ _ _ _, fun b hb => by simp [lH] at hb⟩
 ·rcases hb with hb | hb | hb
  ·exact hd.lt b hb
  ·omega
  ·have := hbl b hb; omega
 ·rcases hb with hb | hb | hb
  ·have := ha.new b hb; exact .inr (by omega)
  ·subst hb; exact .inl h7
  ·have := hbl b hb; exact .inr (by omega)
theorem step6_x {P N : Nat} {G : Nat -> Prop} {d : DS} {fs : List FileV} (kd a b c n : Int) (dr : Value) (D : List Int) (hk : pickN kd 7 = 6) (h1 : inI kd) (hrun : RunOk d fs N) (hN : N <= 155000) (w : World) (hs : RunS w P G d fs) :
  Calls Tryz.prog 14 #[.pointer (some ⟨P, 0, none⟩), stepV kd a b c n dr] w fun e w' => StepRP (stepR d fs kd a b c n D) w w' P G e := by
 obtain ⟨⟨B, F, fv, hr, hd, hf, h4, h5, h6⟩, h7, h8⟩ := hs
 obtain ⟨g1, g2, g3, g4⟩ := settle_ok hrun (by omega)
 have hops := hrun.ops
 have HK : Hid _ := fun w => pick_c kd 7 (by decide) (by decide) h1.1 h1.2 w
 rw [hk] at HK
 have HSe : Hid (∀ w', Ext w w' -> _) := fun w' hx => settled_x hrun.good (by omega) w' (hx.block hr) (hd.ext hx) h4
 have HStep : Hid (stepR d fs kd a b c n D = (⟨0, 0, 0, []⟩, if d.settle.1 = true then (DS.restart (fileB (doneS fs d.settle.2.ops)), doneS fs d.settle.2.ops) else (d.settle.2, fs))) := by
  show _ = _
  unfold stepR
  rw [if_pos hk]
 obtain ⟨M, hM1, hM2⟩ := g3
 have HAg : Hid (∀ (w' : World) (F' : Nat -> Prop), RunAt w' P B fv -> DealX w' B F' d.settle.2 -> FileRow w' 0 fv fs -> _) := fun w' F' a1 a2 a3 => again_x (by omega) (by omega) hM1 (by omega) w' a1 a2 a3
 have HAll : Hid (FileRow w 0 fv fs /\ (¬ F P) /\ (∀ q, fv.ownBlock = some q -> ¬ F q /\ G q /\ q ≠ P) /\ (∀ b, F b -> G b) /\ G P /\ ∀ b, G b -> b < w.heap.size) := ⟨hf, h4, h5, h6, h7, h8⟩
 have hPl : P < w.heap.size := h8 P h7
 have HD : Hid (DealX w B F d) := hd
 generalize d.settle = st at *
 obtain ⟨sb1, d1⟩ := st
 simp only at *
 unfold stepV
 clear h1 hr hd hf h4 h5 h6 h7 h8 g1 g2 g4 hM1 hM2 hrun hops hk
 go_enter Tryz.func14, Tryz.ntmps14
 go_wp2_with fail
 refine (HK.out _).mono ?_
 rintro e w1 ⟨rfl, rfl⟩
 go_wp2_with fail
 have hrr := heap_alloc_new (w.alloc (.cells #[.int .i64 kd, .int .i64 a, .int .i64 b, .int .i64 c, .int .i64 n, dr] 37)) (.cells #[.int .i64 0, .int .i64 0, .int .i64 0, .slice none 0 0] 33)
 have hsz : (w.alloc (.cells #[.int .i64 kd, .int .i64 a, .int .i64 b, .int .i64 c, .int .i64 n, dr] 37)).heap.size = w.heap.size + 1 := by show (w.heap.push _).size = _; exact Array.size_push ..
 rw [hsz] at hrr
 have hX := ((Ext.refl w).alloc (.cells #[.int .i64 kd, .int .i64 a, .int .i64 b, .int .i64 c, .int .i64 n, dr] 37)).alloc (.cells #[.int .i64 0, .int .i64 0, .int .i64 0, .slice none 0 0] 33)
 generalize World.alloc (World.alloc w _) _ = W at hrr hX ⊢
 obtain ⟨sb, hsb⟩ : ∃ sb, w.heap.size = sb := ⟨_, rfl⟩
 obtain ⟨rb, hrb⟩ : ∃ rb, w.heap.size + 1 = rb := ⟨_, rfl⟩
 rw [hrb] at hrr ⊢
 rw [hsb]
 have HRR : Hid _ := hrr
 have HX : Hid (Ext w W) := hX
 have HFR : Hid (¬ F rb /\ w.heap.size <= rb) := ⟨fun hf => by have := HD.out.lt rb hf; omega, by omega⟩
 have HFS2 : Hid (rb < W.heap.size) := (Array.getElem?_eq_some_iff.1 HRR.out).1
 clear hrr hX hsz hsb hrb hPl
 refine (HSe.out _ HX.out).mono ?_
 rintro e w2 ⟨rfl, F', hx⟩
 have HRX : Hid (RunX d1 W w2 P B fv F F') := hx
 have hrr2 := hx.turn.ref HRR.out HFR.out.1
 clear hx
 cases sb1
 ·have HRR2 : Hid _ := hrr2
  have r0 := (cell_of_row w2 _ 0 _ _ _ hrr2).trans (show _ = some (.int .i64 0) from rfl)
  have r1 := (cell_of_row w2 _ 1 _ _ _ hrr2).trans (show _ = some (.int .i64 0) from rfl)
  have r2 := (cell_of_row w2 _ 2 _ _ _ hrr2).trans (show _ = some (.int .i64 0) from rfl)
  have r3 := (cell_of_row w2 _ 3 _ _ _ hrr2).trans (show _ = some (.slice none 0 0) from rfl)
  have f0 := frozen_row hrr2 0
  have f1 := frozen_row hrr2 1
  have f2 := frozen_row hrr2 2
  have f3 := frozen_row hrr2 3
  clear hrr2
  go_wp2
  obtain ⟨hv, hVT⟩ := four_end HRR2.out (.int .i64 0) (.int .i64 0) (.int .i64 0) (.slice none 0 0)
  generalize World.setCell _ _ _ = V at hv hVT ⊢
  have v0 := (cell_of_row V _ 0 _ _ _ hv).trans (show _ = some (.int .i64 0) from rfl)
  have v1 := (cell_of_row V _ 1 _ _ _ hv).trans (show _ = some (.int .i64 0) from rfl)
  have v2 := (cell_of_row V _ 2 _ _ _ hv).trans (show _ = some (.int .i64 0) from rfl)
  have v3 := (cell_of_row V _ 3 _ _ _ hv).trans (show _ = some (.slice none 0 0) from rfl)
  obtain ⟨a1, a2, a3, a4, a5, a6⟩ := HAll.out
  have hst := six_no HX.out a1 a2 a3 a4 a5 a6 HRX.out HFR.out.1 HFR.out.2 HFS2.out hVT
  rw [HStep.out]
  clear hv r0 r1 r2 r3 f0 f1 f2 f3
  refine bodyPost_ret (v := .tuple #[.agg #[.int .i64 0, .int .i64 0, .int .i64 0, .slice none 0 0], .bool true]) ?_ rfl ⟨none, 0, 0, _, rfl, by simp, hst⟩
  simp [results, Tryz.results14, go_sem, v0, v1, v2, v3]
 ·have hFW : FileRow w2 0 fv fs := HRX.out.turn.owns (HX.out.owns HAll.out.1) (fun q hq => (HAll.out.2.2.1 q hq).1)
  have HFW : Hid (FileRow w2 0 fv fs) := hFW
  have HRRw : Hid _ := hrr2
  clear hFW hrr2
  go_wp2_with fail
  refine (HAg.out _ _ HRX.out.run HRX.out.deal HFW.out).mono ?_
  rintro e w3 ⟨rfl, B', F'', fv', ha⟩
  have HA3 : Hid (AgainX d1 fs w2 w3 P B' F'' fv') := ha
  have hrr3 := ha.turn.ref HRRw.out (by have := HAll.out.2.2.2.2.2 P HAll.out.2.2.2.2.1; have := HFR.out.2; omega)
  have HRR2 : Hid _ := hrr3
  have r0 := (cell_of_row w3 _ 0 _ _ _ hrr3).trans (show _ = some (.int .i64 0) from rfl)
  have r1 := (cell_of_row w3 _ 1 _ _ _ hrr3).trans (show _ = some (.int .i64 0) from rfl)
  have r2 := (cell_of_row w3 _ 2 _ _ _ hrr3).trans (show _ = some (.int .i64 0) from rfl)
  have r3 := (cell_of_row w3 _ 3 _ _ _ hrr3).trans (show _ = some (.slice none 0 0) from rfl)
  have f0 := frozen_row hrr3 0
  have f1 := frozen_row hrr3 1
  have f2 := frozen_row hrr3 2
  have f3 := frozen_row hrr3 3
  clear hrr3 ha
  go_wp2
  obtain ⟨hv, hVT⟩ := four_end HRR2.out (.int .i64 0) (.int .i64 0) (.int .i64 0) (.slice none 0 0)
  generalize World.setCell _ _ _ = V at hv hVT ⊢
  have v0 := (cell_of_row V _ 0 _ _ _ hv).trans (show _ = some (.int .i64 0) from rfl)
  have v1 := (cell_of_row V _ 1 _ _ _ hv).trans (show _ = some (.int .i64 0) from rfl)
  have v2 := (cell_of_row V _ 2 _ _ _ hv).trans (show _ = some (.int .i64 0) from rfl)
  have v3 := (cell_of_row V _ 3 _ _ _ hv).trans (show _ = some (.slice none 0 0) from rfl)
  obtain ⟨a1, a2, a3, a4, a5, a6⟩ := HAll.out
  have hst := six_yes HX.out a4 a5 a6 HRX.out HA3.out HFR.out.2 HFS2.out hVT
  rw [HStep.out]
  clear hv r0 r1 r2 r3 f0 f1 f2 f3
  refine bodyPost_ret (v := .tuple #[.agg #[.int .i64 0, .int .i64 0, .int .i64 0, .slice none 0 0], .bool true]) ?_ rfl ⟨none, 0, 0, _, rfl, by simp, hst⟩
  simp [results, Tryz.results14, go_sem, v0, v1, v2, v3]
theorem stepR_x {P N : Nat} {G : Nat -> Prop} {d : DS} {fs : List FileV} (kd a b c n : Int) (ra : Option Addr) (rl rcap : Nat) (D : List Int) (h1 : inI kd) (h2 : inI a) (h3 : inI b) (h4 : inI c) (h5 : inI n) (hdl : D.length = rl) (hrm : rl <= 100000000000000) (hrun : RunOk d fs N) (hN : N <= 155000) (w : World) (hs : RunS w P G d fs) (hdw : DrawsAt w ra rl D) :
  Calls Tryz.prog 14 #[.pointer (some ⟨P, 0, none⟩), stepV kd a b c n (.slice ra rl rcap)] w fun e w' => StepRP (stepR d fs kd a b c n D) w w' P G e := by
 by_cases hk : pickN kd 7 = 6
 ·exact step6_x kd a b c n _ D hk h1 hrun hN w hs
 ·obtain ⟨⟨B, F, fv, hr, hd, hf, a4, a5, a6⟩, a7, a8⟩ := hs
  have e : stepR d fs kd a b c n D = ((stepS d kd a b c n D).1, (stepS d kd a b c n D).2, fs) := by unfold stepR; rw [if_neg hk]
  rw [e]
  have hops := hrun.ops
  refine (step_x kd a b c n ra rl rcap D hk h1 h2 h3 h4 h5 hdl hrm hrun.good (by omega) w hr hd a4 hdw).mono ?_
  intro e w' h
  exact stepR_plain hr hd hf a4 a5 a6 a7 a8 h
end
-- VAr
section
set_option maxRecDepth 100000
set_option maxHeartbeats 64000000
open Go.RowKit Go.Maps
theorem apart_c {n m lcap scap : Nat} {la sa : Option Addr} {S : List Stk} {ls : List LsV} (hI : InvQ S ls) (hn : ls.length = n) (hm : S.length = m) (hla : n ≠ 0 -> ∃ gl, la = some ⟨gl, 0, none⟩) (hsa : m ≠ 0 -> ∃ gs, sa = some ⟨gs, 0, none⟩) (w : World) (hr : LeasesAt w (.slice la n lcap) ls) (hs : w.ownsRow 0 116 7 (.slice sa m scap) m (toldAll S)) :
  Calls Tryz.prog 17 #[.slice la n lcap, .slice sa m scap] w fun e w' => e = .returned (.bool true) /\ Ext w w' := by
 have hnb : n <= 30 := by have := hI.leases; omega
 have hmb : m <= 6 := by have := hI.stocks; omega
 have HN : Hid (ls.length = n /\ S.length = m) := ⟨hn, hm⟩
 have HR : Hid (LeasesAt w (.slice la n lcap) ls) := hr
 have HLA : Hid (n ≠ 0 -> ∃ gl, la = some ⟨gl, 0, none⟩) := hla
 have HSA : Hid (m ≠ 0 -> ∃ gs, sa = some ⟨gs, 0, none⟩) := hsa
 have HS : Hid (w.ownsRow 0 116 7 (.slice sa m scap) m (toldAll S)) := hs
 have HI : Hid (InvQ S ls) := hI
 have heq := fun (a b c e a' b' c' e' : Int) (w : World) => eqClass 9998 a b c e a' b' c' e' w
 clear hI hr hs hn hm hla hsa
 go_enter Tryz.func17, Tryz.ntmps17
 go_wp2_with fail
 go_loopw [5] (fun i wr => ∃ j : Nat, j <= m /\ i = .int .i64 j /\ Ext w wr) (fun i _ => m - (intOf i).toNat)
 case atStart => exact ⟨0, Nat.zero_le _, rfl, Ext.refl _⟩
 case round =>
  obtain ⟨j, hj, rfl, hx⟩ := hrel
  have HX : Hid (Ext w wr) := hx
  clear hx
  by_cases hlt : j < m
  ·as_aux_lemma =>
    obtain ⟨gs, rfl⟩ := HSA.out (by omega)
    have hjS : j < S.length := by rw [HN.out.2]; exact hlt
    have HXJ : Hid (S[j] ∈ S /\ (S[j].leased : Int) = sumK S[j].kd S[j].m S[j].k S[j].n ls) := ⟨List.getElem_mem hjS, HI.out.sum j hjS⟩
    have HSC := fun (w' : World) (hx : Ext w w') => stocks_cells (Ext.owns hx HS.out) j hjS
    generalize S[j] = x at *
    clear hjS
    generalize wr = w0 at *
    go_wp2_with fail
    go_loopw [6, 7, 8] (fun nv gv iv wr => ∃ i : Nat, i <= n /\ iv = .int .i64 i /\ nv = .int .i64 (sumK x.kd x.m x.k x.n (ls.take i)) /\ gv = .int .i64 (goneK x.kd x.m x.k x.n (ls.take i)) /\ Ext w wr) (fun _ _ iv _ => n - (intOf iv).toNat)
    case atStart => exact ⟨0, Nat.zero_le _, rfl, rfl, rfl, HX.out⟩
    case round =>
     obtain ⟨i, hi, rfl, rfl, rfl, hx⟩ := hrel
     have HX2 : Hid (Ext w wr) := hx
     obtain ⟨x0, x1, x2, x3, x4, x5, x6⟩ := HSC wr hx
     have hgs := lG wr _ x0
     clear hx
     by_cases hil : i < n
     ·obtain ⟨gl, rfl⟩ := HLA.out (by omega)
      have hiL : i < ls.length := by rw [HN.out.1]; exact hil
      obtain ⟨l0, l1, l2, l3, l4, l5, l6, l7, l8⟩ := (HR.out.ext HX2.out).cells i hiL
      have hgl := lG wr _ l0
      have hcn := HI.out.cnt _ (List.getElem_mem hiL)
      have hst := HI.out.nonneg
      have hmade := HI.out.made x HXJ.out.1
      have hsN := sumK_snoc (kd := x.kd) (m := x.m) (k := x.k) (n := x.n) i hiL
      have hgN := goneK_take (kd := x.kd) (m := x.m) (k := x.k) (n := x.n) i hiL
      have hg0 := goneK_nonneg (kd := x.kd) (m := x.m) (k := x.k) (n := x.n) hst i
      have hgS := goneK_sum (kd := x.kd) (m := x.m) (k := x.k) (n := x.n) hst i (by omega)
      have hsq := HI.out.seq i hiL
      have hsT := fun h => sumK_take (kd := x.kd) (m := x.m) (k := x.k) (n := x.n) hst i hiL h
      rw [<- HXJ.out.2] at hsT
      have hi0 : (0 : Int) <= (i : Int) := by omega
      have hi1 : (i : Int) < n := by omega
      have hj0 : (0 : Int) <= (j : Int) := by omega
      have hj1 : (j : Int) < m := by omega
      by_cases hsm : sameC ls[i] x.kd x.m x.k x.n = true
      ·obtain ⟨e1, e2, e3, e4⟩ := sameC_iff.1 hsm
       rw [e1, e2, e3, e4] at hsq
       rw [hsm] at hsN hgN
       have hsT := hsT hsm
       rw [hsq] at l6
       rw [e1] at l2
       rw [e2] at l3
       rw [e3] at l4
       rw [e4] at l5
       generalize ls[i] = l at *
       obtain ⟨r, hrE⟩ : ∃ r, l.r = r := ⟨_, rfl⟩
       rw [hrE] at l8 hgN
       have HNx : Hid _ := And.intro hsN hgN
       clear hrE hsN hgN hsm e1 e2 e3 e4 hsq hst hiL
       generalize sumK x.kd x.m x.k x.n (ls.take i) = sm at *
       generalize goneK x.kd x.m x.k x.n (ls.take i) = gn at *
       cases r
       ·go_wp2_with fail
        go_quiet (fail)
        go_wp2_with fail
        refine ⟨⟨i + 1, by omega, by go_num, ?_, ?_, Ext.drewN HX2.out _⟩, by simp [intOf]; omega⟩
        ·rw [HNx.out.1]; simp
        ·rw [HNx.out.2]; simp
       ·go_wp2_with fail
        go_quiet (fail)
        go_wp2_with fail
        refine ⟨⟨i + 1, by omega, by go_num, ?_, ?_, Ext.drewN HX2.out _⟩, by simp [intOf]; omega⟩
        ·rw [HNx.out.1]; simp
        ·rw [HNx.out.2]; simp
      ·have hne : (ls[i].kd == (x.kd : Int) && (ls[i].m == (x.m : Int) && (ls[i].k == (x.k : Int) && ls[i].n == (x.n : Int)))) = false := Bool.eq_false_iff.2 hsm
       rw [Bool.eq_false_iff.2 hsm] at hsN hgN
       generalize ls[i] = l at *
       have HNx : Hid _ := And.intro hsN hgN
       clear hsN hgN hsm hsq hst hiL hsT
       generalize sumK x.kd x.m x.k x.n (ls.take i) = sm at *
       generalize goneK x.kd x.m x.k x.n (ls.take i) = gn at *
       go_wp2_with fail
       go_quiet (fail)
       go_wp2_with fail
       refine ⟨⟨i + 1, by omega, by go_num, ?_, ?_, Ext.drewN HX2.out _⟩, by simp [intOf]; omega⟩
       ·rw [HNx.out.1]; simp
       ·rw [HNx.out.2]; simp
     ·obtain rfl : i = n := by omega
      have hgn := gone_le HI.out HXJ.out.1
      have hgs' := goneK_sum (kd := x.kd) (m := x.m) (k := x.k) (n := x.n) HI.out.nonneg ls.length (Nat.le_refl _)
      have hg0 := goneK_nonneg (kd := x.kd) (m := x.m) (k := x.k) (n := x.n) HI.out.nonneg ls.length
      rw [List.take_length] at hgs' hg0
      rw [List.take_of_length_le (by rw [HN.out.1]; exact Nat.le_refl _), <- HXJ.out.2]
      rw [<- HXJ.out.2] at hgs'
      have hmade := HI.out.made x HXJ.out.1
      have hkp := List.length_filter_le (fun t => t.2) x.ts
      generalize goneK x.kd x.m x.k x.n ls = gn at *
      generalize (x.ts.filter (fun t => t.2)).length = kp at *
      generalize x.ts.length = md at *
      generalize x.leased = ld at *
      have hj0 : (0 : Int) <= (j : Int) := by omega
      have hj1 : (j : Int) < m := by omega
      obtain ⟨df, hdf⟩ : ∃ df : Int, (md : Int) - gn = df := ⟨_, rfl⟩
      have q1 : IntKind.i64.wrap ((md : Int) - gn) = df := by rw [IntKind.wrap_i64]; omega
      have q2 : wrap64 ((md : Int) - gn) = df := by rw [show ∀ z : Int, wrap64 z = IntKind.i64.wrap z from fun z => by rw [IntKind.wrap_i64, wrap64]]; exact q1
      have q3 : ¬ ((kp : Int) < df) := by omega
      have q4 : ¬ ((md : Int) < 1) := by omega
      have q5 : ¬ ((md : Int) < kp) := by omega
      have q6 : ¬ ((md : Int) < ld) := by omega
      clear hdf
      go_wp2_with fail
      go_quiet (fail)
      go_wp2_with fail
      exact ⟨⟨j + 1, by omega, by go_num, Ext.drewN HX2.out _⟩, by simp [intOf]; omega⟩
  ·obtain rfl : m = j := by omega
   generalize wr = w0 at *
   clear hlt hj
   go_wp2_with fail
   go_loopw [9] (fun i wr => ∃ j : Nat, j <= m /\ i = .int .i64 j /\ Ext w wr) (fun i _ => m - (intOf i).toNat)
   case atStart => exact ⟨0, Nat.zero_le _, rfl, HX.out⟩
   case round =>
    obtain ⟨j, hj, rfl, hx⟩ := hrel
    have HX2 : Hid (Ext w wr) := hx
    clear hx
    by_cases hlt : j < m
    ·as_aux_lemma =>
      obtain ⟨gs, rfl⟩ := HSA.out (by omega)
      have hjS : j < S.length := by rw [HN.out.2]; exact hlt
      have hcls := HI.out.cls _ (List.getElem_mem hjS)
      have hmade := HI.out.made _ (List.getElem_mem hjS)
      obtain ⟨x0, x1, x2, x3, x4, x5, x6⟩ := stocks_cells (Ext.owns HX2.out HS.out) j hjS
      have HUq : Hid (∀ i (hi : i < S.length), i < j -> ((S[i].kd : Int) == S[j].kd && ((S[i].m : Int) == S[j].m && ((S[i].k : Int) == S[j].k && (S[i].n : Int) == S[j].n))) = false) := fun i hi hij => by
       cases h : ((S[i].kd : Int) == S[j].kd && ((S[i].m : Int) == S[j].m && ((S[i].k : Int) == S[j].k && (S[i].n : Int) == S[j].n))) with
       | false => rfl
       | true =>
        have := HI.out.uniq i j hi hjS h
        omega
      generalize S[j] = x at *
      obtain ⟨kd, mm, kk, nn, ts, ld⟩ := x
      simp only at *
      have hsd : ((1 : Int) <= mm /\ (mm : Int) <= 3) /\ ((1 : Int) <= kk /\ (kk : Int) <= 3) /\ ((1 : Int) <= nn /\ (nn : Int) <= 3) /\ (kd = 1 \/ (kk = 1 /\ nn = 1) /\ (kd = 2 \/ kd = 0 /\ mm = 1)) := by
       by_cases h0 : kd = 0
       ·subst h0; rw [show ((0 : Nat) : Int) = 0 from rfl, isCls_0] at hcls; simp at hcls; omega
       ·by_cases h1 : kd = 1
        ·subst h1; rw [show ((1 : Nat) : Int) = 1 from rfl, isCls_1] at hcls; simp at hcls; omega
        ·by_cases h2 : kd = 2
         ·subst h2; rw [show ((2 : Nat) : Int) = 2 from rfl, isCls_2] at hcls; simp at hcls; omega
         ·rw [isCls_no _ _ _ (by omega) (by omega) (by omega)] at hcls; cases hcls
      generalize ts.length = md at *
      have hgs := lG wr _ x0
      have hj0 : (0 : Int) <= (j : Int) := by omega
      have hj1 : (j : Int) < m := by omega
      have HX0 : Hid _ := And.intro x4 hmade
      obtain ⟨⟨s1, s2⟩, ⟨s3, s4⟩, ⟨s5, s6⟩, hk⟩ := hsd
      clear hcls x5 x6 hjS hmade x4
      rcases hk with rfl | ⟨⟨rfl, rfl⟩, rfl | ⟨rfl, rfl⟩⟩
      ·go_wp2_with fail
       have hrow := heap_alloc_new wr (.cells #[.int .i64 1, .int .i64 (mm : Int), .int .i64 (kk : Int), .int .i64 (nn : Int)] 49)
       have hxa : Ext wr (wr.alloc (.cells #[.int .i64 1, .int .i64 (mm : Int), .int .i64 (kk : Int), .int .i64 (nn : Int)] 49)) := (Ext.refl wr).alloc _
       generalize World.alloc wr _ = W at hrow hxa ⊢
       obtain ⟨cb, hcb⟩ : ∃ cb, wr.heap.size = cb := ⟨_, rfl⟩
       rw [hcb] at hrow ⊢
       have HRow : Hid _ := hrow
       have HXW : Hid (Ext w W) := HX2.out.trans hxa
       have HX4 : Hid (W.cell? ⟨gs, j * 7 + 4, none⟩ = some (.int .i64 md) /\ md <= 200) := ⟨hxa.cell HX0.out.1, HX0.out.2.2.1⟩
       clear hrow hxa hcb x0 x1 x2 x3 hgs HX0 HX2 s1 s2 s3 s4 s5 s6
       go_loopw [12, 13] (fun ov iv w2 => ∃ i : Nat, i <= j /\ iv = .int .i64 i /\ ov = .bool true /\ Ext W w2) (fun _ iv _ => j - (intOf iv).toNat)
       case atStart => exact ⟨0, Nat.zero_le _, rfl, rfl, Ext.refl _⟩
       case round =>
        obtain ⟨i, hi, rfl, rfl, hx3⟩ := hrel
        have HX3 : Hid (Ext W wr) := hx3
        by_cases hil : i < j
        ·have hrow2 := hx3.block HRow.out
         have c0 := (cell_of_row wr _ 0 _ _ _ hrow2).trans (show _ = some (.int .i64 1) from rfl)
         have c1 := (cell_of_row wr _ 1 _ _ _ hrow2).trans (show _ = some (.int .i64 (mm : Int)) from rfl)
         have c2 := (cell_of_row wr _ 2 _ _ _ hrow2).trans (show _ = some (.int .i64 (kk : Int)) from rfl)
         have c3 := (cell_of_row wr _ 3 _ _ _ hrow2).trans (show _ = some (.int .i64 (nn : Int)) from rfl)
         have hcb := lG wr _ c0
         have hiS : i < S.length := by rw [HN.out.2]; omega
         obtain ⟨y0, y1, y2, y3, _, _, _⟩ := stocks_cells (Ext.owns (HXW.out.trans hx3) HS.out) i hiS
         have hgs := lG wr _ y0
         have hne : ((S[i].kd : Int) == 1 && ((S[i].m : Int) == (mm : Int) && ((S[i].k : Int) == (kk : Int) && (S[i].n : Int) == (nn : Int)))) = false := HUq.out i hiS hil
         have hi0 : (0 : Int) <= (i : Int) := by omega
         have hi1 : (i : Int) < m := by omega
         have hi2 : (i : Int) < j := by omega
         clear hx3 hrow2 HUq
         generalize S[i] = y at *
         clear hiS
         go_wp2_with fail
         go_quiet (fail)
         go_wp2_with fail
         exact ⟨⟨i + 1, by omega, by go_num, rfl, Ext.drewN HX3.out _⟩, by simp [intOf]; omega⟩
        ·obtain rfl : i = j := by omega
         have x4 := hx3.cell HX4.out.1
         have hmd := HX4.out.2
         have hmd2 : ¬ (200 : Int) < (md : Int) := by omega
         have hgs := lG wr _ x4
         clear hx3 HUq
         go_wp2_with fail
         exact ⟨⟨i + 1, by omega, by go_num, HXW.out.trans HX3.out⟩, by simp [intOf]; omega⟩
      ·go_wp2_with fail
       have hrow := heap_alloc_new wr (.cells #[.int .i64 2, .int .i64 (mm : Int), .int .i64 1, .int .i64 1] 49)
       have hxa : Ext wr (wr.alloc (.cells #[.int .i64 2, .int .i64 (mm : Int), .int .i64 1, .int .i64 1] 49)) := (Ext.refl wr).alloc _
       generalize World.alloc wr _ = W at hrow hxa ⊢
       obtain ⟨cb, hcb⟩ : ∃ cb, wr.heap.size = cb := ⟨_, rfl⟩
       rw [hcb] at hrow ⊢
       have HRow : Hid _ := hrow
       have HXW : Hid (Ext w W) := HX2.out.trans hxa
       have HX4 : Hid (W.cell? ⟨gs, j * 7 + 4, none⟩ = some (.int .i64 md) /\ md <= 200) := ⟨hxa.cell HX0.out.1, HX0.out.2.2.1⟩
       clear hrow hxa hcb x0 x1 x2 x3 hgs HX0 HX2 s1 s2 s3 s4 s5 s6
       go_loopw [12, 13] (fun ov iv w2 => ∃ i : Nat, i <= j /\ iv = .int .i64 i /\ ov = .bool true /\ Ext W w2) (fun _ iv _ => j - (intOf iv).toNat)
       case atStart => exact ⟨0, Nat.zero_le _, rfl, rfl, Ext.refl _⟩
       case round =>
        obtain ⟨i, hi, rfl, rfl, hx3⟩ := hrel
        have HX3 : Hid (Ext W wr) := hx3
        by_cases hil : i < j
        ·have hrow2 := hx3.block HRow.out
         have c0 := (cell_of_row wr _ 0 _ _ _ hrow2).trans (show _ = some (.int .i64 2) from rfl)
         have c1 := (cell_of_row wr _ 1 _ _ _ hrow2).trans (show _ = some (.int .i64 (mm : Int)) from rfl)
         have c2 := (cell_of_row wr _ 2 _ _ _ hrow2).trans (show _ = some (.int .i64 1) from rfl)
         have c3 := (cell_of_row wr _ 3 _ _ _ hrow2).trans (show _ = some (.int .i64 1) from rfl)
         have hcb := lG wr _ c0
         have hiS : i < S.length := by rw [HN.out.2]; omega
         obtain ⟨y0, y1, y2, y3, _, _, _⟩ := stocks_cells (Ext.owns (HXW.out.trans hx3) HS.out) i hiS
         have hgs := lG wr _ y0
         have hne : ((S[i].kd : Int) == 2 && ((S[i].m : Int) == (mm : Int) && ((S[i].k : Int) == 1 && (S[i].n : Int) == 1))) = false := HUq.out i hiS hil
         have hi0 : (0 : Int) <= (i : Int) := by omega
         have hi1 : (i : Int) < m := by omega
         have hi2 : (i : Int) < j := by omega
         clear hx3 hrow2 HUq
         generalize S[i] = y at *
         clear hiS
         go_wp2_with fail
         go_quiet (fail)
         go_wp2_with fail
         exact ⟨⟨i + 1, by omega, by go_num, rfl, Ext.drewN HX3.out _⟩, by simp [intOf]; omega⟩
        ·obtain rfl : i = j := by omega
         have x4 := hx3.cell HX4.out.1
         have hmd := HX4.out.2
         have hmd2 : ¬ (200 : Int) < (md : Int) := by omega
         have hgs := lG wr _ x4
         clear hx3 HUq
         go_wp2_with fail
         exact ⟨⟨i + 1, by omega, by go_num, HXW.out.trans HX3.out⟩, by simp [intOf]; omega⟩
      ·go_wp2_with fail
       have hrow := heap_alloc_new wr (.cells #[.int .i64 0, .int .i64 1, .int .i64 1, .int .i64 1] 49)
       have hxa : Ext wr (wr.alloc (.cells #[.int .i64 0, .int .i64 1, .int .i64 1, .int .i64 1] 49)) := (Ext.refl wr).alloc _
       generalize World.alloc wr _ = W at hrow hxa ⊢
       obtain ⟨cb, hcb⟩ : ∃ cb, wr.heap.size = cb := ⟨_, rfl⟩
       rw [hcb] at hrow ⊢
       have HRow : Hid _ := hrow
       have HXW : Hid (Ext w W) := HX2.out.trans hxa
       have HX4 : Hid (W.cell? ⟨gs, j * 7 + 4, none⟩ = some (.int .i64 md) /\ md <= 200) := ⟨hxa.cell HX0.out.1, HX0.out.2.2.1⟩
       clear hrow hxa hcb x0 x1 x2 x3 hgs HX0 HX2 s1 s2 s3 s4 s5 s6
       go_loopw [12, 13] (fun ov iv w2 => ∃ i : Nat, i <= j /\ iv = .int .i64 i /\ ov = .bool true /\ Ext W w2) (fun _ iv _ => j - (intOf iv).toNat)
       case atStart => exact ⟨0, Nat.zero_le _, rfl, rfl, Ext.refl _⟩
       case round =>
        obtain ⟨i, hi, rfl, rfl, hx3⟩ := hrel
        have HX3 : Hid (Ext W wr) := hx3
        by_cases hil : i < j
        ·have hrow2 := hx3.block HRow.out
         have c0 := (cell_of_row wr _ 0 _ _ _ hrow2).trans (show _ = some (.int .i64 0) from rfl)
         have c1 := (cell_of_row wr _ 1 _ _ _ hrow2).trans (show _ = some (.int .i64 1) from rfl)
         have c2 := (cell_of_row wr _ 2 _ _ _ hrow2).trans (show _ = some (.int .i64 1) from rfl)
         have c3 := (cell_of_row wr _ 3 _ _ _ hrow2).trans (show _ = some (.int .i64 1) from rfl)
         have hcb := lG wr _ c0
         have hiS : i < S.length := by rw [HN.out.2]; omega
         obtain ⟨y0, y1, y2, y3, _, _, _⟩ := stocks_cells (Ext.owns (HXW.out.trans hx3) HS.out) i hiS
         have hgs := lG wr _ y0
         have hne : ((S[i].kd : Int) == 0 && ((S[i].m : Int) == 1 && ((S[i].k : Int) == 1 && (S[i].n : Int) == 1))) = false := HUq.out i hiS hil
         have hi0 : (0 : Int) <= (i : Int) := by omega
         have hi1 : (i : Int) < m := by omega
         have hi2 : (i : Int) < j := by omega
         clear hx3 hrow2 HUq
         generalize S[i] = y at *
         clear hiS
         go_wp2_with fail
         go_quiet (fail)
         go_wp2_with fail
         exact ⟨⟨i + 1, by omega, by go_num, rfl, Ext.drewN HX3.out _⟩, by simp [intOf]; omega⟩
        ·obtain rfl : i = j := by omega
         have x4 := hx3.cell HX4.out.1
         have hmd := HX4.out.2
         have hmd2 : ¬ (200 : Int) < (md : Int) := by omega
         have hgs := lG wr _ x4
         clear hx3 HUq
         go_wp2_with fail
         exact ⟨⟨i + 1, by omega, by go_num, HXW.out.trans HX3.out⟩, by simp [intOf]; omega⟩
    ·obtain rfl : m = j := by omega
     generalize wr = w2 at *
     clear hlt hj HX
     go_wp2_with fail
     go_loopw [14] (fun i wr => ∃ j : Nat, j <= n /\ i = .int .i64 j /\ Ext w wr) (fun i _ => n - (intOf i).toNat)
     case atStart => exact ⟨0, Nat.zero_le _, rfl, HX2.out⟩
     case round =>
      obtain ⟨j, hj, rfl, hx⟩ := hrel
      have HX3 : Hid (Ext w wr) := hx
      clear HX2 hx
      by_cases hlt : j < n
      ·as_aux_lemma =>
        obtain ⟨gl, rfl⟩ := HLA.out (by omega)
        have hjL : j < ls.length := by rw [HN.out.1]; exact hlt
        have HL : Hid (ls[j] ∈ ls) := List.getElem_mem hjL
        have HLC : Hid (∀ w', Ext w w' -> _) := fun w' hx => (HR.out.ext hx).cells j hjL
        have HNm : Hid (∀ i (hi : i < ls.length), i < j -> ¬ (ls[i].s = ls[j].s /\ ls[i].i = ls[j].i)) := fun i hi hij h => by
         have := HI.out.names i j hi hjL h.1 h.2
         omega
        have hj0 : (0 : Int) <= (j : Int) := by omega
        have hj1 : (j : Int) < n := by omega
        generalize ls[j] = l at *
        clear hjL
        generalize wr = w3 at *
        go_wp2_with fail
        go_loopw [15, 16] (fun fv kv wr => ∃ k : Nat, k <= m /\ kv = .int .i64 k /\ fv = .bool ((S.take k).any (fun x => x.is l.kd l.m l.k l.n)) /\ Ext w wr) (fun _ kv _ => m - (intOf kv).toNat)
        case atStart => exact ⟨0, Nat.zero_le _, rfl, rfl, HX3.out⟩
        case round =>
         obtain ⟨k, hk, rfl, rfl, hx⟩ := hrel
         have HX4 : Hid (Ext w wr) := hx
         obtain ⟨l0, l1, l2, l3, l4, l5, l6, l7, l8⟩ := HLC.out wr hx
         have hgl := lG wr _ l0
         clear hx
         by_cases hkm : k < m
         ·obtain ⟨gs, rfl⟩ := HSA.out (by omega)
          have hkS : k < S.length := by rw [HN.out.2]; exact hkm
          obtain ⟨y0, y1, y2, y3, _, _, _⟩ := stocks_cells (Ext.owns HX4.out HS.out) k hkS
          have hgs := lG wr _ y0
          have HT : Hid ((S.take (k + 1)).any (fun x => x.is l.kd l.m l.k l.n) = ((S.take k).any (fun x => x.is l.kd l.m l.k l.n) || S[k].is l.kd l.m l.k l.n)) := by
           show _ = _
           rw [List.take_succ_eq_append_getElem hkS, List.any_append]
           simp
          have hk0 : (0 : Int) <= (k : Int) := by omega
          have hk1 : (k : Int) < m := by omega
          generalize (S.take k).any (fun x => x.is l.kd l.m l.k l.n) = fb at *
          generalize S[k] = y at *
          clear hkS
          have hyl : ((y.kd : Int) == l.kd && ((y.m : Int) == l.m && ((y.k : Int) == l.k && (y.n : Int) == l.n))) = y.is l.kd l.m l.k l.n := rfl
          generalize y.is l.kd l.m l.k l.n = yb at *
          cases fb
          ·cases yb
           ·go_wp2_with fail
            go_quiet (fail)
            go_wp2_with fail
            exact ⟨⟨k + 1, by omega, by go_num, by rw [HT.out]; rfl, Ext.drewN HX4.out _⟩, by simp [intOf]; omega⟩
           ·go_wp2_with fail
            go_quiet (fail)
            go_wp2_with fail
            exact ⟨⟨k + 1, by omega, by go_num, by rw [HT.out]; rfl, Ext.drewN HX4.out _⟩, by simp [intOf]; omega⟩
          ·clear hyl
           go_wp2_with fail
           go_quiet (fail)
           go_wp2_with fail
           exact ⟨⟨k + 1, by omega, by go_num, by rw [HT.out]; rfl, Ext.drewN HX4.out _⟩, by simp [intOf]; omega⟩
         ·obtain rfl : m = k := by omega
          have hany : (S.take m).any (fun x => x.is l.kd l.m l.k l.n) = true := by
           rw [List.take_of_length_le (by rw [HN.out.2]; exact Nat.le_refl _)]
           obtain ⟨x, hx⟩ := HI.out.has l HL.out
           exact List.any_eq_true.2 ⟨x, List.mem_of_find?_eq_some hx, by simpa using List.find?_some hx⟩
          rw [hany]
          have hlok := HI.out.lok l HL.out
          have hcnt := HI.out.cnt l HL.out
          obtain ⟨⟨q1, q2⟩, ⟨q3, q4⟩, _⟩ := hlok
          have q5 : l.c <= 40 := hcnt.2
          clear hany hcnt hkm hk
          generalize wr = w4 at *
          go_wp2_with fail
          clear l0 l1 l2 l3 l4 l5 l6 l7 l8 hgl q1 q2 q3 q4 q5
          go_loopw [15, 17] (fun fv kv wr => ∃ k : Nat, k <= j /\ kv = .int .i64 k /\ fv = .bool true /\ Ext w wr) (fun _ kv _ => j - (intOf kv).toNat)
          case atStart => exact ⟨0, Nat.zero_le _, rfl, rfl, HX4.out⟩
          case round =>
           obtain ⟨k, hk, rfl, rfl, hx⟩ := hrel
           have HX5 : Hid (Ext w wr) := hx
           by_cases hkj : k < j
           ·obtain ⟨l0, l1, l2, l3, l4, l5, l6, l7, l8⟩ := HLC.out wr hx
            have hgl := lG wr _ l0
            have hkL : k < ls.length := by rw [HN.out.1]; omega
            obtain ⟨m0, m1, _, _, _, _, _, _, _⟩ := (HR.out.ext hx).cells k hkL
            have hnm := HNm.out k hkL hkj
            have hk0 : (0 : Int) <= (k : Int) := by omega
            have hk1 : (k : Int) < n := by omega
            have hk2 : (k : Int) < j := by omega
            clear hx l2 l3 l4 l5 l6 l7 l8
            generalize ls[k] = lk at *
            clear hkL
            by_cases hs : lk.s = l.s
            ·have hni : ¬ lk.i = l.i := fun h => hnm ⟨hs, h⟩
             rw [hs] at m0
             clear hnm hs
             go_wp2_with fail
             go_quiet (fail)
             go_wp2_with fail
             exact ⟨⟨k + 1, by omega, by go_num, by simp [*], Ext.drewN HX5.out _⟩, by simp [intOf]; omega⟩
            ·clear hnm
             go_wp2_with fail
             go_quiet (fail)
             go_wp2_with fail
             exact ⟨⟨k + 1, by omega, by go_num, by simp [*], Ext.drewN HX5.out _⟩, by simp [intOf]; omega⟩
           ·obtain rfl : k = j := by omega
            clear hx
            go_wp2_with fail
            exact ⟨⟨k + 1, by omega, by go_num, HX5.out⟩, by simp [intOf]; omega⟩
      ·obtain rfl : n = j := by omega
       have hnI : (n : Int) <= 30 := by omega
       have hmI : (m : Int) <= 6 := by omega
       go_wp2_with fail
       all_goals go_ret
       all_goals exact ⟨ret_bool (by simp [*]), HX3.out⟩
theorem apart_x {lv sv : Value} {S : List Stk} {ls : List LsV} (hI : InvQ S ls) (w : World) (hr : LeasesAt w lv ls) (hs : w.ownsRow 0 116 7 sv S.length (toldAll S)) :
  Calls Tryz.prog 17 #[lv, sv] w fun e w' => e = .returned (.bool true) /\ Ext w w' := by
 rcases hr.form with ⟨rfl, hl⟩ | ⟨g, cap, rfl, _⟩
 ·subst hl
  rcases owns_form hs with ⟨rfl, hl2, _⟩ | ⟨gs, scap, rfl, _, _, _⟩
  ·exact apart_c (n := 0) (m := 0) hI rfl hl2 (fun h => absurd rfl h) (fun h => absurd rfl h) w hr (by rw [hl2] at hs; exact hs)
  ·exact apart_c (n := 0) hI rfl rfl (fun h => absurd rfl h) (fun _ => ⟨gs, rfl⟩) w hr hs
 ·rcases owns_form hs with ⟨rfl, hl2, _⟩ | ⟨gs, scap, rfl, _, _, _⟩
  ·exact apart_c (m := 0) hI rfl hl2 (fun _ => ⟨g, rfl⟩) (fun h => absurd rfl h) w hr (by rw [hl2] at hs; exact hs)
  ·exact apart_c hI rfl rfl (fun _ => ⟨g, rfl⟩) (fun _ => ⟨gs, rfl⟩) w hr hs
end
-- VAn
section
set_option maxRecDepth 100000
set_option maxHeartbeats 6400000
open Go.RowKit Go.Maps
def AnyRun (w wr : World) (N0 P : Nat) (fv : Value) (c : Nat) : Prop := ∃ B F d, RunAt wr P B fv /\ DealX wr B F d /\ d.Good /\ d.ops.length <= c /\ ¬ F P /\ (∀ b, F b -> N0 <= b) /\ Turn (fun b => N0 <= b) w wr
theorem anything_c {N0 : Nat} (fa : Option Addr) (fn fcap : Nat) (fs : List FileV) (hfn : fs.length = fn) (hfnb : fn <= 4611686018427387904) (hfsz : ∀ f ∈ fs, f.2.size <= 1000000000) (sa : Option Addr) (n cap : Nat) (hn : n <= 200000) (w : World) (hN0 : N0 <= w.heap.size) (hf : FilesAt w fa fs) (hs : KScriptAt w N0 sa n) :
  Calls Tryz.prog 8 #[.slice fa fn fcap, .slice sa n cap] w fun e w' => e = .returned (.bool true) /\ Turn (fun b => w.heap.size <= b) w w' := by
 have HRe : Hid (∀ w', FilesAt w' fa fs -> _) := fun w' h => restart_x fa fn fcap fs hfn hfnb hfsz w' h
 have HF : Hid (FilesAt w fa fs) := hf
 have hgood := restart_good (fileB fs)
 have hops0 : (DS.restart (fileB fs)).ops.length = 4 := rfl
 have HSc : Hid (KScriptAt w N0 sa n) := hs
 generalize DS.restart (fileB fs) = d at *
 have HG : Hid (d.Good /\ d.ops.length = 4) := ⟨hgood, hops0⟩
 have HN0 : Hid (N0 <= w.heap.size) := hN0
 clear hfn hfnb hfsz hf hs hgood hops0 hN0
 go_enter Tryz.func8, Tryz.ntmps8
 go_wp2_with fail
 refine (HRe.out _ HF.out).mono ?_
 rintro e w1 ⟨B, F, rfl, hd1, hF1, hx1⟩
 have HD1 : Hid (DealX w1 B F d /\ (∀ b, F b -> w.heap.size <= b) /\ Ext w w1) := ⟨hd1, hF1, hx1⟩
 clear hd1 hF1 hx1
 go_wp2_with fail
 refine (leases_x HG.out.1 HD1.out.1).mono ?_
 rintro e w2 ⟨lv, rfl, ho2, hx2⟩
 have HL2 : Hid (w2.ownsRow w1.heap.size 56 9 lv d.ls.length (lsCells d.ls) /\ Ext w1 w2) := ⟨ho2, hx2⟩
 clear ho2 hx2
 go_wp2_with fail
 refine (classes_x HG.out.1 (HD1.out.1.ext HL2.out.2)).mono ?_
 rintro e w3 ⟨sv, rfl, ho3, hx3⟩
 have HS3 : Hid (w3.ownsRow w2.heap.size 116 7 sv d.S.length (toldAll d.S) /\ Ext w2 w3) := ⟨ho3, hx3⟩
 clear ho3 hx3
 go_wp2_with fail
 refine (apart_x HG.out.1.inv _ (show LeasesAt w3 lv d.ls from owns_base (HS3.out.2.owns HL2.out.1) (Nat.zero_le _)) (owns_base HS3.out.1 (Nat.zero_le _))).mono ?_
 rintro e w4 ⟨rfl, hx4⟩
 have HX4 : Hid (Ext w1 w4) := HL2.out.2.trans (HS3.out.2.trans hx4)
 have HL4 : Hid (LeasesAt w4 lv d.ls) := by
  show World.ownsRow _ _ _ _ _ _ _
  exact owns_base ((HS3.out.2.trans hx4).owns HL2.out.1) (Nat.zero_le _)
 clear hx4
 go_wp2_with fail
 refine (told_x HG.out.1 (by have := HG.out.2; omega) _ (HD1.out.1.ext HX4.out) HL4.out (fun q hq hf => by
  have h1 := (World.ownsRow.lt HL2.out.1 q hq).1
  have h2 := HD1.out.1.lt q hf
  omega)).mono ?_
 rintro e w5 ⟨rfl, hA⟩
 obtain ⟨F5, hd5, ht5, hg5⟩ := hA
 have HD5 : Hid (DealX w5 B F5 d /\ (∀ b, F5 b -> w.heap.size <= b) /\ Turn (fun b => w.heap.size <= b) w w5) := by
  refine ⟨hd5, fun b hb => ?_, (Turn.of_ext (HD1.out.2.2.trans HX4.out)).trans' ht5 (fun b hb e => HD1.out.2.1 b e)⟩
  rcases hg5 b hb with h | h
  ·exact HD1.out.2.1 b h
  ·have := HD1.out.2.2.le; have := HX4.out.le; omega
 clear hd5 ht5 hg5
 go_wp2_with fail
 have hrow := heap_alloc_new w5 (.cells #[.pointer (some ⟨B, 0, none⟩), .slice fa fn fcap] 42)
 have hxa : Ext w5 (w5.alloc (.cells #[.pointer (some ⟨B, 0, none⟩), .slice fa fn fcap] 42)) := (Ext.refl w5).alloc _
 generalize World.alloc w5 _ = W at hrow hxa ⊢
 obtain ⟨P, hP⟩ : ∃ P, w5.heap.size = P := ⟨_, rfl⟩
 rw [hP] at hrow ⊢
 have HA0 : Hid (AnyRun w W w.heap.size P (.slice fa fn fcap) (4 + 4 * 0)) := by
  refine ⟨B, F5, d, hrow, HD5.out.1.ext hxa, HG.out.1, by have := HG.out.2; omega, fun hf => by have := HD5.out.1.lt P hf; omega, HD5.out.2.1, HD5.out.2.2.trans (Turn.of_ext hxa)⟩
 clear hrow hxa hP HD5 HL4 HX4 HS3 HL2 HD1
 go_loopw [10] (fun i wr => ∃ j : Nat, j <= n /\ i = .int .i64 j /\ AnyRun w wr w.heap.size P (.slice fa fn fcap) (4 + 4 * j)) (fun i _ => n - (intOf i).toNat)
 case atStart => exact ⟨0, Nat.zero_le _, rfl, HA0.out⟩
 case round =>
  obtain ⟨j, hj, rfl, hA⟩ := hrel
  have HA : Hid (AnyRun w wr w.heap.size P (.slice fa fn fcap) (4 + 4 * j)) := hA
  obtain ⟨B1, F1, d1, hr1, hd1, hg1, ho1, hP1, hF1, ht1⟩ := hA
  have HQ : Hid (RunAt wr P B1 (.slice fa fn fcap) /\ DealX wr B1 F1 d1 /\ d1.Good /\ d1.ops.length <= 4 + 4 * j /\ (¬ F1 P) /\ (∀ b, F1 b -> w.heap.size <= b) /\ Turn (fun b => w.heap.size <= b) w wr) := ⟨hr1, hd1, hg1, ho1, hP1, hF1, ht1⟩
  clear hr1 hd1 hg1 ho1 hP1 hF1 ht1 HA0
  by_cases hlt : j < n
  ·obtain ⟨b, off, rfl, hb, hcs⟩ := (HSc.out.turn (HQ.out.2.2.2.2.2.2.mono (fun b _ hb => Nat.le_trans HN0.out hb))).resolve_left (by omega)
   obtain ⟨cs, ⟨kd, a, b', c, n', ra, rl, rcap, D, rfl, i1, i2, i3, i4, i5, hDl, hrl, hdw, hbo⟩, hcell⟩ := hcs j hlt
   have s0 := hcell 0 _ rfl
   have s1 := hcell 1 _ rfl
   have s2 := hcell 2 _ rfl
   have s3 := hcell 3 _ rfl
   have s4 := hcell 4 _ rfl
   have s5 := hcell 5 _ rfl
   have hbl := lG wr _ s0
   have hj0 : (0 : Int) <= (j : Int) := by omega
   have hj1 : (j : Int) < n := by omega
   have HK : Hid _ := fun w => pick_c kd 7 (by decide) (by decide) i1.1 i1.2 w
   have hst := fun hk => step_x kd a b' c n' ra rl rcap D hk i1 i2 i3 i4 i5 hDl (by omega) HQ.out.2.2.1 (by have := HQ.out.2.2.2.1; omega) wr HQ.out.1 HQ.out.2.1 HQ.out.2.2.2.2.1 hdw
   have HStp : Hid (pickN kd 7 ≠ 6 -> _) := hst
   have HGd : Hid (stepS d1 kd a b' c n' D).2.Good := stepS_good kd a b' c n' D HQ.out.2.2.1 (by have := HQ.out.2.2.2.1; omega) HQ.out.2.1
   have HOp : Hid ((stepS d1 kd a b' c n' D).2.ops.length <= 4 + 4 * (j + 1)) := by
    show _ <= _
    have h1 := stepS_ops kd a b' c n' D HQ.out.2.2.1.ah
    have h2 := HQ.out.2.2.2.1
    omega
   simp only [Nat.add_zero] at s0
   clear hcs hcell i1 i2 i3 i4 i5 hDl hrl hdw hbo hst
   have lk := pickN_lt kd (show 0 < 7 by decide)
   generalize hpk : pickN kd 7 = pk at HK lk
   have HPK : Hid (pickN kd 7 = pk) := hpk
   unfold stepV at HStp
   by_cases h6 : pk = 6
   ·subst h6
    clear hpk
    go_wp2_with fail
    refine (HK.out _).mono ?_
    rintro e w6 ⟨rfl, rfl⟩
    go_wp2_with fail
    refine ⟨⟨j + 1, by omega, by go_num, ?_⟩, by simp [intOf]; omega⟩
    obtain ⟨a1, a2, a3, a4, a5, a6, a7⟩ := HQ.out
    exact ⟨B1, F1, d1, a1, a2, a3, by omega, a5, a6, a7⟩
   ·have hpk6 : ¬ (pk : Int) = 6 := by omega
    have HNe : Hid (pickN kd 7 ≠ 6) := by rw [hpk]; exact h6
    clear hpk h6
    go_wp2_with fail
    refine (HK.out _).mono ?_
    rintro e w6 ⟨rfl, rfl⟩
    go_wp2_with fail
    refine (HStp.out HNe.out).mono ?_
    rintro e w6 ⟨xa, xl, xc, F', rfl, hz, hx⟩
    have HX : Hid (StepX (stepS d1 kd a b' c n' D) wr w6 P (.slice fa fn fcap) F1 F' (.slice xa xl xc)) := hx
    clear hx hz
    go_wp2_with fail
    refine ⟨⟨j + 1, by omega, by go_num, ?_⟩, by simp [intOf]; omega⟩
    obtain ⟨a1, a2, a3, a4, a5, a6, a7⟩ := HQ.out
    obtain ⟨B2, h1, h2⟩ := HX.out.run
    have hPl : P < wr.heap.size := (Array.getElem?_eq_some_iff.1 a1).1
    have h7s := a7.size
    refine ⟨B2, F', _, h1, h2, HGd.out, HOp.out, fun hf => (HX.out.grows P hf).elim a5 (fun h => by omega), fun b hb => (HX.out.grows b hb).elim (a6 b) (fun h => by omega), a7.trans' HX.out.turn (fun b hb e => a6 b e)⟩
  ·obtain rfl : n = j := by omega
   have p0 := cell_at HQ.out.1 (i := 0) rfl
   have hPl := lG wr _ p0
   go_wp2_with fail
   refine (leases_x HQ.out.2.2.1 HQ.out.2.1).mono ?_
   rintro e w2 ⟨lv', rfl, ho2, hx2⟩
   have HL2 : Hid (w2.ownsRow wr.heap.size 56 9 lv' d1.ls.length (lsCells d1.ls) /\ Ext wr w2) := ⟨ho2, hx2⟩
   have p2 := hx2.cell p0
   have hP2 := lG w2 _ p2
   clear ho2 hx2 p0 hPl
   go_wp2_with fail
   refine (classes_x HQ.out.2.2.1 (HQ.out.2.1.ext HL2.out.2)).mono ?_
   rintro e w3 ⟨sv', rfl, ho3, hx3⟩
   have HS3 : Hid (w3.ownsRow w2.heap.size 116 7 sv' d1.S.length (toldAll d1.S) /\ Ext w2 w3) := ⟨ho3, hx3⟩
   have p3 := hx3.cell p2
   clear ho3 hx3 p2 hP2
   go_wp2_with fail
   refine (apart_x HQ.out.2.2.1.inv _ (show LeasesAt w3 lv' d1.ls from owns_base (HS3.out.2.owns HL2.out.1) (Nat.zero_le _)) (owns_base HS3.out.1 (Nat.zero_le _))).mono ?_
   rintro e w4 ⟨rfl, hx4⟩
   have HX4 : Hid (Ext wr w4) := HL2.out.2.trans (HS3.out.2.trans hx4)
   have HL4 : Hid (LeasesAt w4 lv' d1.ls) := by
    show World.ownsRow _ _ _ _ _ _ _
    exact owns_base ((HS3.out.2.trans hx4).owns HL2.out.1) (Nat.zero_le _)
   have p4 := hx4.cell p3
   have hP4 := lG w4 _ p4
   clear hx4 p3
   go_wp2_with fail
   refine (told_x HQ.out.2.2.1 (by have := HQ.out.2.2.2.1; omega) _ (HQ.out.2.1.ext HX4.out) HL4.out (fun q hq hf => by
    have h1 := (World.ownsRow.lt HL2.out.1 q hq).1
    have h2 := HQ.out.2.1.lt q hf
    omega)).mono ?_
   rintro e w5 ⟨rfl, hA5⟩
   have HT : Hid (Turn (fun b => w.heap.size <= b) w w5) := by
    obtain ⟨F5, hd5, ht5, hg5⟩ := hA5
    exact (HQ.out.2.2.2.2.2.2.trans (Turn.of_ext HX4.out)).trans' ht5 (fun b hb e => HQ.out.2.2.2.2.2.1 b e)
   clear hA5 p4 hP4
   go_wp2_with fail
   go_ret
   exact ⟨rfl, HT.out⟩
end
-- VZa
section
set_option maxRecDepth 100000
open Go.ChangeShapes Go.WideShapes Go.ChangeAt Go.RowKit Go.Joins
theorem anything_contract (H : Type) (enc : TypeId × Value -> H) (W : World) (base : Nat) (args : Array Value) (ds gs : List (DataW H)) (before : List MemPlace)
  (hval : ∀ (j : Nat) t v, Tryz.f8.params[j]? = some t -> args[j]? = some v -> Value.okWide Tryz.prog W .any base t v)
  (hW : DataW.Whole enc Tryz.prog Tryz.f8.params.toList Rows.anythingSpec.vars false W args.toList ds gs before) (hk : Rows.uptoSmall H (ds ++ gs) = true) :
  Calls Tryz.prog 8 args W fun e W' => ∃ v, e = .returned v /\ Rows.anythingSpec.post enc Tryz.prog Tryz.f8 false true false false W args v W' := by
 have hW' := hW
 obtain ⟨p, q, hA0, hV, rfl, hfz, hnd⟩ := hW
 have hA : DataW.TrodAll enc Tryz.prog W 0 (fun _ => true) true Tryz.f8.params.toList args.toList ds p := hA0
 rw [Tryz.params8] at hA hval
 obtain ⟨v0, vs0, d0, ds0, p0, q0, hargs, rfl, rfl, h0, r0⟩ := trodAll_cons hA
 obtain ⟨v1, vs1, d1, ds1, p1, q1, rfl, rfl, rfl, h1, r1⟩ := trodAll_cons r0
 obtain ⟨rfl, rfl, rfl⟩ := trodAll_nil r1
 obtain rfl : args = #[v0, v1] := by cases args; simp_all
 obtain ⟨rfl, rfl⟩ := trodVars_none hV
 have k0 := h0
 have lt0 : ∀ x ∈ p0, x.block < W.heap.size := by obtain ⟨m, hm⟩ := k0; exact DataW.trod_lt m _ _ _ hm
 have k1 := h1
 have lt1 : ∀ x ∈ p1, x.block < W.heap.size := by obtain ⟨m, hm⟩ := k1; exact DataW.trod_lt m _ _ _ hm
 have hbulk : Rows.uptoBulkAll ([d0, d1] ++ []) <= 1048576 := of_decide_eq_true hk
 simp only [List.append_nil, Rows.uptoBulkAll] at hbulk
 obtain ⟨a0, len0, cap0, rfl⟩ := okWide_slice Tryz.underlying40 (hval 0 40 v0 rfl rfl)
 obtain ⟨fs0, hl0, hn0, hz0, hf0⟩ : ∃ fs : List (ByteArray × ByteArray), fs.length = len0 /\ len0 <= 1048576 /\ (∀ f ∈ fs, f.2.size <= 1048576) /\ FilesAt W a0 fs := by
  obtain ⟨fuel, hf⟩ := h0
  obtain ⟨a, n, cap, fs, hv, hl, hn, hz, hs⟩ := open_files (y := (d0, p0)) hf (show Rows.uptoBulk d0 <= 1048576 by omega)
  injection hv with e1 e2 e3
  subst e1; subst e2
  exact ⟨fs, hl, hn, hz, hs⟩
 obtain ⟨a1, len1, cap1, rfl⟩ := okWide_slice Tryz.underlying27 (hval 1 27 v1 rfl rfl)
 obtain ⟨hn1, hs1⟩ : len1 <= 150000 /\ KScriptAt W W.heap.size a1 len1 := by
  obtain ⟨fuel, hf⟩ := h1
  obtain ⟨a, n, cap, hv, hn, hs⟩ := open_kscript (y := (d1, p1)) hf (show Rows.uptoBulk d1 <= 1048576 by omega)
  injection hv with e1 e2 e3
  subst e1; subst e2
  exact ⟨hn, hs⟩
 clear hA0 h0 h1
 refine (anything_c (N0 := W.heap.size) a0 len0 cap0 fs0 hl0 (by omega) (fun f hf => by have := hz0 f hf; omega) a1 len1 cap1 (by omega) W (Nat.le_refl _) hf0 hs1).mono fun e W' ⟨he, ht⟩ => ?_
 have bel : Below W.heap.size W W' := ext_of_turn ht
 subst he
 exact ⟨_, rfl, _, _, _, [], _, [], hW', trodAll_mk1 (shut_bool Tryz.underlying4 _), (trodAll_cons_mk (Below.trod laidOutK (by kernel_rfl) (of_decide_eq_true (by kernel_rfl)) k0 bel lt0) (trodAll_cons_mk (Below.trod laidOutK (by kernel_rfl) (of_decide_eq_true (by kernel_rfl)) k1 bel lt1) trodAll_mk0)), rfl, bel.frame _, fun h => by cases h⟩
theorem anything_lifted (os : Os) (started : os.Started) (H : Type) (enc : TypeId × Value -> H) (F : Stop.Interp) :
  ReturnsInHanded {} Tryz.checked os 8 .any ((Rows.OpenSpec.upto Rows.anythingSpec).pre6 enc Tryz.prog Tryz.f8 Rows.anythingUptoRow.domain false) (((Rows.OpenSpec.upto Rows.anythingSpec).at F).post enc Tryz.prog Tryz.f8 false true false false) := by
 refine returnsInHanded_of_cond (C := Tryz.checked) (s := Rows.OpenSpec.upto Rows.anythingSpec) (k := Rows.uptoSmall) rfl ownK started (by kernel_rfl) Tryz.func8
  (OpenSpec.witness (enc := enc) (C := Tryz.checked) (s := Rows.OpenSpec.upto Rows.anythingSpec) (k := Rows.uptoSmall) rfl false ⟨#[], #[.slice none 0 0, .slice none 0 0], []⟩ 8 (by kernel_rfl) (by kernel_rfl) (by kernel_rfl)
    (x := ([.nil, .nil], [], [])) (by kernel_rfl) rfl (by kernel_rfl)) ?_
 intro W base args ds gs before hval hW _ hk _
 exact anything_contract H enc W base args ds gs before hval hW hk
theorem anything_over : Rows.anythingUptoRow.holds Tryz.pinned (Rows.OpenSpec.upto Rows.anythingSpec) :=
 OpenClaim.holds_of_cond 8 Tryz.f8 rfl rfl rfl rfl rfl rfl rfl ⟨rfl, rfl, rfl, rfl, rfl⟩ rfl rfl rfl rfl rfl (by kernel_rfl) Tryz.func8 (by kernel_rfl)
  (of_decide_eq_true (by kernel_rfl)) (by unfold Func.isWrapper; first | (rw [if_pos (by decide +kernel)]; kernel_rfl) | (rw [if_neg (by decide +kernel)]; exact ⟨rfl, rfl⟩))
  (fun os started H enc _ F => anything_lifted os started H enc F)
theorem anything_holds : Rows.AnythingUptoSaid := anything_over
end
-- VRu
section
open Go.RowKit Go.Maps
structure RunsOf (w wr : World) (P j : Nat) (d : DS) (fs : List FileV) (G : Nat -> Prop) : Prop where
 run : RunS wr P G d fs
 ok : RunOk d fs j
 keep : Keep4 d
 new : ∀ b, G b -> w.heap.size <= b
 turn : Turn (fun b => w.heap.size <= b) w wr
theorem runs_began {w w1 : World} {P B : Nat} (h1 : RunAt w1 P B (.slice none 0 0)) (h2 : DealX w1 B (fun b => b = B) DS.opened) (h3 : w.heap.size <= P) (h4 : w.heap.size <= B) (h5 : P ≠ B) (hx : Ext w w1) : RunsOf w w1 P 0 DS.opened [] (fun b => b = P \/ b = B) := by
 refine ⟨⟨⟨B, fun b => b = B, .slice none 0 0, h1, h2, World.ownsRow_nil _ _ _ _, h5, fun q hq => by simp [lH] at hq, fun b hb => .inr hb⟩, .inl rfl, fun b hb => ?_⟩, runOk_opened, ⟨by simp [DS.opened], by simp [DS.opened]⟩, fun b hb => ?_, Turn.of_ext hx⟩
 ·rcases hb with rfl | rfl
  ·exact (Array.getElem?_eq_some_iff.1 h1).1
  ·exact h2.lt b rfl
 ·rcases hb with rfl | rfl
  ·exact h3
  ·exact h4
theorem RunsOf.ext {w wr w' : World} {P j : Nat} {d : DS} {fs : List FileV} {G : Nat -> Prop} (h : RunsOf w wr P j d fs G) (hx : Ext wr w') : RunsOf w w' P j d fs G := ⟨h.run.ext hx, h.ok, h.keep, h.new, h.turn.trans (Turn.of_ext hx)⟩
theorem RunsOf.next {w wr w' : World} {P j : Nat} {d d' : DS} {fs fs' : List FileV} {G G' : Nat -> Prop} {zs : List Int} {rv : Value} (h : RunsOf w wr P j d fs G) (hs : StepR d' fs' zs wr w' P G G' rv) (ho : RunOk d' fs' (j + 1)) (hk : Keep4 d') : RunsOf w w' P (j + 1) d' fs' G' :=
 ⟨hs.run, ho, hk, fun b hb => (hs.grows b hb).elim (h.new b) (fun h' => Nat.le_trans h.turn.size h'), h.turn.trans' hs.turn (fun b _ hb => h.new b hb)⟩
structure StepAt (w : World) (b off : Nat) (kd a b' c n : Int) (ra : Option Addr) (rl rcap : Nat) (D : List Int) : Prop where
 s0 : w.cell? ⟨b, off, none⟩ = some (.int .i64 kd)
 s1 : w.cell? ⟨b, off + 1, none⟩ = some (.int .i64 a)
 s2 : w.cell? ⟨b, off + 2, none⟩ = some (.int .i64 b')
 s3 : w.cell? ⟨b, off + 3, none⟩ = some (.int .i64 c)
 s4 : w.cell? ⟨b, off + 4, none⟩ = some (.int .i64 n)
 s5 : w.cell? ⟨b, off + 5, none⟩ = some (.slice ra rl rcap)
 i1 : inI kd
 i2 : inI a
 i3 : inI b'
 i4 : inI c
 i5 : inI n
 len : D.length = rl
 le : rl <= 100000000
 dw : DrawsAt w ra rl D
theorem StepAt.turn {w w' : World} {b off : Nat} {kd a b' c n : Int} {ra : Option Addr} {rl rcap : Nat} {D : List Int} {N0 : Nat} (h : StepAt w b off kd a b' c n ra rl rcap D) (ht : Turn (fun b => N0 <= b) w w') (hb : b < N0) (hd : ∀ b off, rl ≠ 0 /\ ra = some ⟨b, off, none⟩ -> b < N0) : StepAt w' b off kd a b' c n ra rl rcap D :=
 have k : ∀ {i v}, w.cell? ⟨b, i, none⟩ = some v -> w'.cell? ⟨b, i, none⟩ = some v := fun hc => ht.cell hc (fun hl => by simp only at hl; omega)
 ⟨k h.s0, k h.s1, k h.s2, k h.s3, k h.s4, k h.s5, h.i1, h.i2, h.i3, h.i4, h.i5, h.len, h.le, h.dw.turn ht (fun b off e hl => by have := hd b off e; omega)⟩
theorem script_at {w wr : World} {N0 n j : Nat} {sa : Option Addr} (h : KScriptAt w N0 sa n) (ht : Turn (fun b => N0 <= b) w wr) (hj : j < n) : ∃ b off, sa = some ⟨b, off, none⟩ /\ b < N0 /\ ∃ kd a b' c n' ra rl rcap D, StepAt wr b (off + j * 6) kd a b' c n' ra rl rcap D /\ ∀ b off, rl ≠ 0 /\ ra = some ⟨b, off, none⟩ -> b < N0 := by
 obtain ⟨b, off, rfl, hb, hcs⟩ := (h.turn ht).resolve_left (by omega)
 obtain ⟨cs, ⟨kd, a, b', c, n', ra, rl, rcap, D, rfl, i1, i2, i3, i4, i5, hDl, hrl, hdw, hbo⟩, hcell⟩ := hcs j hj
 exact ⟨b, off, rfl, hb, kd, a, b', c, n', ra, rl, rcap, D, ⟨hcell 0 _ rfl, hcell 1 _ rfl, hcell 2 _ rfl, hcell 3 _ rfl, hcell 4 _ rfl, hcell 5 _ rfl, i1, i2, i3, i4, i5, hDl, hrl, hdw⟩, hbo⟩
end
end Go.Proofs.YtmnjhhachdlmkaaGreat
