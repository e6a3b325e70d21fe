import Derived.Test.YtmnjhhachdlmkaaGreatK19
import Derived.Test.YtmnjhhachdlmkaaGreatK17
import Derived.Test.YtmnjhhachdlmkaaGreatK09
namespace Go.Proofs.YtmnjhhachdlmkaaGreat
set_option linter.unusedVariables false
set_option linter.unusedSimpArgs false
open World renaming block_lt_of_cell? -> lG
open Value renaming ownBlock -> lH
-- VAg
section
set_option maxRecDepth 100000
set_option maxHeartbeats 6400000
open Go.RowKit Go.Maps
theorem FileRow.at {w : World} {base n cap : Nat} {fa : Option Addr} {fs : List FileV} (h : FileRow w base (.slice fa n cap) fs) : fs.length = n /\ FilesAt w fa fs := by
 rcases owns_form h with ⟨e, hl, _⟩ | ⟨g, cap', e, _, _, _⟩
 ·injection e with e1 e2 e3
  obtain rfl : fs = [] := List.length_eq_zero_iff.1 hl
  exact ⟨by simp [e2], .inl rfl⟩
 ·injection e with e1 e2 e3
  subst e1 e2
  refine ⟨rfl, .inr ⟨g, 0, rfl, fun i hi => ?_⟩⟩
  rw [Nat.zero_add]
  exact h.cells i hi
structure AgainX (d : DS) (fs : List FileV) (w w' : World) (P : Nat) (B' : Nat) (F' : Nat -> Prop) (fv' : Value) : Prop where
 run : RunAt w' P B' fv'
 deal : DealX w' B' F' (DS.restart (fileB (doneS fs d.ops)))
 row : FileRow w' w.heap.size fv' (doneS fs d.ops)
 new : ∀ b, F' b -> w.heap.size <= b
 free : ∀ q, fv'.ownBlock = some q -> ¬ F' q
 turn : Turn (fun b => b = P) w w'
theorem again_x {P B : Nat} {fv : Value} {F : Nat -> Prop} {d : DS} {fs : List FileV} {M : Nat} (hnb : fs.length + d.ops.length <= 10000000) (ho : d.ops.length <= 1000000) (hM : ∀ f ∈ fs, f.2.size <= M) (hcap : capN M d.ops <= 1000000000) (w : World) (hr : RunAt w P B fv) (hd : DealX w B F d) (hf : FileRow w 0 fv fs) :
  Calls Tryz.prog 48 #[.pointer (some ⟨P, 0, none⟩)] w fun e w' => e = .returned (.bool true) /\ ∃ B' F' fv', AgainX d fs w w' P B' F' fv' := by
 have hp0 := cell_at hr (i := 0) rfl
 have hp1 := cell_at hr (i := 1) rfl
 have hPl := lG w _ hp0
 have HR : Hid (RunAt w P B fv) := hr
 have HDk : Hid (∀ w', Ext w w' -> _) := fun w' hx => disk_x ho (hd.ext hx)
 have HDn : Hid (∀ w' dv, Ext w w' -> w'.ownsRow 0 134 4 dv d.ops.length (opCells d.ops) -> _) := fun w' dv hx hrow => done_x hnb hM hcap w' (hx.owns hf) hrow
 have HSz : Hid ((doneS fs d.ops).length <= 4611686018427387904 /\ ∀ f ∈ doneS fs d.ops, f.2.size <= 1000000000) := ⟨by have := doneS_len fs d.ops; omega, fun f hf => Nat.le_trans (doneS_size hM d.ops f hf) hcap⟩
 clear hr hd hf hM hcap hnb ho
 go_enter Tryz.func48, Tryz.ntmps48
 go_wp2_with fail
 refine (HDk.out _ (Ext.refl _)).mono ?_
 rintro e w1 ⟨dv, rfl, ho1, hx1⟩
 have HX1 : Hid (Ext w w1) := hx1
 have HO1 : Hid (w1.ownsRow 0 134 4 dv d.ops.length (opCells d.ops)) := owns_base ho1 (Nat.zero_le _)
 have p0 := hx1.cell hp0
 have p1 := hx1.cell hp1
 have hP1 := lG w1 _ p0
 clear ho1 hx1 hp0 hp1 hPl
 go_wp2_with fail
 refine (HDn.out _ _ HX1.out HO1.out).mono ?_
 rintro e w2 ⟨v2, rfl, hr2, hx2⟩
 obtain ⟨fa, fcap, rfl⟩ := owns_slice hr2
 have HX2 : Hid (Ext w w2) := HX1.out.trans hx2
 have HR2 : Hid (FileRow w2 w.heap.size (.slice fa (doneS fs d.ops).length fcap) (doneS fs d.ops)) := owns_base hr2 HX1.out.le
 have hrow := HX2.out.block HR.out
 have HRow : Hid _ := hrow
 have q0 := cell_at hrow (i := 0) rfl
 have q1 := cell_at hrow (i := 1) rfl
 have f0 := frozen_row hrow 0
 have f1 := frozen_row hrow 1
 have hP2 := lG w2 _ q0
 have HRe : Hid (∀ w', FilesAt w' fa (doneS fs d.ops) -> _) := fun w' h => restart_x fa (doneS fs d.ops).length fcap (doneS fs d.ops) rfl HSz.out.1 HSz.out.2 w' h
 generalize hgs : doneS fs d.ops = gs at *
 generalize hgl : gs.length = gn at *
 have HGS : Hid (doneS fs d.ops = gs /\ gs.length = gn) := ⟨hgs, hgl⟩
 clear hr2 hx2 p0 p1 hP1 hrow hgs hgl
 go_wp2_with fail
 have hw3 := setCell_row (i := 1) HRow.out (.slice fa gn fcap)
 have ht3 : Turn (fun b => b = P) w2 (w2.setCell ⟨P, 1, none⟩ (.slice fa gn fcap)) := Turn.setCell (S := fun b => b = P) (Turn.refl _ _) (fun _ => rfl) _
 have hPw : P < w.heap.size := (Array.getElem?_eq_some_iff.1 HR.out).1
 have HPw : Hid (P < w.heap.size) := hPw
 have hr3 : FileRow (w2.setCell ⟨P, 1, none⟩ (.slice fa gn fcap)) w.heap.size (.slice fa gn fcap) gs := ht3.owns HR2.out (fun q hq e => by
  have := (World.ownsRow.lt HR2.out q hq).1
  omega)
 generalize World.setCell w2 _ _ = w3 at hw3 ht3 hr3 ⊢
 have HT3 : Hid (Turn (fun b => b = P) w2 w3) := ht3
 have HR3 : Hid (FileRow w3 w.heap.size (.slice fa gn fcap) gs) := hr3
 have HW3 : Hid (w3.heap[P]? = some (.cells #[.pointer (some ⟨B, 0, none⟩), .slice fa gn fcap] 42 (0, 0))) := by
  show _ = _
  simpa using hw3
 refine (HRe.out _ hr3.at.2).mono ?_
 clear hw3 ht3 hr3 q0 q1 f0 f1 hP2 hPw
 rintro e w4 ⟨B', F', rfl, hd4, hF4, hx4⟩
 have hrow := hx4.block HW3.out
 have HD4 : Hid (DealX w4 B' F' (DS.restart (fileB gs))) := hd4
 have HF4 : Hid (∀ b, F' b -> w3.heap.size <= b) := hF4
 have HX4 : Hid (Ext w3 w4) := hx4
 have HRow4 : Hid _ := hrow
 have q0 := cell_at hrow (i := 0) rfl
 have q1 := cell_at hrow (i := 1) rfl
 have f0 := frozen_row hrow 0
 have f1 := frozen_row hrow 1
 have hP4 := lG w4 _ q0
 clear hd4 hF4 hx4 hrow
 go_wp2_with fail
 have hw5 := setCell_row (i := 0) HRow4.out (.pointer (some ⟨B', 0, none⟩))
 have ht5 : Turn (fun b => b = P) w4 (w4.setCell ⟨P, 0, none⟩ (.pointer (some ⟨B', 0, none⟩))) := Turn.setCell (S := fun b => b = P) (Turn.refl _ _) (fun _ => rfl) _
 have hP3 : P < w3.heap.size := (Array.getElem?_eq_some_iff.1 HW3.out).1
 have hd5 := HD4.out.turn ht5 (fun b hb e => by have := HF4.out b hb; omega)
 have hr5 : FileRow (w4.setCell ⟨P, 0, none⟩ (.pointer (some ⟨B', 0, none⟩))) w.heap.size (.slice fa gn fcap) gs := ht5.owns (HX4.out.owns HR3.out) (fun q hq e => by
  have := (World.ownsRow.lt HR3.out q hq).1
  have := HPw.out
  omega)
 have hT : Turn (fun b => b = P) w (w4.setCell ⟨P, 0, none⟩ (.pointer (some ⟨B', 0, none⟩))) := ((Turn.of_ext HX2.out).trans HT3.out).trans ((Turn.of_ext HX4.out).trans ht5)
 go_ret
 have h23 := HT3.out.size
 have hw2 := HX2.out.le
 refine ⟨by simp [*], B', F', .slice fa gn fcap, ⟨by show _ = _; simpa using hw5, by rw [HGS.out.1]; exact hd5, by rw [HGS.out.1]; exact hr5, fun b hb => by have := HF4.out b hb; omega, fun q hq hf => ?_, hT⟩⟩
 have h1 := HF4.out q hf
 have h2 := (World.ownsRow.lt HR3.out q hq).2
 omega
end
-- VSr
section
open Go.RowKit Go.Maps
structure RunS (w : World) (P : Nat) (G : Nat -> Prop) (d : DS) (fs : List FileV) : Prop where
 ex : ∃ B F fv, RunAt w P B fv /\ DealX w B F d /\ FileRow w 0 fv fs /\ ¬ F P /\ (∀ q, fv.ownBlock = some q -> ¬ F q /\ G q /\ q ≠ P) /\ (∀ b, F b -> G b)
 own : G P
 lt : ∀ b, G b -> b < w.heap.size
theorem RunS.turn {w w' : World} {P : Nat} {G X : Nat -> Prop} {d : DS} {fs : List FileV} (h : RunS w P G d fs) (ht : Turn X w w') (hx : ∀ b, G b -> ¬ X b) : RunS w' P G d fs := by
 obtain ⟨⟨B, F, fv, h1, h2, h3, h4, h5, h6⟩, h7, h8⟩ := h
 exact ⟨⟨B, F, fv, ht.ref h1 (hx P h7), h2.turn ht (fun b hb => hx b (h6 b hb)), ht.owns h3 (fun q hq => hx q (h5 q hq).2.1), h4, h5, h6⟩, h7, fun b hb => Nat.lt_of_lt_of_le (h8 b hb) ht.size⟩
theorem RunS.ext {w w' : World} {P : Nat} {G : Nat -> Prop} {d : DS} {fs : List FileV} (h : RunS w P G d fs) (hx : Ext w w') : RunS w' P G d fs := h.turn (X := fun _ => False) (Turn.of_ext hx) (fun _ _ => id)
structure StepR (d' : DS) (fs' : List FileV) (zs : List Int) (w w' : World) (P : Nat) (G G' : Nat -> Prop) (rv : Value) : Prop where
 run : RunS w' P G' d' fs'
 turn : Turn G w w'
 grows : ∀ b, G' b -> G b \/ w.heap.size <= b
 row : w'.ownsRow w.heap.size 146 1 rv zs.length (zs.map (Value.int .u64))
 free : ∀ b, rv.ownBlock = some b -> ¬ G' b
def StepRP (p : Rep × DS × List FileV) (w w' : World) (P : Nat) (G : Nat -> Prop) (e : Ending) : Prop :=
 ∃ ra rl rc G', e = .returned (.tuple #[replyV p.1.c p.1.f p.1.n (.slice ra rl rc), .bool true]) /\ p.1.zs.length <= 100000000 /\ StepR p.2.1 p.2.2 p.1.zs w w' P G G' (.slice ra rl rc)
theorem stepR_plain {w w' : World} {P B : Nat} {fv : Value} {F G : Nat -> Prop} {d : DS} {fs : List FileV} {p : Rep × DS} {e : Ending} (hr : RunAt w P B fv) (hd : DealX w B F d) (hf : FileRow w 0 fv fs) (h4 : ¬ F P) (h5 : ∀ q, fv.ownBlock = some q -> ¬ F q /\ G q /\ q ≠ P) (h6 : ∀ b, F b -> G b) (h7 : G P) (h8 : ∀ b, G b -> b < w.heap.size) (h : StepPost p w w' P fv F e) : StepRP (p.1, p.2, fs) w w' P G e := by
 obtain ⟨ra, rl, rc, F', he, hz, hx⟩ := h
 obtain ⟨B', h1, h2⟩ := hx.run
 have hPl := h8 P h7
 have hPF : ¬ F' P := fun hf => (hx.grows P hf).elim h4 (fun h => by omega)
 refine ⟨ra, rl, rc, fun b => F' b \/ b = P \/ fv.ownBlock = some b, he, hz, ⟨⟨⟨B', F', fv, h1, h2, hx.turn.owns hf (fun q hq => (h5 q hq).1), hPF, fun q hq => ⟨fun hf' => ?_, .inr (.inr hq), (h5 q hq).2.2⟩, fun b hb => .inl hb⟩, .inr (.inl rfl), fun b hb => ?_⟩, hx.turn.mono (fun b _ hb => h6 b hb), fun b hb => ?_, hx.row, fun b hb hg => ?_⟩⟩
 ·have h9 := h8 q (h5 q hq).2.1
  exact (hx.grows q hf').elim (h5 q hq).1 (fun h => by omega)
 ·have hs := hx.turn.size
  rcases hb with hb | hb | hb
  ·exact h2.lt b hb
  ·omega
  ·have := h8 b (h5 b hb).2.1; omega
 ·rcases hb with hb | hb | hb
  ·exact (hx.grows b hb).imp (h6 b) id
  ·subst hb; exact .inl h7
  ·exact .inl (h5 b hb).2.1
 ·have h9 := (World.ownsRow.lt hx.row b hb).1
  rcases hg with hg | hg | hg
  ·exact hx.free b hb hg
  ·omega
  ·have := h8 b (h5 b hg).2.1; omega
end
-- VS6
section
set_option maxRecDepth 100000
set_option maxHeartbeats 6400000
open Go.RowKit Go.Maps
theorem six_no {w W w2 V : World} {P B rb : Nat} {fv : Value} {F F' G : Nat -> Prop} {d' : DS} {fs : List FileV} (hX : Ext w W) (hf : FileRow w 0 fv fs) (h4 : ¬ F P) (h5 : ∀ q, fv.ownBlock = some q -> ¬ F q /\ G q /\ q ≠ P) (h6 : ∀ b, F b -> G b) (h7 : G P) (h8 : ∀ b, G b -> b < w.heap.size) (hx : RunX d' W w2 P B fv F F') (hFr : ¬ F rb) (hrb : w.heap.size <= rb) (hrW : rb < W.heap.size) (hV : Turn (fun b => b = rb) w2 V) : StepR d' fs [] w V P G (fun b => F' b \/ b = P \/ fv.ownBlock = some b) (.slice none 0 0) := by
 have hPl := h8 P h7
 have hl := hX.le
 have hs2 := hx.turn.size
 have hsV := hV.size
 have hPF : ¬ F' P := fun hf => (hx.grows P hf).elim h4 (fun h => by omega)
 have hrF : ¬ F' rb := fun hf => (hx.grows rb hf).elim hFr (fun h => by omega)
 have hd := hx.deal.turn hV (fun b hb e => hrF (e ▸ hb))
 refine ⟨⟨⟨B, F', fv, hV.ref hx.run (by omega), hd, hV.owns (hx.turn.owns (hX.owns hf) (fun q hq => (h5 q hq).1)) (fun q hq e => by have := h8 q (h5 q hq).2.1; omega), hPF, fun q hq => ⟨fun hf' => ?_, .inr (.inr hq), (h5 q hq).2.2⟩, fun b hb => .inl hb⟩, .inr (.inl rfl), fun b hb => ?_⟩, ((Turn.of_ext hX).trans (hx.turn.mono (fun b _ hb => h6 b hb))).trans' hV (fun b hb e => by omega), fun b hb => ?_, World.ownsRow_nil _ _ _ _, fun b hb => by simp [lH] at hb⟩
 ·have h9 := h8 q (h5 q hq).2.1
  exact (hx.grows q hf').elim (h5 q hq).1 (fun h => by omega)
 ·rcases hb with hb | hb | hb
  ·exact hd.lt b hb
  ·omega
  ·have := h8 b (h5 b hb).2.1; omega
 ·rcases hb with hb | hb | hb
  ·exact (hx.grows b hb).imp (h6 b) (fun h => by omega)
  ·subst hb; exact .inl h7
  ·exact .inl (h5 b hb).2.1
theorem six_yes {w W w2 w3 V : World} {P B B' rb : Nat} {fv fv' : Value} {F F' F'' G : Nat -> Prop} {d' : DS} {fs : List FileV} (hX : Ext w W) (h6 : ∀ b, F b -> G b) (h7 : G P) (h8 : ∀ b, G b -> b < w.heap.size) (hx : RunX d' W w2 P B fv F F') (ha : AgainX d' fs w2 w3 P B' F'' fv') (hrb : w.heap.size <= rb) (hrW : rb < W.heap.size) (hV : Turn (fun b => b = rb) w3 V) : StepR (DS.restart (fileB (doneS fs d'.ops))) (doneS fs d'.ops) [] w V P G (fun b => F'' b \/ b = P \/ fv'.ownBlock = some b) (.slice none 0 0) := by
 have hPl := h8 P h7
 have hl := hX.le
 have hs2 := hx.turn.size
 have hs3 := ha.turn.size
 have hsV := hV.size
 have hd := ha.deal.turn hV (fun b hb e => by have := ha.new b hb; omega)
 have hbl : ∀ q, fv'.ownBlock = some q -> w2.heap.size <= q /\ q < w3.heap.size := fun q hq => World.ownsRow.lt ha.row q hq
 refine ⟨⟨⟨B', F'', fv', hV.ref ha.run (by omega), hd, hV.owns (owns_base ha.row (Nat.zero_le _)) (fun q hq e => by have := hbl q hq; omega), fun hf => by have := ha.new P hf; omega, fun q hq => ⟨ha.free q hq, .inr (.inr hq), by have := hbl q hq; omega⟩, fun b hb => .inl hb⟩, .inr (.inl rfl), fun b hb => ?_⟩, (((Turn.of_ext hX).trans (hx.turn.mono (fun b _ hb => h6 b hb))).trans' ha.turn (fun b hb e => by subst e; exact h7)).trans' hV (fun b hb e => by omega), fun b hb => ?_, World.ownsRow_nil _ _ _ _, fun b hb => by simp [lH] at hb⟩
 ·rcases hb with hb | hb | hb
  ·exact hd.lt b hb
  ·omega
  ·have := hbl b hb; omega
 ·rcases hb with hb | hb | hb
  ·have := ha.new b hb; exact .inr (by omega)
  ·subst hb; exact .inl h7
  ·have := hbl b hb; exact .inr (by omega)
theorem step6_x {P N : Nat} {G : Nat -> Prop} {d : DS} {fs : List FileV} (kd a b c n : Int) (dr : Value) (D : List Int) (hk : pickN kd 7 = 6) (h1 : inI kd) (hrun : RunOk d fs N) (hN : N <= 155000) (w : World) (hs : RunS w P G d fs) :
  Calls Tryz.prog 14 #[.pointer (some ⟨P, 0, none⟩), stepV kd a b c n dr] w fun e w' => StepRP (stepR d fs kd a b c n D) w w' P G e := by
 obtain ⟨⟨B, F, fv, hr, hd, hf, h4, h5, h6⟩, h7, h8⟩ := hs
 obtain ⟨g1, g2, g3, g4⟩ := settle_ok hrun (by omega)
 have hops := hrun.ops
 have HK : Hid _ := fun w => pick_c kd 7 (by decide) (by decide) h1.1 h1.2 w
 rw [hk] at HK
 have HSe : Hid (∀ w', Ext w w' -> _) := fun w' hx => settled_x hrun.good (by omega) w' (hx.block hr) (hd.ext hx) h4
 have HStep : Hid (stepR d fs kd a b c n D = (⟨0, 0, 0, []⟩, if d.settle.1 = true then (DS.restart (fileB (doneS fs d.settle.2.ops)), doneS fs d.settle.2.ops) else (d.settle.2, fs))) := by
  show _ = _
  unfold stepR
  rw [if_pos hk]
 obtain ⟨M, hM1, hM2⟩ := g3
 have HAg : Hid (∀ (w' : World) (F' : Nat -> Prop), RunAt w' P B fv -> DealX w' B F' d.settle.2 -> FileRow w' 0 fv fs -> _) := fun w' F' a1 a2 a3 => again_x (by omega) (by omega) hM1 (by omega) w' a1 a2 a3
 have HAll : Hid (FileRow w 0 fv fs /\ (¬ F P) /\ (∀ q, fv.ownBlock = some q -> ¬ F q /\ G q /\ q ≠ P) /\ (∀ b, F b -> G b) /\ G P /\ ∀ b, G b -> b < w.heap.size) := ⟨hf, h4, h5, h6, h7, h8⟩
 have hPl : P < w.heap.size := h8 P h7
 have HD : Hid (DealX w B F d) := hd
 generalize d.settle = st at *
 obtain ⟨sb1, d1⟩ := st
 simp only at *
 unfold stepV
 clear h1 hr hd hf h4 h5 h6 h7 h8 g1 g2 g4 hM1 hM2 hrun hops hk
 go_enter Tryz.func14, Tryz.ntmps14
 go_wp2_with fail
 refine (HK.out _).mono ?_
 rintro e w1 ⟨rfl, rfl⟩
 go_wp2_with fail
 have hrr := heap_alloc_new (w.alloc (.cells #[.int .i64 kd, .int .i64 a, .int .i64 b, .int .i64 c, .int .i64 n, dr] 37)) (.cells #[.int .i64 0, .int .i64 0, .int .i64 0, .slice none 0 0] 33)
 have hsz : (w.alloc (.cells #[.int .i64 kd, .int .i64 a, .int .i64 b, .int .i64 c, .int .i64 n, dr] 37)).heap.size = w.heap.size + 1 := by show (w.heap.push _).size = _; exact Array.size_push ..
 rw [hsz] at hrr
 have hX := ((Ext.refl w).alloc (.cells #[.int .i64 kd, .int .i64 a, .int .i64 b, .int .i64 c, .int .i64 n, dr] 37)).alloc (.cells #[.int .i64 0, .int .i64 0, .int .i64 0, .slice none 0 0] 33)
 generalize World.alloc (World.alloc w _) _ = W at hrr hX ⊢
 obtain ⟨sb, hsb⟩ : ∃ sb, w.heap.size = sb := ⟨_, rfl⟩
 obtain ⟨rb, hrb⟩ : ∃ rb, w.heap.size + 1 = rb := ⟨_, rfl⟩
 rw [hrb] at hrr ⊢
 rw [hsb]
 have HRR : Hid _ := hrr
 have HX : Hid (Ext w W) := hX
 have HFR : Hid (¬ F rb /\ w.heap.size <= rb) := ⟨fun hf => by have := HD.out.lt rb hf; omega, by omega⟩
 have HFS2 : Hid (rb < W.heap.size) := (Array.getElem?_eq_some_iff.1 HRR.out).1
 clear hrr hX hsz hsb hrb hPl
 refine (HSe.out _ HX.out).mono ?_
 rintro e w2 ⟨rfl, F', hx⟩
 have HRX : Hid (RunX d1 W w2 P B fv F F') := hx
 have hrr2 := hx.turn.ref HRR.out HFR.out.1
 clear hx
 cases sb1
 ·have HRR2 : Hid _ := hrr2
  have r0 := (cell_of_row w2 _ 0 _ _ _ hrr2).trans (show _ = some (.int .i64 0) from rfl)
  have r1 := (cell_of_row w2 _ 1 _ _ _ hrr2).trans (show _ = some (.int .i64 0) from rfl)
  have r2 := (cell_of_row w2 _ 2 _ _ _ hrr2).trans (show _ = some (.int .i64 0) from rfl)
  have r3 := (cell_of_row w2 _ 3 _ _ _ hrr2).trans (show _ = some (.slice none 0 0) from rfl)
  have f0 := frozen_row hrr2 0
  have f1 := frozen_row hrr2 1
  have f2 := frozen_row hrr2 2
  have f3 := frozen_row hrr2 3
  clear hrr2
  go_wp2
  obtain ⟨hv, hVT⟩ := four_end HRR2.out (.int .i64 0) (.int .i64 0) (.int .i64 0) (.slice none 0 0)
  generalize World.setCell _ _ _ = V at hv hVT ⊢
  have v0 := (cell_of_row V _ 0 _ _ _ hv).trans (show _ = some (.int .i64 0) from rfl)
  have v1 := (cell_of_row V _ 1 _ _ _ hv).trans (show _ = some (.int .i64 0) from rfl)
  have v2 := (cell_of_row V _ 2 _ _ _ hv).trans (show _ = some (.int .i64 0) from rfl)
  have v3 := (cell_of_row V _ 3 _ _ _ hv).trans (show _ = some (.slice none 0 0) from rfl)
  obtain ⟨a1, a2, a3, a4, a5, a6⟩ := HAll.out
  have hst := six_no HX.out a1 a2 a3 a4 a5 a6 HRX.out HFR.out.1 HFR.out.2 HFS2.out hVT
  rw [HStep.out]
  clear hv r0 r1 r2 r3 f0 f1 f2 f3
  refine bodyPost_ret (v := .tuple #[.agg #[.int .i64 0, .int .i64 0, .int .i64 0, .slice none 0 0], .bool true]) ?_ rfl ⟨none, 0, 0, _, rfl, by simp, hst⟩
  simp [results, Tryz.results14, go_sem, v0, v1, v2, v3]
 ·have hFW : FileRow w2 0 fv fs := HRX.out.turn.owns (HX.out.owns HAll.out.1) (fun q hq => (HAll.out.2.2.1 q hq).1)
  have HFW : Hid (FileRow w2 0 fv fs) := hFW
  have HRRw : Hid _ := hrr2
  clear hFW hrr2
  go_wp2_with fail
  refine (HAg.out _ _ HRX.out.run HRX.out.deal HFW.out).mono ?_
  rintro e w3 ⟨rfl, B', F'', fv', ha⟩
  have HA3 : Hid (AgainX d1 fs w2 w3 P B' F'' fv') := ha
  have hrr3 := ha.turn.ref HRRw.out (by have := HAll.out.2.2.2.2.2 P HAll.out.2.2.2.2.1; have := HFR.out.2; omega)
  have HRR2 : Hid _ := hrr3
  have r0 := (cell_of_row w3 _ 0 _ _ _ hrr3).trans (show _ = some (.int .i64 0) from rfl)
  have r1 := (cell_of_row w3 _ 1 _ _ _ hrr3).trans (show _ = some (.int .i64 0) from rfl)
  have r2 := (cell_of_row w3 _ 2 _ _ _ hrr3).trans (show _ = some (.int .i64 0) from rfl)
  have r3 := (cell_of_row w3 _ 3 _ _ _ hrr3).trans (show _ = some (.slice none 0 0) from rfl)
  have f0 := frozen_row hrr3 0
  have f1 := frozen_row hrr3 1
  have f2 := frozen_row hrr3 2
  have f3 := frozen_row hrr3 3
  clear hrr3 ha
  go_wp2
  obtain ⟨hv, hVT⟩ := four_end HRR2.out (.int .i64 0) (.int .i64 0) (.int .i64 0) (.slice none 0 0)
  generalize World.setCell _ _ _ = V at hv hVT ⊢
  have v0 := (cell_of_row V _ 0 _ _ _ hv).trans (show _ = some (.int .i64 0) from rfl)
  have v1 := (cell_of_row V _ 1 _ _ _ hv).trans (show _ = some (.int .i64 0) from rfl)
  have v2 := (cell_of_row V _ 2 _ _ _ hv).trans (show _ = some (.int .i64 0) from rfl)
  have v3 := (cell_of_row V _ 3 _ _ _ hv).trans (show _ = some (.slice none 0 0) from rfl)
  obtain ⟨a1, a2, a3, a4, a5, a6⟩ := HAll.out
  have hst := six_yes HX.out a4 a5 a6 HRX.out HA3.out HFR.out.2 HFS2.out hVT
  rw [HStep.out]
  clear hv r0 r1 r2 r3 f0 f1 f2 f3
  refine bodyPost_ret (v := .tuple #[.agg #[.int .i64 0, .int .i64 0, .int .i64 0, .slice none 0 0], .bool true]) ?_ rfl ⟨none, 0, 0, _, rfl, by simp, hst⟩
  simp [results, Tryz.results14, go_sem, v0, v1, v2, v3]
theorem stepR_x {P N : Nat} {G : Nat -> Prop} {d : DS} {fs : List FileV} (kd a b c n : Int) (ra : Option Addr) (rl rcap : Nat) (D : List Int) (h1 : inI kd) (h2 : inI a) (h3 : inI b) (h4 : inI c) (h5 : inI n) (hdl : D.length = rl) (hrm : rl <= 100000000000000) (hrun : RunOk d fs N) (hN : N <= 155000) (w : World) (hs : RunS w P G d fs) (hdw : DrawsAt w ra rl D) :
  Calls Tryz.prog 14 #[.pointer (some ⟨P, 0, none⟩), stepV kd a b c n (.slice ra rl rcap)] w fun e w' => StepRP (stepR d fs kd a b c n D) w w' P G e := by
 by_cases hk : pickN kd 7 = 6
 ·exact step6_x kd a b c n _ D hk h1 hrun hN w hs
 ·obtain ⟨⟨B, F, fv, hr, hd, hf, a4, a5, a6⟩, a7, a8⟩ := hs
  have e : stepR d fs kd a b c n D = ((stepS d kd a b c n D).1, (stepS d kd a b c n D).2, fs) := by unfold stepR; rw [if_neg hk]
  rw [e]
  have hops := hrun.ops
  refine (step_x kd a b c n ra rl rcap D hk h1 h2 h3 h4 h5 hdl hrm hrun.good (by omega) w hr hd a4 hdw).mono ?_
  intro e w' h
  exact stepR_plain hr hd hf a4 a5 a6 a7 a8 h
end
-- VRu
section
open Go.RowKit Go.Maps
structure RunsOf (w wr : World) (P j : Nat) (d : DS) (fs : List FileV) (G : Nat -> Prop) : Prop where
 run : RunS wr P G d fs
 ok : RunOk d fs j
 keep : Keep4 d
 new : ∀ b, G b -> w.heap.size <= b
 turn : Turn (fun b => w.heap.size <= b) w wr
theorem runs_began {w w1 : World} {P B : Nat} (h1 : RunAt w1 P B (.slice none 0 0)) (h2 : DealX w1 B (fun b => b = B) DS.opened) (h3 : w.heap.size <= P) (h4 : w.heap.size <= B) (h5 : P ≠ B) (hx : Ext w w1) : RunsOf w w1 P 0 DS.opened [] (fun b => b = P \/ b = B) := by
 refine ⟨⟨⟨B, fun b => b = B, .slice none 0 0, h1, h2, World.ownsRow_nil _ _ _ _, h5, fun q hq => by simp [lH] at hq, fun b hb => .inr hb⟩, .inl rfl, fun b hb => ?_⟩, runOk_opened, ⟨by simp [DS.opened], by simp [DS.opened]⟩, fun b hb => ?_, Turn.of_ext hx⟩
 ·rcases hb with rfl | rfl
  ·exact (Array.getElem?_eq_some_iff.1 h1).1
  ·exact h2.lt b rfl
 ·rcases hb with rfl | rfl
  ·exact h3
  ·exact h4
theorem RunsOf.ext {w wr w' : World} {P j : Nat} {d : DS} {fs : List FileV} {G : Nat -> Prop} (h : RunsOf w wr P j d fs G) (hx : Ext wr w') : RunsOf w w' P j d fs G := ⟨h.run.ext hx, h.ok, h.keep, h.new, h.turn.trans (Turn.of_ext hx)⟩
theorem RunsOf.next {w wr w' : World} {P j : Nat} {d d' : DS} {fs fs' : List FileV} {G G' : Nat -> Prop} {zs : List Int} {rv : Value} (h : RunsOf w wr P j d fs G) (hs : StepR d' fs' zs wr w' P G G' rv) (ho : RunOk d' fs' (j + 1)) (hk : Keep4 d') : RunsOf w w' P (j + 1) d' fs' G' :=
 ⟨hs.run, ho, hk, fun b hb => (hs.grows b hb).elim (h.new b) (fun h' => Nat.le_trans h.turn.size h'), h.turn.trans' hs.turn (fun b _ hb => h.new b hb)⟩
structure StepAt (w : World) (b off : Nat) (kd a b' c n : Int) (ra : Option Addr) (rl rcap : Nat) (D : List Int) : Prop where
 s0 : w.cell? ⟨b, off, none⟩ = some (.int .i64 kd)
 s1 : w.cell? ⟨b, off + 1, none⟩ = some (.int .i64 a)
 s2 : w.cell? ⟨b, off + 2, none⟩ = some (.int .i64 b')
 s3 : w.cell? ⟨b, off + 3, none⟩ = some (.int .i64 c)
 s4 : w.cell? ⟨b, off + 4, none⟩ = some (.int .i64 n)
 s5 : w.cell? ⟨b, off + 5, none⟩ = some (.slice ra rl rcap)
 i1 : inI kd
 i2 : inI a
 i3 : inI b'
 i4 : inI c
 i5 : inI n
 len : D.length = rl
 le : rl <= 100000000
 dw : DrawsAt w ra rl D
theorem StepAt.turn {w w' : World} {b off : Nat} {kd a b' c n : Int} {ra : Option Addr} {rl rcap : Nat} {D : List Int} {N0 : Nat} (h : StepAt w b off kd a b' c n ra rl rcap D) (ht : Turn (fun b => N0 <= b) w w') (hb : b < N0) (hd : ∀ b off, rl ≠ 0 /\ ra = some ⟨b, off, none⟩ -> b < N0) : StepAt w' b off kd a b' c n ra rl rcap D :=
 have k : ∀ {i v}, w.cell? ⟨b, i, none⟩ = some v -> w'.cell? ⟨b, i, none⟩ = some v := fun hc => ht.cell hc (fun hl => by simp only at hl; omega)
 ⟨k h.s0, k h.s1, k h.s2, k h.s3, k h.s4, k h.s5, h.i1, h.i2, h.i3, h.i4, h.i5, h.len, h.le, h.dw.turn ht (fun b off e hl => by have := hd b off e; omega)⟩
theorem script_at {w wr : World} {N0 n j : Nat} {sa : Option Addr} (h : KScriptAt w N0 sa n) (ht : Turn (fun b => N0 <= b) w wr) (hj : j < n) : ∃ b off, sa = some ⟨b, off, none⟩ /\ b < N0 /\ ∃ kd a b' c n' ra rl rcap D, StepAt wr b (off + j * 6) kd a b' c n' ra rl rcap D /\ ∀ b off, rl ≠ 0 /\ ra = some ⟨b, off, none⟩ -> b < N0 := by
 obtain ⟨b, off, rfl, hb, hcs⟩ := (h.turn ht).resolve_left (by omega)
 obtain ⟨cs, ⟨kd, a, b', c, n', ra, rl, rcap, D, rfl, i1, i2, i3, i4, i5, hDl, hrl, hdw, hbo⟩, hcell⟩ := hcs j hj
 exact ⟨b, off, rfl, hb, kd, a, b', c, n', ra, rl, rcap, D, ⟨hcell 0 _ rfl, hcell 1 _ rfl, hcell 2 _ rfl, hcell 3 _ rfl, hcell 4 _ rfl, hcell 5 _ rfl, i1, i2, i3, i4, i5, hDl, hrl, hdw⟩, hbo⟩
end
-- VSm
section
set_option maxRecDepth 100000
set_option maxHeartbeats 1600000
open Go.RowKit Go.Maps
theorem ksameStocks_c (S : List Stk) (n : Nat) (hl : S.length = n) (hn : n <= 1000000000) (a1 a2 : Option Addr) (c1 c2 : Nat) (w : World) (h1 : RdRow w a1 n (toldAll S)) (h2 : RdRow w a2 n (toldAll S)) :
  Calls Tryz.prog 39 #[.slice a1 n c1, .slice a2 n c2] w fun e w' => e = .returned (.bool true) /\ Ext w w' := by
 have heq := eqStock
 have HL : Hid (S.length = n) := hl
 have H1 : Hid _ := h1
 have H2 : Hid _ := h2
 clear h1 h2 hl
 go_enter Tryz.func39, Tryz.ntmps39
 go_wp2
 go_loopw [5] (fun i wr => ∃ j : Nat, j <= n /\ i = .int .i64 j /\ Ext w wr) (fun i _ => n - (intOf i).toNat)
 case atStart => exact ⟨0, Nat.zero_le _, rfl, Ext.refl _⟩
 case round =>
  obtain ⟨j, hj, rfl, hx⟩ := hrel
  have HX : Hid (Ext w wr) := hx
  clear hx
  by_cases hlt : j < n
  ·have hjl : j < S.length := by rw [HL.out]; exact hlt
   obtain ⟨g1, rfl, k1⟩ := H1.out.resolve_left (by omega)
   obtain ⟨g2, rfl, k2⟩ := H2.out.resolve_left (by omega)
   obtain ⟨y0, hy0⟩ : ∃ y, (S[j].kd : Int) = y := ⟨_, rfl⟩
   obtain ⟨y1, hy1⟩ : ∃ y, (S[j].m : Int) = y := ⟨_, rfl⟩
   obtain ⟨y2, hy2⟩ : ∃ y, (S[j].k : Int) = y := ⟨_, rfl⟩
   obtain ⟨y3, hy3⟩ : ∃ y, (S[j].n : Int) = y := ⟨_, rfl⟩
   obtain ⟨y4, hy4⟩ : ∃ y, (S[j].ts.length : Int) = y := ⟨_, rfl⟩
   obtain ⟨y5, hy5⟩ : ∃ y, (S[j].leased : Int) = y := ⟨_, rfl⟩
   obtain ⟨y6, hy6⟩ : ∃ y, ((S[j].ts.filter (·.2)).length : Int) = y := ⟨_, rfl⟩
   have e0 : wr.cell? ⟨g1, j * 7, none⟩ = some (.int .i64 y0) := HX.out.cell (by rw [<- hy0]; exact k1 (j * 7) _ ((toldAll_at S j 0 hjl (by omega)).trans rfl))
   have d0 : wr.cell? ⟨g2, j * 7, none⟩ = some (.int .i64 y0) := HX.out.cell (by rw [<- hy0]; exact k2 (j * 7) _ ((toldAll_at S j 0 hjl (by omega)).trans rfl))
   have e1 : wr.cell? ⟨g1, j * 7 + 1, none⟩ = some (.int .i64 y1) := HX.out.cell (by rw [<- hy1]; exact k1 (j * 7 + 1) _ ((toldAll_at S j 1 hjl (by omega)).trans rfl))
   have d1 : wr.cell? ⟨g2, j * 7 + 1, none⟩ = some (.int .i64 y1) := HX.out.cell (by rw [<- hy1]; exact k2 (j * 7 + 1) _ ((toldAll_at S j 1 hjl (by omega)).trans rfl))
   have e2 : wr.cell? ⟨g1, j * 7 + 2, none⟩ = some (.int .i64 y2) := HX.out.cell (by rw [<- hy2]; exact k1 (j * 7 + 2) _ ((toldAll_at S j 2 hjl (by omega)).trans rfl))
   have d2 : wr.cell? ⟨g2, j * 7 + 2, none⟩ = some (.int .i64 y2) := HX.out.cell (by rw [<- hy2]; exact k2 (j * 7 + 2) _ ((toldAll_at S j 2 hjl (by omega)).trans rfl))
   have e3 : wr.cell? ⟨g1, j * 7 + 3, none⟩ = some (.int .i64 y3) := HX.out.cell (by rw [<- hy3]; exact k1 (j * 7 + 3) _ ((toldAll_at S j 3 hjl (by omega)).trans rfl))
   have d3 : wr.cell? ⟨g2, j * 7 + 3, none⟩ = some (.int .i64 y3) := HX.out.cell (by rw [<- hy3]; exact k2 (j * 7 + 3) _ ((toldAll_at S j 3 hjl (by omega)).trans rfl))
   have e4 : wr.cell? ⟨g1, j * 7 + 4, none⟩ = some (.int .i64 y4) := HX.out.cell (by rw [<- hy4]; exact k1 (j * 7 + 4) _ ((toldAll_at S j 4 hjl (by omega)).trans rfl))
   have d4 : wr.cell? ⟨g2, j * 7 + 4, none⟩ = some (.int .i64 y4) := HX.out.cell (by rw [<- hy4]; exact k2 (j * 7 + 4) _ ((toldAll_at S j 4 hjl (by omega)).trans rfl))
   have e5 : wr.cell? ⟨g1, j * 7 + 5, none⟩ = some (.int .i64 y5) := HX.out.cell (by rw [<- hy5]; exact k1 (j * 7 + 5) _ ((toldAll_at S j 5 hjl (by omega)).trans rfl))
   have d5 : wr.cell? ⟨g2, j * 7 + 5, none⟩ = some (.int .i64 y5) := HX.out.cell (by rw [<- hy5]; exact k2 (j * 7 + 5) _ ((toldAll_at S j 5 hjl (by omega)).trans rfl))
   have e6 : wr.cell? ⟨g1, j * 7 + 6, none⟩ = some (.int .i64 y6) := HX.out.cell (by rw [<- hy6]; exact k1 (j * 7 + 6) _ ((toldAll_at S j 6 hjl (by omega)).trans rfl))
   have d6 : wr.cell? ⟨g2, j * 7 + 6, none⟩ = some (.int .i64 y6) := HX.out.cell (by rw [<- hy6]; exact k2 (j * 7 + 6) _ ((toldAll_at S j 6 hjl (by omega)).trans rfl))
   have hk0 : (0 : Int) <= (j : Int) := by omega
   have hk1 : (j : Int) < n := by omega
   clear k1 k2 hy0 hy1 hy2 hy3 hy4 hy5 hy6
   go_wp2
   go_quiet (fail)
   go_wp2
   go_roundw
   case rel => exact ⟨j + 1, by omega, by go_num, HX.out.drewN _⟩
   case measure => simp [intOf]; omega
  ·obtain rfl : j = n := by omega
   go_wp2
   go_ret
   exact ⟨rfl, HX.out⟩
theorem ksameLeases_c (ls : List LsV) (n : Nat) (hl : ls.length = n) (hn : n <= 1000000000) (a1 a2 : Option Addr) (c1 c2 : Nat) (w : World) (h1 : RdRow w a1 n (lsCells ls)) (h2 : RdRow w a2 n (lsCells ls)) :
  Calls Tryz.prog 38 #[.slice a1 n c1, .slice a2 n c2] w fun e w' => e = .returned (.bool true) /\ Ext w w' := by
 have heq := eqLease
 have HL : Hid (ls.length = n) := hl
 have H1 : Hid _ := h1
 have H2 : Hid _ := h2
 clear h1 h2 hl
 go_enter Tryz.func38, Tryz.ntmps38
 go_wp2
 go_loopw [5] (fun i wr => ∃ j : Nat, j <= n /\ i = .int .i64 j /\ Ext w wr) (fun i _ => n - (intOf i).toNat)
 case atStart => exact ⟨0, Nat.zero_le _, rfl, Ext.refl _⟩
 case round =>
  obtain ⟨j, hj, rfl, hx⟩ := hrel
  have HX : Hid (Ext w wr) := hx
  clear hx
  by_cases hlt : j < n
  ·have hjl : j < ls.length := by rw [HL.out]; exact hlt
   obtain ⟨g1, rfl, k1⟩ := H1.out.resolve_left (by omega)
   obtain ⟨g2, rfl, k2⟩ := H2.out.resolve_left (by omega)
   obtain ⟨y0, hy0⟩ : ∃ y, ls[j].s = y := ⟨_, rfl⟩
   obtain ⟨y1, hy1⟩ : ∃ y, ls[j].i = y := ⟨_, rfl⟩
   obtain ⟨y2, hy2⟩ : ∃ y, ls[j].kd = y := ⟨_, rfl⟩
   obtain ⟨y3, hy3⟩ : ∃ y, ls[j].m = y := ⟨_, rfl⟩
   obtain ⟨y4, hy4⟩ : ∃ y, ls[j].k = y := ⟨_, rfl⟩
   obtain ⟨y5, hy5⟩ : ∃ y, ls[j].n = y := ⟨_, rfl⟩
   obtain ⟨y6, hy6⟩ : ∃ y, ls[j].f = y := ⟨_, rfl⟩
   obtain ⟨y7, hy7⟩ : ∃ y, ls[j].c = y := ⟨_, rfl⟩
   obtain ⟨y8, hy8⟩ : ∃ y, ls[j].r = y := ⟨_, rfl⟩
   have e0 : wr.cell? ⟨g1, j * 9, none⟩ = some (.int .i64 y0) := HX.out.cell (by rw [<- hy0]; exact k1 (j * 9) _ ((lsCells_at ls j 0 hjl (by omega)).trans rfl))
   have d0 : wr.cell? ⟨g2, j * 9, none⟩ = some (.int .i64 y0) := HX.out.cell (by rw [<- hy0]; exact k2 (j * 9) _ ((lsCells_at ls j 0 hjl (by omega)).trans rfl))
   have e1 : wr.cell? ⟨g1, j * 9 + 1, none⟩ = some (.int .i64 y1) := HX.out.cell (by rw [<- hy1]; exact k1 (j * 9 + 1) _ ((lsCells_at ls j 1 hjl (by omega)).trans rfl))
   have d1 : wr.cell? ⟨g2, j * 9 + 1, none⟩ = some (.int .i64 y1) := HX.out.cell (by rw [<- hy1]; exact k2 (j * 9 + 1) _ ((lsCells_at ls j 1 hjl (by omega)).trans rfl))
   have e2 : wr.cell? ⟨g1, j * 9 + 2, none⟩ = some (.int .i64 y2) := HX.out.cell (by rw [<- hy2]; exact k1 (j * 9 + 2) _ ((lsCells_at ls j 2 hjl (by omega)).trans rfl))
   have d2 : wr.cell? ⟨g2, j * 9 + 2, none⟩ = some (.int .i64 y2) := HX.out.cell (by rw [<- hy2]; exact k2 (j * 9 + 2) _ ((lsCells_at ls j 2 hjl (by omega)).trans rfl))
   have e3 : wr.cell? ⟨g1, j * 9 + 3, none⟩ = some (.int .i64 y3) := HX.out.cell (by rw [<- hy3]; exact k1 (j * 9 + 3) _ ((lsCells_at ls j 3 hjl (by omega)).trans rfl))
   have d3 : wr.cell? ⟨g2, j * 9 + 3, none⟩ = some (.int .i64 y3) := HX.out.cell (by rw [<- hy3]; exact k2 (j * 9 + 3) _ ((lsCells_at ls j 3 hjl (by omega)).trans rfl))
   have e4 : wr.cell? ⟨g1, j * 9 + 4, none⟩ = some (.int .i64 y4) := HX.out.cell (by rw [<- hy4]; exact k1 (j * 9 + 4) _ ((lsCells_at ls j 4 hjl (by omega)).trans rfl))
   have d4 : wr.cell? ⟨g2, j * 9 + 4, none⟩ = some (.int .i64 y4) := HX.out.cell (by rw [<- hy4]; exact k2 (j * 9 + 4) _ ((lsCells_at ls j 4 hjl (by omega)).trans rfl))
   have e5 : wr.cell? ⟨g1, j * 9 + 5, none⟩ = some (.int .i64 y5) := HX.out.cell (by rw [<- hy5]; exact k1 (j * 9 + 5) _ ((lsCells_at ls j 5 hjl (by omega)).trans rfl))
   have d5 : wr.cell? ⟨g2, j * 9 + 5, none⟩ = some (.int .i64 y5) := HX.out.cell (by rw [<- hy5]; exact k2 (j * 9 + 5) _ ((lsCells_at ls j 5 hjl (by omega)).trans rfl))
   have e6 : wr.cell? ⟨g1, j * 9 + 6, none⟩ = some (.int .i64 y6) := HX.out.cell (by rw [<- hy6]; exact k1 (j * 9 + 6) _ ((lsCells_at ls j 6 hjl (by omega)).trans rfl))
   have d6 : wr.cell? ⟨g2, j * 9 + 6, none⟩ = some (.int .i64 y6) := HX.out.cell (by rw [<- hy6]; exact k2 (j * 9 + 6) _ ((lsCells_at ls j 6 hjl (by omega)).trans rfl))
   have e7 : wr.cell? ⟨g1, j * 9 + 7, none⟩ = some (.int .i64 y7) := HX.out.cell (by rw [<- hy7]; exact k1 (j * 9 + 7) _ ((lsCells_at ls j 7 hjl (by omega)).trans rfl))
   have d7 : wr.cell? ⟨g2, j * 9 + 7, none⟩ = some (.int .i64 y7) := HX.out.cell (by rw [<- hy7]; exact k2 (j * 9 + 7) _ ((lsCells_at ls j 7 hjl (by omega)).trans rfl))
   have e8 : wr.cell? ⟨g1, j * 9 + 8, none⟩ = some (.bool y8) := HX.out.cell (by rw [<- hy8]; exact k1 (j * 9 + 8) _ ((lsCells_at ls j 8 hjl (by omega)).trans rfl))
   have d8 : wr.cell? ⟨g2, j * 9 + 8, none⟩ = some (.bool y8) := HX.out.cell (by rw [<- hy8]; exact k2 (j * 9 + 8) _ ((lsCells_at ls j 8 hjl (by omega)).trans rfl))
   have hk0 : (0 : Int) <= (j : Int) := by omega
   have hk1 : (j : Int) < n := by omega
   clear k1 k2 hy0 hy1 hy2 hy3 hy4 hy5 hy6 hy7 hy8
   go_wp2
   go_quiet (fail)
   go_wp2
   go_roundw
   case rel => exact ⟨j + 1, by omega, by go_num, HX.out.drewN _⟩
   case measure => simp [intOf]; omega
  ·obtain rfl : j = n := by omega
   go_wp2
   go_ret
   exact ⟨rfl, HX.out⟩
theorem ksameWords_c (zs : List Int) (n : Nat) (hl : zs.length = n) (hn : n <= 1000000000) (a1 a2 : Option Addr) (c1 c2 : Nat) (w : World) (h1 : RdRow w a1 n (zs.map (Value.int .u64))) (h2 : RdRow w a2 n (zs.map (Value.int .u64))) :
  Calls Tryz.prog 56 #[.slice a1 n c1, .slice a2 n c2] w fun e w' => e = .returned (.bool true) /\ Ext w w' := by
 have HL : Hid (zs.length = n) := hl
 have H1 : Hid _ := h1
 have H2 : Hid _ := h2
 clear h1 h2 hl
 go_enter Tryz.func56, Tryz.ntmps56
 go_wp2
 go_loopw [5] (fun i wr => ∃ j : Nat, j <= n /\ i = .int .i64 j /\ Ext w wr) (fun i _ => n - (intOf i).toNat)
 case atStart => exact ⟨0, Nat.zero_le _, rfl, Ext.refl _⟩
 case round =>
  obtain ⟨j, hj, rfl, hx⟩ := hrel
  have HX : Hid (Ext w wr) := hx
  clear hx
  by_cases hlt : j < n
  ·have hjl : j < zs.length := by rw [HL.out]; exact hlt
   obtain ⟨g1, rfl, k1⟩ := H1.out.resolve_left (by omega)
   obtain ⟨g2, rfl, k2⟩ := H2.out.resolve_left (by omega)
   obtain ⟨y0, hy0⟩ : ∃ y, zs[j] = y := ⟨_, rfl⟩
   have e0 : wr.cell? ⟨g1, j, none⟩ = some (.int .u64 y0) := HX.out.cell (by rw [<- hy0]; exact k1 (j) _ (by simp [hjl]))
   have d0 : wr.cell? ⟨g2, j, none⟩ = some (.int .u64 y0) := HX.out.cell (by rw [<- hy0]; exact k2 (j) _ (by simp [hjl]))
   have hk0 : (0 : Int) <= (j : Int) := by omega
   have hk1 : (j : Int) < n := by omega
   clear k1 k2 hy0
   go_wp2
   go_quiet (fail)
   go_wp2
   go_roundw
   case rel => exact ⟨j + 1, by omega, by go_num, HX.out.drewN _⟩
   case measure => simp [intOf]; omega
  ·obtain rfl : j = n := by omega
   go_wp2
   go_ret
   exact ⟨rfl, HX.out⟩
theorem ksameReply_c (c f n : Int) (zs : List Int) (hn : zs.length <= 1000000000) (a1 a2 : Option Addr) (c1 c2 : Nat) (w : World) (h1 : RdRow w a1 zs.length (zs.map (Value.int .u64))) (h2 : RdRow w a2 zs.length (zs.map (Value.int .u64))) :
  Calls Tryz.prog 21 #[replyV c f n (.slice a1 zs.length c1), replyV c f n (.slice a2 zs.length c2)] w fun e w' => e = .returned (.bool true) /\ Ext w w' := by
 have HS : Hid (∀ w', Ext w w' -> _) := fun w' hx => ksameWords_c zs zs.length rfl hn a1 a2 c1 c2 w' (h1.ext hx) (h2.ext hx)
 clear h1 h2
 generalize zs.length = len at *
 unfold replyV
 go_enter Tryz.func21, Tryz.ntmps21
 go_wp2_with fail
 have ha : ((w.alloc (.cells #[.int .i64 c, .int .i64 f, .int .i64 n, .slice a1 len c1] 33)).alloc (.cells #[.int .i64 c, .int .i64 f, .int .i64 n, .slice a2 len c2] 33)).heap[w.heap.size]? = some (.cells #[.int .i64 c, .int .i64 f, .int .i64 n, .slice a1 len c1] 33 (0, 0)) := at_old (heap_alloc_new _ _)
 have hb : ((w.alloc (.cells #[.int .i64 c, .int .i64 f, .int .i64 n, .slice a1 len c1] 33)).alloc (.cells #[.int .i64 c, .int .i64 f, .int .i64 n, .slice a2 len c2] 33)).heap[w.heap.size + 1]? = some (.cells #[.int .i64 c, .int .i64 f, .int .i64 n, .slice a2 len c2] 33 (0, 0)) := at_new (by simp)
 have hXW : Ext w ((w.alloc (.cells #[.int .i64 c, .int .i64 f, .int .i64 n, .slice a1 len c1] 33)).alloc (.cells #[.int .i64 c, .int .i64 f, .int .i64 n, .slice a2 len c2] 33)) := ((Ext.refl w).alloc _).alloc _
 generalize World.alloc (World.alloc w _) _ = W at ha hb hXW ⊢
 refine (HS.out _ hXW).mono ?_
 rintro e w1 ⟨rfl, hx1⟩
 have ha := hx1.block ha
 have hb := hx1.block hb
 have e0 := cell_at ha (i := 0) rfl
 have e1 := cell_at ha (i := 1) rfl
 have e2 := cell_at ha (i := 2) rfl
 have d0 := cell_at hb (i := 0) rfl
 have d1 := cell_at hb (i := 1) rfl
 have d2 := cell_at hb (i := 2) rfl
 have HX1 : Hid (Ext w w1) := hXW.trans hx1
 have hl1 := lG w1 _ e0
 have hl2 := lG w1 _ d0
 clear ha hb hx1 hXW
 go_wp2
 all_goals go_ret
 all_goals exact ⟨ret_bool (by simp), HX1.out⟩
end
end Go.Proofs.YtmnjhhachdlmkaaGreat
