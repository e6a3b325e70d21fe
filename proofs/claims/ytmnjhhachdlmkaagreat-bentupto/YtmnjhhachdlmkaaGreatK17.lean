import Derived.ShutString
import Derived.ChangeOld
import Derived.JoinedCond
import Derived.Test.YtmnjhhachdlmkaaGreatK15
import Derived.Test.YtmnjhhachdlmkaaGreatK16
import Derived.Test.YtmnjhhachdlmkaaGreatK09
namespace Go.Proofs.YtmnjhhachdlmkaaGreat
set_option linter.unusedVariables false
set_option linter.unusedSimpArgs false
open List renaming getElem_toArray -> lA, getElem_cons_succ -> lB, getElem_cons_zero -> lC, setIfInBounds_toArray -> lD, set_cons_zero -> lE, set_cons_succ -> lF
open World renaming block_lt_of_cell? -> lG
open Value renaming ownBlock -> lH
-- VSt
section
set_option maxRecDepth 100000
set_option maxHeartbeats 1600000
open Go.RowKit Go.Maps
def RunAt (w : World) (P B : Nat) (fv : Value) : Prop := w.heap[P]? = some (.cells #[.pointer (some ⟨B, 0, none⟩), fv] 42 (0, 0))
theorem openedX (w w' : World) (B : Nat) (h : w'.heap[B]? = some (.cells #[.slice none 0 0, .slice none 0 0, .slice none 0 0, .bool false, .int .i64 0, .bool false] 114 (0, 0))) : DealX w' B (fun b => b = B) DS.opened :=
 ⟨[], rfl, ⟨.slice none 0 0, .slice none 0 0, .slice none 0 0, ⟨⟨_, .inl rfl, h⟩, World.ownsRow_nil _ _ _ _, World.ownsRow_nil _ _ _ _, World.ownsRow_nil _ _ _ _, by simp, by simp, by simp, rfl, fun _ hb => by simp [lH] at hb, fun _ hb => by simp [lH] at hb, fun _ hb => by simp [lH] at hb, fun b hb => by rw [hb]; exact (Array.getElem?_eq_some_iff.1 h).1, by simp, by simp⟩⟩, by simp [DS.opened]⟩
theorem began_c (w : World) : Calls Tryz.prog 13 #[] w fun e w' => ∃ P B, e = .returned (.pointer (some ⟨P, 0, none⟩)) /\ RunAt w' P B (.slice none 0 0) /\ DealX w' B (fun b => b = B) DS.opened /\ w.heap.size <= P /\ w.heap.size <= B /\ P ≠ B /\ Ext w w' := by
 go_enter Tryz.func13, Tryz.ntmps13
 go_wp2_with fail
 refine (opened_c w).mono ?_
 rintro e w1 ⟨rfl, rfl⟩
 go_wp2
 go_ret
 refine ⟨w.heap.size + 1, w.heap.size, rfl, ?_, ?_, by omega, by omega, by omega, ((Ext.refl w).alloc _).alloc _⟩
 ·have h := heap_alloc_new (w.alloc (.cells #[.slice none 0 0, .slice none 0 0, .slice none 0 0, .bool false, .int .i64 0, .bool false] 114)) (.cells #[.pointer (some ⟨w.heap.size, 0, none⟩), .slice none 0 0] 42)
  rw [show (w.alloc (.cells #[.slice none 0 0, .slice none 0 0, .slice none 0 0, .bool false, .int .i64 0, .bool false] 114)).heap.size = w.heap.size + 1 from by show (w.heap.push _).size = _; exact Array.size_push ..] at h
  exact h
 ·exact openedX w _ _ (((Ext.refl _).alloc _).block (heap_alloc_new w _))
def stepS (d : DS) (kd a b c n : Int) (D : List Int) : Rep × DS :=
 let q := clsK (pickN a 4)
 let r := clsK (pickN c 4)
 match pickN kd 7 with
 | 0 => let p := d.refill q.1 q.2.1 q.2.2.1 q.2.2.2 (fillS D ((1 + pickN b 4) * (shOf q.1 q.2.1 q.2.2.1 q.2.2.2).dr)); (⟨p.1, 0, 0, []⟩, p.2)
 | 1 => d.ask 1 (1 + pickN a 3 : Nat) (pickN b 4) r.1 r.2.1 r.2.2.1 r.2.2.2 0 (pickN n 6) 0
 | 2 => d.ask 3 (1 + pickN a 3 : Nat) (pickN b 4) 0 0 0 0 0 0 0
 | 3 => (⟨d.compact.1, 0, 0, []⟩, d.compact.2)
 | 4 => (⟨0, 0, 0, []⟩, d.failAt ((pickN a 10 : Int) - 1))
 | _ => d.ask 2 (1 + pickN a 3 : Nat) 0 r.1 r.2.1 r.2.2.1 r.2.2.2 (pickN b 12) (pickN n 6) (pickN (Int.tdiv a 3) 3)
structure StepX (p : Rep × DS) (w w' : World) (P : Nat) (fv : Value) (F F' : Nat -> Prop) (rv : Value) : Prop where
 run : ∃ B, RunAt w' P B fv /\ DealX w' B F' p.2
 row : w'.ownsRow w.heap.size 146 1 rv p.1.zs.length (p.1.zs.map (Value.int .u64))
 turn : Turn F w w'
 grows : ∀ b, F' b -> F b \/ w.heap.size <= b
 free : ∀ b, rv.ownBlock = some b -> ¬ F' b
def StepPost (p : Rep × DS) (w w' : World) (P : Nat) (fv : Value) (F : Nat -> Prop) (e : Ending) : Prop :=
 ∃ ra rl rc F', e = .returned (.tuple #[replyV p.1.c p.1.f p.1.n (.slice ra rl rc), .bool true]) /\ p.1.zs.length <= 100000000 /\ StepX p w w' P fv F F' (.slice ra rl rc)
theorem four_end {w2 : World} {rb : Nat} {o0 o1 o2 o3 : Value} {t : TypeId} (h : w2.heap[rb]? = some (.cells #[o0, o1, o2, o3] t (0, 0))) (a b c d : Value) : ((((w2.setCell ⟨rb, 0, none⟩ a).setCell ⟨rb, 1, none⟩ b).setCell ⟨rb, 2, none⟩ c).setCell ⟨rb, 3, none⟩ d).heap[rb]? = some (.cells #[a, b, c, d] t (0, 0)) /\ Turn (fun q => q = rb) w2 ((((w2.setCell ⟨rb, 0, none⟩ a).setCell ⟨rb, 1, none⟩ b).setCell ⟨rb, 2, none⟩ c).setCell ⟨rb, 3, none⟩ d) :=
 ⟨by have h1 := setCell_row (i := 3) (setCell_row (i := 2) (setCell_row (i := 1) (setCell_row (i := 0) h a) b) c) d; simpa using h1, set4' (Ext.refl w2) a b c d⟩
theorem step_end {w W w2 V : World} {P B rb : Nat} {fv : Value} {F F' : Nat -> Prop} {d' : DS} (hr : RunAt w P B fv) (hX : Ext w W) (hT : Turn F W w2) (hc : DealX w2 B F' d') (hg : ∀ b, F' b -> F b \/ W.heap.size <= b) (hFr : ¬ F rb) (hFP : ¬ F P) (hrb : w.heap.size <= rb) (hrW : rb < W.heap.size) (hV : Turn (fun b => b = rb) w2 V) :
  (∃ B, RunAt V P B fv /\ DealX V B F' d') /\ Turn F w V /\ ∀ b, F' b -> F b \/ w.heap.size <= b := by
 have hPl : P < w.heap.size := (Array.getElem?_eq_some_iff.1 hr).1
 have hXl := hX.le
 refine ⟨⟨B, ?_, ?_⟩, ((Turn.of_ext hX).trans hT).trans' hV (fun b hb e => by omega), fun b hb => (hg b hb).imp id (fun h => by omega)⟩
 ·exact hV.ref (hT.ref (hX.block hr) hFP) (by omega)
 ·exact hc.turn hV (fun b hb e => by
   subst e
   rcases hg _ hb with h | h
   ·exact hFr h
   ·omega)
theorem four_far {w2 : World} {b c i : Nat} (h : b ≠ c) {v0 v1 v2 v3 : Value} : ((((w2.setCell ⟨b, 0, none⟩ v0).setCell ⟨b, 1, none⟩ v1).setCell ⟨b, 2, none⟩ v2).setCell ⟨b, 3, none⟩ v3).cell? ⟨c, i, none⟩ = w2.cell? ⟨c, i, none⟩ := by
 iterate 4 rw [World.cell?_setCell_far _ _ _ _ h]
-- STEPS
theorem stepFail_x {P B : Nat} {fv : Value} {F : Nat -> Prop} {d : DS} (kd a b c n : Int) (dr : Value) (hk : pickN kd 7 = 4) (h1 : inI kd) (h2 : inI a) (w : World) (hr : RunAt w P B fv) (hd : DealX w B F d) (hP : ¬ F P) : Calls Tryz.prog 14 #[.pointer (some ⟨P, 0, none⟩), stepV kd a b c n dr] w fun e w' => StepPost (⟨0, 0, 0, []⟩, d.failAt ((pickN a 10 : Int) - 1)) w w' P fv F e := by
 have HK : Hid _ := fun w => pick_c kd 7 (by decide) (by decide) h1.1 h1.2 w
 have HA : Hid _ := fun w => pick_c a 10 (by decide) (by decide) h2.1 h2.2 w
 have la := pickN_lt a (show 0 < 10 by decide)
 have hp0 := cell_at hr (i := 0) rfl
 have hPl := lG w _ hp0
 have HR : Hid (RunAt w P B fv) := hr
 have HD : Hid (DealX w B F d) := hd
 unfold stepV
 rw [hk] at HK
 generalize pickN a 10 = pa at *
 clear h1 h2 hr hd
 go_enter Tryz.func14, Tryz.ntmps14
 go_wp2_with fail
 refine (HK.out _).mono ?_
 rintro e w1 ⟨rfl, rfl⟩
 go_wp2_with fail
 have hrs := ((Ext.refl _).alloc (.cells #[.int .i64 0, .int .i64 0, .int .i64 0, .slice none 0 0] 33)).block (heap_alloc_new w (.cells #[.int .i64 kd, .int .i64 a, .int .i64 b, .int .i64 c, .int .i64 n, dr] 37))
 have hrr := heap_alloc_new (w.alloc (.cells #[.int .i64 kd, .int .i64 a, .int .i64 b, .int .i64 c, .int .i64 n, dr] 37)) (.cells #[.int .i64 0, .int .i64 0, .int .i64 0, .slice none 0 0] 33)
 have hsz : (w.alloc (.cells #[.int .i64 kd, .int .i64 a, .int .i64 b, .int .i64 c, .int .i64 n, dr] 37)).heap.size = w.heap.size + 1 := by show (w.heap.push _).size = _; exact Array.size_push ..
 rw [hsz] at hrr
 have hX := ((Ext.refl w).alloc (.cells #[.int .i64 kd, .int .i64 a, .int .i64 b, .int .i64 c, .int .i64 n, dr] 37)).alloc (.cells #[.int .i64 0, .int .i64 0, .int .i64 0, .slice none 0 0] 33)
 generalize World.alloc (World.alloc w _) _ = W at hrs hrr hX ⊢
 obtain ⟨sb, hsb⟩ : ∃ sb, w.heap.size = sb := ⟨_, rfl⟩
 obtain ⟨rb, hrb⟩ : ∃ rb, w.heap.size + 1 = rb := ⟨_, rfl⟩
 rw [hsb] at hrs
 rw [hrb] at hrr ⊢
 rw [hsb]
 have HRS : Hid _ := hrs
 have HRR : Hid _ := hrr
 have HX : Hid (Ext w W) := hX
 have hFs : ¬ F sb := fun hf => by have := HD.out.lt sb hf; omega
 have hFr : ¬ F rb := fun hf => by have := HD.out.lt rb hf; omega
 have HFS : Hid (¬ F sb /\ ¬ F rb /\ ¬ F P /\ sb <= rb /\ w.heap.size <= sb) := ⟨hFs, hFr, hP, by omega, by omega⟩
 have hne : sb ≠ rb := by omega
 have HFS2 : Hid (rb < W.heap.size) := (Array.getElem?_eq_some_iff.1 HRR.out).1
 have hPs : P < W.heap.size := Nat.lt_of_lt_of_le hPl HX.out.le
 have p0 := HX.out.cell hp0
 have s1 := (cell_of_row W _ 1 _ _ _ HRS.out).trans (show _ = some (.int .i64 a) from rfl)
 clear hrs hrr hX hsz hsb hrb hp0 hPl hFs hFr hP
 refine wp_region_held_drew (S := ((fun w' => w'.cell? ⟨P, 0, none⟩ = some (.pointer (some ⟨B, 0, none⟩)) /\ w'.cell? ⟨sb, 1, none⟩ = some (.int .i64 a)))) (by kernel_rfl) ⟨p0, s1⟩ (fun hHeld => ?_)
 refine zT 0 hHeld ?_
 refine zT 1 hHeld ?_
 refine zT 2 hHeld ?_
 refine zT 3 hHeld ?_
 refine zT 4 hHeld ?_
 refine zT 5 hHeld ?_
 refine wpAnyH_ready (rs := [6]) (by kernel_rfl) (by simp) ?_
 refine AllReadyH.cons (o := _) rfl (fun K hK => ?_) AllReadyH.nil
 (try simp only [lA, lB, lC])
 go_simp
 refine (HA.out _).mono ?_
 rintro e w2' ⟨rfl, rfl⟩
 refine hK.out _ _ ⟨(Ext.drew (Ext.refl _)).cell p0, (Ext.drew (Ext.refl _)).cell s1⟩ (fun hHeld => ?_)
 clear hK K
 try simp only [Act.put, lA, lB, lC, lD, lE, lF]
 refine zT 7 hHeld ?_
 refine wpAnyH_ready (rs := [8]) (by kernel_rfl) (by simp) ?_
 refine AllReadyH.cons (o := _) rfl (fun K hK => ?_) AllReadyH.nil
 (try simp only [lA, lB, lC])
 go_simp
 refine (failAt_x _ (HD.out.ext (Ext.drew HX.out))).mono ?_
 rintro e w2 ⟨rfl, hc⟩
 have hT : Turn F W w2 := (Turn.of_ext (Ext.drew (Ext.refl W))).trans hc.turn
 have HT : Hid (Turn F W w2) := hT
 have HC : Hid _ := hc
 have q0 := hT.cell p0 HFS.out.2.2.1
 have q1 := hT.cell s1 HFS.out.1
 have hrr2 := hT.ref HRR.out HFS.out.2.1
 have r0 := (cell_of_row w2 _ 0 _ _ _ hrr2).trans (show _ = some (.int .i64 0) from rfl)
 have r1 := (cell_of_row w2 _ 1 _ _ _ hrr2).trans (show _ = some (.int .i64 0) from rfl)
 have r2 := (cell_of_row w2 _ 2 _ _ _ hrr2).trans (show _ = some (.int .i64 0) from rfl)
 have r3 := (cell_of_row w2 _ 3 _ _ _ hrr2).trans (show _ = some (.slice none 0 0) from rfl)
 have f0 := frozen_row hrr2 0
 have f1 := frozen_row hrr2 1
 have f2 := frozen_row hrr2 2
 have f3 := frozen_row hrr2 3
 have HRR2 : Hid _ := hrr2
 clear hc hT hrr2
 refine hK.out _ _ ⟨q0, q1⟩ (fun hHeld => ?_)
 clear hK K
 try simp only [Act.put, lA, lB, lC, lD, lE, lF]
 refine wpAnyH_done (by kernel_rfl) ?_ _
 clear hHeld p0 s1 q0 q1
 go_wp2
 obtain ⟨hv, hVT⟩ := four_end HRR2.out (.int .i64 0) (.int .i64 0) (.int .i64 0) (.slice none 0 0)
 generalize World.setCell _ _ _ = V at hv hVT ⊢
 have v0 := (cell_of_row V _ 0 _ _ _ hv).trans (show _ = some (.int .i64 0) from rfl)
 have v1 := (cell_of_row V _ 1 _ _ _ hv).trans (show _ = some (.int .i64 0) from rfl)
 have v2 := (cell_of_row V _ 2 _ _ _ hv).trans (show _ = some (.int .i64 0) from rfl)
 have v3 := (cell_of_row V _ 3 _ _ _ hv).trans (show _ = some (.slice none 0 0) from rfl)
 obtain ⟨e1, e2, e3⟩ := step_end HR.out HX.out HT.out HC.out.deal (fun b hb => (HC.out.grows b hb).imp id (fun h => Nat.le_trans (Ext.drew (Ext.refl W)).le h)) HFS.out.2.1 HFS.out.2.2.1 (by have := HFS.out.2.2.2; omega) HFS2.out hVT
 rw [show IntKind.i64.wrap ((pa : Int) - 1) = (pa : Int) - 1 by rw [IntKind.wrap_i64]; omega] at e1
 clear hv r0 r1 r2 r3 f0 f1 f2 f3
 refine bodyPost_ret (v := .tuple #[.agg #[.int .i64 0, .int .i64 0, .int .i64 0, .slice none 0 0], .bool true]) ?_ rfl ⟨none, 0, 0, _, rfl, by simp, e1, World.ownsRow_nil _ _ _ _, e2, e3, fun b hb => by simp [lH] at hb⟩
 simp [results, Tryz.results14, go_sem, v0, v1, v2, v3]
theorem stepCompact_x {P B : Nat} {fv : Value} {F : Nat -> Prop} {d : DS} (kd a b c n : Int) (dr : Value) (hk : pickN kd 7 = 3) (h1 : inI kd) (h2 : inI a) (hg : d.Good) (ho : d.ops.length <= 1000000) (w : World) (hr : RunAt w P B fv) (hd : DealX w B F d) (hP : ¬ F P) : Calls Tryz.prog 14 #[.pointer (some ⟨P, 0, none⟩), stepV kd a b c n dr] w fun e w' => StepPost (⟨d.compact.1, 0, 0, []⟩, d.compact.2) w w' P fv F e := by
 have HK : Hid _ := fun w => pick_c kd 7 (by decide) (by decide) h1.1 h1.2 w
 have hp0 := cell_at hr (i := 0) rfl
 have hPl := lG w _ hp0
 have HR : Hid (RunAt w P B fv) := hr
 have HD : Hid (DealX w B F d) := hd
 have HCo : Hid (∀ w', Ext w w' -> _) := fun w' hx => compact_x hg ho (hd.ext hx)
 generalize d.compact = cp at *
 obtain ⟨c0, d'⟩ := cp
 simp only at *
 unfold stepV
 rw [hk] at HK
 clear h1 h2 hr hd hg ho
 go_enter Tryz.func14, Tryz.ntmps14
 go_wp2_with fail
 refine (HK.out _).mono ?_
 rintro e w1 ⟨rfl, rfl⟩
 go_wp2_with fail
 have hrs := ((Ext.refl _).alloc (.cells #[.int .i64 0, .int .i64 0, .int .i64 0, .slice none 0 0] 33)).block (heap_alloc_new w (.cells #[.int .i64 kd, .int .i64 a, .int .i64 b, .int .i64 c, .int .i64 n, dr] 37))
 have hrr := heap_alloc_new (w.alloc (.cells #[.int .i64 kd, .int .i64 a, .int .i64 b, .int .i64 c, .int .i64 n, dr] 37)) (.cells #[.int .i64 0, .int .i64 0, .int .i64 0, .slice none 0 0] 33)
 have hsz : (w.alloc (.cells #[.int .i64 kd, .int .i64 a, .int .i64 b, .int .i64 c, .int .i64 n, dr] 37)).heap.size = w.heap.size + 1 := by show (w.heap.push _).size = _; exact Array.size_push ..
 rw [hsz] at hrr
 have hX := ((Ext.refl w).alloc (.cells #[.int .i64 kd, .int .i64 a, .int .i64 b, .int .i64 c, .int .i64 n, dr] 37)).alloc (.cells #[.int .i64 0, .int .i64 0, .int .i64 0, .slice none 0 0] 33)
 generalize World.alloc (World.alloc w _) _ = W at hrs hrr hX ⊢
 obtain ⟨sb, hsb⟩ : ∃ sb, w.heap.size = sb := ⟨_, rfl⟩
 obtain ⟨rb, hrb⟩ : ∃ rb, w.heap.size + 1 = rb := ⟨_, rfl⟩
 rw [hsb] at hrs
 rw [hrb] at hrr ⊢
 rw [hsb]
 have HRS : Hid _ := hrs
 have HRR : Hid _ := hrr
 have HX : Hid (Ext w W) := hX
 have hFs : ¬ F sb := fun hf => by have := HD.out.lt sb hf; omega
 have hFr : ¬ F rb := fun hf => by have := HD.out.lt rb hf; omega
 have HFS : Hid (¬ F sb /\ ¬ F rb /\ ¬ F P /\ sb <= rb /\ w.heap.size <= sb) := ⟨hFs, hFr, hP, by omega, by omega⟩
 have hne : sb ≠ rb := by omega
 have HFS2 : Hid (rb < W.heap.size) := (Array.getElem?_eq_some_iff.1 HRR.out).1
 have hPs : P < W.heap.size := Nat.lt_of_lt_of_le hPl HX.out.le
 have p0 := HX.out.cell hp0
 have s1 := (cell_of_row W _ 1 _ _ _ HRS.out).trans (show _ = some (.int .i64 a) from rfl)
 clear hrs hrr hX hsz hsb hrb hp0 hPl hFs hFr hP
 refine (HCo.out _ HX.out).mono ?_
 rintro e w2 ⟨rfl, F', hc⟩
 have hT : Turn F W w2 := hc.turn
 have HT : Hid (Turn F W w2) := hT
 have HC : Hid _ := hc
 have hrr2 := hT.ref HRR.out HFS.out.2.1
 have HRR2 : Hid _ := hrr2
 have r0 := (cell_of_row w2 _ 0 _ _ _ hrr2).trans (show _ = some (.int .i64 0) from rfl)
 have r1 := (cell_of_row w2 _ 1 _ _ _ hrr2).trans (show _ = some (.int .i64 0) from rfl)
 have r2 := (cell_of_row w2 _ 2 _ _ _ hrr2).trans (show _ = some (.int .i64 0) from rfl)
 have r3 := (cell_of_row w2 _ 3 _ _ _ hrr2).trans (show _ = some (.slice none 0 0) from rfl)
 have f0 := frozen_row hrr2 0
 have f1 := frozen_row hrr2 1
 have f2 := frozen_row hrr2 2
 have f3 := frozen_row hrr2 3
 clear hrr2
 clear hc hT p0 s1
 go_wp2
 obtain ⟨hv, hVT⟩ := four_end HRR2.out (.int .i64 c0) (.int .i64 0) (.int .i64 0) (.slice none 0 0)
 generalize World.setCell _ _ _ = V at hv hVT ⊢
 have v0 := (cell_of_row V _ 0 _ _ _ hv).trans (show _ = some (.int .i64 c0) from rfl)
 have v1 := (cell_of_row V _ 1 _ _ _ hv).trans (show _ = some (.int .i64 0) from rfl)
 have v2 := (cell_of_row V _ 2 _ _ _ hv).trans (show _ = some (.int .i64 0) from rfl)
 have v3 := (cell_of_row V _ 3 _ _ _ hv).trans (show _ = some (.slice none 0 0) from rfl)
 obtain ⟨e1, e2, e3⟩ := step_end HR.out HX.out HT.out HC.out.deal (HC.out.grows) HFS.out.2.1 HFS.out.2.2.1 (by have := HFS.out.2.2.2; omega) HFS2.out hVT
 clear hv r0 r1 r2 r3 f0 f1 f2 f3
 refine bodyPost_ret (v := .tuple #[.agg #[.int .i64 c0, .int .i64 0, .int .i64 0, .slice none 0 0], .bool true]) ?_ rfl ⟨none, 0, 0, _, rfl, by simp, e1, World.ownsRow_nil _ _ _ _, e2, e3, fun b hb => by simp [lH] at hb⟩
 simp [results, Tryz.results14, go_sem, v0, v1, v2, v3]
theorem step_req (d : DS) (kd a b c n : Int) (D : List Int) (h : pickN kd 7 ≠ 0 /\ pickN kd 7 ≠ 3 /\ pickN kd 7 ≠ 4) : ∃ kk s i q1 q2 q3 q4 f c' p : Int, reqOf kd a b c n = reqV kk s i q1 q2 q3 q4 f c' p /\ stepS d kd a b c n D = d.ask kk s i q1 q2 q3 q4 f c' p := by
 have lk := pickN_lt kd (show 0 < 7 by decide)
 unfold reqOf stepS
 simp only
 generalize pickN kd 7 = pk at *
 obtain rfl | rfl | rfl | rfl : pk = 1 \/ pk = 2 \/ pk = 5 \/ pk = 6 := by omega
 ·exact ⟨_, _, _, _, _, _, _, _, _, _, rfl, rfl⟩
 ·exact ⟨_, _, _, _, _, _, _, _, _, _, rfl, rfl⟩
 ·exact ⟨_, _, _, _, _, _, _, _, _, _, rfl, rfl⟩
 ·exact ⟨_, _, _, _, _, _, _, _, _, _, rfl, rfl⟩
theorem stepAsk_x {P B : Nat} {fv : Value} {F : Nat -> Prop} {d : DS} (kd a b c n : Int) (dr : Value) (hk : pickN kd 7 ≠ 0 /\ pickN kd 7 ≠ 3 /\ pickN kd 7 ≠ 4 /\ pickN kd 7 ≠ 6) (h1 : inI kd) (h2 : inI a) (h3 : inI b) (h4 : inI c) (h5 : inI n) (D : List Int) (hg : d.Good) (ho : d.ops.length <= 1000000) (w : World) (hr : RunAt w P B fv) (hd : DealX w B F d) (hP : ¬ F P) : Calls Tryz.prog 14 #[.pointer (some ⟨P, 0, none⟩), stepV kd a b c n dr] w fun e w' => StepPost (stepS d kd a b c n D) w w' P fv F e := by
 have HK : Hid _ := fun w => pick_c kd 7 (by decide) (by decide) h1.1 h1.2 w
 have hp0 := cell_at hr (i := 0) rfl
 have hPl := lG w _ hp0
 have HR : Hid (RunAt w P B fv) := hr
 have HD : Hid (DealX w B F d) := hd
 have HQ : Hid _ := fun w => keepRequest_c kd a b c n dr h1 h2 h3 h4 h5 w
 obtain ⟨kk, s, i, q1, q2, q3, q4, f, c', p, hq1, hq2⟩ := step_req d kd a b c n D ⟨hk.1, hk.2.1, hk.2.2.1⟩
 rw [hq1] at HQ
 rw [hq2]
 have HAs : Hid (∀ w', Ext w w' -> _) := fun w' hx => (ask_xd hg ho kk s i q1 q2 q3 q4 f c' p (hd.ext hx)).1.ask
 generalize d.ask kk s i q1 q2 q3 q4 f c' p = A at *
 obtain ⟨⟨c0, fr, n0, zs⟩, d'⟩ := A
 have lk := pickN_lt kd (show 0 < 7 by decide)
 unfold stepV reqV at *
 generalize hpk : pickN kd 7 = pk at HK hk lk
 obtain ⟨k0, k3, k4, k6⟩ := hk
 have j0 : ¬ (pk : Int) = 0 := by omega
 have j3 : ¬ (pk : Int) = 3 := by omega
 have j4 : ¬ (pk : Int) = 4 := by omega
 have j6 : ¬ (pk : Int) = 6 := by omega
 clear h1 h2 hr hd h3 h4 h5 hg ho hq1 hq2 hpk k0 k3 k4 k6 lk
 go_enter Tryz.func14, Tryz.ntmps14
 go_wp2_with fail
 refine (HK.out _).mono ?_
 rintro e w1 ⟨rfl, rfl⟩
 go_wp2_with fail
 have hrs := ((Ext.refl _).alloc (.cells #[.int .i64 0, .int .i64 0, .int .i64 0, .slice none 0 0] 33)).block (heap_alloc_new w (.cells #[.int .i64 kd, .int .i64 a, .int .i64 b, .int .i64 c, .int .i64 n, dr] 37))
 have hrr := heap_alloc_new (w.alloc (.cells #[.int .i64 kd, .int .i64 a, .int .i64 b, .int .i64 c, .int .i64 n, dr] 37)) (.cells #[.int .i64 0, .int .i64 0, .int .i64 0, .slice none 0 0] 33)
 have hsz : (w.alloc (.cells #[.int .i64 kd, .int .i64 a, .int .i64 b, .int .i64 c, .int .i64 n, dr] 37)).heap.size = w.heap.size + 1 := by show (w.heap.push _).size = _; exact Array.size_push ..
 rw [hsz] at hrr
 have hX := ((Ext.refl w).alloc (.cells #[.int .i64 kd, .int .i64 a, .int .i64 b, .int .i64 c, .int .i64 n, dr] 37)).alloc (.cells #[.int .i64 0, .int .i64 0, .int .i64 0, .slice none 0 0] 33)
 generalize World.alloc (World.alloc w _) _ = W at hrs hrr hX ⊢
 obtain ⟨sb, hsb⟩ : ∃ sb, w.heap.size = sb := ⟨_, rfl⟩
 obtain ⟨rb, hrb⟩ : ∃ rb, w.heap.size + 1 = rb := ⟨_, rfl⟩
 rw [hsb] at hrs
 rw [hrb] at hrr ⊢
 rw [hsb]
 have HRS : Hid _ := hrs
 have HRR : Hid _ := hrr
 have HX : Hid (Ext w W) := hX
 have hFs : ¬ F sb := fun hf => by have := HD.out.lt sb hf; omega
 have hFr : ¬ F rb := fun hf => by have := HD.out.lt rb hf; omega
 have HFS : Hid (¬ F sb /\ ¬ F rb /\ ¬ F P /\ sb <= rb /\ w.heap.size <= sb) := ⟨hFs, hFr, hP, by omega, by omega⟩
 have hne : sb ≠ rb := by omega
 have HFS2 : Hid (rb < W.heap.size) := (Array.getElem?_eq_some_iff.1 HRR.out).1
 have hPs : P < W.heap.size := Nat.lt_of_lt_of_le hPl HX.out.le
 have p0 := HX.out.cell hp0
 have s1 := (cell_of_row W _ 1 _ _ _ HRS.out).trans (show _ = some (.int .i64 a) from rfl)
 clear hrs hrr hX hsz hsb hrb hp0 hPl hFs hFr hP
 refine (HQ.out _).mono ?_
 rintro e w1 ⟨rfl, hx1⟩
 have HX1 : Hid (Ext W w1) := hx1
 have p1 := hx1.cell p0
 have hP1 : P < w1.heap.size := Nat.lt_of_lt_of_le hPs hx1.le
 clear hx1 p0 s1 hPs
 go_wp2_with fail
 have hrow := heap_alloc_new w1 (.cells #[.int .i64 kk, .int .i64 s, .int .i64 i, .int .i64 q1, .int .i64 q2, .int .i64 q3, .int .i64 q4, .int .i64 f, .int .i64 c', .int .i64 p] 51)
 have hx0 : Ext w1 (w1.alloc (.cells #[.int .i64 kk, .int .i64 s, .int .i64 i, .int .i64 q1, .int .i64 q2, .int .i64 q3, .int .i64 q4, .int .i64 f, .int .i64 c', .int .i64 p] 51)) := (Ext.refl w1).alloc _
 generalize World.alloc w1 _ = W1 at hrow hx0 ⊢
 obtain ⟨gq, hgq⟩ : ∃ gq, w1.heap.size = gq := ⟨_, rfl⟩
 rw [hgq] at hrow ⊢
 have hFq : ¬ F gq := fun hf => by have := HD.out.lt gq hf; have := HX.out.le; have := HX1.out.le; omega
 have HFQ : Hid (¬ F gq /\ rb < gq) := ⟨hFq, by have := HFS2.out; have := HX1.out.le; omega⟩
 have p2 := hx0.cell p1
 have HX2 : Hid (Ext W W1) := HX1.out.trans hx0
 have k0 := (cell_of_row W1 _ 0 _ _ _ hrow).trans (show _ = some (.int .i64 kk) from rfl)
 have k1 := (cell_of_row W1 _ 1 _ _ _ hrow).trans (show _ = some (.int .i64 s) from rfl)
 have k2 := (cell_of_row W1 _ 2 _ _ _ hrow).trans (show _ = some (.int .i64 i) from rfl)
 have k3 := (cell_of_row W1 _ 3 _ _ _ hrow).trans (show _ = some (.int .i64 q1) from rfl)
 have k4 := (cell_of_row W1 _ 4 _ _ _ hrow).trans (show _ = some (.int .i64 q2) from rfl)
 have k5 := (cell_of_row W1 _ 5 _ _ _ hrow).trans (show _ = some (.int .i64 q3) from rfl)
 have k6 := (cell_of_row W1 _ 6 _ _ _ hrow).trans (show _ = some (.int .i64 q4) from rfl)
 have k7 := (cell_of_row W1 _ 7 _ _ _ hrow).trans (show _ = some (.int .i64 f) from rfl)
 have k8 := (cell_of_row W1 _ 8 _ _ _ hrow).trans (show _ = some (.int .i64 c') from rfl)
 have k9 := (cell_of_row W1 _ 9 _ _ _ hrow).trans (show _ = some (.int .i64 p) from rfl)
 have SD : Hid (∀ W2, Turn F W1 W2 -> (fun w' => w'.cell? ⟨P, 0, none⟩ = some (.pointer (some ⟨B, 0, none⟩)) /\ w'.cell? ⟨gq, 0, none⟩ = some (.int .i64 kk) /\ w'.cell? ⟨gq, 1, none⟩ = some (.int .i64 s) /\ w'.cell? ⟨gq, 2, none⟩ = some (.int .i64 i) /\ w'.cell? ⟨gq, 3, none⟩ = some (.int .i64 q1) /\ w'.cell? ⟨gq, 4, none⟩ = some (.int .i64 q2) /\ w'.cell? ⟨gq, 5, none⟩ = some (.int .i64 q3) /\ w'.cell? ⟨gq, 6, none⟩ = some (.int .i64 q4) /\ w'.cell? ⟨gq, 7, none⟩ = some (.int .i64 f) /\ w'.cell? ⟨gq, 8, none⟩ = some (.int .i64 c') /\ w'.cell? ⟨gq, 9, none⟩ = some (.int .i64 p)) W2) := fun W2 hT => ⟨hT.cell p2 HFS.out.2.2.1, hT.cell k0 HFQ.out.1, hT.cell k1 HFQ.out.1, hT.cell k2 HFQ.out.1, hT.cell k3 HFQ.out.1, hT.cell k4 HFQ.out.1, hT.cell k5 HFQ.out.1, hT.cell k6 HFQ.out.1, hT.cell k7 HFQ.out.1, hT.cell k8 HFQ.out.1, hT.cell k9 HFQ.out.1⟩
 clear hrow hx0 hgq hFq p1 hP1
 refine wp_region_held_drew (S := ((fun w' => w'.cell? ⟨P, 0, none⟩ = some (.pointer (some ⟨B, 0, none⟩)) /\ w'.cell? ⟨gq, 0, none⟩ = some (.int .i64 kk) /\ w'.cell? ⟨gq, 1, none⟩ = some (.int .i64 s) /\ w'.cell? ⟨gq, 2, none⟩ = some (.int .i64 i) /\ w'.cell? ⟨gq, 3, none⟩ = some (.int .i64 q1) /\ w'.cell? ⟨gq, 4, none⟩ = some (.int .i64 q2) /\ w'.cell? ⟨gq, 5, none⟩ = some (.int .i64 q3) /\ w'.cell? ⟨gq, 6, none⟩ = some (.int .i64 q4) /\ w'.cell? ⟨gq, 7, none⟩ = some (.int .i64 f) /\ w'.cell? ⟨gq, 8, none⟩ = some (.int .i64 c') /\ w'.cell? ⟨gq, 9, none⟩ = some (.int .i64 p)))) (by kernel_rfl) ⟨p2, k0, k1, k2, k3, k4, k5, k6, k7, k8, k9⟩ (fun hHeld => ?_)
 refine zT 0 hHeld ?_
 refine zT 1 hHeld ?_
 refine zT 2 hHeld ?_
 refine zT 3 hHeld ?_
 refine zT 4 hHeld ?_
 refine wpAnyH_ready (rs := [5]) (by kernel_rfl) (by simp) ?_
 refine AllReadyH.cons (o := _) rfl (fun K hK => ?_) AllReadyH.nil
 (try simp only [lA, lB, lC])
 go_simp
 refine (HAs.out _ (Ext.drew (HX.out.trans HX2.out))).mono ?_
 rintro e w2 ⟨ra, rl, rc, F', rfl, hzs, hso⟩
 unfold replyV
 have hT1 : Turn F W1 w2 := (Turn.of_ext (Ext.drew (Ext.refl W1))).trans hso.turn
 have hT : Turn F W w2 := (Turn.of_ext HX2.out).trans hT1
 have HT : Hid (Turn F W w2) := hT
 have HSO : Hid _ := hso
 have HZS : Hid _ := hzs
 have HS2 : Hid _ := SD.out _ hT1
 have hrr2 := hT.ref HRR.out HFS.out.2.1
 have HRR2 : Hid _ := hrr2
 have r0 := (cell_of_row w2 _ 0 _ _ _ hrr2).trans (show _ = some (.int .i64 0) from rfl)
 have r1 := (cell_of_row w2 _ 1 _ _ _ hrr2).trans (show _ = some (.int .i64 0) from rfl)
 have r2 := (cell_of_row w2 _ 2 _ _ _ hrr2).trans (show _ = some (.int .i64 0) from rfl)
 have r3 := (cell_of_row w2 _ 3 _ _ _ hrr2).trans (show _ = some (.slice none 0 0) from rfl)
 have f0 := frozen_row hrr2 0
 have f1 := frozen_row hrr2 1
 have f2 := frozen_row hrr2 2
 have f3 := frozen_row hrr2 3
 clear hrr2
 clear hso hzs hT hT1
 refine hK.out _ _ HS2.out (fun hHeld => ?_)
 clear hK K
 try simp only [Act.put, lA, lB, lC, lD, lE, lF]
 refine wpAnyH_ready (rs := [6]) (by kernel_rfl) (by simp) ?_
 refine AllReadyH.cons (o := _) rfl (fun K hK => ?_) AllReadyH.nil
 (try simp only [lA, lB, lC])
 go_simp
 refine hK.out _ _ ?hlast (fun hHeld => ?_)
 case hlast =>
  have hq := HS2.out
  have hrP : rb ≠ P := fun e => by have := (Array.getElem?_eq_some_iff.1 HR.out).1; have := HFS.out.2.2.2; omega
  have hrq : rb ≠ gq := fun e => by have := HFQ.out.2; omega
  exact ⟨(four_far hrP).trans hq.1, (four_far hrq).trans hq.2.1, (four_far hrq).trans hq.2.2.1, (four_far hrq).trans hq.2.2.2.1, (four_far hrq).trans hq.2.2.2.2.1, (four_far hrq).trans hq.2.2.2.2.2.1, (four_far hrq).trans hq.2.2.2.2.2.2.1, (four_far hrq).trans hq.2.2.2.2.2.2.2.1, (four_far hrq).trans hq.2.2.2.2.2.2.2.2.1, (four_far hrq).trans hq.2.2.2.2.2.2.2.2.2.1, (four_far hrq).trans hq.2.2.2.2.2.2.2.2.2.2⟩
 clear hK K
 try simp only [Act.put, lA, lB, lC, lD, lE, lF]
 obtain ⟨hv, hVT⟩ := four_end HRR2.out (.int .i64 c0) (.int .i64 fr) (.int .i64 n0) (.slice ra rl rc)
 generalize World.setCell _ _ _ = V at hv hVT hHeld ⊢
 refine zT 7 hHeld ?_
 refine wpAnyH_done (by kernel_rfl) ?_ _
 have v0 := (cell_of_row V _ 0 _ _ _ hv).trans (show _ = some (.int .i64 c0) from rfl)
 have v1 := (cell_of_row V _ 1 _ _ _ hv).trans (show _ = some (.int .i64 fr) from rfl)
 have v2 := (cell_of_row V _ 2 _ _ _ hv).trans (show _ = some (.int .i64 n0) from rfl)
 have v3 := (cell_of_row V _ 3 _ _ _ hv).trans (show _ = some (.slice ra rl rc) from rfl)
 have hgr : ∀ b, F' b -> F b \/ W.heap.size <= b := fun b hb => (HSO.out.grows b hb).imp id (fun h => Nat.le_trans (Ext.drew HX2.out).le h)
 obtain ⟨e1, e2, e3⟩ := step_end HR.out HX.out HT.out HSO.out.deal hgr HFS.out.2.1 HFS.out.2.2.1 (by have := HFS.out.2.2.2; omega) HFS2.out hVT
 have hrow := hVT.owns (owns_base HSO.out.row (Nat.le_trans HX.out.le (Ext.drew HX2.out).le)) (fun q hq e => by
  have h1 := (World.ownsRow.lt HSO.out.row q hq).1
  have h2 := (Ext.drew HX2.out).le
  have h3 := HFS2.out
  omega)
 clear hv r0 r1 r2 r3 f0 f1 f2 f3 hHeld k0 k1 k2 k3 k4 k5 k6 k7 k8 k9 p2
 go_wp2
 refine bodyPost_ret (v := .tuple #[.agg #[.int .i64 c0, .int .i64 fr, .int .i64 n0, .slice ra rl rc], .bool true]) ?_ rfl ⟨ra, rl, rc, F', rfl, HZS.out, e1, hrow, e2, e3, HSO.out.free⟩
 simp [results, Tryz.results14, go_sem, v0, v1, v2, v3]
theorem stepFill_x {P B : Nat} {fv : Value} {F : Nat -> Prop} {d : DS} (kd a b c n : Int) (dr : Value) (hk : pickN kd 7 = 0) (h1 : inI kd) (h2 : inI a) (h3 : inI b) (ra : Option Addr) (rl rcap : Nat) (hdr : dr = .slice ra rl rcap) (D : List Int) (hdl : D.length = rl) (hrm : rl <= 100000000000000) (hg : d.Good) (ho : d.ops.length <= 1000000) (w : World) (hr : RunAt w P B fv) (hd : DealX w B F d) (hP : ¬ F P) (hdw : rl = 0 \/ ∃ bb off, ra = some ⟨bb, off, none⟩ /\ WordsAt w bb off D) : Calls Tryz.prog 14 #[.pointer (some ⟨P, 0, none⟩), stepV kd a b c n dr] w fun e w' => StepPost (stepS d kd a b c n D) w w' P fv F e := by
 have HK : Hid _ := fun w => pick_c kd 7 (by decide) (by decide) h1.1 h1.2 w
 rw [hk] at HK
 have hp0 := cell_at hr (i := 0) rfl
 have hPl := lG w _ hp0
 have HR : Hid (RunAt w P B fv) := hr
 have HD : Hid (DealX w B F d) := hd
 have HA : Hid _ := fun w => pick_c a 4 (by decide) (by decide) h2.1 h2.2 w
 have HB : Hid _ := fun w => pick_c b 4 (by decide) (by decide) h3.1 h3.2 w
 have la := pickN_lt a (show 0 < 4 by decide)
 have lb := pickN_lt b (show 0 < 4 by decide)
 have HL : Hid _ := fun w => keepClass_c (pickN a 4) (by omega) (by omega) w
 have hcls := clsK_cls (pickN a 4)
 unfold stepS
 rw [hk]
 simp only
 subst hdr
 generalize pickN b 4 = pb at *
 generalize clsK (pickN a 4 : Int) = q at *
 generalize pickN a 4 = pa at *
 obtain ⟨q1, q2, q3, q4⟩ := q
 simp only at *
 obtain ⟨hofc, hok⟩ := shOf_of hcls
 have hle := Sh.le hok
 have hdrs : (shOf q1 q2 q3 q4).dr <= 100 := by unfold Sh.dr; omega
 have hNb : (1 + pb) * (shOf q1 q2 q3 q4).dr <= 400 := by have := Nat.mul_le_mul (show 1 + pb <= 4 by omega) hdrs; omega
 have HDr : Hid (∀ w', Ext w w' -> _) := fun w' hx => keepDraws_c hofc hok (1 + pb) (by omega) ra rl rcap D hdl hrm w' (hdw.imp id (fun ⟨bb, off, e1, e2⟩ => ⟨bb, off, e1, e2.ext hx⟩))
 generalize (1 + pb) * (shOf q1 q2 q3 q4).dr = N at *
 have HRf : Hid (∀ w' gh, Ext w w' -> WordsAt w' gh 0 (fillS D N) -> _) := fun w' gh hx hz => refill_x (kd := q1) (m := q2) (k := q3) (n := q4) hg ho (fillS_len D N) (fillS_u64 D (by omega)) (by omega) (Nat.le_refl _) (hd.ext hx) hz
 generalize hRF : DS.refill d q1 q2 q3 q4 (fillS D N) = rf at *
 obtain ⟨c0, d'⟩ := rf
 simp only at *
 unfold stepV clsV at *
 clear h1 h2 hr hd h3 hg ho hdl hdw hofc hok hle hcls hdrs hRF
 go_enter Tryz.func14, Tryz.ntmps14
 go_wp2_with fail
 refine (HK.out _).mono ?_
 rintro e w1 ⟨rfl, rfl⟩
 go_wp2_with fail
 have hrs := ((Ext.refl _).alloc (.cells #[.int .i64 0, .int .i64 0, .int .i64 0, .slice none 0 0] 33)).block (heap_alloc_new w (.cells #[.int .i64 kd, .int .i64 a, .int .i64 b, .int .i64 c, .int .i64 n, .slice ra rl rcap] 37))
 have hrr := heap_alloc_new (w.alloc (.cells #[.int .i64 kd, .int .i64 a, .int .i64 b, .int .i64 c, .int .i64 n, .slice ra rl rcap] 37)) (.cells #[.int .i64 0, .int .i64 0, .int .i64 0, .slice none 0 0] 33)
 have hsz : (w.alloc (.cells #[.int .i64 kd, .int .i64 a, .int .i64 b, .int .i64 c, .int .i64 n, .slice ra rl rcap] 37)).heap.size = w.heap.size + 1 := by show (w.heap.push _).size = _; exact Array.size_push ..
 rw [hsz] at hrr
 have hX := ((Ext.refl w).alloc (.cells #[.int .i64 kd, .int .i64 a, .int .i64 b, .int .i64 c, .int .i64 n, .slice ra rl rcap] 37)).alloc (.cells #[.int .i64 0, .int .i64 0, .int .i64 0, .slice none 0 0] 33)
 generalize World.alloc (World.alloc w _) _ = W at hrs hrr hX ⊢
 obtain ⟨sb, hsb⟩ : ∃ sb, w.heap.size = sb := ⟨_, rfl⟩
 obtain ⟨rb, hrb⟩ : ∃ rb, w.heap.size + 1 = rb := ⟨_, rfl⟩
 rw [hsb] at hrs
 rw [hrb] at hrr ⊢
 rw [hsb]
 have HRS : Hid _ := hrs
 have HRR : Hid _ := hrr
 have HX : Hid (Ext w W) := hX
 have hFs : ¬ F sb := fun hf => by have := HD.out.lt sb hf; omega
 have hFr : ¬ F rb := fun hf => by have := HD.out.lt rb hf; omega
 have HFS : Hid (¬ F sb /\ ¬ F rb /\ ¬ F P /\ sb <= rb /\ w.heap.size <= sb) := ⟨hFs, hFr, hP, by omega, by omega⟩
 have hne : sb ≠ rb := by omega
 have HFS2 : Hid (rb < W.heap.size) := (Array.getElem?_eq_some_iff.1 HRR.out).1
 have hPs : P < W.heap.size := Nat.lt_of_lt_of_le hPl HX.out.le
 have p0 := HX.out.cell hp0
 have s1 := (cell_of_row W _ 1 _ _ _ HRS.out).trans (show _ = some (.int .i64 a) from rfl)
 clear hrs hrr hX hsz hsb hrb hp0 hPl hFs hFr hP
 refine (HA.out _).mono ?_
 rintro e w1 ⟨rfl, rfl⟩
 go_wp2_with fail
 refine (HL.out _).mono ?_
 rintro e w1 ⟨rfl, hx1⟩
 have HX1 : Hid (Ext W w1) := hx1
 have p1 := hx1.cell p0
 have b2 := hx1.cell ((cell_of_row W _ 2 _ _ _ HRS.out).trans (show _ = some (.int .i64 b) from rfl))
 have b5 := hx1.cell ((cell_of_row W _ 5 _ _ _ HRS.out).trans (show _ = some (.slice ra rl rcap) from rfl))
 have hP1 : P < w1.heap.size := Nat.lt_of_lt_of_le hPs hx1.le
 have hsl : sb < w1.heap.size := by have := HFS.out.2.2.2; have := HFS2.out; have := hx1.le; omega
 clear hx1 p0 s1 hPs
 go_wp2_with fail
 have hrow := heap_alloc_new w1 (.cells #[.int .i64 q1, .int .i64 q2, .int .i64 q3, .int .i64 q4] 49)
 have hx0 : Ext w1 (w1.alloc (.cells #[.int .i64 q1, .int .i64 q2, .int .i64 q3, .int .i64 q4] 49)) := (Ext.refl w1).alloc _
 generalize World.alloc w1 _ = W1 at hrow hx0 ⊢
 obtain ⟨gc, hgc⟩ : ∃ gc, w1.heap.size = gc := ⟨_, rfl⟩
 rw [hgc] at hrow ⊢
 have HX2 : Hid (Ext W W1) := HX1.out.trans hx0
 have p2 := hx0.cell p1
 have d2 := hx0.cell b2
 have d5 := hx0.cell b5
 have k0 := (cell_of_row W1 _ 0 _ _ _ hrow).trans (show _ = some (.int .i64 q1) from rfl)
 have k1 := (cell_of_row W1 _ 1 _ _ _ hrow).trans (show _ = some (.int .i64 q2) from rfl)
 have k2 := (cell_of_row W1 _ 2 _ _ _ hrow).trans (show _ = some (.int .i64 q3) from rfl)
 have k3 := (cell_of_row W1 _ 3 _ _ _ hrow).trans (show _ = some (.int .i64 q4) from rfl)
 have SD : Hid (∀ W2, Ext W1 W2 -> (fun w' => w'.cell? ⟨P, 0, none⟩ = some (.pointer (some ⟨B, 0, none⟩)) /\ w'.cell? ⟨sb, 2, none⟩ = some (.int .i64 b) /\ w'.cell? ⟨sb, 5, none⟩ = some (.slice ra rl rcap) /\ w'.cell? ⟨gc, 0, none⟩ = some (.int .i64 q1) /\ w'.cell? ⟨gc, 1, none⟩ = some (.int .i64 q2) /\ w'.cell? ⟨gc, 2, none⟩ = some (.int .i64 q3) /\ w'.cell? ⟨gc, 3, none⟩ = some (.int .i64 q4)) W2) := fun W2 hT => ⟨hT.cell p2, hT.cell d2, hT.cell d5, hT.cell k0, hT.cell k1, hT.cell k2, hT.cell k3⟩
 have HGC : Hid (¬ F gc) := fun hf => by have := HD.out.lt gc hf; have := HX.out.le; have := HX1.out.le; omega
 clear hrow hx0 hgc p1 hP1 b2 b5 hsl
 refine wp_region_held_drew (S := ((fun w' => w'.cell? ⟨P, 0, none⟩ = some (.pointer (some ⟨B, 0, none⟩)) /\ w'.cell? ⟨sb, 2, none⟩ = some (.int .i64 b) /\ w'.cell? ⟨sb, 5, none⟩ = some (.slice ra rl rcap) /\ w'.cell? ⟨gc, 0, none⟩ = some (.int .i64 q1) /\ w'.cell? ⟨gc, 1, none⟩ = some (.int .i64 q2) /\ w'.cell? ⟨gc, 2, none⟩ = some (.int .i64 q3) /\ w'.cell? ⟨gc, 3, none⟩ = some (.int .i64 q4)))) (by kernel_rfl) ⟨p2, d2, d5, k0, k1, k2, k3⟩ (fun hHeld => ?_)
 refine zT 0 hHeld ?_
 refine zT 1 hHeld ?_
 refine zT 2 hHeld ?_
 refine zT 3 hHeld ?_
 refine zT 4 hHeld ?_
 refine wpAnyH_ready (rs := [5]) (by kernel_rfl) (by simp) ?_
 refine AllReadyH.cons (o := _) rfl (fun K hK => ?_) AllReadyH.nil
 (try simp only [lA, lB, lC])
 go_simp
 refine (HB.out _).mono ?_
 rintro e w2' ⟨rfl, rfl⟩
 refine hK.out _ _ (SD.out _ (Ext.drew (Ext.refl _))) (fun hHeld => ?_)
 clear hK K
 try simp only [Act.put, lA, lB, lC, lD, lE, lF]
 refine zT 6 hHeld ?_
 refine wpAnyH_ready (rs := [7]) (by kernel_rfl) (by simp) ?_
 refine AllReadyH.cons (o := _) rfl (fun K hK => ?_) AllReadyH.nil
 (try simp only [lA, lB, lC])
 go_simp
 rw [show IntKind.i64.wrap ((1 : Int) + (pb : Int)) = ((1 + pb : Nat) : Int) by rw [IntKind.wrap_i64]; omega]
 refine (HDr.out _ (Ext.drew (HX.out.trans HX2.out))).mono ?_
 rintro e w3 ⟨gh, rfl, ho3, hx3⟩
 have hX3 : Ext W1 w3 := (Ext.drew (Ext.refl W1)).trans hx3
 have HX3 : Hid (Ext W w3) := HX2.out.trans hX3
 have HO3 : Hid (WordsAt w3 gh 0 (fillS D N)) := owns_words ho3
 have HS3 : Hid _ := SD.out _ hX3
 clear ho3 hx3 hX3
 refine hK.out _ _ HS3.out (fun hHeld => ?_)
 clear hK K
 try simp only [Act.put, lA, lB, lC, lD, lE, lF]
 refine zT 8 hHeld ?_
 refine wpAnyH_done (by kernel_rfl) ?_ _
 clear hHeld p2 d2 d5 k0 k1 k2 k3
 obtain ⟨p3, _, _, k0, k1, k2, k3⟩ := HS3.out
 have hP3 : P < w3.heap.size := lG w3 _ p3
 go_wp2_with fail
 refine wp_region_held_drew (S := ((fun w' => w'.cell? ⟨P, 0, none⟩ = some (.pointer (some ⟨B, 0, none⟩)) /\ w'.cell? ⟨gc, 0, none⟩ = some (.int .i64 q1) /\ w'.cell? ⟨gc, 1, none⟩ = some (.int .i64 q2) /\ w'.cell? ⟨gc, 2, none⟩ = some (.int .i64 q3) /\ w'.cell? ⟨gc, 3, none⟩ = some (.int .i64 q4)))) (by kernel_rfl) ⟨p3, k0, k1, k2, k3⟩ (fun hHeld => ?_)
 refine zT 0 hHeld ?_
 refine zT 1 hHeld ?_
 refine zT 2 hHeld ?_
 refine zT 3 hHeld ?_
 refine zT 4 hHeld ?_
 refine zT 5 hHeld ?_
 refine wpAnyH_ready (rs := [6]) (by kernel_rfl) (by simp) ?_
 refine AllReadyH.cons (o := _) rfl (fun K hK => ?_) AllReadyH.nil
 (try simp only [lA, lB, lC])
 go_simp
 refine (HRf.out _ _ (Ext.drew (HX.out.trans HX3.out)) (HO3.out.ext (Ext.drew (Ext.refl _)))).mono ?_
 rintro e w2 ⟨rfl, F', hc⟩
 have hT3 : Turn F w3 w2 := (Turn.of_ext (Ext.drew (Ext.refl w3))).trans hc.turn
 have hT : Turn F W w2 := (Turn.of_ext HX3.out).trans hT3
 have HT : Hid (Turn F W w2) := hT
 have HC : Hid _ := hc
 have HG2 : Hid _ := And.intro (hT3.cell p3 HFS.out.2.2.1) (And.intro (hT3.cell k0 HGC.out) (And.intro (hT3.cell k1 HGC.out) (And.intro (hT3.cell k2 HGC.out) (hT3.cell k3 HGC.out))))
 have hrr2 := hT.ref HRR.out HFS.out.2.1
 have HRR2 : Hid _ := hrr2
 have r0 := (cell_of_row w2 _ 0 _ _ _ hrr2).trans (show _ = some (.int .i64 0) from rfl)
 have r1 := (cell_of_row w2 _ 1 _ _ _ hrr2).trans (show _ = some (.int .i64 0) from rfl)
 have r2 := (cell_of_row w2 _ 2 _ _ _ hrr2).trans (show _ = some (.int .i64 0) from rfl)
 have r3 := (cell_of_row w2 _ 3 _ _ _ hrr2).trans (show _ = some (.slice none 0 0) from rfl)
 have f0 := frozen_row hrr2 0
 have f1 := frozen_row hrr2 1
 have f2 := frozen_row hrr2 2
 have f3 := frozen_row hrr2 3
 clear hrr2
 clear hc hT hT3
 refine hK.out _ _ HG2.out (fun hHeld => ?_)
 clear hK K
 try simp only [Act.put, lA, lB, lC, lD, lE, lF]
 refine zT 7 hHeld ?_
 refine wpAnyH_done (by kernel_rfl) ?_ _
 clear hHeld p3 k0 k1 k2 k3 hP3
 go_wp2
 obtain ⟨hv, hVT⟩ := four_end HRR2.out (.int .i64 c0) (.int .i64 0) (.int .i64 0) (.slice none 0 0)
 generalize World.setCell _ _ _ = V at hv hVT ⊢
 have v0 := (cell_of_row V _ 0 _ _ _ hv).trans (show _ = some (.int .i64 c0) from rfl)
 have v1 := (cell_of_row V _ 1 _ _ _ hv).trans (show _ = some (.int .i64 0) from rfl)
 have v2 := (cell_of_row V _ 2 _ _ _ hv).trans (show _ = some (.int .i64 0) from rfl)
 have v3 := (cell_of_row V _ 3 _ _ _ hv).trans (show _ = some (.slice none 0 0) from rfl)
 obtain ⟨e1, e2, e3⟩ := step_end HR.out HX.out HT.out HC.out.deal (fun b hb => (HC.out.grows b hb).imp id (fun h => Nat.le_trans (Ext.drew HX3.out).le h)) HFS.out.2.1 HFS.out.2.2.1 (by have := HFS.out.2.2.2; omega) HFS2.out hVT
 clear hv r0 r1 r2 r3 f0 f1 f2 f3
 refine bodyPost_ret (v := .tuple #[.agg #[.int .i64 c0, .int .i64 0, .int .i64 0, .slice none 0 0], .bool true]) ?_ rfl ⟨none, 0, 0, _, rfl, by simp, e1, World.ownsRow_nil _ _ _ _, e2, e3, fun b hb => by simp [lH] at hb⟩
 simp [results, Tryz.results14, go_sem, v0, v1, v2, v3]
end
-- VSu
section
open Go.RowKit Go.Maps
section
variable {d : DS}
theorem add_ops (rec : ByteArray) (S' : List Stk) (ls' : List LsV) (hah : AhOk d.fl d.ah) : (d.add rec S' ls').ops.length <= d.ops.length + 4 := by
 unfold DS.add
 simp only [List.length_append]
 rw [didOps_len d.fl d.ah hah, addOps_len]
 have hn : ∀ q : Nat, q <= 4 -> diskN d.fl d.ah q <= 4 := fun q hq => by
  unfold diskN
  split
  ·rename_i h
   have := hah h.1
   omega
  ·exact hq
 split
 ·have := hn 2 (by omega); omega
 ·have := hn 4 (by omega); omega
theorem after_ops (A : Ans) (rec : ByteArray) (hah : AhOk d.fl d.ah) : (d.after A rec).2.ops.length <= d.ops.length + 4 := by
 unfold DS.after
 split
 ·simp
 ·exact add_ops _ _ _ hah
theorem refill_ops (kd m k n : Int) (D : List Int) (hah : AhOk d.fl d.ah) : (d.refill kd m k n D).2.ops.length <= d.ops.length + 4 := by
 unfold DS.refill
 split
 ·exact add_ops _ _ _ hah
 ·simp
theorem compact_ops (hah : AhOk d.fl d.ah) : d.compact.2.ops.length <= d.ops.length + 4 := by
 unfold DS.compact
 split
 ·simp
 ·simp only [List.length_append]
  rw [didOps_len d.fl d.ah hah]
  unfold diskN
  split
  ·rename_i h
   have := hah h.1
   have h2 : d.ah < ((opsNew (flatF (recsP (compactS d.S d.ls) d.ls))).length : Int) := h.2
   simp only [opsNew, List.length_cons, List.length_nil] at h2
   omega
  ·simp only [opsNew, List.length_cons, List.length_nil]
   omega
theorem stepS_ops (kd a b c n : Int) (D : List Int) (hah : AhOk d.fl d.ah) : (stepS d kd a b c n D).2.ops.length <= d.ops.length + 4 := by
 unfold stepS
 simp only
 split
 ·exact refill_ops _ _ _ _ _ hah
 ·exact after_ops _ _ hah
 ·exact after_ops _ _ hah
 ·exact compact_ops hah
 ·simp [DS.failAt]
 ·exact after_ops _ _ hah
theorem stepS_good {w : World} {B : Nat} {F : Nat -> Prop} (kd a b c n : Int) (D : List Int) (hg : d.Good) (ho : d.ops.length <= 1000000) (hd : DealX w B F d) : (stepS d kd a b c n D).2.Good := by
 unfold stepS
 simp only
 split
 ·refine refill_good hg (fillS_u64 D ?_)
  have hcls := clsK_cls (pickN a 4)
  obtain ⟨hofc, hok⟩ := shOf_of hcls
  have hle := Sh.le hok
  have hdrs : (shOf (clsK (pickN a 4)).1 (clsK (pickN a 4)).2.1 (clsK (pickN a 4)).2.2.1 (clsK (pickN a 4)).2.2.2).dr <= 100 := by unfold Sh.dr; omega
  have lb := pickN_lt b (show 0 < 4 by decide)
  have := Nat.mul_le_mul (show 1 + pickN b 4 <= 4 by omega) hdrs
  omega
 ·exact (ask_xd hg ho _ _ _ _ _ _ _ _ _ _ hd).2
 ·exact (ask_xd hg ho _ _ _ _ _ _ _ _ _ _ hd).2
 ·exact compact_good hg
 ·have := pickN_lt a (show 0 < 10 by decide)
  exact failAt_good hg (by omega)
 ·exact (ask_xd hg ho _ _ _ _ _ _ _ _ _ _ hd).2
end
theorem step_x {P B : Nat} {fv : Value} {F : Nat -> Prop} {d : DS} (kd a b c n : Int) (ra : Option Addr) (rl rcap : Nat) (D : List Int) (hk : pickN kd 7 ≠ 6) (h1 : inI kd) (h2 : inI a) (h3 : inI b) (h4 : inI c) (h5 : inI n) (hdl : D.length = rl) (hrm : rl <= 100000000000000) (hg : d.Good) (ho : d.ops.length <= 1000000) (w : World) (hr : RunAt w P B fv) (hd : DealX w B F d) (hP : ¬ F P) (hdw : rl = 0 \/ ∃ bb off, ra = some ⟨bb, off, none⟩ /\ WordsAt w bb off D) :
  Calls Tryz.prog 14 #[.pointer (some ⟨P, 0, none⟩), stepV kd a b c n (.slice ra rl rcap)] w fun e w' => StepPost (stepS d kd a b c n D) w w' P fv F e := by
 by_cases k0 : pickN kd 7 = 0
 ·exact stepFill_x kd a b c n _ k0 h1 h2 h3 ra rl rcap rfl D hdl hrm hg ho w hr hd hP hdw
 by_cases k3 : pickN kd 7 = 3
 ·have e : stepS d kd a b c n D = (⟨d.compact.1, 0, 0, []⟩, d.compact.2) := by unfold stepS; rw [k3]; rfl
  rw [e]
  exact stepCompact_x kd a b c n _ k3 h1 h2 hg ho w hr hd hP
 by_cases k4 : pickN kd 7 = 4
 ·have e : stepS d kd a b c n D = (⟨0, 0, 0, []⟩, d.failAt ((pickN a 10 : Int) - 1)) := by unfold stepS; rw [k4]; rfl
  rw [e]
  exact stepFail_x kd a b c n _ k4 h1 h2 w hr hd hP
 exact stepAsk_x kd a b c n _ ⟨k0, k3, k4, hk⟩ h1 h2 h3 h4 h5 D hg ho w hr hd hP
end
-- VSc
section
set_option maxRecDepth 100000
open Go.ChangeShapes Go.WideShapes Go.ChangeAt Go.RowKit Go.Joins
theorem add_at0 (b off i : Nat) : (⟨b, off, none⟩ : Addr).add i = ⟨b, off + i, none⟩ := by unfold Addr.add; split <;> simp_all
def KStepIs (w : World) (N0 : Nat) (cs : Array Value) : Prop := ∃ (kd a b c n : Int) (ra : Option Addr) (rl rcap : Nat) (D : List Int),
 cs = #[.int .i64 kd, .int .i64 a, .int .i64 b, .int .i64 c, .int .i64 n, .slice ra rl rcap] /\ inI kd /\ inI a /\ inI b /\ inI c /\ inI n /\ D.length = rl /\ rl <= 100000000 /\ DrawsAt w ra rl D /\ ∀ b off, rl ≠ 0 /\ ra = some ⟨b, off, none⟩ -> b < N0
theorem KStepIs.turn {w w' : World} {N0 : Nat} {cs : Array Value} (h : KStepIs w N0 cs) (ht : Turn (fun b => N0 <= b) w w') : KStepIs w' N0 cs := by
 obtain ⟨kd, a, b, c, n, ra, rl, rcap, D, h1, h2, h3, h4, h5, h6, h7, h8, h9, h10⟩ := h
 exact ⟨kd, a, b, c, n, ra, rl, rcap, D, h1, h2, h3, h4, h5, h6, h7, h8, h9.turn ht (fun b off e hl => by have := h10 b off e; omega), h10⟩
def KScriptAt (w : World) (N0 : Nat) (sa : Option Addr) (n : Nat) : Prop := n = 0 \/ ∃ b off, sa = some ⟨b, off, none⟩ /\ b < N0 /\ ∀ i, i < n -> ∃ cs, KStepIs w N0 cs /\ ∀ j v, cs[j]? = some v -> w.cell? ⟨b, off + i * 6 + j, none⟩ = some v
theorem KScriptAt.turn {w w' : World} {N0 : Nat} {sa : Option Addr} {n : Nat} (h : KScriptAt w N0 sa n) (ht : Turn (fun b => N0 <= b) w w') : KScriptAt w' N0 sa n := by
 rcases h with h | ⟨b, off, e, hb, hc⟩
 ·exact .inl h
 ·refine .inr ⟨b, off, e, hb, fun i hi => ?_⟩
  obtain ⟨cs, h1, h2⟩ := hc i hi
  exact ⟨cs, h1.turn ht, fun j v hv => ht.cell (h2 j v hv) (fun hl => by simp only at hl; omega)⟩
section
variable {H : Type} {enc : TypeId × Value -> H} {W : World}
theorem cellsKStep : Tryz.prog.cellsOf 37 = 6 := by kernel_rfl
theorem cellsFile : Tryz.prog.cellsOf 74 = 2 := by kernel_rfl
theorem list6 {α : Type} {cs : List α} (h : cs.length = 6) : ∃ c0 c1 c2 c3 c4 c5, cs = [c0, c1, c2, c3, c4, c5] := by
 match cs, h with
 | [c0, c1, c2, c3, c4, c5], _ => exact ⟨c0, c1, c2, c3, c4, c5, rfl⟩
theorem list2 {α : Type} {cs : List α} (h : cs.length = 2) : ∃ c0 c1, cs = [c0, c1] := by
 match cs, h with
 | [c0, c1], _ => exact ⟨c0, c1, rfl⟩
theorem inI_lit {z : Int} (h : Lit.wf (.int .i64 z)) : inI z := by
 simp [Lit.wf, IntKind.min, IntKind.max, IntKind.signed, IntKind.bits] at h
 unfold inI
 omega
theorem open_kstep {base : Nat} {spare : Nat -> Bool} {held : Bool} {fuel : Nat} {cs : List Value} {x : DataW H × List MemPlace} (h : DataW.trod enc Tryz.prog W base spare held fuel 37 cs = some x) (hb : Rows.uptoBulk x.1 <= 1048576) :
  7 <= Rows.uptoBulk x.1 /\ ∃ (kd a b c n : Int) (ra : Option Addr) (rl rcap : Nat) (D : List Int), cs = [.int .i64 kd, .int .i64 a, .int .i64 b, .int .i64 c, .int .i64 n, .slice ra rl rcap] /\ inI kd /\ inI a /\ inI b /\ inI c /\ inI n /\ D.length = rl /\ rl <= 100000000 /\ DrawsAt W ra rl D /\ ∀ b off, rl ≠ 0 /\ ra = some ⟨b, off, none⟩ -> b < W.heap.size := by
 obtain ⟨xs, n, _, rfl, hl, hxl, hf⟩ := DataW.trod_struct Tryz.underlying37 h
 rw [cellsKStep] at hl
 obtain ⟨c0, c1, c2, c3, c4, c5, rfl⟩ := list6 hl
 have hxl6 : xs.length = 6 := hxl
 obtain ⟨y0, y1, y2, y3, y4, y5, rfl⟩ := list6 hxl6
 clear hl h hxl hxl6
 have h0 := hf 0 _ rfl
 have h1 := hf 1 _ rfl
 have h2 := hf 2 _ rfl
 have h3 := hf 3 _ rfl
 have h4 := hf 4 _ rfl
 have h5 := hf 5 _ rfl
 clear hf
 simp [cellsInt, cellsWords] at h0 h1 h2 h3 h4 h5
 have b0 := bulk_one y0.1
 have b1 := bulk_one y1.1
 have b2 := bulk_one y2.1
 have b3 := bulk_one y3.1
 have b4 := bulk_one y4.1
 have b5 := bulk_one y5.1
 simp only [List.map_cons, List.map_nil, Rows.uptoBulk, Rows.uptoBulkAll] at hb ⊢
 refine ⟨by omega, ?_⟩
 have hb5 : Rows.uptoBulk y5.1 <= 1048576 := by omega
 clear hb b0 b1 b2 b3 b4 b5
 obtain ⟨kd, d0, _, w0⟩ := DataW.trod_int Tryz.underlying3 h0
 obtain ⟨a, d1, _, w1⟩ := DataW.trod_int Tryz.underlying3 h1
 obtain ⟨b, d2, _, w2⟩ := DataW.trod_int Tryz.underlying3 h2
 obtain ⟨c, d3, _, w3⟩ := DataW.trod_int Tryz.underlying3 h3
 obtain ⟨n', d4, _, w4⟩ := DataW.trod_int Tryz.underlying3 h4
 obtain ⟨ra, rl, rcap, D, d5, e1, e3, e5, e6⟩ : ∃ (ra : Option Addr) (rl rcap : Nat) (D : List Int), [c5] = [Value.slice ra rl rcap] /\ D.length = rl /\ rl <= 100000000 /\ DrawsAt W ra rl D /\ ∀ b off, rl ≠ 0 /\ ra = some ⟨b, off, none⟩ -> b < W.heap.size := by
  rcases open_ints Tryz.underlying31 Tryz.underlying146 cellsU64 h5 with ⟨hcs, _⟩ | ⟨x, l, c, zs, hcs, _, hl, hm, hz, hy, hcell, hwz⟩
  ·exact ⟨none, 0, 0, [], hcs, rfl, by omega, .inl rfl, fun b off e => by simp at e⟩
  ·have hle : l <= zs.length := by rw [hz]; split <;> omega
   rw [hy] at hb5
   have hl4 : l <= 100000000 := by
    have h1 := bulk_length (lits (H := H) .u64 (zs.take l))
    simp only [Rows.uptoBulk] at hb5
    have h2 : (lits (H := H) .u64 (zs.take l)).length = l := by simp [lits]; omega
    omega
   refine ⟨some x, l, c, zs.take l, hcs, by simp; omega, hl4, ?_, ?_⟩
   ·by_cases h0 : l = 0
    ·exact .inl h0
    ·right
     obtain ⟨b, off, spot⟩ := x
     have hc0 := hcell 0 (by omega)
     have hspot : spot = none := by simpa [Addr.add] using World.cell?_spot hc0
     subst hspot
     refine ⟨b, off, rfl, fun i hi => ?_⟩
     have hi' : i < l := by simp at hi; omega
     have hci := hcell i (by omega)
     have e : (⟨b, off, none⟩ : Addr).add i = ⟨b, off + i, none⟩ := by unfold Addr.add; split <;> simp_all
     rw [e] at hci
     rw [hci]
     simp [List.getD_eq_getElem?_getD, hi']
   ·rintro b off ⟨hne, e⟩
    have e' : x = ⟨b, off, none⟩ := by simpa using e
    have hc0 := hcell 0 (by omega)
    rw [e'] at hc0
    exact lG W _ hc0
 simp at d0 d1 d2 d3 d4 d5
 exact ⟨kd, a, b, c, n', ra, rl, rcap, D, by rw [d0, d1, d2, d3, d4, d5], inI_lit w0, inI_lit w1, inI_lit w2, inI_lit w3, inI_lit w4, e1, e3, e5, e6⟩
theorem open_kscript {fuel : Nat} {v : Value} {y : DataW H × List MemPlace} (h : DataW.trod enc Tryz.prog W 0 (fun _ => true) true fuel 27 [v] = some y) (hb : Rows.uptoBulk y.1 <= 1048576) :
  ∃ (a : Option Addr) (n cap : Nat), v = .slice a n cap /\ n <= 150000 /\ KScriptAt W W.heap.size a n := by
 rcases Go.Deep.open_slice Tryz.underlying27 h with ⟨hcs, _⟩ | ⟨a, len, cap, m, n, D, Pl, hcs, _, hl, _, hm, rfl, hx⟩
 ·exact ⟨none, 0, 0, by simpa using hcs, by omega, .inl rfl⟩
 ·simp only [if_true] at hm
  subst hm
  simp only [Rows.uptoBulk] at hb
  have hd : ∀ i, i < len -> Rows.uptoBulk (D i) <= 1048576 := fun i hi => by
   have := bulk_part (d := D i) (l := (List.range len).map D) (List.mem_map.2 ⟨i, by simpa using hi, rfl⟩)
   omega
  have h7 := bulk_times ((List.range len).map D) 7 (fun d hd' => by
   obtain ⟨i, hi, rfl⟩ := List.mem_map.1 hd'
   have hi' : i < len := by simpa using hi
   obtain ⟨cs', _, ht⟩ := hx i (by omega)
   exact (open_kstep ht (hd i hi')).1)
  simp only [List.length_map, List.length_range] at h7
  refine ⟨some a, len, m, by simpa using hcs, by omega, ?_⟩
  by_cases h0 : len = 0
  ·exact .inl h0
  right
  obtain ⟨b, off, spot⟩ := a
  rw [cellsKStep] at hx
  have hspot : spot = none := by
   obtain ⟨cs', hc, _⟩ := hx 0 (by omega)
   obtain ⟨_, hlen, hcell⟩ := World.cells?_some hc
   have h1 := hcell 0 (by omega)
   rw [List.getElem?_eq_getElem (by omega)] at h1
   simpa [Addr.add] using World.cell?_spot h1
  subst hspot
  have each : ∀ i, i < len -> ∃ cs : Array Value, KStepIs W W.heap.size cs /\ cs.size = 6 /\ ∀ j v, cs[j]? = some v -> W.cell? ⟨b, off + i * 6 + j, none⟩ = some v := fun i hi => by
   obtain ⟨cs', hc, ht⟩ := hx i (by omega)
   obtain ⟨_, hlen, hcell⟩ := World.cells?_some hc
   obtain ⟨_, kd, a, b', c, n', ra, rl, rcap, D', h1, h2, h3, h4, h5, h6, h7, h8, h9, h10⟩ := open_kstep ht (hd i hi)
   refine ⟨cs'.toArray, ⟨kd, a, b', c, n', ra, rl, rcap, D', by rw [h1], h2, h3, h4, h5, h6, h7, h8, h9, h10⟩, by simpa using hlen, fun j v hv => ?_⟩
   have hv' : cs'[j]? = some v := by simpa using hv
   have hj : j < 6 := by
    have := (List.getElem?_eq_some_iff.1 hv').1
    omega
   have := hcell j hj
   rw [add_at0, add_at0, hv'] at this
   exact this
  refine ⟨b, off, rfl, ?_, fun i hi => by obtain ⟨cs, h1, _, h3⟩ := each i hi; exact ⟨cs, h1, h3⟩⟩
  obtain ⟨cs, _, h2, h3⟩ := each 0 (by omega)
  exact lG W _ (h3 0 cs[0] (Array.getElem?_eq_getElem (by omega)))
theorem open_file {base : Nat} {spare : Nat -> Bool} {held : Bool} {fuel : Nat} {cs : List Value} {x : DataW H × List MemPlace} (h : DataW.trod enc Tryz.prog W base spare held fuel 74 cs = some x) (hb : Rows.uptoBulk x.1 <= 1048576) :
  3 <= Rows.uptoBulk x.1 /\ ∃ (a b : ByteArray), cs = [.string a, .string b] /\ b.size <= 1048576 := by
 obtain ⟨xs, n, _, rfl, hl, hxl, hf⟩ := DataW.trod_struct Tryz.underlying74 h
 rw [cellsFile] at hl
 obtain ⟨c0, c1, rfl⟩ := list2 hl
 have hxl2 : xs.length = 2 := hxl
 obtain ⟨y0, y1, rfl⟩ := list2 hxl2
 clear hl h hxl hxl2
 have h0 := hf 0 _ rfl
 have h1 := hf 1 _ rfl
 clear hf
 simp [cellsStr] at h0 h1
 have b0 := bulk_one y0.1
 have b1 := bulk_one y1.1
 simp only [List.map_cons, List.map_nil, Rows.uptoBulk, Rows.uptoBulkAll] at hb ⊢
 refine ⟨by omega, ?_⟩
 have hb1 : Rows.uptoBulk y1.1 <= 1048576 := by omega
 obtain ⟨a, d0, _, _⟩ := DataW.trod_string Tryz.underlying9 h0
 obtain ⟨b, d1, e1, _⟩ := DataW.trod_string Tryz.underlying9 h1
 rw [e1] at hb1
 simp only [Rows.uptoBulk] at hb1
 simp at d0 d1
 refine ⟨a, b, by rw [d0, d1], ?_⟩
 have : b.data.toList.length = b.size := by simp
 omega
theorem open_files {fuel : Nat} {v : Value} {y : DataW H × List MemPlace} (h : DataW.trod enc Tryz.prog W 0 (fun _ => true) true fuel 40 [v] = some y) (hb : Rows.uptoBulk y.1 <= 1048576) :
  ∃ (a : Option Addr) (n cap : Nat) (fs : List (ByteArray × ByteArray)), v = .slice a n cap /\ fs.length = n /\ n <= 1048576 /\ (∀ f ∈ fs, f.2.size <= 1048576) /\ FilesAt W a fs := by
 rcases Go.Deep.open_slice Tryz.underlying40 h with ⟨hcs, _⟩ | ⟨a, len, cap, m, n, D, Pl, hcs, _, hl, _, hm, rfl, hx⟩
 ·exact ⟨none, 0, 0, [], by simpa using hcs, rfl, by omega, by simp, .inl rfl⟩
 ·simp only [if_true] at hm
  subst hm
  simp only [Rows.uptoBulk] at hb
  have hd : ∀ i, i < len -> Rows.uptoBulk (D i) <= 1048576 := fun i hi => by
   have := bulk_part (d := D i) (l := (List.range len).map D) (List.mem_map.2 ⟨i, by simpa using hi, rfl⟩)
   omega
  have h3 := bulk_times ((List.range len).map D) 3 (fun d hd' => by
   obtain ⟨i, hi, rfl⟩ := List.mem_map.1 hd'
   have hi' : i < len := by simpa using hi
   obtain ⟨cs', _, ht⟩ := hx i (by omega)
   exact (open_file ht (hd i hi')).1)
  simp only [List.length_map, List.length_range] at h3
  by_cases h0 : len = 0
  ·exact ⟨some a, len, m, [], by simpa using hcs, h0.symm, by omega, by simp, .inl rfl⟩
  obtain ⟨b, off, spot⟩ := a
  rw [cellsFile] at hx
  have hspot : spot = none := by
   obtain ⟨cs', hc, _⟩ := hx 0 (by omega)
   obtain ⟨_, hlen, hcell⟩ := World.cells?_some hc
   have h1 := hcell 0 (by omega)
   rw [List.getElem?_eq_getElem (by omega)] at h1
   simpa [Addr.add] using World.cell?_spot h1
  subst hspot
  have each : ∀ i, ∃ f : ByteArray × ByteArray, i < len -> f.2.size <= 1048576 /\ W.cell? ⟨b, off + i * 2, none⟩ = some (.string f.1) /\ W.cell? ⟨b, off + i * 2 + 1, none⟩ = some (.string f.2) := fun i => by
   by_cases hi : i < len
   ·obtain ⟨cs', hc, ht⟩ := hx i (by omega)
    obtain ⟨_, hlen, hcell⟩ := World.cells?_some hc
    obtain ⟨_, a1, a2, h1, h2⟩ := open_file ht (hd i hi)
    subst h1
    have k0 := hcell 0 (by omega)
    have k1 := hcell 1 (by omega)
    rw [add_at0, add_at0] at k0 k1
    exact ⟨(a1, a2), fun _ => ⟨h2, k0, k1⟩⟩
   ·exact ⟨(⟨#[]⟩, ⟨#[]⟩), fun h => absurd h hi⟩
  obtain ⟨g, hg⟩ := Classical.axiomOfChoice each
  refine ⟨some ⟨b, off, none⟩, len, m, (List.range len).map g, by simpa using hcs, by simp, by omega, fun f hf => ?_, .inr ⟨b, off, rfl, fun i hi => ?_⟩⟩
  ·obtain ⟨i, hi, rfl⟩ := List.mem_map.1 hf
   exact (hg i (by simpa using hi)).1
  ·have hi' : i < len := by simpa using hi
   simp only [List.getElem_map, List.getElem_range]
   exact (hg i hi').2
end
end
-- VZb
section
open Go.ChangeShapes Go.WideShapes Go.ChangeAt Go.RowKit Go.Joins
theorem ownK : ownKnob Tryz.prog.godebug = none := by kernel_rfl
theorem laidOutK : laidOutB Tryz.prog = true := by kernel_rfl
theorem ext_of_turn {w w' : World} (h : Turn (fun b => w.heap.size <= b) w w') : Below w.heap.size w w' := ⟨h.os, h.tape, h.output, h.size, fun k hk => h.block k hk (by omega)⟩
end
-- VTo
section
open Go.RowKit Go.Maps
section
variable {S : List Stk} {ls : List LsV}
theorem lease_in (hI : InvQ S ls) {l : LsV} (hl : l ∈ ls) {p : Int} (hp : p = 0 \/ p = 1) : inB l.s 0 l.kd l.m l.k l.n l.f l.c p ((0 : Int) == 0) = true := by
 obtain ⟨h1, h2, h3, x, h4, h5⟩ := hI.toInvK.of l hl
 have h6 := hI.lok l hl
 unfold LsOk at h6
 have h7 := hI.made x (List.mem_of_find?_eq_some h4)
 simp [inB, isNum_iff, isByt_iff]
 omega
theorem same_lease (hI : InvQ S ls) {l l' : LsV} (hl : l ∈ ls) (hl' : l' ∈ ls) (hc : l'.kd = l.kd /\ l'.m = l.m /\ l'.k = l.k /\ l'.n = l.n) {num : Int} (h1 : l.f <= num /\ num < l.f + l.c) (h2 : l'.f <= num /\ num < l'.f + l'.c) : l' = l := by
 obtain ⟨a, ha, rfl⟩ := List.getElem_of_mem hl
 obtain ⟨b, hb, rfl⟩ := List.getElem_of_mem hl'
 rcases Nat.lt_trichotomy a b with h | h | h
 ·have := hI.toInvK.apart a b ha hb h ⟨hc.1.symm, hc.2.1.symm, hc.2.2.1.symm, hc.2.2.2.symm⟩
  omega
 ·subst h; rfl
 ·have := hI.toInvK.apart b a hb ha h hc
  omega
theorem told_held (hI : InvQ S ls) {l : LsV} (hl : l ∈ ls) (hr : l.r = false) {p : Int} (hp : p = 0 \/ p = 1) : ∃ x, S.find? (fun x => x.is l.kd l.m l.k l.n) = some x /\ ansS S ls 2 l.s 0 l.kd l.m l.k l.n l.f l.c p = ⟨0, l.f, l.c, fetched x p l.f.toNat l.c.toNat, none⟩ /\ (fetched x p l.f.toNat l.c.toNat).length = l.c.toNat * (x.sh.x + x.sh.y + x.sh.z) := by
 obtain ⟨h1, h2, h3, x, h4, h5⟩ := hI.toInvK.of l hl
 have hm := hI.made x (List.mem_of_find?_eq_some h4)
 have hheld : ∀ i : Nat, i < l.c.toNat -> ls.any (holdsP l.s l.kd l.m l.k l.n (l.f + i)) = true := fun i hi => by
  refine List.any_eq_true.2 ⟨l, hl, ?_⟩
  simp [holdsP, hr]
  omega
 have hcode : fetchCode ls l.s l.kd l.m l.k l.n l.f l.c p = 0 := by
  unfold fetchCode
  rw [if_neg (by omega), if_neg (by omega), if_pos]
  intro i hi
  rw [heldQ_eq hI]
  exact hheld i hi
 refine ⟨x, h4, ?_, ?_⟩
 ·unfold ansS
  rw [if_neg (by decide), if_pos rfl, if_pos (lease_in hI hl hp), h4]
  simp only
  rw [if_neg (by omega), if_neg (by omega), if_pos hcode]
 ·have hok := hI.toInvK.stkOk (List.mem_of_find?_eq_some h4)
  refine fetched_len (c := l.c.toNat) (fun j hj => ?_) _ (Nat.le_refl _)
  have hjl : l.f.toNat + j < x.ts.length := by omega
  refine shareK_len hok hjl (heldQ_kept (ss := l.s) hI h4 hjl ?_) rfl
  have := hheld j hj
  rw [show ((l.f.toNat + j : Nat) : Int) = l.f + j by omega]
  exact this
theorem told_gone (hI : InvQ S ls) {l : LsV} (hl : l ∈ ls) (hr : l.r = true) {p : Int} (hp : p = 0 \/ p = 1) : ansS S ls 2 l.s 0 l.kd l.m l.k l.n l.f l.c p = .code 8 := by
 obtain ⟨h1, h2, h3, x, h4, h5⟩ := hI.toInvK.of l hl
 have hno : ls.any (holdsP l.s l.kd l.m l.k l.n (l.f + (0 : Nat))) = false := by
  rw [List.any_eq_false]
  intro l' hl' hh
  simp [holdsP] at hh
  have e := same_lease hI hl hl' ⟨hh.2.1.1, hh.2.1.2.1, hh.2.1.2.2.1, hh.2.1.2.2.2⟩ (num := l.f) (by omega) (by omega)
  rw [e, hr] at hh
  simp at hh
 have hcode : fetchCode ls l.s l.kd l.m l.k l.n l.f l.c p = 8 := by
  unfold fetchCode
  rw [if_neg (by omega), if_neg (by omega), if_neg]
  intro h
  have := h 0 (by omega)
  rw [heldQ_eq hI, hno] at this
  cases this
 unfold ansS
 rw [if_neg (by decide), if_pos rfl, if_pos (lease_in hI hl hp), h4]
 simp only
 rw [if_neg (by omega), if_neg (by omega), if_neg (by rw [hcode]; decide)]
end
end
-- VTc
section
set_option maxRecDepth 100000
set_option maxHeartbeats 1600000
open Go.RowKit Go.Maps
def Asked (w w' : World) (B : Nat) (F : Nat -> Prop) (d : DS) : Prop := ∃ F', DealX w' B F' d /\ Turn F w w' /\ ∀ b, F' b -> F b \/ w.heap.size <= b
theorem asked_next {w wr w2 w3 w4 : World} {B : Nat} {F F1 F' : Nat -> Prop} {d : DS} (h : DealX wr B F1 d /\ Turn F w wr /\ ∀ b, F1 b -> F b \/ w.heap.size <= b) (hx : Ext wr w2) (hd : DealX w3 B F' d) (ht : Turn F1 w2 w3) (hg : ∀ b, F' b -> F1 b \/ w2.heap.size <= b) (hx3 : Ext w3 w4) : Asked w w4 B F d := by
 obtain ⟨_, h2, h3⟩ := h
 have hs := h2.size
 have hl := hx.le
 refine ⟨F', hd.ext hx3, ((h2.trans (Turn.of_ext hx)).trans' ht (fun b hb e => (h3 b e).resolve_right (by omega))).trans (Turn.of_ext hx3), fun b hb => ?_⟩
 rcases hg b hb with h | h
 ·exact h3 b h
 ·exact .inr (by omega)
theorem told_ask {d : DS} (hg : d.Good) {l : LsV} (hl : l ∈ d.ls) {p : Int} (hp : p = 0 \/ p = 1) : ∃ x, x ∈ d.S /\ (x.kd : Int) = l.kd /\ (x.m : Int) = l.m /\ (x.k : Int) = l.k /\ (x.n : Int) = l.n /\ ∃ c0 f0 n0 zs, d.ask 2 l.s 0 l.kd l.m l.k l.n l.f l.c p = (⟨c0, f0, n0, zs⟩, d) /\ (l.r = false -> c0 = 0 /\ zs.length = l.c.toNat * (x.sh.x + x.sh.y + x.sh.z)) /\ (l.r = true -> c0 = 8) := by
 obtain ⟨x, hx⟩ := hg.inv.has l hl
 have hxi : x.is l.kd l.m l.k l.n = true := by simpa using List.find?_some hx
 obtain ⟨e1, e2, e3, e4⟩ := is_eqs hxi
 refine ⟨x, List.mem_of_find?_eq_some hx, e1, e2, e3, e4, ?_⟩
 cases hr : l.r with
 | true =>
  refine ⟨8, 0, 0, [], ?_, fun h => (by cases h), fun _ => rfl⟩
  unfold DS.ask
  rw [told_gone hg.inv hl hr hp]
  rfl
 | false =>
  obtain ⟨y, hy, h1, h2⟩ := told_held hg.inv hl hr hp
  rw [hx] at hy
  injection hy with hy
  subst hy
  refine ⟨0, l.f, l.c, _, ?_, fun _ => ⟨rfl, h2⟩, fun h => (by cases h)⟩
  unfold DS.ask
  rw [h1]
  rfl
theorem told_c {B n cap gl : Nat} {F : Nat -> Prop} {d : DS} (hg : d.Good) (ho : d.ops.length <= 1000000) (hn : d.ls.length = n) (w : World) (hd : DealX w B F d) (hr : LeasesAt w (.slice (some ⟨gl, 0, none⟩) n cap) d.ls) (hla : ¬ F gl) :
  Calls Tryz.prog 28 #[.pointer (some ⟨B, 0, none⟩), .slice (some ⟨gl, 0, none⟩) n cap] w fun e w' => e = .returned (.bool true) /\ Asked w w' B F d := by
 have hnb : n <= 30 := by have := hg.inv.leases; omega
 have HD : Hid _ := hd
 have HN : Hid _ := hn
 have HR : Hid (LeasesAt w (.slice (some ⟨gl, 0, none⟩) n cap) d.ls) := hr
 have HLA : Hid (¬ F gl) := hla
 have HG : Hid (d.Good /\ d.ops.length <= 1000000) := And.intro hg ho
 clear hg ho hd hr hla hn
 go_enter Tryz.func28, Tryz.ntmps28
 go_wp2_with fail
 go_loopw [5] (fun i wr => ∃ j : Nat, j <= 2 * n /\ i = .int .i64 j /\ Asked w wr B F d) (fun i _ => 2 * n - (intOf i).toNat)
 case atStart => exact ⟨0, Nat.zero_le _, rfl, F, HD.out, Turn.refl _ _, fun b hb => .inl hb⟩
 case round =>
  obtain ⟨j, hj, rfl, hA⟩ := hrel
  have HA : Hid (Asked w wr B F d) := hA
  clear hA
  by_cases hlt : j < 2 * n
  ·obtain ⟨F1, hd1, ht1, hg1⟩ := HA.out
   have hjl : j / 2 < d.ls.length := by rw [HN.out]; omega
   obtain ⟨l0, l1, l2, l3, l4, l5, l6, l7, l8⟩ := (show LeasesAt wr (.slice (some ⟨gl, 0, none⟩) n cap) d.ls from ht1.owns HR.out (fun q hq e => by
    simp [lH] at hq
    subst hq
    exact HLA.out e)).cells (j / 2) hjl
   have hgl := lG wr _ l0
   have HQ : Hid (DealX wr B F1 d /\ Turn F w wr /\ ∀ b, F1 b -> F b \/ w.heap.size <= b) := ⟨hd1, ht1, hg1⟩
   have HL : Hid (d.ls[j / 2] ∈ d.ls) := List.getElem_mem hjl
   generalize d.ls[j / 2] = l at *
   have hdv : Int.tdiv (j : Int) 2 = ((j / 2 : Nat) : Int) := by rw [Int.tdiv_eq_ediv_of_nonneg (by omega)]; rfl
   have hmd : Int.tmod (j : Int) 2 = ((j % 2 : Nat) : Int) := by rw [Int.tmod_eq_emod_of_nonneg (by omega)]; rfl
   have hk0 : (0 : Int) <= ((j / 2 : Nat) : Int) := by omega
   have hk1 : ((j / 2 : Nat) : Int) < n := by omega
   have hm2 : j % 2 < 2 := Nat.mod_lt _ (by omega)
   generalize j / 2 = h at *
   generalize hpp : j % 2 = p at *
   obtain ⟨x, hxS, e1, e2, e3, e4, c0, f0, n0, zs, hask, hfree, hrel⟩ := told_ask HG.out.1 HL.out (p := (p : Int)) (by omega)
   have hxc := HG.out.1.inv.cls x hxS
   have hxk := (HG.out.1.inv.toInvK.of l HL.out).2
   obtain ⟨hofc, hok⟩ := shOf_of hxc
   have HSz : Hid _ := fun w => sizes_c hofc hok w
   have hle := Sh.le hok
   have HAs : Hid (∀ w' F2, DealX w' B F2 d -> _) := fun w' F2 hd => (ask_xd HG.out.1 HG.out.2 2 l.s 0 l.kd l.m l.k l.n l.f l.c p hd).1.ask
   rw [hask] at HAs
   have HFe : Hid _ := fun w => keepFetch_c l.s l.kd l.m l.k l.n l.f l.c p w
   rw [e1, e2, e3, e4] at HSz
   have hsh : x.sh = shOf x.kd x.m x.k x.n := rfl
   rw [hsh] at hfree
   obtain ⟨ls, li, lkd, lm, lk, ln, lf, lc, lr⟩ := l
   simp only at *
   generalize (shOf x.kd x.m x.k x.n).x = X at *
   generalize (shOf x.kd x.m x.k x.n).y = Y at *
   generalize (shOf x.kd x.m x.k x.n).z = Z at *
   have HFR : Hid _ := And.intro hfree hrel
   have HE : Hid _ := And.intro hask hxk
   have hlc : 1 <= lc /\ lc <= 40 := ⟨hxk.1, hxk.2.1⟩
   clear e1 e2 e3 e4 hask hfree hrel hofc hok hxc hxS hxk hsh
   unfold clsV reqV at *
   clear hd1 ht1 hg1 hjl
   go_wp2_with fail
   refine (HSz.out _).mono ?_
   rintro e w1 ⟨rfl, hx1⟩
   have hrow := hx1.block (heap_alloc_new wr _)
   have hX1 : Ext wr w1 := ((Ext.refl wr).alloc _).trans hx1
   have HX1 : Hid (Ext wr w1) := hX1
   obtain ⟨go, hgo⟩ : ∃ go, wr.heap.size = go := ⟨_, rfl⟩
   rw [hgo] at hrow ⊢
   have HROW : Hid _ := hrow
   have o0 := (cell_of_row w1 _ 0 _ _ _ hrow).trans (show _ = some (.int .i64 ls) from rfl)
   have o2 := (cell_of_row w1 _ 2 _ _ _ hrow).trans (show _ = some (.int .i64 lkd) from rfl)
   have o3 := (cell_of_row w1 _ 3 _ _ _ hrow).trans (show _ = some (.int .i64 lm) from rfl)
   have o4 := (cell_of_row w1 _ 4 _ _ _ hrow).trans (show _ = some (.int .i64 lk) from rfl)
   have o5 := (cell_of_row w1 _ 5 _ _ _ hrow).trans (show _ = some (.int .i64 ln) from rfl)
   have o6 := (cell_of_row w1 _ 6 _ _ _ hrow).trans (show _ = some (.int .i64 lf) from rfl)
   have o7 := (cell_of_row w1 _ 7 _ _ _ hrow).trans (show _ = some (.int .i64 lc) from rfl)
   have o8 := (cell_of_row w1 _ 8 _ _ _ hrow).trans (show _ = some (.bool lr) from rfl)
   have hgo1 := lG w1 _ o0
   clear hx1 hX1 hrow l0 l1 l2 l3 l4 l5 l6 l7 l8 hgl
   go_wp2_with fail
   refine (HFe.out _).mono ?_
   rintro e w2 ⟨rfl, hx2⟩
   have HX2 : Hid (Ext wr w2) := HX1.out.trans hx2
   have HOG : Hid (¬ F1 go) := fun hf => by have := HQ.out.1.lt go hf; omega
   have o7 := hx2.cell o7
   have o8 := hx2.cell o8
   clear hx2 o0 o2 o3 o4 o5 o6 hgo1
   go_wp2_with fail
   refine (HAs.out _ _ (HQ.out.1.ext HX2.out)).mono ?_
   rintro e w3 ⟨ra, rl, rc, F', rfl, hzs, hso⟩
   unfold replyV
   have o7 := hso.turn.cell o7 HOG.out
   have o8 := hso.turn.cell o8 HOG.out
   have hgo3 := lG w3 _ o7
   obtain ⟨aa, cc, hsl⟩ := owns_slice hso.row
   injection hsl with hsl1 hsl2 hsl3
   simp only at hsl2
   subst hsl2
   have HNx : Hid (∀ w4, Ext w3 w4 -> Asked w w4 B F d) := fun w4 hx => asked_next HQ.out HX2.out hso.deal hso.turn hso.grows hx
   clear hso hzs
   simp only
   generalize zs.length = zl at *
   have hmul : lr = false -> zl = lc.toNat * (X + Y + Z) := fun h => (HFR.out.1 h).2
   cases lr with
   | true =>
    obtain rfl : c0 = 8 := HFR.out.2 rfl
    clear hmul
    go_wp2_with fail
    exact ⟨⟨j + 1, by omega, by go_num, HNx.out _ (Ext.alloc (Ext.refl _) _)⟩, by simp [intOf]; omega⟩
   | false =>
    obtain rfl : c0 = 0 := (HFR.out.1 rfl).1
    have HZ : Hid ((zl : Int) = lc * ((X : Int) + Y + Z)) := by
     show (zl : Int) = _
     rw [hmul rfl, Int.natCast_mul, show ((lc.toNat : Nat) : Int) = lc by omega]
     simp
    have hzb : zl <= 1080 := by
     rw [hmul rfl]
     exact Nat.le_trans (Nat.mul_le_mul (show lc.toNat <= 40 by omega) (show X + Y + Z <= 27 by omega)) (by decide)
    have hw : wrap64 (lc * ((X : Int) + Y + Z)) = (zl : Int) := by rw [<- HZ.out, show ∀ z : Int, wrap64 z = IntKind.i64.wrap z from fun z => by rw [IntKind.wrap_i64, wrap64]]; exact wrap_small (by omega)
    clear hmul
    go_wp2_with fail
    exact ⟨⟨j + 1, by omega, by go_num, HNx.out _ (Ext.alloc (Ext.refl _) _)⟩, by simp [intOf]; omega⟩
  ·obtain rfl : j = 2 * n := by omega
   go_wp2
   go_ret
   exact ⟨rfl, HA.out⟩
theorem told0_c {B : Nat} {F : Nat -> Prop} {d : DS} (w : World) (hd : DealX w B F d) : Calls Tryz.prog 28 #[.pointer (some ⟨B, 0, none⟩), .slice none 0 0] w fun e w' => e = .returned (.bool true) /\ Asked w w' B F d := by
 have HD : Hid _ := hd
 clear hd
 go_enter Tryz.func28, Tryz.ntmps28
 go_wp2_with fail
 go_loopw [5] (fun i wr => i = .int .i64 0 /\ Asked w wr B F d) (fun _ _ => 0)
 case atStart => exact ⟨rfl, F, HD.out, Turn.refl _ _, fun b hb => .inl hb⟩
 case round =>
  obtain ⟨rfl, hA⟩ := hrel
  have HA : Hid (Asked w wr B F d) := hA
  clear hA
  go_wp2
  go_ret
  exact ⟨rfl, HA.out⟩
theorem told_x {B : Nat} {lv : Value} {F : Nat -> Prop} {d : DS} (hg : d.Good) (ho : d.ops.length <= 1000000) (w : World) (hd : DealX w B F d) (hr : LeasesAt w lv d.ls) (hla : ∀ q, lv.ownBlock = some q -> ¬ F q) :
  Calls Tryz.prog 28 #[.pointer (some ⟨B, 0, none⟩), lv] w fun e w' => e = .returned (.bool true) /\ Asked w w' B F d := by
 rcases hr.form with ⟨rfl, _⟩ | ⟨g, cap, rfl, _⟩
 ·exact told0_c w hd
 ·exact told_c hg ho rfl w hd hr (hla g rfl)
end
end Go.Proofs.YtmnjhhachdlmkaaGreat
