import Derived.ShutString
import Derived.ChangeOld
import Derived.JoinedCond
import Derived.Test.YtmnjhhachdlmkaaGreatK15
import Derived.Test.YtmnjhhachdlmkaaGreatK16
import Derived.Test.YtmnjhhachdlmkaaGreatK09
import Derived.Test.YtmnjhhachdlmkaaGreatK01
import Derived.Test.YtmnjhhachdlmkaaGreatK08
namespace Go.Proofs.YtmnjhhachdlmkaaGreat
set_option linter.unusedVariables false
set_option linter.unusedSimpArgs false
open List renaming getElem_toArray -> lA, getElem_cons_succ -> lB, getElem_cons_zero -> lC, setIfInBounds_toArray -> lD, set_cons_zero -> lE, set_cons_succ -> lF
open World renaming block_lt_of_cell? -> lG
open Value renaming ownBlock -> lH
-- VSt
section
set_option maxRecDepth 100000
set_option maxHeartbeats 1600000
open Go.RowKit Go.Maps
def RunAt (w : World) (P B : Nat) (fv : Value) : Prop := w.heap[P]? = some (.cells #[.pointer (some ⟨B, 0, none⟩), fv] 42 (0, 0))
theorem openedX (w w' : World) (B : Nat) (h : w'.heap[B]? = some (.cells #[.slice none 0 0, .slice none 0 0, .slice none 0 0, .bool false, .int .i64 0, .bool false] 114 (0, 0))) : DealX w' B (fun b => b = B) DS.opened :=
 ⟨[], rfl, ⟨.slice none 0 0, .slice none 0 0, .slice none 0 0, ⟨⟨_, .inl rfl, h⟩, World.ownsRow_nil _ _ _ _, World.ownsRow_nil _ _ _ _, World.ownsRow_nil _ _ _ _, by simp, by simp, by simp, rfl, fun _ hb => by simp [lH] at hb, fun _ hb => by simp [lH] at hb, fun _ hb => by simp [lH] at hb, fun b hb => by rw [hb]; exact (Array.getElem?_eq_some_iff.1 h).1, by simp, by simp⟩⟩, by simp [DS.opened]⟩
theorem began_c (w : World) : Calls Tryz.prog 13 #[] w fun e w' => ∃ P B, e = .returned (.pointer (some ⟨P, 0, none⟩)) /\ RunAt w' P B (.slice none 0 0) /\ DealX w' B (fun b => b = B) DS.opened /\ w.heap.size <= P /\ w.heap.size <= B /\ P ≠ B /\ Ext w w' := by
 go_enter Tryz.func13, Tryz.ntmps13
 go_wp2_with fail
 refine (opened_c w).mono ?_
 rintro e w1 ⟨rfl, rfl⟩
 go_wp2
 go_ret
 refine ⟨w.heap.size + 1, w.heap.size, rfl, ?_, ?_, by omega, by omega, by omega, ((Ext.refl w).alloc _).alloc _⟩
 ·have h := heap_alloc_new (w.alloc (.cells #[.slice none 0 0, .slice none 0 0, .slice none 0 0, .bool false, .int .i64 0, .bool false] 114)) (.cells #[.pointer (some ⟨w.heap.size, 0, none⟩), .slice none 0 0] 42)
  rw [show (w.alloc (.cells #[.slice none 0 0, .slice none 0 0, .slice none 0 0, .bool false, .int .i64 0, .bool false] 114)).heap.size = w.heap.size + 1 from by show (w.heap.push _).size = _; exact Array.size_push ..] at h
  exact h
 ·exact openedX w _ _ (((Ext.refl _).alloc _).block (heap_alloc_new w _))
def stepS (d : DS) (kd a b c n : Int) (D : List Int) : Rep × DS :=
 let q := clsK (pickN a 4)
 let r := clsK (pickN c 4)
 match pickN kd 7 with
 | 0 => let p := d.refill q.1 q.2.1 q.2.2.1 q.2.2.2 (fillS D ((1 + pickN b 4) * (shOf q.1 q.2.1 q.2.2.1 q.2.2.2).dr)); (⟨p.1, 0, 0, []⟩, p.2)
 | 1 => d.ask 1 (1 + pickN a 3 : Nat) (pickN b 4) r.1 r.2.1 r.2.2.1 r.2.2.2 0 (pickN n 6) 0
 | 2 => d.ask 3 (1 + pickN a 3 : Nat) (pickN b 4) 0 0 0 0 0 0 0
 | 3 => (⟨d.compact.1, 0, 0, []⟩, d.compact.2)
 | 4 => (⟨0, 0, 0, []⟩, d.failAt ((pickN a 10 : Int) - 1))
 | _ => d.ask 2 (1 + pickN a 3 : Nat) 0 r.1 r.2.1 r.2.2.1 r.2.2.2 (pickN b 12) (pickN n 6) (pickN (Int.tdiv a 3) 3)
structure StepX (p : Rep × DS) (w w' : World) (P : Nat) (fv : Value) (F F' : Nat -> Prop) (rv : Value) : Prop where
 run : ∃ B, RunAt w' P B fv /\ DealX w' B F' p.2
 row : w'.ownsRow w.heap.size 146 1 rv p.1.zs.length (p.1.zs.map (Value.int .u64))
 turn : Turn F w w'
 grows : ∀ b, F' b -> F b \/ w.heap.size <= b
 free : ∀ b, rv.ownBlock = some b -> ¬ F' b
def StepPost (p : Rep × DS) (w w' : World) (P : Nat) (fv : Value) (F : Nat -> Prop) (e : Ending) : Prop :=
 ∃ ra rl rc F', e = .returned (.tuple #[replyV p.1.c p.1.f p.1.n (.slice ra rl rc), .bool true]) /\ p.1.zs.length <= 100000000 /\ StepX p w w' P fv F F' (.slice ra rl rc)
theorem four_end {w2 : World} {rb : Nat} {o0 o1 o2 o3 : Value} {t : TypeId} (h : w2.heap[rb]? = some (.cells #[o0, o1, o2, o3] t (0, 0))) (a b c d : Value) : ((((w2.setCell ⟨rb, 0, none⟩ a).setCell ⟨rb, 1, none⟩ b).setCell ⟨rb, 2, none⟩ c).setCell ⟨rb, 3, none⟩ d).heap[rb]? = some (.cells #[a, b, c, d] t (0, 0)) /\ Turn (fun q => q = rb) w2 ((((w2.setCell ⟨rb, 0, none⟩ a).setCell ⟨rb, 1, none⟩ b).setCell ⟨rb, 2, none⟩ c).setCell ⟨rb, 3, none⟩ d) :=
 ⟨by have h1 := setCell_row (i := 3) (setCell_row (i := 2) (setCell_row (i := 1) (setCell_row (i := 0) h a) b) c) d; simpa using h1, set4' (Ext.refl w2) a b c d⟩
theorem step_end {w W w2 V : World} {P B rb : Nat} {fv : Value} {F F' : Nat -> Prop} {d' : DS} (hr : RunAt w P B fv) (hX : Ext w W) (hT : Turn F W w2) (hc : DealX w2 B F' d') (hg : ∀ b, F' b -> F b \/ W.heap.size <= b) (hFr : ¬ F rb) (hFP : ¬ F P) (hrb : w.heap.size <= rb) (hrW : rb < W.heap.size) (hV : Turn (fun b => b = rb) w2 V) :
  (∃ B, RunAt V P B fv /\ DealX V B F' d') /\ Turn F w V /\ ∀ b, F' b -> F b \/ w.heap.size <= b := by
 have hPl : P < w.heap.size := (Array.getElem?_eq_some_iff.1 hr).1
 have hXl := hX.le
 refine ⟨⟨B, ?_, ?_⟩, ((Turn.of_ext hX).trans hT).trans' hV (fun b hb e => by omega), fun b hb => (hg b hb).imp id (fun h => by omega)⟩
 ·exact hV.ref (hT.ref (hX.block hr) hFP) (by omega)
 ·exact hc.turn hV (fun b hb e => by
   subst e
   rcases hg _ hb with h | h
   ·exact hFr h
   ·omega)
theorem four_far {w2 : World} {b c i : Nat} (h : b ≠ c) {v0 v1 v2 v3 : Value} : ((((w2.setCell ⟨b, 0, none⟩ v0).setCell ⟨b, 1, none⟩ v1).setCell ⟨b, 2, none⟩ v2).setCell ⟨b, 3, none⟩ v3).cell? ⟨c, i, none⟩ = w2.cell? ⟨c, i, none⟩ := by
 iterate 4 rw [World.cell?_setCell_far _ _ _ _ h]
-- STEPS
theorem stepFail_x {P B : Nat} {fv : Value} {F : Nat -> Prop} {d : DS} (kd a b c n : Int) (dr : Value) (hk : pickN kd 7 = 4) (h1 : inI kd) (h2 : inI a) (w : World) (hr : RunAt w P B fv) (hd : DealX w B F d) (hP : ¬ F P) : Calls Tryz.prog 14 #[.pointer (some ⟨P, 0, none⟩), stepV kd a b c n dr] w fun e w' => StepPost (⟨0, 0, 0, []⟩, d.failAt ((pickN a 10 : Int) - 1)) w w' P fv F e := by
 have HK : Hid _ := fun w => pick_c kd 7 (by decide) (by decide) h1.1 h1.2 w
 have HA : Hid _ := fun w => pick_c a 10 (by decide) (by decide) h2.1 h2.2 w
 have la := pickN_lt a (show 0 < 10 by decide)
 have hp0 := cell_at hr (i := 0) rfl
 have hPl := lG w _ hp0
 have HR : Hid (RunAt w P B fv) := hr
 have HD : Hid (DealX w B F d) := hd
 unfold stepV
 rw [hk] at HK
 generalize pickN a 10 = pa at *
 clear h1 h2 hr hd
 go_enter Tryz.func14, Tryz.ntmps14
 go_wp2_with fail
 refine (HK.out _).mono ?_
 rintro e w1 ⟨rfl, rfl⟩
 go_wp2_with fail
 have hrs := ((Ext.refl _).alloc (.cells #[.int .i64 0, .int .i64 0, .int .i64 0, .slice none 0 0] 33)).block (heap_alloc_new w (.cells #[.int .i64 kd, .int .i64 a, .int .i64 b, .int .i64 c, .int .i64 n, dr] 37))
 have hrr := heap_alloc_new (w.alloc (.cells #[.int .i64 kd, .int .i64 a, .int .i64 b, .int .i64 c, .int .i64 n, dr] 37)) (.cells #[.int .i64 0, .int .i64 0, .int .i64 0, .slice none 0 0] 33)
 have hsz : (w.alloc (.cells #[.int .i64 kd, .int .i64 a, .int .i64 b, .int .i64 c, .int .i64 n, dr] 37)).heap.size = w.heap.size + 1 := by show (w.heap.push _).size = _; exact Array.size_push ..
 rw [hsz] at hrr
 have hX := ((Ext.refl w).alloc (.cells #[.int .i64 kd, .int .i64 a, .int .i64 b, .int .i64 c, .int .i64 n, dr] 37)).alloc (.cells #[.int .i64 0, .int .i64 0, .int .i64 0, .slice none 0 0] 33)
 generalize World.alloc (World.alloc w _) _ = W at hrs hrr hX ⊢
 obtain ⟨sb, hsb⟩ : ∃ sb, w.heap.size = sb := ⟨_, rfl⟩
 obtain ⟨rb, hrb⟩ : ∃ rb, w.heap.size + 1 = rb := ⟨_, rfl⟩
 rw [hsb] at hrs
 rw [hrb] at hrr ⊢
 rw [hsb]
 have HRS : Hid _ := hrs
 have HRR : Hid _ := hrr
 have HX : Hid (Ext w W) := hX
 have hFs : ¬ F sb := fun hf => by have := HD.out.lt sb hf; omega
 have hFr : ¬ F rb := fun hf => by have := HD.out.lt rb hf; omega
 have HFS : Hid (¬ F sb /\ ¬ F rb /\ ¬ F P /\ sb <= rb /\ w.heap.size <= sb) := ⟨hFs, hFr, hP, by omega, by omega⟩
 have hne : sb ≠ rb := by omega
 have HFS2 : Hid (rb < W.heap.size) := (Array.getElem?_eq_some_iff.1 HRR.out).1
 have hPs : P < W.heap.size := Nat.lt_of_lt_of_le hPl HX.out.le
 have p0 := HX.out.cell hp0
 have s1 := (cell_of_row W _ 1 _ _ _ HRS.out).trans (show _ = some (.int .i64 a) from rfl)
 clear hrs hrr hX hsz hsb hrb hp0 hPl hFs hFr hP
 refine wp_region_held_drew (S := ((fun w' => w'.cell? ⟨P, 0, none⟩ = some (.pointer (some ⟨B, 0, none⟩)) /\ w'.cell? ⟨sb, 1, none⟩ = some (.int .i64 a)))) (by kernel_rfl) ⟨p0, s1⟩ (fun hHeld => ?_)
 refine zT 0 hHeld ?_
 refine zT 1 hHeld ?_
 refine zT 2 hHeld ?_
 refine zT 3 hHeld ?_
 refine zT 4 hHeld ?_
 refine zT 5 hHeld ?_
 refine wpAnyH_ready (rs := [6]) (by kernel_rfl) (by simp) ?_
 refine AllReadyH.cons (o := _) rfl (fun K hK => ?_) AllReadyH.nil
 (try simp only [lA, lB, lC])
 go_simp
 refine (HA.out _).mono ?_
 rintro e w2' ⟨rfl, rfl⟩
 refine hK.out _ _ ⟨(Ext.drew (Ext.refl _)).cell p0, (Ext.drew (Ext.refl _)).cell s1⟩ (fun hHeld => ?_)
 clear hK K
 try simp only [Act.put, lA, lB, lC, lD, lE, lF]
 refine zT 7 hHeld ?_
 refine wpAnyH_ready (rs := [8]) (by kernel_rfl) (by simp) ?_
 refine AllReadyH.cons (o := _) rfl (fun K hK => ?_) AllReadyH.nil
 (try simp only [lA, lB, lC])
 go_simp
 refine (failAt_x _ (HD.out.ext (Ext.drew HX.out))).mono ?_
 rintro e w2 ⟨rfl, hc⟩
 have hT : Turn F W w2 := (Turn.of_ext (Ext.drew (Ext.refl W))).trans hc.turn
 have HT : Hid (Turn F W w2) := hT
 have HC : Hid _ := hc
 have q0 := hT.cell p0 HFS.out.2.2.1
 have q1 := hT.cell s1 HFS.out.1
 have hrr2 := hT.ref HRR.out HFS.out.2.1
 have r0 := (cell_of_row w2 _ 0 _ _ _ hrr2).trans (show _ = some (.int .i64 0) from rfl)
 have r1 := (cell_of_row w2 _ 1 _ _ _ hrr2).trans (show _ = some (.int .i64 0) from rfl)
 have r2 := (cell_of_row w2 _ 2 _ _ _ hrr2).trans (show _ = some (.int .i64 0) from rfl)
 have r3 := (cell_of_row w2 _ 3 _ _ _ hrr2).trans (show _ = some (.slice none 0 0) from rfl)
 have f0 := frozen_row hrr2 0
 have f1 := frozen_row hrr2 1
 have f2 := frozen_row hrr2 2
 have f3 := frozen_row hrr2 3
 have HRR2 : Hid _ := hrr2
 clear hc hT hrr2
 refine hK.out _ _ ⟨q0, q1⟩ (fun hHeld => ?_)
 clear hK K
 try simp only [Act.put, lA, lB, lC, lD, lE, lF]
 refine wpAnyH_done (by kernel_rfl) ?_ _
 clear hHeld p0 s1 q0 q1
 go_wp2
 obtain ⟨hv, hVT⟩ := four_end HRR2.out (.int .i64 0) (.int .i64 0) (.int .i64 0) (.slice none 0 0)
 generalize World.setCell _ _ _ = V at hv hVT ⊢
 have v0 := (cell_of_row V _ 0 _ _ _ hv).trans (show _ = some (.int .i64 0) from rfl)
 have v1 := (cell_of_row V _ 1 _ _ _ hv).trans (show _ = some (.int .i64 0) from rfl)
 have v2 := (cell_of_row V _ 2 _ _ _ hv).trans (show _ = some (.int .i64 0) from rfl)
 have v3 := (cell_of_row V _ 3 _ _ _ hv).trans (show _ = some (.slice none 0 0) from rfl)
 obtain ⟨e1, e2, e3⟩ := step_end HR.out HX.out HT.out HC.out.deal (fun b hb => (HC.out.grows b hb).imp id (fun h => Nat.le_trans (Ext.drew (Ext.refl W)).le h)) HFS.out.2.1 HFS.out.2.2.1 (by have := HFS.out.2.2.2; omega) HFS2.out hVT
 rw [show IntKind.i64.wrap ((pa : Int) - 1) = (pa : Int) - 1 by rw [IntKind.wrap_i64]; omega] at e1
 clear hv r0 r1 r2 r3 f0 f1 f2 f3
 refine bodyPost_ret (v := .tuple #[.agg #[.int .i64 0, .int .i64 0, .int .i64 0, .slice none 0 0], .bool true]) ?_ rfl ⟨none, 0, 0, _, rfl, by simp, e1, World.ownsRow_nil _ _ _ _, e2, e3, fun b hb => by simp [lH] at hb⟩
 simp [results, Tryz.results14, go_sem, v0, v1, v2, v3]
theorem stepCompact_x {P B : Nat} {fv : Value} {F : Nat -> Prop} {d : DS} (kd a b c n : Int) (dr : Value) (hk : pickN kd 7 = 3) (h1 : inI kd) (h2 : inI a) (hg : d.Good) (ho : d.ops.length <= 1000000) (w : World) (hr : RunAt w P B fv) (hd : DealX w B F d) (hP : ¬ F P) : Calls Tryz.prog 14 #[.pointer (some ⟨P, 0, none⟩), stepV kd a b c n dr] w fun e w' => StepPost (⟨d.compact.1, 0, 0, []⟩, d.compact.2) w w' P fv F e := by
 have HK : Hid _ := fun w => pick_c kd 7 (by decide) (by decide) h1.1 h1.2 w
 have hp0 := cell_at hr (i := 0) rfl
 have hPl := lG w _ hp0
 have HR : Hid (RunAt w P B fv) := hr
 have HD : Hid (DealX w B F d) := hd
 have HCo : Hid (∀ w', Ext w w' -> _) := fun w' hx => compact_x hg ho (hd.ext hx)
 generalize d.compact = cp at *
 obtain ⟨c0, d'⟩ := cp
 simp only at *
 unfold stepV
 rw [hk] at HK
 clear h1 h2 hr hd hg ho
 go_enter Tryz.func14, Tryz.ntmps14
 go_wp2_with fail
 refine (HK.out _).mono ?_
 rintro e w1 ⟨rfl, rfl⟩
 go_wp2_with fail
 have hrs := ((Ext.refl _).alloc (.cells #[.int .i64 0, .int .i64 0, .int .i64 0, .slice none 0 0] 33)).block (heap_alloc_new w (.cells #[.int .i64 kd, .int .i64 a, .int .i64 b, .int .i64 c, .int .i64 n, dr] 37))
 have hrr := heap_alloc_new (w.alloc (.cells #[.int .i64 kd, .int .i64 a, .int .i64 b, .int .i64 c, .int .i64 n, dr] 37)) (.cells #[.int .i64 0, .int .i64 0, .int .i64 0, .slice none 0 0] 33)
 have hsz : (w.alloc (.cells #[.int .i64 kd, .int .i64 a, .int .i64 b, .int .i64 c, .int .i64 n, dr] 37)).heap.size = w.heap.size + 1 := by show (w.heap.push _).size = _; exact Array.size_push ..
 rw [hsz] at hrr
 have hX := ((Ext.refl w).alloc (.cells #[.int .i64 kd, .int .i64 a, .int .i64 b, .int .i64 c, .int .i64 n, dr] 37)).alloc (.cells #[.int .i64 0, .int .i64 0, .int .i64 0, .slice none 0 0] 33)
 generalize World.alloc (World.alloc w _) _ = W at hrs hrr hX ⊢
 obtain ⟨sb, hsb⟩ : ∃ sb, w.heap.size = sb := ⟨_, rfl⟩
 obtain ⟨rb, hrb⟩ : ∃ rb, w.heap.size + 1 = rb := ⟨_, rfl⟩
 rw [hsb] at hrs
 rw [hrb] at hrr ⊢
 rw [hsb]
 have HRS : Hid _ := hrs
 have HRR : Hid _ := hrr
 have HX : Hid (Ext w W) := hX
 have hFs : ¬ F sb := fun hf => by have := HD.out.lt sb hf; omega
 have hFr : ¬ F rb := fun hf => by have := HD.out.lt rb hf; omega
 have HFS : Hid (¬ F sb /\ ¬ F rb /\ ¬ F P /\ sb <= rb /\ w.heap.size <= sb) := ⟨hFs, hFr, hP, by omega, by omega⟩
 have hne : sb ≠ rb := by omega
 have HFS2 : Hid (rb < W.heap.size) := (Array.getElem?_eq_some_iff.1 HRR.out).1
 have hPs : P < W.heap.size := Nat.lt_of_lt_of_le hPl HX.out.le
 have p0 := HX.out.cell hp0
 have s1 := (cell_of_row W _ 1 _ _ _ HRS.out).trans (show _ = some (.int .i64 a) from rfl)
 clear hrs hrr hX hsz hsb hrb hp0 hPl hFs hFr hP
 refine (HCo.out _ HX.out).mono ?_
 rintro e w2 ⟨rfl, F', hc⟩
 have hT : Turn F W w2 := hc.turn
 have HT : Hid (Turn F W w2) := hT
 have HC : Hid _ := hc
 have hrr2 := hT.ref HRR.out HFS.out.2.1
 have HRR2 : Hid _ := hrr2
 have r0 := (cell_of_row w2 _ 0 _ _ _ hrr2).trans (show _ = some (.int .i64 0) from rfl)
 have r1 := (cell_of_row w2 _ 1 _ _ _ hrr2).trans (show _ = some (.int .i64 0) from rfl)
 have r2 := (cell_of_row w2 _ 2 _ _ _ hrr2).trans (show _ = some (.int .i64 0) from rfl)
 have r3 := (cell_of_row w2 _ 3 _ _ _ hrr2).trans (show _ = some (.slice none 0 0) from rfl)
 have f0 := frozen_row hrr2 0
 have f1 := frozen_row hrr2 1
 have f2 := frozen_row hrr2 2
 have f3 := frozen_row hrr2 3
 clear hrr2
 clear hc hT p0 s1
 go_wp2
 obtain ⟨hv, hVT⟩ := four_end HRR2.out (.int .i64 c0) (.int .i64 0) (.int .i64 0) (.slice none 0 0)
 generalize World.setCell _ _ _ = V at hv hVT ⊢
 have v0 := (cell_of_row V _ 0 _ _ _ hv).trans (show _ = some (.int .i64 c0) from rfl)
 have v1 := (cell_of_row V _ 1 _ _ _ hv).trans (show _ = some (.int .i64 0) from rfl)
 have v2 := (cell_of_row V _ 2 _ _ _ hv).trans (show _ = some (.int .i64 0) from rfl)
 have v3 := (cell_of_row V _ 3 _ _ _ hv).trans (show _ = some (.slice none 0 0) from rfl)
 obtain ⟨e1, e2, e3⟩ := step_end HR.out HX.out HT.out HC.out.deal (HC.out.grows) HFS.out.2.1 HFS.out.2.2.1 (by have := HFS.out.2.2.2; omega) HFS2.out hVT
 clear hv r0 r1 r2 r3 f0 f1 f2 f3
 refine bodyPost_ret (v := .tuple #[.agg #[.int .i64 c0, .int .i64 0, .int .i64 0, .slice none 0 0], .bool true]) ?_ rfl ⟨none, 0, 0, _, rfl, by simp, e1, World.ownsRow_nil _ _ _ _, e2, e3, fun b hb => by simp [lH] at hb⟩
 simp [results, Tryz.results14, go_sem, v0, v1, v2, v3]
theorem step_req (d : DS) (kd a b c n : Int) (D : List Int) (h : pickN kd 7 ≠ 0 /\ pickN kd 7 ≠ 3 /\ pickN kd 7 ≠ 4) : ∃ kk s i q1 q2 q3 q4 f c' p : Int, reqOf kd a b c n = reqV kk s i q1 q2 q3 q4 f c' p /\ stepS d kd a b c n D = d.ask kk s i q1 q2 q3 q4 f c' p := by
 have lk := pickN_lt kd (show 0 < 7 by decide)
 unfold reqOf stepS
 simp only
 generalize pickN kd 7 = pk at *
 obtain rfl | rfl | rfl | rfl : pk = 1 \/ pk = 2 \/ pk = 5 \/ pk = 6 := by omega
 ·exact ⟨_, _, _, _, _, _, _, _, _, _, rfl, rfl⟩
 ·exact ⟨_, _, _, _, _, _, _, _, _, _, rfl, rfl⟩
 ·exact ⟨_, _, _, _, _, _, _, _, _, _, rfl, rfl⟩
 ·exact ⟨_, _, _, _, _, _, _, _, _, _, rfl, rfl⟩
theorem stepAsk_x {P B : Nat} {fv : Value} {F : Nat -> Prop} {d : DS} (kd a b c n : Int) (dr : Value) (hk : pickN kd 7 ≠ 0 /\ pickN kd 7 ≠ 3 /\ pickN kd 7 ≠ 4 /\ pickN kd 7 ≠ 6) (h1 : inI kd) (h2 : inI a) (h3 : inI b) (h4 : inI c) (h5 : inI n) (D : List Int) (hg : d.Good) (ho : d.ops.length <= 1000000) (w : World) (hr : RunAt w P B fv) (hd : DealX w B F d) (hP : ¬ F P) : Calls Tryz.prog 14 #[.pointer (some ⟨P, 0, none⟩), stepV kd a b c n dr] w fun e w' => StepPost (stepS d kd a b c n D) w w' P fv F e := by
 have HK : Hid _ := fun w => pick_c kd 7 (by decide) (by decide) h1.1 h1.2 w
 have hp0 := cell_at hr (i := 0) rfl
 have hPl := lG w _ hp0
 have HR : Hid (RunAt w P B fv) := hr
 have HD : Hid (DealX w B F d) := hd
 have HQ : Hid _ := fun w => keepRequest_c kd a b c n dr h1 h2 h3 h4 h5 w
 obtain ⟨kk, s, i, q1, q2, q3, q4, f, c', p, hq1, hq2⟩ := step_req d kd a b c n D ⟨hk.1, hk.2.1, hk.2.2.1⟩
 rw [hq1] at HQ
 rw [hq2]
 have HAs : Hid (∀ w', Ext w w' -> _) := fun w' hx => (ask_xd hg ho kk s i q1 q2 q3 q4 f c' p (hd.ext hx)).1.ask
 generalize d.ask kk s i q1 q2 q3 q4 f c' p = A at *
 obtain ⟨⟨c0, fr, n0, zs⟩, d'⟩ := A
 have lk := pickN_lt kd (show 0 < 7 by decide)
 unfold stepV reqV at *
 generalize hpk : pickN kd 7 = pk at HK hk lk
 obtain ⟨k0, k3, k4, k6⟩ := hk
 have j0 : ¬ (pk : Int) = 0 := by omega
 have j3 : ¬ (pk : Int) = 3 := by omega
 have j4 : ¬ (pk : Int) = 4 := by omega
 have j6 : ¬ (pk : Int) = 6 := by omega
 clear h1 h2 hr hd h3 h4 h5 hg ho hq1 hq2 hpk k0 k3 k4 k6 lk
 go_enter Tryz.func14, Tryz.ntmps14
 go_wp2_with fail
 refine (HK.out _).mono ?_
 rintro e w1 ⟨rfl, rfl⟩
 go_wp2_with fail
 have hrs := ((Ext.refl _).alloc (.cells #[.int .i64 0, .int .i64 0, .int .i64 0, .slice none 0 0] 33)).block (heap_alloc_new w (.cells #[.int .i64 kd, .int .i64 a, .int .i64 b, .int .i64 c, .int .i64 n, dr] 37))
 have hrr := heap_alloc_new (w.alloc (.cells #[.int .i64 kd, .int .i64 a, .int .i64 b, .int .i64 c, .int .i64 n, dr] 37)) (.cells #[.int .i64 0, .int .i64 0, .int .i64 0, .slice none 0 0] 33)
 have hsz : (w.alloc (.cells #[.int .i64 kd, .int .i64 a, .int .i64 b, .int .i64 c, .int .i64 n, dr] 37)).heap.size = w.heap.size + 1 := by show (w.heap.push _).size = _; exact Array.size_push ..
 rw [hsz] at hrr
 have hX := ((Ext.refl w).alloc (.cells #[.int .i64 kd, .int .i64 a, .int .i64 b, .int .i64 c, .int .i64 n, dr] 37)).alloc (.cells #[.int .i64 0, .int .i64 0, .int .i64 0, .slice none 0 0] 33)
 generalize World.alloc (World.alloc w _) _ = W at hrs hrr hX ⊢
 obtain ⟨sb, hsb⟩ : ∃ sb, w.heap.size = sb := ⟨_, rfl⟩
 obtain ⟨rb, hrb⟩ : ∃ rb, w.heap.size + 1 = rb := ⟨_, rfl⟩
 rw [hsb] at hrs
 rw [hrb] at hrr ⊢
 rw [hsb]
 have HRS : Hid _ := hrs
 have HRR : Hid _ := hrr
 have HX : Hid (Ext w W) := hX
 have hFs : ¬ F sb := fun hf => by have := HD.out.lt sb hf; omega
 have hFr : ¬ F rb := fun hf => by have := HD.out.lt rb hf; omega
 have HFS : Hid (¬ F sb /\ ¬ F rb /\ ¬ F P /\ sb <= rb /\ w.heap.size <= sb) := ⟨hFs, hFr, hP, by omega, by omega⟩
 have hne : sb ≠ rb := by omega
 have HFS2 : Hid (rb < W.heap.size) := (Array.getElem?_eq_some_iff.1 HRR.out).1
 have hPs : P < W.heap.size := Nat.lt_of_lt_of_le hPl HX.out.le
 have p0 := HX.out.cell hp0
 have s1 := (cell_of_row W _ 1 _ _ _ HRS.out).trans (show _ = some (.int .i64 a) from rfl)
 clear hrs hrr hX hsz hsb hrb hp0 hPl hFs hFr hP
 refine (HQ.out _).mono ?_
 rintro e w1 ⟨rfl, hx1⟩
 have HX1 : Hid (Ext W w1) := hx1
 have p1 := hx1.cell p0
 have hP1 : P < w1.heap.size := Nat.lt_of_lt_of_le hPs hx1.le
 clear hx1 p0 s1 hPs
 go_wp2_with fail
 have hrow := heap_alloc_new w1 (.cells #[.int .i64 kk, .int .i64 s, .int .i64 i, .int .i64 q1, .int .i64 q2, .int .i64 q3, .int .i64 q4, .int .i64 f, .int .i64 c', .int .i64 p] 51)
 have hx0 : Ext w1 (w1.alloc (.cells #[.int .i64 kk, .int .i64 s, .int .i64 i, .int .i64 q1, .int .i64 q2, .int .i64 q3, .int .i64 q4, .int .i64 f, .int .i64 c', .int .i64 p] 51)) := (Ext.refl w1).alloc _
 generalize World.alloc w1 _ = W1 at hrow hx0 ⊢
 obtain ⟨gq, hgq⟩ : ∃ gq, w1.heap.size = gq := ⟨_, rfl⟩
 rw [hgq] at hrow ⊢
 have hFq : ¬ F gq := fun hf => by have := HD.out.lt gq hf; have := HX.out.le; have := HX1.out.le; omega
 have HFQ : Hid (¬ F gq /\ rb < gq) := ⟨hFq, by have := HFS2.out; have := HX1.out.le; omega⟩
 have p2 := hx0.cell p1
 have HX2 : Hid (Ext W W1) := HX1.out.trans hx0
 have k0 := (cell_of_row W1 _ 0 _ _ _ hrow).trans (show _ = some (.int .i64 kk) from rfl)
 have k1 := (cell_of_row W1 _ 1 _ _ _ hrow).trans (show _ = some (.int .i64 s) from rfl)
 have k2 := (cell_of_row W1 _ 2 _ _ _ hrow).trans (show _ = some (.int .i64 i) from rfl)
 have k3 := (cell_of_row W1 _ 3 _ _ _ hrow).trans (show _ = some (.int .i64 q1) from rfl)
 have k4 := (cell_of_row W1 _ 4 _ _ _ hrow).trans (show _ = some (.int .i64 q2) from rfl)
 have k5 := (cell_of_row W1 _ 5 _ _ _ hrow).trans (show _ = some (.int .i64 q3) from rfl)
 have k6 := (cell_of_row W1 _ 6 _ _ _ hrow).trans (show _ = some (.int .i64 q4) from rfl)
 have k7 := (cell_of_row W1 _ 7 _ _ _ hrow).trans (show _ = some (.int .i64 f) from rfl)
 have k8 := (cell_of_row W1 _ 8 _ _ _ hrow).trans (show _ = some (.int .i64 c') from rfl)
 have k9 := (cell_of_row W1 _ 9 _ _ _ hrow).trans (show _ = some (.int .i64 p) from rfl)
 have SD : Hid (∀ W2, Turn F W1 W2 -> (fun w' => w'.cell? ⟨P, 0, none⟩ = some (.pointer (some ⟨B, 0, none⟩)) /\ w'.cell? ⟨gq, 0, none⟩ = some (.int .i64 kk) /\ w'.cell? ⟨gq, 1, none⟩ = some (.int .i64 s) /\ w'.cell? ⟨gq, 2, none⟩ = some (.int .i64 i) /\ w'.cell? ⟨gq, 3, none⟩ = some (.int .i64 q1) /\ w'.cell? ⟨gq, 4, none⟩ = some (.int .i64 q2) /\ w'.cell? ⟨gq, 5, none⟩ = some (.int .i64 q3) /\ w'.cell? ⟨gq, 6, none⟩ = some (.int .i64 q4) /\ w'.cell? ⟨gq, 7, none⟩ = some (.int .i64 f) /\ w'.cell? ⟨gq, 8, none⟩ = some (.int .i64 c') /\ w'.cell? ⟨gq, 9, none⟩ = some (.int .i64 p)) W2) := fun W2 hT => ⟨hT.cell p2 HFS.out.2.2.1, hT.cell k0 HFQ.out.1, hT.cell k1 HFQ.out.1, hT.cell k2 HFQ.out.1, hT.cell k3 HFQ.out.1, hT.cell k4 HFQ.out.1, hT.cell k5 HFQ.out.1, hT.cell k6 HFQ.out.1, hT.cell k7 HFQ.out.1, hT.cell k8 HFQ.out.1, hT.cell k9 HFQ.out.1⟩
 clear hrow hx0 hgq hFq p1 hP1
 refine wp_region_held_drew (S := ((fun w' => w'.cell? ⟨P, 0, none⟩ = some (.pointer (some ⟨B, 0, none⟩)) /\ w'.cell? ⟨gq, 0, none⟩ = some (.int .i64 kk) /\ w'.cell? ⟨gq, 1, none⟩ = some (.int .i64 s) /\ w'.cell? ⟨gq, 2, none⟩ = some (.int .i64 i) /\ w'.cell? ⟨gq, 3, none⟩ = some (.int .i64 q1) /\ w'.cell? ⟨gq, 4, none⟩ = some (.int .i64 q2) /\ w'.cell? ⟨gq, 5, none⟩ = some (.int .i64 q3) /\ w'.cell? ⟨gq, 6, none⟩ = some (.int .i64 q4) /\ w'.cell? ⟨gq, 7, none⟩ = some (.int .i64 f) /\ w'.cell? ⟨gq, 8, none⟩ = some (.int .i64 c') /\ w'.cell? ⟨gq, 9, none⟩ = some (.int .i64 p)))) (by kernel_rfl) ⟨p2, k0, k1, k2, k3, k4, k5, k6, k7, k8, k9⟩ (fun hHeld => ?_)
 refine zT 0 hHeld ?_
 refine zT 1 hHeld ?_
 refine zT 2 hHeld ?_
 refine zT 3 hHeld ?_
 refine zT 4 hHeld ?_
 refine wpAnyH_ready (rs := [5]) (by kernel_rfl) (by simp) ?_
 refine AllReadyH.cons (o := _) rfl (fun K hK => ?_) AllReadyH.nil
 (try simp only [lA, lB, lC])
 go_simp
 refine (HAs.out _ (Ext.drew (HX.out.trans HX2.out))).mono ?_
 rintro e w2 ⟨ra, rl, rc, F', rfl, hzs, hso⟩
 unfold replyV
 have hT1 : Turn F W1 w2 := (Turn.of_ext (Ext.drew (Ext.refl W1))).trans hso.turn
 have hT : Turn F W w2 := (Turn.of_ext HX2.out).trans hT1
 have HT : Hid (Turn F W w2) := hT
 have HSO : Hid _ := hso
 have HZS : Hid _ := hzs
 have HS2 : Hid _ := SD.out _ hT1
 have hrr2 := hT.ref HRR.out HFS.out.2.1
 have HRR2 : Hid _ := hrr2
 have r0 := (cell_of_row w2 _ 0 _ _ _ hrr2).trans (show _ = some (.int .i64 0) from rfl)
 have r1 := (cell_of_row w2 _ 1 _ _ _ hrr2).trans (show _ = some (.int .i64 0) from rfl)
 have r2 := (cell_of_row w2 _ 2 _ _ _ hrr2).trans (show _ = some (.int .i64 0) from rfl)
 have r3 := (cell_of_row w2 _ 3 _ _ _ hrr2).trans (show _ = some (.slice none 0 0) from rfl)
 have f0 := frozen_row hrr2 0
 have f1 := frozen_row hrr2 1
 have f2 := frozen_row hrr2 2
 have f3 := frozen_row hrr2 3
 clear hrr2
 clear hso hzs hT hT1
 refine hK.out _ _ HS2.out (fun hHeld => ?_)
 clear hK K
 try simp only [Act.put, lA, lB, lC, lD, lE, lF]
 refine wpAnyH_ready (rs := [6]) (by kernel_rfl) (by simp) ?_
 refine AllReadyH.cons (o := _) rfl (fun K hK => ?_) AllReadyH.nil
 (try simp only [lA, lB, lC])
 go_simp
 refine hK.out _ _ ?hlast (fun hHeld => ?_)
 case hlast =>
  have hq := HS2.out
  have hrP : rb ≠ P := fun e => by have := (Array.getElem?_eq_some_iff.1 HR.out).1; have := HFS.out.2.2.2; omega
  have hrq : rb ≠ gq := fun e => by have := HFQ.out.2; omega
  exact ⟨(four_far hrP).trans hq.1, (four_far hrq).trans hq.2.1, (four_far hrq).trans hq.2.2.1, (four_far hrq).trans hq.2.2.2.1, (four_far hrq).trans hq.2.2.2.2.1, (four_far hrq).trans hq.2.2.2.2.2.1, (four_far hrq).trans hq.2.2.2.2.2.2.1, (four_far hrq).trans hq.2.2.2.2.2.2.2.1, (four_far hrq).trans hq.2.2.2.2.2.2.2.2.1, (four_far hrq).trans hq.2.2.2.2.2.2.2.2.2.1, (four_far hrq).trans hq.2.2.2.2.2.2.2.2.2.2⟩
 clear hK K
 try simp only [Act.put, lA, lB, lC, lD, lE, lF]
 obtain ⟨hv, hVT⟩ := four_end HRR2.out (.int .i64 c0) (.int .i64 fr) (.int .i64 n0) (.slice ra rl rc)
 generalize World.setCell _ _ _ = V at hv hVT hHeld ⊢
 refine zT 7 hHeld ?_
 refine wpAnyH_done (by kernel_rfl) ?_ _
 have v0 := (cell_of_row V _ 0 _ _ _ hv).trans (show _ = some (.int .i64 c0) from rfl)
 have v1 := (cell_of_row V _ 1 _ _ _ hv).trans (show _ = some (.int .i64 fr) from rfl)
 have v2 := (cell_of_row V _ 2 _ _ _ hv).trans (show _ = some (.int .i64 n0) from rfl)
 have v3 := (cell_of_row V _ 3 _ _ _ hv).trans (show _ = some (.slice ra rl rc) from rfl)
 have hgr : ∀ b, F' b -> F b \/ W.heap.size <= b := fun b hb => (HSO.out.grows b hb).imp id (fun h => Nat.le_trans (Ext.drew HX2.out).le h)
 obtain ⟨e1, e2, e3⟩ := step_end HR.out HX.out HT.out HSO.out.deal hgr HFS.out.2.1 HFS.out.2.2.1 (by have := HFS.out.2.2.2; omega) HFS2.out hVT
 have hrow := hVT.owns (owns_base HSO.out.row (Nat.le_trans HX.out.le (Ext.drew HX2.out).le)) (fun q hq e => by
  have h1 := (World.ownsRow.lt HSO.out.row q hq).1
  have h2 := (Ext.drew HX2.out).le
  have h3 := HFS2.out
  omega)
 clear hv r0 r1 r2 r3 f0 f1 f2 f3 hHeld k0 k1 k2 k3 k4 k5 k6 k7 k8 k9 p2
 go_wp2
 refine bodyPost_ret (v := .tuple #[.agg #[.int .i64 c0, .int .i64 fr, .int .i64 n0, .slice ra rl rc], .bool true]) ?_ rfl ⟨ra, rl, rc, F', rfl, HZS.out, e1, hrow, e2, e3, HSO.out.free⟩
 simp [results, Tryz.results14, go_sem, v0, v1, v2, v3]
theorem stepFill_x {P B : Nat} {fv : Value} {F : Nat -> Prop} {d : DS} (kd a b c n : Int) (dr : Value) (hk : pickN kd 7 = 0) (h1 : inI kd) (h2 : inI a) (h3 : inI b) (ra : Option Addr) (rl rcap : Nat) (hdr : dr = .slice ra rl rcap) (D : List Int) (hdl : D.length = rl) (hrm : rl <= 100000000000000) (hg : d.Good) (ho : d.ops.length <= 1000000) (w : World) (hr : RunAt w P B fv) (hd : DealX w B F d) (hP : ¬ F P) (hdw : rl = 0 \/ ∃ bb off, ra = some ⟨bb, off, none⟩ /\ WordsAt w bb off D) : Calls Tryz.prog 14 #[.pointer (some ⟨P, 0, none⟩), stepV kd a b c n dr] w fun e w' => StepPost (stepS d kd a b c n D) w w' P fv F e := by
 have HK : Hid _ := fun w => pick_c kd 7 (by decide) (by decide) h1.1 h1.2 w
 rw [hk] at HK
 have hp0 := cell_at hr (i := 0) rfl
 have hPl := lG w _ hp0
 have HR : Hid (RunAt w P B fv) := hr
 have HD : Hid (DealX w B F d) := hd
 have HA : Hid _ := fun w => pick_c a 4 (by decide) (by decide) h2.1 h2.2 w
 have HB : Hid _ := fun w => pick_c b 4 (by decide) (by decide) h3.1 h3.2 w
 have la := pickN_lt a (show 0 < 4 by decide)
 have lb := pickN_lt b (show 0 < 4 by decide)
 have HL : Hid _ := fun w => keepClass_c (pickN a 4) (by omega) (by omega) w
 have hcls := clsK_cls (pickN a 4)
 unfold stepS
 rw [hk]
 simp only
 subst hdr
 generalize pickN b 4 = pb at *
 generalize clsK (pickN a 4 : Int) = q at *
 generalize pickN a 4 = pa at *
 obtain ⟨q1, q2, q3, q4⟩ := q
 simp only at *
 obtain ⟨hofc, hok⟩ := shOf_of hcls
 have hle := Sh.le hok
 have hdrs : (shOf q1 q2 q3 q4).dr <= 100 := by unfold Sh.dr; omega
 have hNb : (1 + pb) * (shOf q1 q2 q3 q4).dr <= 400 := by have := Nat.mul_le_mul (show 1 + pb <= 4 by omega) hdrs; omega
 have HDr : Hid (∀ w', Ext w w' -> _) := fun w' hx => keepDraws_c hofc hok (1 + pb) (by omega) ra rl rcap D hdl hrm w' (hdw.imp id (fun ⟨bb, off, e1, e2⟩ => ⟨bb, off, e1, e2.ext hx⟩))
 generalize (1 + pb) * (shOf q1 q2 q3 q4).dr = N at *
 have HRf : Hid (∀ w' gh, Ext w w' -> WordsAt w' gh 0 (fillS D N) -> _) := fun w' gh hx hz => refill_x (kd := q1) (m := q2) (k := q3) (n := q4) hg ho (fillS_len D N) (fillS_u64 D (by omega)) (by omega) (Nat.le_refl _) (hd.ext hx) hz
 generalize hRF : DS.refill d q1 q2 q3 q4 (fillS D N) = rf at *
 obtain ⟨c0, d'⟩ := rf
 simp only at *
 unfold stepV clsV at *
 clear h1 h2 hr hd h3 hg ho hdl hdw hofc hok hle hcls hdrs hRF
 go_enter Tryz.func14, Tryz.ntmps14
 go_wp2_with fail
 refine (HK.out _).mono ?_
 rintro e w1 ⟨rfl, rfl⟩
 go_wp2_with fail
 have hrs := ((Ext.refl _).alloc (.cells #[.int .i64 0, .int .i64 0, .int .i64 0, .slice none 0 0] 33)).block (heap_alloc_new w (.cells #[.int .i64 kd, .int .i64 a, .int .i64 b, .int .i64 c, .int .i64 n, .slice ra rl rcap] 37))
 have hrr := heap_alloc_new (w.alloc (.cells #[.int .i64 kd, .int .i64 a, .int .i64 b, .int .i64 c, .int .i64 n, .slice ra rl rcap] 37)) (.cells #[.int .i64 0, .int .i64 0, .int .i64 0, .slice none 0 0] 33)
 have hsz : (w.alloc (.cells #[.int .i64 kd, .int .i64 a, .int .i64 b, .int .i64 c, .int .i64 n, .slice ra rl rcap] 37)).heap.size = w.heap.size + 1 := by show (w.heap.push _).size = _; exact Array.size_push ..
 rw [hsz] at hrr
 have hX := ((Ext.refl w).alloc (.cells #[.int .i64 kd, .int .i64 a, .int .i64 b, .int .i64 c, .int .i64 n, .slice ra rl rcap] 37)).alloc (.cells #[.int .i64 0, .int .i64 0, .int .i64 0, .slice none 0 0] 33)
 generalize World.alloc (World.alloc w _) _ = W at hrs hrr hX ⊢
 obtain ⟨sb, hsb⟩ : ∃ sb, w.heap.size = sb := ⟨_, rfl⟩
 obtain ⟨rb, hrb⟩ : ∃ rb, w.heap.size + 1 = rb := ⟨_, rfl⟩
 rw [hsb] at hrs
 rw [hrb] at hrr ⊢
 rw [hsb]
 have HRS : Hid _ := hrs
 have HRR : Hid _ := hrr
 have HX : Hid (Ext w W) := hX
 have hFs : ¬ F sb := fun hf => by have := HD.out.lt sb hf; omega
 have hFr : ¬ F rb := fun hf => by have := HD.out.lt rb hf; omega
 have HFS : Hid (¬ F sb /\ ¬ F rb /\ ¬ F P /\ sb <= rb /\ w.heap.size <= sb) := ⟨hFs, hFr, hP, by omega, by omega⟩
 have hne : sb ≠ rb := by omega
 have HFS2 : Hid (rb < W.heap.size) := (Array.getElem?_eq_some_iff.1 HRR.out).1
 have hPs : P < W.heap.size := Nat.lt_of_lt_of_le hPl HX.out.le
 have p0 := HX.out.cell hp0
 have s1 := (cell_of_row W _ 1 _ _ _ HRS.out).trans (show _ = some (.int .i64 a) from rfl)
 clear hrs hrr hX hsz hsb hrb hp0 hPl hFs hFr hP
 refine (HA.out _).mono ?_
 rintro e w1 ⟨rfl, rfl⟩
 go_wp2_with fail
 refine (HL.out _).mono ?_
 rintro e w1 ⟨rfl, hx1⟩
 have HX1 : Hid (Ext W w1) := hx1
 have p1 := hx1.cell p0
 have b2 := hx1.cell ((cell_of_row W _ 2 _ _ _ HRS.out).trans (show _ = some (.int .i64 b) from rfl))
 have b5 := hx1.cell ((cell_of_row W _ 5 _ _ _ HRS.out).trans (show _ = some (.slice ra rl rcap) from rfl))
 have hP1 : P < w1.heap.size := Nat.lt_of_lt_of_le hPs hx1.le
 have hsl : sb < w1.heap.size := by have := HFS.out.2.2.2; have := HFS2.out; have := hx1.le; omega
 clear hx1 p0 s1 hPs
 go_wp2_with fail
 have hrow := heap_alloc_new w1 (.cells #[.int .i64 q1, .int .i64 q2, .int .i64 q3, .int .i64 q4] 49)
 have hx0 : Ext w1 (w1.alloc (.cells #[.int .i64 q1, .int .i64 q2, .int .i64 q3, .int .i64 q4] 49)) := (Ext.refl w1).alloc _
 generalize World.alloc w1 _ = W1 at hrow hx0 ⊢
 obtain ⟨gc, hgc⟩ : ∃ gc, w1.heap.size = gc := ⟨_, rfl⟩
 rw [hgc] at hrow ⊢
 have HX2 : Hid (Ext W W1) := HX1.out.trans hx0
 have p2 := hx0.cell p1
 have d2 := hx0.cell b2
 have d5 := hx0.cell b5
 have k0 := (cell_of_row W1 _ 0 _ _ _ hrow).trans (show _ = some (.int .i64 q1) from rfl)
 have k1 := (cell_of_row W1 _ 1 _ _ _ hrow).trans (show _ = some (.int .i64 q2) from rfl)
 have k2 := (cell_of_row W1 _ 2 _ _ _ hrow).trans (show _ = some (.int .i64 q3) from rfl)
 have k3 := (cell_of_row W1 _ 3 _ _ _ hrow).trans (show _ = some (.int .i64 q4) from rfl)
 have SD : Hid (∀ W2, Ext W1 W2 -> (fun w' => w'.cell? ⟨P, 0, none⟩ = some (.pointer (some ⟨B, 0, none⟩)) /\ w'.cell? ⟨sb, 2, none⟩ = some (.int .i64 b) /\ w'.cell? ⟨sb, 5, none⟩ = some (.slice ra rl rcap) /\ w'.cell? ⟨gc, 0, none⟩ = some (.int .i64 q1) /\ w'.cell? ⟨gc, 1, none⟩ = some (.int .i64 q2) /\ w'.cell? ⟨gc, 2, none⟩ = some (.int .i64 q3) /\ w'.cell? ⟨gc, 3, none⟩ = some (.int .i64 q4)) W2) := fun W2 hT => ⟨hT.cell p2, hT.cell d2, hT.cell d5, hT.cell k0, hT.cell k1, hT.cell k2, hT.cell k3⟩
 have HGC : Hid (¬ F gc) := fun hf => by have := HD.out.lt gc hf; have := HX.out.le; have := HX1.out.le; omega
 clear hrow hx0 hgc p1 hP1 b2 b5 hsl
 refine wp_region_held_drew (S := ((fun w' => w'.cell? ⟨P, 0, none⟩ = some (.pointer (some ⟨B, 0, none⟩)) /\ w'.cell? ⟨sb, 2, none⟩ = some (.int .i64 b) /\ w'.cell? ⟨sb, 5, none⟩ = some (.slice ra rl rcap) /\ w'.cell? ⟨gc, 0, none⟩ = some (.int .i64 q1) /\ w'.cell? ⟨gc, 1, none⟩ = some (.int .i64 q2) /\ w'.cell? ⟨gc, 2, none⟩ = some (.int .i64 q3) /\ w'.cell? ⟨gc, 3, none⟩ = some (.int .i64 q4)))) (by kernel_rfl) ⟨p2, d2, d5, k0, k1, k2, k3⟩ (fun hHeld => ?_)
 refine zT 0 hHeld ?_
 refine zT 1 hHeld ?_
 refine zT 2 hHeld ?_
 refine zT 3 hHeld ?_
 refine zT 4 hHeld ?_
 refine wpAnyH_ready (rs := [5]) (by kernel_rfl) (by simp) ?_
 refine AllReadyH.cons (o := _) rfl (fun K hK => ?_) AllReadyH.nil
 (try simp only [lA, lB, lC])
 go_simp
 refine (HB.out _).mono ?_
 rintro e w2' ⟨rfl, rfl⟩
 refine hK.out _ _ (SD.out _ (Ext.drew (Ext.refl _))) (fun hHeld => ?_)
 clear hK K
 try simp only [Act.put, lA, lB, lC, lD, lE, lF]
 refine zT 6 hHeld ?_
 refine wpAnyH_ready (rs := [7]) (by kernel_rfl) (by simp) ?_
 refine AllReadyH.cons (o := _) rfl (fun K hK => ?_) AllReadyH.nil
 (try simp only [lA, lB, lC])
 go_simp
 rw [show IntKind.i64.wrap ((1 : Int) + (pb : Int)) = ((1 + pb : Nat) : Int) by rw [IntKind.wrap_i64]; omega]
 refine (HDr.out _ (Ext.drew (HX.out.trans HX2.out))).mono ?_
 rintro e w3 ⟨gh, rfl, ho3, hx3⟩
 have hX3 : Ext W1 w3 := (Ext.drew (Ext.refl W1)).trans hx3
 have HX3 : Hid (Ext W w3) := HX2.out.trans hX3
 have HO3 : Hid (WordsAt w3 gh 0 (fillS D N)) := owns_words ho3
 have HS3 : Hid _ := SD.out _ hX3
 clear ho3 hx3 hX3
 refine hK.out _ _ HS3.out (fun hHeld => ?_)
 clear hK K
 try simp only [Act.put, lA, lB, lC, lD, lE, lF]
 refine zT 8 hHeld ?_
 refine wpAnyH_done (by kernel_rfl) ?_ _
 clear hHeld p2 d2 d5 k0 k1 k2 k3
 obtain ⟨p3, _, _, k0, k1, k2, k3⟩ := HS3.out
 have hP3 : P < w3.heap.size := lG w3 _ p3
 go_wp2_with fail
 refine wp_region_held_drew (S := ((fun w' => w'.cell? ⟨P, 0, none⟩ = some (.pointer (some ⟨B, 0, none⟩)) /\ w'.cell? ⟨gc, 0, none⟩ = some (.int .i64 q1) /\ w'.cell? ⟨gc, 1, none⟩ = some (.int .i64 q2) /\ w'.cell? ⟨gc, 2, none⟩ = some (.int .i64 q3) /\ w'.cell? ⟨gc, 3, none⟩ = some (.int .i64 q4)))) (by kernel_rfl) ⟨p3, k0, k1, k2, k3⟩ (fun hHeld => ?_)
 refine zT 0 hHeld ?_
 refine zT 1 hHeld ?_
 refine zT 2 hHeld ?_
 refine zT 3 hHeld ?_
 refine zT 4 hHeld ?_
 refine zT 5 hHeld ?_
 refine wpAnyH_ready (rs := [6]) (by kernel_rfl) (by simp) ?_
 refine AllReadyH.cons (o := _) rfl (fun K hK => ?_) AllReadyH.nil
 (try simp only [lA, lB, lC])
 go_simp
 refine (HRf.out _ _ (Ext.drew (HX.out.trans HX3.out)) (HO3.out.ext (Ext.drew (Ext.refl _)))).mono ?_
 rintro e w2 ⟨rfl, F', hc⟩
 have hT3 : Turn F w3 w2 := (Turn.of_ext (Ext.drew (Ext.refl w3))).trans hc.turn
 have hT : Turn F W w2 := (Turn.of_ext HX3.out).trans hT3
 have HT : Hid (Turn F W w2) := hT
 have HC : Hid _ := hc
 have HG2 : Hid _ := And.intro (hT3.cell p3 HFS.out.2.2.1) (And.intro (hT3.cell k0 HGC.out) (And.intro (hT3.cell k1 HGC.out) (And.intro (hT3.cell k2 HGC.out) (hT3.cell k3 HGC.out))))
 have hrr2 := hT.ref HRR.out HFS.out.2.1
 have HRR2 : Hid _ := hrr2
 have r0 := (cell_of_row w2 _ 0 _ _ _ hrr2).trans (show _ = some (.int .i64 0) from rfl)
 have r1 := (cell_of_row w2 _ 1 _ _ _ hrr2).trans (show _ = some (.int .i64 0) from rfl)
 have r2 := (cell_of_row w2 _ 2 _ _ _ hrr2).trans (show _ = some (.int .i64 0) from rfl)
 have r3 := (cell_of_row w2 _ 3 _ _ _ hrr2).trans (show _ = some (.slice none 0 0) from rfl)
 have f0 := frozen_row hrr2 0
 have f1 := frozen_row hrr2 1
 have f2 := frozen_row hrr2 2
 have f3 := frozen_row hrr2 3
 clear hrr2
 clear hc hT hT3
 refine hK.out _ _ HG2.out (fun hHeld => ?_)
 clear hK K
 try simp only [Act.put, lA, lB, lC, lD, lE, lF]
 refine zT 7 hHeld ?_
 refine wpAnyH_done (by kernel_rfl) ?_ _
 clear hHeld p3 k0 k1 k2 k3 hP3
 go_wp2
 obtain ⟨hv, hVT⟩ := four_end HRR2.out (.int .i64 c0) (.int .i64 0) (.int .i64 0) (.slice none 0 0)
 generalize World.setCell _ _ _ = V at hv hVT ⊢
 have v0 := (cell_of_row V _ 0 _ _ _ hv).trans (show _ = some (.int .i64 c0) from rfl)
 have v1 := (cell_of_row V _ 1 _ _ _ hv).trans (show _ = some (.int .i64 0) from rfl)
 have v2 := (cell_of_row V _ 2 _ _ _ hv).trans (show _ = some (.int .i64 0) from rfl)
 have v3 := (cell_of_row V _ 3 _ _ _ hv).trans (show _ = some (.slice none 0 0) from rfl)
 obtain ⟨e1, e2, e3⟩ := step_end HR.out HX.out HT.out HC.out.deal (fun b hb => (HC.out.grows b hb).imp id (fun h => Nat.le_trans (Ext.drew HX3.out).le h)) HFS.out.2.1 HFS.out.2.2.1 (by have := HFS.out.2.2.2; omega) HFS2.out hVT
 clear hv r0 r1 r2 r3 f0 f1 f2 f3
 refine bodyPost_ret (v := .tuple #[.agg #[.int .i64 c0, .int .i64 0, .int .i64 0, .slice none 0 0], .bool true]) ?_ rfl ⟨none, 0, 0, _, rfl, by simp, e1, World.ownsRow_nil _ _ _ _, e2, e3, fun b hb => by simp [lH] at hb⟩
 simp [results, Tryz.results14, go_sem, v0, v1, v2, v3]
end
-- VSu
section
open Go.RowKit Go.Maps
section
variable {d : DS}
theorem add_ops (rec : ByteArray) (S' : List Stk) (ls' : List LsV) (hah : AhOk d.fl d.ah) : (d.add rec S' ls').ops.length <= d.ops.length + 4 := by
 unfold DS.add
 simp only [List.length_append]
 rw [didOps_len d.fl d.ah hah, addOps_len]
 have hn : ∀ q : Nat, q <= 4 -> diskN d.fl d.ah q <= 4 := fun q hq => by
  unfold diskN
  split
  ·rename_i h
   have := hah h.1
   omega
  ·exact hq
 split
 ·have := hn 2 (by omega); omega
 ·have := hn 4 (by omega); omega
theorem after_ops (A : Ans) (rec : ByteArray) (hah : AhOk d.fl d.ah) : (d.after A rec).2.ops.length <= d.ops.length + 4 := by
 unfold DS.after
 split
 ·simp
 ·exact add_ops _ _ _ hah
theorem refill_ops (kd m k n : Int) (D : List Int) (hah : AhOk d.fl d.ah) : (d.refill kd m k n D).2.ops.length <= d.ops.length + 4 := by
 unfold DS.refill
 split
 ·exact add_ops _ _ _ hah
 ·simp
theorem compact_ops (hah : AhOk d.fl d.ah) : d.compact.2.ops.length <= d.ops.length + 4 := by
 unfold DS.compact
 split
 ·simp
 ·simp only [List.length_append]
  rw [didOps_len d.fl d.ah hah]
  unfold diskN
  split
  ·rename_i h
   have := hah h.1
   have h2 : d.ah < ((opsNew (flatF (recsP (compactS d.S d.ls) d.ls))).length : Int) := h.2
   simp only [opsNew, List.length_cons, List.length_nil] at h2
   omega
  ·simp only [opsNew, List.length_cons, List.length_nil]
   omega
theorem stepS_ops (kd a b c n : Int) (D : List Int) (hah : AhOk d.fl d.ah) : (stepS d kd a b c n D).2.ops.length <= d.ops.length + 4 := by
 unfold stepS
 simp only
 split
 ·exact refill_ops _ _ _ _ _ hah
 ·exact after_ops _ _ hah
 ·exact after_ops _ _ hah
 ·exact compact_ops hah
 ·simp [DS.failAt]
 ·exact after_ops _ _ hah
end
theorem step_x {P B : Nat} {fv : Value} {F : Nat -> Prop} {d : DS} (kd a b c n : Int) (ra : Option Addr) (rl rcap : Nat) (D : List Int) (hk : pickN kd 7 ≠ 6) (h1 : inI kd) (h2 : inI a) (h3 : inI b) (h4 : inI c) (h5 : inI n) (hdl : D.length = rl) (hrm : rl <= 100000000000000) (hg : d.Good) (ho : d.ops.length <= 1000000) (w : World) (hr : RunAt w P B fv) (hd : DealX w B F d) (hP : ¬ F P) (hdw : rl = 0 \/ ∃ bb off, ra = some ⟨bb, off, none⟩ /\ WordsAt w bb off D) :
  Calls Tryz.prog 14 #[.pointer (some ⟨P, 0, none⟩), stepV kd a b c n (.slice ra rl rcap)] w fun e w' => StepPost (stepS d kd a b c n D) w w' P fv F e := by
 by_cases k0 : pickN kd 7 = 0
 ·exact stepFill_x kd a b c n _ k0 h1 h2 h3 ra rl rcap rfl D hdl hrm hg ho w hr hd hP hdw
 by_cases k3 : pickN kd 7 = 3
 ·have e : stepS d kd a b c n D = (⟨d.compact.1, 0, 0, []⟩, d.compact.2) := by unfold stepS; rw [k3]; rfl
  rw [e]
  exact stepCompact_x kd a b c n _ k3 h1 h2 hg ho w hr hd hP
 by_cases k4 : pickN kd 7 = 4
 ·have e : stepS d kd a b c n D = (⟨0, 0, 0, []⟩, d.failAt ((pickN a 10 : Int) - 1)) := by unfold stepS; rw [k4]; rfl
  rw [e]
  exact stepFail_x kd a b c n _ k4 h1 h2 w hr hd hP
 exact stepAsk_x kd a b c n _ ⟨k0, k3, k4, hk⟩ h1 h2 h3 h4 h5 D hg ho w hr hd hP
end
-- VSc
section
set_option maxRecDepth 100000
open Go.ChangeShapes Go.WideShapes Go.ChangeAt Go.RowKit Go.Joins
theorem add_at0 (b off i : Nat) : (⟨b, off, none⟩ : Addr).add i = ⟨b, off + i, none⟩ := by unfold Addr.add; split <;> simp_all
def KStepIs (w : World) (N0 : Nat) (cs : Array Value) : Prop := ∃ (kd a b c n : Int) (ra : Option Addr) (rl rcap : Nat) (D : List Int),
 cs = #[.int .i64 kd, .int .i64 a, .int .i64 b, .int .i64 c, .int .i64 n, .slice ra rl rcap] /\ inI kd /\ inI a /\ inI b /\ inI c /\ inI n /\ D.length = rl /\ rl <= 100000000 /\ DrawsAt w ra rl D /\ ∀ b off, rl ≠ 0 /\ ra = some ⟨b, off, none⟩ -> b < N0
theorem KStepIs.turn {w w' : World} {N0 : Nat} {cs : Array Value} (h : KStepIs w N0 cs) (ht : Turn (fun b => N0 <= b) w w') : KStepIs w' N0 cs := by
 obtain ⟨kd, a, b, c, n, ra, rl, rcap, D, h1, h2, h3, h4, h5, h6, h7, h8, h9, h10⟩ := h
 exact ⟨kd, a, b, c, n, ra, rl, rcap, D, h1, h2, h3, h4, h5, h6, h7, h8, h9.turn ht (fun b off e hl => by have := h10 b off e; omega), h10⟩
def KScriptAt (w : World) (N0 : Nat) (sa : Option Addr) (n : Nat) : Prop := n = 0 \/ ∃ b off, sa = some ⟨b, off, none⟩ /\ b < N0 /\ ∀ i, i < n -> ∃ cs, KStepIs w N0 cs /\ ∀ j v, cs[j]? = some v -> w.cell? ⟨b, off + i * 6 + j, none⟩ = some v
theorem KScriptAt.turn {w w' : World} {N0 : Nat} {sa : Option Addr} {n : Nat} (h : KScriptAt w N0 sa n) (ht : Turn (fun b => N0 <= b) w w') : KScriptAt w' N0 sa n := by
 rcases h with h | ⟨b, off, e, hb, hc⟩
 ·exact .inl h
 ·refine .inr ⟨b, off, e, hb, fun i hi => ?_⟩
  obtain ⟨cs, h1, h2⟩ := hc i hi
  exact ⟨cs, h1.turn ht, fun j v hv => ht.cell (h2 j v hv) (fun hl => by simp only at hl; omega)⟩
section
variable {H : Type} {enc : TypeId × Value -> H} {W : World}
theorem cellsKStep : Tryz.prog.cellsOf 37 = 6 := by kernel_rfl
theorem list6 {α : Type} {cs : List α} (h : cs.length = 6) : ∃ c0 c1 c2 c3 c4 c5, cs = [c0, c1, c2, c3, c4, c5] := by
 match cs, h with
 | [c0, c1, c2, c3, c4, c5], _ => exact ⟨c0, c1, c2, c3, c4, c5, rfl⟩
theorem inI_lit {z : Int} (h : Lit.wf (.int .i64 z)) : inI z := by
 simp [Lit.wf, IntKind.min, IntKind.max, IntKind.signed, IntKind.bits] at h
 unfold inI
 omega
theorem open_kstep {base : Nat} {spare : Nat -> Bool} {held : Bool} {fuel : Nat} {cs : List Value} {x : DataW H × List MemPlace} (h : DataW.trod enc Tryz.prog W base spare held fuel 37 cs = some x) (hb : Rows.uptoBulk x.1 <= 1048576) :
  7 <= Rows.uptoBulk x.1 /\ ∃ (kd a b c n : Int) (ra : Option Addr) (rl rcap : Nat) (D : List Int), cs = [.int .i64 kd, .int .i64 a, .int .i64 b, .int .i64 c, .int .i64 n, .slice ra rl rcap] /\ inI kd /\ inI a /\ inI b /\ inI c /\ inI n /\ D.length = rl /\ rl <= 100000000 /\ DrawsAt W ra rl D /\ ∀ b off, rl ≠ 0 /\ ra = some ⟨b, off, none⟩ -> b < W.heap.size := by
 obtain ⟨xs, n, _, rfl, hl, hxl, hf⟩ := DataW.trod_struct Tryz.underlying37 h
 rw [cellsKStep] at hl
 obtain ⟨c0, c1, c2, c3, c4, c5, rfl⟩ := list6 hl
 have hxl6 : xs.length = 6 := hxl
 obtain ⟨y0, y1, y2, y3, y4, y5, rfl⟩ := list6 hxl6
 clear hl h hxl hxl6
 have h0 := hf 0 _ rfl
 have h1 := hf 1 _ rfl
 have h2 := hf 2 _ rfl
 have h3 := hf 3 _ rfl
 have h4 := hf 4 _ rfl
 have h5 := hf 5 _ rfl
 clear hf
 simp [cellsInt, cellsWords] at h0 h1 h2 h3 h4 h5
 have b0 := bulk_one y0.1
 have b1 := bulk_one y1.1
 have b2 := bulk_one y2.1
 have b3 := bulk_one y3.1
 have b4 := bulk_one y4.1
 have b5 := bulk_one y5.1
 simp only [List.map_cons, List.map_nil, Rows.uptoBulk, Rows.uptoBulkAll] at hb ⊢
 refine ⟨by omega, ?_⟩
 have hb5 : Rows.uptoBulk y5.1 <= 1048576 := by omega
 clear hb b0 b1 b2 b3 b4 b5
 obtain ⟨kd, d0, _, w0⟩ := DataW.trod_int Tryz.underlying3 h0
 obtain ⟨a, d1, _, w1⟩ := DataW.trod_int Tryz.underlying3 h1
 obtain ⟨b, d2, _, w2⟩ := DataW.trod_int Tryz.underlying3 h2
 obtain ⟨c, d3, _, w3⟩ := DataW.trod_int Tryz.underlying3 h3
 obtain ⟨n', d4, _, w4⟩ := DataW.trod_int Tryz.underlying3 h4
 obtain ⟨ra, rl, rcap, D, d5, e1, e3, e5, e6⟩ : ∃ (ra : Option Addr) (rl rcap : Nat) (D : List Int), [c5] = [Value.slice ra rl rcap] /\ D.length = rl /\ rl <= 100000000 /\ DrawsAt W ra rl D /\ ∀ b off, rl ≠ 0 /\ ra = some ⟨b, off, none⟩ -> b < W.heap.size := by
  rcases open_ints Tryz.underlying31 Tryz.underlying146 cellsU64 h5 with ⟨hcs, _⟩ | ⟨x, l, c, zs, hcs, _, hl, hm, hz, hy, hcell, hwz⟩
  ·exact ⟨none, 0, 0, [], hcs, rfl, by omega, .inl rfl, fun b off e => by simp at e⟩
  ·have hle : l <= zs.length := by rw [hz]; split <;> omega
   rw [hy] at hb5
   have hl4 : l <= 100000000 := by
    have h1 := bulk_length (lits (H := H) .u64 (zs.take l))
    simp only [Rows.uptoBulk] at hb5
    have h2 : (lits (H := H) .u64 (zs.take l)).length = l := by simp [lits]; omega
    omega
   refine ⟨some x, l, c, zs.take l, hcs, by simp; omega, hl4, ?_, ?_⟩
   ·by_cases h0 : l = 0
    ·exact .inl h0
    ·right
     obtain ⟨b, off, spot⟩ := x
     have hc0 := hcell 0 (by omega)
     have hspot : spot = none := by simpa [Addr.add] using World.cell?_spot hc0
     subst hspot
     refine ⟨b, off, rfl, fun i hi => ?_⟩
     have hi' : i < l := by simp at hi; omega
     have hci := hcell i (by omega)
     have e : (⟨b, off, none⟩ : Addr).add i = ⟨b, off + i, none⟩ := by unfold Addr.add; split <;> simp_all
     rw [e] at hci
     rw [hci]
     simp [List.getD_eq_getElem?_getD, hi']
   ·rintro b off ⟨hne, e⟩
    have e' : x = ⟨b, off, none⟩ := by simpa using e
    have hc0 := hcell 0 (by omega)
    rw [e'] at hc0
    exact lG W _ hc0
 simp at d0 d1 d2 d3 d4 d5
 exact ⟨kd, a, b, c, n', ra, rl, rcap, D, by rw [d0, d1, d2, d3, d4, d5], inI_lit w0, inI_lit w1, inI_lit w2, inI_lit w3, inI_lit w4, e1, e3, e5, e6⟩
theorem open_kscript {fuel : Nat} {v : Value} {y : DataW H × List MemPlace} (h : DataW.trod enc Tryz.prog W 0 (fun _ => true) true fuel 27 [v] = some y) (hb : Rows.uptoBulk y.1 <= 1048576) :
  ∃ (a : Option Addr) (n cap : Nat), v = .slice a n cap /\ n <= 150000 /\ KScriptAt W W.heap.size a n := by
 rcases Go.Deep.open_slice Tryz.underlying27 h with ⟨hcs, _⟩ | ⟨a, len, cap, m, n, D, Pl, hcs, _, hl, _, hm, rfl, hx⟩
 ·exact ⟨none, 0, 0, by simpa using hcs, by omega, .inl rfl⟩
 ·simp only [if_true] at hm
  subst hm
  simp only [Rows.uptoBulk] at hb
  have hd : ∀ i, i < len -> Rows.uptoBulk (D i) <= 1048576 := fun i hi => by
   have := bulk_part (d := D i) (l := (List.range len).map D) (List.mem_map.2 ⟨i, by simpa using hi, rfl⟩)
   omega
  have h7 := bulk_times ((List.range len).map D) 7 (fun d hd' => by
   obtain ⟨i, hi, rfl⟩ := List.mem_map.1 hd'
   have hi' : i < len := by simpa using hi
   obtain ⟨cs', _, ht⟩ := hx i (by omega)
   exact (open_kstep ht (hd i hi')).1)
  simp only [List.length_map, List.length_range] at h7
  refine ⟨some a, len, m, by simpa using hcs, by omega, ?_⟩
  by_cases h0 : len = 0
  ·exact .inl h0
  right
  obtain ⟨b, off, spot⟩ := a
  rw [cellsKStep] at hx
  have hspot : spot = none := by
   obtain ⟨cs', hc, _⟩ := hx 0 (by omega)
   obtain ⟨_, hlen, hcell⟩ := World.cells?_some hc
   have h1 := hcell 0 (by omega)
   rw [List.getElem?_eq_getElem (by omega)] at h1
   simpa [Addr.add] using World.cell?_spot h1
  subst hspot
  have each : ∀ i, i < len -> ∃ cs : Array Value, KStepIs W W.heap.size cs /\ cs.size = 6 /\ ∀ j v, cs[j]? = some v -> W.cell? ⟨b, off + i * 6 + j, none⟩ = some v := fun i hi => by
   obtain ⟨cs', hc, ht⟩ := hx i (by omega)
   obtain ⟨_, hlen, hcell⟩ := World.cells?_some hc
   obtain ⟨_, kd, a, b', c, n', ra, rl, rcap, D', h1, h2, h3, h4, h5, h6, h7, h8, h9, h10⟩ := open_kstep ht (hd i hi)
   refine ⟨cs'.toArray, ⟨kd, a, b', c, n', ra, rl, rcap, D', by rw [h1], h2, h3, h4, h5, h6, h7, h8, h9, h10⟩, by simpa using hlen, fun j v hv => ?_⟩
   have hv' : cs'[j]? = some v := by simpa using hv
   have hj : j < 6 := by
    have := (List.getElem?_eq_some_iff.1 hv').1
    omega
   have := hcell j hj
   rw [add_at0, add_at0, hv'] at this
   exact this
  refine ⟨b, off, rfl, ?_, fun i hi => by obtain ⟨cs, h1, _, h3⟩ := each i hi; exact ⟨cs, h1, h3⟩⟩
  obtain ⟨cs, _, h2, h3⟩ := each 0 (by omega)
  exact lG W _ (h3 0 cs[0] (Array.getElem?_eq_getElem (by omega)))
end
end
-- VZb
section
open Go.ChangeShapes Go.WideShapes Go.ChangeAt Go.RowKit Go.Joins
theorem ownK : ownKnob Tryz.prog.godebug = none := by kernel_rfl
theorem laidOutK : laidOutB Tryz.prog = true := by kernel_rfl
theorem ext_of_turn {w w' : World} (h : Turn (fun b => w.heap.size <= b) w w') : Below w.heap.size w w' := ⟨h.os, h.tape, h.output, h.size, fun k hk => h.block k hk (by omega)⟩
end
-- WP
section
set_option maxRecDepth 100000
set_option maxHeartbeats 1600000
open Go.RowKit
def replyB (code frm cnt : Int) (zs : List Nat) : List UInt8 := bytesI code 1 ++ bytesI frm 4 ++ bytesI cnt 4 ++ zs.flatMap fun z => bytesOf z 8
theorem len_flat8 (zs : List Nat) : (zs.flatMap fun z => bytesOf z 8).length = 8 * zs.length := by
 induction zs with
 | nil => rfl
 | cons z t ih => simp [len_bytesOf] at ih ⊢; omega
theorem put_I (base n g cap : Nat) (l : List UInt8) (x : Int) (sz : Nat) (hs : sz <= 8) (hn1 : 1 <= n + sz) (w : World)
  (hown : w.ownsRow base 5 1 (.slice (some ⟨g, 0, none⟩) n cap) n (byteV l)) (hb : base <= w.heap.size) (hn : n + sz <= 140737488355328) :
  Calls Tryz.prog 86 #[.slice (some ⟨g, 0, none⟩) n cap, .int .u64 (IntKind.u64.wrap x), .int .i64 (sz : Int)] w fun e w' =>
   ∃ g' cap', e = .returned (.slice (some ⟨g', 0, none⟩) (n + sz) cap') /\ w'.ownsRow base 5 1 (.slice (some ⟨g', 0, none⟩) (n + sz) cap') (n + sz) (byteV (l ++ bytesI x sz)) /\ Below base w w' /\ Keeps w w' := by
 have h := put_s base n g cap l (x % 18446744073709551616).toNat sz hs hn1 (by omega) w hown hb hn
 rw [Int.toNat_of_nonneg (by omega), <- IntKind.wrap_u64] at h
 exact h
theorem put_1 (base n m g cap : Nat) (hm : m = n + 1) (l : List UInt8) (x : Int) (w : World)
  (hown : w.ownsRow base 5 1 (.slice (some ⟨g, 0, none⟩) n cap) n (byteV l)) (hb : base <= w.heap.size) (hn : m <= 140737488355328) :
  Calls Tryz.prog 86 #[.slice (some ⟨g, 0, none⟩) n cap, .int .u64 (IntKind.u64.wrap x), .int .i64 1] w fun e w' =>
   ∃ g' cap', e = .returned (.slice (some ⟨g', 0, none⟩) m cap') /\ w'.ownsRow base 5 1 (.slice (some ⟨g', 0, none⟩) m cap') m (byteV (l ++ bytesI x 1)) /\ Below base w w' /\ Keeps w w' := by
 subst hm
 exact put_I base n g cap l x 1 (by decide) (by omega) w hown hb hn
theorem put_4 (base n m g cap : Nat) (hm : m = n + 4) (l : List UInt8) (x : Int) (w : World)
  (hown : w.ownsRow base 5 1 (.slice (some ⟨g, 0, none⟩) n cap) n (byteV l)) (hb : base <= w.heap.size) (hn : m <= 140737488355328) :
  Calls Tryz.prog 86 #[.slice (some ⟨g, 0, none⟩) n cap, .int .u64 (IntKind.u64.wrap x), .int .i64 4] w fun e w' =>
   ∃ g' cap', e = .returned (.slice (some ⟨g', 0, none⟩) m cap') /\ w'.ownsRow base 5 1 (.slice (some ⟨g', 0, none⟩) m cap') m (byteV (l ++ bytesI x 4)) /\ Below base w w' /\ Keeps w w' := by
 subst hm
 exact put_I base n g cap l x 4 (by decide) (by omega) w hown hb hn
theorem put_8 (base n m g cap : Nat) (hm : m = n + 8) (l : List UInt8) (x : Nat) (hx : x <= 18446744073709551615) (w : World)
  (hown : w.ownsRow base 5 1 (.slice (some ⟨g, 0, none⟩) n cap) n (byteV l)) (hb : base <= w.heap.size) (hn : m <= 140737488355328) :
  Calls Tryz.prog 86 #[.slice (some ⟨g, 0, none⟩) n cap, .int .u64 (x : Int), .int .i64 8] w fun e w' =>
   ∃ g' cap', e = .returned (.slice (some ⟨g', 0, none⟩) m cap') /\ w'.ownsRow base 5 1 (.slice (some ⟨g', 0, none⟩) m cap') m (byteV (l ++ bytesOf x 8)) /\ Below base w w' /\ Keeps w w' := by
 subst hm
 exact put_s base n g cap l x 8 (by decide) (by omega) hx w hown hb hn
theorem reply_cells {W : World} {g : Nat} {t : TypeId} {a b c d : Value} (h : W.heap[g]? = some (.cells #[a, b, c, d] t (0, 0))) :
  g < W.heap.size /\ W.cell? ⟨g, 0, none⟩ = some a /\ W.cell? ⟨g, 1, none⟩ = some b /\ W.cell? ⟨g, 2, none⟩ = some c /\ W.cell? ⟨g, 3, none⟩ = some d :=
 ⟨(Array.getElem?_eq_some_iff.1 h).1, cell_at h rfl, cell_at h rfl, cell_at h rfl, cell_at h rfl⟩
theorem wirePrint_some (code frm cnt : Int) (b off len cap : Nat) (zs : List Nat) (hl : len = zs.length) (hreach : len * 8 <= 140737488351232) (w : World)
  (hz : ∀ i, i < len -> w.cell? ⟨b, off + i, none⟩ = some (.int .u64 (zs.getD i 0 : Nat))) (hzb : ∀ z ∈ zs, z <= 18446744073709551615) :
  Calls Tryz.prog 59 #[.agg #[.int .i64 code, .int .i64 frm, .int .i64 cnt, .slice (some ⟨b, off, none⟩) len cap]] w fun e w' => e = .returned (.string ⟨(replyB code frm cnt zs).toArray⟩) /\ Ext w w' := by
 obtain ⟨i0, hi, hz0, hz1, hz2⟩ := info_parts infoU8
 have HZ : Hid (∀ i, i < len -> w.cell? ⟨b, off + i, none⟩ = some (.int .u64 (zs.getD i 0 : Nat))) := hz
 have HZB : Hid (∀ z ∈ zs, z <= 18446744073709551615) := hzb
 have HL : Hid (len = zs.length) := hl
 have hlen : len * 8 <= 140737488351232 := by omega
 clear hz hzb hl
 go_enter Tryz.func59, Tryz.ntmps59
 go_wp2_with (at_make; refine wpList_make_own _ rfl _ _ 136 rfl w.heap.size 5 i0 _ 1 Tryz.underlying136 hi hz0 hz1 _ _ _ (9 + 8 * len) rfl rfl (by omega) ?m1 ?m2 ?m3 ?_)
 case m1 => rw [hz2]; omega
 case m2 => unfold maxLen; omega
 case m3 => simp
 intro w1 ho1 hg1
 have hx1 : Ext w w1 := Ext.grown ((Ext.refl w).alloc _) hg1 (fun k h => by cases h)
 have hr1 : w1.heap[w.heap.size]? = some (.cells #[.int .i64 code, .int .i64 frm, .int .i64 cnt, .slice (some ⟨b, off, none⟩) len cap] 33 (0, 0)) := (hg1.block _ (by simp) (by simp)).trans (at_new rfl)
 obtain ⟨q0, q1, q2, q3, q4⟩ := reply_cells hr1
 have HR1 : Hid _ := hr1
 have HO1 : Hid (w1.ownsRow w.heap.size 5 1 (.slice (some ⟨w.heap.size + 1, 0, none⟩) 0 (9 + 8 * len)) 0 (byteV [])) := by
  refine ⟨rfl, ?_⟩
  rcases ho1.2 with ⟨h, _⟩ | h
  ·simp at h
  ·exact .inr h
 clear hr1 ho1 hg1
 have hsz1 := hx1.le
 go_wp2_with fail
 refine (put_1 w.heap.size 0 1 _ _ rfl [] code _ HO1.out hsz1 (by omega)).mono ?_
 rintro e w2 ⟨g2, cap2, rfl, ho2, hb2, hk2⟩
 have hr2 := hk2.block _ _ _ _ HR1.out (by decide)
 obtain ⟨q0, q1, q2, q3, q4⟩ := reply_cells hr2
 have hx2 : Ext w w2 := Below.trans hx1 hb2
 have hsz2 := hx2.le
 have HO2 : Hid _ := ho2
 have HR2 : Hid _ := hr2
 clear hr2 ho2 hb2 hk2
 go_wp2_with fail
 refine (put_4 w.heap.size 1 5 _ _ rfl _ frm _ HO2.out hsz2 (by omega)).mono ?_
 rintro e w3 ⟨g3, cap3, rfl, ho3, hb3, hk3⟩
 have hr3 := hk3.block _ _ _ _ HR2.out (by decide)
 obtain ⟨q0, q1, q2, q3, q4⟩ := reply_cells hr3
 have hx3 : Ext w w3 := Below.trans hx2 hb3
 have hsz3 := hx3.le
 have HO3 : Hid _ := ho3
 have HR3 : Hid _ := hr3
 clear hr3 ho3 hb3 hk3
 go_wp2_with fail
 refine (put_4 w.heap.size 5 9 _ _ rfl _ cnt _ HO3.out hsz3 (by omega)).mono ?_
 rintro e w4 ⟨g4, cap4, rfl, ho4, hb4, hk4⟩
 have hr4 := hk4.block _ _ _ _ HR3.out (by decide)
 obtain ⟨q0, q1, q2, q3, q4⟩ := reply_cells hr4
 have hx4 : Ext w w4 := Below.trans hx3 hb4
 have hsz4 := hx4.le
 have HO4 : Hid (w4.ownsRow w.heap.size 5 1 (.slice (some ⟨g4, 0, none⟩) 9 cap4) 9 (byteV (replyB code frm cnt (zs.take 0)))) := by
  have e : replyB code frm cnt (zs.take 0) = [] ++ bytesI code 1 ++ bytesI frm 4 ++ bytesI cnt 4 := by simp [replyB]
  rw [e]; exact ho4
 clear hr4 ho4 hb4 hk4
 go_wp2
 go_loopw [3, 5, 30] (fun u _ i wr => ∃ (k g' cap' : Nat), k <= len /\ u = .slice (some ⟨g', 0, none⟩) (9 + 8 * k) cap' /\ i = .int .i64 k /\ wr.ownsRow w.heap.size 5 1 (.slice (some ⟨g', 0, none⟩) (9 + 8 * k) cap') (9 + 8 * k) (byteV (replyB code frm cnt (zs.take k))) /\ Ext w wr) (fun _ _ i _ => len - (intOf i).toNat)
 case atStart => exact ⟨0, g4, cap4, Nat.zero_le _, rfl, rfl, HO4.out, hx4⟩
 case round =>
  obtain ⟨k, g', cap', hk, rfl, rfl, hor, hxr⟩ := hrel
  have HOR : Hid _ := hor
  clear hor
  by_cases hlt : k < len
  ·have hkl : k < zs.length := by have := HL.out; omega
   have e0 : wr.cell? ⟨b, off + k, none⟩ = some (.int .u64 ((zs[k] : Nat) : Int)) := by
    have h := hxr.cell (HZ.out k hlt)
    rw [List.getD_eq_getElem?_getD, List.getElem?_eq_getElem hkl] at h
    exact h
   have hzk := HZB.out zs[k] (List.getElem_mem hkl)
   have HT : Hid (replyB code frm cnt (zs.take (k + 1)) = replyB code frm cnt (zs.take k) ++ bytesOf zs[k] 8) := by
    show replyB code frm cnt (zs.take (k + 1)) = _
    rw [List.take_succ_eq_append_getElem hkl]
    simp only [replyB, List.flatMap_append, List.flatMap_cons, List.flatMap_nil, List.append_nil, List.append_assoc]
   have HZK : Hid (zs[k] <= 18446744073709551615) := hzk
   clear hzk
   generalize zs[k] = z at *
   have hszr := hxr.le
   go_wp2_with (go_at_call 86; refine (put_8 w.heap.size (9 + 8 * k) (9 + 8 * (k + 1)) g' cap' (by omega) _ z HZK.out _ HOR.out hszr (by omega)).mono ?_; rintro e w5 ⟨g5, cap5, rfl, ho5, hb5, hk5⟩)
   have R1 : w5.ownsRow w.heap.size 5 1 (.slice (some ⟨g5, 0, none⟩) (9 + 8 * (k + 1)) cap5) (9 + 8 * (k + 1)) (byteV (replyB code frm cnt (zs.take (k + 1)))) := by rw [HT.out]; exact ho5
   have R2 : Ext w w5 := Below.trans hxr hb5
   clear ho5 hb5 hk5
   go_roundw
   case rel => exact ⟨k + 1, g5, cap5, by omega, rfl, by go_num, R1, R2⟩
   case measure => simp [intOf]; omega
  ·obtain rfl : len = k := by omega
   have eT : zs.take len = zs := List.take_of_length_le (by have := HL.out; omega)
   have hcv := conv_own (l := replyB code frm cnt (zs.take len)) (by rw [eT]; simp only [replyB, List.length_append, len_bytesI, len_flat8]; have := HL.out; omega) HOR.out
   rw [eT] at hcv
   clear eT
   go_wp2
   go_ret
   exact ⟨rfl, hxr⟩
end
-- WP0
section
set_option maxRecDepth 100000
set_option maxHeartbeats 1600000
open Go.RowKit
theorem wirePrint_zero (code frm cnt : Int) (a : Option Addr) (len cap : Nat) (zs : List Nat) (h0 : len = 0) (hl : len = zs.length) (_hreach : len * 8 <= 140737488351232) (w : World) :
  Calls Tryz.prog 59 #[.agg #[.int .i64 code, .int .i64 frm, .int .i64 cnt, .slice a len cap]] w fun e w' => e = .returned (.string ⟨(replyB code frm cnt zs).toArray⟩) /\ Ext w w' := by
 obtain ⟨i0, hi, hz0, hz1, hz2⟩ := info_parts infoU8
 have HL0 : Hid (len = 0) := h0
 have HL : Hid (len = zs.length) := hl
 have hlen : len * 8 <= 140737488351232 := by omega
 clear hl h0
 go_enter Tryz.func59, Tryz.ntmps59
 go_wp2_with (at_make; refine wpList_make_own _ rfl _ _ 136 rfl w.heap.size 5 i0 _ 1 Tryz.underlying136 hi hz0 hz1 _ _ _ (9 + 8 * len) rfl rfl (by omega) ?m1 ?m2 ?m3 ?_)
 case m1 => rw [hz2]; omega
 case m2 => unfold maxLen; omega
 case m3 => simp
 intro w1 ho1 hg1
 have hx1 : Ext w w1 := Ext.grown ((Ext.refl w).alloc _) hg1 (fun k h => by cases h)
 have hr1 : w1.heap[w.heap.size]? = some (.cells #[.int .i64 code, .int .i64 frm, .int .i64 cnt, .slice a len cap] 33 (0, 0)) := (hg1.block _ (by simp) (by simp)).trans (at_new rfl)
 obtain ⟨q0, q1, q2, q3, q4⟩ := reply_cells hr1
 have HR1 : Hid _ := hr1
 have HO1 : Hid (w1.ownsRow w.heap.size 5 1 (.slice (some ⟨w.heap.size + 1, 0, none⟩) 0 (9 + 8 * len)) 0 (byteV [])) := by
  refine ⟨rfl, ?_⟩
  rcases ho1.2 with ⟨h, _⟩ | h
  ·simp at h
  ·exact .inr h
 clear hr1 ho1 hg1
 have hsz1 := hx1.le
 go_wp2_with fail
 refine (put_1 w.heap.size 0 1 _ _ rfl [] code _ HO1.out hsz1 (by omega)).mono ?_
 rintro e w2 ⟨g2, cap2, rfl, ho2, hb2, hk2⟩
 have hr2 := hk2.block _ _ _ _ HR1.out (by decide)
 obtain ⟨q0, q1, q2, q3, q4⟩ := reply_cells hr2
 have hx2 : Ext w w2 := Below.trans hx1 hb2
 have hsz2 := hx2.le
 have HO2 : Hid _ := ho2
 have HR2 : Hid _ := hr2
 clear hr2 ho2 hb2 hk2
 go_wp2_with fail
 refine (put_4 w.heap.size 1 5 _ _ rfl _ frm _ HO2.out hsz2 (by omega)).mono ?_
 rintro e w3 ⟨g3, cap3, rfl, ho3, hb3, hk3⟩
 have hr3 := hk3.block _ _ _ _ HR2.out (by decide)
 obtain ⟨q0, q1, q2, q3, q4⟩ := reply_cells hr3
 have hx3 : Ext w w3 := Below.trans hx2 hb3
 have hsz3 := hx3.le
 have HO3 : Hid _ := ho3
 have HR3 : Hid _ := hr3
 clear hr3 ho3 hb3 hk3
 go_wp2_with fail
 refine (put_4 w.heap.size 5 9 _ _ rfl _ cnt _ HO3.out hsz3 (by omega)).mono ?_
 rintro e w4 ⟨g4, cap4, rfl, ho4, hb4, hk4⟩
 have hr4 := hk4.block _ _ _ _ HR3.out (by decide)
 obtain ⟨q0, q1, q2, q3, q4⟩ := reply_cells hr4
 have hx4 : Ext w w4 := Below.trans hx3 hb4
 have hsz4 := hx4.le
 have HO4 : Hid (w4.ownsRow w.heap.size 5 1 (.slice (some ⟨g4, 0, none⟩) 9 cap4) 9 (byteV (replyB code frm cnt (zs.take 0)))) := by
  have e : replyB code frm cnt (zs.take 0) = [] ++ bytesI code 1 ++ bytesI frm 4 ++ bytesI cnt 4 := by simp [replyB]
  rw [e]; exact ho4
 clear hr4 ho4 hb4 hk4
 go_wp2
 go_loopw [3, 5, 30] (fun u _ i wr => ∃ (k g' cap' : Nat), k <= len /\ u = .slice (some ⟨g', 0, none⟩) (9 + 8 * k) cap' /\ i = .int .i64 k /\ wr.ownsRow w.heap.size 5 1 (.slice (some ⟨g', 0, none⟩) (9 + 8 * k) cap') (9 + 8 * k) (byteV (replyB code frm cnt (zs.take k))) /\ Ext w wr) (fun _ _ i _ => len - (intOf i).toNat)
 case atStart => exact ⟨0, g4, cap4, Nat.zero_le _, rfl, rfl, HO4.out, hx4⟩
 case round =>
  obtain ⟨k, g', cap', hk, rfl, rfl, hor, hxr⟩ := hrel
  have HOR : Hid _ := hor
  clear hor
  by_cases hlt : k < len
  ·have := HL0.out; omega
  ·obtain rfl : len = k := by omega
   have eT : zs.take len = zs := List.take_of_length_le (by have := HL.out; omega)
   have hcv := conv_own (l := replyB code frm cnt (zs.take len)) (by rw [eT]; simp only [replyB, List.length_append, len_bytesI, len_flat8]; have := HL.out; omega) HOR.out
   rw [eT] at hcv
   clear eT
   go_wp2
   go_ret
   exact ⟨rfl, hxr⟩
end
-- VPr
section
open Go.RowKit
def WordsIn (w : World) (a : Option Addr) (len : Nat) (zs : List Nat) : Prop :=
 len = zs.length /\ len * 8 <= 140737488351232 /\ (∀ z ∈ zs, z <= 18446744073709551615) /\
 (len = 0 \/ ∃ b off, a = some ⟨b, off, none⟩ /\ ∀ i, i < len -> w.cell? ⟨b, off + i, none⟩ = some (.int .u64 (zs.getD i 0 : Nat)))
theorem wirePrint_c (code frm cnt : Int) (a : Option Addr) (len cap : Nat) (zs : List Nat) (w : World) (h : WordsIn w a len zs) :
  Calls Tryz.prog 59 #[.agg #[.int .i64 code, .int .i64 frm, .int .i64 cnt, .slice a len cap]] w fun e w' => e = .returned (.string ⟨(replyB code frm cnt zs).toArray⟩) /\ Ext w w' := by
 obtain ⟨h1, h2, h4, h5⟩ := h
 rcases h5 with h5 | ⟨b, off, rfl, h5⟩
 ·exact wirePrint_zero code frm cnt a len cap zs h5 h1 h2 w
 ·exact wirePrint_some code frm cnt b off len cap zs h1 h2 w h5 h4
theorem WordsIn.ext {w w' : World} {a : Option Addr} {len : Nat} {zs : List Nat} (h : WordsIn w a len zs) (hx : Ext w w') : WordsIn w' a len zs := by
 obtain ⟨h1, h2, h4, h5⟩ := h
 refine ⟨h1, h2, h4, ?_⟩
 rcases h5 with h5 | ⟨b, off, rfl, h5⟩
 ·exact .inl h5
 ·exact .inr ⟨b, off, rfl, fun i hi => hx.cell (h5 i hi)⟩
end
-- WW2
section
set_option maxRecDepth 100000
set_option maxHeartbeats 3200000
open Go.RowKit
theorem sizes_fetch : sizes8 fetchL := by intro x hx; simp only [fetchL, List.mem_cons, List.not_mem_nil, or_false] at hx; rcases hx with rfl | rfl | rfl | rfl | rfl | rfl | rfl | rfl <;> decide
theorem nvals_fetch {W : World} {b : Nat} {s ck cm cl cn f c p : Nat} {vals : Nat -> Nat} (hW : W.heap[b]? = some (.cells #[.int .i64 (s : Int), .int .i64 (ck : Int), .int .i64 (cm : Int), .int .i64 (cl : Int), .int .i64 (cn : Int), .int .i64 (f : Int), .int .i64 (c : Int), .int .i64 (p : Int)] 212 (0, 0))) (hv : vals 0 = s /\ vals 1 = ck /\ vals 2 = cm /\ vals 3 = cl /\ vals 4 = cn /\ vals 5 = f /\ vals 6 = c /\ vals 7 = p) : ∀ x ∈ fetchL, W.cell? ⟨b, x.1, none⟩ = some (.int .i64 (vals x.1 : Int)) := by
 obtain ⟨v0, v1, v2, v3, v4, v5, v6, v7⟩ := hv
 intro x hx
 simp only [fetchL, List.mem_cons, List.not_mem_nil, or_false] at hx
 rcases hx with rfl | rfl | rfl | rfl | rfl | rfl | rfl | rfl
 ·show W.cell? ⟨b, 0, none⟩ = some (.int .i64 (vals 0 : Int)); rw [v0]; exact cell_at hW rfl
 ·show W.cell? ⟨b, 1, none⟩ = some (.int .i64 (vals 1 : Int)); rw [v1]; exact cell_at hW rfl
 ·show W.cell? ⟨b, 2, none⟩ = some (.int .i64 (vals 2 : Int)); rw [v2]; exact cell_at hW rfl
 ·show W.cell? ⟨b, 3, none⟩ = some (.int .i64 (vals 3 : Int)); rw [v3]; exact cell_at hW rfl
 ·show W.cell? ⟨b, 4, none⟩ = some (.int .i64 (vals 4 : Int)); rw [v4]; exact cell_at hW rfl
 ·show W.cell? ⟨b, 5, none⟩ = some (.int .i64 (vals 5 : Int)); rw [v5]; exact cell_at hW rfl
 ·show W.cell? ⟨b, 6, none⟩ = some (.int .i64 (vals 6 : Int)); rw [v6]; exact cell_at hW rfl
 ·show W.cell? ⟨b, 7, none⟩ = some (.int .i64 (vals 7 : Int)); rw [v7]; exact cell_at hW rfl
theorem wireWrite_2 (b : Nat) (s ck cm cl cn f c p : Nat) (vals : Nat -> Nat) (hv : vals 0 = s /\ vals 1 = ck /\ vals 2 = cm /\ vals 3 = cl /\ vals 4 = cn /\ vals 5 = f /\ vals 6 = c /\ vals 7 = p) (hmax : ∀ j, vals j <= 2147483647) (w : World) (hb : w.heap[b]? = some (.cells #[.int .i64 (s : Int), .int .i64 (ck : Int), .int .i64 (cm : Int), .int .i64 (cl : Int), .int .i64 (cn : Int), .int .i64 (f : Int), .int .i64 (c : Int), .int .i64 (p : Int)] 212 (0, 0))) :
  Calls Tryz.prog 57 #[.iface 203 (.pointer (some ⟨b, 0, none⟩))] w fun e w' => e = .returned (.string ⟨([2] ++ flatB vals fetchL).toArray⟩) /\ Ext w w' := by
 have HV : Hid (vals 0 = s /\ vals 1 = ck /\ vals 2 = cm /\ vals 3 = cl /\ vals 4 = cn /\ vals 5 = f /\ vals 6 = c /\ vals 7 = p) := hv
 have HB : Hid _ := hb
 have HMX : Hid (∀ j, vals j <= 2147483647) := hmax
 have hm1 := m_fetchPlain
 have hm2 := m_fetchFields
 have hfk := field_kind
 clear hv hb hmax
 go_enter Tryz.func57, Tryz.ntmps57
 go_wp2_with (first
  | (go_at_call 217; refine (fetchPlain_c b s ck cm cl cn f c p _ (by exact HB.out)).mono ?_; rintro e w1 ⟨rfl, hx1⟩)
  | (go_at_call 218; refine (fetchFields_c b _).mono ?_; rintro e w2 ⟨g, cap, rfl, ho, hx2⟩))
 obtain ⟨g0, hg0⟩ : ∃ g0, g0 = w1.heap.size := ⟨_, rfl⟩
 have HO0 : Hid (w2.ownsRow w.heap.size 5 1 (.slice (some ⟨w1.heap.size, 0, none⟩) 1 1) 1 (byteV [2])) := (hx2.owns (World.ownsRow_lit w1 #[.int .u8 2] 1 hx1.le (by unfold maxLen; omega) rfl) : _)
 have HX2 : Ext w w2 := (hx1.alloc _).trans hx2
 have HB2 : Hid (w2.heap[b]? = some (.cells #[.int .i64 (s : Int), .int .i64 (ck : Int), .int .i64 (cm : Int), .int .i64 (cl : Int), .int .i64 (cn : Int), .int .i64 (f : Int), .int .i64 (c : Int), .int .i64 (p : Int)] 212 (0, 0))) := HX2.block (by exact HB.out)
 have HF2 : Hid (∃ cur : Array Value, w2.heap[g]? = some (.cells cur 162 (0, 0)) /\ ∀ j, j < 8 * 3 -> cur[j]? = (fl b fetchL)[j]?) := by
  rcases ho.2 with ⟨h0, _⟩ | ⟨g1, cap1, cur, h0, _, hh, _, _, _, ht⟩
  ·simp at h0
  ·simp only [Value.slice.injEq, Option.some.injEq, Addr.mk.injEq, and_true, true_and] at h0
   obtain ⟨rfl, rfl⟩ := h0
   exact ⟨cur, hh, fun j hj => by rw [<- ht, List.getElem?_take, if_pos hj]; simp⟩
 clear ho hx1 hx2 hg0 g0
 go_loopw [3, 5, 14] (fun u _ i wr => ∃ (k n g' cap' : Nat), k <= 8 /\ u = .slice (some ⟨g', 0, none⟩) n cap' /\ i = .int .i64 k /\ ([(2 : UInt8)] ++ flatB vals (fetchL.take k)).length = n /\ wr.ownsRow w.heap.size 5 1 (.slice (some ⟨g', 0, none⟩) n cap') n (byteV ([2] ++ flatB vals (fetchL.take k))) /\ Below w.heap.size w2 wr /\ Keeps w2 wr) (fun _ _ i _ => 8 - (intOf i).toNat)
 case atStart => exact ⟨0, 1, _, _, Nat.zero_le _, rfl, rfl, rfl, HO0.out, Below.refl _ _, Keeps.refl _⟩
 case round =>
  obtain ⟨k, n, g', cap', hk, rfl, rfl, hn, hor, hbel, hkp⟩ := hrel
  have HN : Hid (([(2 : UInt8)] ++ flatB vals (fetchL.take k)).length = n) := hn
  have hn1 : 1 <= n := by rw [<- hn]; simp
  have hn2 : n <= 65 := by
   have h1 := len_flatB vals (fetchL.take k) (fun x hx => sizes_fetch x (List.mem_of_mem_take hx))
   have h2 : (fetchL.take k).length <= 8 := Nat.le_trans (List.length_take_le' _ _) (by decide)
   rw [<- hn]; simp; omega
  clear hn
  by_cases hlt : k < 8
  ·have hkl : k < fetchL.length := hlt
   have HX : Hid (fetchL.take (k + 1) = fetchL.take k ++ [fetchL[k]]) := List.take_succ_eq_append_getElem hkl
   obtain ⟨cur, hg2, hcur⟩ := HF2.out
   have hgr := hkp.block g _ _ _ hg2 (by decide)
   have hbr := hkp.block b _ _ _ HB2.out (by decide)
   obtain ⟨f0, f1, f2⟩ := fl_at b fetchL k hkl
   have e0 : wr.cell? ⟨g, k * 3, none⟩ = some (.pointer (some ⟨b, fetchL[k].1, none⟩)) := cell_at hgr ((hcur _ (by omega)).trans f0)
   have e1 : wr.cell? ⟨g, k * 3 + 1, none⟩ = some (.int .i64 fetchL[k].2.1) := cell_at hgr ((hcur _ (by omega)).trans f1)
   have e2 : wr.cell? ⟨g, k * 3 + 2, none⟩ = some (.int .i64 fetchL[k].2.2) := cell_at hgr ((hcur _ (by omega)).trans f2)
   have e3 := nvals_fetch hbr HV.out fetchL[k] (List.getElem_mem hkl)
   have hmx := HMX.out fetchL[k].1
   have hs8 := sizes_fetch fetchL[k] (List.getElem_mem hkl)
   have HFB : Hid (flatB vals (fetchL.take (k + 1)) = flatB vals (fetchL.take k) ++ bytesOf (vals fetchL[k].1) fetchL[k].2.1.toNat) := by
    show flatB vals (fetchL.take (k + 1)) = _
    rw [HX.out, flatB_snoc]
   have hgl : g < wr.heap.size := lG wr _ e0
   have hbl : b < wr.heap.size := lG wr _ e3
   obtain ⟨sz, hsz⟩ : ∃ sz : Nat, fetchL[k].2.1 = (sz : Int) := ⟨fetchL[k].2.1.toNat, by omega⟩
   rw [hsz] at e1 hs8 HFB
   rw [Int.toNat_natCast] at HFB
   clear hsz f0 f1 f2 hcur hg2 HX hgr hbr
   generalize vals fetchL[k].1 = x at *
   generalize fetchL[k].2.2 = mo at *
   generalize fetchL[k].1 = o at *
   have hwr : IntKind.u64.wrap (x : Int) = (x : Int) := by rw [IntKind.wrap_u64]; omega
   have hszr := hbel.size
   have hszw := HX2.le
   go_wp2
   go_region_with (go_at_call 86; refine (put_s w.heap.size n g' cap' ([2] ++ flatB vals (fetchL.take k)) x sz (by omega) (by omega) (by omega) _ (by exact hor.alloc _) (by simp; omega) (by omega)).mono ?_; rintro e w3 ⟨g3, cap3, rfl, ho3, hb3, hk3⟩)
   all_goals
    have R1 : w3.ownsRow w.heap.size 5 1 (.slice (some ⟨g3, 0, none⟩) (n + sz) cap3) (n + sz) (byteV ([2] ++ flatB vals (fetchL.take (k + 1)))) := by
     rw [HFB.out, <- List.append_assoc]; exact ho3
    have R2 : Below w.heap.size w2 w3 := (hbel.alloc (by omega) _).drew.trans hb3
    have R3 : Keeps w2 w3 := ((hkp.alloc _).drew).trans hk3
    have R4 : ([(2 : UInt8)] ++ flatB vals (fetchL.take (k + 1))).length = n + sz := by
     rw [HFB.out, <- List.append_assoc, List.length_append, HN.out, len_bytesOf]
    have HR4 : Hid _ := R4
    clear R4 ho3 hb3 hk3 hor hbel hkp
    go_wp2
    go_roundw
    case rel => exact ⟨k + 1, n + sz, g3, cap3, by omega, rfl, by go_num, HR4.out, R1, R2, R3⟩
    case measure => simp [intOf]; omega
  ·obtain rfl : k = 8 := by omega
   have hcv := conv_own HN.out hor
   have HE : Ext w wr := Below.trans HX2 hbel
   rw [show fetchL.take 8 = fetchL from rfl] at hcv
   clear hor hbel hkp
   go_wp2
   go_ret
   exact ⟨rfl, HE⟩
end
end Go.Proofs.YtmnjhhachdlmkaaGreat
