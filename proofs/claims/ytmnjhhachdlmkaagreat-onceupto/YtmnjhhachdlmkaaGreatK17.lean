import Derived.ShutString
import Derived.ChangeOld
import Derived.JoinedCond
import Derived.Test.YtmnjhhachdlmkaaGreatK15
import Derived.Test.YtmnjhhachdlmkaaGreatK16
import Derived.Test.YtmnjhhachdlmkaaGreatK09
namespace Go.Proofs.YtmnjhhachdlmkaaGreat
set_option linter.unusedVariables false
set_option linter.unusedSimpArgs false
open List renaming getElem_toArray -> lA, getElem_cons_succ -> lB, getElem_cons_zero -> lC, setIfInBounds_toArray -> lD, set_cons_zero -> lE, set_cons_succ -> lF
open World renaming block_lt_of_cell? -> lG
open Value renaming ownBlock -> lH
-- VSt
section
set_option maxRecDepth 100000
set_option maxHeartbeats 1600000
open Go.RowKit Go.Maps
def RunAt (w : World) (P B : Nat) (fv : Value) : Prop := w.heap[P]? = some (.cells #[.pointer (some ⟨B, 0, none⟩), fv] 42 (0, 0))
theorem openedX (w w' : World) (B : Nat) (h : w'.heap[B]? = some (.cells #[.slice none 0 0, .slice none 0 0, .slice none 0 0, .bool false, .int .i64 0, .bool false] 114 (0, 0))) : DealX w' B (fun b => b = B) DS.opened :=
 ⟨[], rfl, ⟨.slice none 0 0, .slice none 0 0, .slice none 0 0, ⟨⟨_, .inl rfl, h⟩, World.ownsRow_nil _ _ _ _, World.ownsRow_nil _ _ _ _, World.ownsRow_nil _ _ _ _, by simp, by simp, by simp, rfl, fun _ hb => by simp [lH] at hb, fun _ hb => by simp [lH] at hb, fun _ hb => by simp [lH] at hb, fun b hb => by rw [hb]; exact (Array.getElem?_eq_some_iff.1 h).1, by simp, by simp⟩⟩, by simp [DS.opened]⟩
theorem began_c (w : World) : Calls Tryz.prog 13 #[] w fun e w' => ∃ P B, e = .returned (.pointer (some ⟨P, 0, none⟩)) /\ RunAt w' P B (.slice none 0 0) /\ DealX w' B (fun b => b = B) DS.opened /\ w.heap.size <= P /\ w.heap.size <= B /\ P ≠ B /\ Ext w w' := by
 go_enter Tryz.func13, Tryz.ntmps13
 go_wp2_with fail
 refine (opened_c w).mono ?_
 rintro e w1 ⟨rfl, rfl⟩
 go_wp2
 go_ret
 refine ⟨w.heap.size + 1, w.heap.size, rfl, ?_, ?_, by omega, by omega, by omega, ((Ext.refl w).alloc _).alloc _⟩
 ·have h := heap_alloc_new (w.alloc (.cells #[.slice none 0 0, .slice none 0 0, .slice none 0 0, .bool false, .int .i64 0, .bool false] 114)) (.cells #[.pointer (some ⟨w.heap.size, 0, none⟩), .slice none 0 0] 42)
  rw [show (w.alloc (.cells #[.slice none 0 0, .slice none 0 0, .slice none 0 0, .bool false, .int .i64 0, .bool false] 114)).heap.size = w.heap.size + 1 from by show (w.heap.push _).size = _; exact Array.size_push ..] at h
  exact h
 ·exact openedX w _ _ (((Ext.refl _).alloc _).block (heap_alloc_new w _))
def stepS (d : DS) (kd a b c n : Int) (D : List Int) : Rep × DS :=
 let q := clsK (pickN a 4)
 let r := clsK (pickN c 4)
 match pickN kd 7 with
 | 0 => let p := d.refill q.1 q.2.1 q.2.2.1 q.2.2.2 (fillS D ((1 + pickN b 4) * (shOf q.1 q.2.1 q.2.2.1 q.2.2.2).dr)); (⟨p.1, 0, 0, []⟩, p.2)
 | 1 => d.ask 1 (1 + pickN a 3 : Nat) (pickN b 4) r.1 r.2.1 r.2.2.1 r.2.2.2 0 (pickN n 6) 0
 | 2 => d.ask 3 (1 + pickN a 3 : Nat) (pickN b 4) 0 0 0 0 0 0 0
 | 3 => (⟨d.compact.1, 0, 0, []⟩, d.compact.2)
 | 4 => (⟨0, 0, 0, []⟩, d.failAt ((pickN a 10 : Int) - 1))
 | _ => d.ask 2 (1 + pickN a 3 : Nat) 0 r.1 r.2.1 r.2.2.1 r.2.2.2 (pickN b 12) (pickN n 6) (pickN (Int.tdiv a 3) 3)
structure StepX (p : Rep × DS) (w w' : World) (P : Nat) (fv : Value) (F F' : Nat -> Prop) (rv : Value) : Prop where
 run : ∃ B, RunAt w' P B fv /\ DealX w' B F' p.2
 row : w'.ownsRow w.heap.size 146 1 rv p.1.zs.length (p.1.zs.map (Value.int .u64))
 turn : Turn F w w'
 grows : ∀ b, F' b -> F b \/ w.heap.size <= b
 free : ∀ b, rv.ownBlock = some b -> ¬ F' b
def StepPost (p : Rep × DS) (w w' : World) (P : Nat) (fv : Value) (F : Nat -> Prop) (e : Ending) : Prop :=
 ∃ ra rl rc F', e = .returned (.tuple #[replyV p.1.c p.1.f p.1.n (.slice ra rl rc), .bool true]) /\ p.1.zs.length <= 100000000 /\ StepX p w w' P fv F F' (.slice ra rl rc)
theorem four_end {w2 : World} {rb : Nat} {o0 o1 o2 o3 : Value} {t : TypeId} (h : w2.heap[rb]? = some (.cells #[o0, o1, o2, o3] t (0, 0))) (a b c d : Value) : ((((w2.setCell ⟨rb, 0, none⟩ a).setCell ⟨rb, 1, none⟩ b).setCell ⟨rb, 2, none⟩ c).setCell ⟨rb, 3, none⟩ d).heap[rb]? = some (.cells #[a, b, c, d] t (0, 0)) /\ Turn (fun q => q = rb) w2 ((((w2.setCell ⟨rb, 0, none⟩ a).setCell ⟨rb, 1, none⟩ b).setCell ⟨rb, 2, none⟩ c).setCell ⟨rb, 3, none⟩ d) :=
 ⟨by have h1 := setCell_row (i := 3) (setCell_row (i := 2) (setCell_row (i := 1) (setCell_row (i := 0) h a) b) c) d; simpa using h1, set4' (Ext.refl w2) a b c d⟩
theorem step_end {w W w2 V : World} {P B rb : Nat} {fv : Value} {F F' : Nat -> Prop} {d' : DS} (hr : RunAt w P B fv) (hX : Ext w W) (hT : Turn F W w2) (hc : DealX w2 B F' d') (hg : ∀ b, F' b -> F b \/ W.heap.size <= b) (hFr : ¬ F rb) (hFP : ¬ F P) (hrb : w.heap.size <= rb) (hrW : rb < W.heap.size) (hV : Turn (fun b => b = rb) w2 V) :
  (∃ B, RunAt V P B fv /\ DealX V B F' d') /\ Turn F w V /\ ∀ b, F' b -> F b \/ w.heap.size <= b := by
 have hPl : P < w.heap.size := (Array.getElem?_eq_some_iff.1 hr).1
 have hXl := hX.le
 refine ⟨⟨B, ?_, ?_⟩, ((Turn.of_ext hX).trans hT).trans' hV (fun b hb e => by omega), fun b hb => (hg b hb).imp id (fun h => by omega)⟩
 ·exact hV.ref (hT.ref (hX.block hr) hFP) (by omega)
 ·exact hc.turn hV (fun b hb e => by
   subst e
   rcases hg _ hb with h | h
   ·exact hFr h
   ·omega)
theorem four_far {w2 : World} {b c i : Nat} (h : b ≠ c) {v0 v1 v2 v3 : Value} : ((((w2.setCell ⟨b, 0, none⟩ v0).setCell ⟨b, 1, none⟩ v1).setCell ⟨b, 2, none⟩ v2).setCell ⟨b, 3, none⟩ v3).cell? ⟨c, i, none⟩ = w2.cell? ⟨c, i, none⟩ := by
 iterate 4 rw [World.cell?_setCell_far _ _ _ _ h]
-- STEPS
theorem stepFail_x {P B : Nat} {fv : Value} {F : Nat -> Prop} {d : DS} (kd a b c n : Int) (dr : Value) (hk : pickN kd 7 = 4) (h1 : inI kd) (h2 : inI a) (w : World) (hr : RunAt w P B fv) (hd : DealX w B F d) (hP : ¬ F P) : Calls Tryz.prog 14 #[.pointer (some ⟨P, 0, none⟩), stepV kd a b c n dr] w fun e w' => StepPost (⟨0, 0, 0, []⟩, d.failAt ((pickN a 10 : Int) - 1)) w w' P fv F e := by
 have HK : Hid _ := fun w => pick_c kd 7 (by decide) (by decide) h1.1 h1.2 w
 have HA : Hid _ := fun w => pick_c a 10 (by decide) (by decide) h2.1 h2.2 w
 have la := pickN_lt a (show 0 < 10 by decide)
 have hp0 := cell_at hr (i := 0) rfl
 have hPl := lG w _ hp0
 have HR : Hid (RunAt w P B fv) := hr
 have HD : Hid (DealX w B F d) := hd
 unfold stepV
 rw [hk] at HK
 generalize pickN a 10 = pa at *
 clear h1 h2 hr hd
 go_enter Tryz.func14, Tryz.ntmps14
 go_wp2_with fail
 refine (HK.out _).mono ?_
 rintro e w1 ⟨rfl, rfl⟩
 go_wp2_with fail
 have hrs := ((Ext.refl _).alloc (.cells #[.int .i64 0, .int .i64 0, .int .i64 0, .slice none 0 0] 33)).block (heap_alloc_new w (.cells #[.int .i64 kd, .int .i64 a, .int .i64 b, .int .i64 c, .int .i64 n, dr] 37))
 have hrr := heap_alloc_new (w.alloc (.cells #[.int .i64 kd, .int .i64 a, .int .i64 b, .int .i64 c, .int .i64 n, dr] 37)) (.cells #[.int .i64 0, .int .i64 0, .int .i64 0, .slice none 0 0] 33)
 have hsz : (w.alloc (.cells #[.int .i64 kd, .int .i64 a, .int .i64 b, .int .i64 c, .int .i64 n, dr] 37)).heap.size = w.heap.size + 1 := by show (w.heap.push _).size = _; exact Array.size_push ..
 rw [hsz] at hrr
 have hX := ((Ext.refl w).alloc (.cells #[.int .i64 kd, .int .i64 a, .int .i64 b, .int .i64 c, .int .i64 n, dr] 37)).alloc (.cells #[.int .i64 0, .int .i64 0, .int .i64 0, .slice none 0 0] 33)
 generalize World.alloc (World.alloc w _) _ = W at hrs hrr hX ⊢
 obtain ⟨sb, hsb⟩ : ∃ sb, w.heap.size = sb := ⟨_, rfl⟩
 obtain ⟨rb, hrb⟩ : ∃ rb, w.heap.size + 1 = rb := ⟨_, rfl⟩
 rw [hsb] at hrs
 rw [hrb] at hrr ⊢
 rw [hsb]
 have HRS : Hid _ := hrs
 have HRR : Hid _ := hrr
 have HX : Hid (Ext w W) := hX
 have hFs : ¬ F sb := fun hf => by have := HD.out.lt sb hf; omega
 have hFr : ¬ F rb := fun hf => by have := HD.out.lt rb hf; omega
 have HFS : Hid (¬ F sb /\ ¬ F rb /\ ¬ F P /\ sb <= rb /\ w.heap.size <= sb) := ⟨hFs, hFr, hP, by omega, by omega⟩
 have hne : sb ≠ rb := by omega
 have HFS2 : Hid (rb < W.heap.size) := (Array.getElem?_eq_some_iff.1 HRR.out).1
 have hPs : P < W.heap.size := Nat.lt_of_lt_of_le hPl HX.out.le
 have p0 := HX.out.cell hp0
 have s1 := (cell_of_row W _ 1 _ _ _ HRS.out).trans (show _ = some (.int .i64 a) from rfl)
 clear hrs hrr hX hsz hsb hrb hp0 hPl hFs hFr hP
 refine wp_region_held_drew (S := ((fun w' => w'.cell? ⟨P, 0, none⟩ = some (.pointer (some ⟨B, 0, none⟩)) /\ w'.cell? ⟨sb, 1, none⟩ = some (.int .i64 a)))) (by kernel_rfl) ⟨p0, s1⟩ (fun hHeld => ?_)
 refine zT 0 hHeld ?_
 refine zT 1 hHeld ?_
 refine zT 2 hHeld ?_
 refine zT 3 hHeld ?_
 refine zT 4 hHeld ?_
 refine zT 5 hHeld ?_
 refine zR 6 fun K hK => ?_
 (try simp only [lA, lB, lC])
 go_simp
 refine (HA.out _).mono ?_
 rintro e w2' ⟨rfl, rfl⟩
 refine hK.out _ _ ⟨(Ext.drew (Ext.refl _)).cell p0, (Ext.drew (Ext.refl _)).cell s1⟩ (fun hHeld => ?_)
 clear hK K
 try simp only [Act.put, lA, lB, lC, lD, lE, lF]
 refine zT 7 hHeld ?_
 refine zR 8 fun K hK => ?_
 (try simp only [lA, lB, lC])
 go_simp
 refine (failAt_x _ (HD.out.ext (Ext.drew HX.out))).mono ?_
 rintro e w2 ⟨rfl, hc⟩
 have hT : Turn F W w2 := (Turn.of_ext (Ext.drew (Ext.refl W))).trans hc.turn
 have HT : Hid (Turn F W w2) := hT
 have HC : Hid _ := hc
 have q0 := hT.cell p0 HFS.out.2.2.1
 have q1 := hT.cell s1 HFS.out.1
 have hrr2 := hT.ref HRR.out HFS.out.2.1
 have r0 := (cell_of_row w2 _ 0 _ _ _ hrr2).trans (show _ = some (.int .i64 0) from rfl)
 have r1 := (cell_of_row w2 _ 1 _ _ _ hrr2).trans (show _ = some (.int .i64 0) from rfl)
 have r2 := (cell_of_row w2 _ 2 _ _ _ hrr2).trans (show _ = some (.int .i64 0) from rfl)
 have r3 := (cell_of_row w2 _ 3 _ _ _ hrr2).trans (show _ = some (.slice none 0 0) from rfl)
 have f0 := frozen_row hrr2 0
 have f1 := frozen_row hrr2 1
 have f2 := frozen_row hrr2 2
 have f3 := frozen_row hrr2 3
 have HRR2 : Hid _ := hrr2
 clear hc hT hrr2
 refine hK.out _ _ ⟨q0, q1⟩ (fun hHeld => ?_)
 clear hK K
 try simp only [Act.put, lA, lB, lC, lD, lE, lF]
 refine wpAnyH_done (by kernel_rfl) ?_ _
 clear hHeld p0 s1 q0 q1
 go_wp2
 obtain ⟨hv, hVT⟩ := four_end HRR2.out (.int .i64 0) (.int .i64 0) (.int .i64 0) (.slice none 0 0)
 generalize World.setCell _ _ _ = V at hv hVT ⊢
 have v0 := (cell_of_row V _ 0 _ _ _ hv).trans (show _ = some (.int .i64 0) from rfl)
 have v1 := (cell_of_row V _ 1 _ _ _ hv).trans (show _ = some (.int .i64 0) from rfl)
 have v2 := (cell_of_row V _ 2 _ _ _ hv).trans (show _ = some (.int .i64 0) from rfl)
 have v3 := (cell_of_row V _ 3 _ _ _ hv).trans (show _ = some (.slice none 0 0) from rfl)
 obtain ⟨e1, e2, e3⟩ := step_end HR.out HX.out HT.out HC.out.deal (fun b hb => (HC.out.grows b hb).imp id (fun h => Nat.le_trans (Ext.drew (Ext.refl W)).le h)) HFS.out.2.1 HFS.out.2.2.1 (by have := HFS.out.2.2.2; omega) HFS2.out hVT
 rw [show IntKind.i64.wrap ((pa : Int) - 1) = (pa : Int) - 1 by rw [IntKind.wrap_i64]; omega] at e1
 clear hv r0 r1 r2 r3 f0 f1 f2 f3
 refine bodyPost_ret (v := .tuple #[.agg #[.int .i64 0, .int .i64 0, .int .i64 0, .slice none 0 0], .bool true]) ?_ rfl ⟨none, 0, 0, _, rfl, by simp, e1, World.ownsRow_nil _ _ _ _, e2, e3, fun b hb => by simp [lH] at hb⟩
 simp [results, Tryz.results14, go_sem, v0, v1, v2, v3]
theorem stepCompact_x {P B : Nat} {fv : Value} {F : Nat -> Prop} {d : DS} (kd a b c n : Int) (dr : Value) (hk : pickN kd 7 = 3) (h1 : inI kd) (h2 : inI a) (hg : d.Good) (ho : d.ops.length <= 1000000) (w : World) (hr : RunAt w P B fv) (hd : DealX w B F d) (hP : ¬ F P) : Calls Tryz.prog 14 #[.pointer (some ⟨P, 0, none⟩), stepV kd a b c n dr] w fun e w' => StepPost (⟨d.compact.1, 0, 0, []⟩, d.compact.2) w w' P fv F e := by
 have HK : Hid _ := fun w => pick_c kd 7 (by decide) (by decide) h1.1 h1.2 w
 have hp0 := cell_at hr (i := 0) rfl
 have hPl := lG w _ hp0
 have HR : Hid (RunAt w P B fv) := hr
 have HD : Hid (DealX w B F d) := hd
 have HCo : Hid (∀ w', Ext w w' -> _) := fun w' hx => compact_x hg ho (hd.ext hx)
 generalize d.compact = cp at *
 obtain ⟨c0, d'⟩ := cp
 simp only at *
 unfold stepV
 rw [hk] at HK
 clear h1 h2 hr hd hg ho
 go_enter Tryz.func14, Tryz.ntmps14
 go_wp2_with fail
 refine (HK.out _).mono ?_
 rintro e w1 ⟨rfl, rfl⟩
 go_wp2_with fail
 have hrs := ((Ext.refl _).alloc (.cells #[.int .i64 0, .int .i64 0, .int .i64 0, .slice none 0 0] 33)).block (heap_alloc_new w (.cells #[.int .i64 kd, .int .i64 a, .int .i64 b, .int .i64 c, .int .i64 n, dr] 37))
 have hrr := heap_alloc_new (w.alloc (.cells #[.int .i64 kd, .int .i64 a, .int .i64 b, .int .i64 c, .int .i64 n, dr] 37)) (.cells #[.int .i64 0, .int .i64 0, .int .i64 0, .slice none 0 0] 33)
 have hsz : (w.alloc (.cells #[.int .i64 kd, .int .i64 a, .int .i64 b, .int .i64 c, .int .i64 n, dr] 37)).heap.size = w.heap.size + 1 := by show (w.heap.push _).size = _; exact Array.size_push ..
 rw [hsz] at hrr
 have hX := ((Ext.refl w).alloc (.cells #[.int .i64 kd, .int .i64 a, .int .i64 b, .int .i64 c, .int .i64 n, dr] 37)).alloc (.cells #[.int .i64 0, .int .i64 0, .int .i64 0, .slice none 0 0] 33)
 generalize World.alloc (World.alloc w _) _ = W at hrs hrr hX ⊢
 obtain ⟨sb, hsb⟩ : ∃ sb, w.heap.size = sb := ⟨_, rfl⟩
 obtain ⟨rb, hrb⟩ : ∃ rb, w.heap.size + 1 = rb := ⟨_, rfl⟩
 rw [hsb] at hrs
 rw [hrb] at hrr ⊢
 rw [hsb]
 have HRS : Hid _ := hrs
 have HRR : Hid _ := hrr
 have HX : Hid (Ext w W) := hX
 have hFs : ¬ F sb := fun hf => by have := HD.out.lt sb hf; omega
 have hFr : ¬ F rb := fun hf => by have := HD.out.lt rb hf; omega
 have HFS : Hid (¬ F sb /\ ¬ F rb /\ ¬ F P /\ sb <= rb /\ w.heap.size <= sb) := ⟨hFs, hFr, hP, by omega, by omega⟩
 have hne : sb ≠ rb := by omega
 have HFS2 : Hid (rb < W.heap.size) := (Array.getElem?_eq_some_iff.1 HRR.out).1
 have hPs : P < W.heap.size := Nat.lt_of_lt_of_le hPl HX.out.le
 have p0 := HX.out.cell hp0
 have s1 := (cell_of_row W _ 1 _ _ _ HRS.out).trans (show _ = some (.int .i64 a) from rfl)
 clear hrs hrr hX hsz hsb hrb hp0 hPl hFs hFr hP
 refine (HCo.out _ HX.out).mono ?_
 rintro e w2 ⟨rfl, F', hc⟩
 have hT : Turn F W w2 := hc.turn
 have HT : Hid (Turn F W w2) := hT
 have HC : Hid _ := hc
 have hrr2 := hT.ref HRR.out HFS.out.2.1
 have HRR2 : Hid _ := hrr2
 have r0 := (cell_of_row w2 _ 0 _ _ _ hrr2).trans (show _ = some (.int .i64 0) from rfl)
 have r1 := (cell_of_row w2 _ 1 _ _ _ hrr2).trans (show _ = some (.int .i64 0) from rfl)
 have r2 := (cell_of_row w2 _ 2 _ _ _ hrr2).trans (show _ = some (.int .i64 0) from rfl)
 have r3 := (cell_of_row w2 _ 3 _ _ _ hrr2).trans (show _ = some (.slice none 0 0) from rfl)
 have f0 := frozen_row hrr2 0
 have f1 := frozen_row hrr2 1
 have f2 := frozen_row hrr2 2
 have f3 := frozen_row hrr2 3
 clear hrr2
 clear hc hT p0 s1
 go_wp2
 obtain ⟨hv, hVT⟩ := four_end HRR2.out (.int .i64 c0) (.int .i64 0) (.int .i64 0) (.slice none 0 0)
 generalize World.setCell _ _ _ = V at hv hVT ⊢
 have v0 := (cell_of_row V _ 0 _ _ _ hv).trans (show _ = some (.int .i64 c0) from rfl)
 have v1 := (cell_of_row V _ 1 _ _ _ hv).trans (show _ = some (.int .i64 0) from rfl)
 have v2 := (cell_of_row V _ 2 _ _ _ hv).trans (show _ = some (.int .i64 0) from rfl)
 have v3 := (cell_of_row V _ 3 _ _ _ hv).trans (show _ = some (.slice none 0 0) from rfl)
 obtain ⟨e1, e2, e3⟩ := step_end HR.out HX.out HT.out HC.out.deal (HC.out.grows) HFS.out.2.1 HFS.out.2.2.1 (by have := HFS.out.2.2.2; omega) HFS2.out hVT
 clear hv r0 r1 r2 r3 f0 f1 f2 f3
 refine bodyPost_ret (v := .tuple #[.agg #[.int .i64 c0, .int .i64 0, .int .i64 0, .slice none 0 0], .bool true]) ?_ rfl ⟨none, 0, 0, _, rfl, by simp, e1, World.ownsRow_nil _ _ _ _, e2, e3, fun b hb => by simp [lH] at hb⟩
 simp [results, Tryz.results14, go_sem, v0, v1, v2, v3]
theorem step_req (d : DS) (kd a b c n : Int) (D : List Int) (h : pickN kd 7 ≠ 0 /\ pickN kd 7 ≠ 3 /\ pickN kd 7 ≠ 4) : ∃ kk s i q1 q2 q3 q4 f c' p : Int, reqOf kd a b c n = reqV kk s i q1 q2 q3 q4 f c' p /\ stepS d kd a b c n D = d.ask kk s i q1 q2 q3 q4 f c' p := by
 have lk := pickN_lt kd (show 0 < 7 by decide)
 unfold reqOf stepS
 simp only
 generalize pickN kd 7 = pk at *
 obtain rfl | rfl | rfl | rfl : pk = 1 \/ pk = 2 \/ pk = 5 \/ pk = 6 := by omega
 ·exact ⟨_, _, _, _, _, _, _, _, _, _, rfl, rfl⟩
 ·exact ⟨_, _, _, _, _, _, _, _, _, _, rfl, rfl⟩
 ·exact ⟨_, _, _, _, _, _, _, _, _, _, rfl, rfl⟩
 ·exact ⟨_, _, _, _, _, _, _, _, _, _, rfl, rfl⟩
theorem stepAsk_x {P B : Nat} {fv : Value} {F : Nat -> Prop} {d : DS} (kd a b c n : Int) (dr : Value) (hk : pickN kd 7 ≠ 0 /\ pickN kd 7 ≠ 3 /\ pickN kd 7 ≠ 4 /\ pickN kd 7 ≠ 6) (h1 : inI kd) (h2 : inI a) (h3 : inI b) (h4 : inI c) (h5 : inI n) (D : List Int) (hg : d.Good) (ho : d.ops.length <= 1000000) (w : World) (hr : RunAt w P B fv) (hd : DealX w B F d) (hP : ¬ F P) : Calls Tryz.prog 14 #[.pointer (some ⟨P, 0, none⟩), stepV kd a b c n dr] w fun e w' => StepPost (stepS d kd a b c n D) w w' P fv F e := by
 have HK : Hid _ := fun w => pick_c kd 7 (by decide) (by decide) h1.1 h1.2 w
 have hp0 := cell_at hr (i := 0) rfl
 have hPl := lG w _ hp0
 have HR : Hid (RunAt w P B fv) := hr
 have HD : Hid (DealX w B F d) := hd
 have HQ : Hid _ := fun w => keepRequest_c kd a b c n dr h1 h2 h3 h4 h5 w
 obtain ⟨kk, s, i, q1, q2, q3, q4, f, c', p, hq1, hq2⟩ := step_req d kd a b c n D ⟨hk.1, hk.2.1, hk.2.2.1⟩
 rw [hq1] at HQ
 rw [hq2]
 have HAs : Hid (∀ w', Ext w w' -> _) := fun w' hx => (ask_xd hg ho kk s i q1 q2 q3 q4 f c' p (hd.ext hx)).1.ask
 generalize d.ask kk s i q1 q2 q3 q4 f c' p = A at *
 obtain ⟨⟨c0, fr, n0, zs⟩, d'⟩ := A
 have lk := pickN_lt kd (show 0 < 7 by decide)
 unfold stepV reqV at *
 generalize hpk : pickN kd 7 = pk at HK hk lk
 obtain ⟨k0, k3, k4, k6⟩ := hk
 have j0 : ¬ (pk : Int) = 0 := by omega
 have j3 : ¬ (pk : Int) = 3 := by omega
 have j4 : ¬ (pk : Int) = 4 := by omega
 have j6 : ¬ (pk : Int) = 6 := by omega
 clear h1 h2 hr hd h3 h4 h5 hg ho hq1 hq2 hpk k0 k3 k4 k6 lk
 go_enter Tryz.func14, Tryz.ntmps14
 go_wp2_with fail
 refine (HK.out _).mono ?_
 rintro e w1 ⟨rfl, rfl⟩
 go_wp2_with fail
 have hrs := ((Ext.refl _).alloc (.cells #[.int .i64 0, .int .i64 0, .int .i64 0, .slice none 0 0] 33)).block (heap_alloc_new w (.cells #[.int .i64 kd, .int .i64 a, .int .i64 b, .int .i64 c, .int .i64 n, dr] 37))
 have hrr := heap_alloc_new (w.alloc (.cells #[.int .i64 kd, .int .i64 a, .int .i64 b, .int .i64 c, .int .i64 n, dr] 37)) (.cells #[.int .i64 0, .int .i64 0, .int .i64 0, .slice none 0 0] 33)
 have hsz : (w.alloc (.cells #[.int .i64 kd, .int .i64 a, .int .i64 b, .int .i64 c, .int .i64 n, dr] 37)).heap.size = w.heap.size + 1 := by show (w.heap.push _).size = _; exact Array.size_push ..
 rw [hsz] at hrr
 have hX := ((Ext.refl w).alloc (.cells #[.int .i64 kd, .int .i64 a, .int .i64 b, .int .i64 c, .int .i64 n, dr] 37)).alloc (.cells #[.int .i64 0, .int .i64 0, .int .i64 0, .slice none 0 0] 33)
 generalize World.alloc (World.alloc w _) _ = W at hrs hrr hX ⊢
 obtain ⟨sb, hsb⟩ : ∃ sb, w.heap.size = sb := ⟨_, rfl⟩
 obtain ⟨rb, hrb⟩ : ∃ rb, w.heap.size + 1 = rb := ⟨_, rfl⟩
 rw [hsb] at hrs
 rw [hrb] at hrr ⊢
 rw [hsb]
 have HRS : Hid _ := hrs
 have HRR : Hid _ := hrr
 have HX : Hid (Ext w W) := hX
 have hFs : ¬ F sb := fun hf => by have := HD.out.lt sb hf; omega
 have hFr : ¬ F rb := fun hf => by have := HD.out.lt rb hf; omega
 have HFS : Hid (¬ F sb /\ ¬ F rb /\ ¬ F P /\ sb <= rb /\ w.heap.size <= sb) := ⟨hFs, hFr, hP, by omega, by omega⟩
 have hne : sb ≠ rb := by omega
 have HFS2 : Hid (rb < W.heap.size) := (Array.getElem?_eq_some_iff.1 HRR.out).1
 have hPs : P < W.heap.size := Nat.lt_of_lt_of_le hPl HX.out.le
 have p0 := HX.out.cell hp0
 have s1 := (cell_of_row W _ 1 _ _ _ HRS.out).trans (show _ = some (.int .i64 a) from rfl)
 clear hrs hrr hX hsz hsb hrb hp0 hPl hFs hFr hP
 refine (HQ.out _).mono ?_
 rintro e w1 ⟨rfl, hx1⟩
 have HX1 : Hid (Ext W w1) := hx1
 have p1 := hx1.cell p0
 have hP1 : P < w1.heap.size := Nat.lt_of_lt_of_le hPs hx1.le
 clear hx1 p0 s1 hPs
 go_wp2_with fail
 have hrow := heap_alloc_new w1 (.cells #[.int .i64 kk, .int .i64 s, .int .i64 i, .int .i64 q1, .int .i64 q2, .int .i64 q3, .int .i64 q4, .int .i64 f, .int .i64 c', .int .i64 p] 51)
 have hx0 : Ext w1 (w1.alloc (.cells #[.int .i64 kk, .int .i64 s, .int .i64 i, .int .i64 q1, .int .i64 q2, .int .i64 q3, .int .i64 q4, .int .i64 f, .int .i64 c', .int .i64 p] 51)) := (Ext.refl w1).alloc _
 generalize World.alloc w1 _ = W1 at hrow hx0 ⊢
 obtain ⟨gq, hgq⟩ : ∃ gq, w1.heap.size = gq := ⟨_, rfl⟩
 rw [hgq] at hrow ⊢
 have hFq : ¬ F gq := fun hf => by have := HD.out.lt gq hf; have := HX.out.le; have := HX1.out.le; omega
 have HFQ : Hid (¬ F gq /\ rb < gq) := ⟨hFq, by have := HFS2.out; have := HX1.out.le; omega⟩
 have p2 := hx0.cell p1
 have HX2 : Hid (Ext W W1) := HX1.out.trans hx0
 have k0 := (cell_of_row W1 _ 0 _ _ _ hrow).trans (show _ = some (.int .i64 kk) from rfl)
 have k1 := (cell_of_row W1 _ 1 _ _ _ hrow).trans (show _ = some (.int .i64 s) from rfl)
 have k2 := (cell_of_row W1 _ 2 _ _ _ hrow).trans (show _ = some (.int .i64 i) from rfl)
 have k3 := (cell_of_row W1 _ 3 _ _ _ hrow).trans (show _ = some (.int .i64 q1) from rfl)
 have k4 := (cell_of_row W1 _ 4 _ _ _ hrow).trans (show _ = some (.int .i64 q2) from rfl)
 have k5 := (cell_of_row W1 _ 5 _ _ _ hrow).trans (show _ = some (.int .i64 q3) from rfl)
 have k6 := (cell_of_row W1 _ 6 _ _ _ hrow).trans (show _ = some (.int .i64 q4) from rfl)
 have k7 := (cell_of_row W1 _ 7 _ _ _ hrow).trans (show _ = some (.int .i64 f) from rfl)
 have k8 := (cell_of_row W1 _ 8 _ _ _ hrow).trans (show _ = some (.int .i64 c') from rfl)
 have k9 := (cell_of_row W1 _ 9 _ _ _ hrow).trans (show _ = some (.int .i64 p) from rfl)
 have SD : Hid (∀ W2, Turn F W1 W2 -> (fun w' => w'.cell? ⟨P, 0, none⟩ = some (.pointer (some ⟨B, 0, none⟩)) /\ w'.cell? ⟨gq, 0, none⟩ = some (.int .i64 kk) /\ w'.cell? ⟨gq, 1, none⟩ = some (.int .i64 s) /\ w'.cell? ⟨gq, 2, none⟩ = some (.int .i64 i) /\ w'.cell? ⟨gq, 3, none⟩ = some (.int .i64 q1) /\ w'.cell? ⟨gq, 4, none⟩ = some (.int .i64 q2) /\ w'.cell? ⟨gq, 5, none⟩ = some (.int .i64 q3) /\ w'.cell? ⟨gq, 6, none⟩ = some (.int .i64 q4) /\ w'.cell? ⟨gq, 7, none⟩ = some (.int .i64 f) /\ w'.cell? ⟨gq, 8, none⟩ = some (.int .i64 c') /\ w'.cell? ⟨gq, 9, none⟩ = some (.int .i64 p)) W2) := fun W2 hT => ⟨hT.cell p2 HFS.out.2.2.1, hT.cell k0 HFQ.out.1, hT.cell k1 HFQ.out.1, hT.cell k2 HFQ.out.1, hT.cell k3 HFQ.out.1, hT.cell k4 HFQ.out.1, hT.cell k5 HFQ.out.1, hT.cell k6 HFQ.out.1, hT.cell k7 HFQ.out.1, hT.cell k8 HFQ.out.1, hT.cell k9 HFQ.out.1⟩
 clear hrow hx0 hgq hFq p1 hP1
 refine wp_region_held_drew (S := ((fun w' => w'.cell? ⟨P, 0, none⟩ = some (.pointer (some ⟨B, 0, none⟩)) /\ w'.cell? ⟨gq, 0, none⟩ = some (.int .i64 kk) /\ w'.cell? ⟨gq, 1, none⟩ = some (.int .i64 s) /\ w'.cell? ⟨gq, 2, none⟩ = some (.int .i64 i) /\ w'.cell? ⟨gq, 3, none⟩ = some (.int .i64 q1) /\ w'.cell? ⟨gq, 4, none⟩ = some (.int .i64 q2) /\ w'.cell? ⟨gq, 5, none⟩ = some (.int .i64 q3) /\ w'.cell? ⟨gq, 6, none⟩ = some (.int .i64 q4) /\ w'.cell? ⟨gq, 7, none⟩ = some (.int .i64 f) /\ w'.cell? ⟨gq, 8, none⟩ = some (.int .i64 c') /\ w'.cell? ⟨gq, 9, none⟩ = some (.int .i64 p)))) (by kernel_rfl) ⟨p2, k0, k1, k2, k3, k4, k5, k6, k7, k8, k9⟩ (fun hHeld => ?_)
 refine zT 0 hHeld ?_
 refine zT 1 hHeld ?_
 refine zT 2 hHeld ?_
 refine zT 3 hHeld ?_
 refine zT 4 hHeld ?_
 refine zR 5 fun K hK => ?_
 (try simp only [lA, lB, lC])
 go_simp
 refine (HAs.out _ (Ext.drew (HX.out.trans HX2.out))).mono ?_
 rintro e w2 ⟨ra, rl, rc, F', rfl, hzs, hso⟩
 unfold replyV
 have hT1 : Turn F W1 w2 := (Turn.of_ext (Ext.drew (Ext.refl W1))).trans hso.turn
 have hT : Turn F W w2 := (Turn.of_ext HX2.out).trans hT1
 have HT : Hid (Turn F W w2) := hT
 have HSO : Hid _ := hso
 have HZS : Hid _ := hzs
 have HS2 : Hid _ := SD.out _ hT1
 have hrr2 := hT.ref HRR.out HFS.out.2.1
 have HRR2 : Hid _ := hrr2
 have r0 := (cell_of_row w2 _ 0 _ _ _ hrr2).trans (show _ = some (.int .i64 0) from rfl)
 have r1 := (cell_of_row w2 _ 1 _ _ _ hrr2).trans (show _ = some (.int .i64 0) from rfl)
 have r2 := (cell_of_row w2 _ 2 _ _ _ hrr2).trans (show _ = some (.int .i64 0) from rfl)
 have r3 := (cell_of_row w2 _ 3 _ _ _ hrr2).trans (show _ = some (.slice none 0 0) from rfl)
 have f0 := frozen_row hrr2 0
 have f1 := frozen_row hrr2 1
 have f2 := frozen_row hrr2 2
 have f3 := frozen_row hrr2 3
 clear hrr2
 clear hso hzs hT hT1
 refine hK.out _ _ HS2.out (fun hHeld => ?_)
 clear hK K
 try simp only [Act.put, lA, lB, lC, lD, lE, lF]
 refine zR 6 fun K hK => ?_
 (try simp only [lA, lB, lC])
 go_simp
 refine hK.out _ _ ?hlast (fun hHeld => ?_)
 case hlast =>
  have hq := HS2.out
  have hrP : rb ≠ P := fun e => by have := (Array.getElem?_eq_some_iff.1 HR.out).1; have := HFS.out.2.2.2; omega
  have hrq : rb ≠ gq := fun e => by have := HFQ.out.2; omega
  exact ⟨(four_far hrP).trans hq.1, (four_far hrq).trans hq.2.1, (four_far hrq).trans hq.2.2.1, (four_far hrq).trans hq.2.2.2.1, (four_far hrq).trans hq.2.2.2.2.1, (four_far hrq).trans hq.2.2.2.2.2.1, (four_far hrq).trans hq.2.2.2.2.2.2.1, (four_far hrq).trans hq.2.2.2.2.2.2.2.1, (four_far hrq).trans hq.2.2.2.2.2.2.2.2.1, (four_far hrq).trans hq.2.2.2.2.2.2.2.2.2.1, (four_far hrq).trans hq.2.2.2.2.2.2.2.2.2.2⟩
 clear hK K
 try simp only [Act.put, lA, lB, lC, lD, lE, lF]
 obtain ⟨hv, hVT⟩ := four_end HRR2.out (.int .i64 c0) (.int .i64 fr) (.int .i64 n0) (.slice ra rl rc)
 generalize World.setCell _ _ _ = V at hv hVT hHeld ⊢
 refine zT 7 hHeld ?_
 refine wpAnyH_done (by kernel_rfl) ?_ _
 have v0 := (cell_of_row V _ 0 _ _ _ hv).trans (show _ = some (.int .i64 c0) from rfl)
 have v1 := (cell_of_row V _ 1 _ _ _ hv).trans (show _ = some (.int .i64 fr) from rfl)
 have v2 := (cell_of_row V _ 2 _ _ _ hv).trans (show _ = some (.int .i64 n0) from rfl)
 have v3 := (cell_of_row V _ 3 _ _ _ hv).trans (show _ = some (.slice ra rl rc) from rfl)
 have hgr : ∀ b, F' b -> F b \/ W.heap.size <= b := fun b hb => (HSO.out.grows b hb).imp id (fun h => Nat.le_trans (Ext.drew HX2.out).le h)
 obtain ⟨e1, e2, e3⟩ := step_end HR.out HX.out HT.out HSO.out.deal hgr HFS.out.2.1 HFS.out.2.2.1 (by have := HFS.out.2.2.2; omega) HFS2.out hVT
 have hrow := hVT.owns (owns_base HSO.out.row (Nat.le_trans HX.out.le (Ext.drew HX2.out).le)) (fun q hq e => by
  have h1 := (World.ownsRow.lt HSO.out.row q hq).1
  have h2 := (Ext.drew HX2.out).le
  have h3 := HFS2.out
  omega)
 clear hv r0 r1 r2 r3 f0 f1 f2 f3 hHeld k0 k1 k2 k3 k4 k5 k6 k7 k8 k9 p2
 go_wp2
 refine bodyPost_ret (v := .tuple #[.agg #[.int .i64 c0, .int .i64 fr, .int .i64 n0, .slice ra rl rc], .bool true]) ?_ rfl ⟨ra, rl, rc, F', rfl, HZS.out, e1, hrow, e2, e3, HSO.out.free⟩
 simp [results, Tryz.results14, go_sem, v0, v1, v2, v3]
theorem stepFill_x {P B : Nat} {fv : Value} {F : Nat -> Prop} {d : DS} (kd a b c n : Int) (dr : Value) (hk : pickN kd 7 = 0) (h1 : inI kd) (h2 : inI a) (h3 : inI b) (ra : Option Addr) (rl rcap : Nat) (hdr : dr = .slice ra rl rcap) (D : List Int) (hdl : D.length = rl) (hrm : rl <= 100000000000000) (hg : d.Good) (ho : d.ops.length <= 1000000) (w : World) (hr : RunAt w P B fv) (hd : DealX w B F d) (hP : ¬ F P) (hdw : rl = 0 \/ ∃ bb off, ra = some ⟨bb, off, none⟩ /\ WordsAt w bb off D) : Calls Tryz.prog 14 #[.pointer (some ⟨P, 0, none⟩), stepV kd a b c n dr] w fun e w' => StepPost (stepS d kd a b c n D) w w' P fv F e := by
 have HK : Hid _ := fun w => pick_c kd 7 (by decide) (by decide) h1.1 h1.2 w
 rw [hk] at HK
 have hp0 := cell_at hr (i := 0) rfl
 have hPl := lG w _ hp0
 have HR : Hid (RunAt w P B fv) := hr
 have HD : Hid (DealX w B F d) := hd
 have HA : Hid _ := fun w => pick_c a 4 (by decide) (by decide) h2.1 h2.2 w
 have HB : Hid _ := fun w => pick_c b 4 (by decide) (by decide) h3.1 h3.2 w
 have la := pickN_lt a (show 0 < 4 by decide)
 have lb := pickN_lt b (show 0 < 4 by decide)
 have HL : Hid _ := fun w => keepClass_c (pickN a 4) (by omega) (by omega) w
 have hcls := clsK_cls (pickN a 4)
 unfold stepS
 rw [hk]
 simp only
 subst hdr
 generalize pickN b 4 = pb at *
 generalize clsK (pickN a 4 : Int) = q at *
 generalize pickN a 4 = pa at *
 obtain ⟨q1, q2, q3, q4⟩ := q
 simp only at *
 obtain ⟨hofc, hok⟩ := shOf_of hcls
 have hle := Sh.le hok
 have hdrs : (shOf q1 q2 q3 q4).dr <= 100 := by unfold Sh.dr; omega
 have hNb : (1 + pb) * (shOf q1 q2 q3 q4).dr <= 400 := by have := Nat.mul_le_mul (show 1 + pb <= 4 by omega) hdrs; omega
 have HDr : Hid (∀ w', Ext w w' -> _) := fun w' hx => keepDraws_c hofc hok (1 + pb) (by omega) ra rl rcap D hdl hrm w' (hdw.imp id (fun ⟨bb, off, e1, e2⟩ => ⟨bb, off, e1, e2.ext hx⟩))
 generalize (1 + pb) * (shOf q1 q2 q3 q4).dr = N at *
 have HRf : Hid (∀ w' gh, Ext w w' -> WordsAt w' gh 0 (fillS D N) -> _) := fun w' gh hx hz => refill_x (kd := q1) (m := q2) (k := q3) (n := q4) hg ho (fillS_len D N) (fillS_u64 D (by omega)) (by omega) (Nat.le_refl _) (hd.ext hx) hz
 generalize hRF : DS.refill d q1 q2 q3 q4 (fillS D N) = rf at *
 obtain ⟨c0, d'⟩ := rf
 simp only at *
 unfold stepV clsV at *
 clear h1 h2 hr hd h3 hg ho hdl hdw hofc hok hle hcls hdrs hRF
 go_enter Tryz.func14, Tryz.ntmps14
 go_wp2_with fail
 refine (HK.out _).mono ?_
 rintro e w1 ⟨rfl, rfl⟩
 go_wp2_with fail
 have hrs := ((Ext.refl _).alloc (.cells #[.int .i64 0, .int .i64 0, .int .i64 0, .slice none 0 0] 33)).block (heap_alloc_new w (.cells #[.int .i64 kd, .int .i64 a, .int .i64 b, .int .i64 c, .int .i64 n, .slice ra rl rcap] 37))
 have hrr := heap_alloc_new (w.alloc (.cells #[.int .i64 kd, .int .i64 a, .int .i64 b, .int .i64 c, .int .i64 n, .slice ra rl rcap] 37)) (.cells #[.int .i64 0, .int .i64 0, .int .i64 0, .slice none 0 0] 33)
 have hsz : (w.alloc (.cells #[.int .i64 kd, .int .i64 a, .int .i64 b, .int .i64 c, .int .i64 n, .slice ra rl rcap] 37)).heap.size = w.heap.size + 1 := by show (w.heap.push _).size = _; exact Array.size_push ..
 rw [hsz] at hrr
 have hX := ((Ext.refl w).alloc (.cells #[.int .i64 kd, .int .i64 a, .int .i64 b, .int .i64 c, .int .i64 n, .slice ra rl rcap] 37)).alloc (.cells #[.int .i64 0, .int .i64 0, .int .i64 0, .slice none 0 0] 33)
 generalize World.alloc (World.alloc w _) _ = W at hrs hrr hX ⊢
 obtain ⟨sb, hsb⟩ : ∃ sb, w.heap.size = sb := ⟨_, rfl⟩
 obtain ⟨rb, hrb⟩ : ∃ rb, w.heap.size + 1 = rb := ⟨_, rfl⟩
 rw [hsb] at hrs
 rw [hrb] at hrr ⊢
 rw [hsb]
 have HRS : Hid _ := hrs
 have HRR : Hid _ := hrr
 have HX : Hid (Ext w W) := hX
 have hFs : ¬ F sb := fun hf => by have := HD.out.lt sb hf; omega
 have hFr : ¬ F rb := fun hf => by have := HD.out.lt rb hf; omega
 have HFS : Hid (¬ F sb /\ ¬ F rb /\ ¬ F P /\ sb <= rb /\ w.heap.size <= sb) := ⟨hFs, hFr, hP, by omega, by omega⟩
 have hne : sb ≠ rb := by omega
 have HFS2 : Hid (rb < W.heap.size) := (Array.getElem?_eq_some_iff.1 HRR.out).1
 have hPs : P < W.heap.size := Nat.lt_of_lt_of_le hPl HX.out.le
 have p0 := HX.out.cell hp0
 have s1 := (cell_of_row W _ 1 _ _ _ HRS.out).trans (show _ = some (.int .i64 a) from rfl)
 clear hrs hrr hX hsz hsb hrb hp0 hPl hFs hFr hP
 refine (HA.out _).mono ?_
 rintro e w1 ⟨rfl, rfl⟩
 go_wp2_with fail
 refine (HL.out _).mono ?_
 rintro e w1 ⟨rfl, hx1⟩
 have HX1 : Hid (Ext W w1) := hx1
 have p1 := hx1.cell p0
 have b2 := hx1.cell ((cell_of_row W _ 2 _ _ _ HRS.out).trans (show _ = some (.int .i64 b) from rfl))
 have b5 := hx1.cell ((cell_of_row W _ 5 _ _ _ HRS.out).trans (show _ = some (.slice ra rl rcap) from rfl))
 have hP1 : P < w1.heap.size := Nat.lt_of_lt_of_le hPs hx1.le
 have hsl : sb < w1.heap.size := by have := HFS.out.2.2.2; have := HFS2.out; have := hx1.le; omega
 clear hx1 p0 s1 hPs
 go_wp2_with fail
 have hrow := heap_alloc_new w1 (.cells #[.int .i64 q1, .int .i64 q2, .int .i64 q3, .int .i64 q4] 49)
 have hx0 : Ext w1 (w1.alloc (.cells #[.int .i64 q1, .int .i64 q2, .int .i64 q3, .int .i64 q4] 49)) := (Ext.refl w1).alloc _
 generalize World.alloc w1 _ = W1 at hrow hx0 ⊢
 obtain ⟨gc, hgc⟩ : ∃ gc, w1.heap.size = gc := ⟨_, rfl⟩
 rw [hgc] at hrow ⊢
 have HX2 : Hid (Ext W W1) := HX1.out.trans hx0
 have p2 := hx0.cell p1
 have d2 := hx0.cell b2
 have d5 := hx0.cell b5
 have k0 := (cell_of_row W1 _ 0 _ _ _ hrow).trans (show _ = some (.int .i64 q1) from rfl)
 have k1 := (cell_of_row W1 _ 1 _ _ _ hrow).trans (show _ = some (.int .i64 q2) from rfl)
 have k2 := (cell_of_row W1 _ 2 _ _ _ hrow).trans (show _ = some (.int .i64 q3) from rfl)
 have k3 := (cell_of_row W1 _ 3 _ _ _ hrow).trans (show _ = some (.int .i64 q4) from rfl)
 have SD : Hid (∀ W2, Ext W1 W2 -> (fun w' => w'.cell? ⟨P, 0, none⟩ = some (.pointer (some ⟨B, 0, none⟩)) /\ w'.cell? ⟨sb, 2, none⟩ = some (.int .i64 b) /\ w'.cell? ⟨sb, 5, none⟩ = some (.slice ra rl rcap) /\ w'.cell? ⟨gc, 0, none⟩ = some (.int .i64 q1) /\ w'.cell? ⟨gc, 1, none⟩ = some (.int .i64 q2) /\ w'.cell? ⟨gc, 2, none⟩ = some (.int .i64 q3) /\ w'.cell? ⟨gc, 3, none⟩ = some (.int .i64 q4)) W2) := fun W2 hT => ⟨hT.cell p2, hT.cell d2, hT.cell d5, hT.cell k0, hT.cell k1, hT.cell k2, hT.cell k3⟩
 have HGC : Hid (¬ F gc) := fun hf => by have := HD.out.lt gc hf; have := HX.out.le; have := HX1.out.le; omega
 clear hrow hx0 hgc p1 hP1 b2 b5 hsl
 refine wp_region_held_drew (S := ((fun w' => w'.cell? ⟨P, 0, none⟩ = some (.pointer (some ⟨B, 0, none⟩)) /\ w'.cell? ⟨sb, 2, none⟩ = some (.int .i64 b) /\ w'.cell? ⟨sb, 5, none⟩ = some (.slice ra rl rcap) /\ w'.cell? ⟨gc, 0, none⟩ = some (.int .i64 q1) /\ w'.cell? ⟨gc, 1, none⟩ = some (.int .i64 q2) /\ w'.cell? ⟨gc, 2, none⟩ = some (.int .i64 q3) /\ w'.cell? ⟨gc, 3, none⟩ = some (.int .i64 q4)))) (by kernel_rfl) ⟨p2, d2, d5, k0, k1, k2, k3⟩ (fun hHeld => ?_)
 refine zT 0 hHeld ?_
 refine zT 1 hHeld ?_
 refine zT 2 hHeld ?_
 refine zT 3 hHeld ?_
 refine zT 4 hHeld ?_
 refine zR 5 fun K hK => ?_
 (try simp only [lA, lB, lC])
 go_simp
 refine (HB.out _).mono ?_
 rintro e w2' ⟨rfl, rfl⟩
 refine hK.out _ _ (SD.out _ (Ext.drew (Ext.refl _))) (fun hHeld => ?_)
 clear hK K
 try simp only [Act.put, lA, lB, lC, lD, lE, lF]
 refine zT 6 hHeld ?_
 refine zR 7 fun K hK => ?_
 (try simp only [lA, lB, lC])
 go_simp
 rw [show IntKind.i64.wrap ((1 : Int) + (pb : Int)) = ((1 + pb : Nat) : Int) by rw [IntKind.wrap_i64]; omega]
 refine (HDr.out _ (Ext.drew (HX.out.trans HX2.out))).mono ?_
 rintro e w3 ⟨gh, rfl, ho3, hx3⟩
 have hX3 : Ext W1 w3 := (Ext.drew (Ext.refl W1)).trans hx3
 have HX3 : Hid (Ext W w3) := HX2.out.trans hX3
 have HO3 : Hid (WordsAt w3 gh 0 (fillS D N)) := owns_words ho3
 have HS3 : Hid _ := SD.out _ hX3
 clear ho3 hx3 hX3
 refine hK.out _ _ HS3.out (fun hHeld => ?_)
 clear hK K
 try simp only [Act.put, lA, lB, lC, lD, lE, lF]
 refine zT 8 hHeld ?_
 refine wpAnyH_done (by kernel_rfl) ?_ _
 clear hHeld p2 d2 d5 k0 k1 k2 k3
 obtain ⟨p3, _, _, k0, k1, k2, k3⟩ := HS3.out
 have hP3 : P < w3.heap.size := lG w3 _ p3
 go_wp2_with fail
 refine wp_region_held_drew (S := ((fun w' => w'.cell? ⟨P, 0, none⟩ = some (.pointer (some ⟨B, 0, none⟩)) /\ w'.cell? ⟨gc, 0, none⟩ = some (.int .i64 q1) /\ w'.cell? ⟨gc, 1, none⟩ = some (.int .i64 q2) /\ w'.cell? ⟨gc, 2, none⟩ = some (.int .i64 q3) /\ w'.cell? ⟨gc, 3, none⟩ = some (.int .i64 q4)))) (by kernel_rfl) ⟨p3, k0, k1, k2, k3⟩ (fun hHeld => ?_)
 refine zT 0 hHeld ?_
 refine zT 1 hHeld ?_
 refine zT 2 hHeld ?_
 refine zT 3 hHeld ?_
 refine zT 4 hHeld ?_
 refine zT 5 hHeld ?_
 refine zR 6 fun K hK => ?_
 (try simp only [lA, lB, lC])
 go_simp
 refine (HRf.out _ _ (Ext.drew (HX.out.trans HX3.out)) (HO3.out.ext (Ext.drew (Ext.refl _)))).mono ?_
 rintro e w2 ⟨rfl, F', hc⟩
 have hT3 : Turn F w3 w2 := (Turn.of_ext (Ext.drew (Ext.refl w3))).trans hc.turn
 have hT : Turn F W w2 := (Turn.of_ext HX3.out).trans hT3
 have HT : Hid (Turn F W w2) := hT
 have HC : Hid _ := hc
 have HG2 : Hid _ := And.intro (hT3.cell p3 HFS.out.2.2.1) (And.intro (hT3.cell k0 HGC.out) (And.intro (hT3.cell k1 HGC.out) (And.intro (hT3.cell k2 HGC.out) (hT3.cell k3 HGC.out))))
 have hrr2 := hT.ref HRR.out HFS.out.2.1
 have HRR2 : Hid _ := hrr2
 have r0 := (cell_of_row w2 _ 0 _ _ _ hrr2).trans (show _ = some (.int .i64 0) from rfl)
 have r1 := (cell_of_row w2 _ 1 _ _ _ hrr2).trans (show _ = some (.int .i64 0) from rfl)
 have r2 := (cell_of_row w2 _ 2 _ _ _ hrr2).trans (show _ = some (.int .i64 0) from rfl)
 have r3 := (cell_of_row w2 _ 3 _ _ _ hrr2).trans (show _ = some (.slice none 0 0) from rfl)
 have f0 := frozen_row hrr2 0
 have f1 := frozen_row hrr2 1
 have f2 := frozen_row hrr2 2
 have f3 := frozen_row hrr2 3
 clear hrr2
 clear hc hT hT3
 refine hK.out _ _ HG2.out (fun hHeld => ?_)
 clear hK K
 try simp only [Act.put, lA, lB, lC, lD, lE, lF]
 refine zT 7 hHeld ?_
 refine wpAnyH_done (by kernel_rfl) ?_ _
 clear hHeld p3 k0 k1 k2 k3 hP3
 go_wp2
 obtain ⟨hv, hVT⟩ := four_end HRR2.out (.int .i64 c0) (.int .i64 0) (.int .i64 0) (.slice none 0 0)
 generalize World.setCell _ _ _ = V at hv hVT ⊢
 have v0 := (cell_of_row V _ 0 _ _ _ hv).trans (show _ = some (.int .i64 c0) from rfl)
 have v1 := (cell_of_row V _ 1 _ _ _ hv).trans (show _ = some (.int .i64 0) from rfl)
 have v2 := (cell_of_row V _ 2 _ _ _ hv).trans (show _ = some (.int .i64 0) from rfl)
 have v3 := (cell_of_row V _ 3 _ _ _ hv).trans (show _ = some (.slice none 0 0) from rfl)
 obtain ⟨e1, e2, e3⟩ := step_end HR.out HX.out HT.out HC.out.deal (fun b hb => (HC.out.grows b hb).imp id (fun h => Nat.le_trans (Ext.drew HX3.out).le h)) HFS.out.2.1 HFS.out.2.2.1 (by have := HFS.out.2.2.2; omega) HFS2.out hVT
 clear hv r0 r1 r2 r3 f0 f1 f2 f3
 refine bodyPost_ret (v := .tuple #[.agg #[.int .i64 c0, .int .i64 0, .int .i64 0, .slice none 0 0], .bool true]) ?_ rfl ⟨none, 0, 0, _, rfl, by simp, e1, World.ownsRow_nil _ _ _ _, e2, e3, fun b hb => by simp [lH] at hb⟩
 simp [results, Tryz.results14, go_sem, v0, v1, v2, v3]
end
-- VSu
section
open Go.RowKit Go.Maps
section
variable {d : DS}
theorem add_ops (rec : ByteArray) (S' : List Stk) (ls' : List LsV) (hah : AhOk d.fl d.ah) : (d.add rec S' ls').ops.length <= d.ops.length + 4 := by
 unfold DS.add
 simp only [List.length_append]
 rw [didOps_len d.fl d.ah hah, addOps_len]
 have hn : ∀ q : Nat, q <= 4 -> diskN d.fl d.ah q <= 4 := fun q hq => by
  unfold diskN
  split
  ·rename_i h
   have := hah h.1
   omega
  ·exact hq
 split
 ·have := hn 2 (by omega); omega
 ·have := hn 4 (by omega); omega
theorem after_ops (A : Ans) (rec : ByteArray) (hah : AhOk d.fl d.ah) : (d.after A rec).2.ops.length <= d.ops.length + 4 := by
 unfold DS.after
 split
 ·simp
 ·exact add_ops _ _ _ hah
theorem refill_ops (kd m k n : Int) (D : List Int) (hah : AhOk d.fl d.ah) : (d.refill kd m k n D).2.ops.length <= d.ops.length + 4 := by
 unfold DS.refill
 split
 ·exact add_ops _ _ _ hah
 ·simp
theorem compact_ops (hah : AhOk d.fl d.ah) : d.compact.2.ops.length <= d.ops.length + 4 := by
 unfold DS.compact
 split
 ·simp
 ·simp only [List.length_append]
  rw [didOps_len d.fl d.ah hah]
  unfold diskN
  split
  ·rename_i h
   have := hah h.1
   have h2 : d.ah < ((opsNew (flatF (recsP (compactS d.S d.ls) d.ls))).length : Int) := h.2
   simp only [opsNew, List.length_cons, List.length_nil] at h2
   omega
  ·simp only [opsNew, List.length_cons, List.length_nil]
   omega
theorem stepS_ops (kd a b c n : Int) (D : List Int) (hah : AhOk d.fl d.ah) : (stepS d kd a b c n D).2.ops.length <= d.ops.length + 4 := by
 unfold stepS
 simp only
 split
 ·exact refill_ops _ _ _ _ _ hah
 ·exact after_ops _ _ hah
 ·exact after_ops _ _ hah
 ·exact compact_ops hah
 ·simp [DS.failAt]
 ·exact after_ops _ _ hah
end
theorem step_x {P B : Nat} {fv : Value} {F : Nat -> Prop} {d : DS} (kd a b c n : Int) (ra : Option Addr) (rl rcap : Nat) (D : List Int) (hk : pickN kd 7 ≠ 6) (h1 : inI kd) (h2 : inI a) (h3 : inI b) (h4 : inI c) (h5 : inI n) (hdl : D.length = rl) (hrm : rl <= 100000000000000) (hg : d.Good) (ho : d.ops.length <= 1000000) (w : World) (hr : RunAt w P B fv) (hd : DealX w B F d) (hP : ¬ F P) (hdw : rl = 0 \/ ∃ bb off, ra = some ⟨bb, off, none⟩ /\ WordsAt w bb off D) :
  Calls Tryz.prog 14 #[.pointer (some ⟨P, 0, none⟩), stepV kd a b c n (.slice ra rl rcap)] w fun e w' => StepPost (stepS d kd a b c n D) w w' P fv F e := by
 by_cases k0 : pickN kd 7 = 0
 ·exact stepFill_x kd a b c n _ k0 h1 h2 h3 ra rl rcap rfl D hdl hrm hg ho w hr hd hP hdw
 by_cases k3 : pickN kd 7 = 3
 ·have e : stepS d kd a b c n D = (⟨d.compact.1, 0, 0, []⟩, d.compact.2) := by unfold stepS; rw [k3]; rfl
  rw [e]
  exact stepCompact_x kd a b c n _ k3 h1 h2 hg ho w hr hd hP
 by_cases k4 : pickN kd 7 = 4
 ·have e : stepS d kd a b c n D = (⟨0, 0, 0, []⟩, d.failAt ((pickN a 10 : Int) - 1)) := by unfold stepS; rw [k4]; rfl
  rw [e]
  exact stepFail_x kd a b c n _ k4 h1 h2 w hr hd hP
 exact stepAsk_x kd a b c n _ ⟨k0, k3, k4, hk⟩ h1 h2 h3 h4 h5 D hg ho w hr hd hP
end
-- VSc
section
set_option maxRecDepth 100000
open Go.ChangeShapes Go.WideShapes Go.ChangeAt Go.RowKit Go.Joins
theorem add_at0 (b off i : Nat) : (⟨b, off, none⟩ : Addr).add i = ⟨b, off + i, none⟩ := by unfold Addr.add; split <;> simp_all
def KStepIs (w : World) (N0 : Nat) (cs : Array Value) : Prop := ∃ (kd a b c n : Int) (ra : Option Addr) (rl rcap : Nat) (D : List Int),
 cs = #[.int .i64 kd, .int .i64 a, .int .i64 b, .int .i64 c, .int .i64 n, .slice ra rl rcap] /\ inI kd /\ inI a /\ inI b /\ inI c /\ inI n /\ D.length = rl /\ rl <= 100000000 /\ DrawsAt w ra rl D /\ ∀ b off, rl ≠ 0 /\ ra = some ⟨b, off, none⟩ -> b < N0
theorem KStepIs.turn {w w' : World} {N0 : Nat} {cs : Array Value} (h : KStepIs w N0 cs) (ht : Turn (fun b => N0 <= b) w w') : KStepIs w' N0 cs := by
 obtain ⟨kd, a, b, c, n, ra, rl, rcap, D, h1, h2, h3, h4, h5, h6, h7, h8, h9, h10⟩ := h
 exact ⟨kd, a, b, c, n, ra, rl, rcap, D, h1, h2, h3, h4, h5, h6, h7, h8, h9.turn ht (fun b off e hl => by have := h10 b off e; omega), h10⟩
def KScriptAt (w : World) (N0 : Nat) (sa : Option Addr) (n : Nat) : Prop := n = 0 \/ ∃ b off, sa = some ⟨b, off, none⟩ /\ b < N0 /\ ∀ i, i < n -> ∃ cs, KStepIs w N0 cs /\ ∀ j v, cs[j]? = some v -> w.cell? ⟨b, off + i * 6 + j, none⟩ = some v
theorem KScriptAt.turn {w w' : World} {N0 : Nat} {sa : Option Addr} {n : Nat} (h : KScriptAt w N0 sa n) (ht : Turn (fun b => N0 <= b) w w') : KScriptAt w' N0 sa n := by
 rcases h with h | ⟨b, off, e, hb, hc⟩
 ·exact .inl h
 ·refine .inr ⟨b, off, e, hb, fun i hi => ?_⟩
  obtain ⟨cs, h1, h2⟩ := hc i hi
  exact ⟨cs, h1.turn ht, fun j v hv => ht.cell (h2 j v hv) (fun hl => by simp only at hl; omega)⟩
section
variable {H : Type} {enc : TypeId × Value -> H} {W : World}
theorem cellsKStep : Tryz.prog.cellsOf 37 = 6 := by kernel_rfl
theorem list6 {α : Type} {cs : List α} (h : cs.length = 6) : ∃ c0 c1 c2 c3 c4 c5, cs = [c0, c1, c2, c3, c4, c5] := by
 match cs, h with
 | [c0, c1, c2, c3, c4, c5], _ => exact ⟨c0, c1, c2, c3, c4, c5, rfl⟩
theorem inI_lit {z : Int} (h : Lit.wf (.int .i64 z)) : inI z := by
 simp [Lit.wf, IntKind.min, IntKind.max, IntKind.signed, IntKind.bits] at h
 unfold inI
 omega
theorem open_kstep {base : Nat} {spare : Nat -> Bool} {held : Bool} {fuel : Nat} {cs : List Value} {x : DataW H × List MemPlace} (h : DataW.trod enc Tryz.prog W base spare held fuel 37 cs = some x) (hb : Rows.uptoBulk x.1 <= 1048576) :
  7 <= Rows.uptoBulk x.1 /\ ∃ (kd a b c n : Int) (ra : Option Addr) (rl rcap : Nat) (D : List Int), cs = [.int .i64 kd, .int .i64 a, .int .i64 b, .int .i64 c, .int .i64 n, .slice ra rl rcap] /\ inI kd /\ inI a /\ inI b /\ inI c /\ inI n /\ D.length = rl /\ rl <= 100000000 /\ DrawsAt W ra rl D /\ ∀ b off, rl ≠ 0 /\ ra = some ⟨b, off, none⟩ -> b < W.heap.size := by
 obtain ⟨xs, n, _, rfl, hl, hxl, hf⟩ := DataW.trod_struct Tryz.underlying37 h
 rw [cellsKStep] at hl
 obtain ⟨c0, c1, c2, c3, c4, c5, rfl⟩ := list6 hl
 have hxl6 : xs.length = 6 := hxl
 obtain ⟨y0, y1, y2, y3, y4, y5, rfl⟩ := list6 hxl6
 clear hl h hxl hxl6
 have h0 := hf 0 _ rfl
 have h1 := hf 1 _ rfl
 have h2 := hf 2 _ rfl
 have h3 := hf 3 _ rfl
 have h4 := hf 4 _ rfl
 have h5 := hf 5 _ rfl
 clear hf
 simp [cellsInt, cellsWords] at h0 h1 h2 h3 h4 h5
 have b0 := bulk_one y0.1
 have b1 := bulk_one y1.1
 have b2 := bulk_one y2.1
 have b3 := bulk_one y3.1
 have b4 := bulk_one y4.1
 have b5 := bulk_one y5.1
 simp only [List.map_cons, List.map_nil, Rows.uptoBulk, Rows.uptoBulkAll] at hb ⊢
 refine ⟨by omega, ?_⟩
 have hb5 : Rows.uptoBulk y5.1 <= 1048576 := by omega
 clear hb b0 b1 b2 b3 b4 b5
 obtain ⟨kd, d0, _, w0⟩ := DataW.trod_int Tryz.underlying3 h0
 obtain ⟨a, d1, _, w1⟩ := DataW.trod_int Tryz.underlying3 h1
 obtain ⟨b, d2, _, w2⟩ := DataW.trod_int Tryz.underlying3 h2
 obtain ⟨c, d3, _, w3⟩ := DataW.trod_int Tryz.underlying3 h3
 obtain ⟨n', d4, _, w4⟩ := DataW.trod_int Tryz.underlying3 h4
 obtain ⟨ra, rl, rcap, D, d5, e1, e3, e5, e6⟩ : ∃ (ra : Option Addr) (rl rcap : Nat) (D : List Int), [c5] = [Value.slice ra rl rcap] /\ D.length = rl /\ rl <= 100000000 /\ DrawsAt W ra rl D /\ ∀ b off, rl ≠ 0 /\ ra = some ⟨b, off, none⟩ -> b < W.heap.size := by
  rcases open_ints Tryz.underlying31 Tryz.underlying146 cellsU64 h5 with ⟨hcs, _⟩ | ⟨x, l, c, zs, hcs, _, hl, hm, hz, hy, hcell, hwz⟩
  ·exact ⟨none, 0, 0, [], hcs, rfl, by omega, .inl rfl, fun b off e => by simp at e⟩
  ·have hle : l <= zs.length := by rw [hz]; split <;> omega
   rw [hy] at hb5
   have hl4 : l <= 100000000 := by
    have h1 := bulk_length (lits (H := H) .u64 (zs.take l))
    simp only [Rows.uptoBulk] at hb5
    have h2 : (lits (H := H) .u64 (zs.take l)).length = l := by simp [lits]; omega
    omega
   refine ⟨some x, l, c, zs.take l, hcs, by simp; omega, hl4, ?_, ?_⟩
   ·by_cases h0 : l = 0
    ·exact .inl h0
    ·right
     obtain ⟨b, off, spot⟩ := x
     have hc0 := hcell 0 (by omega)
     have hspot : spot = none := by simpa [Addr.add] using World.cell?_spot hc0
     subst hspot
     refine ⟨b, off, rfl, fun i hi => ?_⟩
     have hi' : i < l := by simp at hi; omega
     have hci := hcell i (by omega)
     have e : (⟨b, off, none⟩ : Addr).add i = ⟨b, off + i, none⟩ := by unfold Addr.add; split <;> simp_all
     rw [e] at hci
     rw [hci]
     simp [List.getD_eq_getElem?_getD, hi']
   ·rintro b off ⟨hne, e⟩
    have e' : x = ⟨b, off, none⟩ := by simpa using e
    have hc0 := hcell 0 (by omega)
    rw [e'] at hc0
    exact lG W _ hc0
 simp at d0 d1 d2 d3 d4 d5
 exact ⟨kd, a, b, c, n', ra, rl, rcap, D, by rw [d0, d1, d2, d3, d4, d5], inI_lit w0, inI_lit w1, inI_lit w2, inI_lit w3, inI_lit w4, e1, e3, e5, e6⟩
theorem open_kscript {fuel : Nat} {v : Value} {y : DataW H × List MemPlace} (h : DataW.trod enc Tryz.prog W 0 (fun _ => true) true fuel 27 [v] = some y) (hb : Rows.uptoBulk y.1 <= 1048576) :
  ∃ (a : Option Addr) (n cap : Nat), v = .slice a n cap /\ n <= 150000 /\ KScriptAt W W.heap.size a n := by
 rcases Go.Deep.open_slice Tryz.underlying27 h with ⟨hcs, _⟩ | ⟨a, len, cap, m, n, D, Pl, hcs, _, hl, _, hm, rfl, hx⟩
 ·exact ⟨none, 0, 0, by simpa using hcs, by omega, .inl rfl⟩
 ·simp only [if_true] at hm
  subst hm
  simp only [Rows.uptoBulk] at hb
  have hd : ∀ i, i < len -> Rows.uptoBulk (D i) <= 1048576 := fun i hi => by
   have := bulk_part (d := D i) (l := (List.range len).map D) (List.mem_map.2 ⟨i, by simpa using hi, rfl⟩)
   omega
  have h7 := bulk_times ((List.range len).map D) 7 (fun d hd' => by
   obtain ⟨i, hi, rfl⟩ := List.mem_map.1 hd'
   have hi' : i < len := by simpa using hi
   obtain ⟨cs', _, ht⟩ := hx i (by omega)
   exact (open_kstep ht (hd i hi')).1)
  simp only [List.length_map, List.length_range] at h7
  refine ⟨some a, len, m, by simpa using hcs, by omega, ?_⟩
  by_cases h0 : len = 0
  ·exact .inl h0
  right
  obtain ⟨b, off, spot⟩ := a
  rw [cellsKStep] at hx
  have hspot : spot = none := by
   obtain ⟨cs', hc, _⟩ := hx 0 (by omega)
   obtain ⟨_, hlen, hcell⟩ := World.cells?_some hc
   have h1 := hcell 0 (by omega)
   rw [List.getElem?_eq_getElem (by omega)] at h1
   simpa [Addr.add] using World.cell?_spot h1
  subst hspot
  have each : ∀ i, i < len -> ∃ cs : Array Value, KStepIs W W.heap.size cs /\ cs.size = 6 /\ ∀ j v, cs[j]? = some v -> W.cell? ⟨b, off + i * 6 + j, none⟩ = some v := fun i hi => by
   obtain ⟨cs', hc, ht⟩ := hx i (by omega)
   obtain ⟨_, hlen, hcell⟩ := World.cells?_some hc
   obtain ⟨_, kd, a, b', c, n', ra, rl, rcap, D', h1, h2, h3, h4, h5, h6, h7, h8, h9, h10⟩ := open_kstep ht (hd i hi)
   refine ⟨cs'.toArray, ⟨kd, a, b', c, n', ra, rl, rcap, D', by rw [h1], h2, h3, h4, h5, h6, h7, h8, h9, h10⟩, by simpa using hlen, fun j v hv => ?_⟩
   have hv' : cs'[j]? = some v := by simpa using hv
   have hj : j < 6 := by
    have := (List.getElem?_eq_some_iff.1 hv').1
    omega
   have := hcell j hj
   rw [add_at0, add_at0, hv'] at this
   exact this
  refine ⟨b, off, rfl, ?_, fun i hi => by obtain ⟨cs, h1, _, h3⟩ := each i hi; exact ⟨cs, h1, h3⟩⟩
  obtain ⟨cs, _, h2, h3⟩ := each 0 (by omega)
  exact lG W _ (h3 0 cs[0] (Array.getElem?_eq_getElem (by omega)))
end
end
-- VZb
section
open Go.ChangeShapes Go.WideShapes Go.ChangeAt Go.RowKit Go.Joins
theorem ownK : ownKnob Tryz.prog.godebug = none := by kernel_rfl
theorem laidOutK : laidOutB Tryz.prog = true := by kernel_rfl
theorem ext_of_turn {w w' : World} (h : Turn (fun b => w.heap.size <= b) w w') : Below w.heap.size w w' := ⟨h.os, h.tape, h.output, h.size, fun k hk => h.block k hk (by omega)⟩
end
-- VTo
section
open Go.RowKit Go.Maps
section
variable {S : List Stk} {ls : List LsV}
theorem lease_in (hI : InvQ S ls) {l : LsV} (hl : l ∈ ls) {p : Int} (hp : p = 0 \/ p = 1) : inB l.s 0 l.kd l.m l.k l.n l.f l.c p ((0 : Int) == 0) = true := by
 obtain ⟨h1, h2, h3, x, h4, h5⟩ := hI.toInvK.of l hl
 have h6 := hI.lok l hl
 unfold LsOk at h6
 have h7 := hI.made x (List.mem_of_find?_eq_some h4)
 simp [inB, isNum_iff, isByt_iff]
 omega
theorem same_lease (hI : InvQ S ls) {l l' : LsV} (hl : l ∈ ls) (hl' : l' ∈ ls) (hc : l'.kd = l.kd /\ l'.m = l.m /\ l'.k = l.k /\ l'.n = l.n) {num : Int} (h1 : l.f <= num /\ num < l.f + l.c) (h2 : l'.f <= num /\ num < l'.f + l'.c) : l' = l := by
 obtain ⟨a, ha, rfl⟩ := List.getElem_of_mem hl
 obtain ⟨b, hb, rfl⟩ := List.getElem_of_mem hl'
 rcases Nat.lt_trichotomy a b with h | h | h
 ·have := hI.toInvK.apart a b ha hb h ⟨hc.1.symm, hc.2.1.symm, hc.2.2.1.symm, hc.2.2.2.symm⟩
  omega
 ·subst h; rfl
 ·have := hI.toInvK.apart b a hb ha h hc
  omega
theorem told_held (hI : InvQ S ls) {l : LsV} (hl : l ∈ ls) (hr : l.r = false) {p : Int} (hp : p = 0 \/ p = 1) : ∃ x, S.find? (fun x => x.is l.kd l.m l.k l.n) = some x /\ ansS S ls 2 l.s 0 l.kd l.m l.k l.n l.f l.c p = ⟨0, l.f, l.c, fetched x p l.f.toNat l.c.toNat, none⟩ /\ (fetched x p l.f.toNat l.c.toNat).length = l.c.toNat * (x.sh.x + x.sh.y + x.sh.z) := by
 obtain ⟨h1, h2, h3, x, h4, h5⟩ := hI.toInvK.of l hl
 have hm := hI.made x (List.mem_of_find?_eq_some h4)
 have hheld : ∀ i : Nat, i < l.c.toNat -> ls.any (holdsP l.s l.kd l.m l.k l.n (l.f + i)) = true := fun i hi => by
  refine List.any_eq_true.2 ⟨l, hl, ?_⟩
  simp [holdsP, hr]
  omega
 have hcode : fetchCode ls l.s l.kd l.m l.k l.n l.f l.c p = 0 := by
  unfold fetchCode
  rw [if_neg (by omega), if_neg (by omega), if_pos]
  intro i hi
  rw [heldQ_eq hI]
  exact hheld i hi
 refine ⟨x, h4, ?_, ?_⟩
 ·unfold ansS
  rw [if_neg (by decide), if_pos rfl, if_pos (lease_in hI hl hp), h4]
  simp only
  rw [if_neg (by omega), if_neg (by omega), if_pos hcode]
 ·have hok := hI.toInvK.stkOk (List.mem_of_find?_eq_some h4)
  refine fetched_len (c := l.c.toNat) (fun j hj => ?_) _ (Nat.le_refl _)
  have hjl : l.f.toNat + j < x.ts.length := by omega
  refine shareK_len hok hjl (heldQ_kept (ss := l.s) hI h4 hjl ?_) rfl
  have := hheld j hj
  rw [show ((l.f.toNat + j : Nat) : Int) = l.f + j by omega]
  exact this
theorem told_gone (hI : InvQ S ls) {l : LsV} (hl : l ∈ ls) (hr : l.r = true) {p : Int} (hp : p = 0 \/ p = 1) : ansS S ls 2 l.s 0 l.kd l.m l.k l.n l.f l.c p = .code 8 := by
 obtain ⟨h1, h2, h3, x, h4, h5⟩ := hI.toInvK.of l hl
 have hno : ls.any (holdsP l.s l.kd l.m l.k l.n (l.f + (0 : Nat))) = false := by
  rw [List.any_eq_false]
  intro l' hl' hh
  simp [holdsP] at hh
  have e := same_lease hI hl hl' ⟨hh.2.1.1, hh.2.1.2.1, hh.2.1.2.2.1, hh.2.1.2.2.2⟩ (num := l.f) (by omega) (by omega)
  rw [e, hr] at hh
  simp at hh
 have hcode : fetchCode ls l.s l.kd l.m l.k l.n l.f l.c p = 8 := by
  unfold fetchCode
  rw [if_neg (by omega), if_neg (by omega), if_neg]
  intro h
  have := h 0 (by omega)
  rw [heldQ_eq hI, hno] at this
  cases this
 unfold ansS
 rw [if_neg (by decide), if_pos rfl, if_pos (lease_in hI hl hp), h4]
 simp only
 rw [if_neg (by omega), if_neg (by omega), if_neg (by rw [hcode]; decide)]
end
end
-- VTc
section
open Go.RowKit Go.Maps
def Asked (w w' : World) (B : Nat) (F : Nat -> Prop) (d : DS) : Prop := ∃ F', DealX w' B F' d /\ Turn F w w' /\ ∀ b, F' b -> F b \/ w.heap.size <= b
theorem told_ask {d : DS} (hg : d.Good) {l : LsV} (hl : l ∈ d.ls) {p : Int} (hp : p = 0 \/ p = 1) : ∃ x, x ∈ d.S /\ (x.kd : Int) = l.kd /\ (x.m : Int) = l.m /\ (x.k : Int) = l.k /\ (x.n : Int) = l.n /\ ∃ c0 f0 n0 zs, d.ask 2 l.s 0 l.kd l.m l.k l.n l.f l.c p = (⟨c0, f0, n0, zs⟩, d) /\ (l.r = false -> c0 = 0 /\ zs.length = l.c.toNat * (x.sh.x + x.sh.y + x.sh.z)) /\ (l.r = true -> c0 = 8) := by
 obtain ⟨x, hx⟩ := hg.inv.has l hl
 have hxi : x.is l.kd l.m l.k l.n = true := by simpa using List.find?_some hx
 obtain ⟨e1, e2, e3, e4⟩ := is_eqs hxi
 refine ⟨x, List.mem_of_find?_eq_some hx, e1, e2, e3, e4, ?_⟩
 cases hr : l.r with
 | true =>
  refine ⟨8, 0, 0, [], ?_, fun h => (by cases h), fun _ => rfl⟩
  unfold DS.ask
  rw [told_gone hg.inv hl hr hp]
  rfl
 | false =>
  obtain ⟨y, hy, h1, h2⟩ := told_held hg.inv hl hr hp
  rw [hx] at hy
  injection hy with hy
  subst hy
  refine ⟨0, l.f, l.c, _, ?_, fun _ => ⟨rfl, h2⟩, fun h => (by cases h)⟩
  unfold DS.ask
  rw [h1]
  rfl
end
-- VAp
section
open Go.RowKit Go.Maps
theorem filter_split (xs : List Nat) (P Q : Nat -> Bool) : (xs.filter P).length <= (xs.filter Q).length + (xs.filter (fun j => P j && !Q j)).length := by
 induction xs with
 | nil => simp
 | cons x t ih =>
  simp only [List.filter_cons]
  cases P x <;> cases Q x <;> simp <;> omega
theorem filter_span (f c : Int) (hc : 0 <= c) (n : Nat) : (((List.range n).filter (fun j : Nat => decide (f <= (j : Int)) && decide ((j : Int) < f + c))).length : Int) <= if (n : Int) <= f then 0 else if (n : Int) < f + c then n - f else c := by
 induction n with
 | zero => simp; split <;> (try split) <;> omega
 | succ n ih =>
  rw [List.range_succ, List.filter_append, List.length_append]
  have h1 : ([n].filter (fun j : Nat => decide (f <= (j : Int)) && decide ((j : Int) < f + c))).length = if f <= (n : Int) /\ (n : Int) < f + c then 1 else 0 := by
   by_cases h : f <= (n : Int) /\ (n : Int) < f + c
   ·rw [if_pos h]; simp [h.1, h.2]
   ·rw [if_neg h]
    have h2 : (decide (f <= (n : Int)) && decide ((n : Int) < f + c)) = false := by
     cases h3 : (decide (f <= (n : Int)) && decide ((n : Int) < f + c))
     ·rfl
     ·simp at h3; exact absurd h3 h
    simp only [List.filter_cons, h2]
    simp
  rw [h1]
  split at ih <;> (try split at ih) <;> split <;> (try split) <;> (try split) <;> omega
theorem filter_span' (f c : Int) (hc : 0 <= c) (n : Nat) : (((List.range n).filter (fun j : Nat => decide (f <= (j : Int)) && decide ((j : Int) < f + c))).length : Int) <= c := by
 have := filter_span f c hc n
 split at this <;> (try split at this) <;> omega
theorem cover_count (n : Nat) (L : List (Int × Int)) (hc : ∀ q ∈ L, 0 <= q.2) (P : Nat -> Bool) (h : ∀ j, j < n -> P j = true -> ∃ q ∈ L, q.1 <= (j : Int) /\ (j : Int) < q.1 + q.2) : (((List.range n).filter P).length : Int) <= (L.map (·.2)).sum := by
 induction L generalizing P with
 | nil =>
  have : (List.range n).filter P = [] := by
   rw [List.filter_eq_nil_iff]
   intro j hj hp
   obtain ⟨q, hq, _⟩ := h j (List.mem_range.1 hj) hp
   simp at hq
  rw [this]; simp
 | cons q t ih =>
  have h1 := filter_split (List.range n) P (fun j : Nat => decide (q.1 <= (j : Int)) && decide ((j : Int) < q.1 + q.2))
  have h2 := filter_span' q.1 q.2 (hc q (by simp)) n
  have h3 := ih (fun p hp => hc p (by simp [hp])) (fun j : Nat => P j && !(decide (q.1 <= (j : Int)) && decide ((j : Int) < q.1 + q.2))) (fun j hj hp => by
   simp only [Bool.and_eq_true] at hp
   obtain ⟨p, hpm, hp1⟩ := h j hj hp.1
   rcases List.mem_cons.1 hpm with rfl | hpm
   ·have := hp.2
    simp [hp1.1, hp1.2] at this
   ·exact ⟨p, hpm, hp1⟩)
  simp only [List.map_cons, List.sum_cons]
  omega
def goneK (kd m k n : Int) (ls : List LsV) : Int := ((ls.filter (fun l => l.r && sameC l kd m k n)).map (fun l => l.c)).sum
theorem goneK_snoc (kd m k n : Int) (ls : List LsV) (l : LsV) : goneK kd m k n (ls ++ [l]) = goneK kd m k n ls + if l.r && sameC l kd m k n then l.c else 0 := by
 unfold goneK
 rw [List.filter_append, List.map_append, List.sum_append]
 simp only [List.filter_cons, List.filter_nil]
 split <;> simp
theorem filter_count {α : Type} (ts : List α) (p : α -> Bool) (a : α) : (ts.filter p).length + ((List.range ts.length).filter (fun j => !p (ts.getD j a))).length = ts.length := by
 have h1 : ∀ l : List α, ((List.range l.length).filter (fun j => !p (l.getD j a))).length = (l.filter (fun x => !p x)).length := fun l => by
  induction l with
  | nil => rfl
  | cons x t ih =>
   rw [List.length_cons, List.range_succ_eq_map, List.filter_cons, List.filter_map, List.filter_cons]
   simp only [List.getD_cons_zero]
   have e : ((fun j => !p ((x :: t).getD j a)) ∘ Nat.succ) = fun j => !p (t.getD j a) := by funext j; simp
   rw [e]
   split
   ·rw [List.length_cons, List.length_cons, List.length_map, ih]
   ·rw [List.length_map, ih]
 rw [h1]
 induction ts with
 | nil => rfl
 | cons x t ih =>
  simp only [List.filter_cons]
  cases p x <;> simp <;> omega
theorem gone_le {S : List Stk} {ls : List LsV} (hI : InvQ S ls) {x : Stk} (hx : x ∈ S) : (x.ts.length : Int) - (x.ts.filter (·.2)).length <= goneK x.kd x.m x.k x.n ls := by
 have h1 := filter_count x.ts (fun t => t.2) ([], true)
 have h2 := cover_count x.ts.length ((ls.filter (fun l => l.r && sameC l x.kd x.m x.k x.n)).map (fun l => (l.f, l.c))) (fun q hq => by
  obtain ⟨l, hl, rfl⟩ := List.mem_map.1 hq
  have := hI.cnt l (List.mem_filter.1 hl).1
  show 0 <= l.c
  omega) (fun j => !(x.ts.getD j ([], true)).2) (fun j hj hp => by
  have e : x.ts.getD j ([], true) = x.ts[j] := by rw [List.getD_eq_getElem?_getD, List.getElem?_eq_getElem hj]; rfl
  simp only [e, Bool.not_eq_true'] at hp
  obtain ⟨l, hl, h1, h2, h3, h4⟩ := hI.kept x hx j hj hp
  refine ⟨(l.f, l.c), List.mem_map.2 ⟨l, List.mem_filter.2 ⟨hl, ?_⟩, rfl⟩, h3, h4⟩
  obtain ⟨e1, e2, e3, e4⟩ := is_eqs h2
  rw [h1, Bool.true_and]
  exact sameC_iff.2 ⟨e1.symm, e2.symm, e3.symm, e4.symm⟩)
 have e : ((ls.filter (fun l => l.r && sameC l x.kd x.m x.k x.n)).map (fun l => (l.f, l.c))).map (·.2) = (ls.filter (fun l => l.r && sameC l x.kd x.m x.k x.n)).map (fun l => l.c) := by rw [List.map_map]; rfl
 rw [e] at h2
 unfold goneK
 omega
end
-- VAq
section
open Go.RowKit Go.Maps
theorem stocks_cells {w : World} {g n cap : Nat} {S : List Stk} (h : w.ownsRow 0 116 7 (.slice (some ⟨g, 0, none⟩) n cap) n (toldAll S)) (j : Nat) (hj : j < S.length) :
  w.cell? ⟨g, j * 7, none⟩ = some (.int .i64 S[j].kd) /\ w.cell? ⟨g, j * 7 + 1, none⟩ = some (.int .i64 S[j].m) /\ w.cell? ⟨g, j * 7 + 2, none⟩ = some (.int .i64 S[j].k) /\ w.cell? ⟨g, j * 7 + 3, none⟩ = some (.int .i64 S[j].n) /\ w.cell? ⟨g, j * 7 + 4, none⟩ = some (.int .i64 S[j].ts.length) /\ w.cell? ⟨g, j * 7 + 5, none⟩ = some (.int .i64 S[j].leased) /\ w.cell? ⟨g, j * 7 + 6, none⟩ = some (.int .i64 (S[j].ts.filter (·.2)).length) := by
 have key : ∀ i v, i < 7 -> S[j].told[i]? = some v -> w.cell? ⟨g, j * 7 + i, none⟩ = some v := fun i v hi hv => owns_cell h ((toldAll_at S j i hj hi).trans hv)
 exact ⟨key 0 _ (by omega) rfl, key 1 _ (by omega) rfl, key 2 _ (by omega) rfl, key 3 _ (by omega) rfl, key 4 _ (by omega) rfl, key 5 _ (by omega) rfl, key 6 _ (by omega) rfl⟩
theorem sumK_snoc {kd m k n : Int} {ls : List LsV} (i : Nat) (hi : i < ls.length) : sumK kd m k n (ls.take (i + 1)) = sumK kd m k n (ls.take i) + if sameC ls[i] kd m k n then ls[i].c else 0 := by
 rw [List.take_succ_eq_append_getElem hi, sumK_append]
 simp [sumK]
theorem goneK_take {kd m k n : Int} {ls : List LsV} (i : Nat) (hi : i < ls.length) : goneK kd m k n (ls.take (i + 1)) = goneK kd m k n (ls.take i) + if ls[i].r && sameC ls[i] kd m k n then ls[i].c else 0 := by
 rw [List.take_succ_eq_append_getElem hi, goneK_snoc]
theorem goneK_nonneg {kd m k n : Int} {ls : List LsV} (h : ∀ l ∈ ls, 0 <= l.c) (i : Nat) : 0 <= goneK kd m k n (ls.take i) := by
 induction i with
 | zero => simp [goneK]
 | succ i ih =>
  by_cases hi : i < ls.length
  ·rw [goneK_take i hi]
   have := h _ (List.getElem_mem hi)
   split <;> omega
  ·rw [List.take_of_length_le (by omega)] at ih ⊢
   exact ih
theorem goneK_sum {kd m k n : Int} {ls : List LsV} (h : ∀ l ∈ ls, 0 <= l.c) (i : Nat) (hi : i <= ls.length) : goneK kd m k n (ls.take i) <= sumK kd m k n (ls.take i) := by
 induction i with
 | zero => simp [goneK, sumK]
 | succ i ih =>
  rw [goneK_take i (by omega), sumK_snoc i (by omega)]
  have := ih (by omega)
  have := h _ (List.getElem_mem (show i < ls.length by omega))
  cases hs : sameC ls[i] kd m k n <;> simp
  ·omega
  ·split <;> omega
end
end Go.Proofs.YtmnjhhachdlmkaaGreat
