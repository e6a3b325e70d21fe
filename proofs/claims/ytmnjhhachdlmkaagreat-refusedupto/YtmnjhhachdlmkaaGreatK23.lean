import Derived.Test.YtmnjhhachdlmkaaGreatK22
namespace Go.Proofs.YtmnjhhachdlmkaaGreat
set_option linter.unusedVariables false
set_option linter.unusedSimpArgs false
open List renaming getElem_toArray -> lA, getElem_cons_succ -> lB, getElem_cons_zero -> lC, setIfInBounds_toArray -> lD, set_cons_zero -> lE, set_cons_succ -> lF
open World renaming block_lt_of_cell? -> lG
-- Help2
section
open Go.RowKit
theorem zR {P : Program} {ops : Array Oper} {Q : Exit → Act → World → Prop} {md : Region.Mode} {S : World → Prop} (i : Nat) {o : Oper} {fuel : Nat} {listed : Array Bool} {a : Act} {w : World} (h : ∀ K' : Act → World → Prop, Shut (∀ a w, S w → (S w → wpAnyH P md ops Q S fuel (listed.setIfInBounds i true) a w) → K' a w) → if Region.wanted o (yielded ops a.tmps) = true then Oper.wp P o a w K' Q else K' (a.put o.dst undef) w) (ho : ops[i]? = some o := by rfl) (hr : Region.ready md ops listed = [i] := by kernel_rfl) : wpAnyH P md ops Q S (fuel + 1) listed a w :=
  wpAnyH_ready hr (by simp) (AllReadyH.cons ho h AllReadyH.nil)
end
-- VRf
section
set_option maxRecDepth 100000
set_option maxHeartbeats 16000000
open Go.RowKit Go.Maps
def refRow (far : Int) : Array Value := #[.int .i64 0, .int .i64 0, .int .i64 0, .int .i64 0, .int .i64 0, .int .i64 0, .int .i64 0, .int .i64 0, .int .i64 0, .int .i64 0, .int .i64 5, .int .i64 0, .int .i64 0, .int .i64 0, .int .i64 0, .int .i64 0, .int .i64 0, .int .i64 0, .int .i64 0, .int .i64 0, .int .i64 1, .int .i64 far, .int .i64 0, .int .i64 0, .int .i64 1, .int .i64 1, .int .i64 1, .int .i64 0, .int .i64 1, .int .i64 0, .int .i64 1, .int .i64 90, .int .i64 0, .int .i64 0, .int .i64 1, .int .i64 1, .int .i64 1, .int .i64 0, .int .i64 0, .int .i64 0, .int .i64 1, .int .i64 90, .int .i64 0, .int .i64 0, .int .i64 1, .int .i64 1, .int .i64 1, .int .i64 0, .int .i64 41, .int .i64 0, .int .i64 1, .int .i64 90, .int .i64 0, .int .i64 7, .int .i64 0, .int .i64 0, .int .i64 0, .int .i64 0, .int .i64 1, .int .i64 0, .int .i64 2, .int .i64 90, .int .i64 0, .int .i64 0, .int .i64 1, .int .i64 1, .int .i64 1, .int .i64 0, .int .i64 1, .int .i64 2, .int .i64 2, .int .i64 90, .int .i64 0, .int .i64 0, .int .i64 1, .int .i64 1, .int .i64 1, .int .i64 0, .int .i64 1, .int .i64 0, .int .i64 3, .int .i64 90, .int .i64 1, .int .i64 0, .int .i64 0, .int .i64 0, .int .i64 0, .int .i64 0, .int .i64 0, .int .i64 0, .int .i64 4, .int .i64 0, .int .i64 0, .int .i64 0, .int .i64 1, .int .i64 1, .int .i64 1, .int .i64 0, .int .i64 0, .int .i64 1]
theorem cut_rf {P : Prop} {K : Act -> World -> Prop} (act : Nat -> Act) (I : Nat -> World -> Prop) (h1 : (∀ lb V, I lb V -> K (act lb) V) -> P) (h2 : ∀ lb V, I lb V -> K (act lb) V) : P := h1 h2
theorem cut_st {P : Prop} {w : World} {t : TypeId} {cs : Array Value} {X : Nat -> World -> Prop} (h1 : (∀ lb V, Ext w V /\ w.heap.size <= lb /\ V.heap[lb]? = some (.cells cs t (0, 0)) -> X lb V) -> P) (h2 : ∀ lb V, Ext w V /\ w.heap.size <= lb /\ V.heap[lb]? = some (.cells cs t (0, 0)) -> X lb V) : P := h1 h2
theorem st_new {w y z : World} {lb : Nat} {o : Obj} (h : Ext w z) (hl : w.heap.size <= y.heap.size) (he : y.heap.size = lb) (hz : z.heap[y.heap.size]? = some o) : Ext w z /\ w.heap.size <= lb /\ z.heap[lb]? = some o := he ▸ ⟨h, hl, hz⟩
theorem ext_row {w V : World} (h : Ext w V) {b : Nat} (hb : w.heap.size <= b) (cs : Array Value) : Ext w (V.setRow b cs) := by
 exact below_setRow h hb cs
def refErr : Array Value := #[.int .i64 1, .int .i64 1, .int .i64 1, .int .i64 5, .int .i64 5, .int .i64 2, .int .i64 9, .int .i64 8, .int .i64 8, .int .i64 1]
structure RfAt (w wr : World) (B : Nat) (F F' : Nat -> Prop) (d : DS) (lb eb : Nat) (far : Int) : Prop where
 deal : DealX wr B F' d
 turn : Turn F w wr
 grows : ∀ b, F' b -> F b \/ w.heap.size <= b
 row : wr.heap[lb]? = some (.cells (refRow far) 139 (0, 0))
 err : wr.heap[eb]? = some (.cells refErr 140 (0, 0))
 f1 : ¬ F' lb
 f2 : ¬ F' eb
theorem RfAt.ext {w wr w' : World} {B : Nat} {F F' : Nat -> Prop} {d : DS} {lb eb : Nat} {far : Int} (h : RfAt w wr B F F' d lb eb far) (hx : Ext wr w') : RfAt w w' B F F' d lb eb far :=
 ⟨h.deal.ext hx, h.turn.trans (Turn.of_ext hx), h.grows, hx.block h.row, hx.block h.err, h.f1, h.f2⟩
theorem RfAt.next {w wr V : World} {B : Nat} {F F' Fn : Nat -> Prop} {d : DS} {lb eb : Nat} {far : Int} {r : Rep} {rv : Value} (h : RfAt w wr B F F' d lb eb far) (a : XSo (r, d) wr V B F' rv Fn) : RfAt w V B F Fn d lb eb far := by
 have hl := (Array.getElem?_eq_some_iff.1 h.row).1
 have he := (Array.getElem?_eq_some_iff.1 h.err).1
 have hs := h.turn.size
 refine ⟨a.deal, h.turn.trans' a.turn (fun b hb hf => ?_), fun b hb => ?_, a.turn.ref h.row h.f1, a.turn.ref h.err h.f2, fun hb => ?_, fun hb => ?_⟩
 ·rcases h.grows b hf with h' | h'
  ·exact h'
  ·omega
 ·rcases a.grows b hb with h' | h'
  ·exact h.grows b h'
  ·exact .inr (by omega)
 ·rcases a.grows lb hb with h' | h'
  ·exact h.f1 h'
  ·omega
 ·rcases a.grows eb hb with h' | h'
  ·exact h.f2 h'
  ·omega
theorem rf_start {w w1 V : World} {B : Nat} {F : Nat -> Prop} {d : DS} {lb eb : Nat} {far : Int} (hd : DealX w B F d) (h1 : Ext w w1) (h2 : Ext w1 V) (hl : w1.heap.size <= lb) (hr : V.heap[lb]? = some (.cells (refRow far) 139 (0, 0))) (he : V.heap.size = eb) : RfAt w (V.alloc (.cells refErr 140)) B F F d lb eb far := by
 have hx : Ext w (V.alloc (.cells refErr 140)) := (h1.trans h2).alloc _
 have l1 := h1.le
 have l2 := h2.le
 subst he
 exact ⟨hd.ext hx, Turn.of_ext hx, fun b hb => .inl hb, at_old hr, heap_alloc_new _ _, fun hf => by have := hd.lt _ hf; omega, fun hf => by have := hd.lt _ hf; omega⟩
theorem ref_at {W : World} {lb eb : Nat} {t u : TypeId} {far : Int} {d : DS} (h : W.heap[lb]? = some (.cells (refRow far) t (0, 0))) (h2 : W.heap[eb]? = some (.cells refErr u (0, 0))) (hA : Ref d 1 0 0 0 0 0 0 0 0 0 0 /\ Ref d 1 5 0 0 0 0 0 0 0 0 0 /\ Ref d 1 1 far 0 0 1 1 1 0 1 0 /\ Ref d 5 1 90 0 0 1 1 1 0 0 0 /\ Ref d 5 1 90 0 0 1 1 1 0 41 0 /\ Ref d 2 1 90 0 7 0 0 0 0 1 0 /\ Ref d 9 2 90 0 0 1 1 1 0 1 2 /\ Ref d 8 2 90 0 0 1 1 1 0 1 0 /\ Ref d 8 3 90 1 0 0 0 0 0 0 0 /\ Ref d 1 4 0 0 0 1 1 1 0 0 1) {j : Nat} (hj : j < 10) :
  ∃ code kk s i kd m k n f c p : Int, Ref d code kk s i kd m k n f c p /\ W.cell? ⟨eb, j, none⟩ = some (.int .i64 code) /\ W.cell? ⟨lb, j * 10, none⟩ = some (.int .i64 kk) /\ W.cell? ⟨lb, j * 10 + 1, none⟩ = some (.int .i64 s) /\ W.cell? ⟨lb, j * 10 + 2, none⟩ = some (.int .i64 i) /\ W.cell? ⟨lb, j * 10 + 3, none⟩ = some (.int .i64 kd) /\ W.cell? ⟨lb, j * 10 + 4, none⟩ = some (.int .i64 m) /\ W.cell? ⟨lb, j * 10 + 5, none⟩ = some (.int .i64 k) /\ W.cell? ⟨lb, j * 10 + 6, none⟩ = some (.int .i64 n) /\ W.cell? ⟨lb, j * 10 + 7, none⟩ = some (.int .i64 f) /\ W.cell? ⟨lb, j * 10 + 8, none⟩ = some (.int .i64 c) /\ W.cell? ⟨lb, j * 10 + 9, none⟩ = some (.int .i64 p) := by
 have e (q : Nat) (v : Value) (hv : refErr[q]? = some v) : W.cell? ⟨eb, q, none⟩ = some v := (cell_of_row W _ q _ _ _ h2).trans hv
 have r (q : Nat) (v : Value) (hv : (refRow far)[q]? = some v) : W.cell? ⟨lb, q, none⟩ = some v := (cell_of_row W _ q _ _ _ h).trans hv
 match j, hj with
 | 0, _ => exact ⟨1, 0, 0, 0, 0, 0, 0, 0, 0, 0, 0, hA.1, e _ _ rfl, r _ _ rfl, r _ _ rfl, r _ _ rfl, r _ _ rfl, r _ _ rfl, r _ _ rfl, r _ _ rfl, r _ _ rfl, r _ _ rfl, r _ _ rfl⟩
 | 1, _ => exact ⟨1, 5, 0, 0, 0, 0, 0, 0, 0, 0, 0, hA.2.1, e _ _ rfl, r _ _ rfl, r _ _ rfl, r _ _ rfl, r _ _ rfl, r _ _ rfl, r _ _ rfl, r _ _ rfl, r _ _ rfl, r _ _ rfl, r _ _ rfl⟩
 | 2, _ => exact ⟨1, 1, far, 0, 0, 1, 1, 1, 0, 1, 0, hA.2.2.1, e _ _ rfl, r _ _ rfl, r _ _ rfl, r _ _ rfl, r _ _ rfl, r _ _ rfl, r _ _ rfl, r _ _ rfl, r _ _ rfl, r _ _ rfl, r _ _ rfl⟩
 | 3, _ => exact ⟨5, 1, 90, 0, 0, 1, 1, 1, 0, 0, 0, hA.2.2.2.1, e _ _ rfl, r _ _ rfl, r _ _ rfl, r _ _ rfl, r _ _ rfl, r _ _ rfl, r _ _ rfl, r _ _ rfl, r _ _ rfl, r _ _ rfl, r _ _ rfl⟩
 | 4, _ => exact ⟨5, 1, 90, 0, 0, 1, 1, 1, 0, 41, 0, hA.2.2.2.2.1, e _ _ rfl, r _ _ rfl, r _ _ rfl, r _ _ rfl, r _ _ rfl, r _ _ rfl, r _ _ rfl, r _ _ rfl, r _ _ rfl, r _ _ rfl, r _ _ rfl⟩
 | 5, _ => exact ⟨2, 1, 90, 0, 7, 0, 0, 0, 0, 1, 0, hA.2.2.2.2.2.1, e _ _ rfl, r _ _ rfl, r _ _ rfl, r _ _ rfl, r _ _ rfl, r _ _ rfl, r _ _ rfl, r _ _ rfl, r _ _ rfl, r _ _ rfl, r _ _ rfl⟩
 | 6, _ => exact ⟨9, 2, 90, 0, 0, 1, 1, 1, 0, 1, 2, hA.2.2.2.2.2.2.1, e _ _ rfl, r _ _ rfl, r _ _ rfl, r _ _ rfl, r _ _ rfl, r _ _ rfl, r _ _ rfl, r _ _ rfl, r _ _ rfl, r _ _ rfl, r _ _ rfl⟩
 | 7, _ => exact ⟨8, 2, 90, 0, 0, 1, 1, 1, 0, 1, 0, hA.2.2.2.2.2.2.2.1, e _ _ rfl, r _ _ rfl, r _ _ rfl, r _ _ rfl, r _ _ rfl, r _ _ rfl, r _ _ rfl, r _ _ rfl, r _ _ rfl, r _ _ rfl, r _ _ rfl⟩
 | 8, _ => exact ⟨8, 3, 90, 1, 0, 0, 0, 0, 0, 0, 0, hA.2.2.2.2.2.2.2.2.1, e _ _ rfl, r _ _ rfl, r _ _ rfl, r _ _ rfl, r _ _ rfl, r _ _ rfl, r _ _ rfl, r _ _ rfl, r _ _ rfl, r _ _ rfl, r _ _ rfl⟩
 | 9, _ => exact ⟨1, 4, 0, 0, 0, 1, 1, 1, 0, 0, 1, hA.2.2.2.2.2.2.2.2.2, e _ _ rfl, r _ _ rfl, r _ _ rfl, r _ _ rfl, r _ _ rfl, r _ _ rfl, r _ _ rfl, r _ _ rfl, r _ _ rfl, r _ _ rfl, r _ _ rfl⟩
def outN (c n : Int) : Int := if 0 <= c /\ c < n then n + c else c
theorem outside_c (c n : Int) (hc : inI c) (hn : 0 <= n /\ n <= 2147483648) (w : World) : Calls Tryz.prog 36 #[.int .i64 c, .int .i64 n] w fun e w' => e = .returned (.int .i64 (outN c n)) /\ Ext w w' := by
 unfold inI at hc
 by_cases h : 0 <= c /\ c < n
 ·have e : outN c n = n + c := by unfold outN; rw [if_pos h]
  rw [e]
  obtain ⟨h1, h2⟩ := h
  have hw : IntKind.i64.wrap (n + c) = n + c := by rw [IntKind.wrap_i64]; omega
  have hw2 : wrap64 (n + c) = n + c := by rw [show ∀ z : Int, wrap64 z = IntKind.i64.wrap z from fun z => by rw [IntKind.wrap_i64, wrap64]]; exact hw
  clear e hc
  go_enter Tryz.func36, Tryz.ntmps36
  go_wp2_with fail
  go_ret
  exact ⟨rfl, Ext.refl _⟩
 ·have e : outN c n = c := by unfold outN; rw [if_neg h]
  rw [e]
  clear e hc
  by_cases h1 : 0 <= c
  ·have h2 : ¬ c < n := fun h' => h ⟨h1, h'⟩
   clear h
   go_enter Tryz.func36, Tryz.ntmps36
   go_wp2_with fail
   go_ret
   exact ⟨rfl, Ext.refl _⟩
  ·clear h
   go_enter Tryz.func36, Tryz.ntmps36
   go_wp2_with fail
   go_ret
   exact ⟨rfl, Ext.refl _⟩
theorem outN_far (c n : Int) (hn : 0 <= n) : outN c n < 0 \/ n <= outN c n := by
 unfold outN
 split
 ·omega
 ·omega
theorem refusing_c {B : Nat} {F : Nat -> Prop} {d : DS} (hg : d.Good) (ho : d.ops.length <= 1000000) (hK : Keep4 d) (hx : ∃ x, d.S.find? (fun x => x.is 0 1 1 1) = some x) (n : Int) (hn : inI n) (w : World) (hd : DealX w B F d) :
  Calls Tryz.prog 37 #[.pointer (some ⟨B, 0, none⟩), .int .i64 n, clsV 0 1 1 1] w fun e w' => e = .returned (.bool true) /\ Asked w w' B F d := by
 have HO : Hid (∀ w, _) := fun w => outside_c n 2147483648 hn (by decide) w
 have hfar := outN_far n 2147483648 (by decide)
 generalize outN n 2147483648 = far at *
 have HAll : Hid _ := refused_all hK hx far (by omega)
 have HD : Hid (DealX w B F d) := hd
 have HG : Hid (d.Good /\ d.ops.length <= 1000000) := ⟨hg, ho⟩
 have HLs : Hid (∀ (s i kd m k n c : Int) (w : World), _) := fun s i kd m k n c w => keepLease_c s i kd m k n c w
 have HFe : Hid (∀ (s kd m k n f c p : Int) (w : World), _) := fun s kd m k n f c p w => keepFetch_c s kd m k n f c p w
 have HRl : Hid (∀ (s i : Int) (w : World), _) := fun s i w => keepRelease_c s i w
 clear hg ho hK hx hn hd
 unfold clsV reqV at *
 go_enter Tryz.func37, Tryz.ntmps37
 go_wp2_with fail
 refine (HO.out _).mono ?_
 rintro e w1 ⟨rfl, hx1⟩
 have hrow := heap_alloc_new w (.cells #[.int .i64 0, .int .i64 1, .int .i64 1, .int .i64 1] 49)
 have hrow1 := hx1.block hrow
 have HX1 : Hid (Ext w w1) := ((Ext.refl w).alloc _).trans hx1
 obtain ⟨cb, hcb⟩ : ∃ cb, w.heap.size = cb := ⟨_, rfl⟩
 rw [hcb] at hrow1 ⊢
 have c0 := cell_at hrow1 (i := 0) rfl
 have c1 := cell_at hrow1 (i := 1) rfl
 have c2 := cell_at hrow1 (i := 2) rfl
 have c3 := cell_at hrow1 (i := 3) rfl
 have hcl := lG w1 _ c0
 clear hrow hrow1 hcb hx1
 have SD : Hid (∀ W2, Ext w1 W2 -> (fun w' => w'.cell? ⟨cb, 0, none⟩ = some (.int .i64 0) /\ w'.cell? ⟨cb, 1, none⟩ = some (.int .i64 1) /\ w'.cell? ⟨cb, 2, none⟩ = some (.int .i64 1) /\ w'.cell? ⟨cb, 3, none⟩ = some (.int .i64 1)) W2) := fun W2 h => ⟨h.cell c0, h.cell c1, h.cell c2, h.cell c3⟩
 go_wp2_with fail
 apply cut_rf (K := by assumption) (I := fun lb V => Ext w1 V /\ w1.heap.size <= lb /\ V.heap[lb]? = some (.cells (refRow far) 139 (0, 0)))
 ·intro HC
  apply cut_st (w := w1) (t := 139) (cs := Tryz.zeroCells139)
  ·intro HA7
   apply cut_st (w := w1) (t := 139) (cs := Tryz.zeroCells139)
   ·intro HA6
    apply cut_st (w := w1) (t := 139) (cs := Tryz.zeroCells139)
    ·intro HA5
     apply cut_st (w := w1) (t := 139) (cs := Tryz.zeroCells139)
     ·intro HA4
      apply cut_st (w := w1) (t := 139) (cs := Tryz.zeroCells139)
      ·intro HA3
       apply cut_st (w := w1) (t := 139) (cs := Tryz.zeroCells139)
       ·intro HA2
        apply cut_st (w := w1) (t := 139) (cs := Tryz.zeroCells139)
        ·intro HA1
         apply cut_st (w := w1) (t := 139) (cs := Tryz.zeroCells139)
         ·intro HA0
          refine wp_region_held_drew (S := ((fun w' => w'.cell? ⟨cb, 0, none⟩ = some (.int .i64 0) /\ w'.cell? ⟨cb, 1, none⟩ = some (.int .i64 1) /\ w'.cell? ⟨cb, 2, none⟩ = some (.int .i64 1) /\ w'.cell? ⟨cb, 3, none⟩ = some (.int .i64 1)))) (by kernel_rfl) ⟨c0, c1, c2, c3⟩ (fun hHeld => ?_)
          refine zT 0 hHeld ?_
          refine zT 1 hHeld ?_
          refine zT 2 hHeld ?_
          refine zT 3 hHeld ?_
          refine zT 5 hHeld ?_
          refine zT 7 hHeld ?_
          refine zT 9 hHeld ?_
          refine zT 11 hHeld ?_
          refine zT 13 hHeld ?_
          refine zT 16 hHeld ?_
          refine zT 17 hHeld ?_
          refine wpAnyH_ready (rs := [4, 19]) (by kernel_rfl) (by simp) ?_
          refine AllReadyH.cons (o := _) rfl (fun K hK => ?_) (AllReadyH.cons (o := _) rfl (fun K hK => ?_) AllReadyH.nil)
          ·skip
           (try simp only [lA, lB, lC])
           go_simp
           refine (HLs.out far 0 0 1 1 1 1 _).mono ?_
           rintro e y0 ⟨rfl, hy⟩
           have HY0 : Hid (Ext w1 y0) := (Ext.drew (Ext.refl _)).trans hy
           clear hy
           refine hK.out _ _ (SD.out _ HY0.out) (fun hHeld => ?_)
           clear hK K
           try simp only [Act.put, lA, lB, lC, lD, lE, lF]
           refine wpAnyH_ready (rs := [6, 19]) (by kernel_rfl) (by simp) ?_
           refine AllReadyH.cons (o := _) rfl (fun K hK => ?_) (AllReadyH.cons (o := _) rfl (fun K hK => ?_) AllReadyH.nil)
           ·skip
            (try simp only [lA, lB, lC])
            go_simp
            refine (HLs.out 90 0 0 1 1 1 0 _).mono ?_
            rintro e y1 ⟨rfl, hy⟩
            have HY1 : Hid (Ext w1 y1) := (HY0.out).trans hy
            clear hy
            refine hK.out _ _ (SD.out _ HY1.out) (fun hHeld => ?_)
            clear hK K
            try simp only [Act.put, lA, lB, lC, lD, lE, lF]
            refine wpAnyH_ready (rs := [8, 19]) (by kernel_rfl) (by simp) ?_
            refine AllReadyH.cons (o := _) rfl (fun K hK => ?_) (AllReadyH.cons (o := _) rfl (fun K hK => ?_) AllReadyH.nil)
            ·skip
             (try simp only [lA, lB, lC])
             go_simp
             refine (HLs.out 90 0 0 1 1 1 41 _).mono ?_
             rintro e y2 ⟨rfl, hy⟩
             have HY2 : Hid (Ext w1 y2) := (HY1.out).trans hy
             clear hy
             refine hK.out _ _ (SD.out _ HY2.out) (fun hHeld => ?_)
             clear hK K
             try simp only [Act.put, lA, lB, lC, lD, lE, lF]
             refine wpAnyH_ready (rs := [10, 19]) (by kernel_rfl) (by simp) ?_
             refine AllReadyH.cons (o := _) rfl (fun K hK => ?_) (AllReadyH.cons (o := _) rfl (fun K hK => ?_) AllReadyH.nil)
             ·skip
              (try simp only [lA, lB, lC])
              go_simp
              refine (HLs.out 90 0 7 0 0 0 1 _).mono ?_
              rintro e y3 ⟨rfl, hy⟩
              have HY3 : Hid (Ext w1 y3) := (HY2.out).trans hy
              clear hy
              refine hK.out _ _ (SD.out _ HY3.out) (fun hHeld => ?_)
              clear hK K
              try simp only [Act.put, lA, lB, lC, lD, lE, lF]
              refine wpAnyH_ready (rs := [12, 19]) (by kernel_rfl) (by simp) ?_
              refine AllReadyH.cons (o := _) rfl (fun K hK => ?_) (AllReadyH.cons (o := _) rfl (fun K hK => ?_) AllReadyH.nil)
              ·skip
               (try simp only [lA, lB, lC])
               go_simp
               refine (HFe.out 90 0 1 1 1 0 1 2 _).mono ?_
               rintro e y4 ⟨rfl, hy⟩
               have HY4 : Hid (Ext w1 y4) := (HY3.out).trans hy
               clear hy
               refine hK.out _ _ (SD.out _ HY4.out) (fun hHeld => ?_)
               clear hK K
               try simp only [Act.put, lA, lB, lC, lD, lE, lF]
               refine wpAnyH_ready (rs := [14, 19]) (by kernel_rfl) (by simp) ?_
               refine AllReadyH.cons (o := _) rfl (fun K hK => ?_) (AllReadyH.cons (o := _) rfl (fun K hK => ?_) AllReadyH.nil)
               ·skip
                (try simp only [lA, lB, lC])
                go_simp
                refine (HFe.out 90 0 1 1 1 0 1 0 _).mono ?_
                rintro e y5 ⟨rfl, hy⟩
                have HY5 : Hid (Ext w1 y5) := (HY4.out).trans hy
                clear hy
                refine hK.out _ _ (SD.out _ HY5.out) (fun hHeld => ?_)
                clear hK K
                try simp only [Act.put, lA, lB, lC, lD, lE, lF]
                refine wpAnyH_ready (rs := [15, 19]) (by kernel_rfl) (by simp) ?_
                refine AllReadyH.cons (o := _) rfl (fun K hK => ?_) (AllReadyH.cons (o := _) rfl (fun K hK => ?_) AllReadyH.nil)
                ·skip
                 (try simp only [lA, lB, lC])
                 go_simp
                 refine (HRl.out 90 1 _).mono ?_
                 rintro e y6 ⟨rfl, hy⟩
                 have HY6 : Hid (Ext w1 y6) := (HY5.out).trans hy
                 clear hy
                 refine hK.out _ _ (SD.out _ HY6.out) (fun hHeld => ?_)
                 clear hK K
                 try simp only [Act.put, lA, lB, lC, lD, lE, lF]
                 refine wpAnyH_take (i := 18) (oi := _) (v := .agg (refRow far)) rfl (by kernel_rfl) (by kernel_rfl) (by kernel_rfl) (fun _ _ _ h => h) (Or.inl ⟨by rfl, ?hy⟩) hHeld ?_
                 case hy => (intro w _; kernel_rfl)
                 try simp only [Act.put, lA, lB, lC, lD, lE, lF]
                 refine zR 19 fun K hK => ?_
                 (try simp only [lA, lB, lC])
                 go_simp
                 refine hK.out _ _ (SD.out _ (HY6.out.alloc _)) (fun hHeld => ?_)
                 try simp only [Act.put, lA, lB, lC, lD, lE, lF]
                 obtain ⟨lb, hlb⟩ : ∃ lb, y6.heap.size = lb := ⟨_, rfl⟩
                 have hq := st_new (HY6.out.alloc _ : Ext w1 (World.alloc y6 (.cells Tryz.zeroCells139 139))) (HY6.out.le) hlb (heap_alloc_new _ _)
                 rw [show y6.heap.size = lb from hlb]
                 generalize World.alloc y6 (.cells Tryz.zeroCells139 139) = z at hq ⊢
                 exact HA7 _ _ hq
                ·skip
                 (try simp only [lA, lB, lC])
                 go_simp
                 refine hK.out _ _ (SD.out _ (HY5.out.alloc _)) (fun hHeld => ?_)
                 try simp only [Act.put, lA, lB, lC, lD, lE, lF]
                 obtain ⟨lb, hlb⟩ : ∃ lb, y5.heap.size = lb := ⟨_, rfl⟩
                 have hq := st_new (HY5.out.alloc _ : Ext w1 (World.alloc y5 (.cells Tryz.zeroCells139 139))) (HY5.out.le) hlb (heap_alloc_new _ _)
                 rw [show y5.heap.size = lb from hlb]
                 generalize World.alloc y5 (.cells Tryz.zeroCells139 139) = z at hq ⊢
                 exact HA6 _ _ hq
               ·skip
                (try simp only [lA, lB, lC])
                go_simp
                refine hK.out _ _ (SD.out _ (HY4.out.alloc _)) (fun hHeld => ?_)
                try simp only [Act.put, lA, lB, lC, lD, lE, lF]
                obtain ⟨lb, hlb⟩ : ∃ lb, y4.heap.size = lb := ⟨_, rfl⟩
                have hq := st_new (HY4.out.alloc _ : Ext w1 (World.alloc y4 (.cells Tryz.zeroCells139 139))) (HY4.out.le) hlb (heap_alloc_new _ _)
                rw [show y4.heap.size = lb from hlb]
                generalize World.alloc y4 (.cells Tryz.zeroCells139 139) = z at hq ⊢
                exact HA5 _ _ hq
              ·skip
               (try simp only [lA, lB, lC])
               go_simp
               refine hK.out _ _ (SD.out _ (HY3.out.alloc _)) (fun hHeld => ?_)
               try simp only [Act.put, lA, lB, lC, lD, lE, lF]
               obtain ⟨lb, hlb⟩ : ∃ lb, y3.heap.size = lb := ⟨_, rfl⟩
               have hq := st_new (HY3.out.alloc _ : Ext w1 (World.alloc y3 (.cells Tryz.zeroCells139 139))) (HY3.out.le) hlb (heap_alloc_new _ _)
               rw [show y3.heap.size = lb from hlb]
               generalize World.alloc y3 (.cells Tryz.zeroCells139 139) = z at hq ⊢
               exact HA4 _ _ hq
             ·skip
              (try simp only [lA, lB, lC])
              go_simp
              refine hK.out _ _ (SD.out _ (HY2.out.alloc _)) (fun hHeld => ?_)
              try simp only [Act.put, lA, lB, lC, lD, lE, lF]
              obtain ⟨lb, hlb⟩ : ∃ lb, y2.heap.size = lb := ⟨_, rfl⟩
              have hq := st_new (HY2.out.alloc _ : Ext w1 (World.alloc y2 (.cells Tryz.zeroCells139 139))) (HY2.out.le) hlb (heap_alloc_new _ _)
              rw [show y2.heap.size = lb from hlb]
              generalize World.alloc y2 (.cells Tryz.zeroCells139 139) = z at hq ⊢
              exact HA3 _ _ hq
            ·skip
             (try simp only [lA, lB, lC])
             go_simp
             refine hK.out _ _ (SD.out _ (HY1.out.alloc _)) (fun hHeld => ?_)
             try simp only [Act.put, lA, lB, lC, lD, lE, lF]
             obtain ⟨lb, hlb⟩ : ∃ lb, y1.heap.size = lb := ⟨_, rfl⟩
             have hq := st_new (HY1.out.alloc _ : Ext w1 (World.alloc y1 (.cells Tryz.zeroCells139 139))) (HY1.out.le) hlb (heap_alloc_new _ _)
             rw [show y1.heap.size = lb from hlb]
             generalize World.alloc y1 (.cells Tryz.zeroCells139 139) = z at hq ⊢
             exact HA2 _ _ hq
           ·skip
            (try simp only [lA, lB, lC])
            go_simp
            refine hK.out _ _ (SD.out _ (HY0.out.alloc _)) (fun hHeld => ?_)
            try simp only [Act.put, lA, lB, lC, lD, lE, lF]
            obtain ⟨lb, hlb⟩ : ∃ lb, y0.heap.size = lb := ⟨_, rfl⟩
            have hq := st_new (HY0.out.alloc _ : Ext w1 (World.alloc y0 (.cells Tryz.zeroCells139 139))) (HY0.out.le) hlb (heap_alloc_new _ _)
            rw [show y0.heap.size = lb from hlb]
            generalize World.alloc y0 (.cells Tryz.zeroCells139 139) = z at hq ⊢
            exact HA1 _ _ hq
          ·skip
           (try simp only [lA, lB, lC])
           go_simp
           refine hK.out _ _ (SD.out _ (Ext.drew ((Ext.refl _).alloc _))) (fun hHeld => ?_)
           try simp only [Act.put, lA, lB, lC, lD, lE, lF]
           obtain ⟨lb, hlb⟩ : ∃ lb, w1.heap.size = lb := ⟨_, rfl⟩
           have hq := st_new (Ext.drew ((Ext.refl _).alloc _) : Ext w1 (World.drew (World.alloc w1 (.cells Tryz.zeroCells139 139)))) (Nat.le_refl _) hlb (heap_alloc_new _ _)
           rw [show w1.heap.size = lb from hlb]
           generalize World.drew (World.alloc w1 (.cells Tryz.zeroCells139 139)) = z at hq ⊢
           exact HA0 _ _ hq
         ·intro lb V hV
          have HV : Hid (Ext w1 V /\ _ /\ _) := hV
          have hHeld := SD.out _ hV.1
          clear hV
          refine zR 4 fun K hK => ?_
          (try simp only [lA, lB, lC])
          go_simp
          refine (HLs.out far 0 0 1 1 1 1 _).mono ?_
          rintro e y0 ⟨rfl, hy⟩
          have HY0 : Hid (Ext w1 y0) := (HV.out.1).trans hy
          have HZ : Hid (_ /\ _) := ⟨HV.out.2.1, hy.block HV.out.2.2⟩
          clear hy
          refine hK.out _ _ (SD.out _ HY0.out) (fun hHeld => ?_)
          clear hK K
          try simp only [Act.put, lA, lB, lC, lD, lE, lF]
          exact HA1 _ _ ⟨HY0.out, HZ.out.1, HZ.out.2⟩
        ·intro lb V hV
         have HV : Hid (Ext w1 V /\ _ /\ _) := hV
         have hHeld := SD.out _ hV.1
         clear hV
         refine zR 6 fun K hK => ?_
         (try simp only [lA, lB, lC])
         go_simp
         refine (HLs.out 90 0 0 1 1 1 0 _).mono ?_
         rintro e y1 ⟨rfl, hy⟩
         have HY1 : Hid (Ext w1 y1) := (HV.out.1).trans hy
         have HZ : Hid (_ /\ _) := ⟨HV.out.2.1, hy.block HV.out.2.2⟩
         clear hy
         refine hK.out _ _ (SD.out _ HY1.out) (fun hHeld => ?_)
         clear hK K
         try simp only [Act.put, lA, lB, lC, lD, lE, lF]
         exact HA2 _ _ ⟨HY1.out, HZ.out.1, HZ.out.2⟩
       ·intro lb V hV
        have HV : Hid (Ext w1 V /\ _ /\ _) := hV
        have hHeld := SD.out _ hV.1
        clear hV
        refine zR 8 fun K hK => ?_
        (try simp only [lA, lB, lC])
        go_simp
        refine (HLs.out 90 0 0 1 1 1 41 _).mono ?_
        rintro e y2 ⟨rfl, hy⟩
        have HY2 : Hid (Ext w1 y2) := (HV.out.1).trans hy
        have HZ : Hid (_ /\ _) := ⟨HV.out.2.1, hy.block HV.out.2.2⟩
        clear hy
        refine hK.out _ _ (SD.out _ HY2.out) (fun hHeld => ?_)
        clear hK K
        try simp only [Act.put, lA, lB, lC, lD, lE, lF]
        exact HA3 _ _ ⟨HY2.out, HZ.out.1, HZ.out.2⟩
      ·intro lb V hV
       have HV : Hid (Ext w1 V /\ _ /\ _) := hV
       have hHeld := SD.out _ hV.1
       clear hV
       refine zR 10 fun K hK => ?_
       (try simp only [lA, lB, lC])
       go_simp
       refine (HLs.out 90 0 7 0 0 0 1 _).mono ?_
       rintro e y3 ⟨rfl, hy⟩
       have HY3 : Hid (Ext w1 y3) := (HV.out.1).trans hy
       have HZ : Hid (_ /\ _) := ⟨HV.out.2.1, hy.block HV.out.2.2⟩
       clear hy
       refine hK.out _ _ (SD.out _ HY3.out) (fun hHeld => ?_)
       clear hK K
       try simp only [Act.put, lA, lB, lC, lD, lE, lF]
       exact HA4 _ _ ⟨HY3.out, HZ.out.1, HZ.out.2⟩
     ·intro lb V hV
      have HV : Hid (Ext w1 V /\ _ /\ _) := hV
      have hHeld := SD.out _ hV.1
      clear hV
      refine zR 12 fun K hK => ?_
      (try simp only [lA, lB, lC])
      go_simp
      refine (HFe.out 90 0 1 1 1 0 1 2 _).mono ?_
      rintro e y4 ⟨rfl, hy⟩
      have HY4 : Hid (Ext w1 y4) := (HV.out.1).trans hy
      have HZ : Hid (_ /\ _) := ⟨HV.out.2.1, hy.block HV.out.2.2⟩
      clear hy
      refine hK.out _ _ (SD.out _ HY4.out) (fun hHeld => ?_)
      clear hK K
      try simp only [Act.put, lA, lB, lC, lD, lE, lF]
      exact HA5 _ _ ⟨HY4.out, HZ.out.1, HZ.out.2⟩
    ·intro lb V hV
     have HV : Hid (Ext w1 V /\ _ /\ _) := hV
     have hHeld := SD.out _ hV.1
     clear hV
     refine zR 14 fun K hK => ?_
     (try simp only [lA, lB, lC])
     go_simp
     refine (HFe.out 90 0 1 1 1 0 1 0 _).mono ?_
     rintro e y5 ⟨rfl, hy⟩
     have HY5 : Hid (Ext w1 y5) := (HV.out.1).trans hy
     have HZ : Hid (_ /\ _) := ⟨HV.out.2.1, hy.block HV.out.2.2⟩
     clear hy
     refine hK.out _ _ (SD.out _ HY5.out) (fun hHeld => ?_)
     clear hK K
     try simp only [Act.put, lA, lB, lC, lD, lE, lF]
     exact HA6 _ _ ⟨HY5.out, HZ.out.1, HZ.out.2⟩
   ·intro lb V hV
    have HV : Hid (Ext w1 V /\ _ /\ _) := hV
    have hHeld := SD.out _ hV.1
    clear hV
    refine zR 15 fun K hK => ?_
    (try simp only [lA, lB, lC])
    go_simp
    refine (HRl.out 90 1 _).mono ?_
    rintro e y6 ⟨rfl, hy⟩
    have HY6 : Hid (Ext w1 y6) := (HV.out.1).trans hy
    have HZ : Hid (_ /\ _) := ⟨HV.out.2.1, hy.block HV.out.2.2⟩
    clear hy
    refine hK.out _ _ (SD.out _ HY6.out) (fun hHeld => ?_)
    clear hK K
    try simp only [Act.put, lA, lB, lC, lD, lE, lF]
    refine wpAnyH_take (i := 18) (oi := _) (v := .agg (refRow far)) rfl (by kernel_rfl) (by kernel_rfl) (by kernel_rfl) (fun _ _ _ h => h) (Or.inl ⟨by rfl, ?hy⟩) hHeld ?_
    case hy => (intro w _; kernel_rfl)
    try simp only [Act.put, lA, lB, lC, lD, lE, lF]
    exact HA7 _ _ ⟨HY6.out, HZ.out.1, HZ.out.2⟩
  ·intro lb V hV
   have HV : Hid (Ext w1 V /\ _ /\ _) := hV
   have hHeld := SD.out _ hV.1
   clear hV
   refine zR 20 fun K hK => ?_
   (try simp only [lA, lB, lC])
   refine wp_store_row _ _ _ rfl lb (refRow far) rfl rfl _ _ HV.out.2.2 (by kernel_rfl) (by kernel_rfl) (by kernel_rfl) ?_
   refine hK.out _ _ (SD.out _ (ext_row HV.out.1 HV.out.2.1 _)) (fun hHeld => ?_)
   clear hK K
   try simp only [Act.put, lA, lB, lC, lD, lE, lF]
   refine wpAnyH_done (by kernel_rfl) ?_ _
   exact HC _ _ ⟨ext_row HV.out.1 HV.out.2.1 _, HV.out.2.1, setRow_heap _ _ _ _ _ _ HV.out.2.2⟩
 ·rintro lb V ⟨hV1, hV2, hV3⟩
  have HV : Hid (Ext w1 V /\ w1.heap.size <= lb /\ V.heap[lb]? = some (.cells (refRow far) 139 (0, 0))) := ⟨hV1, hV2, hV3⟩
  have hlb := (Array.getElem?_eq_some_iff.1 hV3).1
  clear hV1 hV2 hV3 SD c0 c1 c2 c3 hcl HLs HFe HRl HO
  go_wp2_with fail
  obtain ⟨eb, heb⟩ : ∃ eb, V.heap.size = eb := ⟨_, rfl⟩
  have HR0 : Hid (RfAt w (V.alloc (.cells refErr 140)) B F F d lb eb far) := rf_start HD.out HX1.out HV.out.1 HV.out.2.1 HV.out.2.2 heb
  rw [show V.heap.size = eb from heb]
  clear hlb heb HV HD
  go_loopw [10] (fun i wr => ∃ j : Nat, j <= 10 /\ i = .int .i64 j /\ ∃ F', RfAt w wr B F F' d lb eb far) (fun i _ => 10 - (intOf i).toNat)
  case atStart => exact ⟨0, Nat.zero_le _, rfl, _, HR0.out⟩
  case round =>
   obtain ⟨j, hj, rfl, F', hR⟩ := hrel
   have HR : Hid (RfAt w wr B F F' d lb eb far) := hR
   clear hR HR0
   by_cases hlt : j < 10
   ·obtain ⟨code, kk, s, i, kd, m, k, n', f, cc, p, hrf, e0, k0, k1, k2, k3, k4, k5, k6, k7, k8, k9⟩ := ref_at HR.out.row HR.out.err HAll.out hlt
    have HAs : Hid (∀ w' F2, DealX w' B F2 d -> _) := fun w' F2 hd => (ask_xd HG.out.1 HG.out.2 kk s i kd m k n' f cc p hd).1.ask
    unfold Ref at hrf
    rw [hrf] at HAs
    unfold reqV at HAs
    have hj0 : (0 : Int) <= (j : Int) := by omega
    have hj1 : (j : Int) < 10 := by omega
    have hlbw := lG wr _ k0
    clear hrf
    go_wp2_with fail
    refine (HAs.out _ _ HR.out.deal).mono ?_
    rintro e x6 ⟨ya, yl, yc, Fn, rfl, hzs, hso⟩
    unfold replyV
    have hyl : yl = 0 := by
     obtain ⟨a, cap, he⟩ := owns_slice hso.row
     injection he with e1 e2 e3
    subst hyl
    have HNx : Hid (RfAt w x6 B F Fn d lb eb far) := HR.out.next hso
    have ce := hso.turn.cell e0 HR.out.f2
    have hebl := lG x6 _ ce
    have HSR : Hid (∀ w', _) := fun w' => ksameReply_c code 0 0 [] (by decide) ya none yc 0 w' (.inl rfl) (.inl rfl)
    unfold replyV at HSR
    rw [show ([] : List Int).length = 0 from rfl] at HSR
    clear hso hzs k0 k1 k2 k3 k4 k5 k6 k7 k8 k9 e0 HAs hlbw
    go_wp2_with fail
    have hrow := heap_alloc_new x6 (.cells #[.int .i64 code, .int .i64 0, .int .i64 0, .slice ya 0 yc] 33)
    have hxa : Ext x6 (x6.alloc (.cells #[.int .i64 code, .int .i64 0, .int .i64 0, .slice ya 0 yc] 33)) := (Ext.refl x6).alloc _
    generalize World.alloc x6 _ = V9 at hrow hxa ⊢
    obtain ⟨rb, hrb⟩ : ∃ rb, x6.heap.size = rb := ⟨_, rfl⟩
    rw [hrb] at hrow ⊢
    have v0 := (cell_of_row V9 _ 0 _ _ _ hrow).trans (show _ = some (.int .i64 code) from rfl)
    have v1 := (cell_of_row V9 _ 1 _ _ _ hrow).trans (show _ = some (.int .i64 0) from rfl)
    have v2 := (cell_of_row V9 _ 2 _ _ _ hrow).trans (show _ = some (.int .i64 0) from rfl)
    have v3 := (cell_of_row V9 _ 3 _ _ _ hrow).trans (show _ = some (.slice ya 0 yc) from rfl)
    have c9 := hxa.cell ce
    have SE : Hid (∀ W2, Ext V9 W2 -> (fun w' => w'.cell? ⟨rb, 0, none⟩ = some (.int .i64 code) /\ w'.cell? ⟨rb, 1, none⟩ = some (.int .i64 0) /\ w'.cell? ⟨rb, 2, none⟩ = some (.int .i64 0) /\ w'.cell? ⟨rb, 3, none⟩ = some (.slice ya 0 yc) /\ w'.cell? ⟨eb, j, none⟩ = some (.int .i64 code)) W2) := fun W2 h => ⟨h.cell v0, h.cell v1, h.cell v2, h.cell v3, h.cell c9⟩
    have HXA : Hid (Ext x6 V9) := hxa
    clear hrow hxa hrb ce hebl
    refine wp_region_held_drew (S := ((fun w' => w'.cell? ⟨rb, 0, none⟩ = some (.int .i64 code) /\ w'.cell? ⟨rb, 1, none⟩ = some (.int .i64 0) /\ w'.cell? ⟨rb, 2, none⟩ = some (.int .i64 0) /\ w'.cell? ⟨rb, 3, none⟩ = some (.slice ya 0 yc) /\ w'.cell? ⟨eb, j, none⟩ = some (.int .i64 code)))) (by kernel_rfl) ⟨v0, v1, v2, v3, c9⟩ (fun hHeld => ?_)
    refine zT 0 hHeld ?_
    refine zT 1 hHeld ?_
    refine zT 2 hHeld ?_
    refine zT 3 hHeld ?_
    refine zT 4 hHeld ?_
    refine zR 5 fun K hK => ?_
    (try simp only [lA, lB, lC])
    go_simp
    refine (HSR.out _).mono ?_
    rintro e x9 ⟨rfl, hx9⟩
    have HX9 : Hid (Ext V9 x9) := (Ext.drew (Ext.refl _)).trans hx9
    clear hx9
    refine hK.out _ _ (SE.out _ HX9.out) (fun hHeld => ?_)
    clear hK K
    try simp only [Act.put, lA, lB, lC, lD, lE, lF]
    refine zT 6 hHeld ?_
    refine wpAnyH_done (by kernel_rfl) ?_ _
    clear hHeld v0 v1 v2 v3 c9 SE
    go_wp2_with fail
    exact ⟨⟨j + 1, by omega, by go_num, Fn, HNx.out.ext (by refine Ext.trans (HXA.out.trans HX9.out) ?_; (repeat (first | with_reducible exact Ext.refl _ | with_reducible assumption | with_reducible refine Ext.drew ?_ | with_reducible refine Ext.alloc ?_ _ | with_reducible (apply Ext.chain; assumption))))⟩, by simp [intOf]; omega⟩
   ·obtain rfl : j = 10 := by omega
    go_wp2_with fail
    go_ret
    exact ⟨rfl, F', HR.out.deal, HR.out.turn, HR.out.grows⟩
end
end Go.Proofs.YtmnjhhachdlmkaaGreat
