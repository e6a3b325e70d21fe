import Derived.Test.YtmnjhhachdlmkaaGreatK17
import Derived.Test.YtmnjhhachdlmkaaGreatK21
namespace Go.Proofs.YtmnjhhachdlmkaaGreat
set_option linter.unusedVariables false
set_option linter.unusedSimpArgs false
open List renaming getElem_toArray -> lA, getElem_cons_succ -> lB, getElem_cons_zero -> lC, setIfInBounds_toArray -> lD, set_cons_zero -> lE, set_cons_succ -> lF
open World renaming block_lt_of_cell? -> lG
-- VAr
section
set_option maxRecDepth 100000
set_option maxHeartbeats 64000000
open Go.RowKit Go.Maps
theorem apart_c {n m lcap scap : Nat} {la sa : Option Addr} {S : List Stk} {ls : List LsV} (hI : InvQ S ls) (hn : ls.length = n) (hm : S.length = m) (hla : n ≠ 0 -> ∃ gl, la = some ⟨gl, 0, none⟩) (hsa : m ≠ 0 -> ∃ gs, sa = some ⟨gs, 0, none⟩) (w : World) (hr : LeasesAt w (.slice la n lcap) ls) (hs : w.ownsRow 0 116 7 (.slice sa m scap) m (toldAll S)) :
  Calls Tryz.prog 17 #[.slice la n lcap, .slice sa m scap] w fun e w' => e = .returned (.bool true) /\ Ext w w' := by
 have hnb : n <= 30 := by have := hI.leases; omega
 have hmb : m <= 6 := by have := hI.stocks; omega
 have HN : Hid (ls.length = n /\ S.length = m) := ⟨hn, hm⟩
 have HR : Hid (LeasesAt w (.slice la n lcap) ls) := hr
 have HLA : Hid (n ≠ 0 -> ∃ gl, la = some ⟨gl, 0, none⟩) := hla
 have HSA : Hid (m ≠ 0 -> ∃ gs, sa = some ⟨gs, 0, none⟩) := hsa
 have HS : Hid (w.ownsRow 0 116 7 (.slice sa m scap) m (toldAll S)) := hs
 have HI : Hid (InvQ S ls) := hI
 have heq := fun (a b c e a' b' c' e' : Int) (w : World) => eqClass 9998 a b c e a' b' c' e' w
 clear hI hr hs hn hm hla hsa
 go_enter Tryz.func17, Tryz.ntmps17
 go_wp2_with fail
 go_loopw [5] (fun i wr => ∃ j : Nat, j <= m /\ i = .int .i64 j /\ Ext w wr) (fun i _ => m - (intOf i).toNat)
 case atStart => exact ⟨0, Nat.zero_le _, rfl, Ext.refl _⟩
 case round =>
  obtain ⟨j, hj, rfl, hx⟩ := hrel
  have HX : Hid (Ext w wr) := hx
  clear hx
  by_cases hlt : j < m
  ·as_aux_lemma =>
    obtain ⟨gs, rfl⟩ := HSA.out (by omega)
    have hjS : j < S.length := by rw [HN.out.2]; exact hlt
    have HXJ : Hid (S[j] ∈ S /\ (S[j].leased : Int) = sumK S[j].kd S[j].m S[j].k S[j].n ls) := ⟨List.getElem_mem hjS, HI.out.sum j hjS⟩
    have HSC := fun (w' : World) (hx : Ext w w') => stocks_cells (Ext.owns hx HS.out) j hjS
    generalize S[j] = x at *
    clear hjS
    generalize wr = w0 at *
    go_wp2_with fail
    go_loopw [6, 7, 8] (fun nv gv iv wr => ∃ i : Nat, i <= n /\ iv = .int .i64 i /\ nv = .int .i64 (sumK x.kd x.m x.k x.n (ls.take i)) /\ gv = .int .i64 (goneK x.kd x.m x.k x.n (ls.take i)) /\ Ext w wr) (fun _ _ iv _ => n - (intOf iv).toNat)
    case atStart => exact ⟨0, Nat.zero_le _, rfl, rfl, rfl, HX.out⟩
    case round =>
     obtain ⟨i, hi, rfl, rfl, rfl, hx⟩ := hrel
     have HX2 : Hid (Ext w wr) := hx
     obtain ⟨x0, x1, x2, x3, x4, x5, x6⟩ := HSC wr hx
     have hgs := lG wr _ x0
     clear hx
     by_cases hil : i < n
     ·obtain ⟨gl, rfl⟩ := HLA.out (by omega)
      have hiL : i < ls.length := by rw [HN.out.1]; exact hil
      obtain ⟨l0, l1, l2, l3, l4, l5, l6, l7, l8⟩ := (HR.out.ext HX2.out).cells i hiL
      have hgl := lG wr _ l0
      have hcn := HI.out.cnt _ (List.getElem_mem hiL)
      have hst := HI.out.nonneg
      have hmade := HI.out.made x HXJ.out.1
      have hsN := sumK_snoc (kd := x.kd) (m := x.m) (k := x.k) (n := x.n) i hiL
      have hgN := goneK_take (kd := x.kd) (m := x.m) (k := x.k) (n := x.n) i hiL
      have hg0 := goneK_nonneg (kd := x.kd) (m := x.m) (k := x.k) (n := x.n) hst i
      have hgS := goneK_sum (kd := x.kd) (m := x.m) (k := x.k) (n := x.n) hst i (by omega)
      have hsq := HI.out.seq i hiL
      have hsT := fun h => sumK_take (kd := x.kd) (m := x.m) (k := x.k) (n := x.n) hst i hiL h
      rw [<- HXJ.out.2] at hsT
      have hi0 : (0 : Int) <= (i : Int) := by omega
      have hi1 : (i : Int) < n := by omega
      have hj0 : (0 : Int) <= (j : Int) := by omega
      have hj1 : (j : Int) < m := by omega
      by_cases hsm : sameC ls[i] x.kd x.m x.k x.n = true
      ·obtain ⟨e1, e2, e3, e4⟩ := sameC_iff.1 hsm
       rw [e1, e2, e3, e4] at hsq
       rw [hsm] at hsN hgN
       have hsT := hsT hsm
       rw [hsq] at l6
       rw [e1] at l2
       rw [e2] at l3
       rw [e3] at l4
       rw [e4] at l5
       generalize ls[i] = l at *
       obtain ⟨r, hrE⟩ : ∃ r, l.r = r := ⟨_, rfl⟩
       rw [hrE] at l8 hgN
       have HNx : Hid _ := And.intro hsN hgN
       clear hrE hsN hgN hsm e1 e2 e3 e4 hsq hst hiL
       generalize sumK x.kd x.m x.k x.n (ls.take i) = sm at *
       generalize goneK x.kd x.m x.k x.n (ls.take i) = gn at *
       cases r
       ·go_wp2_with fail
        go_quiet (fail)
        go_wp2_with fail
        refine ⟨⟨i + 1, by omega, by go_num, ?_, ?_, Ext.drewN HX2.out _⟩, by simp [intOf]; omega⟩
        ·rw [HNx.out.1]; simp
        ·rw [HNx.out.2]; simp
       ·go_wp2_with fail
        go_quiet (fail)
        go_wp2_with fail
        refine ⟨⟨i + 1, by omega, by go_num, ?_, ?_, Ext.drewN HX2.out _⟩, by simp [intOf]; omega⟩
        ·rw [HNx.out.1]; simp
        ·rw [HNx.out.2]; simp
      ·have hne : (ls[i].kd == (x.kd : Int) && (ls[i].m == (x.m : Int) && (ls[i].k == (x.k : Int) && ls[i].n == (x.n : Int)))) = false := Bool.eq_false_iff.2 hsm
       rw [Bool.eq_false_iff.2 hsm] at hsN hgN
       generalize ls[i] = l at *
       have HNx : Hid _ := And.intro hsN hgN
       clear hsN hgN hsm hsq hst hiL hsT
       generalize sumK x.kd x.m x.k x.n (ls.take i) = sm at *
       generalize goneK x.kd x.m x.k x.n (ls.take i) = gn at *
       go_wp2_with fail
       go_quiet (fail)
       go_wp2_with fail
       refine ⟨⟨i + 1, by omega, by go_num, ?_, ?_, Ext.drewN HX2.out _⟩, by simp [intOf]; omega⟩
       ·rw [HNx.out.1]; simp
       ·rw [HNx.out.2]; simp
     ·obtain rfl : i = n := by omega
      have hgn := gone_le HI.out HXJ.out.1
      have hgs' := goneK_sum (kd := x.kd) (m := x.m) (k := x.k) (n := x.n) HI.out.nonneg ls.length (Nat.le_refl _)
      have hg0 := goneK_nonneg (kd := x.kd) (m := x.m) (k := x.k) (n := x.n) HI.out.nonneg ls.length
      rw [List.take_length] at hgs' hg0
      rw [List.take_of_length_le (by rw [HN.out.1]; exact Nat.le_refl _), <- HXJ.out.2]
      rw [<- HXJ.out.2] at hgs'
      have hmade := HI.out.made x HXJ.out.1
      have hkp := List.length_filter_le (fun t => t.2) x.ts
      generalize goneK x.kd x.m x.k x.n ls = gn at *
      generalize (x.ts.filter (fun t => t.2)).length = kp at *
      generalize x.ts.length = md at *
      generalize x.leased = ld at *
      have hj0 : (0 : Int) <= (j : Int) := by omega
      have hj1 : (j : Int) < m := by omega
      obtain ⟨df, hdf⟩ : ∃ df : Int, (md : Int) - gn = df := ⟨_, rfl⟩
      have q1 : IntKind.i64.wrap ((md : Int) - gn) = df := by rw [IntKind.wrap_i64]; omega
      have q2 : wrap64 ((md : Int) - gn) = df := by rw [show ∀ z : Int, wrap64 z = IntKind.i64.wrap z from fun z => by rw [IntKind.wrap_i64, wrap64]]; exact q1
      have q3 : ¬ ((kp : Int) < df) := by omega
      have q4 : ¬ ((md : Int) < 1) := by omega
      have q5 : ¬ ((md : Int) < kp) := by omega
      have q6 : ¬ ((md : Int) < ld) := by omega
      clear hdf
      go_wp2_with fail
      go_quiet (fail)
      go_wp2_with fail
      exact ⟨⟨j + 1, by omega, by go_num, Ext.drewN HX2.out _⟩, by simp [intOf]; omega⟩
  ·obtain rfl : m = j := by omega
   generalize wr = w0 at *
   clear hlt hj
   go_wp2_with fail
   go_loopw [9] (fun i wr => ∃ j : Nat, j <= m /\ i = .int .i64 j /\ Ext w wr) (fun i _ => m - (intOf i).toNat)
   case atStart => exact ⟨0, Nat.zero_le _, rfl, HX.out⟩
   case round =>
    obtain ⟨j, hj, rfl, hx⟩ := hrel
    have HX2 : Hid (Ext w wr) := hx
    clear hx
    by_cases hlt : j < m
    ·as_aux_lemma =>
      obtain ⟨gs, rfl⟩ := HSA.out (by omega)
      have hjS : j < S.length := by rw [HN.out.2]; exact hlt
      have hcls := HI.out.cls _ (List.getElem_mem hjS)
      have hmade := HI.out.made _ (List.getElem_mem hjS)
      obtain ⟨x0, x1, x2, x3, x4, x5, x6⟩ := stocks_cells (Ext.owns HX2.out HS.out) j hjS
      have HUq : Hid (∀ i (hi : i < S.length), i < j -> ((S[i].kd : Int) == S[j].kd && ((S[i].m : Int) == S[j].m && ((S[i].k : Int) == S[j].k && (S[i].n : Int) == S[j].n))) = false) := fun i hi hij => by
       cases h : ((S[i].kd : Int) == S[j].kd && ((S[i].m : Int) == S[j].m && ((S[i].k : Int) == S[j].k && (S[i].n : Int) == S[j].n))) with
       | false => rfl
       | true =>
        have := HI.out.uniq i j hi hjS h
        omega
      generalize S[j] = x at *
      obtain ⟨kd, mm, kk, nn, ts, ld⟩ := x
      simp only at *
      have hsd : ((1 : Int) <= mm /\ (mm : Int) <= 3) /\ ((1 : Int) <= kk /\ (kk : Int) <= 3) /\ ((1 : Int) <= nn /\ (nn : Int) <= 3) /\ (kd = 1 \/ (kk = 1 /\ nn = 1) /\ (kd = 2 \/ kd = 0 /\ mm = 1)) := by
       by_cases h0 : kd = 0
       ·subst h0; rw [show ((0 : Nat) : Int) = 0 from rfl, isCls_0] at hcls; simp at hcls; omega
       ·by_cases h1 : kd = 1
        ·subst h1; rw [show ((1 : Nat) : Int) = 1 from rfl, isCls_1] at hcls; simp at hcls; omega
        ·by_cases h2 : kd = 2
         ·subst h2; rw [show ((2 : Nat) : Int) = 2 from rfl, isCls_2] at hcls; simp at hcls; omega
         ·rw [isCls_no _ _ _ (by omega) (by omega) (by omega)] at hcls; cases hcls
      generalize ts.length = md at *
      have hgs := lG wr _ x0
      have hj0 : (0 : Int) <= (j : Int) := by omega
      have hj1 : (j : Int) < m := by omega
      have HX0 : Hid _ := And.intro x4 hmade
      obtain ⟨⟨s1, s2⟩, ⟨s3, s4⟩, ⟨s5, s6⟩, hk⟩ := hsd
      clear hcls x5 x6 hjS hmade x4
      rcases hk with rfl | ⟨⟨rfl, rfl⟩, rfl | ⟨rfl, rfl⟩⟩
      ·go_wp2_with fail
       have hrow := heap_alloc_new wr (.cells #[.int .i64 1, .int .i64 (mm : Int), .int .i64 (kk : Int), .int .i64 (nn : Int)] 49)
       have hxa : Ext wr (wr.alloc (.cells #[.int .i64 1, .int .i64 (mm : Int), .int .i64 (kk : Int), .int .i64 (nn : Int)] 49)) := (Ext.refl wr).alloc _
       generalize World.alloc wr _ = W at hrow hxa ⊢
       obtain ⟨cb, hcb⟩ : ∃ cb, wr.heap.size = cb := ⟨_, rfl⟩
       rw [hcb] at hrow ⊢
       have HRow : Hid _ := hrow
       have HXW : Hid (Ext w W) := HX2.out.trans hxa
       have HX4 : Hid (W.cell? ⟨gs, j * 7 + 4, none⟩ = some (.int .i64 md) /\ md <= 200) := ⟨hxa.cell HX0.out.1, HX0.out.2.2.1⟩
       clear hrow hxa hcb x0 x1 x2 x3 hgs HX0 HX2 s1 s2 s3 s4 s5 s6
       go_loopw [12, 13] (fun ov iv w2 => ∃ i : Nat, i <= j /\ iv = .int .i64 i /\ ov = .bool true /\ Ext W w2) (fun _ iv _ => j - (intOf iv).toNat)
       case atStart => exact ⟨0, Nat.zero_le _, rfl, rfl, Ext.refl _⟩
       case round =>
        obtain ⟨i, hi, rfl, rfl, hx3⟩ := hrel
        have HX3 : Hid (Ext W wr) := hx3
        by_cases hil : i < j
        ·have hrow2 := hx3.block HRow.out
         have c0 := (cell_of_row wr _ 0 _ _ _ hrow2).trans (show _ = some (.int .i64 1) from rfl)
         have c1 := (cell_of_row wr _ 1 _ _ _ hrow2).trans (show _ = some (.int .i64 (mm : Int)) from rfl)
         have c2 := (cell_of_row wr _ 2 _ _ _ hrow2).trans (show _ = some (.int .i64 (kk : Int)) from rfl)
         have c3 := (cell_of_row wr _ 3 _ _ _ hrow2).trans (show _ = some (.int .i64 (nn : Int)) from rfl)
         have hcb := lG wr _ c0
         have hiS : i < S.length := by rw [HN.out.2]; omega
         obtain ⟨y0, y1, y2, y3, _, _, _⟩ := stocks_cells (Ext.owns (HXW.out.trans hx3) HS.out) i hiS
         have hgs := lG wr _ y0
         have hne : ((S[i].kd : Int) == 1 && ((S[i].m : Int) == (mm : Int) && ((S[i].k : Int) == (kk : Int) && (S[i].n : Int) == (nn : Int)))) = false := HUq.out i hiS hil
         have hi0 : (0 : Int) <= (i : Int) := by omega
         have hi1 : (i : Int) < m := by omega
         have hi2 : (i : Int) < j := by omega
         clear hx3 hrow2 HUq
         generalize S[i] = y at *
         clear hiS
         go_wp2_with fail
         go_quiet (fail)
         go_wp2_with fail
         exact ⟨⟨i + 1, by omega, by go_num, rfl, Ext.drewN HX3.out _⟩, by simp [intOf]; omega⟩
        ·obtain rfl : i = j := by omega
         have x4 := hx3.cell HX4.out.1
         have hmd := HX4.out.2
         have hmd2 : ¬ (200 : Int) < (md : Int) := by omega
         have hgs := lG wr _ x4
         clear hx3 HUq
         go_wp2_with fail
         exact ⟨⟨i + 1, by omega, by go_num, HXW.out.trans HX3.out⟩, by simp [intOf]; omega⟩
      ·go_wp2_with fail
       have hrow := heap_alloc_new wr (.cells #[.int .i64 2, .int .i64 (mm : Int), .int .i64 1, .int .i64 1] 49)
       have hxa : Ext wr (wr.alloc (.cells #[.int .i64 2, .int .i64 (mm : Int), .int .i64 1, .int .i64 1] 49)) := (Ext.refl wr).alloc _
       generalize World.alloc wr _ = W at hrow hxa ⊢
       obtain ⟨cb, hcb⟩ : ∃ cb, wr.heap.size = cb := ⟨_, rfl⟩
       rw [hcb] at hrow ⊢
       have HRow : Hid _ := hrow
       have HXW : Hid (Ext w W) := HX2.out.trans hxa
       have HX4 : Hid (W.cell? ⟨gs, j * 7 + 4, none⟩ = some (.int .i64 md) /\ md <= 200) := ⟨hxa.cell HX0.out.1, HX0.out.2.2.1⟩
       clear hrow hxa hcb x0 x1 x2 x3 hgs HX0 HX2 s1 s2 s3 s4 s5 s6
       go_loopw [12, 13] (fun ov iv w2 => ∃ i : Nat, i <= j /\ iv = .int .i64 i /\ ov = .bool true /\ Ext W w2) (fun _ iv _ => j - (intOf iv).toNat)
       case atStart => exact ⟨0, Nat.zero_le _, rfl, rfl, Ext.refl _⟩
       case round =>
        obtain ⟨i, hi, rfl, rfl, hx3⟩ := hrel
        have HX3 : Hid (Ext W wr) := hx3
        by_cases hil : i < j
        ·have hrow2 := hx3.block HRow.out
         have c0 := (cell_of_row wr _ 0 _ _ _ hrow2).trans (show _ = some (.int .i64 2) from rfl)
         have c1 := (cell_of_row wr _ 1 _ _ _ hrow2).trans (show _ = some (.int .i64 (mm : Int)) from rfl)
         have c2 := (cell_of_row wr _ 2 _ _ _ hrow2).trans (show _ = some (.int .i64 1) from rfl)
         have c3 := (cell_of_row wr _ 3 _ _ _ hrow2).trans (show _ = some (.int .i64 1) from rfl)
         have hcb := lG wr _ c0
         have hiS : i < S.length := by rw [HN.out.2]; omega
         obtain ⟨y0, y1, y2, y3, _, _, _⟩ := stocks_cells (Ext.owns (HXW.out.trans hx3) HS.out) i hiS
         have hgs := lG wr _ y0
         have hne : ((S[i].kd : Int) == 2 && ((S[i].m : Int) == (mm : Int) && ((S[i].k : Int) == 1 && (S[i].n : Int) == 1))) = false := HUq.out i hiS hil
         have hi0 : (0 : Int) <= (i : Int) := by omega
         have hi1 : (i : Int) < m := by omega
         have hi2 : (i : Int) < j := by omega
         clear hx3 hrow2 HUq
         generalize S[i] = y at *
         clear hiS
         go_wp2_with fail
         go_quiet (fail)
         go_wp2_with fail
         exact ⟨⟨i + 1, by omega, by go_num, rfl, Ext.drewN HX3.out _⟩, by simp [intOf]; omega⟩
        ·obtain rfl : i = j := by omega
         have x4 := hx3.cell HX4.out.1
         have hmd := HX4.out.2
         have hmd2 : ¬ (200 : Int) < (md : Int) := by omega
         have hgs := lG wr _ x4
         clear hx3 HUq
         go_wp2_with fail
         exact ⟨⟨i + 1, by omega, by go_num, HXW.out.trans HX3.out⟩, by simp [intOf]; omega⟩
      ·go_wp2_with fail
       have hrow := heap_alloc_new wr (.cells #[.int .i64 0, .int .i64 1, .int .i64 1, .int .i64 1] 49)
       have hxa : Ext wr (wr.alloc (.cells #[.int .i64 0, .int .i64 1, .int .i64 1, .int .i64 1] 49)) := (Ext.refl wr).alloc _
       generalize World.alloc wr _ = W at hrow hxa ⊢
       obtain ⟨cb, hcb⟩ : ∃ cb, wr.heap.size = cb := ⟨_, rfl⟩
       rw [hcb] at hrow ⊢
       have HRow : Hid _ := hrow
       have HXW : Hid (Ext w W) := HX2.out.trans hxa
       have HX4 : Hid (W.cell? ⟨gs, j * 7 + 4, none⟩ = some (.int .i64 md) /\ md <= 200) := ⟨hxa.cell HX0.out.1, HX0.out.2.2.1⟩
       clear hrow hxa hcb x0 x1 x2 x3 hgs HX0 HX2 s1 s2 s3 s4 s5 s6
       go_loopw [12, 13] (fun ov iv w2 => ∃ i : Nat, i <= j /\ iv = .int .i64 i /\ ov = .bool true /\ Ext W w2) (fun _ iv _ => j - (intOf iv).toNat)
       case atStart => exact ⟨0, Nat.zero_le _, rfl, rfl, Ext.refl _⟩
       case round =>
        obtain ⟨i, hi, rfl, rfl, hx3⟩ := hrel
        have HX3 : Hid (Ext W wr) := hx3
        by_cases hil : i < j
        ·have hrow2 := hx3.block HRow.out
         have c0 := (cell_of_row wr _ 0 _ _ _ hrow2).trans (show _ = some (.int .i64 0) from rfl)
         have c1 := (cell_of_row wr _ 1 _ _ _ hrow2).trans (show _ = some (.int .i64 1) from rfl)
         have c2 := (cell_of_row wr _ 2 _ _ _ hrow2).trans (show _ = some (.int .i64 1) from rfl)
         have c3 := (cell_of_row wr _ 3 _ _ _ hrow2).trans (show _ = some (.int .i64 1) from rfl)
         have hcb := lG wr _ c0
         have hiS : i < S.length := by rw [HN.out.2]; omega
         obtain ⟨y0, y1, y2, y3, _, _, _⟩ := stocks_cells (Ext.owns (HXW.out.trans hx3) HS.out) i hiS
         have hgs := lG wr _ y0
         have hne : ((S[i].kd : Int) == 0 && ((S[i].m : Int) == 1 && ((S[i].k : Int) == 1 && (S[i].n : Int) == 1))) = false := HUq.out i hiS hil
         have hi0 : (0 : Int) <= (i : Int) := by omega
         have hi1 : (i : Int) < m := by omega
         have hi2 : (i : Int) < j := by omega
         clear hx3 hrow2 HUq
         generalize S[i] = y at *
         clear hiS
         go_wp2_with fail
         go_quiet (fail)
         go_wp2_with fail
         exact ⟨⟨i + 1, by omega, by go_num, rfl, Ext.drewN HX3.out _⟩, by simp [intOf]; omega⟩
        ·obtain rfl : i = j := by omega
         have x4 := hx3.cell HX4.out.1
         have hmd := HX4.out.2
         have hmd2 : ¬ (200 : Int) < (md : Int) := by omega
         have hgs := lG wr _ x4
         clear hx3 HUq
         go_wp2_with fail
         exact ⟨⟨i + 1, by omega, by go_num, HXW.out.trans HX3.out⟩, by simp [intOf]; omega⟩
    ·obtain rfl : m = j := by omega
     generalize wr = w2 at *
     clear hlt hj HX
     go_wp2_with fail
     go_loopw [14] (fun i wr => ∃ j : Nat, j <= n /\ i = .int .i64 j /\ Ext w wr) (fun i _ => n - (intOf i).toNat)
     case atStart => exact ⟨0, Nat.zero_le _, rfl, HX2.out⟩
     case round =>
      obtain ⟨j, hj, rfl, hx⟩ := hrel
      have HX3 : Hid (Ext w wr) := hx
      clear HX2 hx
      by_cases hlt : j < n
      ·as_aux_lemma =>
        obtain ⟨gl, rfl⟩ := HLA.out (by omega)
        have hjL : j < ls.length := by rw [HN.out.1]; exact hlt
        have HL : Hid (ls[j] ∈ ls) := List.getElem_mem hjL
        have HLC : Hid (∀ w', Ext w w' -> _) := fun w' hx => (HR.out.ext hx).cells j hjL
        have HNm : Hid (∀ i (hi : i < ls.length), i < j -> ¬ (ls[i].s = ls[j].s /\ ls[i].i = ls[j].i)) := fun i hi hij h => by
         have := HI.out.names i j hi hjL h.1 h.2
         omega
        have hj0 : (0 : Int) <= (j : Int) := by omega
        have hj1 : (j : Int) < n := by omega
        generalize ls[j] = l at *
        clear hjL
        generalize wr = w3 at *
        go_wp2_with fail
        go_loopw [15, 16] (fun fv kv wr => ∃ k : Nat, k <= m /\ kv = .int .i64 k /\ fv = .bool ((S.take k).any (fun x => x.is l.kd l.m l.k l.n)) /\ Ext w wr) (fun _ kv _ => m - (intOf kv).toNat)
        case atStart => exact ⟨0, Nat.zero_le _, rfl, rfl, HX3.out⟩
        case round =>
         obtain ⟨k, hk, rfl, rfl, hx⟩ := hrel
         have HX4 : Hid (Ext w wr) := hx
         obtain ⟨l0, l1, l2, l3, l4, l5, l6, l7, l8⟩ := HLC.out wr hx
         have hgl := lG wr _ l0
         clear hx
         by_cases hkm : k < m
         ·obtain ⟨gs, rfl⟩ := HSA.out (by omega)
          have hkS : k < S.length := by rw [HN.out.2]; exact hkm
          obtain ⟨y0, y1, y2, y3, _, _, _⟩ := stocks_cells (Ext.owns HX4.out HS.out) k hkS
          have hgs := lG wr _ y0
          have HT : Hid ((S.take (k + 1)).any (fun x => x.is l.kd l.m l.k l.n) = ((S.take k).any (fun x => x.is l.kd l.m l.k l.n) || S[k].is l.kd l.m l.k l.n)) := by
           show _ = _
           rw [List.take_succ_eq_append_getElem hkS, List.any_append]
           simp
          have hk0 : (0 : Int) <= (k : Int) := by omega
          have hk1 : (k : Int) < m := by omega
          generalize (S.take k).any (fun x => x.is l.kd l.m l.k l.n) = fb at *
          generalize S[k] = y at *
          clear hkS
          have hyl : ((y.kd : Int) == l.kd && ((y.m : Int) == l.m && ((y.k : Int) == l.k && (y.n : Int) == l.n))) = y.is l.kd l.m l.k l.n := rfl
          generalize y.is l.kd l.m l.k l.n = yb at *
          cases fb
          ·cases yb
           ·go_wp2_with fail
            go_quiet (fail)
            go_wp2_with fail
            exact ⟨⟨k + 1, by omega, by go_num, by rw [HT.out]; rfl, Ext.drewN HX4.out _⟩, by simp [intOf]; omega⟩
           ·go_wp2_with fail
            go_quiet (fail)
            go_wp2_with fail
            exact ⟨⟨k + 1, by omega, by go_num, by rw [HT.out]; rfl, Ext.drewN HX4.out _⟩, by simp [intOf]; omega⟩
          ·clear hyl
           go_wp2_with fail
           go_quiet (fail)
           go_wp2_with fail
           exact ⟨⟨k + 1, by omega, by go_num, by rw [HT.out]; rfl, Ext.drewN HX4.out _⟩, by simp [intOf]; omega⟩
         ·obtain rfl : m = k := by omega
          have hany : (S.take m).any (fun x => x.is l.kd l.m l.k l.n) = true := by
           rw [List.take_of_length_le (by rw [HN.out.2]; exact Nat.le_refl _)]
           obtain ⟨x, hx⟩ := HI.out.has l HL.out
           exact List.any_eq_true.2 ⟨x, List.mem_of_find?_eq_some hx, by simpa using List.find?_some hx⟩
          rw [hany]
          have hlok := HI.out.lok l HL.out
          have hcnt := HI.out.cnt l HL.out
          obtain ⟨⟨q1, q2⟩, ⟨q3, q4⟩, _⟩ := hlok
          have q5 : l.c <= 40 := hcnt.2
          clear hany hcnt hkm hk
          generalize wr = w4 at *
          go_wp2_with fail
          clear l0 l1 l2 l3 l4 l5 l6 l7 l8 hgl q1 q2 q3 q4 q5
          go_loopw [15, 17] (fun fv kv wr => ∃ k : Nat, k <= j /\ kv = .int .i64 k /\ fv = .bool true /\ Ext w wr) (fun _ kv _ => j - (intOf kv).toNat)
          case atStart => exact ⟨0, Nat.zero_le _, rfl, rfl, HX4.out⟩
          case round =>
           obtain ⟨k, hk, rfl, rfl, hx⟩ := hrel
           have HX5 : Hid (Ext w wr) := hx
           by_cases hkj : k < j
           ·obtain ⟨l0, l1, l2, l3, l4, l5, l6, l7, l8⟩ := HLC.out wr hx
            have hgl := lG wr _ l0
            have hkL : k < ls.length := by rw [HN.out.1]; omega
            obtain ⟨m0, m1, _, _, _, _, _, _, _⟩ := (HR.out.ext hx).cells k hkL
            have hnm := HNm.out k hkL hkj
            have hk0 : (0 : Int) <= (k : Int) := by omega
            have hk1 : (k : Int) < n := by omega
            have hk2 : (k : Int) < j := by omega
            clear hx l2 l3 l4 l5 l6 l7 l8
            generalize ls[k] = lk at *
            clear hkL
            by_cases hs : lk.s = l.s
            ·have hni : ¬ lk.i = l.i := fun h => hnm ⟨hs, h⟩
             rw [hs] at m0
             clear hnm hs
             go_wp2_with fail
             go_quiet (fail)
             go_wp2_with fail
             exact ⟨⟨k + 1, by omega, by go_num, by simp [*], Ext.drewN HX5.out _⟩, by simp [intOf]; omega⟩
            ·clear hnm
             go_wp2_with fail
             go_quiet (fail)
             go_wp2_with fail
             exact ⟨⟨k + 1, by omega, by go_num, by simp [*], Ext.drewN HX5.out _⟩, by simp [intOf]; omega⟩
           ·obtain rfl : k = j := by omega
            clear hx
            go_wp2_with fail
            exact ⟨⟨k + 1, by omega, by go_num, HX5.out⟩, by simp [intOf]; omega⟩
      ·obtain rfl : n = j := by omega
       have hnI : (n : Int) <= 30 := by omega
       have hmI : (m : Int) <= 6 := by omega
       go_wp2_with fail
       all_goals go_ret
       all_goals exact ⟨ret_bool (by simp [*]), HX3.out⟩
theorem apart_x {lv sv : Value} {S : List Stk} {ls : List LsV} (hI : InvQ S ls) (w : World) (hr : LeasesAt w lv ls) (hs : w.ownsRow 0 116 7 sv S.length (toldAll S)) :
  Calls Tryz.prog 17 #[lv, sv] w fun e w' => e = .returned (.bool true) /\ Ext w w' := by
 rcases hr.form with ⟨rfl, hl⟩ | ⟨g, cap, rfl, _⟩
 ·subst hl
  rcases owns_form hs with ⟨rfl, hl2, _⟩ | ⟨gs, scap, rfl, _, _, _⟩
  ·exact apart_c (n := 0) (m := 0) hI rfl hl2 (fun h => absurd rfl h) (fun h => absurd rfl h) w hr (by rw [hl2] at hs; exact hs)
  ·exact apart_c (n := 0) hI rfl rfl (fun h => absurd rfl h) (fun _ => ⟨gs, rfl⟩) w hr hs
 ·rcases owns_form hs with ⟨rfl, hl2, _⟩ | ⟨gs, scap, rfl, _, _, _⟩
  ·exact apart_c (m := 0) hI rfl hl2 (fun _ => ⟨g, rfl⟩) (fun h => absurd rfl h) w hr (by rw [hl2] at hs; exact hs)
  ·exact apart_c hI rfl rfl (fun _ => ⟨g, rfl⟩) (fun _ => ⟨gs, rfl⟩) w hr hs
end
-- VOn
section
set_option maxRecDepth 100000
set_option maxHeartbeats 200000000
open Go.RowKit Go.Maps
structure Leased (p : Rep × DS × List FileV) (s i q1 q2 q3 q4 cc : Int) : Prop where
 has : p.1.c = 0 -> ∃ l ∈ p.2.1.ls, l.s = s /\ l.i = i /\ l.f = p.1.f /\ l.c = cc /\ l.kd = q1 /\ l.m = q2 /\ l.k = q3 /\ l.n = q4
 again : p.1.c = 0 -> p.2.1.ask 1 s i q1 q2 q3 q4 0 cc 0 = (p.1, p.2.1)
theorem lease_step (d : DS) (fs : List FileV) (kd a b' c n' : Int) (D : List Int) (h1 : pickN kd 7 = 1) : ∃ s i q1 q2 q3 q4 cc : Int, reqOf kd a b' c n' = reqV 1 s i q1 q2 q3 q4 0 cc 0 /\ Leased (stepR d fs kd a b' c n' D) s i q1 q2 q3 q4 cc := by
 have e1 : stepR d fs kd a b' c n' D = ((stepS d kd a b' c n' D).1, (stepS d kd a b' c n' D).2, fs) := by unfold stepR; rw [if_neg (by omega)]
 have e2 : stepS d kd a b' c n' D = d.ask 1 (1 + pickN a 3 : Nat) (pickN b' 4) (clsK (pickN c 4)).1 (clsK (pickN c 4)).2.1 (clsK (pickN c 4)).2.2.1 (clsK (pickN c 4)).2.2.2 0 (pickN n' 6) 0 := by
  unfold stepS
  rw [h1]
  rfl
 rw [e1, e2]
 refine ⟨(1 + pickN a 3 : Nat), pickN b' 4, (clsK (pickN c 4)).1, (clsK (pickN c 4)).2.1, (clsK (pickN c 4)).2.2.1, (clsK (pickN c 4)).2.2.2, pickN n' 6, ?_, ?_⟩
 ·unfold reqOf
  rw [h1]
  rfl
 ·refine ⟨fun hc => ?_, fun hc => ?_⟩
  ·obtain ⟨l, hl, h2, h3, h4, h5, h6, h7, h8, h9, h10⟩ := lease_again _ _ _ _ _ _ _ hc
   exact ⟨l, hl, h2, h3, h4, h5, h6, h7, h8, h9⟩
  ·obtain ⟨l, hl, h2, h3, h4, h5, h6, h7, h8, h9, h10⟩ := lease_again _ _ _ _ _ _ _ hc
   exact h10
theorem cut_on {P : Prop} {K : Act -> World -> Prop} (act : Nat -> Option Addr -> Nat -> Nat -> Act) (I : Nat -> Option Addr -> Nat -> Nat -> World -> Prop) (h1 : (∀ rb ya yl yc V, I rb ya yl yc V -> K (act rb ya yl yc) V) -> P) (h2 : ∀ rb ya yl yc V, I rb ya yl yc V -> K (act rb ya yl yc) V) : P := h1 h2
def matchB (s i pf cc q1 q2 q3 q4 : Int) (l : LsV) : Bool := decide (l.s = s) && (decide (l.i = i) && (decide (l.f = pf) && (decide (l.c = cc) && (l.kd == q1 && (l.m == q2 && (l.k == q3 && l.n == q4))))))
structure RunF (w : World) (P B : Nat) (F : Nat -> Prop) (fv : Value) (d : DS) (fs : List FileV) (G : Nat -> Prop) : Prop where
 run : RunAt w P B fv
 deal : DealX w B F d
 row : FileRow w 0 fv fs
 out : ¬ F P
 files : ∀ q, fv.ownBlock = some q -> ¬ F q /\ G q /\ q ≠ P
 sub : ∀ b, F b -> G b
theorem runs_ask {w w2 wq V : World} {P N B rb : Nat} {d : DS} {fs : List FileV} {G F F' : Nat -> Prop} {fv : Value} {r : Rep} {ra : Option Addr} {rl rc : Nat} (h : RunsOf w wq P N d fs G) (hf : RunF w2 P B F fv d fs G) (hx : Ext w2 wq) (hA : AskEnd wq V B F F' (r, d) rb ra rl rc) : RunsOf w V P N d fs (fun b => G b \/ F' b) := by
 have hl := h.run.lt
 have hPl := hl P h.run.own
 have hs := hA.turn.size
 have hw := h.turn.size
 refine ⟨⟨⟨B, F', fv, hA.turn.ref (hx.block hf.run) hf.out, hA.deal, hA.turn.owns (hx.owns hf.row) (fun q hq => (hf.files q hq).1), fun h' => (hA.grows P h').elim hf.out (fun h => by omega), fun q hq => ⟨fun h' => (hA.grows q h').elim (hf.files q hq).1 (fun h => by have := hl q (hf.files q hq).2.1; omega), .inl (hf.files q hq).2.1, (hf.files q hq).2.2⟩, fun b hb => .inr hb⟩, .inl h.run.own, fun b hb => ?_⟩, h.ok, h.keep, fun b hb => ?_, h.turn.trans' hA.turn (fun b _ hb => h.new b (hf.sub b hb))⟩
 ·rcases hb with hb | hb
  ·have := hl b hb; omega
  ·exact hA.deal.lt b hb
 ·rcases hb with hb | hb
  ·exact h.new b hb
  ·exact (hA.grows b hb).elim (fun h' => h.new b (hf.sub b h')) (fun h' => by omega)
theorem onceTop_c (sa : Option Addr) (n cap : Nat) (hn : n <= 150000) (w : World) (hs : KScriptAt w w.heap.size sa n) :
  Calls Tryz.prog 6 #[.slice sa n cap] w fun e w' => e = .returned (.bool true) /\ Turn (fun b => w.heap.size <= b) w w' := by
 have HSc : Hid (KScriptAt w w.heap.size sa n) := hs
 have heq := fun (a b c e a' b' c' e' : Int) (w : World) => eqClass 9998 a b c e a' b' c' e' w
 clear hs
 go_enter Tryz.func6, Tryz.ntmps6
 go_wp2_with fail
 refine (began_c w).mono ?_
 rintro e w1 ⟨P, B, rfl, b1, b2, b3, b4, b5, b6⟩
 have HR0 : Hid (RunsOf w w1 P 0 DS.opened [] (fun b => b = P \/ b = B)) := runs_began b1 b2 b3 b4 b5 b6
 clear b1 b2 b3 b4 b5 b6
 go_wp2_with fail
 go_loopw [4] (fun i wr => ∃ j : Nat, j <= n /\ i = .int .i64 j /\ ∃ d fs G, RunsOf w wr P j d fs G) (fun i _ => n - (intOf i).toNat)
 case atStart => exact ⟨0, Nat.zero_le _, rfl, _, _, _, HR0.out⟩
 case round =>
  obtain ⟨j, hj, rfl, d, fs, G, hR⟩ := hrel
  have HR : Hid (RunsOf w wr P j d fs G) := hR
  clear hR HR0
  by_cases hlt : j < n
  ·obtain ⟨b, off, rfl, hb, kd, a, b', c, n', ra, rl, rcap, D, hst, hbo⟩ := script_at HSc.out HR.out.turn hlt
   have HSt : Hid (StepAt wr b (off + j * 6) kd a b' c n' ra rl rcap D) := hst
   have HBo : Hid (∀ b off, rl ≠ 0 /\ ra = some ⟨b, off, none⟩ -> b < w.heap.size) := hbo
   have HB : Hid (b < w.heap.size) := hb
   obtain ⟨s0, s1, s2, s3, s4, s5, i1, i2, i3, i4, i5, hDl, hrl, hdw⟩ := hst
   have hbl := lG wr _ s0
   have hj0 : (0 : Int) <= (j : Int) := by omega
   have hj1 : (j : Int) < n := by omega
   have HStp : Hid (∀ w', Ext wr w' -> _) := fun w' hx => stepR_x kd a b' c n' ra rl rcap D i1 i2 i3 i4 i5 hDl (by omega) HR.out.ok (by omega) w' (HR.out.run.ext hx) (hdw.ext hx)
   have HNx : Hid (RunOk (stepR d fs kd a b' c n' D).2.1 (stepR d fs kd a b' c n' D).2.2 (j + 1) /\ Keep4 (stepR d fs kd a b' c n' D).2.1) := ⟨stepR_run HR.out.ok (by omega) kd a b' c n' D, keep4_step HR.out.keep HR.out.ok (by omega) kd a b' c n' D⟩
   have HPk : Hid _ := fun w => pick_c kd 7 (by decide) (by decide) i1.1 i1.2 w
   have HRq : Hid _ := fun w => keepRequest_c kd a b' c n' (.slice ra rl rcap) i1 i2 i3 i4 i5 w
   have lk := pickN_lt kd (show 0 < 7 by decide)
   have HLe : Hid (pickN kd 7 = 1 -> _) := fun h1 => lease_step d fs kd a b' c n' D h1
   clear i1 i2 i3 i4 i5 hDl hrl hdw hbo hb
   generalize stepR d fs kd a b' c n' D = p at *
   obtain ⟨⟨pc, pf, pn, pz⟩, d', fs'⟩ := p
   generalize pickN kd 7 = pk at *
   unfold StepRP stepV replyV at *
   simp only at *
   go_wp2_with fail
   refine (HStp.out _ (Ext.refl _)).mono ?_
   rintro e w2 ⟨xa, xl, xc, G', rfl, hz, hx⟩
   have HN2 : Hid (RunsOf w w2 P (j + 1) d' fs' G') := HR.out.next hx HNx.out.1 HNx.out.2
   have HRw : Hid (w2.ownsRow wr.heap.size 146 1 (.slice xa xl xc) pz.length (pz.map (Value.int .u64)) /\ ∀ b, (Value.slice xa xl xc).ownBlock = some b -> ¬ G' b) := ⟨hx.row, hx.free⟩
   have HZ : Hid (pz.length <= 100000000) := hz
   have hxl : xl = pz.length := by
    obtain ⟨a, cap, he⟩ := owns_slice hx.row
    injection he with e1 e2 e3
   have HTW : Hid (Turn (fun b => w.heap.size <= b) wr w2) := hx.turn.mono (fun b _ hb => HR.out.new b hb)
   subst hxl
   clear hx hz
   obtain ⟨B1, F1, fv1, r1, r2, r3, r4, r5, r6⟩ := HN2.out.run.ex
   have HQ : Hid (RunAt w2 P B1 fv1 /\ DealX w2 B1 F1 d' /\ (¬ F1 P) /\ ∀ b, F1 b -> G' b) := ⟨r1, r2, r4, r6⟩
   have p0 := cell_at r1 (i := 0) rfl
   have hPl := lG w2 _ p0
   have HQf : Hid (RunF w2 P B1 F1 fv1 d' fs' G') := ⟨r1, r2, r3, r4, r5, r6⟩
   clear r1 r2 r3 r4 r5 r6
   have HSt2 : Hid (StepAt w2 b (off + j * 6) kd a b' c n' ra rl rcap D) := HSt.out.turn HTW.out HB.out HBo.out
   go_wp2_with fail
   have hrow := heap_alloc_new w2 (.cells #[.int .i64 pc, .int .i64 pf, .int .i64 pn, .slice xa pz.length xc] 33)
   have hxa : Ext w2 (w2.alloc (.cells #[.int .i64 pc, .int .i64 pf, .int .i64 pn, .slice xa pz.length xc] 33)) := (Ext.refl w2).alloc _
   generalize World.alloc w2 _ = W2 at hrow hxa ⊢
   obtain ⟨ab, hab⟩ : ∃ ab, w2.heap.size = ab := ⟨_, rfl⟩
   rw [hab] at hrow ⊢
   have HRowA : Hid (W2.heap[ab]? = some (.cells #[.int .i64 pc, .int .i64 pf, .int .i64 pn, .slice xa pz.length xc] 33 (0, 0))) := hrow
   have HXA : Hid (Ext w2 W2) := hxa
   have HAb : Hid (w2.heap.size = ab) := hab
   have p1 := hxa.cell p0
   have hP1 := lG W2 _ p1
   have HG' : Hid (d'.Good /\ d'.ops.length <= 1000000) := ⟨HNx.out.1.good, by have := HNx.out.1.ops; omega⟩
   clear hrow hxa hab p0 hPl s0 s1 s2 s3 s4 s5 hbl
   refine (leases_x HG'.out.1 (HQ.out.2.1.ext HXA.out)).mono ?_
   rintro e w3 ⟨lv, rfl, ho3, hx3⟩
   have HL3 : Hid (w3.ownsRow W2.heap.size 56 9 lv d'.ls.length (lsCells d'.ls) /\ Ext W2 w3) := ⟨ho3, hx3⟩
   have p3 := hx3.cell p1
   have hP3 := lG w3 _ p3
   clear ho3 hx3 p1 hP1
   go_wp2_with fail
   refine (classes_x HG'.out.1 (HQ.out.2.1.ext (HXA.out.trans HL3.out.2))).mono ?_
   rintro e w4 ⟨sv, rfl, ho4, hx4⟩
   have HS4 : Hid (w4.ownsRow w3.heap.size 116 7 sv d'.S.length (toldAll d'.S) /\ Ext w3 w4) := ⟨ho4, hx4⟩
   have p4 := hx4.cell p3
   clear ho4 hx4 p3 hP3
   go_wp2_with fail
   refine (apart_x HG'.out.1.inv _ (show LeasesAt w4 lv d'.ls from owns_base (HS4.out.2.owns HL3.out.1) (Nat.zero_le _)) (owns_base HS4.out.1 (Nat.zero_le _))).mono ?_
   rintro e w5 ⟨rfl, hx5⟩
   have HX5 : Hid (Ext W2 w5) := HL3.out.2.trans (HS4.out.2.trans hx5)
   have HL5 : Hid (w5.ownsRow W2.heap.size 56 9 lv d'.ls.length (lsCells d'.ls)) := (HS4.out.2.trans hx5).owns HL3.out.1
   have p5 := hx5.cell p4
   have hP5 := lG w5 _ p5
   have hrow5 := HX5.out.block HRowA.out
   have a0 := (cell_of_row w5 _ 0 _ _ _ hrow5).trans (show _ = some (.int .i64 pc) from rfl)
   have a1 := (cell_of_row w5 _ 1 _ _ _ hrow5).trans (show _ = some (.int .i64 pf) from rfl)
   have a2 := (cell_of_row w5 _ 2 _ _ _ hrow5).trans (show _ = some (.int .i64 pn) from rfl)
   have a3 := (cell_of_row w5 _ 3 _ _ _ hrow5).trans (show _ = some (.slice xa pz.length xc) from rfl)
   have hab5 := lG w5 _ a0
   have HX25 : Hid (Ext w2 w5) := HXA.out.trans HX5.out
   have hst5 : StepAt w5 b (off + j * 6) kd a b' c n' ra rl rcap D := HSt2.out.turn (Turn.of_ext (S := fun b => w.heap.size <= b) HX25.out) HB.out HBo.out
   have HSt5 : Hid (StepAt w5 b (off + j * 6) kd a b' c n' ra rl rcap D) := hst5
   obtain ⟨s0, s1, s2, s3, s4, s5, _, _, _, _, _, _, _, _⟩ := hst5
   have hbl := lG w5 _ s0
   clear hx5 p4 hrow5
   have HN5 : Hid (RunsOf w w5 P (j + 1) d' fs' G') := HN2.out.ext HX25.out
   by_cases h1 : pk = 1
   ·by_cases h0 : pc = 0
    ·subst h1 h0
     obtain ⟨s, i, q1, q2, q3, q4, cc, hreq, hL⟩ := HLe.out rfl
     have HLd : Hid (Leased (⟨0, pf, pn, pz⟩, d', fs') s i q1 q2 q3 q4 cc) := hL
     rw [hreq] at HRq
     clear hreq hL
     unfold reqV at *
     go_wp2_with fail
     refine (HPk.out _).mono ?_
     rintro e w6 ⟨rfl, rfl⟩
     go_wp2_with fail
     refine (HRq.out _).mono ?_
     rintro e w6 ⟨rfl, hx6⟩
     have HX6 : Hid (Ext w5 w6) := hx6
     have p6 := hx6.cell p5
     clear hx6 p5 hP5 s0 s1 s2 s3 s4 s5 hbl a0 a1 a2 a3 hab5
     go_wp2_with fail
     have hrq := heap_alloc_new w6 (.cells #[.int .i64 1, .int .i64 s, .int .i64 i, .int .i64 q1, .int .i64 q2, .int .i64 q3, .int .i64 q4, .int .i64 0, .int .i64 cc, .int .i64 0] 51)
     have hxq : Ext w6 (w6.alloc (.cells #[.int .i64 1, .int .i64 s, .int .i64 i, .int .i64 q1, .int .i64 q2, .int .i64 q3, .int .i64 q4, .int .i64 0, .int .i64 cc, .int .i64 0] 51)) := (Ext.refl w6).alloc _
     generalize World.alloc w6 _ = wq at hrq hxq ⊢
     obtain ⟨gq, hgq⟩ : ∃ gq, w6.heap.size = gq := ⟨_, rfl⟩
     rw [hgq] at hrq ⊢
     have HRQ : Hid (wq.heap[gq]? = some (.cells #[.int .i64 1, .int .i64 s, .int .i64 i, .int .i64 q1, .int .i64 q2, .int .i64 q3, .int .i64 q4, .int .i64 0, .int .i64 cc, .int .i64 0] 51 (0, 0))) := hrq
     have HX2q : Hid (Ext w2 wq) := HX25.out.trans (HX6.out.trans hxq)
     have HX5q : Hid (Ext w5 wq) := HX6.out.trans hxq
     have pq := hxq.cell p6
     have hPq := lG wq _ pq
     have k0 := (cell_of_row wq _ 0 _ _ _ hrq).trans (show _ = some (.int .i64 1) from rfl)
     have k1 := (cell_of_row wq _ 1 _ _ _ hrq).trans (show _ = some (.int .i64 s) from rfl)
     have k2 := (cell_of_row wq _ 2 _ _ _ hrq).trans (show _ = some (.int .i64 i) from rfl)
     have k3 := (cell_of_row wq _ 3 _ _ _ hrq).trans (show _ = some (.int .i64 q1) from rfl)
     have k4 := (cell_of_row wq _ 4 _ _ _ hrq).trans (show _ = some (.int .i64 q2) from rfl)
     have k5 := (cell_of_row wq _ 5 _ _ _ hrq).trans (show _ = some (.int .i64 q3) from rfl)
     have k6 := (cell_of_row wq _ 6 _ _ _ hrq).trans (show _ = some (.int .i64 q4) from rfl)
     have k7 := (cell_of_row wq _ 7 _ _ _ hrq).trans (show _ = some (.int .i64 0) from rfl)
     have k8 := (cell_of_row wq _ 8 _ _ _ hrq).trans (show _ = some (.int .i64 cc) from rfl)
     have k9 := (cell_of_row wq _ 9 _ _ _ hrq).trans (show _ = some (.int .i64 0) from rfl)
     have hgql := lG wq _ k0
     have HFq : Hid ((¬ F1 P) /\ (¬ F1 gq) /\ ¬ F1 ab) := ⟨HQ.out.2.2.1, fun hf => by have := HQ.out.2.1.lt gq hf; have := HX25.out.le; have := HX6.out.le; omega, fun hf => by have := HQ.out.2.1.lt ab hf; have := HAb.out; omega⟩
     have HDw : Hid (DealX wq B1 F1 d') := HQ.out.2.1.ext HX2q.out
     have HAs : Hid (∀ w' F2, DealX w' B1 F2 d' -> _) := fun w' F2 hd => (ask_xd HG'.out.1 HG'.out.2 1 s i q1 q2 q3 q4 0 cc 0 hd).1.ask
     have hag := HLd.out.again rfl
     simp only at hag
     rw [hag] at HAs
     unfold reqV at HAs
     clear hag hrq hxq p6 hgq
     have SD : Hid (∀ W2, Turn F1 wq W2 -> (fun w' => w'.cell? ⟨P, 0, none⟩ = some (.pointer (some ⟨B1, 0, none⟩)) /\ w'.cell? ⟨gq, 0, none⟩ = some (.int .i64 1) /\ w'.cell? ⟨gq, 1, none⟩ = some (.int .i64 s) /\ w'.cell? ⟨gq, 2, none⟩ = some (.int .i64 i) /\ w'.cell? ⟨gq, 3, none⟩ = some (.int .i64 q1) /\ w'.cell? ⟨gq, 4, none⟩ = some (.int .i64 q2) /\ w'.cell? ⟨gq, 5, none⟩ = some (.int .i64 q3) /\ w'.cell? ⟨gq, 6, none⟩ = some (.int .i64 q4) /\ w'.cell? ⟨gq, 7, none⟩ = some (.int .i64 0) /\ w'.cell? ⟨gq, 8, none⟩ = some (.int .i64 cc) /\ w'.cell? ⟨gq, 9, none⟩ = some (.int .i64 0)) W2) := fun W2 hT => ⟨hT.cell pq HFq.out.1, hT.cell k0 HFq.out.2.1, hT.cell k1 HFq.out.2.1, hT.cell k2 HFq.out.2.1, hT.cell k3 HFq.out.2.1, hT.cell k4 HFq.out.2.1, hT.cell k5 HFq.out.2.1, hT.cell k6 HFq.out.2.1, hT.cell k7 HFq.out.2.1, hT.cell k8 HFq.out.2.1, hT.cell k9 HFq.out.2.1⟩
     apply cut_on (K := by assumption) (I := fun rb ya yl yc V => ∃ F', AskEnd wq V B1 F1 F' (⟨0, pf, pn, pz⟩, d') rb ya yl yc)
     ·intro HC
      refine wp_region_held_drew (S := ((fun w' => w'.cell? ⟨P, 0, none⟩ = some (.pointer (some ⟨B1, 0, none⟩)) /\ w'.cell? ⟨gq, 0, none⟩ = some (.int .i64 1) /\ w'.cell? ⟨gq, 1, none⟩ = some (.int .i64 s) /\ w'.cell? ⟨gq, 2, none⟩ = some (.int .i64 i) /\ w'.cell? ⟨gq, 3, none⟩ = some (.int .i64 q1) /\ w'.cell? ⟨gq, 4, none⟩ = some (.int .i64 q2) /\ w'.cell? ⟨gq, 5, none⟩ = some (.int .i64 q3) /\ w'.cell? ⟨gq, 6, none⟩ = some (.int .i64 q4) /\ w'.cell? ⟨gq, 7, none⟩ = some (.int .i64 0) /\ w'.cell? ⟨gq, 8, none⟩ = some (.int .i64 cc) /\ w'.cell? ⟨gq, 9, none⟩ = some (.int .i64 0)))) (by kernel_rfl) ⟨pq, k0, k1, k2, k3, k4, k5, k6, k7, k8, k9⟩ (fun hHeld => ?_)
      refine zT 0 hHeld ?_
      refine zT 1 hHeld ?_
      refine zT 2 hHeld ?_
      refine zT 3 hHeld ?_
      refine zT 4 hHeld ?_
      refine wpAnyH_ready (rs := [5, 6]) (by kernel_rfl) (by simp) ?_
      refine AllReadyH.cons (o := _) rfl (fun K hK => ?_) (AllReadyH.cons (o := _) rfl (fun K hK => ?_) AllReadyH.nil)
      ·
       (try simp only [lA, lB, lC])
       go_simp
       refine (HAs.out _ _ (HDw.out.ext (Ext.drew (Ext.refl _)))).mono ?_
       rintro e x6 ⟨ya, yl, yc, F', rfl, hzs, hso⟩
       unfold replyV
       have HSO : Hid (XSo (⟨0, pf, pn, pz⟩, d') _ x6 B1 F1 (.slice ya yl yc) F') := hso
       have HZS : Hid (pz.length <= 100000000) := hzs
       have HT6 : Hid (Turn F1 wq x6) := (Turn.of_ext (Ext.drew (Ext.refl _))).trans hso.turn
       clear hso hzs
       refine hK.out _ _ (SD.out _ HT6.out) (fun hHeld => ?_)
       clear hK K
       try simp only [Act.put, lA, lB, lC, lD, lE, lF]
       refine zR 6 fun K hK => ?_
       (try simp only [lA, lB, lC])
       go_simp
       refine hK.out _ _ (SD.out _ (HT6.out.trans (Turn.of_ext ((Ext.refl _).alloc _)))) (fun hHeld => ?_)
       clear hK K
       try simp only [Act.put, lA, lB, lC, lD, lE, lF]
       obtain ⟨rb, hrb⟩ : ∃ rb, x6.heap.size = rb := ⟨_, rfl⟩
       have HZ2 : Hid ((x6.alloc (.cells #[.int .i64 0, .int .i64 0, .int .i64 0, .slice none 0 0] 33)).heap[rb]? = some (.cells #[.int .i64 0, .int .i64 0, .int .i64 0, .slice none 0 0] 33 (0, 0))) := hrb ▸ heap_alloc_new _ _
       have HX7 : Hid (Ext x6 (x6.alloc (.cells #[.int .i64 0, .int .i64 0, .int .i64 0, .slice none 0 0] 33))) := (Ext.refl _).alloc _
       rw [show x6.heap.size = rb from hrb]
       have HRB : Hid (wq.heap.size <= rb /\ ¬ F' rb) := ⟨by have := HT6.out.size; omega, fun hf => by have := HSO.out.deal.lt rb hf; omega⟩
       have HRR : Hid (x6.heap.size <= rb) := by show _ <= _; omega
       generalize x6.alloc (.cells #[.int .i64 0, .int .i64 0, .int .i64 0, .slice none 0 0] 33) = x7 at HZ2 HX7 hHeld ⊢
       have HT7 : Hid (Turn F1 wq x7) := HT6.out.trans (Turn.of_ext HX7.out)
       clear hrb
       have r0 := (cell_of_row x7 _ 0 _ _ _ HZ2.out).trans (show _ = some (.int .i64 0) from rfl)
       have r1 := (cell_of_row x7 _ 1 _ _ _ HZ2.out).trans (show _ = some (.int .i64 0) from rfl)
       have r2 := (cell_of_row x7 _ 2 _ _ _ HZ2.out).trans (show _ = some (.int .i64 0) from rfl)
       have r3 := (cell_of_row x7 _ 3 _ _ _ HZ2.out).trans (show _ = some (.slice none 0 0) from rfl)
       have z0 := frozen_row HZ2.out 0
       have z1 := frozen_row HZ2.out 1
       have z2 := frozen_row HZ2.out 2
       have z3 := frozen_row HZ2.out 3
       obtain ⟨hv, hVT⟩ := four_end HZ2.out (.int .i64 0) (.int .i64 pf) (.int .i64 pn) (.slice ya yl yc)
       have HV : Hid _ := hv
       have HVT : Hid _ := hVT
       refine zR 7 fun K hK => ?_
       (try simp only [lA, lB, lC])
       go_simp
       refine hK.out _ _ (SD.out _ (HT7.out.trans' HVT.out (fun b hb e => by have := HRB.out.1; omega))) (fun hHeld => ?_)
       clear hK K
       try simp only [Act.put, lA, lB, lC, lD, lE, lF]
       refine wpAnyH_done (by kernel_rfl) ?_ _
       clear hHeld r0 r1 r2 r3 z0 z1 z2 z3
       generalize World.setCell _ _ _ = V at hv hVT HV HVT ⊢
       have HNA : Hid (AskEnd wq V B1 F1 F' (⟨0, pf, pn, pz⟩, d') rb ya yl yc) := ask_end (Ext.drew (Ext.refl _)) HSO.out HZS.out HX7.out HVT.out HV.out HRB.out.1 HRB.out.2 (.inr HRR.out)
       exact HC _ _ _ _ _ ⟨_, HNA.out⟩
      ·
       (try simp only [lA, lB, lC])
       go_simp
       refine hK.out _ _ (SD.out _ (Turn.of_ext (Ext.drew ((Ext.refl _).alloc _)))) (fun hHeld => ?_)
       clear hK K
       try simp only [Act.put, lA, lB, lC, lD, lE, lF]
       obtain ⟨rb, hrb⟩ : ∃ rb, wq.heap.size = rb := ⟨_, rfl⟩
       have HZ0 : Hid (((wq.alloc (.cells #[.int .i64 0, .int .i64 0, .int .i64 0, .slice none 0 0] 33)).drew).heap[rb]? = some (.cells #[.int .i64 0, .int .i64 0, .int .i64 0, .slice none 0 0] 33 (0, 0))) := hrb ▸ heap_alloc_new _ _
       have HXB : Hid (Ext wq (wq.alloc (.cells #[.int .i64 0, .int .i64 0, .int .i64 0, .slice none 0 0] 33)).drew) := Ext.drew ((Ext.refl _).alloc _)
       rw [show wq.heap.size = rb from hrb]
       have HRB0 : Hid (wq.heap.size <= rb) := by show _ <= _; omega
       generalize (wq.alloc (.cells #[.int .i64 0, .int .i64 0, .int .i64 0, .slice none 0 0] 33)).drew = x8 at HZ0 HXB hHeld ⊢
       clear hrb
       refine zR 5 fun K hK => ?_
       (try simp only [lA, lB, lC])
       go_simp
       refine (HAs.out _ _ (HDw.out.ext (HXB.out))).mono ?_
       rintro e x6 ⟨ya, yl, yc, F', rfl, hzs, hso⟩
       unfold replyV
       have HSO : Hid (XSo (⟨0, pf, pn, pz⟩, d') _ x6 B1 F1 (.slice ya yl yc) F') := hso
       have HZS : Hid (pz.length <= 100000000) := hzs
       have HT6 : Hid (Turn F1 wq x6) := (Turn.of_ext (HXB.out)).trans hso.turn
       clear hso hzs
       refine hK.out _ _ (SD.out _ HT6.out) (fun hHeld => ?_)
       clear hK K
       try simp only [Act.put, lA, lB, lC, lD, lE, lF]
       have HRR : Hid (rb < x8.heap.size) := (Array.getElem?_eq_some_iff.1 HZ0.out).1
       have HRB : Hid (wq.heap.size <= rb /\ ¬ F' rb) := ⟨HRB0.out, fun hf => by
        have h1 := HRR.out
        have h2 := HDw.out.lt rb
        rcases HSO.out.grows rb hf with h | h
        ·have := h2 h; have := HRB0.out; omega
        ·omega⟩
       have HFr : Hid (¬ F1 rb) := fun hf => by have := HDw.out.lt rb hf; have := HRB0.out; omega
       have HZ2 : Hid (x6.heap[rb]? = some (.cells #[.int .i64 0, .int .i64 0, .int .i64 0, .slice none 0 0] 33 (0, 0))) := HSO.out.turn.ref HZ0.out HFr.out
       have HT7 : Hid (Turn F1 wq x6) := HT6.out
       have r0 := (cell_of_row x6 _ 0 _ _ _ HZ2.out).trans (show _ = some (.int .i64 0) from rfl)
       have r1 := (cell_of_row x6 _ 1 _ _ _ HZ2.out).trans (show _ = some (.int .i64 0) from rfl)
       have r2 := (cell_of_row x6 _ 2 _ _ _ HZ2.out).trans (show _ = some (.int .i64 0) from rfl)
       have r3 := (cell_of_row x6 _ 3 _ _ _ HZ2.out).trans (show _ = some (.slice none 0 0) from rfl)
       have z0 := frozen_row HZ2.out 0
       have z1 := frozen_row HZ2.out 1
       have z2 := frozen_row HZ2.out 2
       have z3 := frozen_row HZ2.out 3
       obtain ⟨hv, hVT⟩ := four_end HZ2.out (.int .i64 0) (.int .i64 pf) (.int .i64 pn) (.slice ya yl yc)
       have HV : Hid _ := hv
       have HVT : Hid _ := hVT
       refine zR 7 fun K hK => ?_
       (try simp only [lA, lB, lC])
       go_simp
       refine hK.out _ _ (SD.out _ (HT7.out.trans' HVT.out (fun b hb e => by have := HRB.out.1; omega))) (fun hHeld => ?_)
       clear hK K
       try simp only [Act.put, lA, lB, lC, lD, lE, lF]
       refine wpAnyH_done (by kernel_rfl) ?_ _
       clear hHeld r0 r1 r2 r3 z0 z1 z2 z3
       generalize World.setCell _ _ _ = V at hv hVT HV HVT ⊢
       have HNA : Hid (AskEnd wq V B1 F1 F' (⟨0, pf, pn, pz⟩, d') rb ya yl yc) := ask_end HXB.out HSO.out HZS.out (Ext.refl _) HVT.out HV.out HRB.out.1 HRB.out.2 (.inl HRR.out)
       exact HC _ _ _ _ _ ⟨_, HNA.out⟩
     ·intro rb ya yl yc V hC
      obtain ⟨F', hC⟩ := hC
      have HNA : Hid (AskEnd wq V B1 F1 F' (⟨0, pf, pn, pz⟩, d') rb ya yl yc) := hC
      clear hC
      have hyl : yl = pz.length := by
       obtain ⟨a, cap, he⟩ := owns_slice HNA.out.row
       injection he with e1 e2 e3
      subst hyl
      have hrow := HNA.out.rep
      have v0 := (cell_of_row V _ 0 _ _ _ hrow).trans (show _ = some (.int .i64 0) from rfl)
      have v1 := (cell_of_row V _ 1 _ _ _ hrow).trans (show _ = some (.int .i64 pf) from rfl)
      have v2 := (cell_of_row V _ 2 _ _ _ hrow).trans (show _ = some (.int .i64 pn) from rfl)
      have v3 := (cell_of_row V _ 3 _ _ _ hrow).trans (show _ = some (.slice ya pz.length yc) from rfl)
      have hrowA := HNA.out.turn.ref (HX5q.out.block (HX5.out.block HRowA.out)) HFq.out.2.2
      have a0 := (cell_of_row V _ 0 _ _ _ hrowA).trans (show _ = some (.int .i64 0) from rfl)
      have a1 := (cell_of_row V _ 1 _ _ _ hrowA).trans (show _ = some (.int .i64 pf) from rfl)
      have a2 := (cell_of_row V _ 2 _ _ _ hrowA).trans (show _ = some (.int .i64 pn) from rfl)
      have a3 := (cell_of_row V _ 3 _ _ _ hrowA).trans (show _ = some (.slice xa pz.length xc) from rfl)
      have HRA : Hid (V.heap[ab]? = some (.cells #[.int .i64 0, .int .i64 pf, .int .i64 pn, .slice xa pz.length xc] 33 (0, 0))) := hrowA
      have hrbl := lG V _ v0
      have habl := lG V _ a0
      have HR1 : Hid (RdRow V xa pz.length (pz.map (Value.int .u64))) := rd_owns (HNA.out.turn.owns (HX2q.out.owns HRw.out.1) (fun q hq hf => HRw.out.2 q hq (HQ.out.2.2.2 q hf)))
      have HR2 : Hid (RdRow V ya pz.length (pz.map (Value.int .u64))) := rd_owns HNA.out.row
      have HSR : Hid (∀ w', Ext V w' -> _) := fun w' hx => ksameReply_c 0 pf pn pz (by have := HNA.out.le; simp only at this; omega) xa ya xc yc w' (HR1.out.ext hx) (HR2.out.ext hx)
      have HRV : Hid (RunsOf w V P (j + 1) d' fs' (fun b => G' b \/ F' b)) := runs_ask (HN5.out.ext HX5q.out) HQf.out HX2q.out HNA.out
      have HQV : Hid (V.heap[gq]? = some (.cells #[.int .i64 1, .int .i64 s, .int .i64 i, .int .i64 q1, .int .i64 q2, .int .i64 q3, .int .i64 q4, .int .i64 0, .int .i64 cc, .int .i64 0] 51 (0, 0))) := HNA.out.turn.ref HRQ.out HFq.out.2.1
      have HLV : Hid (V.ownsRow W2.heap.size 56 9 lv d'.ls.length (lsCells d'.ls)) := HNA.out.turn.owns (HX5q.out.owns HL5.out) (fun q hq hf => by
       have h1 := (World.ownsRow.lt HL5.out q hq).1
       have h2 := HQ.out.2.1.lt q hf
       have h3 := HXA.out.le
       omega)
      clear hrow hrowA pq hPq k0 k1 k2 k3 k4 k5 k6 k7 k8 k9 hgql
      unfold replyV at HSR
      have HHas : Hid _ := HLd.out.has rfl
      generalize pz.length = zl at *
      go_wp2_with fail
      refine (HSR.out _ (Ext.refl _)).mono ?_
      rintro e x9 ⟨rfl, hx9⟩
      have HX9 : Hid (Ext V x9) := hx9
      have HA9 : Hid (x9.heap[ab]? = some (.cells #[.int .i64 0, .int .i64 pf, .int .i64 pn, .slice xa zl xc] 33 (0, 0))) := hx9.block HRA.out
      clear hx9
      have HQ9 : Hid (x9.heap[gq]? = some (.cells #[.int .i64 1, .int .i64 s, .int .i64 i, .int .i64 q1, .int .i64 q2, .int .i64 q3, .int .i64 q4, .int .i64 0, .int .i64 cc, .int .i64 0] 51 (0, 0))) := HX9.out.block HQV.out
      have HL9 : Hid (x9.ownsRow W2.heap.size 56 9 lv d'.ls.length (lsCells d'.ls)) := HX9.out.owns HLV.out
      have HR9 : Hid (RunsOf w x9 P (j + 1) d' fs' (fun b => G' b \/ F' b)) := HRV.out.ext HX9.out
      clear v0 v1 v2 v3 a0 a1 a2 a3 hrbl habl HSR HRV HQV HLV HX9 HR1 HR2 HNA SD HAs HDw
      obtain ⟨la, lcap, rfl⟩ := owns_slice HL9.out
      obtain ⟨ln, hln⟩ : ∃ ln, d'.ls.length = ln := ⟨_, rfl⟩
      have HLN : Hid (d'.ls.length = ln) := hln
      have hlnb : ln <= 30 := by have := HG'.out.1.inv.leases; omega
      rw [hln] at HL9 ⊢
      clear hln
      go_wp2_with fail
      go_loopw [13, 14] (fun fv kv wr => ∃ k : Nat, k <= ln /\ kv = .int .i64 k /\ fv = .bool ((d'.ls.take k).any (matchB s i pf cc q1 q2 q3 q4)) /\ Ext x9 wr) (fun _ kv _ => ln - (intOf kv).toNat)
      case atStart => exact ⟨0, Nat.zero_le _, rfl, rfl, Ext.refl _⟩
      case round =>
       obtain ⟨k, hk, rfl, rfl, hx3⟩ := hrel
       have HX3 : Hid (Ext x9 wr) := hx3
       by_cases hkl : k < ln
       ·have hkL : k < d'.ls.length := by rw [HLN.out]; exact hkl
        obtain ⟨gl, rfl⟩ : ∃ gl, la = some ⟨gl, 0, none⟩ := by
         rcases owns_form HL9.out with ⟨_, h0, _⟩ | ⟨g, cap, he, _, _, _⟩
         ·omega
         ·injection he with e1 e2 e3
          exact ⟨g, e1⟩
        obtain ⟨l0, l1, l2, l3, l4, l5, l6, l7, l8⟩ := (show LeasesAt wr (.slice (some ⟨gl, 0, none⟩) ln lcap) d'.ls from by
         show World.ownsRow _ _ _ _ _ _ _
         rw [HLN.out]
         exact owns_base (hx3.owns HL9.out) (Nat.zero_le _)).cells k hkL
        have hgl := lG wr _ l0
        have hq9 := hx3.block HQ9.out
        have c1 := (cell_of_row wr _ 1 _ _ _ hq9).trans (show _ = some (.int .i64 s) from rfl)
        have c2 := (cell_of_row wr _ 2 _ _ _ hq9).trans (show _ = some (.int .i64 i) from rfl)
        have c3 := (cell_of_row wr _ 3 _ _ _ hq9).trans (show _ = some (.int .i64 q1) from rfl)
        have c4 := (cell_of_row wr _ 4 _ _ _ hq9).trans (show _ = some (.int .i64 q2) from rfl)
        have c5 := (cell_of_row wr _ 5 _ _ _ hq9).trans (show _ = some (.int .i64 q3) from rfl)
        have c6 := (cell_of_row wr _ 6 _ _ _ hq9).trans (show _ = some (.int .i64 q4) from rfl)
        have c8 := (cell_of_row wr _ 8 _ _ _ hq9).trans (show _ = some (.int .i64 cc) from rfl)
        have ha9 := hx3.block HA9.out
        have d1 := (cell_of_row wr _ 1 _ _ _ ha9).trans (show _ = some (.int .i64 pf) from rfl)
        have hgqw := lG wr _ c1
        have habw := lG wr _ d1
        have HT : Hid ((d'.ls.take (k + 1)).any (matchB s i pf cc q1 q2 q3 q4) = ((d'.ls.take k).any (matchB s i pf cc q1 q2 q3 q4) || matchB s i pf cc q1 q2 q3 q4 d'.ls[k])) := by
         show _ = _
         rw [List.take_succ_eq_append_getElem hkL, List.any_append]
         simp
        have hk0 : (0 : Int) <= (k : Int) := by omega
        have hk1 : (k : Int) < ln := by omega
        generalize (d'.ls.take k).any (matchB s i pf cc q1 q2 q3 q4) = fb at *
        generalize d'.ls[k] = l at *
        clear hkL hx3 hq9 ha9 l8
        cases fb
        ·by_cases e1 : l.s = s
         ·by_cases e2 : l.i = i
          ·by_cases e3 : l.f = pf
           ·by_cases e4 : l.c = cc
            ·have HM : Hid (matchB s i pf cc q1 q2 q3 q4 l = (l.kd == q1 && (l.m == q2 && (l.k == q3 && l.n == q4)))) := by show _ = _; simp [matchB, e1, e2, e3, e4]
             rw [HM.out] at HT
             rw [e1] at l0
             rw [e2] at l1
             rw [e3] at l6
             rw [e4] at l7
             have hcb : ∃ cb, (l.kd == q1 && (l.m == q2 && (l.k == q3 && l.n == q4))) = cb := ⟨_, rfl⟩
             obtain ⟨cb, hcb⟩ := hcb
             rw [hcb] at HT
             clear e1 e2 e3 e4 HM
             cases cb
             ·go_wp2_with fail
              go_quiet (fail)
              go_wp2_with fail
              exact ⟨⟨k + 1, by omega, by go_num, by rw [HT.out]; rfl, Ext.drewN HX3.out _⟩, by simp [intOf]; omega⟩
             ·go_wp2_with fail
              go_quiet (fail)
              go_wp2_with fail
              exact ⟨⟨k + 1, by omega, by go_num, by rw [HT.out]; rfl, Ext.drewN HX3.out _⟩, by simp [intOf]; omega⟩
            ·have HM : Hid (matchB s i pf cc q1 q2 q3 q4 l = false) := by show _ = _; simp [matchB, e4]
             have e4b : (l.c == cc) = false := by simp [e4]
             have e4d : decide (l.c = cc) = false := by simp [e4]
             rw [HM.out] at HT
             rw [e1] at l0
             rw [e2] at l1
             rw [e3] at l6
             clear e1 e2 e3
             go_wp2_with fail
             go_quiet (fail)
             go_wp2_with fail
             exact ⟨⟨k + 1, by omega, by go_num, by rw [HT.out]; rfl, Ext.drewN HX3.out _⟩, by simp [intOf]; omega⟩
           ·have HM : Hid (matchB s i pf cc q1 q2 q3 q4 l = false) := by show _ = _; simp [matchB, e3]
            have e3b : (l.f == pf) = false := by simp [e3]
            have e3d : decide (l.f = pf) = false := by simp [e3]
            rw [HM.out] at HT
            rw [e1] at l0
            rw [e2] at l1
            clear e1 e2
            go_wp2_with fail
            go_quiet (fail)
            go_wp2_with fail
            exact ⟨⟨k + 1, by omega, by go_num, by rw [HT.out]; rfl, Ext.drewN HX3.out _⟩, by simp [intOf]; omega⟩
          ·have HM : Hid (matchB s i pf cc q1 q2 q3 q4 l = false) := by show _ = _; simp [matchB, e2]
           have e2b : (l.i == i) = false := by simp [e2]
           have e2d : decide (l.i = i) = false := by simp [e2]
           rw [HM.out] at HT
           rw [e1] at l0
           clear e1
           go_wp2_with fail
           go_quiet (fail)
           go_wp2_with fail
           exact ⟨⟨k + 1, by omega, by go_num, by rw [HT.out]; rfl, Ext.drewN HX3.out _⟩, by simp [intOf]; omega⟩
         ·have HM : Hid (matchB s i pf cc q1 q2 q3 q4 l = false) := by show _ = _; simp [matchB, e1]
          have e1b : (l.s == s) = false := by simp [e1]
          have e1d : decide (l.s = s) = false := by simp [e1]
          rw [HM.out] at HT
          go_wp2_with fail
          go_quiet (fail)
          go_wp2_with fail
          exact ⟨⟨k + 1, by omega, by go_num, by rw [HT.out]; rfl, Ext.drewN HX3.out _⟩, by simp [intOf]; omega⟩
        ·rw [Bool.true_or] at HT
         go_wp2_with fail
         go_quiet (fail)
         go_wp2_with fail
         exact ⟨⟨k + 1, by omega, by go_num, by rw [HT.out], Ext.drewN HX3.out _⟩, by simp [intOf]; omega⟩
       ·obtain rfl : ln = k := by omega
        have hany : (d'.ls.take ln).any (matchB s i pf cc q1 q2 q3 q4) = true := by
         rw [List.take_of_length_le (by rw [HLN.out]; exact Nat.le_refl _)]
         obtain ⟨l, hl, h1, h2, h3, h4, h5, h6, h7, h8⟩ := HHas.out
         exact List.any_eq_true.2 ⟨l, hl, by simp [matchB, h1, h2, h3, h4, h5, h6, h7, h8]⟩
        rw [hany]
        clear hx3 hany
        go_wp2_with fail
        exact ⟨⟨j + 1, by omega, by go_num, d', fs', _, HR9.out.ext HX3.out⟩, by simp [intOf]; omega⟩
    ·subst h1
     go_wp2_with fail
     refine (HPk.out _).mono ?_
     rintro e w6 ⟨rfl, rfl⟩
     go_wp2_with fail
     exact ⟨⟨j + 1, by omega, by go_num, d', fs', G', HN5.out⟩, by simp [intOf]; omega⟩
   ·have hpk1 : ¬ (pk : Int) = 1 := by omega
    go_wp2_with fail
    refine (HPk.out _).mono ?_
    rintro e w6 ⟨rfl, rfl⟩
    go_wp2_with fail
    exact ⟨⟨j + 1, by omega, by go_num, d', fs', G', HN5.out⟩, by simp [intOf]; omega⟩
  ·obtain rfl : n = j := by omega
   go_wp2_with fail
   refine (kept_x wr HR.out (by omega)).mono ?_
   rintro e w6 ⟨rfl, ht6⟩
   have HT6 : Hid (Turn (fun b => w.heap.size <= b) w w6) := ht6
   clear ht6
   go_wp2_with fail
   go_ret
   exact ⟨rfl, HT6.out⟩
end
-- VZo
section
set_option maxRecDepth 100000
open Go.ChangeShapes Go.WideShapes Go.ChangeAt Go.RowKit Go.Joins
theorem once_contract (H : Type) (enc : TypeId × Value -> H) (W : World) (base : Nat) (args : Array Value) (ds gs : List (DataW H)) (before : List MemPlace)
  (hval : ∀ (j : Nat) t v, Tryz.f6.params[j]? = some t -> args[j]? = some v -> Value.okWide Tryz.prog W .any base t v)
  (hW : DataW.Whole enc Tryz.prog Tryz.f6.params.toList Rows.onceSpec.vars false W args.toList ds gs before) (hk : Rows.uptoSmall H (ds ++ gs) = true) :
  Calls Tryz.prog 6 args W fun e W' => ∃ v, e = .returned v /\ Rows.onceSpec.post enc Tryz.prog Tryz.f6 false true false false W args v W' := by
 have hW' := hW
 obtain ⟨p, q, hA0, hV, rfl, hfz, hnd⟩ := hW
 have hA : DataW.TrodAll enc Tryz.prog W 0 (fun _ => true) true Tryz.f6.params.toList args.toList ds p := hA0
 rw [Tryz.params6] at hA hval
 obtain ⟨v0, vs0, d0, ds0, p0, q0, hargs, rfl, rfl, h0, r0⟩ := trodAll_cons hA
 obtain ⟨rfl, rfl, rfl⟩ := trodAll_nil r0
 obtain rfl : args = #[v0] := by cases args; simp_all
 obtain ⟨rfl, rfl⟩ := trodVars_none hV
 have k0 := h0
 have lt0 : ∀ x ∈ p0, x.block < W.heap.size := by obtain ⟨m, hm⟩ := k0; exact DataW.trod_lt m _ _ _ hm
 have hbulk : Rows.uptoBulkAll ([d0] ++ []) <= 1048576 := of_decide_eq_true hk
 simp only [List.append_nil, Rows.uptoBulkAll] at hbulk
 obtain ⟨a0, len0, cap0, rfl⟩ := okWide_slice Tryz.underlying27 (hval 0 27 v0 rfl rfl)
 obtain ⟨hn0, hs0⟩ : len0 <= 150000 /\ KScriptAt W W.heap.size a0 len0 := by
  obtain ⟨fuel, hf⟩ := h0
  obtain ⟨a, n, cap, hv, hn, hs⟩ := open_kscript (y := (d0, p0)) hf (show Rows.uptoBulk d0 <= 1048576 by omega)
  injection hv with e1 e2 e3
  subst e1; subst e2
  exact ⟨hn, hs⟩
 clear hA0 h0
 refine (onceTop_c a0 len0 cap0 hn0 W hs0).mono fun e W' ⟨he, ht⟩ => ?_
 have bel : Below W.heap.size W W' := ext_of_turn ht
 subst he
 exact ⟨_, rfl, _, _, _, [], _, [], hW', trodAll_mk1 (shut_bool Tryz.underlying4 _), (trodAll_cons_mk (Below.trod laidOutK (by kernel_rfl) (of_decide_eq_true (by kernel_rfl)) k0 bel lt0) trodAll_mk0), rfl, bel.frame _, fun h => by cases h⟩
theorem once_lifted (os : Os) (started : os.Started) (H : Type) (enc : TypeId × Value -> H) (F : Stop.Interp) :
  ReturnsInHanded {} Tryz.checked os 6 .any ((Rows.OpenSpec.upto Rows.onceSpec).pre6 enc Tryz.prog Tryz.f6 Rows.onceUptoRow.domain false) (((Rows.OpenSpec.upto Rows.onceSpec).at F).post enc Tryz.prog Tryz.f6 false true false false) := by
 refine returnsInHanded_of_cond (C := Tryz.checked) (s := Rows.OpenSpec.upto Rows.onceSpec) (k := Rows.uptoSmall) rfl ownK started (by kernel_rfl) Tryz.func6
  (OpenSpec.witness (enc := enc) (C := Tryz.checked) (s := Rows.OpenSpec.upto Rows.onceSpec) (k := Rows.uptoSmall) rfl false ⟨#[], #[.slice none 0 0], []⟩ 8 (by kernel_rfl) (by kernel_rfl) (by kernel_rfl)
    (x := ([.nil], [], [])) (by kernel_rfl) rfl (by kernel_rfl)) ?_
 intro W base args ds gs before hval hW _ hk _
 exact once_contract H enc W base args ds gs before hval hW hk
theorem once_over : Rows.onceUptoRow.holds Tryz.pinned (Rows.OpenSpec.upto Rows.onceSpec) :=
 OpenClaim.holds_of_cond 6 Tryz.f6 rfl rfl rfl rfl rfl rfl rfl ⟨rfl, rfl, rfl, rfl, rfl⟩ rfl rfl rfl rfl rfl (by kernel_rfl) Tryz.func6 (by kernel_rfl)
  (of_decide_eq_true (by kernel_rfl)) (by unfold Func.isWrapper; first | (rw [if_pos (by decide +kernel)]; kernel_rfl) | (rw [if_neg (by decide +kernel)]; exact ⟨rfl, rfl⟩))
  (fun os started H enc _ F => once_lifted os started H enc F)
theorem once_holds : Rows.OnceUptoSaid := once_over
end
end Go.Proofs.YtmnjhhachdlmkaaGreat
