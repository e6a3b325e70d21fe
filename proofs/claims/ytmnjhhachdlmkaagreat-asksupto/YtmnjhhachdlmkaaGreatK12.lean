import Derived.Test.YtmnjhhachdlmkaaGreatK11
namespace Go.Proofs.YtmnjhhachdlmkaaGreat
open World renaming block_lt_of_cell? -> lG
open Value renaming ownBlock -> lH
-- HRh
section
set_option maxRecDepth 100000
set_option maxHeartbeats 1600000
open Go.RowKit Go.Maps
/-- Does a lease hold a triple for a session? -/
def holdsP (ss kd m k n num : Int) (l : LsV) : Bool := l.s == ss && ((l.kd == kd && (l.m == m && (l.k == k && l.n == n))) && (!l.r && (decide (l.f <= num) && decide (num < l.f + l.c))))
theorem refHeld_c {G : Nat -> Prop} (p : Nat) (S : List Stk) (ls : List LsV) (ss kd m k n num : Int) (hls : ls.length <= 1000) (hfc : ∀ l ∈ ls, 0 <= l.f /\ l.f <= 1000 /\ 0 <= l.c /\ l.c <= 1000) (w : World) (h : RefAt w G p S ls) :
  Calls Tryz.prog 188 #[.pointer (some ⟨p, 0, none⟩), .int .i64 ss, clsV kd m k n, .int .i64 num] w fun e w' => e = .returned (.bool (ls.any (holdsP ss kd m k n num))) /\ Ext w w' := by
 obtain ⟨stv, lsv, css, h1, h2, h3, h4, h5, h6⟩ := h
 have c1 : w.cell? ⟨p, 1, none⟩ = some lsv := cell_at h1 rfl
 have hp := lG w _ c1
 have heq := fun (a b c e a' b' c' e' : Int) (w : World) => eqClass 9998 a b c e a' b' c' e' w
 obtain ⟨len, hlen⟩ : ∃ len, ls.length = len := ⟨_, rfl⟩
 have HLEN : Hid (ls.length = len) := hlen
 have HFC : Hid (∀ l ∈ ls, 0 <= l.f /\ l.f <= 1000 /\ 0 <= l.c /\ l.c <= 1000) := hfc
 obtain ⟨fi, hfi⟩ : ∃ fi : Bool, fi = ls.any (holdsP ss kd m k n num) := ⟨_, rfl⟩
 rw [<- hfi]
 have HFi : Hid (fi = ls.any (holdsP ss kd m k n num)) := hfi
 clear hfi h1 h2 h3 h4 h5 hfc
 unfold clsV
 rcases h6 with ⟨rfl, hn0⟩ | ⟨g, cap, rfl, hcap, _, hcell, _⟩
 ·have hS0 : ls = [] := List.length_eq_zero_iff.1 hn0
  subst hS0
  go_enter Tryz.func188, Tryz.ntmps188
  go_wp2
  go_loopw [9, 10] (fun i _ wr => i = .int .i64 0 /\ Ext w wr) (fun _ _ _ => 0)
  case atStart => exact ⟨rfl, (Ext.refl _).alloc _⟩
  case round =>
   obtain ⟨rfl, hx⟩ := hrel
   have c1 := hx.cell c1
   go_wp2
   go_ret
   exact ⟨by rw [HFi.out]; rfl, hx⟩
 ·have HCell : Hid _ := hcell
  rw [hlen] at c1 hls hcap
  clear hcell hlen
  go_enter Tryz.func188, Tryz.ntmps188
  go_wp2
  have hf := four_in (Ext.refl (w.alloc (.cells #[.int .i64 kd, .int .i64 m, .int .i64 k, .int .i64 n] 49)))
  have HXV : Hid (Ext w (w.alloc (.cells #[.int .i64 kd, .int .i64 m, .int .i64 k, .int .i64 n] 49))) := (Ext.refl w).alloc _
  generalize World.alloc w _ = V at hf HXV ⊢
  obtain ⟨d0, d1, d2, d3⟩ := hf
  have c1 := HXV.out.cell c1
  go_loopw [9, 10] (fun i _ wr => ∃ j : Nat, j <= len /\ i = .int .i64 j /\ (∀ x ∈ ls.take j, holdsP ss kd m k n num x = false) /\ Ext V wr) (fun i _ _ => len - (intOf i).toNat)
  case atStart => exact ⟨0, Nat.zero_le _, rfl, by simp, Ext.refl _⟩
  case round =>
   obtain ⟨j, hj, rfl, hno, hx⟩ := hrel
   have HNO : Hid (∀ x ∈ ls.take j, holdsP ss kd m k n num x = false) := hno
   have HX : Hid (Ext w wr) := HXV.out.trans hx
   have HX2 : Hid (Ext V wr) := hx
   have c1 := hx.cell c1
   have d0 := hx.cell d0
   have d1 := hx.cell d1
   have d2 := hx.cell d2
   have d3 := hx.cell d3
   have hcl := lG wr _ d0
   clear hno hx
   by_cases hlt : j < len
   ·have hjl : j < ls.length := by rw [HLEN.out]; exact hlt
    obtain ⟨l0, l1, l2, l3, l4, l5, l6, l7, l8⟩ := rowLs (fun i u hu => HX.out.cell (HCell.out i u hu)) j hjl
    have hgl := lG wr _ l0
    obtain ⟨hf0, hf1, hcc0, hcc1⟩ := HFC.out ls[j] (List.getElem_mem hjl)
    have hk0 : (0 : Int) <= (j : Int) := by omega
    have hk1 : (j : Int) < len := by omega
    by_cases his : holdsP ss kd m k n num ls[j] = true
    ·have HF : Hid (ls.any (holdsP ss kd m k n num) = true) := List.any_eq_true.2 ⟨ls[j], List.getElem_mem hjl, his⟩
     have his2 : ls[j].s = ss /\ (ls[j].kd = kd /\ ls[j].m = m /\ ls[j].k = k /\ ls[j].n = n) /\ ls[j].r = false /\ ls[j].f <= num /\ num < ls[j].f + ls[j].c := by simpa [holdsP] using his
     obtain ⟨e0, ⟨e1, e2, e3, e4⟩, e8, e5, e6⟩ := his2
     rw [e0] at l0
     rw [e1] at l2
     rw [e2] at l3
     rw [e3] at l4
     rw [e4] at l5
     rw [e8] at l8
     clear his e0 e1 e2 e3 e4 e8
     generalize ls[j] = l at *
     go_wp2
     go_ret
     exact ⟨by rw [HFi.out, HF.out]; rfl, HX.out.alloc _⟩
    ·have HN2 : Hid (∀ x ∈ ls.take (j + 1), holdsP ss kd m k n num x = false) := take_no hjl HNO.out (by simpa using his)
     have HNC : Hid (¬ (ls[j].s = ss /\ (ls[j].kd = kd /\ ls[j].m = m /\ ls[j].k = k /\ ls[j].n = n) /\ ls[j].r = false /\ ls[j].f <= num /\ num < ls[j].f + ls[j].c)) := by
      have his2 : ¬ (ls[j].s = ss /\ (ls[j].kd = kd /\ ls[j].m = m /\ ls[j].k = k /\ ls[j].n = n) /\ ls[j].r = false /\ ls[j].f <= num /\ num < ls[j].f + ls[j].c) := by simpa [holdsP] using his
      exact his2
     clear his
     generalize ls[j] = l at *
     obtain ⟨ls0, ls1, lkd, lm, lk, ln, lf, lc, lr⟩ := l
     simp only at *
     by_cases hs : ls0 = ss
     ·subst hs
      by_cases hb1 : (lkd == kd && (lm == m && (lk == k && ln == n))) = true
      ·cases lr with
       | true =>
        go_wp2
        go_roundw
        case rel => exact ⟨j + 1, by omega, by go_num, HN2.out, HX2.out.alloc _⟩
        case measure => simp [intOf]; omega
       | false =>
        by_cases hfn : lf <= num
        ·by_cases hcn : num < lf + lc
         ·exact absurd ⟨rfl, by simpa using hb1, rfl, hfn, hcn⟩ HNC.out
         ·clear HNC
          go_wp2
          go_roundw
          case rel => exact ⟨j + 1, by omega, by go_num, HN2.out, HX2.out.alloc _⟩
          case measure => simp [intOf]; omega
        ·clear HNC
         go_wp2
         go_roundw
         case rel => exact ⟨j + 1, by omega, by go_num, HN2.out, HX2.out.alloc _⟩
         case measure => simp [intOf]; omega
      ·have hb2 : (lkd == kd && (lm == m && (lk == k && ln == n))) = false := by simpa using hb1
       clear hb1 HNC
       go_wp2
       go_roundw
       case rel => exact ⟨j + 1, by omega, by go_num, HN2.out, HX2.out.alloc _⟩
       case measure => simp [intOf]; omega
     ·clear HNC
      go_wp2
      go_roundw
      case rel => exact ⟨j + 1, by omega, by go_num, HN2.out, HX2.out.alloc _⟩
      case measure => simp [intOf]; omega
   ·obtain rfl : j = len := by omega
    have HF : Hid (ls.any (holdsP ss kd m k n num) = false) := List.any_eq_false.2 (fun x hx => by
     have h1 := HNO.out
     rw [List.take_of_length_le (by rw [HLEN.out]; exact Nat.le_refl _)] at h1
     simp [h1 x hx])
    go_wp2
    go_ret
    exact ⟨by rw [HFi.out, HF.out]; rfl, HX.out⟩
end
-- HRc
section
set_option maxRecDepth 100000
set_option maxHeartbeats 1600000
open Go.RowKit Go.Maps
theorem infoRStk : (Tryz.prog.info? 198).map (fun i => (i.zero, i.size, i.bytes)) = some (some (.agg #[.int .i64 0, .int .i64 0, .int .i64 0, .int .i64 0, .slice none 0 0, .int .i64 0, .int .i64 0]), 7, 72) := by kernel_rfl
theorem refCopied_c (p n1 n2 : Nat) (v1 v2 : Value) (xs ys : List Value) (hn1 : n1 <= 1000) (hn2 : n2 <= 1000) (w : World) (hp : w.heap[p]? = some (.cells #[v1, v2] 98 (0, 0)))
  (h1 : (v1 = .slice none 0 0 /\ n1 = 0 /\ xs = []) \/ ∃ g cap, v1 = .slice (some ⟨g, 0, none⟩) n1 cap /\ 1 <= n1 /\ xs.length = n1 * 7 /\ (∀ u ∈ xs, u.oneCell' = true) /\ ∀ i u, xs[i]? = some u -> w.cell? ⟨g, i, none⟩ = some u)
  (h2 : (v2 = .slice none 0 0 /\ n2 = 0 /\ ys = []) \/ ∃ g cap, v2 = .slice (some ⟨g, 0, none⟩) n2 cap /\ 1 <= n2 /\ ys.length = n2 * 9 /\ (∀ u ∈ ys, u.oneCell' = true) /\ ∀ i u, ys[i]? = some u -> w.cell? ⟨g, i, none⟩ = some u) :
  Calls Tryz.prog 148 #[.pointer (some ⟨p, 0, none⟩)] w fun e w' => ∃ q v1' v2', e = .returned (.pointer (some ⟨q, 0, none⟩)) /\ w'.heap[q]? = some (.cells #[v1', v2'] 98 (0, 0)) /\ w'.ownsRow w.heap.size 198 7 v1' n1 xs /\ w'.ownsRow w.heap.size 56 9 v2' n2 ys /\ w.heap.size <= q /\ Ext w w' /\ (v1' = .slice none 0 0 \/ 1 <= n1) /\ (v2' = .slice none 0 0 \/ 1 <= n2) := by
 obtain ⟨i0, hi, hz0, hz1, hz2⟩ := info_parts infoRStk
 obtain ⟨j0, hj, hy0, hy1, hy2⟩ := info_parts infoLease
 have c0 : w.cell? ⟨p, 0, none⟩ = some v1 := cell_at hp rfl
 have c1 : w.cell? ⟨p, 1, none⟩ = some v2 := cell_at hp rfl
 have hpl := lG w _ c0
 clear hp
 rcases h1 with ⟨rfl, rfl, rfl⟩ | ⟨g1, cap1, rfl, hm1, hl1, ho1, hc1⟩
 ·skip
  go_enter Tryz.func148, Tryz.ntmps148
  go_wp2_with fail
  have hq0 : (w.alloc (.cells #[.slice none 0 0, .slice none 0 0] 98)).heap[w.heap.size]? = some (.cells #[.slice none 0 0, .slice none 0 0] 98 (0, 0)) := heap_alloc_new _ _
  have hXW : Ext w (w.alloc (.cells #[.slice none 0 0, .slice none 0 0] 98)) := (Ext.refl w).alloc _
  obtain ⟨q, hqE⟩ : ∃ q, w.heap.size = q := ⟨_, rfl⟩
  rw [hqE] at hq0
  simp only [hqE]
  generalize World.alloc w _ = W at hq0 hXW ⊢
  have hqp : q ≠ p := by omega
  have hqW : q < W.heap.size := (Array.getElem?_eq_some_iff.1 hq0).1
  have HXW : Hid (Ext w W) := hXW
  have HQ0 : Hid (W.heap[q]? = some (.cells #[.slice none 0 0, .slice none 0 0] 98 (0, 0))) := hq0
  have x0 : W.cell? ⟨q, 0, none⟩ = some (.slice none 0 0) := cell_at hq0 rfl
  have x1 : W.cell? ⟨q, 1, none⟩ = some (.slice none 0 0) := cell_at hq0 rfl
  have f0 := frozen_row hq0 0
  have f1 := frozen_row hq0 1
  have c0 := hXW.cell c0
  have c1 := hXW.cell c1
  clear hXW hq0
  go_region
  all_goals
   have HB1 : Hid (((W.setCell ⟨q, 0, none⟩ (.slice none 0 0)).drew).heap[q]? = some (.cells #[.slice none 0 0, .slice none 0 0] 98 (0, 0))) := at_drew (setCell_row HQ0.out _)
   have HW1 : Hid (((W.setCell ⟨q, 0, none⟩ (.slice none 0 0)).drew).ownsRow w.heap.size 198 7 (.slice none 0 0) 0 []) := World.ownsRow_nil _ _ _ _
   have HXW1 : Hid (Ext w ((W.setCell ⟨q, 0, none⟩ (.slice none 0 0)).drew)) := Ext.drew (Ext.setCell HXW.out (by show w.heap.size <= q; omega) _)
   have HN1 : Hid (lH (.slice none 0 0) ≠ some q) := fun e => by simp [lH] at e
   have c1b := (World.cell?_setCell_far W ⟨q, 0, none⟩ ⟨p, 1, none⟩ (.slice none 0 0) hqp).trans c1
   have x1c : ((W.setCell ⟨q, 0, none⟩ (.slice none 0 0)).drew).cell? ⟨q, 1, none⟩ = some (.slice none 0 0) := cell_at HB1.out rfl
   have f1c := frozen_row HB1.out 1
   have hqw : w.heap.size <= q := by omega
   have hW1l := HXW1.out.le
   have c1c : ((W.setCell ⟨q, 0, none⟩ (.slice none 0 0)).drew).cell? ⟨p, 1, none⟩ = some v2 := c1b
   clear c1b
   have c1b := c1c
   clear c1c
   generalize World.drew (World.setCell W _ _) = W1 at HB1 HW1 HXW1 c1b x1c f1c hW1l ⊢
   clear x0 x1 f0 f1 c0 c1 HQ0 HXW
   go_wp2_with fail
   rcases h2 with ⟨rfl, rfl, rfl⟩ | ⟨g2, cap2, rfl, hm2, hl2, ho2, hc2⟩
   ·go_region
    all_goals
     have HF : Hid ((W1.drew.setCell ⟨q, 1, none⟩ (.slice none 0 0)).heap[q]? = some (.cells #[.slice none 0 0, .slice none 0 0] 98 (0, 0)) /\ (W1.drew.setCell ⟨q, 1, none⟩ (.slice none 0 0)).ownsRow w.heap.size 198 7 (.slice none 0 0) 0 [] /\ Ext w (W1.drew.setCell ⟨q, 1, none⟩ (.slice none 0 0))) := ⟨setCell_row (at_drew HB1.out) _, owns_setCell (World.ownsRow.drew HW1.out) HN1.out _, Ext.setCell (Ext.drew HXW1.out) hqw _⟩
     go_wp2
     go_ret
     exact ⟨q, .slice none 0 0, .slice none 0 0, rfl, HF.out.1, HF.out.2.1, World.ownsRow_nil _ _ _ _, hqw, HF.out.2.2, .inl rfl, .inl rfl⟩
   ·have HC2 : Hid _ := hc2
    have HO2 : Hid _ := ho2
    have HL2 : Hid _ := hl2
    clear hc2 ho2 hl2
    go_region_law (first
     | (refine step_append_lies _ (by rfl) _ _ 38 (by rfl) w.heap.size 56 j0 _ 9 72 Tryz.underlying38 hj hy0 hy1 hy2 (by rfl) (by decide) (.slice none 0 0) 0 [] (by rfl) (World.ownsRow_nil _ _ _ _) ⟨g2, 0, none⟩ n2 cap2 ys (by rfl) HL2.out (fun j u hu => by rw [addr_add', Nat.zero_add]; exact (Ext.drew HXW1.out).cell (HC2.out j u hu)) HO2.out (by omega) (by unfold maxLen; omega) (by omega) (by show w.heap.size <= W1.heap.size; omega) _ rfl ?_; intro gg2 gc2 w2 hown2 hgrow2 hat2 hlt2; have hX2 : Ext W1 w2 := Ext.grown (Ext.drew (Ext.refl W1)) hgrow2 (by simp [lH]); have x1b := hX2.cell x1c; have f1b := frozen_row (hX2.block HB1.out) 1))
    all_goals
     have hg2q : gg2 ≠ q := by
      obtain ⟨cur, hc⟩ := owns_block hown2 (g := gg2) rfl
      exact type_ne hc (hX2.block HB1.out) (by decide)
     have HF : Hid ((w2.setCell ⟨q, 1, none⟩ (.slice (some ⟨gg2, 0, none⟩) n2 gc2)).heap[q]? = some (.cells #[.slice none 0 0, .slice (some ⟨gg2, 0, none⟩) n2 gc2] 98 (0, 0)) /\ (w2.setCell ⟨q, 1, none⟩ (.slice (some ⟨gg2, 0, none⟩) n2 gc2)).ownsRow w.heap.size 198 7 (.slice none 0 0) 0 [] /\ (w2.setCell ⟨q, 1, none⟩ (.slice (some ⟨gg2, 0, none⟩) n2 gc2)).ownsRow w.heap.size 56 9 (.slice (some ⟨gg2, 0, none⟩) n2 gc2) n2 ys /\ Ext w (w2.setCell ⟨q, 1, none⟩ (.slice (some ⟨gg2, 0, none⟩) n2 gc2))) := ⟨setCell_row (hX2.block HB1.out) _, owns_setCell (hX2.owns HW1.out) HN1.out _, owns_setCell (by simpa using hown2) (by simpa [lH] using hg2q) _, Ext.setCell (HXW1.out.trans hX2) hqw _⟩
     clear hown2 hgrow2 hat2 hX2 x1b f1b
     go_wp2
     go_ret
     exact ⟨q, .slice none 0 0, .slice (some ⟨gg2, 0, none⟩) n2 gc2, rfl, HF.out.1, HF.out.2.1, HF.out.2.2.1, hqw, HF.out.2.2.2, .inl rfl, .inr hm2⟩
 ·have HC1 : Hid _ := hc1
  have HO1 : Hid _ := ho1
  have HL1 : Hid _ := hl1
  clear hc1 ho1 hl1
  go_enter Tryz.func148, Tryz.ntmps148
  go_wp2_with fail
  have hq0 : (w.alloc (.cells #[.slice none 0 0, .slice none 0 0] 98)).heap[w.heap.size]? = some (.cells #[.slice none 0 0, .slice none 0 0] 98 (0, 0)) := heap_alloc_new _ _
  have hXW : Ext w (w.alloc (.cells #[.slice none 0 0, .slice none 0 0] 98)) := (Ext.refl w).alloc _
  obtain ⟨q, hqE⟩ : ∃ q, w.heap.size = q := ⟨_, rfl⟩
  rw [hqE] at hq0
  simp only [hqE]
  generalize World.alloc w _ = W at hq0 hXW ⊢
  have hqp : q ≠ p := by omega
  have hqW : q < W.heap.size := (Array.getElem?_eq_some_iff.1 hq0).1
  have HXW : Hid (Ext w W) := hXW
  have HQ0 : Hid (W.heap[q]? = some (.cells #[.slice none 0 0, .slice none 0 0] 98 (0, 0))) := hq0
  have x0 : W.cell? ⟨q, 0, none⟩ = some (.slice none 0 0) := cell_at hq0 rfl
  have x1 : W.cell? ⟨q, 1, none⟩ = some (.slice none 0 0) := cell_at hq0 rfl
  have f0 := frozen_row hq0 0
  have f1 := frozen_row hq0 1
  have c0 := hXW.cell c0
  have c1 := hXW.cell c1
  clear hXW hq0
  go_region_law (first
   | (refine step_append_lies _ (by rfl) _ _ 96 (by rfl) w.heap.size 198 i0 _ 7 72 Tryz.underlying96 hi hz0 hz1 hz2 (by rfl) (by decide) (.slice none 0 0) 0 [] (by rfl) (World.ownsRow_nil _ _ _ _) ⟨g1, 0, none⟩ n1 cap1 xs (by rfl) HL1.out (fun j u hu => by rw [addr_add', Nat.zero_add]; exact (Ext.drew HXW.out).cell (HC1.out j u hu)) HO1.out (by omega) (by unfold maxLen; omega) (by omega) (by show w.heap.size <= W.heap.size; omega) _ rfl ?_; intro gg1 gc1 w1 hown1 hgrow1 hat1 hlt1; have hX1 : Ext W w1 := Ext.grown (Ext.drew (Ext.refl W)) hgrow1 (by simp [lH]); have x0b := hX1.cell x0; have f0b := frozen_row (hX1.block HQ0.out) 0))
  all_goals
   have hg1q : gg1 ≠ q := by
    obtain ⟨cur, hc⟩ := owns_block hown1 (g := gg1) rfl
    exact type_ne hc (hX1.block HQ0.out) (by decide)
   have HB1 : Hid ((w1.setCell ⟨q, 0, none⟩ (.slice (some ⟨gg1, 0, none⟩) n1 gc1)).heap[q]? = some (.cells #[.slice (some ⟨gg1, 0, none⟩) n1 gc1, .slice none 0 0] 98 (0, 0))) := setCell_row (hX1.block HQ0.out) _
   have HW1 : Hid ((w1.setCell ⟨q, 0, none⟩ (.slice (some ⟨gg1, 0, none⟩) n1 gc1)).ownsRow w.heap.size 198 7 (.slice (some ⟨gg1, 0, none⟩) n1 gc1) n1 xs) := owns_setCell (by simpa using hown1) (by simpa [lH] using hg1q) _
   have HXW1 : Hid (Ext w (w1.setCell ⟨q, 0, none⟩ (.slice (some ⟨gg1, 0, none⟩) n1 gc1))) := Ext.setCell (HXW.out.trans hX1) (by show w.heap.size <= q; omega) _
   have HN1 : Hid (lH (.slice (some ⟨gg1, 0, none⟩) n1 gc1) ≠ some q) := fun e => hg1q (by simpa [lH] using e)
   have c1b := (World.cell?_setCell_far w1 ⟨q, 0, none⟩ ⟨p, 1, none⟩ (.slice (some ⟨gg1, 0, none⟩) n1 gc1) hqp).trans (hX1.cell c1)
   have x1c : (w1.setCell ⟨q, 0, none⟩ (.slice (some ⟨gg1, 0, none⟩) n1 gc1)).cell? ⟨q, 1, none⟩ = some (.slice none 0 0) := cell_at HB1.out rfl
   have f1c := frozen_row HB1.out 1
   have hqw : w.heap.size <= q := by omega
   have hW1l := HXW1.out.le
   generalize World.setCell w1 _ _ = W1 at HB1 HW1 HXW1 c1b x1c f1c hW1l ⊢
   clear x0 x1 f0 f1 c0 c1 HQ0 HXW x0b f0b hown1 hgrow1 hat1 hX1
   go_wp2_with fail
   rcases h2 with ⟨rfl, rfl, rfl⟩ | ⟨g2, cap2, rfl, hm2, hl2, ho2, hc2⟩
   ·go_region
    all_goals
     have HF : Hid ((W1.drew.setCell ⟨q, 1, none⟩ (.slice none 0 0)).heap[q]? = some (.cells #[.slice (some ⟨gg1, 0, none⟩) n1 gc1, .slice none 0 0] 98 (0, 0)) /\ (W1.drew.setCell ⟨q, 1, none⟩ (.slice none 0 0)).ownsRow w.heap.size 198 7 (.slice (some ⟨gg1, 0, none⟩) n1 gc1) n1 xs /\ Ext w (W1.drew.setCell ⟨q, 1, none⟩ (.slice none 0 0))) := ⟨setCell_row (at_drew HB1.out) _, owns_setCell (World.ownsRow.drew HW1.out) HN1.out _, Ext.setCell (Ext.drew HXW1.out) hqw _⟩
     go_wp2
     go_ret
     exact ⟨q, .slice (some ⟨gg1, 0, none⟩) n1 gc1, .slice none 0 0, rfl, HF.out.1, HF.out.2.1, World.ownsRow_nil _ _ _ _, hqw, HF.out.2.2, .inr hm1, .inl rfl⟩
   ·have HC2 : Hid _ := hc2
    have HO2 : Hid _ := ho2
    have HL2 : Hid _ := hl2
    clear hc2 ho2 hl2
    go_region_law (first
     | (refine step_append_lies _ (by rfl) _ _ 38 (by rfl) w.heap.size 56 j0 _ 9 72 Tryz.underlying38 hj hy0 hy1 hy2 (by rfl) (by decide) (.slice none 0 0) 0 [] (by rfl) (World.ownsRow_nil _ _ _ _) ⟨g2, 0, none⟩ n2 cap2 ys (by rfl) HL2.out (fun j u hu => by rw [addr_add', Nat.zero_add]; exact (Ext.drew HXW1.out).cell (HC2.out j u hu)) HO2.out (by omega) (by unfold maxLen; omega) (by omega) (by show w.heap.size <= W1.heap.size; omega) _ rfl ?_; intro gg2 gc2 w2 hown2 hgrow2 hat2 hlt2; have hX2 : Ext W1 w2 := Ext.grown (Ext.drew (Ext.refl W1)) hgrow2 (by simp [lH]); have x1b := hX2.cell x1c; have f1b := frozen_row (hX2.block HB1.out) 1))
    all_goals
     have hg2q : gg2 ≠ q := by
      obtain ⟨cur, hc⟩ := owns_block hown2 (g := gg2) rfl
      exact type_ne hc (hX2.block HB1.out) (by decide)
     have HF : Hid ((w2.setCell ⟨q, 1, none⟩ (.slice (some ⟨gg2, 0, none⟩) n2 gc2)).heap[q]? = some (.cells #[.slice (some ⟨gg1, 0, none⟩) n1 gc1, .slice (some ⟨gg2, 0, none⟩) n2 gc2] 98 (0, 0)) /\ (w2.setCell ⟨q, 1, none⟩ (.slice (some ⟨gg2, 0, none⟩) n2 gc2)).ownsRow w.heap.size 198 7 (.slice (some ⟨gg1, 0, none⟩) n1 gc1) n1 xs /\ (w2.setCell ⟨q, 1, none⟩ (.slice (some ⟨gg2, 0, none⟩) n2 gc2)).ownsRow w.heap.size 56 9 (.slice (some ⟨gg2, 0, none⟩) n2 gc2) n2 ys /\ Ext w (w2.setCell ⟨q, 1, none⟩ (.slice (some ⟨gg2, 0, none⟩) n2 gc2))) := ⟨setCell_row (hX2.block HB1.out) _, owns_setCell (hX2.owns HW1.out) HN1.out _, owns_setCell (by simpa using hown2) (by simpa [lH] using hg2q) _, Ext.setCell (HXW1.out.trans hX2) hqw _⟩
     clear hown2 hgrow2 hat2 hX2 x1b f1b
     go_wp2
     go_ret
     exact ⟨q, .slice (some ⟨gg1, 0, none⟩) n1 gc1, .slice (some ⟨gg2, 0, none⟩) n2 gc2, rfl, HF.out.1, HF.out.2.1, HF.out.2.2.1, hqw, HF.out.2.2.2, .inr hm1, .inr hm2⟩
end
-- HRm
section
open Go.RowKit Go.Maps
theorem RowIs.one {w : World} {G : Nat -> Prop} {v : Value} {n : Nat} {xs : List Value} (h : RowIs w G v n xs) : v.oneCell' = true := by
 rcases h with ⟨rfl, _⟩ | ⟨g, cap, rfl, _⟩ <;> rfl
theorem css_one {css : List (List Value)} {S : List Stk} {w : World} {G : Nat -> Prop} (hl : css.length = S.length) (h : ∀ i (h : i < S.length), ∃ cs, css[i]? = some cs /\ RefStk w G S[i] cs) : ∀ u ∈ css.flatten, u.oneCell' = true := by
 intro u hu
 obtain ⟨cs, hcs, hu⟩ := List.mem_flatten.1 hu
 obtain ⟨q, hq, rfl⟩ := List.getElem_of_mem hcs
 obtain ⟨cs', k1, tv, vs, k2, k3, _⟩ := h q (by omega)
 rw [List.getElem?_eq_getElem hq] at k1
 injection k1 with k1
 rw [k1, k2] at hu
 simp only [List.mem_cons, List.not_mem_nil, or_false] at hu
 rcases hu with rfl | rfl | rfl | rfl | rfl | rfl | rfl
 ·rfl
 ·rfl
 ·rfl
 ·rfl
 ·exact k3.one
 ·rfl
 ·rfl
theorem css_len {css : List (List Value)} {S : List Stk} {w : World} {G : Nat -> Prop} (hl : css.length = S.length) (h : ∀ i (h : i < S.length), ∃ cs, css[i]? = some cs /\ RefStk w G S[i] cs) : css.flatten.length = S.length * 7 := by
 have h7 : ∀ c ∈ css, c.length = 7 := fun c hc => by
  obtain ⟨q, hq, rfl⟩ := List.getElem_of_mem hc
  obtain ⟨cs', k1, tv, vs, k2, _⟩ := h q (by omega)
  rw [List.getElem?_eq_getElem hq] at k1
  injection k1 with k1
  rw [k1, k2]; rfl
 clear h
 rw [<- hl]
 clear hl
 induction css with
 | nil => rfl
 | cons c t ih =>
  rw [List.flatten_cons, List.length_append, h7 c (by simp), ih (fun c hc => h7 c (by simp [hc])), List.length_cons]
  omega
/-- copied, of a world of the reference. -/
theorem refCopy_c {G : Nat -> Prop} (p : Nat) (S : List Stk) (ls : List LsV) (hS : S.length <= 100) (hls : ls.length <= 1000) (w : World) (h : RefAt w G p S ls) :
  Calls Tryz.prog 148 #[.pointer (some ⟨p, 0, none⟩)] w fun e w' => ∃ q v1 v2, ∃ css : List (List Value), e = .returned (.pointer (some ⟨q, 0, none⟩)) /\ w'.heap[q]? = some (.cells #[v1, v2] 98 (0, 0)) /\ w'.ownsRow w.heap.size 198 7 v1 S.length css.flatten /\ w'.ownsRow w.heap.size 56 9 v2 ls.length (lsCells ls) /\ css.length = S.length /\ (∀ i (h : i < S.length), ∃ cs, css[i]? = some cs /\ RefStk w' G S[i] cs) /\ w.heap.size <= q /\ Ext w w' /\ (v1 = .slice none 0 0 \/ 1 <= S.length) /\ (v2 = .slice none 0 0 \/ 1 <= ls.length) := by
 obtain ⟨stv, lsv, css, h1, h2, h3, h4, h5, h6⟩ := h
 refine (refCopied_c p S.length ls.length stv lsv css.flatten (lsCells ls) (by omega) hls w h1 ?_ ?_).mono ?_
 ·rcases h3 with ⟨rfl, hn⟩ | ⟨g, cap, rfl, _, _, hc, hn⟩
  ·have hcs : css = [] := List.length_eq_zero_iff.1 (by omega)
   exact .inl ⟨rfl, hn, by rw [hcs]; rfl⟩
  ·exact .inr ⟨g, cap, rfl, hn, css_len h4 h5, css_one h4 h5, hc⟩
 ·rcases h6 with ⟨rfl, hn⟩ | ⟨g, cap, rfl, _, _, hc, hn⟩
  ·have hcs : ls = [] := List.length_eq_zero_iff.1 hn
   exact .inl ⟨rfl, hn, by rw [hcs]; rfl⟩
  ·exact .inr ⟨g, cap, rfl, hn, len_lsCells ls, ls_one ls, hc⟩
 ·rintro e w' ⟨q, v1, v2, k1, k2, k3, k4, k5, k6, k7, k8⟩
  exact ⟨q, v1, v2, css, k1, k2, k3, k4, h4, fun i hi => let ⟨cs, m1, m2⟩ := h5 i hi; ⟨cs, m1, m2.turn (S := fun _ => False) (Turn.of_ext k6) (fun _ _ => id)⟩, k5, k6, k7, k8⟩
/-- A world that was made. -/
theorem refAt_mk {G : Nat -> Prop} {w w' : World} {q : Nat} {v1 v2 : Value} {S : List Stk} {ls : List LsV} {css : List (List Value)} (hb : w'.heap[q]? = some (.cells #[v1, v2] 98 (0, 0))) (h1 : w'.ownsRow w.heap.size 198 7 v1 S.length css.flatten) (h2 : w'.ownsRow w.heap.size 56 9 v2 ls.length (lsCells ls))
  (hn1 : v1 = .slice none 0 0 \/ 1 <= S.length) (hn2 : v2 = .slice none 0 0 \/ 1 <= ls.length) (hl : css.length = S.length) (hs : ∀ i (h : i < S.length), ∃ cs, css[i]? = some cs /\ RefStk w' (grow G w w') S[i] cs) (hq : w.heap.size <= q) : RefAt w' (grow G w w') q S ls :=
 ⟨v1, v2, css, hb, .inr ⟨hq, (Array.getElem?_eq_some_iff.1 hb).1⟩, RowIs.of_owns h1 hn1 (fun _b k1 k2 => .inr ⟨k1, k2⟩), hl, hs, RowIs.of_owns h2 hn2 (fun _b k1 k2 => .inr ⟨k1, k2⟩)⟩
end
-- HRr
section
set_option maxRecDepth 100000
set_option maxHeartbeats 1600000
open Go.RowKit Go.Maps
theorem refReleasingNo_c {G : Nat -> Prop} (p : Nat) (S : List Stk) (ls : List LsV) (kk s i kd m k n f c pp : Int) (hls : ls.length <= 1000) (hcd : releaseCode ls s i ≠ 0) (w : World) (h : RefAt w G p S ls) :
  Calls Tryz.prog 179 #[.pointer (some ⟨p, 0, none⟩), reqV kk s i kd m k n f c pp] w fun e w' => e = .returned (.tuple #[.pointer none, replyV 8 0 0 (.slice none 0 0)]) /\ Ext w w' := by
 have HL : Hid (∀ w', Ext w w' -> _) := fun w' hx => refLease_c p S ls s i hls w' (h.ext hx)
 have HCo : Hid (∀ w', _) := fun w' => refCode_c 8 w'
 obtain ⟨stv, lsv, css, h1, h2, h3, h4, h5, h6⟩ := h
 have c1 : w.cell? ⟨p, 1, none⟩ = some lsv := cell_at h1 rfl
 have hp := lG w _ c1
 clear h1 h2 h3 h4 h5
 unfold replyV at HCo ⊢
 unfold reqV
 cases hf : ls.findIdx? (isNamed s i) with
 | none =>
  rw [hf] at HL
  simp only at HL
  clear hf h6 hcd
  go_enter Tryz.func179, Tryz.ntmps179
  go_wp2_with fail
  have hres0 : ((w.alloc (.cells #[.int .i64 kk, .int .i64 s, .int .i64 i, .int .i64 kd, .int .i64 m, .int .i64 k, .int .i64 n, .int .i64 f, .int .i64 c, .int .i64 pp] 51)).alloc (.cells #[.int .i64 0, .int .i64 0, .int .i64 0, .slice none 0 0] 33)).heap[w.heap.size + 1]? = some (.cells #[.int .i64 0, .int .i64 0, .int .i64 0, .slice none 0 0] 33 (0, 0)) := at_new (by simp)
  have hXW : Ext w ((w.alloc (.cells #[.int .i64 kk, .int .i64 s, .int .i64 i, .int .i64 kd, .int .i64 m, .int .i64 k, .int .i64 n, .int .i64 f, .int .i64 c, .int .i64 pp] 51)).alloc (.cells #[.int .i64 0, .int .i64 0, .int .i64 0, .slice none 0 0] 33)) := ((Ext.refl w).alloc _).alloc _
  generalize World.alloc (World.alloc w _) _ = W at hres0 hXW ⊢
  refine (HL.out W hXW).mono ?_
  rintro e w1 ⟨rfl, hx1⟩
  have HX1 : Hid (Ext w w1) := hXW.trans hx1
  have HRS : Hid _ := hx1.block hres0
  have c1 := HX1.out.cell c1
  clear hx1 hXW hres0
  go_wp2_with fail
  refine (HCo.out _).mono ?_
  rintro e w2 ⟨rfl, hx2⟩
  have hr2 := hx2.block HRS.out
  have o0 := cell_at hr2 (i := 0) rfl
  have o1 := cell_at hr2 (i := 1) rfl
  have o2 := cell_at hr2 (i := 2) rfl
  have o3 := cell_at hr2 (i := 3) rfl
  have f0 := frozen_row hr2 0
  have f1 := frozen_row hr2 1
  have f2 := frozen_row hr2 2
  have f3 := frozen_row hr2 3
  have HX2 : Hid (Ext w w2) := HX1.out.trans hx2
  clear hr2 hx2
  go_wp2
  refine bodyPost_ret (v := .tuple #[.pointer none, .agg #[.int .i64 8, .int .i64 0, .int .i64 0, .slice none 0 0]]) (by simp [results, Tryz.results179, go_sem, o0, o1, o2, o3]) rfl ⟨rfl, ?_⟩
  exact ext4 HX2.out (by omega) _ _ _ _
 | some ix =>
  rw [hf] at HL
  simp only at HL
  obtain ⟨hix, hfi⟩ := find_idx hf
  have hrel : ls[ix].r = true := by
   unfold releaseCode at hcd
   rw [hfi] at hcd
   simpa using hcd
  obtain ⟨len, hlen⟩ : ∃ len, ls.length = len := ⟨_, rfl⟩
  obtain ⟨g, cap, rfl, hcap, hcell⟩ : ∃ g cap, lsv = .slice (some ⟨g, 0, none⟩) len cap /\ len <= cap /\ ∀ i u, (lsCells ls)[i]? = some u -> w.cell? ⟨g, i, none⟩ = some u := by
   rcases h6 with ⟨_, hn⟩ | ⟨g, cap, e, hc, _, hcell, _⟩
   ·omega
   ·exact ⟨g, cap, by rw [<- hlen]; exact e, by omega, hcell⟩
  obtain ⟨_, _, _, _, _, _, _, _, l8⟩ := rowLs hcell ix hix
  rw [hrel] at l8
  have hgl := lG w _ l8
  have hk0 : (0 : Int) <= (ix : Int) := by omega
  have hk1 : (ix : Int) < len := by omega
  clear hf hfi hcd hrel h6 hcell
  go_enter Tryz.func179, Tryz.ntmps179
  go_wp2_with fail
  have hres0 : ((w.alloc (.cells #[.int .i64 kk, .int .i64 s, .int .i64 i, .int .i64 kd, .int .i64 m, .int .i64 k, .int .i64 n, .int .i64 f, .int .i64 c, .int .i64 pp] 51)).alloc (.cells #[.int .i64 0, .int .i64 0, .int .i64 0, .slice none 0 0] 33)).heap[w.heap.size + 1]? = some (.cells #[.int .i64 0, .int .i64 0, .int .i64 0, .slice none 0 0] 33 (0, 0)) := at_new (by simp)
  have hXW : Ext w ((w.alloc (.cells #[.int .i64 kk, .int .i64 s, .int .i64 i, .int .i64 kd, .int .i64 m, .int .i64 k, .int .i64 n, .int .i64 f, .int .i64 c, .int .i64 pp] 51)).alloc (.cells #[.int .i64 0, .int .i64 0, .int .i64 0, .slice none 0 0] 33)) := ((Ext.refl w).alloc _).alloc _
  generalize World.alloc (World.alloc w _) _ = W at hres0 hXW ⊢
  refine (HL.out W hXW).mono ?_
  rintro e w1 ⟨rfl, hx1⟩
  have HX1 : Hid (Ext w w1) := hXW.trans hx1
  have HRS : Hid _ := hx1.block hres0
  have c1 := HX1.out.cell c1
  clear hx1 hXW hres0
  have l8 := HX1.out.cell l8
  go_wp2_with fail
  refine (HCo.out _).mono ?_
  rintro e w2 ⟨rfl, hx2⟩
  have hr2 := hx2.block HRS.out
  have o0 := cell_at hr2 (i := 0) rfl
  have o1 := cell_at hr2 (i := 1) rfl
  have o2 := cell_at hr2 (i := 2) rfl
  have o3 := cell_at hr2 (i := 3) rfl
  have f0 := frozen_row hr2 0
  have f1 := frozen_row hr2 1
  have f2 := frozen_row hr2 2
  have f3 := frozen_row hr2 3
  have HX2 : Hid (Ext w w2) := HX1.out.trans hx2
  clear hr2 hx2
  go_wp2
  refine bodyPost_ret (v := .tuple #[.pointer none, .agg #[.int .i64 8, .int .i64 0, .int .i64 0, .slice none 0 0]]) (by simp [results, Tryz.results179, go_sem, o0, o1, o2, o3]) rfl ⟨rfl, ?_⟩
  exact ext4 HX2.out (by omega) _ _ _ _
end
-- HRs
section
set_option maxRecDepth 100000
set_option maxHeartbeats 1600000
open Go.RowKit Go.Maps
theorem refReleasing_c {G : Nat -> Prop} (p ix : Nat) (S : List Stk) (ls : List LsV) (kk s i kd m k n f c pp : Int) (hS : S.length <= 100) (hls : ls.length <= 1000) (hix : ix < ls.length) (hf : ls.findIdx? (isNamed s i) = some ix) (hrel : ls[ix].r = false) (w : World) (hGl : ∀ b, G b -> b < w.heap.size) (h : RefAt w G p S ls) :
  Calls Tryz.prog 179 #[.pointer (some ⟨p, 0, none⟩), reqV kk s i kd m k n f c pp] w fun e w' => ∃ q, e = .returned (.tuple #[.pointer (some ⟨q, 0, none⟩), replyV 0 ls[ix].f ls[ix].c (.slice none 0 0)]) /\ RefAt w' (grow G w w') q S (ls.set ix ls[ix].free) /\ Ext w w' := by
 have HL : Hid (∀ w', Ext w w' -> Calls Tryz.prog 187 #[.pointer (some ⟨p, 0, none⟩), .int .i64 s, .int .i64 i] w' fun e w'' => e = .returned (.int .i64 (ix : Int)) /\ Ext w' w'') := fun w' hx => by
  have := refLease_c p S ls s i hls w' (h.ext hx)
  rw [hf] at this
  exact this
 have HCp : Hid (∀ w', Ext w w' -> _) := fun w' hx => refCopy_c p S ls hS hls w' (h.ext hx)
 have HG : Hid (RefAt w G p S ls) := h
 obtain ⟨stv, lsv, css, h1, h2, h3, h4, h5, h6⟩ := h
 have c1 : w.cell? ⟨p, 1, none⟩ = some lsv := cell_at h1 rfl
 have hp := lG w _ c1
 clear h1 h2 h3 h4 h5
 obtain ⟨len, hlen⟩ : ∃ len, ls.length = len := ⟨_, rfl⟩
 obtain ⟨g, cap, rfl, hcap, hcell⟩ : ∃ g cap, lsv = .slice (some ⟨g, 0, none⟩) len cap /\ len <= cap /\ ∀ i u, (lsCells ls)[i]? = some u -> w.cell? ⟨g, i, none⟩ = some u := by
  rcases h6 with ⟨_, hn⟩ | ⟨g, cap, e, hc, _, hcell, _⟩
  ·omega
  ·exact ⟨g, cap, by rw [<- hlen]; exact e, by omega, hcell⟩
 obtain ⟨_, _, _, _, _, _, _, _, l8⟩ := rowLs hcell ix hix
 rw [hrel] at l8
 have hgl := lG w _ l8
 have hk0 : (0 : Int) <= (ix : Int) := by omega
 have hk1 : (ix : Int) < len := by omega
 have HLen : Hid (ls.length = len) := hlen
 rw [hlen] at HCp
 clear hf hrel h6 hcell hlen
 unfold replyV
 unfold reqV
 go_enter Tryz.func179, Tryz.ntmps179
 go_wp2_with fail
 have hres0 : ((w.alloc (.cells #[.int .i64 kk, .int .i64 s, .int .i64 i, .int .i64 kd, .int .i64 m, .int .i64 k, .int .i64 n, .int .i64 f, .int .i64 c, .int .i64 pp] 51)).alloc (.cells #[.int .i64 0, .int .i64 0, .int .i64 0, .slice none 0 0] 33)).heap[w.heap.size + 1]? = some (.cells #[.int .i64 0, .int .i64 0, .int .i64 0, .slice none 0 0] 33 (0, 0)) := at_new (by simp)
 have hXW : Ext w ((w.alloc (.cells #[.int .i64 kk, .int .i64 s, .int .i64 i, .int .i64 kd, .int .i64 m, .int .i64 k, .int .i64 n, .int .i64 f, .int .i64 c, .int .i64 pp] 51)).alloc (.cells #[.int .i64 0, .int .i64 0, .int .i64 0, .slice none 0 0] 33)) := ((Ext.refl w).alloc _).alloc _
 generalize World.alloc (World.alloc w _) _ = W at hres0 hXW ⊢
 refine (HL.out W hXW).mono ?_
 rintro e w1 ⟨rfl, hx1⟩
 have HX1 : Hid (Ext w w1) := hXW.trans hx1
 have HRS : Hid _ := hx1.block hres0
 have c1 := HX1.out.cell c1
 have l8 := HX1.out.cell l8
 clear hx1 hXW hres0
 go_wp2_with fail
 refine (HCp.out _ HX1.out).mono ?_
 rintro e w2 ⟨q, v1, v2, css, rfl, q1, q2, q3, q4, q5, q6, hx2, q7, q8⟩
 obtain ⟨g2, cap2, rfl, hg2w, hcap2, _⟩ : ∃ g cap, v2 = .slice (some ⟨g, 0, none⟩) len cap /\ w1.heap.size <= g /\ len <= cap /\ cap <= maxLen := by
  rcases owns_form q3 with ⟨_, hn, _⟩ | h
  ·omega
  ·exact h
 have HRS2 : Hid _ := hx2.block HRS.out
 have HX2 : Hid (Ext w w2) := HX1.out.trans hx2
 have y1 : w2.cell? ⟨q, 1, none⟩ = some (.slice (some ⟨g2, 0, none⟩) len cap2) := cell_at q1 rfl
 obtain ⟨b0, b1, b2, b3, b4, b5, b6, b7, b8⟩ := rowLs (fun i u hu => owns_cell q3 hu) ix hix
 have f8 : w2.frozen? ⟨g2, ix * 9 + 8, none⟩ = false := by
  obtain ⟨cur, hc⟩ := owns_block q3 (g := g2) rfl
  exact frozen_row hc _
 have hg2l := lG w2 _ b8
 have hql := lG w2 _ y1
 have hqg : q ≠ g2 := by
  obtain ⟨cur, hc⟩ := owns_block q3 (g := g2) rfl
  exact fun e => type_ne q1 hc (by decide) e
 have HQ : Hid _ := And.intro q1 (And.intro q2 (And.intro q3 (And.intro q4 (And.intro q5 (And.intro q6 (And.intro hx2 q7))))))
 clear q1 q2 q3 q4 q5 q6 hx2 l8 c1 q7 q8
 obtain ⟨lf, hlf⟩ : ∃ lf, ls[ix].f = lf := ⟨_, rfl⟩
 obtain ⟨lc, hlc⟩ : ∃ lc, ls[ix].c = lc := ⟨_, rfl⟩
 have HLF : Hid (ls[ix].f = lf /\ ls[ix].c = lc) := ⟨hlf, hlc⟩
 rw [hlf] at b6
 rw [hlc] at b7
 clear hlf hlc
 have o0 : w2.cell? ⟨w.heap.size + 1, 0, none⟩ = some (.int .i64 0) := cell_at HRS2.out rfl
 have o1 : w2.cell? ⟨w.heap.size + 1, 1, none⟩ = some (.int .i64 0) := cell_at HRS2.out rfl
 have o2 : w2.cell? ⟨w.heap.size + 1, 2, none⟩ = some (.int .i64 0) := cell_at HRS2.out rfl
 have o3 : w2.cell? ⟨w.heap.size + 1, 3, none⟩ = some (.slice none 0 0) := cell_at HRS2.out rfl
 have t0 := frozen_row HRS2.out 0
 have t1 := frozen_row HRS2.out 1
 have t2 := frozen_row HRS2.out 2
 have t3 := frozen_row HRS2.out 3
 have hrl := lG w2 _ o0
 have hx1l := HX1.out.le
 have hwg : w.heap.size + 1 ≠ g2 := by
  obtain ⟨cur, hc⟩ := owns_block HQ.out.2.2.1 (g := g2) rfl
  exact type_ne HRS2.out hc (by decide)
 generalize ls[ix].s = e0 at *
 generalize ls[ix].i = e1 at *
 generalize ls[ix].kd = e2 at *
 generalize ls[ix].m = e3 at *
 generalize ls[ix].k = e4 at *
 generalize ls[ix].n = e5 at *
 generalize ls[ix].r = e8 at *
 go_wp2_with fail
 have hZr : ((w2.setCell ⟨g2, ix * 9 + 8, none⟩ (.bool true)).alloc (.cells #[.int .i64 e0, .int .i64 e1, .int .i64 e2, .int .i64 e3, .int .i64 e4, .int .i64 e5, .int .i64 lf, .int .i64 lc, .bool true] 56)).heap[w.heap.size + 1]? = some (.cells #[.int .i64 0, .int .i64 0, .int .i64 0, .slice none 0 0] 33 (0, 0)) := at_old ((Below.heap_setCell _ _ _ _ (by show w.heap.size + 1 ≠ g2; exact hwg)).trans HRS2.out)
 have hZl : ((w2.setCell ⟨g2, ix * 9 + 8, none⟩ (.bool true)).alloc (.cells #[.int .i64 e0, .int .i64 e1, .int .i64 e2, .int .i64 e3, .int .i64 e4, .int .i64 e5, .int .i64 lf, .int .i64 lc, .bool true] 56)).heap[w2.heap.size]? = some (.cells #[.int .i64 e0, .int .i64 e1, .int .i64 e2, .int .i64 e3, .int .i64 e4, .int .i64 e5, .int .i64 lf, .int .i64 lc, .bool true] 56 (0, 0)) := at_new (by simp [World.setCell])
 have hZt : Turn (fun b => b = g2) w2 ((w2.setCell ⟨g2, ix * 9 + 8, none⟩ (.bool true)).alloc (.cells #[.int .i64 e0, .int .i64 e1, .int .i64 e2, .int .i64 e3, .int .i64 e4, .int .i64 e5, .int .i64 lf, .int .i64 lc, .bool true] 56)) := Turn.alloc (Turn.setCell (S := fun b => b = g2) (p := ⟨g2, ix * 9 + 8, none⟩) (Turn.refl _ w2) (fun _ => rfl) _) _
 have hZo : ((w2.setCell ⟨g2, ix * 9 + 8, none⟩ (.bool true)).alloc (.cells #[.int .i64 e0, .int .i64 e1, .int .i64 e2, .int .i64 e3, .int .i64 e4, .int .i64 e5, .int .i64 lf, .int .i64 lc, .bool true] 56)).ownsRow w1.heap.size 56 9 (.slice (some ⟨g2, 0, none⟩) len cap2) len (lsCells (ls.set ix ls[ix].free)) := by
  rw [lsCells_free ls ix hix]
  exact World.ownsRow.alloc (owns_set HQ.out.2.2.1 _ _) _
 generalize World.alloc (World.setCell w2 _ _) _ = Z at hZr hZl hZt hZo ⊢
 have z6 : Z.cell? ⟨w2.heap.size, 6, none⟩ = some (.int .i64 lf) := cell_at hZl rfl
 have z7 : Z.cell? ⟨w2.heap.size, 7, none⟩ = some (.int .i64 lc) := cell_at hZl rfl
 have o0 : Z.cell? ⟨w.heap.size + 1, 0, none⟩ = some (.int .i64 0) := cell_at hZr rfl
 have o1 : Z.cell? ⟨w.heap.size + 1, 1, none⟩ = some (.int .i64 0) := cell_at hZr rfl
 have o2 : Z.cell? ⟨w.heap.size + 1, 2, none⟩ = some (.int .i64 0) := cell_at hZr rfl
 have o3 : Z.cell? ⟨w.heap.size + 1, 3, none⟩ = some (.slice none 0 0) := cell_at hZr rfl
 have t0 := frozen_row hZr 0
 have t1 := frozen_row hZr 1
 have t2 := frozen_row hZr 2
 have t3 := frozen_row hZr 3
 have hne : w.heap.size + 1 ≠ w2.heap.size := by omega
 have HZ : Hid _ := And.intro hZt hZo
 have HZR : Hid _ := hZr
 clear hZt hZo hZr hZl b0 b1 b2 b3 b4 b5 b6 b7 b8 f8 y1
 go_region
 all_goals go_wp2
 all_goals refine bodyPost_ret (v := .tuple #[.pointer (some ⟨q, 0, none⟩), .agg #[.int .i64 0, .int .i64 lf, .int .i64 lc, .slice none 0 0]]) (by simp [results, Tryz.results179, go_sem, o0, o1, o2, o3]) rfl ⟨q, by rw [HLF.out.1, HLF.out.2], ?_⟩
 all_goals
  have hTY := set4 (g := w.heap.size + 1) (Ext.refl Z) (.int .i64 0) (.int .i64 lf) (.int .i64 lc) (.slice none 0 0)
  obtain ⟨q1, q2, q3, q4, q5, q6, hx2, q7⟩ := HQ.out
  have hT : Turn (fun b => b = g2 \/ b = w.heap.size + 1) w2 _ := (HZ.out.1.mono (fun b _ e => .inl e)).trans (hTY.mono (fun b _ e => .inr e))
  have hlt : w.heap.size <= w1.heap.size := hx1l
  obtain ⟨cur, hcur⟩ := owns_block q3 (g := g2) rfl
  refine ⟨refAt_mk (css := css) (hT.ref q1 ?_) (owns_base (hT.owns q2 ?_) hlt) (owns_base (hTY.owns ?_ ?_) hlt) q7 (.inr (by rw [List.length_set]; omega)) q4 (fun i' hi' => ?_) (by omega), ?_⟩
  ·rintro (e | e)
   ·exact hqg e
   ·exact type_ne q1 HRS2.out (by decide) e
  ·intro b hb hor
   obtain ⟨cur', hc'⟩ := owns_block q2 hb
   rcases hor with e | e
   ·exact type_ne hc' hcur (by decide) e
   ·exact type_ne hc' HRS2.out (by decide) e
  ·rw [List.length_set, HLen.out]
   exact HZ.out.2
  ·intro b hb e
   simp [lH] at hb
   omega
  ·obtain ⟨cs, m1, m2⟩ := q5 i' hi'
   refine ⟨cs, m1, (m2.turn hT (fun b hb hor => ?_)).mono (fun b hb => .inl hb)⟩
   have := hGl b hb
   omega
  ·exact Turn.ext ((Turn.of_ext (S := fun _ => False) HX2.out).trans' hT (fun b hb hor => by omega))
end
-- HLg
section
set_option maxRecDepth 100000
set_option maxHeartbeats 1600000
open Go.RowKit Go.Maps
theorem RowIs.slice {w : World} {G : Nat -> Prop} {v : Value} {n : Nat} {xs : List Value} (h : RowIs w G v n xs) : ∃ a cap, v = .slice a n cap := by
 rcases h with ⟨rfl, rfl⟩ | ⟨g, cap, rfl, _⟩
 ·exact ⟨none, 0, rfl⟩
 ·exact ⟨_, _, rfl⟩
theorem refLeasingSome_c {G : Nat -> Prop} (p ix : Nat) (S : List Stk) (ls : List LsV) (kk s i kd m k n f c pp : Int) (hls : ls.length <= 1000) (hix : ix < ls.length) (hf : ls.findIdx? (isNamed s i) = some ix) (w : World) (h : RefAt w G p S ls) :
  Calls Tryz.prog 177 #[.pointer (some ⟨p, 0, none⟩), reqV kk s i kd m k n f c pp] w fun e w' => e = .returned (.tuple #[.pointer none, if beforeCode ls[ix] kd m k n c then replyV 0 ls[ix].f ls[ix].c (.slice none 0 0) else replyV 6 0 0 (.slice none 0 0)]) /\ Ext w w' := by
 have HL : Hid (∀ w', Ext w w' -> Calls Tryz.prog 187 #[.pointer (some ⟨p, 0, none⟩), .int .i64 s, .int .i64 i] w' fun e w'' => e = .returned (.int .i64 (ix : Int)) /\ Ext w' w'') := fun w' hx => by
  have := refLease_c p S ls s i hls w' (h.ext hx)
  rw [hf] at this
  exact this
 have HCo : Hid (∀ w', _) := fun w' => refCode_c 6 w'
 obtain ⟨stv, lsv, css, h1, h2, h3, h4, h5, h6⟩ := h
 have c1 : w.cell? ⟨p, 1, none⟩ = some lsv := cell_at h1 rfl
 have hp := lG w _ c1
 clear h1 h2 h3 h4 h5
 obtain ⟨len, hlen⟩ : ∃ len, ls.length = len := ⟨_, rfl⟩
 obtain ⟨g, cap, rfl, hcap, hcell⟩ : ∃ g cap, lsv = .slice (some ⟨g, 0, none⟩) len cap /\ len <= cap /\ ∀ i u, (lsCells ls)[i]? = some u -> w.cell? ⟨g, i, none⟩ = some u := by
  rcases h6 with ⟨_, hn⟩ | ⟨g, cap, e, hc, _, hcell, _⟩
  ·omega
  ·exact ⟨g, cap, by rw [<- hlen]; exact e, by omega, hcell⟩
 obtain ⟨l0, l1, l2, l3, l4, l5, l6, l7, l8⟩ := rowLs hcell ix hix
 have hgl := lG w _ l8
 have hk0 : (0 : Int) <= (ix : Int) := by omega
 have hk1 : (ix : Int) < len := by omega
 have heq := fun (a b c e a' b' c' e' : Int) (w : World) => eqClass 9998 a b c e a' b' c' e' w
 clear hf h6 hcell hlen
 unfold replyV at HCo ⊢
 unfold reqV
 have HB : Hid (beforeCode ls[ix] kd m k n c = ((ls[ix].kd == kd && (ls[ix].m == m && (ls[ix].k == k && ls[ix].n == n))) && ls[ix].c == c)) := rfl
 generalize hbc : beforeCode ls[ix] kd m k n c = bc at *
 clear hbc
 generalize ls[ix] = l at *
 obtain ⟨ls0, ls1, lkd, lm, lk, ln, lf, lc, lr⟩ := l
 simp only at *
 by_cases hb1 : (lkd == kd && (lm == m && (lk == k && ln == n))) = true
 ·by_cases hc : lc = c
  ·have hbt : bc = true := by rw [HB.out, hb1, hc]; simp
   subst hbt
   subst hc
   rw [if_pos rfl]
   clear HB HCo
   go_enter Tryz.func177, Tryz.ntmps177
   go_wp2_with fail
   have hres0 : ((w.alloc (.cells #[.int .i64 kk, .int .i64 s, .int .i64 i, .int .i64 kd, .int .i64 m, .int .i64 k, .int .i64 n, .int .i64 f, .int .i64 lc, .int .i64 pp] 51)).alloc (.cells #[.int .i64 0, .int .i64 0, .int .i64 0, .slice none 0 0] 33)).heap[w.heap.size + 1]? = some (.cells #[.int .i64 0, .int .i64 0, .int .i64 0, .slice none 0 0] 33 (0, 0)) := at_new (by simp)
   have hreq0 : ((w.alloc (.cells #[.int .i64 kk, .int .i64 s, .int .i64 i, .int .i64 kd, .int .i64 m, .int .i64 k, .int .i64 n, .int .i64 f, .int .i64 lc, .int .i64 pp] 51)).alloc (.cells #[.int .i64 0, .int .i64 0, .int .i64 0, .slice none 0 0] 33)).heap[w.heap.size]? = some (.cells #[.int .i64 kk, .int .i64 s, .int .i64 i, .int .i64 kd, .int .i64 m, .int .i64 k, .int .i64 n, .int .i64 f, .int .i64 lc, .int .i64 pp] 51 (0, 0)) := at_old (heap_alloc_new _ _)
   have hXW : Ext w ((w.alloc (.cells #[.int .i64 kk, .int .i64 s, .int .i64 i, .int .i64 kd, .int .i64 m, .int .i64 k, .int .i64 n, .int .i64 f, .int .i64 lc, .int .i64 pp] 51)).alloc (.cells #[.int .i64 0, .int .i64 0, .int .i64 0, .slice none 0 0] 33)) := ((Ext.refl w).alloc _).alloc _
   generalize World.alloc (World.alloc w _) _ = W at hres0 hreq0 hXW ⊢
   refine (HL.out W hXW).mono ?_
   rintro e w1 ⟨rfl, hx1⟩
   have HX1 : Hid (Ext w w1) := hXW.trans hx1
   have HRS : Hid _ := hx1.block hres0
   have HRQ : Hid _ := hx1.block hreq0
   clear hx1 hXW hres0 hreq0
   have r1 : w1.cell? ⟨w.heap.size, 1, none⟩ = some (.int .i64 s) := cell_at HRQ.out rfl
   have r2 : w1.cell? ⟨w.heap.size, 2, none⟩ = some (.int .i64 i) := cell_at HRQ.out rfl
   have r3 : w1.cell? ⟨w.heap.size, 3, none⟩ = some (.int .i64 kd) := cell_at HRQ.out rfl
   have r4 : w1.cell? ⟨w.heap.size, 4, none⟩ = some (.int .i64 m) := cell_at HRQ.out rfl
   have r5 : w1.cell? ⟨w.heap.size, 5, none⟩ = some (.int .i64 k) := cell_at HRQ.out rfl
   have r6 : w1.cell? ⟨w.heap.size, 6, none⟩ = some (.int .i64 n) := cell_at HRQ.out rfl
   have r8 : w1.cell? ⟨w.heap.size, 8, none⟩ = some (.int .i64 lc) := cell_at HRQ.out rfl
   have c1 := HX1.out.cell c1
   have l0 := HX1.out.cell l0
   have l1 := HX1.out.cell l1
   have l2 := HX1.out.cell l2
   have l3 := HX1.out.cell l3
   have l4 := HX1.out.cell l4
   have l5 := HX1.out.cell l5
   have l6 := HX1.out.cell l6
   have l7 := HX1.out.cell l7
   have l8 := HX1.out.cell l8
   have hl1 := HX1.out.le
   have hrl := lG w1 _ r1
   go_wp2_with fail
   have hZr : (w1.alloc (.cells #[.int .i64 ls0, .int .i64 ls1, .int .i64 lkd, .int .i64 lm, .int .i64 lk, .int .i64 ln, .int .i64 lf, .int .i64 lc, .bool lr] 56)).heap[w.heap.size + 1]? = some (.cells #[.int .i64 0, .int .i64 0, .int .i64 0, .slice none 0 0] 33 (0, 0)) := at_old HRS.out
   have hZl : (w1.alloc (.cells #[.int .i64 ls0, .int .i64 ls1, .int .i64 lkd, .int .i64 lm, .int .i64 lk, .int .i64 ln, .int .i64 lf, .int .i64 lc, .bool lr] 56)).heap[w1.heap.size]? = some (.cells #[.int .i64 ls0, .int .i64 ls1, .int .i64 lkd, .int .i64 lm, .int .i64 lk, .int .i64 ln, .int .i64 lf, .int .i64 lc, .bool lr] 56 (0, 0)) := heap_alloc_new _ _
   have HXC : Hid (Ext w (w1.alloc (.cells #[.int .i64 ls0, .int .i64 ls1, .int .i64 lkd, .int .i64 lm, .int .i64 lk, .int .i64 ln, .int .i64 lf, .int .i64 lc, .bool lr] 56))) := HX1.out.alloc _
   generalize World.alloc w1 _ = Z at hZr hZl HXC ⊢
   have z6 : Z.cell? ⟨w1.heap.size, 6, none⟩ = some (.int .i64 lf) := cell_at hZl rfl
   have z7 : Z.cell? ⟨w1.heap.size, 7, none⟩ = some (.int .i64 lc) := cell_at hZl rfl
   have o0 : Z.cell? ⟨w.heap.size + 1, 0, none⟩ = some (.int .i64 0) := cell_at hZr rfl
   have o1 : Z.cell? ⟨w.heap.size + 1, 1, none⟩ = some (.int .i64 0) := cell_at hZr rfl
   have o2 : Z.cell? ⟨w.heap.size + 1, 2, none⟩ = some (.int .i64 0) := cell_at hZr rfl
   have o3 : Z.cell? ⟨w.heap.size + 1, 3, none⟩ = some (.slice none 0 0) := cell_at hZr rfl
   have t0 := frozen_row hZr 0
   have t1 := frozen_row hZr 1
   have t2 := frozen_row hZr 2
   have t3 := frozen_row hZr 3
   have hne : w.heap.size + 1 ≠ w1.heap.size := by have := (Array.getElem?_eq_some_iff.1 HRS.out).1; omega
   clear hZr hZl l0 l1 l2 l3 l4 l5 l6 l7 l8 c1 r1 r2 r3 r4 r5 r6 r8
   go_region
   all_goals go_wp2
   all_goals refine bodyPost_ret (v := .tuple #[.pointer none, .agg #[.int .i64 0, .int .i64 lf, .int .i64 lc, .slice none 0 0]]) (by simp [results, Tryz.results177, go_sem, o0, o1, o2, o3]) rfl ⟨rfl, ?_⟩
   all_goals first | exact Ext.drew (ext4 HXC.out (by omega) _ _ _ _) | exact ext4 HXC.out (by omega) _ _ _ _
  ·have hbt : bc = false := by rw [HB.out, hb1]; simpa using hc
   subst hbt
   rw [if_neg (by simp)]
   clear HB
   go_enter Tryz.func177, Tryz.ntmps177
   go_wp2_with fail
   have hres0 : ((w.alloc (.cells #[.int .i64 kk, .int .i64 s, .int .i64 i, .int .i64 kd, .int .i64 m, .int .i64 k, .int .i64 n, .int .i64 f, .int .i64 c, .int .i64 pp] 51)).alloc (.cells #[.int .i64 0, .int .i64 0, .int .i64 0, .slice none 0 0] 33)).heap[w.heap.size + 1]? = some (.cells #[.int .i64 0, .int .i64 0, .int .i64 0, .slice none 0 0] 33 (0, 0)) := at_new (by simp)
   have hreq0 : ((w.alloc (.cells #[.int .i64 kk, .int .i64 s, .int .i64 i, .int .i64 kd, .int .i64 m, .int .i64 k, .int .i64 n, .int .i64 f, .int .i64 c, .int .i64 pp] 51)).alloc (.cells #[.int .i64 0, .int .i64 0, .int .i64 0, .slice none 0 0] 33)).heap[w.heap.size]? = some (.cells #[.int .i64 kk, .int .i64 s, .int .i64 i, .int .i64 kd, .int .i64 m, .int .i64 k, .int .i64 n, .int .i64 f, .int .i64 c, .int .i64 pp] 51 (0, 0)) := at_old (heap_alloc_new _ _)
   have hXW : Ext w ((w.alloc (.cells #[.int .i64 kk, .int .i64 s, .int .i64 i, .int .i64 kd, .int .i64 m, .int .i64 k, .int .i64 n, .int .i64 f, .int .i64 c, .int .i64 pp] 51)).alloc (.cells #[.int .i64 0, .int .i64 0, .int .i64 0, .slice none 0 0] 33)) := ((Ext.refl w).alloc _).alloc _
   generalize World.alloc (World.alloc w _) _ = W at hres0 hreq0 hXW ⊢
   refine (HL.out W hXW).mono ?_
   rintro e w1 ⟨rfl, hx1⟩
   have HX1 : Hid (Ext w w1) := hXW.trans hx1
   have HRS : Hid _ := hx1.block hres0
   have HRQ : Hid _ := hx1.block hreq0
   clear hx1 hXW hres0 hreq0
   have r1 : w1.cell? ⟨w.heap.size, 1, none⟩ = some (.int .i64 s) := cell_at HRQ.out rfl
   have r2 : w1.cell? ⟨w.heap.size, 2, none⟩ = some (.int .i64 i) := cell_at HRQ.out rfl
   have r3 : w1.cell? ⟨w.heap.size, 3, none⟩ = some (.int .i64 kd) := cell_at HRQ.out rfl
   have r4 : w1.cell? ⟨w.heap.size, 4, none⟩ = some (.int .i64 m) := cell_at HRQ.out rfl
   have r5 : w1.cell? ⟨w.heap.size, 5, none⟩ = some (.int .i64 k) := cell_at HRQ.out rfl
   have r6 : w1.cell? ⟨w.heap.size, 6, none⟩ = some (.int .i64 n) := cell_at HRQ.out rfl
   have r8 : w1.cell? ⟨w.heap.size, 8, none⟩ = some (.int .i64 c) := cell_at HRQ.out rfl
   have c1 := HX1.out.cell c1
   have l0 := HX1.out.cell l0
   have l1 := HX1.out.cell l1
   have l2 := HX1.out.cell l2
   have l3 := HX1.out.cell l3
   have l4 := HX1.out.cell l4
   have l5 := HX1.out.cell l5
   have l6 := HX1.out.cell l6
   have l7 := HX1.out.cell l7
   have l8 := HX1.out.cell l8
   have hl1 := HX1.out.le
   have hrl := lG w1 _ r1
   go_wp2_with fail
   have HRC : Hid _ := at_old (o := .cells #[.int .i64 ls0, .int .i64 ls1, .int .i64 lkd, .int .i64 lm, .int .i64 lk, .int .i64 ln, .int .i64 lf, .int .i64 lc, .bool lr] 56) HRS.out
   have HXC : Hid (Ext w (w1.alloc (.cells #[.int .i64 ls0, .int .i64 ls1, .int .i64 lkd, .int .i64 lm, .int .i64 lk, .int .i64 ln, .int .i64 lf, .int .i64 lc, .bool lr] 56))) := HX1.out.alloc _
   refine (HCo.out _).mono ?_
   rintro e w9 ⟨rfl, hx9⟩
   have hr9 := hx9.block HRC.out
   have o0 := cell_at hr9 (i := 0) rfl
   have o1 := cell_at hr9 (i := 1) rfl
   have o2 := cell_at hr9 (i := 2) rfl
   have o3 := cell_at hr9 (i := 3) rfl
   have f0 := frozen_row hr9 0
   have f1 := frozen_row hr9 1
   have f2 := frozen_row hr9 2
   have f3 := frozen_row hr9 3
   have HX9 : Hid (Ext w w9) := HXC.out.trans hx9
   clear hr9 hx9
   go_wp2
   refine bodyPost_ret (v := .tuple #[.pointer none, .agg #[.int .i64 6, .int .i64 0, .int .i64 0, .slice none 0 0]]) (by simp [results, Tryz.results177, go_sem, o0, o1, o2, o3]) rfl ⟨rfl, ?_⟩
   exact ext4 HX9.out (by omega) _ _ _ _
 ·have hb2 : (lkd == kd && (lm == m && (lk == k && ln == n))) = false := by simpa using hb1
  have hbt : bc = false := by rw [HB.out, hb2]; rfl
  subst hbt
  rw [if_neg (by simp)]
  clear HB hb1
  go_enter Tryz.func177, Tryz.ntmps177
  go_wp2_with fail
  have hres0 : ((w.alloc (.cells #[.int .i64 kk, .int .i64 s, .int .i64 i, .int .i64 kd, .int .i64 m, .int .i64 k, .int .i64 n, .int .i64 f, .int .i64 c, .int .i64 pp] 51)).alloc (.cells #[.int .i64 0, .int .i64 0, .int .i64 0, .slice none 0 0] 33)).heap[w.heap.size + 1]? = some (.cells #[.int .i64 0, .int .i64 0, .int .i64 0, .slice none 0 0] 33 (0, 0)) := at_new (by simp)
  have hreq0 : ((w.alloc (.cells #[.int .i64 kk, .int .i64 s, .int .i64 i, .int .i64 kd, .int .i64 m, .int .i64 k, .int .i64 n, .int .i64 f, .int .i64 c, .int .i64 pp] 51)).alloc (.cells #[.int .i64 0, .int .i64 0, .int .i64 0, .slice none 0 0] 33)).heap[w.heap.size]? = some (.cells #[.int .i64 kk, .int .i64 s, .int .i64 i, .int .i64 kd, .int .i64 m, .int .i64 k, .int .i64 n, .int .i64 f, .int .i64 c, .int .i64 pp] 51 (0, 0)) := at_old (heap_alloc_new _ _)
  have hXW : Ext w ((w.alloc (.cells #[.int .i64 kk, .int .i64 s, .int .i64 i, .int .i64 kd, .int .i64 m, .int .i64 k, .int .i64 n, .int .i64 f, .int .i64 c, .int .i64 pp] 51)).alloc (.cells #[.int .i64 0, .int .i64 0, .int .i64 0, .slice none 0 0] 33)) := ((Ext.refl w).alloc _).alloc _
  generalize World.alloc (World.alloc w _) _ = W at hres0 hreq0 hXW ⊢
  refine (HL.out W hXW).mono ?_
  rintro e w1 ⟨rfl, hx1⟩
  have HX1 : Hid (Ext w w1) := hXW.trans hx1
  have HRS : Hid _ := hx1.block hres0
  have HRQ : Hid _ := hx1.block hreq0
  clear hx1 hXW hres0 hreq0
  have r1 : w1.cell? ⟨w.heap.size, 1, none⟩ = some (.int .i64 s) := cell_at HRQ.out rfl
  have r2 : w1.cell? ⟨w.heap.size, 2, none⟩ = some (.int .i64 i) := cell_at HRQ.out rfl
  have r3 : w1.cell? ⟨w.heap.size, 3, none⟩ = some (.int .i64 kd) := cell_at HRQ.out rfl
  have r4 : w1.cell? ⟨w.heap.size, 4, none⟩ = some (.int .i64 m) := cell_at HRQ.out rfl
  have r5 : w1.cell? ⟨w.heap.size, 5, none⟩ = some (.int .i64 k) := cell_at HRQ.out rfl
  have r6 : w1.cell? ⟨w.heap.size, 6, none⟩ = some (.int .i64 n) := cell_at HRQ.out rfl
  have r8 : w1.cell? ⟨w.heap.size, 8, none⟩ = some (.int .i64 c) := cell_at HRQ.out rfl
  have c1 := HX1.out.cell c1
  have l0 := HX1.out.cell l0
  have l1 := HX1.out.cell l1
  have l2 := HX1.out.cell l2
  have l3 := HX1.out.cell l3
  have l4 := HX1.out.cell l4
  have l5 := HX1.out.cell l5
  have l6 := HX1.out.cell l6
  have l7 := HX1.out.cell l7
  have l8 := HX1.out.cell l8
  have hl1 := HX1.out.le
  have hrl := lG w1 _ r1
  go_wp2_with fail
  have HRC : Hid _ := at_old (o := .cells #[.int .i64 ls0, .int .i64 ls1, .int .i64 lkd, .int .i64 lm, .int .i64 lk, .int .i64 ln, .int .i64 lf, .int .i64 lc, .bool lr] 56) HRS.out
  have HXC : Hid (Ext w (w1.alloc (.cells #[.int .i64 ls0, .int .i64 ls1, .int .i64 lkd, .int .i64 lm, .int .i64 lk, .int .i64 ln, .int .i64 lf, .int .i64 lc, .bool lr] 56))) := HX1.out.alloc _
  refine (HCo.out _).mono ?_
  rintro e w9 ⟨rfl, hx9⟩
  have hr9 := hx9.block HRC.out
  have o0 := cell_at hr9 (i := 0) rfl
  have o1 := cell_at hr9 (i := 1) rfl
  have o2 := cell_at hr9 (i := 2) rfl
  have o3 := cell_at hr9 (i := 3) rfl
  have f0 := frozen_row hr9 0
  have f1 := frozen_row hr9 1
  have f2 := frozen_row hr9 2
  have f3 := frozen_row hr9 3
  have HX9 : Hid (Ext w w9) := HXC.out.trans hx9
  clear hr9 hx9
  go_wp2
  refine bodyPost_ret (v := .tuple #[.pointer none, .agg #[.int .i64 6, .int .i64 0, .int .i64 0, .slice none 0 0]]) (by simp [results, Tryz.results177, go_sem, o0, o1, o2, o3]) rfl ⟨rfl, ?_⟩
  exact ext4 HX9.out (by omega) _ _ _ _
end
end Go.Proofs.YtmnjhhachdlmkaaGreat
