import Derived.Test.YtmnjhhachdlmkaaAgainst
namespace Go.Proofs.Ytmnjhhachdlmkaa
open Go.RowKit Go.Maps Go.ChangeMaps Go.MapKept

theorem isForgotten_c (a : Option Addr) (n c : Nat) (v : Value) (_hv : v.oneCell' = true) (w : World) : Calls Try.prog 82 #[.agg #[.slice a n c, v]] w fun e w' => e = .returned (.bool ((n : Int) == 0)) ∧ Ext w w' := by
  go_enter Try.func82, Try.ntmps82
  go_wp2
  go_ret
  exact ⟨rfl, (Ext.refl w).alloc _⟩

/-- Elements of a map, as they are. -/
def heldElem (v : Value) : Option (DataW Value × List MemPlace) := some (.held v, [])
theorem made_at {w : World} {b : Nat} (h : w.heap[b]? = some (.map #[] 0)) : w.ownsMap Try.prog 3 heldElem b 0 (.map []) :=
  ⟨#[], 0, h, ⟨by simp, stamped_empty 0, by simp⟩, Nat.le_refl _, rfl⟩
theorem keyInt : Keyed Try.prog 3 := int_keyed Try.underlying3

set_option maxRecDepth 100000 in
set_option maxHeartbeats 1600000 in
theorem apply1_c (B : Nat) (kd m k n : Int) (gt tcap a0 a1 n0 n1 c0 c1 : Nat) (h0 : 1 ≤ n0) (dv : Value) (fl : Bool) (ah : Int) (kn : Bool) (w : World) (h : DealAt w B (.slice none 0 0) (.slice none 0 0) dv fl ah kn)
    (ht0 : w.cell? ⟨gt, 0, none⟩ = some (.slice (some ⟨a0, 0, none⟩) n0 c0)) (ht1 : w.cell? ⟨gt, 1, none⟩ = some (.slice (some ⟨a1, 0, none⟩) n1 c1)) (hgtB : gt ≠ B) :
    Calls Try.prog 117 #[.agg #[.int .i64 kd, .int .i64 m, .int .i64 k, .int .i64 n, .slice (some ⟨gt, 0, none⟩) 1 tcap], .pointer (some ⟨B, 0, none⟩)] w fun e w' => ∃ gk gs cs mb D, e = .returned (.tuple #[]) ∧ DealAt w' B (.slice (some ⟨gs, 0, none⟩) 1 cs) (.slice none 0 0) dv fl ah kn ∧
      w'.heap[gk]? = some (.cells #[.int .i64 kd, .int .i64 m, .int .i64 k, .int .i64 n, .int .i64 1, .int .i64 0, .map (some mb)] 171 (0, 0)) ∧ w'.ownsMap Try.prog 3 heldElem mb 1 D ∧ D.atKey (.int .i64 0) (.held (.agg #[.slice none 0 0, .slice none 0 0])) = .held (.agg #[.slice (some ⟨a0, 0, none⟩) n0 c0, .slice (some ⟨a1, 0, none⟩) n1 c1]) ∧
      w'.cell? ⟨gs, 0, none⟩ = some (.pointer (some ⟨gk, 0, none⟩)) ∧ (∃ cur, w'.heap[gs]? = some (.cells cur 155 (0, 0))) ∧ Turn (fun b => b = B) w w' ∧ w.heap.size ≤ gk ∧ w.heap.size ≤ mb ∧ w.heap.size ≤ gs := by
  have HD : Hid (DealAt w B (.slice none 0 0) (.slice none 0 0) dv fl ah kn) := h
  have hltt := World.block_lt_of_cell? w _ ht0
  have HT0 : Hid _ := ht0
  have HT1 : Hid _ := ht1
  clear h ht0 ht1
  go_enter Try.func117, Try.ntmps117
  go_wp2_with fail
  refine (stockFor0_c B kd m k n dv fl ah kn _ (((Ext.refl w).alloc _).block HD.out)).mono ?_
  rintro e w1 ⟨gk, gs, cs, mb, rfl, hd1, hk1, hm1, hgs1, ho1, ht1, hl1, hl2, hl3⟩
  have hBw : B < w.heap.size := DealAt.lt HD.out
  have m4 : w1.cell? ⟨w.heap.size, 4, none⟩ = some (.slice (some ⟨gt, 0, none⟩) 1 tcap) := ht1.cell (cell_in (Ext.refl _) 4 rfl) (by show w.heap.size ≠ B; omega)
  have t0 : w1.cell? ⟨gt, 0, none⟩ = some (.slice (some ⟨a0, 0, none⟩) n0 c0) := ht1.cell (((Ext.refl w).alloc _).cell HT0.out) hgtB
  have t1 : w1.cell? ⟨gt, 1, none⟩ = some (.slice (some ⟨a1, 0, none⟩) n1 c1) := ht1.cell (((Ext.refl w).alloc _).cell HT1.out) hgtB
  have hs1 := ht1.size
  have hgtw1 : gt < w1.heap.size := World.block_lt_of_cell? w1 _ t0
  have HM1 : Hid (w1.ownsMap Try.prog 3 heldElem mb 0 (.map [])) := made_at hm1
  have HDK : Hid _ := And.intro hd1 (And.intro hk1 (And.intro hgs1 ho1))
  have HTW : Hid (Turn (fun b => b = B) w w1) := (Turn.of_ext ((Ext.refl w).alloc _)).trans ht1
  have hlw : w.heap.size + 1 ≤ w1.heap.size := by have := ht1.size; simpa using this
  have hgkl : gk < w1.heap.size := (Array.getElem?_eq_some_iff.1 hk1).1
  have hmbl : mb < w1.heap.size := (Array.getElem?_eq_some_iff.1 hm1).1
  have hgkmb : gk ≠ mb := fun e => by rw [e, hm1] at hk1; simp at hk1
  simp only [World.size_alloc] at hl1 hl2 hl3
  clear hd1 hk1 hm1 hgs1 ho1 ht1
  go_wp2_with fail
  go_loopw [14] (fun i wr => (i = .int .i64 0 ∧ wr = w1) ∨ (i = .int .i64 1 ∧ ∃ D, DealAt wr B (.slice (some ⟨gs, 0, none⟩) 1 cs) (.slice none 0 0) dv fl ah kn ∧
      wr.heap[gk]? = some (.cells #[.int .i64 kd, .int .i64 m, .int .i64 k, .int .i64 n, .int .i64 1, .int .i64 0, .map (some mb)] 171 (0, 0)) ∧ wr.ownsMap Try.prog 3 heldElem mb 1 D ∧ D.atKey (.int .i64 0) (.held (.agg #[.slice none 0 0, .slice none 0 0])) = .held (.agg #[.slice (some ⟨a0, 0, none⟩) n0 c0, .slice (some ⟨a1, 0, none⟩) n1 c1]) ∧
      wr.cell? ⟨gs, 0, none⟩ = some (.pointer (some ⟨gk, 0, none⟩)) ∧ (∃ cur, wr.heap[gs]? = some (.cells cur 155 (0, 0))) ∧ Turn (fun b => b = B) w wr)) (fun i _ => 1 - (intOf i).toNat)
  case atStart => exact .inl ⟨rfl, rfl⟩
  case round =>
    rcases hrel with ⟨rfl, rfl⟩ | ⟨rfl, hfin⟩
    · go_wp2_with fail
      have hone : (Value.slice (some ⟨a1, 0, none⟩) n1 c1).oneCell' = true := rfl
      refine (isForgotten_c (some ⟨a0, 0, none⟩) n0 c0 _ hone _).mono ?_
      rintro e w2 ⟨rfl, hx2⟩
      obtain ⟨hd1, hk1, hgs1, ho1⟩ := HDK.out
      have HX2 : Hid (Ext wr w2) := ((Ext.refl wr).alloc _).trans hx2
      have v0 := cell_in hx2 0 rfl
      have v1 := cell_in hx2 1 rfl
      have hk2 := HX2.out.block hk1
      have k4 : w2.cell? ⟨gk, 4, none⟩ = some (.int .i64 0) := by rw [cell_of_row w2 _ 4 _ _ _ hk2]; rfl
      have k6 : w2.cell? ⟨gk, 6, none⟩ = some (.map (some mb)) := by rw [cell_of_row w2 _ 6 _ _ _ hk2]; rfl
      have hn0 : ((n0 : Int) == 0) = false := by simp; omega
      have hown2 : (w2.drew).ownsMap Try.prog 3 heldElem mb 0 (.map []) := (World.ownsMap.kept (row := none) HM1.out ⟨Below.os HX2.out, Below.tape HX2.out, Below.output HX2.out, Below.size HX2.out, fun q hq _ => Below.block HX2.out q hq⟩ (by simp)).drew
      obtain ⟨w3, hrun, hown3, hgrow3⟩ := hown2.update (t := 169) (e := 116) keyInt Try.underlying169 (by unfold maxLen; omega) (keyOf_int_mk Try.underlying3 (a := 0) (by decide)) (val := .agg #[.slice (some ⟨a0, 0, none⟩) n0 c0, .slice (some ⟨a1, 0, none⟩) n1 c1]) rfl
      have HO3 : Hid _ := And.intro hown3 hgrow3
      have HK : Hid _ := And.intro hd1 (And.intro hk1 (And.intro hgs1 ho1))
      have hw12 := HX2.out.le
      have hsg : wr.heap.size ≠ mb := by omega
      clear hx2 hd1 hk1 hgs1 ho1 hk2 hown2 hown3 hgrow3
      have far : ∀ p : Nat, p < wr.heap.size + 1 → p ≠ mb → w3.heap[p]? = w2.heap[p]? := fun p hp hne => HO3.out.2.block p (by show p < w2.heap.size; have := World.block_lt_of_cell? w2 _ v0; simp at this; omega) (by simpa using hne)
      have hk3 : w3.heap[gk]? = _ := (far gk (by omega) hgkmb).trans (HX2.out.block HK.out.2.1)
      have k4' : w3.cell? ⟨gk, 4, none⟩ = some (.int .i64 0) := by rw [cell_of_row w3 _ 4 _ _ _ hk3]; rfl
      have k6' : w3.cell? ⟨gk, 6, none⟩ = some (.map (some mb)) := by rw [cell_of_row w3 _ 6 _ _ _ hk3]; rfl
      have v0' := (World.cell?_of_block (w := w2) (a := ⟨wr.heap.size, 0, none⟩) (far wr.heap.size (by omega) hsg)).trans v0
      have v1' := (World.cell?_of_block (w := w2) (a := ⟨wr.heap.size, 1, none⟩) (far wr.heap.size (by omega) hsg)).trans v1
      have f4 := frozen_row hk3 4
      have hd3 : DealAt w3 B (.slice (some ⟨gs, 0, none⟩) 1 cs) (.slice none 0 0) dv fl ah kn := (far B (by omega) (by omega)).trans (HX2.out.block HK.out.1)
      have hgsl : gs < wr.heap.size := World.block_lt_of_cell? wr _ HK.out.2.2.1
      have hgsmb : gs ≠ mb := fun e => by
        have h1 := HK.out.2.2.1
        obtain ⟨es, clock, h2, _⟩ := HM1.out
        rw [e] at h1
        simp [World.cell?, h2] at h1
      have hgsgk : gs ≠ gk := fun e => by
        have h1 := HK.out.2.2.2
        have h2 := HK.out.2.1
        exact row_ne (B := gk) h2 h1 (by decide) (by rw [← e]; rfl)
      have hg3 : w3.cell? ⟨gs, 0, none⟩ = some (.pointer (some ⟨gk, 0, none⟩)) := (World.cell?_of_block (w := w2) (a := ⟨gs, 0, none⟩) (far gs (by omega) hgsmb)).trans (HX2.out.cell HK.out.2.2.1)
      have hgr3 : ∃ cur, w3.heap[gs]? = some (.cells cur 155 (0, 0)) := by
        rcases HK.out.2.2.2.2 with ⟨h, _⟩ | ⟨g', cap', cur, hv, _, hh, _⟩
        · simp at h
        · simp at hv
          obtain ⟨rfl, rfl⟩ := hv
          exact ⟨cur, (far gs (by omega) hgsmb).trans (HX2.out.block hh)⟩
      have HF3 : Hid _ := And.intro hd3 (And.intro hk3 (And.intro hg3 hgr3))
      have HT3 : Hid (Turn (fun b => b = B) w w3) := Turn.grown (Turn.chain HX2.out HTW.out).drew HO3.out.2 (fun q hq hl => by simp at hq; omega)
      clear far hd3 hk3 hg3 hgr3
      go_wp2_with fail
      go_region_held3 (fun w' => w'.cell? ⟨gk, 4, none⟩ = some (.int .i64 0) ∧ w'.cell? ⟨gk, 6, none⟩ = some (.map (some mb)) ∧ w'.cell? ⟨wr.heap.size, 0, none⟩ = some (.slice (some ⟨a0, 0, none⟩) n0 c0) ∧ w'.cell? ⟨wr.heap.size, 1, none⟩ = some (.slice (some ⟨a1, 0, none⟩) n1 c1))
        (first | exact ⟨k4, k6, v0, v1⟩ | exact ⟨k4', k6', v0', v1'⟩) (fail)
      clear k4 k6 v0 v1 v0' v1' k6' hrun
      go_wp2
      go_roundw
      case rel =>
        obtain ⟨hd3, hk3, hg3, hgr3⟩ := HF3.out
        have ho3 := HO3.out.1
        refine .inr ⟨by go_num, _, ?_, setCell_row hk3 _, World.ownsMap.setCell ho3 (by show mb ≠ gk; omega) _, ?_, ?_, ?_, HT3.out.setCell (fun hq => by simp at hq; omega) _⟩
        · exact (Below.heap_setCell _ _ _ B (by show B ≠ gk; omega)).trans hd3
        · exact atKey_put_same ⟨[], rfl⟩ (by trivial) _ _
        · rw [World.cell?_of_block (w := w3) (Below.heap_setCell _ _ _ _ (by show gs ≠ gk; exact hgsgk))]; exact hg3
        · obtain ⟨cur, hc⟩ := hgr3
          exact ⟨cur, (Below.heap_setCell _ _ _ gs (by show gs ≠ gk; exact hgsgk)).trans hc⟩
      case measure => simp [intOf]
    · have HFIN : Hid _ := hfin
      clear hfin
      go_wp2
      go_end0
      obtain ⟨D, q1, q2, q3, q4, q5, q6, q7⟩ := HFIN.out
      exact ⟨gk, gs, cs, mb, D, rfl, q1, q2, q3, q4, q5, q6, q7, by omega, by omega, by omega⟩
end Go.Proofs.Ytmnjhhachdlmkaa
