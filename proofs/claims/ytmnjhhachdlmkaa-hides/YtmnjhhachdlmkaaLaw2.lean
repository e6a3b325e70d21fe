import Derived.Test.YtmnjhhachdlmkaaLaw1
import Derived.Test.YtmnjhhachdlmkaaDo
import Derived.Test.YtmnjhhachdlmkaaMake
namespace Go.Proofs.Ytmnjhhachdlmkaa
open Go.RowKit

theorem u64w (x : Int) : 0 ≤ IntKind.u64.wrap x ∧ IntKind.u64.wrap x ≤ 18446744073709551615 := by rw [IntKind.wrap_u64]; omega

theorem inU64_set {D : List Int} (h : inU64 D) {j : Nat} {v : Int} (h0 : 0 ≤ v) (h1 : v ≤ 18446744073709551615) : inU64 (D.set j v) := fun z hz => by
  rcases List.mem_or_eq_of_mem_set hz with h' | h'
  · exact h z h'
  · rw [h']; exact ⟨h0, h1⟩

set_option maxRecDepth 100000 in
set_option maxHeartbeats 1600000 in
theorem filled_c (a : Option Addr) (rl rcap n : Nat) (rz : List Int) (hrl : rz.length = rl) (hru : inU64 rz) (hrm : rl ≤ 100000000000000) (hn1 : 1 ≤ n) (hn : n ≤ 1000) (w : World) (hr : rl = 0 ∨ ∃ b off, a = some ⟨b, off, none⟩ ∧ WordsAt w b off rz) :
    Calls Try.prog 20 #[.slice a rl rcap, .int .i64 n] w fun e w' => ∃ g D, e = .returned (.slice (some ⟨g, 0, none⟩) n n) ∧ D.length = n ∧ inU64 D ∧ w'.ownsRow w.heap.size 47 1 (.slice (some ⟨g, 0, none⟩) n n) n (D.map (Value.int .u64)) ∧ Ext w w' := by
  have HRU : Hid _ := hru
  have HRL : Hid (rz.length = rl) := hrl
  have HR : Hid _ := hr
  clear hru hrl hr
  go_enter Try.func20, Try.ntmps20
  obtain ⟨i0, hi, hz0, hz1, hz2⟩ := info_parts infoU64
  go_wp2_with (at_make; refine wpList_make_full _ rfl _ _ 27 rfl w.heap.size 47 i0 (.int .u64 0) 1 Try.underlying27 hi hz0 hz1 _ _ _ _ n rfl rfl rfl rfl (by rw [hz2]; omega) (by unfold maxLen; omega) (Nat.le_refl _) ?_)
  intro w1 ho1 hg1
  have hx1 : Ext w w1 := Ext.grown (Ext.refl w) hg1 (by simp)
  have ho2 : w1.ownsRow w.heap.size 47 1 (.slice (some ⟨w.heap.size, 0, none⟩) n n) n ((List.replicate n (0 : Int)).map (Value.int .u64)) := by
    rw [List.map_replicate, ← toList_madeCells_one]; simpa [Value.cells] using ho1
  obtain ⟨g, hgE⟩ : ∃ g, w.heap.size = g := ⟨_, rfl⟩
  have HO1 : Hid (w1.ownsRow w.heap.size 47 1 (.slice (some ⟨g, 0, none⟩) n n) n ((List.replicate n (0 : Int)).map (Value.int .u64))) := by rw [← hgE]; exact ho2
  have HX1 : Hid (Ext w w1) := hx1
  have hgw : w.heap.size ≤ g := by omega
  rw [hgE]
  clear ho1 ho2 hg1 hx1 hgE
  go_wp2_with fail
  go_loopw [6] (fun i wr => ∃ (j : Nat) (D : List Int), j ≤ n ∧ i = .int .i64 j ∧ D.length = n ∧ inU64 D ∧ wr.ownsRow w.heap.size 47 1 (.slice (some ⟨g, 0, none⟩) n n) n (D.map (Value.int .u64)) ∧ Ext w wr) (fun i _ => n - (intOf i).toNat)
  case atStart => exact ⟨0, List.replicate n 0, Nat.zero_le _, rfl, by simp, fun z hz => by rw [(List.mem_replicate.1 hz).2]; omega, HO1.out, HX1.out⟩
  case round =>
    obtain ⟨j, D, hj, rfl, hD, hu, ho, hx⟩ := hrel
    have HD : Hid (D.length = n ∧ inU64 D) := ⟨hD, hu⟩
    have HO : Hid (wr.ownsRow w.heap.size 47 1 (.slice (some ⟨g, 0, none⟩) n n) n (D.map (Value.int .u64))) := ho
    have HX : Hid (Ext w wr) := hx
    clear hD hu ho hx
    by_cases hlt : j < n
    · have c0 : wr.cell? ⟨g, j, none⟩ = some (.int .u64 (D.getD j 0)) := by
        have := owns_words HO.out j (by rw [HD.out.1]; exact hlt)
        simpa using this
      have f0 : wr.frozen? ⟨g, j, none⟩ = false := HO.out.frozenAt j
      have hk0 : (0 : Int) ≤ (j : Int) := by omega
      have hk1 : (j : Int) < n := by omega
      have hwj : IntKind.u64.wrap (j : Int) = (j : Int) := by rw [IntKind.wrap_u64]; omega
      by_cases hr0 : rl = 0
      · subst hr0
        go_wp2
        go_roundw
        case rel => exact ⟨j + 1, D.set j ((j : Int) * 2654435761), by omega, by go_num, by simp [HD.out.1], inU64_set HD.out.2 (by omega) (by omega), by rw [List.map_set]; exact (HO.out.stored j _).1, Ext.setCell HX.out (by show w.heap.size ≤ g; exact hgw) _⟩
        case measure => simp [intOf]; omega
      · have hrp : (0 : Int) < (rl : Int) := by omega
        obtain ⟨b, off, ha, hwa⟩ := HR.out.resolve_left hr0
        subst ha
        have hjm : j % rl < rl := Nat.mod_lt _ (by omega)
        have q0 := HX.out.cell (hwa (j % rl) (by rw [HRL.out]; exact hjm))
        have hmod : Int.tmod (j : Int) (rl : Int) = ((j % rl : Nat) : Int) := by rw [Int.tmod_eq_emod_of_nonneg (by omega)]; rfl
        have hbl := World.block_lt_of_cell? wr _ q0
        have hrne : ¬ ((rl : Int) = 0) := by omega
        generalize rz.getD (j % rl) 0 = z at *
        generalize j % rl = jm at *
        have hm0 : (0 : Int) ≤ (jm : Int) := by omega
        have hm1 : (jm : Int) < rl := by omega
        have hbw : b < w.heap.size := by
          have := World.block_lt_of_cell? w _ (hwa 0 (by rw [HRL.out]; omega))
          exact this
        have hbg : g ≠ b := by omega
        clear hwa
        go_wp2_with fail
        have c1 : (wr.setCell ⟨g, j, none⟩ (.int .u64 ((j : Int) * 2654435761))).cell? ⟨g, j, none⟩ = some (.int .u64 ((j : Int) * 2654435761)) := World.cell?_setCell_same _ _ _ c0
        have q1 := (World.cell?_setCell_far wr ⟨g, j, none⟩ _ (.int .u64 ((j : Int) * 2654435761)) (by show g ≠ b; exact hbg)).trans q0
        have f1 : (wr.setCell ⟨g, j, none⟩ (.int .u64 ((j : Int) * 2654435761))).frozen? ⟨g, j, none⟩ = false := (World.ownsRow.frozenAt (HO.out.stored j (.int .u64 ((j : Int) * 2654435761))).1 j)
        have HO2 : Hid ((wr.setCell ⟨g, j, none⟩ (.int .u64 ((j : Int) * 2654435761))).ownsRow w.heap.size 47 1 (.slice (some ⟨g, 0, none⟩) n n) n ((D.set j ((j : Int) * 2654435761)).map (Value.int .u64))) := by
          have := (HO.out.stored j (.int .u64 ((j : Int) * 2654435761))).1
          rw [List.map_set]; exact this
        have HX2 : Hid (Ext w (wr.setCell ⟨g, j, none⟩ (.int .u64 ((j : Int) * 2654435761)))) := Ext.setCell HX.out (by show w.heap.size ≤ g; exact hgw) _
        generalize World.setCell wr _ _ = V at c1 q1 f1 HO2 HX2 ⊢
        clear c0 q0 f0 HO HX
        go_region
        all_goals go_wp2
        all_goals go_roundw
        all_goals first
          | (simp [intOf]; omega)
          | exact ⟨j + 1, (D.set j ((j : Int) * 2654435761)).set j (IntKind.u64.wrap ((j : Int) * 2654435761 / 7 + z)), by omega, by go_num, by simp [HD.out.1], inU64_set (inU64_set HD.out.2 (by omega) (by omega)) (u64w _).1 (u64w _).2, World.ownsRow.drew (by rw [List.map_set]; exact (HO2.out.stored j _).1), Ext.drew (Ext.setCell HX2.out (by show w.heap.size ≤ g; exact hgw) _)⟩
    · obtain rfl : j = n := by omega
      go_wp2
      go_ret
      exact ⟨g, D, rfl, HD.out.1, HD.out.2, HO.out, HX.out⟩

set_option maxRecDepth 100000 in
set_option maxHeartbeats 1600000 in
theorem draws1_c {kd m k n : Nat} {s : Sh} (hc : ofCls kd m k n s) (hs : s.ok) (a : Option Addr) (rl rcap : Nat) (rz : List Int) (hrl : rz.length = rl) (hru : inU64 rz) (hrm : rl ≤ 100000000000000) (w : World) (hr : rl = 0 ∨ ∃ b off, a = some ⟨b, off, none⟩ ∧ WordsAt w b off rz) :
    Calls Try.prog 15 #[clsV kd m k n, .slice a rl rcap, .int .i64 1] w fun e w' => ∃ g D, e = .returned (.slice (some ⟨g, 0, none⟩) (s.x + s.y + (s.x + s.y + s.z)) (s.x + s.y + (s.x + s.y + s.z))) ∧ D.length = s.x + s.y + (s.x + s.y + s.z) ∧ inU64 D ∧ w'.ownsRow w.heap.size 47 1 (.slice (some ⟨g, 0, none⟩) (s.x + s.y + (s.x + s.y + s.z)) (s.x + s.y + (s.x + s.y + s.z))) (s.x + s.y + (s.x + s.y + s.z)) (D.map (Value.int .u64)) ∧ Ext w w' := by
  have hle := Sh.le hs
  have HS : Hid _ := sizes_c hc hs
  have HF : Hid (∀ N w', N = s.x + s.y + (s.x + s.y + s.z) → Ext w w' → _) := fun N w' hN hx => filled_c a rl rcap N rz hrl hru hrm (by omega) (by omega) w' (hr.imp id (fun ⟨b, off, h1, h2⟩ => ⟨b, off, h1, h2.ext hx⟩))
  clear hru hr hc hs
  generalize s.x = x at *
  generalize s.y = y at *
  generalize s.z = z at *
  unfold clsV at *
  go_enter Try.func15, Try.ntmps15
  go_wp2_with fail
  refine (HS.out _).mono ?_
  rintro e w1 ⟨rfl, hx1⟩
  have HX1 : Hid (Ext w w1) := ((Ext.refl w).alloc _).trans hx1
  clear hx1
  go_wp2_with fail
  rw [show (2 * (x : Int) + 2 * (y : Int) + (z : Int)) = ((x + y + (x + y + z) : Nat) : Int) by omega]
  refine (HF.out _ _ rfl HX1.out).mono ?_
  rintro e w2 ⟨g, D, rfl, h1, h2, h3, h4⟩
  have HQ : Hid _ := And.intro h1 (And.intro h2 (And.intro h3 h4))
  clear h1 h2 h3 h4
  go_wp2
  go_ret
  obtain ⟨h1, h2, h3, h4⟩ := HQ.out
  exact ⟨g, D, rfl, h1, h2, owns_base h3 HX1.out.le, HX1.out.trans h4⟩
end Go.Proofs.Ytmnjhhachdlmkaa
