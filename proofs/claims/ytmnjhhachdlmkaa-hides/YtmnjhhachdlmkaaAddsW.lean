import Derived.Test.YtmnjhhachdlmkaaBoth
import Derived.Test.YtmnjhhachdlmkaaPure
namespace Go.Proofs.Ytmnjhhachdlmkaa
open Go.RowKit

def ClassOf (c : Int) : Prop := ∀ w, Calls Try.prog 13 #[.int .i64 c] w fun e w' => ∃ kd m k n : Nat, e = .returned (clsV kd m k n) ∧ isCls kd m k n = true ∧ Ext w w'

theorem adds_kept {w4 wr w6 : World} {g gc j L : Nat} {E : List Int} {v : Int} {kd m k n : Int} (hx : Ext w4 wr) (hx6 : Ext wr.drew w6) (hg : w4.heap.size ≤ g) (hgc : gc < g)
    (ho : wr.ownsRow g 47 1 (.slice (some ⟨g, 0, none⟩) L L) L (E.map (Value.int .u64)))
    (d0 : wr.cell? ⟨gc, 0, none⟩ = some (.int .i64 kd)) (d1 : wr.cell? ⟨gc, 1, none⟩ = some (.int .i64 m)) (d2 : wr.cell? ⟨gc, 2, none⟩ = some (.int .i64 k)) (d3 : wr.cell? ⟨gc, 3, none⟩ = some (.int .i64 n)) :
    Ext w4 (w6.setCell ⟨g, j, none⟩ (.int .u64 v)) ∧ (w6.setCell ⟨g, j, none⟩ (.int .u64 v)).ownsRow g 47 1 (.slice (some ⟨g, 0, none⟩) L L) L ((E.set j v).map (Value.int .u64)) ∧ (w6.setCell ⟨g, j, none⟩ (.int .u64 v)).cell? ⟨gc, 0, none⟩ = some (.int .i64 kd) ∧ (w6.setCell ⟨g, j, none⟩ (.int .u64 v)).cell? ⟨gc, 1, none⟩ = some (.int .i64 m) ∧ (w6.setCell ⟨g, j, none⟩ (.int .u64 v)).cell? ⟨gc, 2, none⟩ = some (.int .i64 k) ∧ (w6.setCell ⟨g, j, none⟩ (.int .u64 v)).cell? ⟨gc, 3, none⟩ = some (.int .i64 n) := by
  have hfar : ∀ (q : Nat) u, wr.cell? ⟨gc, q, none⟩ = some u → (w6.setCell ⟨g, j, none⟩ (.int .u64 v)).cell? ⟨gc, q, none⟩ = some u := fun q u h => (World.cell?_setCell_far w6 ⟨g, j, none⟩ ⟨gc, q, none⟩ _ (by show g ≠ gc; omega)).trans (hx6.cell h)
  have ho6 : w6.ownsRow g 47 1 (.slice (some ⟨g, 0, none⟩) L L) L (E.map (Value.int .u64)) := Ext.owns hx6 (World.ownsRow.drew ho)
  exact ⟨Ext.setCell ((Ext.drew hx).trans hx6) hg _, by rw [List.map_set]; exact (ho6.stored j _).1, hfar 0 _ d0, hfar 1 _ d1, hfar 2 _ d2, hfar 3 _ d3⟩

theorem adds_next {E P Q : List Int} {j L : Nat} {bt : Bool} {u0 u1 : Int} (h : ∀ q, q < j → E.getD q 0 = plusN bt (P.getD q 0) (Q.getD q 0)) (hE : E.length = L) (hj : j < L) (h0 : P.getD j 0 = u0) (h1 : Q.getD j 0 = u1) :
    ∀ q, q < j + 1 → (E.set j (plusN bt u0 u1)).getD q 0 = plusN bt (P.getD q 0) (Q.getD q 0) := fun q hq => by
  by_cases e : q = j
  · subst e
    rw [h0, h1]
    simp [List.getD_eq_getElem?_getD, hE, hj]
  · rw [← h q (by omega)]
    simp [List.getD_eq_getElem?_getD, Ne.symm e]

theorem adds_end {E P Q : List Int} {L : Nat} {bt : Bool} (h : ∀ q, q < L → E.getD q 0 = plusN bt (P.getD q 0) (Q.getD q 0)) (hE : E.length = L) (hP : P.length = L) (hQ : Q.length = L) : E = List.zipWith (plusN bt) P Q := by
  apply List.ext_getElem (by simp [hE, hP, hQ])
  intro q h1 h2
  have := h q (by omega)
  rw [List.getD_eq_getElem?_getD, List.getElem?_eq_getElem h1, Option.getD_some] at this
  rw [this]
  simp [List.getD_eq_getElem?_getD, List.getElem?_eq_getElem (show q < P.length by omega), List.getElem?_eq_getElem (show q < Q.length by omega)]

theorem whole_facts {s : Sh} {D W : List Int} {x y : Nat} (hW : W = D.take (x + y) ++ mulN s (D.take x) ((D.drop x).take y) s.p) (hD : x + y ≤ D.length) :
    W.take x = D.take x ∧ (W.drop x).take y = (D.drop x).take y ∧ W.drop (x + y) = mulN s (W.take x) ((W.drop x).take y) s.p ∧ W.take (x + y) = D.take (x + y) := by
  have h4 : W.take (x + y) = D.take (x + y) := by
    rw [hW, List.take_left' (by rw [List.length_take]; omega)]
  have h1 : W.take x = D.take x := by
    have := congrArg (List.take x) h4
    simpa [List.take_take, Nat.min_eq_left (Nat.le_add_right x y)] using this
  have h2 : (W.drop x).take y = (D.drop x).take y := by
    rw [List.take_drop, List.take_drop, h4]
  refine ⟨h1, h2, ?_, h4⟩
  rw [h1, h2, hW, List.drop_left' (by rw [List.length_take]; omega)]

set_option maxRecDepth 100000 in
set_option maxHeartbeats 1600000 in
theorem adds_c (c : Int) (hcl : ClassOf c) (a : Option Addr) (rl rcap : Nat) (rz : List Int) (hrl : rz.length = rl) (hru : inU64 rz) (hrm : rl ≤ 100000000000000) (w : World) (hr : rl = 0 ∨ ∃ b off, a = some ⟨b, off, none⟩ ∧ WordsAt w b off rz) :
    Calls Try.prog 4 #[.int .i64 c, .slice a rl rcap] w fun e w' => e = .returned (.bool true) ∧ Ext w w' := by
  obtain ⟨i0, hi, hz0, hz1, hz2⟩ := info_parts infoU64
  have HR : Hid _ := And.intro hrl (And.intro hru (And.intro hrm hr))
  clear hrl hru hrm hr
  have HCl : Hid (ClassOf c) := hcl
  clear hcl
  go_enter Try.func4, Try.ntmps4
  go_wp2_with fail
  refine (HCl.out _).mono ?_
  rintro e w1 ⟨kd, m, k, n, rfl, hcls, hx1⟩
  obtain ⟨s, hc, hs⟩ := ofCls.mk hcls
  have hle := Sh.le hs
  have HW : Hid (∀ D : List Int, inU64 D → D.length = s.x + s.y + (s.x + s.y + s.z) → List.zipWith (plusN s.bt) (part0 s D) (part1 s D) = wholeN s D ∧ (part0 s D).length = s.x + s.y + s.z ∧ (part1 s D).length = s.x + s.y + s.z) := fun D h hl => by
    have h0 : (part0 s D).length = s.x + s.y + s.z := by rw [part0, List.length_drop]; omega
    exact ⟨parts_whole s h hl, h0, by rw [part1, List.length_zipWith, whole_len s D hl, h0]; omega⟩
  have HS : Hid _ := sizes_c hc hs
  have HDr : Hid (∀ w', Ext w w' → _) := fun w' hx => draws1_c hc hs a rl rcap rz HR.out.1 HR.out.2.1 HR.out.2.2.1 w' (HR.out.2.2.2.imp id (fun ⟨b, off, h1, h2⟩ => ⟨b, off, h1, h2.ext hx⟩))
  have HB : Hid (∀ (g : Nat) (D : List Int) w', D.length = s.x + s.y + (s.x + s.y + s.z) → inU64 D → WordsAt w' g 0 D → _) := fun g D w' hl hu hz => both_c hc hs hcls g 0 (s.x + s.y + (s.x + s.y + s.z)) (s.x + s.y + (s.x + s.y + s.z)) D hl rfl (Nat.le_refl _) w' hz (part0_in s hu) (part1_in s D)
  have HPl : Hid (∀ x y w', Calls Try.prog 17 #[clsV kd m k n, .int .u64 x, .int .u64 y] w' fun e w'' => e = .returned (.int .u64 (plusN s.bt x y)) ∧ Ext w' w'') := fun x y w' => by
    have h := plus_c kd m k n x y w'
    rcases hc with ⟨rfl, rfl, rfl, rfl⟩ | ⟨hk, rfl⟩
    · simpa [plusN] using h
    · have hk2 : ¬ ((kd : Int) = 2) := by omega
      simpa [plusN, hk2] using h
  have HPr : Hid (∀ b off cap b2 off2 cap2 (A B : List Int) w', A.length = s.x → B.length = s.y → WordsAt w' b off A → WordsAt w' b2 off2 B → _) := fun b off cap b2 off2 cap2 A B w' hA hB hz hy => productS_c hc hs b off cap b2 off2 cap2 s.x s.y A B rfl rfl hA hB w' hz hy
  unfold clsV at *
  clear hc hs hcls
  have HX1 : Hid (Ext w w1) := hx1
  have hWh : ∀ D, wholeN s D = D.take (s.x + s.y) ++ mulN s (D.take s.x) ((D.drop s.x).take s.y) s.p := fun D => rfl
  have HWh : Hid _ := hWh
  clear hx1 hWh HCl
  generalize s.x = x at *
  generalize s.y = y at *
  generalize s.z = z at *
  go_wp2_with fail
  refine (HS.out _).mono ?_
  rintro e w2 ⟨rfl, hx2⟩
  obtain ⟨d0, d1, d2, d3⟩ := four_in hx2
  have HX2 : Hid (Ext w w2) := HX1.out.trans (((Ext.refl w1).alloc _).trans hx2)
  have hcw := four_lt hx2
  clear hx2
  obtain ⟨gc, hgc⟩ : ∃ gc, w1.heap.size = gc := ⟨_, rfl⟩
  rw [hgc] at d0 d1 d2 d3 hcw ⊢
  clear hgc
  go_wp2_with fail
  refine (HDr.out _ HX2.out).mono ?_
  rintro e w3 ⟨gd, D, rfl, hD1, hD2, hD3, hx3⟩
  have HD : Hid (D.length = x + y + (x + y + z) ∧ inU64 D ∧ WordsAt w3 gd 0 D) := ⟨hD1, hD2, owns_words hD3⟩
  have d0 := hx3.cell d0
  have d1 := hx3.cell d1
  have d2 := hx3.cell d2
  have d3 := hx3.cell d3
  have HX3 : Hid (Ext w2 w3) := hx3
  clear hD1 hD2 hD3 hx3
  go_wp2_with fail
  refine (HB.out gd D _ HD.out.1 HD.out.2.1 HD.out.2.2).mono ?_
  rintro e w4 ⟨g0, c0, g1, c1, rfl, hp0, hp1, hx4⟩
  have d0 := hx4.cell d0
  have d1 := hx4.cell d1
  have d2 := hx4.cell d2
  have d3 := hx4.cell d3
  have HP : Hid _ := And.intro hp0 (And.intro hp1 hx4)
  clear hp0 hp1 hx4
  go_wp2_with (at_make; refine wpList_make_full _ rfl _ _ 27 rfl w4.heap.size 47 i0 (.int .u64 0) 1 Try.underlying27 hi hz0 hz1 _ _ _ _ (x + y + z) rfl rfl (by omega) (by omega) (by rw [hz2]; omega) (by unfold maxLen; omega) (Nat.le_refl _) ?_)
  intro w5 ho1 hg1
  have hx5 : Ext w4 w5 := Ext.grown (Ext.refl w4) hg1 (by simp)
  have ho2 : w5.ownsRow w4.heap.size 47 1 (.slice (some ⟨w4.heap.size, 0, none⟩) (x + y + z) (x + y + z)) (x + y + z) ((List.replicate (x + y + z) (0 : Int)).map (Value.int .u64)) := by
    rw [List.map_replicate, ← toList_madeCells_one]; simpa [Value.cells] using ho1
  have d0 := hx5.cell d0
  have d1 := hx5.cell d1
  have d2 := hx5.cell d2
  have d3 := hx5.cell d3
  have hgc : gc < w4.heap.size := World.block_lt_of_cell? w4 ⟨gc, 0, none⟩ (by assumption)
  obtain ⟨g, hgE⟩ : ∃ g, w4.heap.size = g := ⟨_, rfl⟩
  rw [hgE] at ho2 hgc ⊢
  have HO5 : Hid (w5.ownsRow g 47 1 (.slice (some ⟨g, 0, none⟩) (x + y + z) (x + y + z)) (x + y + z) ((List.replicate (x + y + z) (0 : Int)).map (Value.int .u64))) := ho2
  have HX5 : Hid (Ext w4 w5 ∧ w4.heap.size = g) := ⟨hx5, hgE⟩
  clear ho1 ho2 hg1 hx5 hgE
  have hw0 := World.block_lt_of_cell? w4 _ (HP.out.1 0 (by rw [(HW.out D HD.out.2.1 HD.out.1).2.1]; omega))
  have hw1 := World.block_lt_of_cell? w4 _ (HP.out.2.1 0 (by rw [(HW.out D HD.out.2.1 HD.out.1).2.2]; omega))
  have HC : Hid _ := And.intro d0 (And.intro d1 (And.intro d2 d3))
  clear d0 d1 d2 d3
  go_wp2_with fail
  go_loopw [14] (fun i wr => ∃ (j : Nat) (E : List Int), j ≤ x + y + z ∧ i = .int .i64 j ∧ E.length = x + y + z ∧ (∀ q, q < j → E.getD q 0 = plusN s.bt ((part0 s D).getD q 0) ((part1 s D).getD q 0)) ∧ wr.ownsRow g 47 1 (.slice (some ⟨g, 0, none⟩) (x + y + z) (x + y + z)) (x + y + z) (E.map (Value.int .u64)) ∧ Ext w4 wr ∧ wr.cell? ⟨gc, 0, none⟩ = some (.int .i64 kd) ∧ wr.cell? ⟨gc, 1, none⟩ = some (.int .i64 m) ∧ wr.cell? ⟨gc, 2, none⟩ = some (.int .i64 k) ∧ wr.cell? ⟨gc, 3, none⟩ = some (.int .i64 n)) (fun i _ => x + y + z - (intOf i).toNat)
  case atStart => exact ⟨0, List.replicate (x + y + z) 0, Nat.zero_le _, rfl, by simp, fun q hq => absurd hq (Nat.not_lt_zero _), HO5.out, HX5.out.1, HC.out⟩
  case round =>
    obtain ⟨j, E, hj, rfl, hE, hP, ho, hx, d0, d1, d2, d3⟩ := hrel
    have HE : Hid (E.length = x + y + z) := hE
    have HPp : Hid (∀ q, q < j → E.getD q 0 = plusN s.bt ((part0 s D).getD q 0) ((part1 s D).getD q 0)) := hP
    have HO : Hid (wr.ownsRow g 47 1 (.slice (some ⟨g, 0, none⟩) (x + y + z) (x + y + z)) (x + y + z) (E.map (Value.int .u64))) := ho
    have HX : Hid (Ext w4 wr) := hx
    clear hP ho hx hE
    by_cases hlt : j < x + y + z
    · have hk0 : (0 : Int) ≤ (j : Int) := by omega
      have hk1 : (j : Int) < (x + y + z : Nat) := by omega
      have e0 := HX.out.cell (HP.out.1 j (by rw [(HW.out D HD.out.2.1 HD.out.1).2.1]; exact hlt))
      have e1 := HX.out.cell (HP.out.2.1 j (by rw [(HW.out D HD.out.2.1 HD.out.1).2.2]; exact hlt))
      rw [Nat.zero_add] at e0 e1
      have f5 : wr.frozen? ⟨g, j, none⟩ = false := HO.out.frozenAt j
      have c5 : wr.cell? ⟨g, j, none⟩ = some (.int .u64 (E.getD j 0)) := by
        have := owns_words HO.out j (by rw [HE.out]; exact hlt)
        simpa using this
      generalize hu0 : (part0 s D).getD j 0 = u0 at *
      generalize hu1 : (part1 s D).getD j 0 = u1 at *
      have HU : Hid _ := And.intro hu0 hu1
      clear hu0 hu1
      go_wp2
      go_region_with (first | (go_at_call 17; refine (HPl.out _ _ _).mono ?_; rintro e w6 ⟨rfl, hx6⟩; have c6 := hx6.cell c5; have f6 : w6.frozen? ⟨g, j, none⟩ = false := (hx6.frozen (World.block_lt_of_cell? wr ⟨g, j, none⟩ c5)).trans f5))
      all_goals
        have HF : Hid (Ext w4 (w6.setCell ⟨g, j, none⟩ (.int .u64 (plusN s.bt u0 u1))) ∧ (w6.setCell ⟨g, j, none⟩ (.int .u64 (plusN s.bt u0 u1))).ownsRow g 47 1 (.slice (some ⟨g, 0, none⟩) (x + y + z) (x + y + z)) (x + y + z) ((E.set j (plusN s.bt u0 u1)).map (Value.int .u64)) ∧ (w6.setCell ⟨g, j, none⟩ (.int .u64 (plusN s.bt u0 u1))).cell? ⟨gc, 0, none⟩ = some (.int .i64 kd) ∧ (w6.setCell ⟨g, j, none⟩ (.int .u64 (plusN s.bt u0 u1))).cell? ⟨gc, 1, none⟩ = some (.int .i64 m) ∧ (w6.setCell ⟨g, j, none⟩ (.int .u64 (plusN s.bt u0 u1))).cell? ⟨gc, 2, none⟩ = some (.int .i64 k) ∧ (w6.setCell ⟨g, j, none⟩ (.int .u64 (plusN s.bt u0 u1))).cell? ⟨gc, 3, none⟩ = some (.int .i64 n)) := adds_kept HX.out hx6 (Nat.le_of_eq HX5.out.2) hgc HO.out d0 d1 d2 d3
        clear d0 d1 d2 d3 e0 e1 c5 c6 f5 f6 hx6
        generalize World.setCell w6 _ _ = w7 at HF ⊢
        go_wp2
        go_roundw
        case rel => exact ⟨j + 1, _, by omega, by go_num, by rw [List.length_set]; exact HE.out, adds_next HPp.out HE.out hlt HU.out.1 HU.out.2, HF.out.2.1, HF.out.1, HF.out.2.2⟩
        case measure => simp [intOf]; omega
    · obtain rfl : j = x + y + z := by omega
      have HEw : Hid (E = wholeN s D) := by
        have h := HW.out D HD.out.2.1 HD.out.1
        exact (adds_end HPp.out HE.out h.2.1 h.2.2).trans h.1
      have HWf : Hid _ := whole_facts (HEw.out.trans (HWh.out D)) (show x + y ≤ D.length by rw [HD.out.1]; omega)
      have HEl : Hid (E.length = x + y + z) := HE.out
      have HEa : Hid (WordsAt wr g 0 E) := owns_words HO.out
      have HDa : Hid (WordsAt wr gd 0 D ∧ D.length = x + y + (x + y + z)) := ⟨HD.out.2.2.ext (HP.out.2.2.trans HX.out), HD.out.1⟩
      have HXr : Hid (Ext w wr) := HX2.out.trans (HX3.out.trans (HP.out.2.2.trans HX.out))
      clear HEw HE HPp HO HX HD HP HW HWh HO5 HX5 HB HDr HS HPl HC HX2 HX3 HX1 HR
      have v1 : IntKind.i64.wrap ((x : Int) + (y : Int)) = ((x + y : Nat) : Int) := by rw [show (x : Int) + y = ((x + y : Nat) : Int) by omega]; exact wrap_small (by omega)
      have t1 : ∀ W, (Instr.slice 27 (.slice (some ⟨g, 0, none⟩) (x + y + z) (x + y + z)) (some (.int .i64 ((x + y : Nat) : Int))) none none).run Try.prog W = .ok (.slice (some ⟨g, x + y, none⟩) z z) W := fun W => by
        rw [slice_l g 0 _ (x + y + z) (x + y) (by omega) (Nat.le_refl _), show x + y + z - (x + y) = z by omega, Nat.zero_add]
      have t2 : ∀ W, (Instr.slice 27 (.slice (some ⟨g, 0, none⟩) (x + y + z) (x + y + z)) none (some (.int .i64 ((x + y : Nat) : Int))) none).run Try.prog W = .ok (.slice (some ⟨g, 0, none⟩) (x + y) (x + y + z)) W := fun W => slice_h g 0 _ (x + y + z) (x + y) (by omega) (by omega) W
      have t3 : ∀ W, (Instr.slice 27 (.slice (some ⟨g, 0, none⟩) (x + y + z) (x + y + z)) none (some (.int .i64 (x : Int))) none).run Try.prog W = .ok (.slice (some ⟨g, 0, none⟩) x (x + y + z)) W := fun W => slice_h g 0 _ (x + y + z) x (by omega) (by omega) W
      have t4 : ∀ W, (Instr.slice 27 (.slice (some ⟨g, 0, none⟩) (x + y + z) (x + y + z)) (some (.int .i64 (x : Int))) (some (.int .i64 ((x + y : Nat) : Int))) none).run Try.prog W = .ok (.slice (some ⟨g, x, none⟩) y (x + y + z - x)) W := fun W => by
        rw [slice_lh g 0 _ (x + y + z) x (x + y) (by omega) (by omega), show x + y - x = y by omega, Nat.zero_add]
      have t5 : ∀ W, (Instr.slice 27 (.slice (some ⟨gd, 0, none⟩) (x + y + (x + y + z)) (x + y + (x + y + z))) none (some (.int .i64 ((x + y : Nat) : Int))) none).run Try.prog W = .ok (.slice (some ⟨gd, 0, none⟩) (x + y) (x + y + (x + y + z))) W := fun W => slice_h gd 0 _ _ (x + y) (by omega) (by omega) W
      have HB2 : Hid (1 ≤ x ∧ x ≤ 9 ∧ 1 ≤ y ∧ y ≤ 9 ∧ 1 ≤ z ∧ z ≤ 9) := hle
      generalize hxy : x + y = xy at *
      have HXY : Hid (x + y = xy) := hxy
      clear hxy hle hj hlt
      go_wp2_with fail
      go_region_held3 (fun w' => (w'.cell? ⟨gc, 0, none⟩ = some (.int .i64 kd) ∧ w'.cell? ⟨gc, 1, none⟩ = some (.int .i64 m) ∧ w'.cell? ⟨gc, 2, none⟩ = some (.int .i64 k) ∧ w'.cell? ⟨gc, 3, none⟩ = some (.int .i64 n)) ∧ Ext wr w')
        ((refine and_cell4 d0 d1 d2 d3 ?_; (repeat (first | with_reducible exact Ext.refl _ | with_reducible assumption | with_reducible refine Ext.drew ?_ | with_reducible refine Ext.alloc ?_ _ | with_reducible (apply Ext.chain; assumption))); done))
        (first | (go_at_call 18; refine (HPr.out g 0 _ g x _ (E.take x) ((E.drop x).take y) _ ?a1 ?a2 ?a3 ?a4).mono ?_; (case a1 => (have := HXY.out; rw [List.length_take, HEl.out]; omega)); (case a2 => (have := HXY.out; rw [List.length_take, List.length_drop, HEl.out]; omega)); (case a3 => exact (HEa.out.take x).ext (Ext.drew (Ext.refl _))); (case a4 => exact (by have h := ((HEa.out.drop x).take y).ext (Ext.drew (Ext.refl wr)); rwa [Nat.zero_add] at h)); rintro e w6 ⟨gt, rfl, ho6, hx6⟩))
      rename_i hHeld
      clear hHeld
      have hx6' : Ext wr w6 := (Ext.drew (Ext.refl wr)).trans hx6
      have HS1 : Hid (WordsAt w6 gt 0 (E.drop xy) ∧ WordsAt w6 g xy (E.drop xy) ∧ (E.drop xy).length = z) := by
        refine ⟨?_, ?_, ?_⟩
        · have h := HWf.out.2.2.1
          rw [h]; exact owns_words ho6
        · have h := (HEa.out.drop xy).ext hx6'
          rwa [Nat.zero_add] at h
        · rw [List.length_drop, HEl.out]; omega
      have HS2 : Hid (∀ W, Ext w6 W → WordsAt W g 0 (E.take xy) ∧ WordsAt W gd 0 (E.take xy) ∧ (E.take xy).length = xy) := fun W hW => by
        refine ⟨(HEa.out.take xy).ext (hx6'.trans hW), ?_, ?_⟩
        · have h := HWf.out.2.2.2
          rw [h]; exact (HDa.out.1.take xy).ext (hx6'.trans hW)
        · rw [List.length_take, HEl.out]; omega
      have HX6 : Hid (Ext w w6) := HXr.out.trans hx6'
      clear hx6 hx6' ho6 d0 d1 d2 d3
      have hz9 : z ≤ 1000 ∧ xy ≤ 1000 := by have := HB2.out; have := HXY.out; omega
      have HZ9 : Hid _ := hz9
      clear hz9
      go_wp2_with fail
      refine (sameWords_c gt 0 z g xy z z (E.drop xy) HS1.out.2.2 HZ9.out.1 w6 HS1.out.1 HS1.out.2.1).mono ?_
      rintro e w7 ⟨rfl, hx7⟩
      have HX7 : Hid (Ext w6 w7) := hx7
      clear hx7
      go_wp2_with fail
      go_region_held3 (fun w' => Ext w7 w') (((repeat (first | with_reducible exact Ext.refl _ | with_reducible assumption | with_reducible refine Ext.drew ?_ | with_reducible refine Ext.alloc ?_ _ | with_reducible (apply Ext.chain; assumption))); done))
        (first | (go_at_call 19; refine (sameWords_c g 0 (xy + z) gd 0 (xy + (xy + z)) xy (E.take xy) ?b1 ?b2 _ ?b3 ?b4).mono ?_; (case b1 => exact (HS2.out _ HX7.out).2.2); (case b2 => exact HZ9.out.2); (case b3 => exact (HS2.out _ (Ext.drew HX7.out)).1); (case b4 => exact (HS2.out _ (Ext.drew HX7.out)).2.1); rintro e w8 ⟨rfl, hx8⟩))
      go_wp2
      go_ret
      exact ⟨rfl, HX6.out.trans (HX7.out.trans ((Ext.drew (Ext.refl w7)).trans hx8))⟩
end Go.Proofs.Ytmnjhhachdlmkaa
