import Derived.Test.YtmnjhhachdlmkaaPure
import Derived.Laws.CopyOwn
import Derived.Test.YtmnjhhachdlmkaaAddsW
namespace Go.Proofs.Ytmnjhhachdlmkaa

section
open Go.RowKit

def PickOf (c : Int) (q : Nat) : Prop := ∀ w, Calls Try.prog 21 #[.int .i64 c, .int .i64 2] w fun e w' => e = .returned (.int .i64 q) ∧ w = w'

theorem pick2_c (c : Int) (hc0 : -9223372036854775808 ≤ c) (hc1 : c ≤ 9223372036854775807) : ∃ q : Nat, q < 2 ∧ PickOf c q := by
  by_cases hc : c < 0
  · refine ⟨((-(c + 1)) % 2).toNat, by omega, fun w => ?_⟩
    go_enter Try.func21, Try.ntmps21
    go_wp2
    go_ret
    refine ⟨ret_int ?_, rfl⟩
    have h0 : (0 : Int) ≤ -(c + 1) := by omega
    rw [← Int.neg_tmod, Int.tmod_eq_emod_of_nonneg h0]
    omega
  · refine ⟨(c % 2).toNat, by omega, fun w => ?_⟩
    go_enter Try.func21, Try.ntmps21
    go_wp2
    go_ret
    exact ⟨ret_int (by omega), rfl⟩

/-- What the statement lets party 0 draw, so that the party that is asked for gets V. -/
def firstN (s : Sh) (q : Nat) (D V : List Int) (i : Nat) : Int := if q = 1 then minusN s.bt ((wholeN s D).getD i 0) (V.getD i 0) else V.getD i 0

theorem first_range (s : Sh) (q : Nat) (D : List Int) {V : List Int} (h : inU64 V) {i : Nat} (hi : i < V.length) : 0 ≤ firstN s q D V i ∧ firstN s q D V i ≤ 18446744073709551615 := by
  unfold firstN
  split
  · exact minus_range _ _ _
  · rw [List.getD_eq_getElem?_getD, List.getElem?_eq_getElem hi, Option.getD_some]
    exact h _ (List.getElem_mem hi)

theorem whole_same {s : Sh} {D E : List Int} (h : E.take (s.x + s.y) = D.take (s.x + s.y)) : wholeN s E = wholeN s D := by
  have h1 : E.take s.x = D.take s.x := by
    have := congrArg (List.take s.x) h
    simpa [List.take_take, Nat.min_eq_left (Nat.le_add_right s.x s.y)] using this
  have h2 : (E.drop s.x).take s.y = (D.drop s.x).take s.y := by
    rw [List.take_drop, List.take_drop, h]
  rw [wholeN, wholeN, h, h1, h2]

theorem hides_end {s : Sh} {q : Nat} {D E V : List Int} (hD : D.length = s.x + s.y + (s.x + s.y + s.z)) (hE : E.length = s.x + s.y + (s.x + s.y + s.z)) (hV : V.length = s.x + s.y + s.z) (hu : inU64 V)
    (ht : E.take (s.x + s.y) = D.take (s.x + s.y)) (hf : ∀ i, i < s.x + s.y + s.z → E.getD (s.x + s.y + i) 0 = firstN s q D V i) :
    (q = 0 → part0 s E = V) ∧ (q = 1 → part1 s E = V) := by
  have hl : (part0 s E).length = s.x + s.y + s.z := by rw [part0, List.length_drop]; omega
  have hg : ∀ i (h : i < (part0 s E).length), (part0 s E)[i] = firstN s q D V i := fun i h => by
    rw [← hf i (by omega)]
    simp [part0, List.getD_eq_getElem?_getD, List.getElem?_eq_getElem (show s.x + s.y + i < E.length by omega)]
  constructor
  · rintro rfl
    apply List.ext_getElem (by omega)
    intro i h1 h2
    rw [hg i h1]
    simp [firstN, List.getD_eq_getElem?_getD, List.getElem?_eq_getElem h2]
  · rintro rfl
    rw [part1, whole_same ht]
    have hw : (wholeN s D).length = s.x + s.y + s.z := whole_len s D hD
    apply List.ext_getElem (by rw [List.length_zipWith]; omega)
    intro i h1 h2
    rw [List.getElem_zipWith, hg i (by omega)]
    have e1 : (wholeN s D).getD i 0 = (wholeN s D)[i]'(by omega) := by simp [List.getD_eq_getElem?_getD, List.getElem?_eq_getElem (show i < (wholeN s D).length by omega)]
    have e2 : V.getD i 0 = V[i] := by simp [List.getD_eq_getElem?_getD, List.getElem?_eq_getElem h2]
    rw [firstN, if_pos rfl, e1, e2]
    exact minus_minus s.bt (hu _ (List.getElem_mem h2)) _

theorem WordsAt.set_far {w : World} {b off : Nat} {D : List Int} (h : WordsAt w b off D) {g j : Nat} (v : Value) (hg : g ≠ b) : WordsAt (w.setCell ⟨g, j, none⟩ v) b off D := fun i hi =>
  (World.cell?_setCell_far w ⟨g, j, none⟩ ⟨b, off + i, none⟩ v hg).trans (h i hi)

theorem hides_next {s : Sh} {q j : Nat} {D E V : List Int} {x y z : Nat} (hE : E.length = x + y + (x + y + z)) (hj : j < x + y + z)
    (ht : E.take (x + y) = D.take (x + y)) (hf : ∀ i, i < j → E.getD (x + y + i) 0 = firstN s q D V i) (v : Int) (hv : v = firstN s q D V j) :
    (E.set (x + y + j) v).length = x + y + (x + y + z) ∧ (E.set (x + y + j) v).take (x + y) = D.take (x + y) ∧ ∀ i, i < j + 1 → (E.set (x + y + j) v).getD (x + y + i) 0 = firstN s q D V i := by
  refine ⟨by rw [List.length_set]; exact hE, ?_, fun i hi => ?_⟩
  · rw [← ht, List.take_set_of_le (by omega)]
  · by_cases e : i = j
    · subst e
      rw [← hv]
      simp [List.getD_eq_getElem?_getD, show x + y + i < E.length by omega]
    · rw [← hf i (by omega)]
      simp [List.getD_eq_getElem?_getD, Ne.symm e]

theorem owns_full {w : World} {base g n : Nat} {e : TypeId} {xs : List Value} (h : w.ownsRow base e 1 (.slice (some ⟨g, 0, none⟩) n n) n xs) : w.heap[g]? = some (.cells xs.toArray e (0, 0)) ∧ xs.length = n ∧ base ≤ g ∧ n ≤ maxLen := by
  obtain ⟨hl, ⟨h1, _⟩ | ⟨g', cap, cur, hv, hb, hg, hc, hm, hs, ht⟩⟩ := h
  · simp at h1
  · simp at hv
    obtain ⟨rfl, rfl⟩ := hv
    have hcur : cur.toList = xs := by
      rw [← ht, List.take_of_length_le (by simp [hs])]
    refine ⟨?_, by omega, hb, hm⟩
    rw [hg, ← hcur]
theorem owns_of {w : World} {base g n : Nat} {e : TypeId} {xs : List Value} (h : w.heap[g]? = some (.cells xs.toArray e (0, 0))) (hl : xs.length = n) (hb : base ≤ g) (hm : n ≤ maxLen) : w.ownsRow base e 1 (.slice (some ⟨g, 0, none⟩) n n) n xs :=
  ⟨by omega, .inr ⟨g, n, xs.toArray, rfl, hb, h, Nat.le_refl _, hm, by simp [hl], by simp [← hl]⟩⟩
theorem addr_add (b off j : Nat) : (⟨b, off, none⟩ : Addr).add j = ⟨b, off + j, none⟩ := by simp [Addr.add]
theorem splice_all {L cs : List Value} (h : cs.length = L.length) : splice L 0 cs = cs := by
  simp [splice, h]
end

section
open Go.RowKit

set_option maxRecDepth 100000 in
set_option maxHeartbeats 1600000 in
theorem hides_c (c pa : Int) (q : Nat) (hq2 : q < 2) (hpk : PickOf pa q) (hcl : ClassOf c) (a : Option Addr) (rl rcap : Nat) (rz : List Int) (hrl : rz.length = rl) (hru : inU64 rz) (hrm : rl ≤ 100000000000000) (a2 : Option Addr) (rl2 rcap2 : Nat) (rz2 : List Int) (hrl2 : rz2.length = rl2) (hru2 : inU64 rz2) (hrm2 : rl2 ≤ 100000000000000) (w : World) (hr : rl = 0 ∨ ∃ b off, a = some ⟨b, off, none⟩ ∧ WordsAt w b off rz) (hr2 : rl2 = 0 ∨ ∃ b off, a2 = some ⟨b, off, none⟩ ∧ WordsAt w b off rz2) :
    Calls Try.prog 5 #[.int .i64 c, .slice a rl rcap, .slice a2 rl2 rcap2, .int .i64 pa] w fun e w' => e = .returned (.bool true) ∧ Ext w w' := by
  obtain ⟨i0, hi, hz0, hz1, hz2⟩ := info_parts infoU64
  have HR : Hid _ := And.intro hrl (And.intro hru (And.intro hrm hr))
  have HR2 : Hid _ := And.intro hrl2 (And.intro hru2 (And.intro hrm2 hr2))
  clear hrl hru hrm hr hrl2 hru2 hrm2 hr2
  have HCl : Hid (ClassOf c) := hcl
  have HPk : Hid (PickOf pa q) := hpk
  clear hcl hpk
  go_enter Try.func5, Try.ntmps5
  go_wp2_with fail
  refine (HCl.out _).mono ?_
  rintro e w1 ⟨kd, m, k, n, rfl, hcls, hx1⟩
  obtain ⟨s, hc, hs⟩ := ofCls.mk hcls
  have hle := Sh.le hs
  have HEnd : Hid (∀ D E V : List Int, D.length = s.x + s.y + (s.x + s.y + s.z) → E.length = s.x + s.y + (s.x + s.y + s.z) → V.length = s.x + s.y + s.z → inU64 V → E.take (s.x + s.y) = D.take (s.x + s.y) → (∀ i, i < s.x + s.y + s.z → E.getD (s.x + s.y + i) 0 = firstN s q D V i) → (q = 0 → part0 s E = V) ∧ (q = 1 → part1 s E = V)) := fun D E V h1 h2 h3 h4 h5 h6 => hides_end h1 h2 h3 h4 h5 h6
  have HNx : Hid (∀ (D E V : List Int) (j : Nat), E.length = s.x + s.y + (s.x + s.y + s.z) → j < s.x + s.y + s.z → E.take (s.x + s.y) = D.take (s.x + s.y) → (∀ i, i < j → E.getD (s.x + s.y + i) 0 = firstN s q D V i) → ∀ v, v = firstN s q D V j → (E.set (s.x + s.y + j) v).length = s.x + s.y + (s.x + s.y + s.z) ∧ (E.set (s.x + s.y + j) v).take (s.x + s.y) = D.take (s.x + s.y) ∧ ∀ i, i < j + 1 → (E.set (s.x + s.y + j) v).getD (s.x + s.y + i) 0 = firstN s q D V i) := fun D E V j h1 h2 h3 h4 v h5 => hides_next h1 h2 h3 h4 v h5
  have HWl : Hid (∀ D : List Int, D.length = s.x + s.y + (s.x + s.y + s.z) → (wholeN s D).length = s.x + s.y + s.z) := fun D h => whole_len s D h
  have HZl : Hid (∀ A B : List Int, (mulN s A B s.p).length = s.z) := fun A B => by rw [mul_len, ← Nat.mul_assoc]; rfl
  have HS : Hid _ := sizes_c hc hs
  have HDr : Hid (∀ w', Ext w w' → _) := fun w' hx => draws1_c hc hs a rl rcap rz HR.out.1 HR.out.2.1 HR.out.2.2.1 w' (HR.out.2.2.2.imp id (fun ⟨b, off, h1, h2⟩ => ⟨b, off, h1, h2.ext hx⟩))
  have HFi : Hid (∀ w', Ext w w' → _) := fun w' hx => filled_c a2 rl2 rcap2 (s.x + s.y + s.z) rz2 HR2.out.1 HR2.out.2.1 HR2.out.2.2.1 (by omega) (by omega) w' (HR2.out.2.2.2.imp id (fun ⟨b, off, h1, h2⟩ => ⟨b, off, h1, h2.ext hx⟩))
  have HB : Hid (∀ (g : Nat) (D : List Int) w', D.length = s.x + s.y + (s.x + s.y + s.z) → inU64 D → WordsAt w' g 0 D → _) := fun g D w' hl hu hz => both_c hc hs hcls g 0 (s.x + s.y + (s.x + s.y + s.z)) (s.x + s.y + (s.x + s.y + s.z)) D hl rfl (Nat.le_refl _) w' hz (part0_in s hu) (part1_in s D)
  have HPr : Hid (∀ b off cap b2 off2 cap2 (A B : List Int) w', A.length = s.x → B.length = s.y → WordsAt w' b off A → WordsAt w' b2 off2 B → _) := fun b off cap b2 off2 cap2 A B w' hA hB hz hy => productS_c hc hs b off cap b2 off2 cap2 s.x s.y A B rfl rfl hA hB w' hz hy
  have HKd : Hid (s.bt = true ∧ (kd : Int) = 2 ∨ s.bt = false ∧ ¬ ((kd : Int) = 2)) := by
    rcases hc with ⟨rfl, rfl, rfl, rfl⟩ | ⟨hk, rfl⟩
    · exact .inl ⟨rfl, rfl⟩
    · exact .inr ⟨rfl, by omega⟩
  unfold clsV at *
  clear hc hs hcls
  have HX1 : Hid (Ext w w1) := hx1
  have hWh : ∀ D, wholeN s D = D.take (s.x + s.y) ++ mulN s (D.take s.x) ((D.drop s.x).take s.y) s.p := fun D => rfl
  have HWh : Hid _ := hWh
  clear hx1 hWh HCl
  generalize s.x = x at *
  generalize s.y = y at *
  generalize s.z = z at *
  go_wp2_with fail
  refine (HS.out _).mono ?_
  rintro e w2 ⟨rfl, hx2⟩
  obtain ⟨d0, d1, d2, d3⟩ := four_in hx2
  have HX2 : Hid (Ext w w2) := HX1.out.trans (((Ext.refl w1).alloc _).trans hx2)
  have hcw := four_lt hx2
  clear hx2
  obtain ⟨gc, hgc⟩ : ∃ gc, w1.heap.size = gc := ⟨_, rfl⟩
  rw [hgc] at d0 d1 d2 d3 hcw ⊢
  clear hgc
  have HC2 : Hid _ := And.intro d0 (And.intro d1 (And.intro d2 d3))
  go_wp2_with fail
  refine (HDr.out _ HX2.out).mono ?_
  rintro e w3 ⟨gd, D, rfl, hD1, hD2, hD3, hx3⟩
  have HD : Hid (D.length = x + y + (x + y + z) ∧ inU64 D) := ⟨hD1, hD2⟩
  have HO3 : Hid (w3.ownsRow w2.heap.size 47 1 (.slice (some ⟨gd, 0, none⟩) (x + y + (x + y + z)) (x + y + (x + y + z))) (x + y + (x + y + z)) (D.map (Value.int .u64))) := hD3
  have d0 := hx3.cell d0
  have d1 := hx3.cell d1
  have d2 := hx3.cell d2
  have d3 := hx3.cell d3
  have HX3 : Hid (Ext w2 w3) := hx3
  clear hD1 hD2 hD3 hx3
  have v1 : IntKind.i64.wrap ((x : Int) + (y : Int)) = ((x + y : Nat) : Int) := by rw [show (x : Int) + y = ((x + y : Nat) : Int) by omega]; exact wrap_small (by omega)
  clear v1
  go_wp2_with fail
  rw [show ((x : Int) + (y : Int) + (z : Int)) = ((x + y + z : Nat) : Int) by omega]
  refine (HFi.out _ (HX2.out.trans HX3.out)).mono ?_
  rintro e w4 ⟨gv, V, rfl, hV1, hV2, hV3, hx4⟩
  have HV : Hid (V.length = x + y + z ∧ inU64 V) := ⟨hV1, hV2⟩
  have hgd3 : gd < w3.heap.size := World.block_lt_of_cell? w3 _ (owns_words HO3.out 0 (by rw [HD.out.1]; omega))
  have hgv : w3.heap.size ≤ gv := by
    rcases owns_form hV3 with ⟨h, _⟩ | ⟨g, cap, h, hb, _⟩
    · simp at h
    · simp at h; omega
  have HV4 : Hid (WordsAt w4 gv 0 V) := owns_words hV3
  have HO4 : Hid (w4.ownsRow w2.heap.size 47 1 (.slice (some ⟨gd, 0, none⟩) (x + y + (x + y + z)) (x + y + (x + y + z))) (x + y + (x + y + z)) (D.map (Value.int .u64))) := Ext.owns hx4 HO3.out
  have d0 := hx4.cell d0
  have d1 := hx4.cell d1
  have d2 := hx4.cell d2
  have d3 := hx4.cell d3
  have HX4 : Hid (Ext w2 w4) := HX3.out.trans hx4
  have hw34 := hx4.le
  clear hV1 hV2 hV3 hx4
  have HDa : Hid (WordsAt w4 gd 0 D) := owns_words HO4.out
  have v1 : IntKind.i64.wrap ((x : Int) + (y : Int)) = ((x + y : Nat) : Int) := by rw [show (x : Int) + y = ((x + y : Nat) : Int) by omega]; exact wrap_small (by omega)
  have t3 : ∀ W, (Instr.slice 27 (.slice (some ⟨gd, 0, none⟩) (x + y + (x + y + z)) (x + y + (x + y + z))) none (some (.int .i64 (x : Int))) none).run Try.prog W = .ok (.slice (some ⟨gd, 0, none⟩) x (x + y + (x + y + z))) W := fun W => slice_h gd 0 _ (x + y + (x + y + z)) x (by omega) (by omega) W
  have t4 : ∀ W, (Instr.slice 27 (.slice (some ⟨gd, 0, none⟩) (x + y + (x + y + z)) (x + y + (x + y + z))) (some (.int .i64 (x : Int))) (some (.int .i64 ((x + y : Nat) : Int))) none).run Try.prog W = .ok (.slice (some ⟨gd, x, none⟩) y (x + y + (x + y + z) - x)) W := fun W => by
    rw [slice_lh gd 0 _ (x + y + (x + y + z)) x (x + y) (by omega) (by omega), show x + y - x = y by omega, Nat.zero_add]
  have t5 : ∀ W, (Instr.slice 27 (.slice (some ⟨gd, 0, none⟩) (x + y + (x + y + z)) (x + y + (x + y + z))) none (some (.int .i64 ((x + y : Nat) : Int))) none).run Try.prog W = .ok (.slice (some ⟨gd, 0, none⟩) (x + y) (x + y + (x + y + z))) W := fun W => slice_h gd 0 _ _ (x + y) (by omega) (by omega) W
  have HB2 : Hid (1 ≤ x ∧ x ≤ 9 ∧ 1 ≤ y ∧ y ≤ 9 ∧ 1 ≤ z ∧ z ≤ 9) := hle
  have hxyb : x + y ≤ 18 ∧ 2 ≤ x + y ∧ z ≤ 9 := by omega
  generalize hxy : x + y = xy at *
  have HXY : Hid (x + y = xy) := hxy
  clear hxy hle
  have HXB : Hid _ := hxyb
  clear hxyb
  go_wp2_with fail
  go_region_held3 (fun w' => (w'.cell? ⟨gc, 0, none⟩ = some (.int .i64 kd) ∧ w'.cell? ⟨gc, 1, none⟩ = some (.int .i64 m) ∧ w'.cell? ⟨gc, 2, none⟩ = some (.int .i64 k) ∧ w'.cell? ⟨gc, 3, none⟩ = some (.int .i64 n)) ∧ Ext w4 w')
    ((refine and_cell4 d0 d1 d2 d3 ?_; (repeat (first | with_reducible exact Ext.refl _ | with_reducible assumption | with_reducible refine Ext.drew ?_ | with_reducible refine Ext.alloc ?_ _ | with_reducible (apply Ext.chain; assumption))); done))
    (first | (go_at_call 18; refine (HPr.out gd 0 _ gd x _ (D.take x) ((D.drop x).take y) _ ?a1 ?a2 ?a3 ?a4).mono ?_; (case a1 => (have := HXY.out; rw [List.length_take, HD.out.1]; omega)); (case a2 => (have := HXY.out; rw [List.length_take, List.length_drop, HD.out.1]; omega)); (case a3 => exact (HDa.out.take x).ext (Ext.drew (Ext.refl _))); (case a4 => exact (by have h := ((HDa.out.drop x).take y).ext (Ext.drew (Ext.refl w4)); rwa [Nat.zero_add] at h)); rintro e w5 ⟨gt, rfl, ho5, hx5⟩))
  rename_i hHeld
  clear hHeld
  have HT5 : Hid (WordsAt w5 gt 0 (mulN s (D.take x) ((D.drop x).take y) s.p)) := owns_words ho5
  have hx5' : Ext w4 w5 := (Ext.drew (Ext.refl w4)).trans hx5
  have HX5 : Hid (Ext w2 w5) := HX4.out.trans hx5'
  have HO5 : Hid (w5.ownsRow w2.heap.size 47 1 (.slice (some ⟨gd, 0, none⟩) (xy + (xy + z)) (xy + (xy + z))) (xy + (xy + z)) (D.map (Value.int .u64))) := Ext.owns hx5' HO4.out
  have HV5 : Hid (WordsAt w5 gv 0 V) := HV4.out.ext hx5'
  have hw45 := hx5'.le
  clear hx5 hx5' ho5 HO4 HV4 HDa d0 d1 d2 d3
  have hxy18 := HXB.out.1
  go_wp2_with (at_make; refine wpList_make_full _ rfl _ _ 27 rfl w5.heap.size 47 i0 (.int .u64 0) 1 Try.underlying27 hi hz0 hz1 _ _ _ _ xy rfl rfl (by omega) (by omega) (by rw [hz2]; omega) (by unfold maxLen; omega) (Nat.le_refl _) ?_)
  intro w6 ho6 hg6
  have hx6 : Ext w5 w6 := Ext.grown (Ext.refl w5) hg6 (by simp)
  have ho6' : w6.ownsRow w5.heap.size 47 1 (.slice (some ⟨w5.heap.size, 0, none⟩) xy xy) xy ((List.replicate xy (0 : Int)).map (Value.int .u64)) := by
    rw [List.map_replicate, ← toList_madeCells_one]; simpa [Value.cells] using ho6
  obtain ⟨gm, hgm⟩ : ∃ gm, w5.heap.size = gm := ⟨_, rfl⟩
  rw [hgm] at ho6' ⊢
  have HO6 : Hid (w6.ownsRow w2.heap.size 47 1 (.slice (some ⟨gd, 0, none⟩) (xy + (xy + z)) (xy + (xy + z))) (xy + (xy + z)) (D.map (Value.int .u64))) := Ext.owns hx6 HO5.out
  have HM6 : Hid (w6.ownsRow gm 47 1 (.slice (some ⟨gm, 0, none⟩) xy xy) xy ((List.replicate xy (0 : Int)).map (Value.int .u64))) := ho6'
  have HX6 : Hid (Ext w2 w6 ∧ Ext w5 w6) := ⟨HX5.out.trans hx6, hx6⟩
  have hgm6 : gm < w6.heap.size := World.block_lt_of_cell? w6 _ (owns_words ho6' 0 (by have := HXB.out; rw [List.length_replicate]; omega))
  clear ho6 ho6' hg6 hx6
  obtain ⟨cs, hcs⟩ : ∃ cs, cs = (D.take xy).map (Value.int .u64) := ⟨_, rfl⟩
  have hcsl : cs.length = xy := by rw [hcs, List.length_map, List.length_take, HD.out.1]; omega
  have HCs : Hid (cs = (D.take xy).map (Value.int .u64)) := hcs
  clear hcs
  go_wp2_with (refine wpList_copy_splice rfl _ _ 27 27 rfl 47 Try.underlying27 (by rw [hi]; simp [hz1]) _ _ xy xy xy (xy + (xy + z)) rfl rfl gm 0 ((List.replicate xy (0 : Int)).map (Value.int .u64)) 47 (owns_full HM6.out).1 cs (by rw [hcsl]; simp) ?s1 (by simp [hcsl]) ?s2 gm w5 (by rw [← hgm]; exact HX6.out.2) (Nat.le_refl _) ?_)
  case s1 =>
    intro _ j v h
    rw [HCs.out] at h
    have e := ((owns_words HO6.out).take xy).cells j v h
    rw [addr_add, Nat.zero_add] at e
    exact e
  case s2 => rw [HCs.out]; exact words_one _
  intro w7 HG7 hb7
  have hx7 : Ext w5 w7 := by rw [← hgm] at hb7; exact hb7
  have HM7 : Hid (w7.ownsRow gm 47 1 (.slice (some ⟨gm, 0, none⟩) xy xy) xy cs) := by
    have h := HG7.out
    rw [splice_all (by simp [hcsl])] at h
    exact owns_of h hcsl (Nat.le_refl _) (by unfold maxLen; omega)
  have HX7 : Hid (Ext w5 w7) := hx7
  have hw57 := hx7.le
  clear HG7 hb7 hx7 HM6 HO6 HX6
  have hgm7 : gm < w7.heap.size := (Array.getElem?_eq_some_iff.1 (owns_full HM7.out).1).1
  have hzl : (mulN s (D.take x) ((D.drop x).take y) s.p).length = z := HZl.out _ _
  have HT7 : Hid (WordsAt w7 gt 0 (mulN s (D.take x) ((D.drop x).take y) s.p)) := HT5.out.ext HX7.out
  have hz9 := HXB.out.2.2
  generalize hT : mulN s (D.take x) ((D.drop x).take y) s.p = T at hzl HT7
  have HTe : Hid (mulN s (D.take x) ((D.drop x).take y) s.p = T) := hT
  have HZT : Hid (T.length = z) := hzl
  clear hT hzl HT5
  go_wp2_with (at_builtin; refine wpList_append_own _ rfl _ _ 27 rfl gm 47 i0 _ 1 8 Try.underlying27 hi hz0 hz1 hz2 rfl (by decide) _ _ _ rfl HM7.out ⟨gt, 0, none⟩ z z (T.map (Value.int .u64)) rfl (by simp [HZT.out]) ?c1 ?c2 ?c3 ?c4 ?c5 ?_)
  case c1 => exact HT7.out.cells
  case c2 => exact words_one _
  case c3 => unfold maxLen; omega
  case c4 => omega
  case c5 => omega
  intro v8 w8 ho8 hg8 _
  have hx8 : Ext w5 w8 := Ext.grown HX7.out hg8 (fun k hk => by simp [Value.ownBlock] at hk; omega)
  obtain ⟨gs, cps, rfl, hgs, _, _⟩ : ∃ gs cps, v8 = .slice (some ⟨gs, 0, none⟩) (xy + z) cps ∧ gm ≤ gs ∧ xy + z ≤ cps ∧ cps ≤ maxLen := by
    rcases owns_form ho8 with ⟨_, h, _⟩ | h
    · have := HXB.out; omega
    · exact h
  have HS8 : Hid (WordsAt w8 gs 0 (wholeN s D)) := by
    refine owns_words (n := xy + z) (cap := cps) (base := gm) ?_
    have e : (wholeN s D).map (Value.int .u64) = cs ++ T.map (Value.int .u64) := by
      rw [HWh.out, HCs.out, HTe.out, List.map_append]
    rw [e]; exact ho8
  have HX8 : Hid (Ext w2 w8) := HX5.out.trans hx8
  have HO8 : Hid (w8.ownsRow w2.heap.size 47 1 (.slice (some ⟨gd, 0, none⟩) (xy + (xy + z)) (xy + (xy + z))) (xy + (xy + z)) (D.map (Value.int .u64))) := Ext.owns hx8 HO5.out
  have HV8 : Hid (WordsAt w8 gv 0 V) := HV5.out.ext hx8
  have hgd2 : w2.heap.size ≤ gd := by
    rcases owns_form HO8.out with ⟨h, _⟩ | ⟨g, cap, h, hb, _⟩
    · simp at h
    · simp at h; omega
  have hvd : gd ≠ gv := by omega
  have hsd : gd ≠ gs := by omega
  clear ho8 hg8 hx8 HM7 HX7 HT7 HTe HZT HCs hcsl hgm7 hgm6 HO5 HV5 HO3 HX4 HX5 hw34 hw45 hw57 hgm hgs hgv hgd3 t3 t4 t5 v1 HS HDr HFi HPr HZl HR HR2
  have hxy := HXY.out
  subst hxy
  have hle := HB2.out
  clear HXB HXY HB2 hz9 hxy18 HWh
  simp only [Int.natCast_add]
  go_wp2_with fail
  go_loopw [17, 18] (fun i _ wr => ∃ (j : Nat) (E : List Int), j ≤ x + y + z ∧ i = .int .i64 j ∧ (E.length = x + y + (x + y + z) ∧ inU64 E ∧ E.take (x + y) = D.take (x + y) ∧ ∀ i, i < j → E.getD (x + y + i) 0 = firstN s q D V i) ∧ wr.ownsRow w2.heap.size 47 1 (.slice (some ⟨gd, 0, none⟩) (x + y + (x + y + z)) (x + y + (x + y + z))) (x + y + (x + y + z)) (E.map (Value.int .u64)) ∧ Ext w2 wr ∧ WordsAt wr gv 0 V ∧ WordsAt wr gs 0 (wholeN s D)) (fun i _ _ => x + y + z - (intOf i).toNat)
  case atStart => exact ⟨0, D, Nat.zero_le _, rfl, ⟨HD.out.1, HD.out.2, rfl, fun i hi => absurd hi (Nat.not_lt_zero _)⟩, HO8.out, HX8.out, HV8.out, HS8.out⟩
  case round =>
    obtain ⟨j, E, hj, rfl, hE, ho, hx, hv, hsw⟩ := hrel
    have HE : Hid (E.length = x + y + (x + y + z) ∧ inU64 E ∧ E.take (x + y) = D.take (x + y) ∧ ∀ i, i < j → E.getD (x + y + i) 0 = firstN s q D V i) := hE
    have HO : Hid (wr.ownsRow w2.heap.size 47 1 (.slice (some ⟨gd, 0, none⟩) (x + y + (x + y + z)) (x + y + (x + y + z))) (x + y + (x + y + z)) (E.map (Value.int .u64))) := ho
    have HX : Hid (Ext w2 wr) := hx
    have HVr : Hid (WordsAt wr gv 0 V) := hv
    have HSr : Hid (WordsAt wr gs 0 (wholeN s D)) := hsw
    have d0 := hx.cell HC2.out.1
    clear hE ho hx hv hsw
    by_cases hlt : j < x + y + z
    · have hk0 : (0 : Int) ≤ (j : Int) := by omega
      have hk1 : (j : Int) < (x + y + z : Nat) := by omega
      have e0 := HVr.out j (by rw [HV.out.1]; exact hlt)
      have e1 := HSr.out j (by rw [HWl.out D HD.out.1]; exact hlt)
      rw [Nat.zero_add] at e0 e1
      have f5 : wr.frozen? ⟨gd, x + y + j, none⟩ = false := HO.out.frozenAt (x + y + j)
      have c5 : wr.cell? ⟨gd, x + y + j, none⟩ = some (.int .u64 (E.getD (x + y + j) 0)) := by
        have := owns_words HO.out (x + y + j) (by rw [HE.out.1]; omega)
        simpa using this
      have HFr : Hid _ := first_range s q D HV.out.2 (show j < V.length by rw [HV.out.1]; exact hlt)
      have HNj : Hid _ := HNx.out D E V j HE.out.1 hlt HE.out.2.2.1 HE.out.2.2.2
      have HFe : Hid (firstN s q D V j = if q = 1 then minusN s.bt ((wholeN s D).getD j 0) (V.getD j 0) else V.getD j 0) := rfl
      have HFin : Hid (∀ W, Ext wr W → ∀ v, v = firstN s q D V j → ∃ E', (E'.length = x + y + (x + y + z) ∧ inU64 E' ∧ E'.take (x + y) = D.take (x + y) ∧ ∀ i, i < j + 1 → E'.getD (x + y + i) 0 = firstN s q D V i) ∧ (W.setCell ⟨gd, x + y + j, none⟩ (.int .u64 v)).ownsRow w2.heap.size 47 1 (.slice (some ⟨gd, 0, none⟩) (x + y + (x + y + z)) (x + y + (x + y + z))) (x + y + (x + y + z)) (E'.map (Value.int .u64)) ∧ Ext w2 (W.setCell ⟨gd, x + y + j, none⟩ (.int .u64 v)) ∧ WordsAt (W.setCell ⟨gd, x + y + j, none⟩ (.int .u64 v)) gv 0 V ∧ WordsAt (W.setCell ⟨gd, x + y + j, none⟩ (.int .u64 v)) gs 0 (wholeN s D)) := fun W hW v hv =>
        ⟨E.set (x + y + j) v, ⟨(HNj.out v hv).1, inU64_set HE.out.2.1 (by rw [hv]; exact HFr.out.1) (by rw [hv]; exact HFr.out.2), (HNj.out v hv).2⟩, by rw [List.map_set]; exact ((Ext.owns hW HO.out).stored (x + y + j) _).1, Ext.setCell (HX.out.trans hW) hgd2 _, (HVr.out.ext hW).set_far _ hvd, (HSr.out.ext hW).set_far _ hsd⟩
      generalize V.getD j 0 = u0 at *
      generalize (wholeN s D).getD j 0 = u1 at *
      clear HNj HFr HO HX HVr HSr HE
      rcases (show q = 0 ∨ q = 1 by omega) with rfl | rfl
      · have HG : Hid _ := HFin.out wr (Ext.refl _) u0 (by rw [HFe.out]; simp)
        clear HFin HFe
        go_wp2_with fail
        refine (HPk.out _).mono ?_
        rintro e w9 ⟨rfl, rfl⟩
        go_wp2_with fail
        refine (HPk.out _).mono ?_
        rintro e w9 ⟨rfl, rfl⟩
        go_wp2
        go_roundw
        case rel => exact HG.out.elim fun E' h => ⟨j + 1, E', by omega, by go_num, h.1, h.2.1, h.2.2.1, h.2.2.2.1, h.2.2.2.2⟩
        case measure => simp [intOf]; omega
      · rcases HKd.out with ⟨hbt, hkd⟩ | ⟨hbt, hkd⟩
        · have HG : Hid (∀ nq, _) := fun nq => HFin.out (wr.drewN nq) (Ext.drewN (Ext.refl _) nq) (bits .xor .u64 u1 u0) (by rw [HFe.out, hbt]; rfl)
          rw [hkd] at d0
          clear HFin HFe hbt hkd
          go_wp2_with fail
          refine (HPk.out _).mono ?_
          rintro e w9 ⟨rfl, rfl⟩
          go_wp2
          go_quiet (fail)
          go_wp2
          go_roundw
          case rel => exact (HG.out _).elim fun E' h => ⟨j + 1, E', by omega, by go_num, h.1, h.2.1, h.2.2.1, h.2.2.2.1, h.2.2.2.2⟩
          case measure => simp [intOf]; omega
        · have HG : Hid (∀ nq, _) := fun nq => HFin.out (wr.drewN nq) (Ext.drewN (Ext.refl _) nq) (IntKind.u64.wrap (u1 - u0)) (by rw [HFe.out, hbt]; rfl)
          clear HFin HFe hbt
          go_wp2_with fail
          refine (HPk.out _).mono ?_
          rintro e w9 ⟨rfl, rfl⟩
          go_wp2_with fail
          refine (HPk.out _).mono ?_
          rintro e w9 ⟨rfl, rfl⟩
          go_wp2
          go_quiet (fail)
          go_wp2
          go_roundw
          case rel => exact (HG.out _).elim fun E' h => ⟨j + 1, E', by omega, by go_num, h.1, h.2.1, h.2.2.1, h.2.2.2.1, h.2.2.2.2⟩
          case measure => simp [intOf]; omega
    · obtain rfl : j = x + y + z := by omega
      have HEe : Hid _ := HEnd.out D E V HD.out.1 HE.out.1 HV.out.1 HV.out.2 HE.out.2.2.1 HE.out.2.2.2
      have HEu : Hid (E.length = x + y + (x + y + z) ∧ inU64 E ∧ WordsAt wr gd 0 E) := ⟨HE.out.1, HE.out.2.1, owns_words HO.out⟩
      have d1 := HX.out.cell HC2.out.2.1
      have d2 := HX.out.cell HC2.out.2.2.1
      have d3 := HX.out.cell HC2.out.2.2.2
      clear HE HO HSr HC2
      go_wp2_with fail
      refine (HB.out gd E _ HEu.out.1 HEu.out.2.1 HEu.out.2.2).mono ?_
      rintro e w10 ⟨g0, c0, g1, c1, rfl, hp0, hp1, hx10⟩
      have HVw : Hid (WordsAt w10 gv 0 V ∧ V.length = x + y + z) := ⟨HVr.out.ext hx10, HV.out.1⟩
      have HP : Hid (WordsAt w10 g0 0 (part0 s E) ∧ WordsAt w10 g1 0 (part1 s E)) := ⟨hp0, hp1⟩
      have HX10 : Hid (Ext w w10) := HX2.out.trans (HX.out.trans hx10)
      have hsz : x + y + z ≤ 1000 := by omega
      clear hp0 hp1 hx10 HVr HV HX HX2 HX1 HD HEu HB HEnd HNx HWl d0 d1 d2 d3
      rcases (show q = 0 ∨ q = 1 by omega) with rfl | rfl
      · go_wp2_with fail
        refine (HPk.out _).mono ?_
        rintro e w11 ⟨rfl, rfl⟩
        go_wp2_with fail
        refine (sameWords_c g0 0 c0 gv 0 (x + y + z) (x + y + z) V HVw.out.2 hsz w10 ?h1 HVw.out.1).mono ?_
        case h1 =>
          have h := HP.out.1
          rwa [HEe.out.1 trivial] at h
        rintro e w12 ⟨rfl, hx12⟩
        go_wp2
        go_ret
        exact ⟨rfl, HX10.out.trans hx12⟩
      · go_wp2_with fail
        refine (HPk.out _).mono ?_
        rintro e w11 ⟨rfl, rfl⟩
        go_wp2_with fail
        refine (sameWords_c g1 0 c1 gv 0 (x + y + z) (x + y + z) V HVw.out.2 hsz w10 ?h1 HVw.out.1).mono ?_
        case h1 =>
          have h := HP.out.2
          rwa [HEe.out.2 trivial] at h
        rintro e w12 ⟨rfl, hx12⟩
        go_wp2
        go_ret
        exact ⟨rfl, HX10.out.trans hx12⟩
end
end Go.Proofs.Ytmnjhhachdlmkaa
