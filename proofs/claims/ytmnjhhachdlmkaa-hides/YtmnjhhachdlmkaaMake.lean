import Derived.Test.YtmnjhhachdlmkaaMk
namespace Go.Proofs.Ytmnjhhachdlmkaa
open Go.RowKit

theorem restS_c (s : Sh) (b off cap b2 off2 cap2 n : Nat) (zs ys : List Int) (hn : zs.length = n) (hn2 : ys.length = n) (hsm : n ≤ 1000) (w : World) (hz : WordsAt w b off zs) (hy : WordsAt w b2 off2 ys) :
    Calls Try.prog 59 #[s.num, .slice (some ⟨b, off, none⟩) n cap, .slice (some ⟨b2, off2, none⟩) n cap2] w fun e w' =>
      ∃ v, e = .returned v ∧ w'.ownsRow w.heap.size 47 1 v n ((List.zipWith (minusN s.bt) zs ys).map (Value.int .u64)) ∧ Ext w w' := by
  match s with
  | ⟨false, p, m, k, n'⟩ => exact restW_c b off cap b2 off2 cap2 n zs ys hn hn2 hsm w hz hy
  | ⟨true, p, m, k, n'⟩ => exact restB_c b off cap b2 off2 cap2 n zs ys hn hn2 hsm w hz hy

/-- a, b and c of a triple, out of its draws. -/
def wholeN (s : Sh) (D : List Int) : List Int := D.take (s.x + s.y) ++ mulN s (D.take s.x) ((D.drop s.x).take s.y) s.p
/-- What the parties get. -/
def part0 (s : Sh) (D : List Int) : List Int := D.drop (s.x + s.y)
def part1 (s : Sh) (D : List Int) : List Int := List.zipWith (minusN s.bt) (wholeN s D) (part0 s D)

theorem mat_len (bt : Bool) (zs ys : List Int) (k n r : Nat) : (matN bt zs ys k n r).length = r * n := by
  induction r with
  | zero => simp [matN]
  | succ r ih => rw [matN_succ, List.length_append, ih, Nat.add_mul]; simp [rowN]
theorem mul_len (s : Sh) (A B : List Int) (i : Nat) : (mulN s A B i).length = i * (s.m * s.n) := by
  induction i with
  | zero => simp [mulN]
  | succ i ih => rw [mulN_succ, List.length_append, ih, mat_len, Nat.add_mul]; simp
theorem whole_len (s : Sh) (D : List Int) (h : D.length = s.x + s.y + (s.x + s.y + s.z)) : (wholeN s D).length = s.x + s.y + s.z := by
  simp only [wholeN, List.length_append, List.length_take, mul_len, ← Nat.mul_assoc]
  show min (s.x + s.y) D.length + s.z = _
  omega

theorem WordsAt.take {w : World} {b off : Nat} {D : List Int} (h : WordsAt w b off D) (k : Nat) : WordsAt w b off (D.take k) := by
  intro i hi
  simp only [List.length_take] at hi
  rw [h i (by omega)]
  simp [List.getD_eq_getElem?_getD, show i < k by omega]
theorem WordsAt.drop {w : World} {b off : Nat} {D : List Int} (h : WordsAt w b off D) (k : Nat) : WordsAt w b (off + k) (D.drop k) := by
  intro i hi
  simp only [List.length_drop] at hi
  rw [Nat.add_assoc, h (k + i) (by omega)]
  simp [List.getD_eq_getElem?_getD, List.getElem?_drop]
theorem owns_words {w : World} {base g cap n : Nat} {zs : List Int} (h : w.ownsRow base 47 1 (.slice (some ⟨g, 0, none⟩) n cap) n (zs.map (Value.int .u64))) : WordsAt w g 0 zs := by
  intro i hi
  have hl := h.1
  simp only [List.length_map, Nat.mul_one] at hl
  rw [Nat.zero_add, h.cellAt i (by omega), List.getElem?_map, List.getElem?_eq_getElem hi]
  simp [List.getD_eq_getElem?_getD, List.getElem?_eq_getElem hi]

theorem Ext.frozen {a b : World} (h : Ext a b) {p : Addr} (hp : p.block < a.heap.size) : b.frozen? p = a.frozen? p := World.frozen?_of_block (w := a) (Below.block h p.block hp)
theorem four_set {w : World} {g : Nat} {a0 a1 a2 a3 b0 b1 b2 b3 : Value} (h : w.cell? ⟨g, 0, none⟩ = some a0 ∧ w.cell? ⟨g, 1, none⟩ = some a1 ∧ w.cell? ⟨g, 2, none⟩ = some a2 ∧ w.cell? ⟨g, 3, none⟩ = some a3) :
    ((((w.setCell ⟨g, 0, none⟩ b0).setCell ⟨g, 1, none⟩ b1).setCell ⟨g, 2, none⟩ b2).setCell ⟨g, 3, none⟩ b3).cell? ⟨g, 0, none⟩ = some b0 ∧
    ((((w.setCell ⟨g, 0, none⟩ b0).setCell ⟨g, 1, none⟩ b1).setCell ⟨g, 2, none⟩ b2).setCell ⟨g, 3, none⟩ b3).cell? ⟨g, 1, none⟩ = some b1 ∧
    ((((w.setCell ⟨g, 0, none⟩ b0).setCell ⟨g, 1, none⟩ b1).setCell ⟨g, 2, none⟩ b2).setCell ⟨g, 3, none⟩ b3).cell? ⟨g, 2, none⟩ = some b2 ∧
    ((((w.setCell ⟨g, 0, none⟩ b0).setCell ⟨g, 1, none⟩ b1).setCell ⟨g, 2, none⟩ b2).setCell ⟨g, 3, none⟩ b3).cell? ⟨g, 3, none⟩ = some b3 := by
  obtain ⟨h0, h1, h2, h3⟩ := h
  refine ⟨?_, ?_, ?_, ?_⟩ <;> simp [go_sem, h0, h1, h2, h3]
theorem two_cells {w w' : World} {a b : Value} {t : TypeId} (h : Ext (w.alloc (.cells #[a, b] t)) w') : w'.cell? ⟨w.heap.size, 0, none⟩ = some a ∧ w'.cell? ⟨w.heap.size, 1, none⟩ = some b := by
  have hb : (w.alloc (.cells #[a, b] t)).heap[w.heap.size]? = some (.cells #[a, b] t (0, 0)) := heap_alloc_new w _
  refine ⟨h.cell ?_, h.cell ?_⟩
  · rw [cell_of_row _ _ 0 _ _ _ hb]; rfl
  · rw [cell_of_row _ _ 1 _ _ _ hb]; rfl
theorem infoShape : (Try.prog.info? 122).map (·.size) = some 4 := by kernel_rfl
/-- .. and none of it is frozen. -/
theorem fresh_at {w w' : World} {v0 v1 v2 v3 : Value} {t : TypeId} (h : Ext (w.alloc (.cells #[v0, v1, v2, v3] t)) w') (g : Nat) (hg : w.heap.size = g) :
    (w'.cell? ⟨g, 0, none⟩ = some v0 ∧ w'.cell? ⟨g, 1, none⟩ = some v1 ∧ w'.cell? ⟨g, 2, none⟩ = some v2 ∧ w'.cell? ⟨g, 3, none⟩ = some v3) ∧ w'.frozen? ⟨g, 0, none⟩ = false ∧ w'.frozen? ⟨g, 1, none⟩ = false ∧ w'.frozen? ⟨g, 2, none⟩ = false ∧ w'.frozen? ⟨g, 3, none⟩ = false := by
  subst hg
  have hb : (w.alloc (.cells #[v0, v1, v2, v3] t)).heap[w.heap.size]? = some (.cells #[v0, v1, v2, v3] t (0, 0)) := heap_alloc_new w _
  have key : ∀ i, w'.frozen? ⟨w.heap.size, i, none⟩ = false := fun i => by
    rw [h.frozen (by simp)]
    unfold World.frozen?
    rw [hb]
    simp
  exact ⟨four_at h, key 0, key 1, key 2, key 3⟩

/-- AT A STEP OF A REGION THAT DRAWS: a struct is stored into a block of its own. -/
theorem step_store_row {P : Program} {ops : Array Oper} {o : Oper} {a : Act} {w : World} {K : Act → World → Prop} {Q : Exit → Act → World → Prop} {E : Prop} (B : World) (hgd : o.guard = none) (ty : TypeId) (x y : Operand) (ho : o.op = .store ty x y)
    (g : Nat) (cells : Array Value) (hx : a.eval x = .pointer (some ⟨g, 0, none⟩)) (hy : a.eval y = .agg cells) (hi : (P.info? ty).map (·.size) = some cells.size) (h1 : cells.all (·.oneCell') = true)
    (t : TypeId) (old : Array Value) (hg : w.heap[g]? = some (.cells old t (0, 0))) (hold : old.size = cells.size) (hB : Ext B w) (hgB : B.heap.size ≤ g)
    (h : ∀ w3, w3.heap[g]? = some (.cells cells t (0, 0)) → Ext B w3 → K (a.put o.dst undef) w3) :
    if Region.wanted o (yielded ops a.tmps) = true then Oper.wp P o a w K Q else E := by
  have hw : Region.wanted o (yielded ops a.tmps) = true := by simp [Region.wanted, hgd]
  rw [if_pos hw]
  refine wp_store_row ty x y ho g cells hx hy t old hg hi hold h1 (h _ (setRow_heap _ _ _ _ _ _ hg) ?_)
  exact ⟨by rw [setRow_os]; exact Below.os hB, by rw [setRow_tape]; exact Below.tape hB, by rw [setRow_output]; exact Below.output hB, by rw [setRow_size]; exact hB.le, fun k hk => by rw [setRow_other _ _ _ _ (by omega)]; exact Below.block hB k hk⟩

set_option maxRecDepth 100000 in
set_option maxHeartbeats 1600000 in
/-- Make: a triple's shares out of its draws. -/
theorem make_c {kd m k n : Nat} {s : Sh} (hc : ofCls kd m k n s) (hs : s.ok) (b off len cap : Nat) (D : List Int) (hl : D.length = len) (hlen : len = s.x + s.y + (s.x + s.y + s.z)) (hcap : len ≤ cap) (w : World) (hz : WordsAt w b off D) :
    Calls Try.prog 48 #[clsV kd m k n, .slice (some ⟨b, off, none⟩) len cap] w fun e w' =>
      ∃ g0 c0 g1 c1, e = .returned (.agg #[.slice (some ⟨g0, 0, none⟩) (s.x + s.y + s.z) c0, .slice (some ⟨g1, 0, none⟩) (s.x + s.y + s.z) c1]) ∧
        w'.ownsRow w.heap.size 47 1 (.slice (some ⟨g0, 0, none⟩) (s.x + s.y + s.z) c0) (s.x + s.y + s.z) ((part0 s D).map (Value.int .u64)) ∧
        w'.ownsRow w.heap.size 47 1 (.slice (some ⟨g1, 0, none⟩) (s.x + s.y + s.z) c1) (s.x + s.y + s.z) ((part1 s D).map (Value.int .u64)) ∧ Ext w w' := by
  have hle := Sh.le hs
  have HS : Hid _ := shapeS_c hc
  have HA : Hid _ := arithS_c hc
  have HL : Hid _ := lengthsS_c hs
  have HM : Hid _ := @multiply_c s hs
  have HR : Hid _ := restS_c s
  have HW : Hid (wholeN s D = D.take (s.x + s.y) ++ mulN s (D.take s.x) ((D.drop s.x).take s.y) s.p) := rfl
  have HP0 : Hid (part0 s D = D.drop (s.x + s.y)) := rfl
  have HP1 : Hid (part1 s D = List.zipWith (minusN s.bt) (wholeN s D) (part0 s D)) := rfl
  have HWL : Hid ((wholeN s D).length = s.x + s.y + s.z) := whole_len s D (hl.trans hlen)
  have HZ : Hid (WordsAt w b off D) := hz
  have HD : Hid (D.length = len) := hl
  have HX : Hid (s.p * (s.m * s.k) = s.x ∧ s.p * (s.k * s.n) = s.y ∧ s.p * (s.m * s.n) = s.z) := ⟨(Nat.mul_assoc _ _ _).symm, (Nat.mul_assoc _ _ _).symm, (Nat.mul_assoc _ _ _).symm⟩
  clear hl hz hs hc
  subst hlen
  generalize s.num = nm at *
  unfold Sh.val at *
  generalize s.x = x at *
  generalize s.y = y at *
  generalize s.z = z at *
  unfold clsV
  go_enter Try.func48, Try.ntmps48
  go_wp2_with fail
  have hf := four_at ((Ext.refl (w.alloc (.cells #[.int .i64 kd, .int .i64 m, .int .i64 k, .int .i64 n] 23))).alloc (.cells #[.slice none 0 0, .slice none 0 0] 116))
  have HXW : Hid (Ext w ((w.alloc (.cells #[.int .i64 kd, .int .i64 m, .int .i64 k, .int .i64 n] 23)).alloc (.cells #[.slice none 0 0, .slice none 0 0] 116))) := ((Ext.refl w).alloc _).alloc _
  have HRS : Hid (((w.alloc (.cells #[.int .i64 kd, .int .i64 m, .int .i64 k, .int .i64 n] 23)).alloc (.cells #[.slice none 0 0, .slice none 0 0] 116)).heap[w.heap.size + 1]? = some (.cells #[.slice none 0 0, .slice none 0 0] 116 (0, 0))) := at_new (by simp)
  generalize World.alloc (World.alloc w _) _ = W at hf HXW HRS ⊢
  obtain ⟨c0, c1, c2, c3⟩ := hf
  rename_i Q' K hK
  suffices KEY : ∀ (gs : Nat) (V : World), (V.cell? ⟨gs, 0, none⟩ = some (.int .i64 s.p) ∧ V.cell? ⟨gs, 1, none⟩ = some (.int .i64 s.m) ∧ V.cell? ⟨gs, 2, none⟩ = some (.int .i64 s.k) ∧ V.cell? ⟨gs, 3, none⟩ = some (.int .i64 s.n)) → Ext W V →
      Exit.then K Q' Exit.normal { tmps := #[.agg #[.int .i64 kd, .int .i64 m, .int .i64 k, .int .i64 n], .slice (some ⟨b, off, none⟩) (x + y + (x + y + z)) cap, .pointer (some ⟨w.heap.size, 0, none⟩), undef, .pointer (some ⟨w.heap.size + 1, 0, none⟩), .pointer (some ⟨gs, 0, none⟩), nm, undef, undef, undef, undef, undef, .agg #[.int .i64 kd, .int .i64 m, .int .i64 k, .int .i64 n], .agg #[.int .i64 s.p, .int .i64 s.m, .int .i64 s.k, .int .i64 s.n], .agg #[.int .i64 kd, .int .i64 m, .int .i64 k, .int .i64 n], nm, undef, undef, undef, undef, undef, undef, undef, undef, undef, undef, undef, undef, undef, undef, undef, undef, undef, undef, undef, undef, undef, undef, undef, undef, undef, undef, undef, undef, undef, undef, undef, undef, undef, undef, undef, undef, undef], defers := [] } V by
    go_region_held3 (fun w' => (w'.cell? ⟨w.heap.size, 0, none⟩ = some (.int .i64 kd) ∧ w'.cell? ⟨w.heap.size, 1, none⟩ = some (.int .i64 m) ∧ w'.cell? ⟨w.heap.size, 2, none⟩ = some (.int .i64 k) ∧ w'.cell? ⟨w.heap.size, 3, none⟩ = some (.int .i64 n)) ∧ Ext W w')
      (first
        | (refine and_cell4 c0 c1 c2 c3 ?_; (repeat (first | with_reducible exact Ext.refl _ | with_reducible assumption | with_reducible refine Ext.drew ?_ | with_reducible refine Ext.alloc ?_ _ | with_reducible (apply Ext.chain; assumption))); done)
        | (refine and_cell4 c0 c1 c2 c3 ?_; (repeat (first | with_reducible exact Ext.refl _ | with_reducible assumption | with_reducible refine Ext.drew ?_ | with_reducible refine Ext.alloc ?_ _ | with_reducible (apply Ext.chain; assumption) | (refine Ext.setCell ?_ ?sc _; case sc => (first | exact Nat.le_refl _ | exact l1 | exact Nat.le_trans l1 l2)))); done))
      (first
        | (go_at_call 52; refine (HS.out _).mono ?_; rintro e w1 ⟨rfl, hx1⟩; have l1 := Ext.le hx1)
        | (go_at_call 55; refine (HA.out _).mono ?_; rintro e w2 ⟨rfl, hx2⟩; have l2 := Ext.le hx2; try (first | (have q := fresh_at (t := 122) hx2 w1.heap.size rfl; obtain ⟨⟨q0, q1, q2, q3⟩, q4, q5, q6, q7⟩ := q) | (have q := fresh_at (t := 122) (Ext.trans (Ext.drew (Ext.refl _)) (Ext.trans hx1 hx2)) W.heap.size rfl; obtain ⟨⟨q0, q1, q2, q3⟩, q4, q5, q6, q7⟩ := q))))
    all_goals (rename_i hh; refine KEY _ _ ?_ hh.2)
    · obtain ⟨a0, a1, a2, a3⟩ := four_at (Ext.refl (w2.alloc (.cells #[.int .i64 s.p, .int .i64 s.m, .int .i64 s.k, .int .i64 s.n] 122)))
      exact ⟨a0, a1, a2, a3⟩
    · exact four_set ⟨q0, q1, q2, q3⟩
    · exact four_set ⟨q0, q1, q2, q3⟩
  clear c0 c1 c2 c3
  rintro gs V ⟨s0, s1, s2, s3⟩ hxV
  have HXV : Hid (Ext w V) := HXW.out.trans hxV
  have HRV : Hid (V.heap[w.heap.size + 1]? = some (.cells #[.slice none 0 0, .slice none 0 0] 116 (0, 0))) := hxV.block HRS.out
  clear HXW HRS hxV
  go_wp2_with fail
  refine (HL.out _).mono ?_; rintro e w1 ⟨rfl, hx1⟩
  have s0 := hx1.cell s0
  have s1 := hx1.cell s1
  have s2 := hx1.cell s2
  have s3 := hx1.cell s3
  have v1 : IntKind.i64.wrap ((x : Int) + (y : Int)) = ((x + y : Nat) : Int) := by rw [show (x : Int) + y = ((x + y : Nat) : Int) by omega]; exact wrap_small (by omega)
  have t1 : ∀ W, (Instr.slice 27 (.slice (some ⟨b, off, none⟩) (x + y + (x + y + z)) cap) (some (.int .i64 ((x + y : Nat) : Int))) none none).run Try.prog W = .ok (.slice (some ⟨b, off + (x + y), none⟩) (x + y + z) (cap - (x + y))) W := fun W => by
    rw [slice_l b off _ cap (x + y) (by omega) hcap, show x + y + (x + y + z) - (x + y) = x + y + z by omega]
  have t2 : ∀ W, (Instr.slice 27 (.slice (some ⟨b, off, none⟩) (x + y + (x + y + z)) cap) none (some (.int .i64 ((x + y : Nat) : Int))) none).run Try.prog W = .ok (.slice (some ⟨b, off, none⟩) (x + y) cap) W := fun W => slice_h b off _ cap (x + y) (by omega) (by omega) W
  have t3 : ∀ W, (Instr.slice 27 (.slice (some ⟨b, off, none⟩) (x + y + (x + y + z)) cap) none (some (.int .i64 (x : Int))) none).run Try.prog W = .ok (.slice (some ⟨b, off, none⟩) x cap) W := fun W => slice_h b off _ cap x (by omega) (by omega) W
  have t4 : ∀ W, (Instr.slice 27 (.slice (some ⟨b, off, none⟩) (x + y + (x + y + z)) cap) (some (.int .i64 (x : Int))) (some (.int .i64 ((x + y : Nat) : Int))) none).run Try.prog W = .ok (.slice (some ⟨b, off + x, none⟩) y (cap - x)) W := fun W => by
    rw [slice_lh b off _ cap x (x + y) (by omega) (by omega), show x + y - x = y by omega]
  have HB1 : Hid (x + y ≤ cap ∧ x + y + (x + y + z) ≤ cap) := ⟨by omega, hcap⟩
  generalize hxy : x + y = xy at *
  have HXY : Hid (x + y = xy) := hxy
  clear hxy
  generalize hxz : xy + z = xyz at *
  have HXZ : Hid (xy + z = xyz) := hxz
  clear hxz hcap
  go_wp2_with fail
  refine (cloneW_c b (off + xy) xyz (cap - xy) (part0 s D) ?p1 ?p2 ?p3 w1 ?p4).mono ?_
  case p1 => rw [HP0.out, List.length_drop, HD.out]; omega
  case p2 => have := HXZ.out; omega
  case p3 => have := HXZ.out; have := HXY.out; omega
  case p4 => rw [HP0.out]; exact (HZ.out.drop xy).ext (HXV.out.trans hx1)
  rintro e w2 ⟨v0, rfl, ho0, hx2⟩
  obtain ⟨g0, cp0, rfl, hg0, hg0'⟩ := ho0.form (by have := HXZ.out; omega)
  have s0 := hx2.cell s0
  have s1 := hx2.cell s1
  have s2 := hx2.cell s2
  have s3 := hx2.cell s3
  have HO0 : Hid _ := ho0
  clear ho0
  have HZ2 : Hid (WordsAt w2 b off D) := HZ.out.ext (HXV.out.trans (hx1.trans hx2))
  have HM2 : Hid (∀ w3, Ext w2 w3 → Calls Try.prog 58 #[nm, .agg #[.int .i64 s.p, .int .i64 s.m, .int .i64 s.k, .int .i64 s.n], .slice (some ⟨b, off, none⟩) x cap, .slice (some ⟨b, off + x, none⟩) y (cap - x)] w3 fun e w' =>
      ∃ g1 cp1, e = .returned (.slice (some ⟨g1, 0, none⟩) z cp1) ∧ w'.ownsRow w3.heap.size 47 1 (.slice (some ⟨g1, 0, none⟩) z cp1) z ((mulN s (D.take x) ((D.drop x).take y) s.p).map (Value.int .u64)) ∧ Ext w3 w') := fun w3 h3 => by
    have hb := HB1.out
    have hxy := HXY.out
    have hxz := HXZ.out
    have hd := HD.out
    refine (HM.out b off cap b (off + x) (cap - x) x y (D.take x) ((D.drop x).take y) HX.out.1.symm HX.out.2.1.symm (by rw [List.length_take]; omega) (by rw [List.length_take, List.length_drop]; omega) (by omega) (by omega) w3 ((HZ2.out.take x).ext h3) (((HZ2.out.drop x).take y).ext h3)).mono ?_
    rintro e w4 ⟨v, rfl, ho1, hx3⟩
    rw [HX.out.2.2] at ho1
    obtain ⟨g1, cp1, rfl, _, _⟩ := ho1.form (by omega)
    exact ⟨g1, cp1, rfl, ho1, hx3⟩
  have HC2 : Hid (∀ (g g1 cp1 : Nat) (w5 : World), WordsAt w5 g1 0 (mulN s (D.take x) ((D.drop x).take y) s.p) → Ext w2 w5 → w5.cell? ⟨g, 0, none⟩ = some (.slice (some ⟨b, off, none⟩) xy cap) ∧ w5.cell? ⟨g, 1, none⟩ = some (.slice (some ⟨g1, 0, none⟩) z cp1) →
      Calls Try.prog 57 #[.slice (some ⟨g, 0, none⟩) 2 2] w5 fun e w' => ∃ g2 cp2, e = .returned (.slice (some ⟨g2, 0, none⟩) xyz cp2) ∧ WordsAt w' g2 0 (wholeN s D) ∧ Ext w5 w') := fun g g1 cp1 w5 hw1 h5 hcc => by
    have hb := HB1.out
    have hxy := HXY.out
    have hxz := HXZ.out
    have hd := HD.out
    have hlm : (mulN s (D.take x) ((D.drop x).take y) s.p).length = z := by rw [mul_len]; exact HX.out.2.2
    refine (concatW_c g 2 [⟨b, off, xy, cap, D.take xy⟩, ⟨g1, 0, z, cp1, mulN s (D.take x) ((D.drop x).take y) s.p⟩] w5 rfl (by decide) (by decide) ?r1 ?r2).mono ?_
    case r1 =>
      intro r hr
      simp only [List.mem_cons, List.not_mem_nil, or_false] at hr
      rcases hr with rfl | rfl
      · exact ⟨(HZ2.out.take xy).ext h5, by show 1 ≤ xy; omega, by show xy ≤ 30; omega, by show (D.take xy).length = xy; rw [List.length_take]; omega⟩
      · exact ⟨hw1, by show 1 ≤ z; omega, by show z ≤ 30; omega, hlm⟩
    case r2 =>
      intro i hi
      match i, hi with
      | 0, _ => exact hcc.1
      | 1, _ => exact hcc.2
    rintro e w6 ⟨v, rfl, ho, hx⟩
    have e1 : sumU [⟨b, off, xy, cap, D.take xy⟩, ⟨g1, 0, z, cp1, mulN s (D.take x) ((D.drop x).take y) s.p⟩] = xyz := by simp [sumU]; exact hxz
    have e2 : flatU [⟨b, off, xy, cap, D.take xy⟩, ⟨g1, 0, z, cp1, mulN s (D.take x) ((D.drop x).take y) s.p⟩] = (wholeN s D).map (Value.int .u64) := by rw [HW.out]; simp [flatU]
    rw [e1, e2] at ho
    obtain ⟨g2, cp2, rfl, _, _⟩ := ho.form (by omega)
    exact ⟨g2, cp2, rfl, owns_words ho, hx⟩
  clear HZ
  go_wp2_with fail
  go_region_held3 (fun w' => (w'.cell? ⟨gs, 0, none⟩ = some (.int .i64 s.p) ∧ w'.cell? ⟨gs, 1, none⟩ = some (.int .i64 s.m) ∧ w'.cell? ⟨gs, 2, none⟩ = some (.int .i64 s.k) ∧ w'.cell? ⟨gs, 3, none⟩ = some (.int .i64 s.n)) ∧ Ext w2 w')
    ((refine and_cell4 s0 s1 s2 s3 ?_; (repeat (first | with_reducible exact Ext.refl _ | with_reducible assumption | with_reducible refine Ext.drew ?_ | with_reducible refine Ext.alloc ?_ _ | with_reducible (apply Ext.chain; assumption))); done))
    (first
      | (go_at_call 58; refine (HM2.out _ (Ext.drew (Ext.refl _))).mono ?_; rintro e w3 ⟨g1, cp1, rfl, ho1, hx3⟩)
      | (go_at_call 57; refine (HC2.out _ g1 cp1 _ ((owns_words ho1).ext (Ext.alloc (Ext.refl _) _)) (Ext.alloc (Ext.chain hx3 (Ext.drew (Ext.refl _))) _) (two_cells (Ext.refl _))).mono ?_; rintro e w4 ⟨g2, cp2, rfl, hw2, hx4⟩))
  rename_i hh
  have hx24 : Ext w2 w4 := hh.2
  clear hh
  have HO0' : Hid _ := (Ext.owns hx24 HO0.out)
  have HW2 : Hid (WordsAt w4 g2 0 (wholeN s D)) := hw2
  clear hw2 ho1
  go_wp2_with fail
  refine (HR.out g2 0 cp2 g0 0 cp0 xyz (wholeN s D) (part0 s D) (HWL.out) ?p1 ?p2 _ HW2.out (owns_words HO0'.out)).mono ?_
  case p1 => rw [HP0.out, List.length_drop, HD.out]; have := HXZ.out; omega
  case p2 => have := HXZ.out; have := HXY.out; omega
  rintro e w5 ⟨v5, rfl, ho5, hx5⟩
  obtain ⟨g5, cp5, rfl, hg5, hg5'⟩ := ho5.form (by have := HXZ.out; omega)
  have hxV5 : Ext V w5 := hx1.trans (hx2.trans (hx24.trans hx5))
  have hb5 := hxV5.block HRV.out
  have r0 : w5.cell? ⟨w.heap.size + 1, 0, none⟩ = some (.slice none 0 0) := by rw [cell_of_row w5 _ 0 _ _ _ hb5]; rfl
  have r1 : w5.cell? ⟨w.heap.size + 1, 1, none⟩ = some (.slice none 0 0) := by rw [cell_of_row w5 _ 1 _ _ _ hb5]; rfl
  have r2 : ∀ i, w5.frozen? ⟨w.heap.size + 1, i, none⟩ = false := fun i => by unfold World.frozen?; rw [hb5]; simp
  have HH5 : Hid _ := ho5
  have HH0 : Hid _ := Ext.owns hx5 HO0'.out
  clear ho5 hb5
  have hlt : w.heap.size + 1 < V.heap.size := (Array.getElem?_eq_some_iff.1 HRV.out).1
  have hl1 := hx1.le
  have hl4 : V.heap.size ≤ w4.heap.size := (hx1.trans (hx2.trans hx24)).le
  have hwl := HXV.out.le
  go_wp2
  have hz : x + y + z = xyz := by rw [HXY.out, HXZ.out]
  rw [hz]
  refine bodyPost_ret (v := .agg #[.slice (some ⟨g0, 0, none⟩) xyz cp0, .slice (some ⟨g5, 0, none⟩) xyz cp5]) (by simp [results, Try.results48, go_sem, r0, r1]) rfl ⟨g0, cp0, g5, cp5, rfl, ?_, ?_, ?_⟩
  · refine owns_base (ownsRow_setCell_below (ownsRow_setCell_below HH0.out ?_ _) ?_ _) ?_
    · show w.heap.size + 1 < _; omega
    · show w.heap.size + 1 < _; omega
    · omega
  · rw [HP1.out]
    refine owns_base (ownsRow_setCell_below (ownsRow_setCell_below HH5.out ?_ _) ?_ _) ?_
    · show w.heap.size + 1 < _; omega
    · show w.heap.size + 1 < _; omega
    · omega
  · refine Ext.setCell (Ext.setCell (HXV.out.trans hxV5) ?_ _) ?_ _
    · show w.heap.size ≤ w.heap.size + 1; omega
    · show w.heap.size ≤ w.heap.size + 1; omega
end Go.Proofs.Ytmnjhhachdlmkaa
