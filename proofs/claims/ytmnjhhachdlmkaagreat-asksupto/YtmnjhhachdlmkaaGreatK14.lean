import Derived.Test.YtmnjhhachdlmkaaGreatK13
namespace Go.Proofs.YtmnjhhachdlmkaaGreat
open List renaming getElem_toArray -> lA, getElem_cons_succ -> lB, getElem_cons_zero -> lC, setIfInBounds_toArray -> lD, set_cons_zero -> lE, set_cons_succ -> lF
open World renaming block_lt_of_cell? -> lG
open Value renaming ownBlock -> lH
-- HPr
section
set_option maxRecDepth 100000
set_option maxHeartbeats 1600000
open Go.RowKit Go.Maps
theorem four_lt {w w' : World} {v0 v1 v2 v3 : Value} {t : TypeId} (h : Ext (w.alloc (.cells #[v0, v1, v2, v3] t)) w') : w.heap.size < w'.heap.size := by
 have := h.le
 simp at this
 omega
theorem u64w (x : Int) : 0 <= IntKind.u64.wrap x /\ IntKind.u64.wrap x <= 18446744073709551615 := by rw [IntKind.wrap_u64]; omega
/-- What lies in the row of the product once i elements are reckoned and q products of the next. -/
def ProdAt (A B : List Int) (k n MN i q : Nat) (D : List Int) : Prop :=
 D.length = MN /\ (∀ j, j < i -> D.getD j 0 = dotN false A B k n (j / n) (j % n) k) /\ D.getD i 0 = dotN false A B k n (i / n) (i % n) q /\ ∀ j, i < j -> D.getD j 0 = 0
theorem ProdAt.start (A B : List Int) (k n MN : Nat) : ProdAt A B k n MN 0 0 (List.replicate MN 0) := by
 refine ⟨by simp, fun j hj => by omega, ?_, fun j _ => ?_⟩
 ·simp [dotN, List.getD_eq_getElem?_getD, List.getElem?_replicate]; split <;> rfl
 ·simp [List.getD_eq_getElem?_getD, List.getElem?_replicate]; split <;> rfl
theorem ProdAt.next {A B : List Int} {k n MN i : Nat} {D : List Int} (h : ProdAt A B k n MN i k D) : ProdAt A B k n MN (i + 1) 0 D := by
 obtain ⟨h1, h2, h3, h4⟩ := h
 refine ⟨h1, fun j hj => ?_, ?_, fun j hj => h4 j (by omega)⟩
 ·rcases Nat.lt_or_eq_of_le (Nat.le_of_lt_succ hj) with h | h
  ·exact h2 j h
  ·rw [h, h3]
 ·rw [h4 (i + 1) (by omega)]; rfl
theorem ProdAt.step {A B : List Int} {k n MN i q : Nat} {D : List Int} (h : ProdAt A B k n MN i q D) (hi : i < MN) : ProdAt A B k n MN i (q + 1) (D.set i (plusN false (D.getD i 0) (timesN false (A.getD (i / n * k + q) 0) (B.getD (q * n + i % n) 0)))) := by
 obtain ⟨h1, h2, h3, h4⟩ := h
 have hne : ∀ j v, j ≠ i -> (D.set i v).getD j 0 = D.getD j 0 := fun j v hj => by
  simp [List.getD_eq_getElem?_getD, Ne.symm hj]
 refine ⟨by simp [h1], fun j hj => ?_, ?_, fun j hj => ?_⟩
 ·rw [hne _ _ (by omega), h2 j hj]
 ·rw [h3]
  simp [List.getD_eq_getElem?_getD, h1, hi, dotN]
 ·rw [hne _ _ (by omega), h4 j hj]
def prodW (A B : List Int) (k n MN : Nat) : List Int := (List.range MN).map fun i => dotN false A B k n (i / n) (i % n) k
theorem ProdAt.done {A B : List Int} {k n MN : Nat} {D : List Int} (h : ProdAt A B k n MN MN 0 D) : D = prodW A B k n MN := by
 obtain ⟨h1, h2, _, _⟩ := h
 apply List.ext_getElem?
 intro j
 by_cases hj : j < MN
 ·have := h2 j hj
  rw [List.getD_eq_getElem?_getD, List.getElem?_eq_getElem (by omega), Option.getD_some] at this
  rw [List.getElem?_eq_getElem (by omega), this]
  simp [prodW, hj]
 ·rw [List.getElem?_eq_none (by omega), List.getElem?_eq_none (by simp [prodW]; omega)]
/-- The product of two rows of bits. -/
def prodB (A B : List Int) : List Int := List.zipWith (bits .and .u64) A B
def AndAt (A B : List Int) (M i : Nat) (D : List Int) : Prop := D.length = M /\ ∀ j, j < i -> D.getD j 0 = bits .and .u64 (A.getD j 0) (B.getD j 0)
theorem AndAt.step {A B : List Int} {M i : Nat} {D : List Int} (h : AndAt A B M i D) (hi : i < M) : AndAt A B M (i + 1) (D.set i (bits .and .u64 (A.getD i 0) (B.getD i 0))) := by
 obtain ⟨h1, h2⟩ := h
 refine ⟨by simp [h1], fun j hj => ?_⟩
 by_cases hji : j = i
 ·subst hji
  simp [List.getD_eq_getElem?_getD, h1, hi]
 ·rw [<- h2 j (by omega)]
  simp [List.getD_eq_getElem?_getD, Ne.symm hji]
theorem AndAt.done {A B : List Int} {M : Nat} {D : List Int} (hA : A.length = M) (hB : B.length = M) (h : AndAt A B M M D) : D = prodB A B := by
 obtain ⟨h1, h2⟩ := h
 apply List.ext_getElem (by simp [prodB, h1, hA, hB])
 intro j hj1 hj2
 have := h2 j (by omega)
 rw [List.getD_eq_getElem?_getD, List.getElem?_eq_getElem hj1, Option.getD_some] at this
 rw [this]
 simp [prodB, List.getD_eq_getElem?_getD, List.getElem?_eq_getElem (show j < A.length by omega), List.getElem?_eq_getElem (show j < B.length by omega)]
theorem prodW_mul {m k n : Nat} (hm1 : 1 <= m) (hm : m <= 3) (hn1 : 1 <= n) (hn : n <= 3) (A B : List Int) (hA : A.length = m * k) (hB : B.length = k * n) : prodW A B k n (m * n) = mulN ⟨false, 1, m, k, n⟩ A B 1 := by
 have e1 : subL A 0 (m * k) = A := by rw [subL, Nat.zero_mul, List.drop_zero, <- hA, List.take_length]
 have e2 : subL B 0 (k * n) = B := by rw [subL, Nat.zero_mul, List.drop_zero, <- hB, List.take_length]
 have h1 : mulN ⟨false, 1, m, k, n⟩ A B 1 = matN false A B k n m := by
  rw [show (1 : Nat) = 0 + 1 from rfl, mulN_succ]
  show mulN _ A B 0 ++ matN false (subL A 0 (m * k)) (subL B 0 (k * n)) k n m = _
  rw [e1, e2]; simp [mulN]
 rw [h1]
 clear h1 e1 e2 hA hB
 obtain rfl | rfl | rfl : m = 1 \/ m = 2 \/ m = 3 := by omega
 all_goals (obtain rfl | rfl | rfl : n = 1 \/ n = 2 \/ n = 3 := by omega)
 all_goals rfl
theorem wrap_bv (a : BitVec 64) : IntKind.u64.wrap (a.toNat : Int) = a.toNat := by
 rw [IntKind.wrap_u64]; have := a.isLt; omega
theorem bits_xor (x y : Int) : bits .xor .u64 x y = ((BitVec.ofInt 64 x ^^^ BitVec.ofInt 64 y).toNat : Int) := wrap_bv _
theorem bits_and (x y : Int) : bits .and .u64 x y = ((BitVec.ofInt 64 x &&& BitVec.ofInt 64 y).toNat : Int) := wrap_bv _
theorem bv_range (a : BitVec 64) : 0 <= (a.toNat : Int) /\ (a.toNat : Int) <= 18446744073709551615 := by have := a.isLt; omega
theorem ofInt_nat (a : BitVec 64) : BitVec.ofInt 64 (a.toNat : Int) = a := by simp
theorem xor_zero_and (a b : Int) : bits .xor .u64 0 (bits .and .u64 a b) = bits .and .u64 a b := by
 rw [bits_xor, bits_and, ofInt_nat]; simp
theorem minus_range (bt : Bool) (x y : Int) : 0 <= minusN bt x y /\ minusN bt x y <= 18446744073709551615 := by
 cases bt
 ·exact u64w _
 ·show 0 <= bits .xor .u64 x y /\ _; rw [show minusN true x y = bits .xor .u64 x y from rfl, bits_xor]; exact bv_range _
theorem inU64.take {D : List Int} (h : inU64 D) (n : Nat) : inU64 (D.take n) := fun z hz => h z (List.mem_of_mem_take hz)
theorem inU64.drop {D : List Int} (h : inU64 D) (n : Nat) : inU64 (D.drop n) := fun z hz => h z (List.mem_of_mem_drop hz)
theorem part0_in (s : Sh) {D : List Int} (h : inU64 D) : inU64 (part0 s D) := h.drop _
theorem part1_in (s : Sh) (D : List Int) : inU64 (part1 s D) := fun z hz => by
 rw [part1] at hz
 obtain ⟨i, h, rfl⟩ := List.getElem_of_mem hz
 rw [List.getElem_zipWith]
 exact minus_range _ _ _
theorem prodB_mul {M : Nat} (h1 : 1 <= M) (h3 : M <= 3) (A B : List Int) (hA : A.length = M) (hB : B.length = M) : prodB A B = mulN ⟨true, M, 1, 1, 1⟩ A B M := by
 have hx := xor_zero_and
 obtain rfl | rfl | rfl : M = 1 \/ M = 2 \/ M = 3 := by omega
 ·obtain ⟨a, rfl⟩ := List.length_eq_one_iff.1 hA
  obtain ⟨b, rfl⟩ := List.length_eq_one_iff.1 hB
  exact congrArg (· :: []) (hx a b).symm
 ·match A, B, hA, hB with
  | [a0, a1], [b0, b1], _, _ =>
   show [bits .and .u64 a0 b0, bits .and .u64 a1 b1] = [bits .xor .u64 0 (bits .and .u64 a0 b0), bits .xor .u64 0 (bits .and .u64 a1 b1)]
   rw [hx, hx]
 ·match A, B, hA, hB with
  | [a0, a1, a2], [b0, b1, b2], _, _ =>
   show [bits .and .u64 a0 b0, bits .and .u64 a1 b1, bits .and .u64 a2 b2] = [bits .xor .u64 0 (bits .and .u64 a0 b0), bits .xor .u64 0 (bits .and .u64 a1 b1), bits .xor .u64 0 (bits .and .u64 a2 b2)]
   rw [hx, hx, hx]
theorem refProductB_c (M : Nat) (hm1 : 1 <= M) (hm : M <= 3) (b off cap b2 off2 cap2 : Nat) (A B : List Int) (hA : A.length = M) (hB : B.length = M) (w : World) (hz : WordsAt w b off A) (hy : WordsAt w b2 off2 B) :
  Calls Tryz.prog 190 #[clsV 2 M 1 1, .slice (some ⟨b, off, none⟩) M cap, .slice (some ⟨b2, off2, none⟩) M cap2] w fun e w' => ∃ g, e = .returned (.slice (some ⟨g, 0, none⟩) M M) /\ w'.ownsRow w.heap.size 146 1 (.slice (some ⟨g, 0, none⟩) M M) M ((prodB A B).map (Value.int .u64)) /\ Ext w w' := by
 obtain ⟨i0, hi, hz0, hz1, hz2⟩ := info_parts infoU64
 have HS : Hid _ := refSizes_c (kd := 2) (m := M) (k := 1) (n := 1) (s := ⟨true, M, 1, 1, 1⟩) (.inl ⟨rfl, rfl, rfl, rfl⟩) ⟨hm1, hm, Nat.le_refl 1, (by show 1 <= 3; omega), Nat.le_refl 1, (by show 1 <= 3; omega), Nat.le_refl 1, (by show 1 <= 3; omega), .inr ⟨rfl, rfl, rfl⟩⟩
 simp only [Sh.x, Sh.y, Sh.z, Nat.mul_one] at HS
 have HZ : Hid (WordsAt w b off A) := hz
 have HY : Hid (WordsAt w b2 off2 B) := hy
 have HAB : Hid (A.length = M /\ B.length = M) := ⟨hA, hB⟩
 clear hz hy hA hB
 unfold clsV at *
 go_enter Tryz.func190, Tryz.ntmps190
 go_wp2_with fail
 refine (HS.out _).mono ?_
 rintro e w1 ⟨rfl, hx1⟩
 obtain ⟨d0, d1, d2, d3⟩ := four_in hx1
 have HX1 : Hid (Ext w w1) := ((Ext.refl w).alloc _).trans hx1
 have hlt1 := four_lt hx1
 clear hx1
 go_wp2_with (at_make; refine wpList_make_full _ rfl _ _ 31 rfl w1.heap.size 146 i0 (.int .u64 0) 1 Tryz.underlying31 hi hz0 hz1 _ _ _ _ M rfl rfl rfl rfl (by rw [hz2]; omega) (by unfold maxLen; omega) (Nat.le_refl _) ?_)
 intro w2 ho1 hg1
 have hx2 : Ext w1 w2 := Ext.grown (Ext.refl w1) hg1 (by simp)
 have ho2 : w2.ownsRow w1.heap.size 146 1 (.slice (some ⟨w1.heap.size, 0, none⟩) M M) M ((List.replicate M (0 : Int)).map (Value.int .u64)) := by
  rw [List.map_replicate, <- toList_madeCells_one]; simpa [Value.cells] using ho1
 have d0 := hx2.cell d0
 obtain ⟨g, hgE⟩ : ∃ g, w1.heap.size = g := ⟨_, rfl⟩
 rw [hgE] at ho2 ⊢
 have HO2 : Hid (w2.ownsRow g 146 1 (.slice (some ⟨g, 0, none⟩) M M) M ((List.replicate M (0 : Int)).map (Value.int .u64))) := ho2
 have HX2 : Hid (Ext w w2) := HX1.out.trans hx2
 have hgw : w.heap.size < g := by omega
 clear ho1 ho2 hg1 hx2 hgE hlt1 d1 d2 d3
 have HC : Hid _ := d0
 go_wp2_with fail
 clear d0
 go_loopw [11] (fun i wr => ∃ (j : Nat) (D : List Int), j <= M /\ i = .int .i64 j /\ AndAt A B M j D /\ wr.ownsRow g 146 1 (.slice (some ⟨g, 0, none⟩) M M) M (D.map (Value.int .u64)) /\ Ext w wr /\ wr.cell? ⟨w.heap.size, 0, none⟩ = some (.int .i64 2)) (fun i _ => M - (intOf i).toNat)
 case atStart => exact ⟨0, List.replicate M 0, Nat.zero_le _, rfl, ⟨by simp, fun j hj => absurd hj (Nat.not_lt_zero _)⟩, HO2.out, HX2.out, HC.out⟩
 case round =>
  obtain ⟨j, D, hj, rfl, hP, ho, hx, d0⟩ := hrel
  have HP : Hid (AndAt A B M j D) := hP
  have HO : Hid (wr.ownsRow g 146 1 (.slice (some ⟨g, 0, none⟩) M M) M (D.map (Value.int .u64))) := ho
  have HX : Hid (Ext w wr) := hx
  clear hP ho hx
  by_cases hlt : j < M
  ·have hk0 : (0 : Int) <= (j : Int) := by omega
   have hk1 : (j : Int) < M := by omega
   have e0 := HX.out.cell (HZ.out j (by rw [HAB.out.1]; exact hlt))
   have e1 := HX.out.cell (HY.out j (by rw [HAB.out.2]; exact hlt))
   have hbw := lG w _ (HZ.out j (by rw [HAB.out.1]; exact hlt))
   have hb2w := lG w _ (HY.out j (by rw [HAB.out.2]; exact hlt))
   have c0 : wr.cell? ⟨g, j, none⟩ = some (.int .u64 (D.getD j 0)) := by
    have := owns_words HO.out j (by rw [HP.out.1]; exact hlt)
    simpa using this
   have f0 : wr.frozen? ⟨g, j, none⟩ = false := HO.out.frozenAt j
   have HPn : Hid _ := HP.out.step hlt
   generalize A.getD j 0 = za at *
   generalize B.getD j 0 = zb at *
   generalize hdd : D.getD j 0 = dd at *
   clear hdd
   go_wp2
   go_region
   have HF : Hid (((wr.setCell ⟨g, j, none⟩ (.int .u64 (bits .and .u64 za zb))).drew).cell? ⟨w.heap.size, 0, none⟩ = some (.int .i64 2)) := (World.cell?_setCell_far wr ⟨g, j, none⟩ ⟨w.heap.size, 0, none⟩ _ (by show g ≠ w.heap.size; omega)).trans d0
   go_wp2
   go_roundw
   case rel => exact ⟨j + 1, _, by omega, by go_num, HPn.out, World.ownsRow.drew (by rw [List.map_set]; exact (HO.out.stored j _).1), Ext.drew (Ext.setCell HX.out (by show w.heap.size <= g; omega) _), HF.out⟩
   case measure => simp [intOf]; omega
  ·obtain rfl : j = M := by omega
   go_wp2
   go_ret
   exact ⟨g, rfl, by rw [<- HP.out.done HAB.out.1 HAB.out.2]; exact owns_base HO.out (by omega), HX.out⟩
end
-- HPw
section
set_option maxRecDepth 100000
set_option maxHeartbeats 3200000
open Go.RowKit Go.Maps
theorem im_div {i j n : Nat} (h : j < n) : (i * n + j) / n = i := by
 rw [Nat.mul_comm, Nat.mul_add_div (by omega), Nat.div_eq_of_lt h, Nat.add_zero]
theorem im_mod {i j n : Nat} (h : j < n) : (i * n + j) % n = j := by
 rw [Nat.mul_comm, Nat.mul_add_mod, Nat.mod_eq_of_lt h]
theorem ProdAt.stepIJ {A B : List Int} {k n MN i j q : Nat} {D : List Int} (h : ProdAt A B k n MN (i * n + j) q D) (hj : j < n) (hi : i * n + j < MN) : ProdAt A B k n MN (i * n + j) (q + 1) (D.set (i * n + j) (plusN false (D.getD (i * n + j) 0) (timesN false (A.getD (i * k + q) 0) (B.getD (q * n + j) 0)))) := by
 have := h.step hi
 rwa [im_div hj, im_mod hj] at this
theorem refProductW_c (kd m k n : Nat) (hkd : ¬ kd = 2) (hm1 : 1 <= m) (hm : m <= 3) (hk1 : 1 <= k) (hk : k <= 3) (hn1 : 1 <= n) (hn : n <= 3) (s : Sh) (hc : ofCls kd m k n s) (hs : s.ok) (b off cap b2 off2 cap2 la lb : Nat) (A B : List Int) (hA : A.length = la) (hB : B.length = lb) (hla : la = m * k) (hlb : lb = k * n) (w : World) (hz : WordsAt w b off A) (hy : WordsAt w b2 off2 B) :
  Calls Tryz.prog 190 #[clsV kd m k n, .slice (some ⟨b, off, none⟩) la cap, .slice (some ⟨b2, off2, none⟩) lb cap2] w fun e w' => ∃ g, e = .returned (.slice (some ⟨g, 0, none⟩) (m * n) (m * n)) /\ w'.ownsRow w.heap.size 146 1 (.slice (some ⟨g, 0, none⟩) (m * n) (m * n)) (m * n) ((prodW A B k n (m * n)).map (Value.int .u64)) /\ Ext w w' := by
 obtain ⟨i0, hi, hz0, hz1, hz2⟩ := info_parts infoU64
 have HS : Hid _ := refSizes_c hc hs
 have HZ : Hid (WordsAt w b off A) := hz
 have HY : Hid (WordsAt w b2 off2 B) := hy
 have hzz : s.z = m * n := by
  rcases hc with ⟨h, _⟩ | ⟨_, rfl⟩
  ·exact absurd h hkd
  ·simp [Sh.z]
 rw [hzz] at HS
 have hmn := mul_le9 hm hn
 have hmn1 := Nat.mul_le_mul hm1 hn1
 have HAB : Hid (A.length = la /\ B.length = lb /\ la = m * k /\ lb = k * n) := ⟨hA, hB, hla, hlb⟩
 generalize s.x = x at *
 generalize s.y = y at *
 clear hz hy hc hs hzz hA hB hla hlb
 generalize hMN : m * n = MN at *
 have HMN : Hid (m * n = MN) := hMN
 clear hMN
 unfold clsV at *
 go_enter Tryz.func190, Tryz.ntmps190
 go_wp2_with fail
 refine (HS.out _).mono ?_
 rintro e w1 ⟨rfl, hx1⟩
 obtain ⟨d0, d1, d2, d3⟩ := four_in hx1
 have HX1 : Hid (Ext w w1) := ((Ext.refl w).alloc _).trans hx1
 have hlt1 := four_lt hx1
 clear hx1
 go_wp2_with (at_make; refine wpList_make_full _ rfl _ _ 31 rfl w1.heap.size 146 i0 (.int .u64 0) 1 Tryz.underlying31 hi hz0 hz1 _ _ _ _ MN rfl rfl rfl rfl (by rw [hz2]; omega) (by unfold maxLen; omega) (Nat.le_refl _) ?_)
 intro w2 ho1 hg1
 have hx2 : Ext w1 w2 := Ext.grown (Ext.refl w1) hg1 (by simp)
 have ho2 : w2.ownsRow w1.heap.size 146 1 (.slice (some ⟨w1.heap.size, 0, none⟩) MN MN) MN ((List.replicate MN (0 : Int)).map (Value.int .u64)) := by
  rw [List.map_replicate, <- toList_madeCells_one]; simpa [Value.cells] using ho1
 have d0 := hx2.cell d0
 have d1 := hx2.cell d1
 have d2 := hx2.cell d2
 have d3 := hx2.cell d3
 obtain ⟨g, hgE⟩ : ∃ g, w1.heap.size = g := ⟨_, rfl⟩
 rw [hgE] at ho2 ⊢
 have HO2 : Hid (w2.ownsRow g 146 1 (.slice (some ⟨g, 0, none⟩) MN MN) MN ((List.replicate MN (0 : Int)).map (Value.int .u64))) := ho2
 have HX2 : Hid (Ext w w2) := HX1.out.trans hx2
 have hgw : w.heap.size < g := by omega
 clear ho1 ho2 hg1 hx2 hgE hlt1
 have hkd2 : ¬ ((kd : Int) = 2) := by omega
 clear hkd
 have HD0 : Hid _ := d0
 have HC : Hid (w2.cell? ⟨w.heap.size, 1, none⟩ = some (.int .i64 m) /\ w2.cell? ⟨w.heap.size, 2, none⟩ = some (.int .i64 k) /\ w2.cell? ⟨w.heap.size, 3, none⟩ = some (.int .i64 n)) := ⟨d1, d2, d3⟩
 clear d1 d2 d3
 have hsz2 : w.heap.size + 1 <= g := hgw
 go_wp2_with fail
 clear d0
 rw [show ((kd : Int) == 2) = false from by simp; omega]
 go_loopw [12] (fun i wr => ∃ (j : Nat) (D : List Int), j <= m /\ i = .int .i64 j /\ ProdAt A B k n MN (j * n) 0 D /\ wr.ownsRow g 146 1 (.slice (some ⟨g, 0, none⟩) MN MN) MN (D.map (Value.int .u64)) /\ Ext w wr /\ wr.cell? ⟨w.heap.size, 1, none⟩ = some (.int .i64 m) /\ wr.cell? ⟨w.heap.size, 2, none⟩ = some (.int .i64 k) /\ wr.cell? ⟨w.heap.size, 3, none⟩ = some (.int .i64 n)) (fun i _ => m - (intOf i).toNat)
 case atStart => exact ⟨0, List.replicate MN 0, Nat.zero_le _, rfl, by rw [Nat.zero_mul]; exact ProdAt.start _ _ _ _ _, HO2.out, HX2.out, HC.out⟩
 case round =>
  obtain ⟨i, D, hi0, rfl, hP, ho, hx, d1, d2, d3⟩ := hrel
  have HP : Hid (ProdAt A B k n MN (i * n) 0 D) := hP
  have HO : Hid (wr.ownsRow g 146 1 (.slice (some ⟨g, 0, none⟩) MN MN) MN (D.map (Value.int .u64))) := ho
  have HX : Hid (Ext w wr) := hx
  have HD : Hid _ := And.intro d1 (And.intro d2 d3)
  clear hP ho hx
  by_cases hlt : i < m
  ·go_wp2
   clear d1 d2 d3
   go_loopw [13] (fun i' ws => ∃ (j : Nat) (D : List Int), j <= n /\ i' = .int .i64 j /\ ProdAt A B k n MN (i * n + j) 0 D /\ ws.ownsRow g 146 1 (.slice (some ⟨g, 0, none⟩) MN MN) MN (D.map (Value.int .u64)) /\ Ext w ws /\ ws.cell? ⟨w.heap.size, 1, none⟩ = some (.int .i64 m) /\ ws.cell? ⟨w.heap.size, 2, none⟩ = some (.int .i64 k) /\ ws.cell? ⟨w.heap.size, 3, none⟩ = some (.int .i64 n)) (fun i' _ => n - (intOf i').toNat)
   case atStart => exact ⟨0, D, Nat.zero_le _, rfl, HP.out, HO.out, HX.out, HD.out⟩
   case round =>
    clear HP HO HX HD
    clear D
    obtain ⟨j, D, hj, rfl, hP, ho, hx, d1, d2, d3⟩ := hrel
    rename World => ws
    have HP : Hid (ProdAt A B k n MN (i * n + j) 0 D) := hP
    have HO : Hid (ws.ownsRow g 146 1 (.slice (some ⟨g, 0, none⟩) MN MN) MN (D.map (Value.int .u64))) := ho
    have HX : Hid (Ext w ws) := hx
    have HD : Hid _ := And.intro d1 (And.intro d2 d3)
    clear hP ho hx
    by_cases hlj : j < n
    ·have hin : i * n + j < MN := by rw [<- HMN.out]; exact mul_add_lt hlt hlj
     obtain ⟨x0, hx0⟩ : ∃ x0, i * n + j = x0 := ⟨_, rfl⟩
     have HX0 : Hid (i * n + j = x0) := hx0
     have HSt : Hid (∀ q D, ProdAt A B k n MN x0 q D -> ProdAt A B k n MN x0 (q + 1) (D.set x0 (plusN false (D.getD x0 0) (timesN false (A.getD (i * k + q) 0) (B.getD (q * n + j) 0))))) := fun q D h => by
      rw [<- hx0] at h ⊢
      exact h.stepIJ hlj hin
     have hP0 := HP.out
     rw [hx0] at hP0 hin
     have HP0 : Hid (ProdAt A B k n MN x0 0 D) := hP0
     clear hP0 hx0
     go_wp2
     clear d1 d2 d3
     go_loopw [14] (fun i' wt => ∃ (q : Nat) (D : List Int), q <= k /\ i' = .int .i64 q /\ ProdAt A B k n MN x0 q D /\ wt.ownsRow g 146 1 (.slice (some ⟨g, 0, none⟩) MN MN) MN (D.map (Value.int .u64)) /\ Ext w wt /\ wt.cell? ⟨w.heap.size, 1, none⟩ = some (.int .i64 m) /\ wt.cell? ⟨w.heap.size, 2, none⟩ = some (.int .i64 k) /\ wt.cell? ⟨w.heap.size, 3, none⟩ = some (.int .i64 n)) (fun i' _ => k - (intOf i').toNat)
     case atStart => exact ⟨0, D, Nat.zero_le _, rfl, HP0.out, HO.out, HX.out, HD.out⟩
     case round =>
      clear HP HO HX HD HP0
      clear D
      obtain ⟨q, D, hq, rfl, hP, ho, hx, d1, d2, d3⟩ := hrel
      rename World => wt
      have HP : Hid (ProdAt A B k n MN x0 q D) := hP
      have HO : Hid (wt.ownsRow g 146 1 (.slice (some ⟨g, 0, none⟩) MN MN) MN (D.map (Value.int .u64))) := ho
      have HX : Hid (Ext w wt) := hx
      have HD : Hid (D.length = MN) := hP.1
      clear hP ho hx
      by_cases hlq : q < k
      ·have hbw := lG w _ (HZ.out (i * k + q) (by rw [HAB.out.1, HAB.out.2.2.1]; exact mul_add_lt hlt hlq))
       have hb2w := lG w _ (HY.out (q * n + j) (by rw [HAB.out.2.1, HAB.out.2.2.2]; exact mul_add_lt hlq hlj))
       have e0 := HX.out.cell (HZ.out (i * k + q) (by rw [HAB.out.1, HAB.out.2.2.1]; exact mul_add_lt hlt hlq))
       have e1 := HX.out.cell (HY.out (q * n + j) (by rw [HAB.out.2.1, HAB.out.2.2.2]; exact mul_add_lt hlq hlj))
       have b0 : i * k + q < la := by rw [HAB.out.2.2.1]; exact mul_add_lt hlt hlq
       have b1 : q * n + j < lb := by rw [HAB.out.2.2.2]; exact mul_add_lt hlq hlj
       have hqn := Nat.mul_le_mul (show q <= 2 by omega) hn
       have hrk := Nat.mul_le_mul (show i <= 2 by omega) hk
       have hin' := Nat.mul_le_mul (show i <= 2 by omega) hn
       obtain ⟨im, him⟩ : ∃ im, i * n = im := ⟨_, rfl⟩
       have v0 : IntKind.i64.wrap ((i : Int) * (n : Int)) = (im : Int) := by rw [<- Int.natCast_mul, him]; exact wrap_small (by omega)
       have v5 : IntKind.i64.wrap ((im : Int) + (j : Int)) = (x0 : Int) := by
        have h0 := HX0.out
        rw [him] at h0
        rw [show (im : Int) + (j : Int) = ((im + j : Nat) : Int) by omega, h0]
        exact wrap_small (by omega)
       have v1 : IntKind.i64.wrap ((i : Int) * (k : Int)) = ((i * k : Nat) : Int) := by rw [<- Int.natCast_mul]; exact wrap_small (by omega)
       have v2 : IntKind.i64.wrap ((q : Int) * (n : Int)) = ((q * n : Nat) : Int) := by rw [<- Int.natCast_mul]; exact wrap_small (by omega)
       have c0 : wt.cell? ⟨g, x0, none⟩ = some (.int .u64 (D.getD x0 0)) := by
        have := owns_words HO.out x0 (by rw [HD.out]; exact hin)
        simpa using this
       have f0 : wt.frozen? ⟨g, x0, none⟩ = false := HO.out.frozenAt x0
       have HPn : Hid (ProdAt A B k n MN x0 (q + 1) (D.set x0 (IntKind.u64.wrap (D.getD x0 0 + IntKind.u64.wrap (A.getD (i * k + q) 0 * B.getD (q * n + j) 0))))) := HSt.out q D HP.out
       generalize hzk : A.getD (i * k + q) 0 = z at *
       generalize hyk : B.getD (q * n + j) 0 = zb at *
       generalize hdd : D.getD x0 0 = dd at *
       clear hzk hyk hdd
       generalize i * k = rk at *
       generalize q * n = qn at *
       have s1 : (rk : Int) + (q : Int) = ((rk + q : Nat) : Int) := by omega
       have s2 : (qn : Int) + (j : Int) = ((qn + j : Nat) : Int) := by omega
       have v3 : IntKind.i64.wrap ((rk : Int) + (q : Int)) = ((rk + q : Nat) : Int) := by rw [s1]; exact wrap_small (by omega)
       have v4 : IntKind.i64.wrap ((qn : Int) + (j : Int)) = ((qn + j : Nat) : Int) := by rw [s2]; exact wrap_small (by omega)
       generalize hx1 : rk + q = x1 at *
       generalize hx2 : qn + j = x2 at *
       clear s1 s2 hx1 hx2 hrk hqn hin' him
       have t0 : (0 : Int) <= (x1 : Int) := by omega
       have t1 : (x1 : Int) < la := by omega
       have t2 : (0 : Int) <= (x2 : Int) := by omega
       have t3 : (x2 : Int) < lb := by omega
       have hk0 : (0 : Int) <= (x0 : Int) := by omega
       have hk1' : (x0 : Int) < MN := by omega
       go_wp2_with fail
       refine wp_region_held_drew (S := (fun w' => w'.cell? ⟨w.heap.size, 2, none⟩ = some (.int .i64 (k : Int)) /\ w'.cell? ⟨w.heap.size, 3, none⟩ = some (.int .i64 (n : Int)) /\ w'.cell? ⟨b, off + x1, none⟩ = some (.int .u64 z) /\ w'.cell? ⟨b2, off2 + x2, none⟩ = some (.int .u64 zb))) (by kernel_rfl) ⟨d2, d3, e0, e1⟩ (fun hHeld => ?_)
       refine wpAnyH_take (i := 0) (oi := _) (v := ?v0) rfl (by kernel_rfl) (by kernel_rfl) (by kernel_rfl) (fun _ _ _ h => h) (Or.inl ⟨by rfl, ?hy⟩) hHeld ?_
       case hy => (intro w hSw; (try dsimp only at hSw); go_simp; try with_reducible rfl)
       try simp only [Act.put, lA, lC, lD, lE, lF]
       refine wpAnyH_take (i := 1) (oi := _) (v := ?v1) rfl (by kernel_rfl) (by kernel_rfl) (by kernel_rfl) (fun _ _ _ h => h) (Or.inl ⟨by rfl, ?hy⟩) hHeld ?_
       case hy => (intro w hSw; (try dsimp only at hSw); go_simp; try with_reducible rfl)
       try simp only [Act.put, lA, lB, lC, lD, lE, lF]
       refine wpAnyH_take (i := 2) (oi := _) (v := ?v2) rfl (by kernel_rfl) (by kernel_rfl) (by kernel_rfl) (fun _ _ _ h => h) (Or.inl ⟨by rfl, ?hy⟩) hHeld ?_
       case hy => (intro w hSw; (try dsimp only at hSw); go_simp; try with_reducible rfl)
       try simp only [Act.put, lA, lB, lC, lD, lE, lF]
       refine wpAnyH_take (i := 3) (oi := _) (v := ?v3) rfl (by kernel_rfl) (by kernel_rfl) (by kernel_rfl) (fun _ _ _ h => h) (Or.inl ⟨by rfl, ?hy⟩) hHeld ?_
       case hy => (intro w hSw; (try dsimp only at hSw); go_simp; try with_reducible rfl)
       try simp only [Act.put, lA, lB, lC, lD, lE, lF]
       refine wpAnyH_take (i := 4) (oi := _) (v := ?v4) rfl (by kernel_rfl) (by kernel_rfl) (by kernel_rfl) (fun _ _ _ h => h) (Or.inl ⟨by rfl, ?hy⟩) hHeld ?_
       case hy => (intro w hSw; (try dsimp only at hSw); go_simp; try with_reducible rfl)
       try simp only [Act.put, lA, lB, lC, lD, lE, lF]
       refine wpAnyH_take (i := 5) (oi := _) (v := ?v5) rfl (by kernel_rfl) (by kernel_rfl) (by kernel_rfl) (fun _ _ _ h => h) (Or.inl ⟨by rfl, ?hy⟩) hHeld ?_
       case hy => (intro w hSw; (try dsimp only at hSw); go_simp; try with_reducible rfl)
       try simp only [Act.put, lA, lB, lC, lD, lE, lF]
       refine wpAnyH_take (i := 6) (oi := _) (v := ?v6) rfl (by kernel_rfl) (by kernel_rfl) (by kernel_rfl) (fun _ _ _ h => h) (Or.inl ⟨by rfl, ?hy⟩) hHeld ?_
       case hy => (intro w hSw; (try dsimp only at hSw); go_simp; try with_reducible rfl)
       try simp only [Act.put, lA, lB, lC, lD, lE, lF]
       refine wpAnyH_take (i := 7) (oi := _) (v := ?v7) rfl (by kernel_rfl) (by kernel_rfl) (by kernel_rfl) (fun _ _ _ h => h) (Or.inl ⟨by rfl, ?hy⟩) hHeld ?_
       case hy => (intro w hSw; (try dsimp only at hSw); go_simp; try with_reducible rfl)
       try simp only [Act.put, lA, lB, lC, lD, lE, lF]
       refine wpAnyH_take (i := 8) (oi := _) (v := ?v8) rfl (by kernel_rfl) (by kernel_rfl) (by kernel_rfl) (fun _ _ _ h => h) (Or.inl ⟨by rfl, ?hy⟩) hHeld ?_
       case hy => (intro w hSw; (try dsimp only at hSw); go_simp; try with_reducible rfl)
       try simp only [Act.put, lA, lB, lC, lD, lE, lF]
       refine wpAnyH_take (i := 9) (oi := _) (v := ?v9) rfl (by kernel_rfl) (by kernel_rfl) (by kernel_rfl) (fun _ _ _ h => h) (Or.inl ⟨by rfl, ?hy⟩) hHeld ?_
       case hy => (intro w hSw; (try dsimp only at hSw); go_simp; try with_reducible rfl)
       try simp only [Act.put, lA, lB, lC, lD, lE, lF]
       refine wpAnyH_take (i := 10) (oi := _) (v := ?v10) rfl (by kernel_rfl) (by kernel_rfl) (by kernel_rfl) (fun _ _ _ h => h) (Or.inl ⟨by rfl, ?hy⟩) hHeld ?_
       case hy => (intro w hSw; (try dsimp only at hSw); go_simp; try with_reducible rfl)
       try simp only [Act.put, lA, lB, lC, lD, lE, lF]
       refine wpAnyH_take (i := 11) (oi := _) (v := ?v11) rfl (by kernel_rfl) (by kernel_rfl) (by kernel_rfl) (fun _ _ _ h => h) (Or.inl ⟨by rfl, ?hy⟩) hHeld ?_
       case hy => (intro w hSw; (try dsimp only at hSw); go_simp; try with_reducible rfl)
       try simp only [Act.put, lA, lB, lC, lD, lE, lF]
       refine wpAnyH_take (i := 12) (oi := _) (v := ?v12) rfl (by kernel_rfl) (by kernel_rfl) (by kernel_rfl) (fun _ _ _ h => h) (Or.inl ⟨by rfl, ?hy⟩) hHeld ?_
       case hy => (intro w hSw; (try dsimp only at hSw); go_simp; try with_reducible rfl)
       try simp only [Act.put, lA, lB, lC, lD, lE, lF]
       refine wpAnyH_take (i := 13) (oi := _) (v := ?v13) rfl (by kernel_rfl) (by kernel_rfl) (by kernel_rfl) (fun _ _ _ h => h) (Or.inl ⟨by rfl, ?hy⟩) hHeld ?_
       case hy => (intro w hSw; (try dsimp only at hSw); go_simp; try with_reducible rfl)
       try simp only [Act.put, lA, lB, lC, lD, lE, lF]
       refine wpAnyH_take (i := 14) (oi := _) (v := ?v14) rfl (by kernel_rfl) (by kernel_rfl) (by kernel_rfl) (fun _ _ _ h => h) (Or.inl ⟨by rfl, ?hy⟩) hHeld ?_
       case hy => (intro w hSw; (try dsimp only at hSw); go_simp; try with_reducible rfl)
       try simp only [Act.put, lA, lB, lC, lD, lE, lF]
       refine wpAnyH_take (i := 16) (oi := _) (v := ?v16) rfl (by kernel_rfl) (by kernel_rfl) (by kernel_rfl) (fun _ _ _ h => h) (Or.inl ⟨by rfl, ?hy⟩) hHeld ?_
       case hy => (intro w hSw; (try dsimp only at hSw); go_simp; try with_reducible rfl)
       try simp only [Act.put, lA, lB, lC, lD, lE, lF]
       refine wpAnyH_take (i := 17) (oi := _) (v := ?v17) rfl (by kernel_rfl) (by kernel_rfl) (by kernel_rfl) (fun _ _ _ h => h) (Or.inl ⟨by rfl, ?hy⟩) hHeld ?_
       case hy => (intro w hSw; (try dsimp only at hSw); go_simp; try with_reducible rfl)
       try simp only [Act.put, lA, lB, lC, lD, lE, lF]
       refine wpAnyH_take (i := 18) (oi := _) (v := ?v18) rfl (by kernel_rfl) (by kernel_rfl) (by kernel_rfl) (fun _ _ _ h => h) (Or.inl ⟨by rfl, ?hy⟩) hHeld ?_
       case hy => (intro w hSw; (try dsimp only at hSw); go_simp; try with_reducible rfl)
       try simp only [Act.put, lA, lB, lC, lD, lE, lF]
       refine wpAnyH_take (i := 19) (oi := _) (v := ?v19) rfl (by kernel_rfl) (by kernel_rfl) (by kernel_rfl) (fun _ _ _ h => h) (Or.inl ⟨by rfl, ?hy⟩) hHeld ?_
       case hy => (intro w hSw; (try dsimp only at hSw); go_simp; try with_reducible rfl)
       try simp only [Act.put, lA, lB, lC, lD, lE, lF]
       refine wpAnyH_take (i := 20) (oi := _) (v := ?v20) rfl (by kernel_rfl) (by kernel_rfl) (by kernel_rfl) (fun _ _ _ h => h) (Or.inl ⟨by rfl, ?hy⟩) hHeld ?_
       case hy => (intro w hSw; (try dsimp only at hSw); go_simp; try with_reducible rfl)
       try simp only [Act.put, lA, lB, lC, lD, lE, lF]
       refine wpAnyH_take (i := 21) (oi := _) (v := ?v21) rfl (by kernel_rfl) (by kernel_rfl) (by kernel_rfl) (fun _ _ _ h => h) (Or.inl ⟨by rfl, ?hy⟩) hHeld ?_
       case hy => (intro w hSw; (try dsimp only at hSw); go_simp; try with_reducible rfl)
       try simp only [Act.put, lA, lB, lC, lD, lE, lF]
       refine wpAnyH_take (i := 22) (oi := _) (v := ?v22) rfl (by kernel_rfl) (by kernel_rfl) (by kernel_rfl) (fun _ _ _ h => h) (Or.inl ⟨by rfl, ?hy⟩) hHeld ?_
       case hy => (intro w hSw; (try dsimp only at hSw); go_simp; try with_reducible rfl)
       try simp only [Act.put, lA, lB, lC, lD, lE, lF]
       refine wpAnyH_take (i := 23) (oi := _) (v := ?v23) rfl (by kernel_rfl) (by kernel_rfl) (by kernel_rfl) (fun _ _ _ h => h) (Or.inl ⟨by rfl, ?hy⟩) hHeld ?_
       case hy => (intro w hSw; (try dsimp only at hSw); go_simp; try with_reducible rfl)
       try simp only [Act.put, lA, lB, lC, lD, lE, lF]
       refine wpAnyH_take (i := 24) (oi := _) (v := ?v24) rfl (by kernel_rfl) (by kernel_rfl) (by kernel_rfl) (fun _ _ _ h => h) (Or.inl ⟨by rfl, ?hy⟩) hHeld ?_
       case hy => (intro w hSw; (try dsimp only at hSw); go_simp; try with_reducible rfl)
       try simp only [Act.put, lA, lB, lC, lD, lE, lF]
       refine wpAnyH_take (i := 25) (oi := _) (v := ?v25) rfl (by kernel_rfl) (by kernel_rfl) (by kernel_rfl) (fun _ _ _ h => h) (Or.inl ⟨by rfl, ?hy⟩) hHeld ?_
       case hy => (intro w hSw; (try dsimp only at hSw); go_simp; try with_reducible rfl)
       try simp only [Act.put, lA, lB, lC, lD, lE, lF]
       refine wpAnyH_take (i := 26) (oi := _) (v := ?v26) rfl (by kernel_rfl) (by kernel_rfl) (by kernel_rfl) (fun _ _ _ h => h) (Or.inl ⟨by rfl, ?hy⟩) hHeld ?_
       case hy => (intro w hSw; (try dsimp only at hSw); go_simp; try with_reducible rfl)
       try simp only [Act.put, lA, lB, lC, lD, lE, lF]
       refine wpAnyH_take (i := 27) (oi := _) (v := ?v27) rfl (by kernel_rfl) (by kernel_rfl) (by kernel_rfl) (fun _ _ _ h => h) (Or.inl ⟨by rfl, ?hy⟩) hHeld ?_
       case hy => (intro w hSw; (try dsimp only at hSw); go_simp; try with_reducible rfl)
       try simp only [Act.put, lA, lB, lC, lD, lE, lF]
       refine wpAnyH_take (i := 28) (oi := _) (v := ?v28) rfl (by kernel_rfl) (by kernel_rfl) (by kernel_rfl) (fun _ _ _ h => h) (Or.inl ⟨by rfl, ?hy⟩) hHeld ?_
       case hy => (intro w hSw; (try dsimp only at hSw); go_simp; try with_reducible rfl)
       try simp only [Act.put, lA, lB, lC, lD, lE, lF]
       refine wpAnyH_take (i := 29) (oi := _) (v := ?v29) rfl (by kernel_rfl) (by kernel_rfl) (by kernel_rfl) (fun _ _ _ h => h) (Or.inl ⟨by rfl, ?hy⟩) hHeld ?_
       case hy => (intro w hSw; (try dsimp only at hSw); go_simp; try with_reducible rfl)
       try simp only [Act.put, lA, lB, lC, lD, lE, lF]
       refine wpAnyH_take (i := 30) (oi := _) (v := ?v30) rfl (by kernel_rfl) (by kernel_rfl) (by kernel_rfl) (fun _ _ _ h => h) (Or.inl ⟨by rfl, ?hy⟩) hHeld ?_
       case hy => (intro w hSw; (try dsimp only at hSw); go_simp; try with_reducible rfl)
       try simp only [Act.put, lA, lB, lC, lD, lE, lF]
       refine wpAnyH_take (i := 31) (oi := _) (v := ?v31) rfl (by kernel_rfl) (by kernel_rfl) (by kernel_rfl) (fun _ _ _ h => h) (Or.inl ⟨by rfl, ?hy⟩) hHeld ?_
       case hy => (intro w hSw; (try dsimp only at hSw); go_simp; try with_reducible rfl)
       try simp only [Act.put, lA, lB, lC, lD, lE, lF]
       refine wpAnyH_take (i := 32) (oi := _) (v := ?v32) rfl (by kernel_rfl) (by kernel_rfl) (by kernel_rfl) (fun _ _ _ h => h) (Or.inl ⟨by rfl, ?hy⟩) hHeld ?_
       case hy => (intro w hSw; (try dsimp only at hSw); go_simp; try with_reducible rfl)
       try simp only [Act.put, lA, lB, lC, lD, lE, lF]
       refine wpAnyH_take (i := 33) (oi := _) (v := ?v33) rfl (by kernel_rfl) (by kernel_rfl) (by kernel_rfl) (fun _ _ _ h => h) (Or.inl ⟨by rfl, ?hy⟩) hHeld ?_
       case hy => (intro w hSw; (try dsimp only at hSw); go_simp; try with_reducible rfl)
       try simp only [Act.put, lA, lB, lC, lD, lE, lF]
       refine wpAnyH_take (i := 34) (oi := _) (v := ?v34) rfl (by kernel_rfl) (by kernel_rfl) (by kernel_rfl) (fun _ _ _ h => h) (Or.inl ⟨by rfl, ?hy⟩) hHeld ?_
       case hy => (intro w hSw; (try dsimp only at hSw); go_simp; try with_reducible rfl)
       try simp only [Act.put, lA, lB, lC, lD, lE, lF]
       refine wpAnyH_ready (rs := [15]) (by kernel_rfl) (by simp) ?_
       refine AllReadyH.cons (o := _) rfl (fun K hK => ?_) AllReadyH.nil
       (try simp only [lA, lB, lC])
       go_simp
       refine hK.out _ _ ?hs1 (fun hHeld => ?_)
       case hs1 => exact ⟨d2, d3, e0, e1⟩
       clear hK K
       try simp only [Act.put, lA, lB, lC, lD, lE, lF]
       refine wpAnyH_take (i := 35) (oi := _) (v := ?v35) rfl (by kernel_rfl) (by kernel_rfl) (by kernel_rfl) (fun _ _ _ h => h) (Or.inl ⟨by rfl, ?hy⟩) hHeld ?_
       case hy => (intro w hSw; (try dsimp only at hSw); go_simp; try with_reducible rfl)
       try simp only [Act.put, lA, lB, lC, lD, lE, lF]
       refine wpAnyH_take (i := 36) (oi := _) (v := ?v36) rfl (by kernel_rfl) (by kernel_rfl) (by kernel_rfl) (fun _ _ _ h => h) (Or.inl ⟨by rfl, ?hy⟩) hHeld ?_
       case hy => (intro w hSw; (try dsimp only at hSw); go_simp; try with_reducible rfl)
       try simp only [Act.put, lA, lB, lC, lD, lE, lF]
       refine wpAnyH_ready (rs := [37]) (by kernel_rfl) (by simp) ?_
       refine AllReadyH.cons (o := _) rfl (fun K hK => ?_) AllReadyH.nil
       (try simp only [lA, lB, lC])
       go_simp
       refine hK.out _ _ ?hs4 (fun hHeld => ?_)
       case hs4 =>
        have n1 : g ≠ w.heap.size := by omega
        have n2 : g ≠ b := by omega
        have n3 : g ≠ b2 := by omega
        exact ⟨(World.cell?_setCell_far _ _ _ _ n1).trans d2, (World.cell?_setCell_far _ _ _ _ n1).trans d3, (World.cell?_setCell_far _ _ _ _ n2).trans e0, (World.cell?_setCell_far _ _ _ _ n3).trans e1⟩
       clear hK K
       try simp only [Act.put, lA, lB, lC, lD, lE, lF]
       refine wpAnyH_done (by kernel_rfl) ?_ _
       clear hHeld
       have hfar : ∀ (p : Addr) v, p.block ≠ g -> wt.cell? p = some v -> ((wt.setCell ⟨g, x0, none⟩ (.int .u64 (IntKind.u64.wrap (dd + IntKind.u64.wrap (z * zb))))).drew).cell? p = some v := fun p v hp h => (World.cell?_setCell_far wt ⟨g, x0, none⟩ p _ (by show g ≠ p.block; exact fun e => hp e.symm)).trans h
       have HF : Hid _ := And.intro (hfar _ _ (by show w.heap.size ≠ g; omega) d1) (And.intro (hfar _ _ (by show w.heap.size ≠ g; omega) d2) (hfar _ _ (by show w.heap.size ≠ g; omega) d3))
       clear hfar
       go_wp2
       go_roundw
       case rel => exact ⟨q + 1, _, by omega, by go_num, HPn.out, World.ownsRow.drew (by rw [List.map_set]; exact (HO.out.stored x0 _).1), Ext.drew (Ext.setCell HX.out (by show w.heap.size <= g; omega) _), HF.out⟩
       case measure => simp [intOf]; omega
      ·obtain rfl : q = k := by omega
       go_wp2
       go_roundw
       case rel => exact ⟨j + 1, D, by omega, by go_num, by have h := HP.out.next; rw [<- HX0.out] at h; exact h, HO.out, HX.out, d1, d2, d3⟩
       case measure => simp [intOf]; omega
    ·obtain rfl : j = n := by omega
     go_wp2
     go_roundw
     case rel => exact ⟨i + 1, D, by omega, by go_num, by rw [Nat.add_mul, Nat.one_mul]; exact HP.out, HO.out, HX.out, d1, d2, d3⟩
     case measure => simp [intOf]; omega
  ·obtain rfl : i = m := by omega
   go_wp2
   go_ret
   exact ⟨g, rfl, by have hp := HP.out; rw [HMN.out] at hp; rw [<- hp.done]; exact owns_base HO.out (by omega), HX.out⟩
theorem refProduct_c {kd m k n : Nat} {s : Sh} (hc : ofCls kd m k n s) (hs : s.ok) (b off cap b2 off2 cap2 la lb : Nat) (A B : List Int) (hla : la = s.x) (hlb : lb = s.y) (hA : A.length = la) (hB : B.length = lb) (w : World) (hz : WordsAt w b off A) (hy : WordsAt w b2 off2 B) :
  Calls Tryz.prog 190 #[clsV kd m k n, .slice (some ⟨b, off, none⟩) la cap, .slice (some ⟨b2, off2, none⟩) lb cap2] w fun e w' => ∃ g, e = .returned (.slice (some ⟨g, 0, none⟩) s.z s.z) /\ w'.ownsRow w.heap.size 146 1 (.slice (some ⟨g, 0, none⟩) s.z s.z) s.z ((mulN s A B s.p).map (Value.int .u64)) /\ Ext w w' := by
 rcases hc with ⟨rfl, rfl, rfl, rfl⟩ | ⟨hk, rfl⟩
 ·simp only [Sh.x, Sh.y, Sh.z, Nat.mul_one] at *
  obtain ⟨h1, h2, _⟩ := hs
  simp only at h1 h2
  rw [hla] at hA ⊢
  rw [hlb] at hB ⊢
  rw [<- prodB_mul h1 h2 A B hA hB]
  exact refProductB_c m h1 h2 b off cap b2 off2 cap2 A B hA hB w hz hy
 ·have hs' := hs
  have hc' : ofCls kd m k n ⟨false, 1, m, k, n⟩ := .inr ⟨hk, rfl⟩
  simp only [Sh.x, Sh.y, Sh.z, Nat.one_mul] at *
  obtain ⟨_, _, h3, h4, h5, h6, h7, h8, _⟩ := hs
  simp only at h3 h4 h5 h6 h7 h8
  rw [<- prodW_mul h3 h4 h7 h8 A B (hA.trans hla) (hB.trans hlb)]
  exact refProductW_c kd m k n (by omega) h3 h4 h5 h6 h7 h8 _ hc' hs' b off cap b2 off2 cap2 la lb A B hA hB hla hlb w hz hy
end
-- HSh
section
set_option maxRecDepth 100000
set_option maxHeartbeats 1600000
open Go.RowKit Go.Maps
/-- The shares of a party, half reckoned. -/
def MinAt (bt : Bool) (W P : List Int) (L i : Nat) (D : List Int) : Prop := D.length = L /\ (∀ j, j < i -> D.getD j 0 = minusN bt (W.getD j 0) (P.getD j 0)) /\ ∀ j, i <= j -> D.getD j 0 = W.getD j 0
theorem MinAt.start {bt : Bool} {W P : List Int} {L : Nat} (h : W.length = L) : MinAt bt W P L 0 W := ⟨h, fun _j hj => absurd hj (Nat.not_lt_zero _), fun _ _ => rfl⟩
theorem MinAt.step {bt : Bool} {W P : List Int} {L i : Nat} {D : List Int} (h : MinAt bt W P L i D) (hi : i < L) : MinAt bt W P L (i + 1) (D.set i (minusN bt (D.getD i 0) (P.getD i 0))) := by
 obtain ⟨h1, h2, h3⟩ := h
 have hne : ∀ j v, j ≠ i -> (D.set i v).getD j 0 = D.getD j 0 := fun j v hj => by
  simp [List.getD_eq_getElem?_getD, Ne.symm hj]
 refine ⟨by simp [h1], fun j hj => ?_, fun j hj => ?_⟩
 ·by_cases hji : j = i
  ·subst hji
   rw [h3 j (Nat.le_refl _)]
   simp [List.getD_eq_getElem?_getD, h1, hi]
  ·rw [hne _ _ hji, h2 j (by omega)]
 ·rw [hne _ _ (by omega), h3 j (by omega)]
theorem MinAt.done {bt : Bool} {W P : List Int} {L : Nat} {D : List Int} (hW : W.length = L) (hP : P.length = L) (h : MinAt bt W P L L D) : D = List.zipWith (minusN bt) W P := by
 obtain ⟨h1, h2, _⟩ := h
 apply List.ext_getElem (by simp [h1, hW, hP])
 intro j hj1 hj2
 have := h2 j (by omega)
 rw [List.getD_eq_getElem?_getD, List.getElem?_eq_getElem hj1, Option.getD_some] at this
 rw [this]
 simp [List.getD_eq_getElem?_getD, List.getElem?_eq_getElem (show j < W.length by omega), List.getElem?_eq_getElem (show j < P.length by omega)]
theorem refShares0_c {kd m k n : Nat} {s : Sh} (hc : ofCls kd m k n s) (hs : s.ok) (b off cap len : Nat) (D : List Int) (hl : D.length = len) (hlen : len = s.x + s.y + (s.x + s.y + s.z)) (hcap : len <= cap) (w : World) (hz : WordsAt w b off D) :
  Calls Tryz.prog 189 #[clsV kd m k n, .slice (some ⟨b, off, none⟩) len cap, .int .i64 0] w fun e w' => ∃ g cp, e = .returned (.slice (some ⟨g, 0, none⟩) (s.x + s.y + s.z) cp) /\ w'.ownsRow w.heap.size 146 1 (.slice (some ⟨g, 0, none⟩) (s.x + s.y + s.z) cp) (s.x + s.y + s.z) ((part0 s D).map (Value.int .u64)) /\ Ext w w' := by
 obtain ⟨i0, hi, hq0, hq1, hq2⟩ := info_parts infoU64
 have hle := Sh.le hs
 have HS : Hid _ := refSizes_c hc hs
 have HP0 : Hid (part0 s D = D.drop (s.x + s.y)) := rfl
 have HZ : Hid (WordsAt w b off D) := hz
 have HD : Hid (D.length = len) := hl
 clear hl hz hs hc
 subst hlen
 generalize s.x = x at *
 generalize s.y = y at *
 generalize s.z = z at *
 unfold clsV at *
 go_enter Tryz.func189, Tryz.ntmps189
 go_wp2_with fail
 refine (HS.out _).mono ?_
 rintro e w1 ⟨rfl, hx1⟩
 have HX1 : Hid (Ext w w1) := ((Ext.refl w).alloc _).trans hx1
 have hle1 := HX1.out.le
 clear hx1
 have v1 : IntKind.i64.wrap ((x : Int) + (y : Int)) = ((x + y : Nat) : Int) := by rw [show (x : Int) + y = ((x + y : Nat) : Int) by omega]; exact wrap_small (by omega)
 have t1 : ∀ W, (Instr.slice 31 (.slice (some ⟨b, off, none⟩) (x + y + (x + y + z)) cap) (some (.int .i64 ((x + y : Nat) : Int))) none none).run Tryz.prog W = .ok (.slice (some ⟨b, off + (x + y), none⟩) (x + y + z) (cap - (x + y))) W := fun W => by
  rw [slice_l b off _ cap (x + y) (by omega) hcap, show x + y + (x + y + z) - (x + y) = x + y + z by omega]
 have t3 : ∀ W, (Instr.slice 31 (.slice (some ⟨b, off, none⟩) (x + y + (x + y + z)) cap) none (some (.int .i64 (x : Int))) none).run Tryz.prog W = .ok (.slice (some ⟨b, off, none⟩) x cap) W := fun W => slice_h b off _ cap x (by omega) (by omega) W
 have t4 : ∀ W, (Instr.slice 31 (.slice (some ⟨b, off, none⟩) (x + y + (x + y + z)) cap) (some (.int .i64 (x : Int))) (some (.int .i64 ((x + y : Nat) : Int))) none).run Tryz.prog W = .ok (.slice (some ⟨b, off + x, none⟩) y (cap - x)) W := fun W => by
  rw [slice_lh b off _ cap x (x + y) (by omega) (by omega), show x + y - x = y by omega]
 generalize hxy : x + y = xy at *
 have HXY : Hid (x + y = xy) := hxy
 clear hxy
 generalize hxz : xy + z = xyz at *
 have HXZ : Hid (xy + z = xyz) := hxz
 clear hxz
 go_wp2_with (at_builtin; refine wpList_append_lies _ rfl _ _ 31 rfl w.heap.size 146 i0 _ 1 8 Tryz.underlying31 hi hq0 hq1 hq2 rfl (by decide) _ 0 [] rfl (World.ownsRow_nil _ _ _ _) ⟨b, off + xy, none⟩ xyz (cap - xy) ((part0 s D).map (Value.int .u64)) rfl ?c1 ?c2 (words_one _) ?c3 ?c4 ?c5 ?c6 _ rfl ?_)
 case c1 => rw [List.length_map, HP0.out, List.length_drop, HD.out]; omega
 case c2 => rw [HP0.out]; exact WordsAt.cells ((HZ.out.drop xy).ext HX1.out)
 case c3 => have := HXZ.out; have := HXY.out; omega
 case c4 => have := HXZ.out; have := HXY.out; unfold maxLen; omega
 case c5 => have := HXZ.out; have := HXY.out; omega
 case c6 => exact hle1
 intro g cp w2 hown hgrow hat hlt
 have HF : Hid (w2.ownsRow w.heap.size 146 1 (.slice (some ⟨g, 0, none⟩) xyz cp) xyz ((part0 s D).map (Value.int .u64)) /\ Ext w w2) := ⟨by simpa using hown, HX1.out.trans (Ext.grown (Ext.refl w1) hgrow (by simp [lH]))⟩
 have hzz : 0 + xyz = xyz := Nat.zero_add _
 clear hown hgrow hat
 go_wp2
 go_ret
 exact ⟨g, cp, by rw [HXY.out, HXZ.out]; simp, by rw [HXY.out, HXZ.out]; exact HF.out.1, HF.out.2⟩
theorem refShares1_c {kd m k n : Nat} {s : Sh} (hc : ofCls kd m k n s) (hs : s.ok) (b off cap len : Nat) (D : List Int) (hl : D.length = len) (hlen : len = s.x + s.y + (s.x + s.y + s.z)) (hcap : len <= cap) (w : World) (hz : WordsAt w b off D) :
  Calls Tryz.prog 189 #[clsV kd m k n, .slice (some ⟨b, off, none⟩) len cap, .int .i64 1] w fun e w' => ∃ g cp, e = .returned (.slice (some ⟨g, 0, none⟩) (s.x + s.y + s.z) cp) /\ w'.ownsRow w.heap.size 146 1 (.slice (some ⟨g, 0, none⟩) (s.x + s.y + s.z) cp) (s.x + s.y + s.z) ((part1 s D).map (Value.int .u64)) /\ Ext w w' := by
 obtain ⟨i0, hi, hq0, hq1, hq2⟩ := info_parts infoU64
 have hle := Sh.le hs
 have HS : Hid _ := refSizes_c hc hs
 have HPd : Hid (∀ w', Ext w w' -> Calls Tryz.prog 190 #[clsV kd m k n, .slice (some ⟨b, off, none⟩) s.x cap, .slice (some ⟨b, off + s.x, none⟩) s.y (cap - s.x)] w' fun e w'' => ∃ g, e = .returned (.slice (some ⟨g, 0, none⟩) s.z s.z) /\ w''.ownsRow w'.heap.size 146 1 (.slice (some ⟨g, 0, none⟩) s.z s.z) s.z ((mulN s (D.take s.x) ((D.drop s.x).take s.y) s.p).map (Value.int .u64)) /\ Ext w' w'') := fun w' hx =>
  refProduct_c hc hs b off cap b (off + s.x) (cap - s.x) s.x s.y (D.take s.x) ((D.drop s.x).take s.y) rfl rfl (by rw [List.length_take]; omega) (by rw [List.length_take, List.length_drop]; omega) w' ((hz.take _).ext hx) (((hz.drop _).take _).ext hx)
 have HP0 : Hid (part0 s D = D.drop (s.x + s.y)) := rfl
 have HP1 : Hid (part1 s D = List.zipWith (minusN s.bt) (wholeN s D) (part0 s D)) := rfl
 have HW : Hid (wholeN s D = (D.take s.x ++ (D.drop s.x).take s.y) ++ mulN s (D.take s.x) ((D.drop s.x).take s.y) s.p) := by
  show wholeN s D = _
  rw [wholeN, List.take_add]
 have HML : Hid ((mulN s (D.take s.x) ((D.drop s.x).take s.y) s.p).length = s.z) := by
  show _ = _
  rw [mul_len]; exact (Nat.mul_assoc _ _ _).symm
 have HWL : Hid ((wholeN s D).length = s.x + s.y + s.z) := whole_len s D (hl.trans hlen)
 have HZ : Hid (WordsAt w b off D) := hz
 have HD : Hid (D.length = len) := hl
 have hkd : s.bt = decide ((kd : Int) = 2) := by
  rcases hc with ⟨rfl, rfl, _⟩ | ⟨h, rfl⟩
  ·rfl
  ·simp; omega
 clear hl hz hs hc
 subst hlen
 generalize s.x = x at *
 generalize s.y = y at *
 generalize s.z = z at *
 unfold clsV at *
 go_enter Tryz.func189, Tryz.ntmps189
 go_wp2_with fail
 refine (HS.out _).mono ?_
 rintro e w1 ⟨rfl, hx1⟩
 obtain ⟨d0, d1, d2, d3⟩ := four_in hx1
 have HX1 : Hid (Ext w w1) := ((Ext.refl w).alloc _).trans hx1
 have hlt1 := four_lt hx1
 clear hx1
 have v1 : IntKind.i64.wrap ((x : Int) + (y : Int)) = ((x + y : Nat) : Int) := by rw [show (x : Int) + y = ((x + y : Nat) : Int) by omega]; exact wrap_small (by omega)
 have v2 : IntKind.i64.wrap (((x + y : Nat) : Int) + (z : Int)) = ((x + y + z : Nat) : Int) := by rw [show ((x + y : Nat) : Int) + (z : Int) = ((x + y + z : Nat) : Int) by omega]; exact wrap_small (by omega)
 have t1 : ∀ W, (Instr.slice 31 (.slice (some ⟨b, off, none⟩) (x + y + (x + y + z)) cap) (some (.int .i64 ((x + y : Nat) : Int))) none none).run Tryz.prog W = .ok (.slice (some ⟨b, off + (x + y), none⟩) (x + y + z) (cap - (x + y))) W := fun W => by
  rw [slice_l b off _ cap (x + y) (by omega) hcap, show x + y + (x + y + z) - (x + y) = x + y + z by omega]
 have t3 : ∀ W, (Instr.slice 31 (.slice (some ⟨b, off, none⟩) (x + y + (x + y + z)) cap) none (some (.int .i64 (x : Int))) none).run Tryz.prog W = .ok (.slice (some ⟨b, off, none⟩) x cap) W := fun W => slice_h b off _ cap x (by omega) (by omega) W
 have t4 : ∀ W, (Instr.slice 31 (.slice (some ⟨b, off, none⟩) (x + y + (x + y + z)) cap) (some (.int .i64 (x : Int))) (some (.int .i64 ((x + y : Nat) : Int))) none).run Tryz.prog W = .ok (.slice (some ⟨b, off + x, none⟩) y (cap - x)) W := fun W => by
  rw [slice_lh b off _ cap x (x + y) (by omega) (by omega), show x + y - x = y by omega]
 generalize hxy : x + y = xy at *
 have HXY : Hid (x + y = xy) := hxy
 clear hxy
 generalize hxz : xy + z = xyz at *
 have HXZ : Hid (xy + z = xyz) := hxz
 clear hxz
 have HB1 : Hid (xy + xyz <= cap /\ xyz <= 27 /\ xyz <= cap - xy) := ⟨by omega, by have := HXZ.out; have := HXY.out; omega, by omega⟩
 clear hcap
 go_wp2_with fail
 refine (HPd.out _ HX1.out).mono ?_
 rintro e w2 ⟨pg, rfl, hp2, hx2⟩
 have HP2 : Hid _ := hp2
 have HX2 : Hid (Ext w w2) := HX1.out.trans hx2
 have d0 := hx2.cell d0
 have hle2 := HX2.out.le
 have hle12 := hx2.le
 clear hp2 hx2 d1 d2 d3
 obtain ⟨XA, hXA⟩ : ∃ XA, (D.take x).map (Value.int .u64) = XA := ⟨_, rfl⟩
 obtain ⟨XB, hXB⟩ : ∃ XB, ((D.drop x).take y).map (Value.int .u64) = XB := ⟨_, rfl⟩
 obtain ⟨XC, hXC⟩ : ∃ XC, (mulN s (D.take x) ((D.drop x).take y) s.p).map (Value.int .u64) = XC := ⟨_, rfl⟩
 have HXA : Hid (XA.length = x /\ (∀ u ∈ XA, u.oneCell' = true) /\ ∀ w', Ext w w' -> ∀ j u, XA[j]? = some u -> w'.cell? ((⟨b, off, none⟩ : Addr).add j) = some u) := by
  subst hXA
  exact ⟨by rw [List.length_map, List.length_take, HD.out]; have := HXY.out; omega, words_one _, fun w' hx => WordsAt.cells ((HZ.out.take x).ext hx)⟩
 have HXB : Hid (XB.length = y /\ (∀ u ∈ XB, u.oneCell' = true) /\ ∀ w', Ext w w' -> ∀ j u, XB[j]? = some u -> w'.cell? ((⟨b, off + x, none⟩ : Addr).add j) = some u) := by
  subst hXB
  exact ⟨by rw [List.length_map, List.length_take, List.length_drop, HD.out]; have := HXY.out; omega, words_one _, fun w' hx => WordsAt.cells (((HZ.out.drop x).take y).ext hx)⟩
 have HXC : Hid (XC.length = z /\ (∀ u ∈ XC, u.oneCell' = true) /\ ∀ w', Ext w2 w' -> ∀ j u, XC[j]? = some u -> w'.cell? ((⟨pg, 0, none⟩ : Addr).add j) = some u) := by
  subst hXC
  exact ⟨by rw [List.length_map, HML.out], words_one _, fun w' hx => WordsAt.cells ((owns_words HP2.out).ext hx)⟩
 have HWM : Hid ((wholeN s D).map (Value.int .u64) = (XA ++ XB) ++ XC) := by
  show _ = _
  rw [HW.out, List.map_append, List.map_append, hXA, hXB, hXC]
 clear hXA hXB hXC
 go_wp2_with (at_builtin; refine wpList_append_lies _ rfl _ _ 31 rfl w2.heap.size 146 i0 _ 1 8 Tryz.underlying31 hi hq0 hq1 hq2 rfl (by decide) _ 0 [] rfl (World.ownsRow_nil _ _ _ _) ⟨b, off, none⟩ x cap XA rfl ?c1 ?c2 HXA.out.2.1 ?c3 ?c4 ?c5 (Nat.le_refl _) _ rfl ?_)
 case c1 => rw [HXA.out.1]; omega
 case c2 => exact HXA.out.2.2 _ HX2.out
 case c3 => omega
 case c4 => unfold maxLen; omega
 case c5 => omega
 intro g3 c3 w3 hown3 hgrow3 hat3 hlt3
 have hx3 : Ext w2 w3 := Ext.grown (Ext.refl w2) hgrow3 (by simp [lH])
 have HO3 : Hid (w3.ownsRow w2.heap.size 146 1 (.slice (some ⟨g3, 0, none⟩) x c3) x XA) := (by show World.ownsRow _ _ _ _ _ _ _; simpa using hown3)
 have HX3 : Hid (Ext w w3) := HX2.out.trans hx3
 have HX23 : Hid (Ext w2 w3) := hx3
 have d0 := hx3.cell d0
 clear hown3 hgrow3 hat3 hx3
 go_wp2_with (at_builtin; refine wpList_append_lies _ rfl _ _ 31 rfl w2.heap.size 146 i0 _ 1 8 Tryz.underlying31 hi hq0 hq1 hq2 rfl (by decide) _ x XA rfl HO3.out ⟨b, off + x, none⟩ y (cap - x) XB rfl ?c1 ?c2 HXB.out.2.1 ?c3 ?c4 ?c5 ?c6 _ rfl ?_)
 case c1 => rw [HXB.out.1]; omega
 case c2 => exact HXB.out.2.2 _ HX3.out
 case c3 => omega
 case c4 => unfold maxLen; omega
 case c5 => omega
 case c6 => exact HX23.out.le
 intro g4 c4 w4 hown4 hgrow4 hat4 hlt4
 have hx4 : Ext w2 w4 := Ext.grown HX23.out hgrow4 (fun q hq => (World.ownsRow.lt HO3.out q hq).1)
 have HO4 : Hid (w4.ownsRow w2.heap.size 146 1 (.slice (some ⟨g4, 0, none⟩) (x + y) c4) (x + y) (XA ++ XB)) := (by show World.ownsRow _ _ _ _ _ _ _; simpa using hown4)
 have HX24 : Hid (Ext w2 w4) := hx4
 have d0 : w4.cell? ⟨w.heap.size, 0, none⟩ = some (.int .i64 (kd : Int)) := (Turn.grown (S := fun q => lH (.slice (some ⟨g3, 0, none⟩) x c3) = some q) (Turn.refl _ w3) hgrow4 (fun q hq _ => hq)).cell d0 (fun e => by have := (World.ownsRow.lt HO3.out _ e).1; simp only at this; omega)
 clear hown4 hgrow4 hat4 hx4
 go_wp2_with (at_builtin; refine wpList_append_lies _ rfl _ _ 31 rfl w2.heap.size 146 i0 _ 1 8 Tryz.underlying31 hi hq0 hq1 hq2 rfl (by decide) _ (x + y) (XA ++ XB) rfl HO4.out ⟨pg, 0, none⟩ z z XC rfl ?c1 ?c2 HXC.out.2.1 ?c3 ?c4 ?c5 ?c6 _ rfl ?_)
 case c1 => rw [HXC.out.1]; omega
 case c2 => exact HXC.out.2.2 _ HX24.out
 case c3 => omega
 case c4 => unfold maxLen; omega
 case c5 => omega
 case c6 => exact HX24.out.le
 intro g5 c5 w5 hown5 hgrow5 hat5 hlt5
 have hx5 : Ext w2 w5 := Ext.grown HX24.out hgrow5 (fun q hq => (World.ownsRow.lt HO4.out q hq).1)
 have hxe : x + y + z = xyz := by have := HXZ.out; have := HXY.out; omega
 have HO5 : Hid (w5.ownsRow w2.heap.size 146 1 (.slice (some ⟨g5, 0, none⟩) xyz c5) xyz ((wholeN s D).map (Value.int .u64))) := by
  rw [HWM.out]
  rw [hxe] at hown5
  show World.ownsRow _ _ _ _ _ _ _
  simpa using hown5
 have HX5 : Hid (Ext w w5) := HX2.out.trans hx5
 have d0 : w5.cell? ⟨w.heap.size, 0, none⟩ = some (.int .i64 (kd : Int)) := (Turn.grown (S := fun q => lH (.slice (some ⟨g4, 0, none⟩) (x + y) c4) = some q) (Turn.refl _ w4) hgrow5 (fun q hq _ => hq)).cell d0 (fun e => by have := (World.ownsRow.lt HO4.out _ e).1; simp only at this; omega)
 have HD0 : Hid _ := d0
 have hg5w : w2.heap.size <= g5 := (World.ownsRow.lt HO5.out g5 rfl).1
 clear hown5 hgrow5 hat5 hx5 d0 hlt5 hlt4 hlt3
 rw [hxe]
 clear hxe
 have hgw : w.heap.size < g5 := by omega
 have HCT : Hid (WordsAt w b (off + xy) (part0 s D) /\ (part0 s D).length = xyz) := ⟨by rw [HP0.out]; exact HZ.out.drop xy, by rw [HP0.out, List.length_drop, HD.out]; omega⟩
 have hb27 : xyz <= 27 := HB1.out.2.1
 go_wp2_with fail
 go_loopw [15] (fun i wr => ∃ (j : Nat) (E : List Int), j <= xyz /\ i = .int .i64 j /\ MinAt s.bt (wholeN s D) (part0 s D) xyz j E /\ wr.ownsRow g5 146 1 (.slice (some ⟨g5, 0, none⟩) xyz c5) xyz (E.map (Value.int .u64)) /\ Ext w wr /\ wr.cell? ⟨w.heap.size, 0, none⟩ = some (.int .i64 (kd : Int))) (fun i _ => xyz - (intOf i).toNat)
 case atStart =>
  refine ⟨0, wholeN s D, Nat.zero_le _, rfl, MinAt.start (by rw [HWL.out]), ?_, HX5.out, HD0.out⟩
  rcases HO5.out with ⟨q1, ⟨q2, _⟩ | ⟨g', cap', cur, q2, q3, r⟩⟩
  ·simp at q2
  ·simp only [Value.slice.injEq, Option.some.injEq, Addr.mk.injEq, and_true, true_and] at q2
   exact ⟨q1, .inr ⟨g', cap', cur, by simp [q2], by omega, r⟩⟩
 case round =>
  obtain ⟨j, E, hj, rfl, hP, ho, hx, d0⟩ := hrel
  have HP : Hid (MinAt s.bt (wholeN s D) (part0 s D) xyz j E) := hP
  have HO : Hid (wr.ownsRow g5 146 1 (.slice (some ⟨g5, 0, none⟩) xyz c5) xyz (E.map (Value.int .u64))) := ho
  have HX : Hid (Ext w wr) := hx
  clear hP ho hx
  by_cases hlt : j < xyz
  ·have hk0 : (0 : Int) <= (j : Int) := by omega
   have hk1 : (j : Int) < xyz := by omega
   have e0 := HX.out.cell (HCT.out.1 j (by rw [HCT.out.2]; exact hlt))
   have hbw := lG w _ (HCT.out.1 j (by rw [HCT.out.2]; exact hlt))
   have c0 : wr.cell? ⟨g5, j, none⟩ = some (.int .u64 (E.getD j 0)) := by
    have := owns_words HO.out j (by rw [HP.out.1]; exact hlt)
    simpa using this
   have f0 : wr.frozen? ⟨g5, j, none⟩ = false := HO.out.frozenAt j
   have HPn : Hid _ := HP.out.step hlt
   generalize (part0 s D).getD j 0 = zp at *
   generalize hdd : E.getD j 0 = dd at *
   clear hdd
   by_cases hk2 : (kd : Int) = 2
   ·have hbt : s.bt = true := by rw [hkd]; exact decide_eq_true hk2
    have HPn2 : Hid (MinAt s.bt (wholeN s D) (part0 s D) xyz (j + 1) (E.set j (bits .xor .u64 dd zp))) := by
     have := HPn.out
     rw [show minusN s.bt dd zp = bits .xor .u64 dd zp by rw [hbt]; rfl] at this
     exact this
    clear hbt HPn
    rw [hk2] at d0
    have HK2 : Hid ((kd : Int) = 2) := hk2
    clear hk2
    go_wp2
    go_region
    have HF : Hid (((wr.setCell ⟨g5, j, none⟩ (.int .u64 (bits .xor .u64 dd zp))).drew).cell? ⟨w.heap.size, 0, none⟩ = some (.int .i64 (kd : Int))) := (World.cell?_setCell_far wr ⟨g5, j, none⟩ ⟨w.heap.size, 0, none⟩ _ (by show g5 ≠ w.heap.size; omega)).trans (by rw [HK2.out]; exact d0)
    go_wp2
    go_roundw
    case rel => exact ⟨j + 1, _, by omega, by go_num, HPn2.out, World.ownsRow.drew (by rw [List.map_set]; exact (HO.out.stored j _).1), Ext.drew (Ext.setCell HX.out (by show w.heap.size <= g5; omega) _), HF.out⟩
    case measure => simp [intOf]; omega
   ·have hbt : s.bt = false := by rw [hkd]; exact decide_eq_false hk2
    have HPn2 : Hid (MinAt s.bt (wholeN s D) (part0 s D) xyz (j + 1) (E.set j (IntKind.u64.wrap (dd - zp)))) := by
     have := HPn.out
     rw [show minusN s.bt dd zp = IntKind.u64.wrap (dd - zp) by rw [hbt]; rfl] at this
     exact this
    clear hbt HPn
    go_wp2
    go_region
    have HF : Hid (((wr.setCell ⟨g5, j, none⟩ (.int .u64 (IntKind.u64.wrap (dd - zp)))).drew).cell? ⟨w.heap.size, 0, none⟩ = some (.int .i64 (kd : Int))) := (World.cell?_setCell_far wr ⟨g5, j, none⟩ ⟨w.heap.size, 0, none⟩ _ (by show g5 ≠ w.heap.size; omega)).trans d0
    go_wp2
    go_roundw
    case rel => exact ⟨j + 1, _, by omega, by go_num, HPn2.out, World.ownsRow.drew (by rw [List.map_set]; exact (HO.out.stored j _).1), Ext.drew (Ext.setCell HX.out (by show w.heap.size <= g5; omega) _), HF.out⟩
    case measure => simp [intOf]; omega
  ·obtain rfl : j = xyz := by omega
   go_wp2
   go_ret
   exact ⟨g5, c5, by rw [HXY.out, HXZ.out]; simp, by rw [HXY.out, HXZ.out, HP1.out, <- HP.out.done (by rw [HWL.out]) HCT.out.2]; exact owns_base HO.out (by omega), HX.out⟩
end
end Go.Proofs.YtmnjhhachdlmkaaGreat
