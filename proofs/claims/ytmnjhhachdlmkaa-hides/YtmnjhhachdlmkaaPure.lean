import Derived.Test.YtmnjhhachdlmkaaLaw3
namespace Go.Proofs.Ytmnjhhachdlmkaa

section
open Go.RowKit

/-- The product of two rows of bits. -/
def prodB (A B : List Int) : List Int := List.zipWith (bits .and .u64) A B

def AndAt (A B : List Int) (M i : Nat) (D : List Int) : Prop := D.length = M ∧ ∀ j, j < i → D.getD j 0 = bits .and .u64 (A.getD j 0) (B.getD j 0)

theorem AndAt.step {A B : List Int} {M i : Nat} {D : List Int} (h : AndAt A B M i D) (hi : i < M) : AndAt A B M (i + 1) (D.set i (bits .and .u64 (A.getD i 0) (B.getD i 0))) := by
  obtain ⟨h1, h2⟩ := h
  refine ⟨by simp [h1], fun j hj => ?_⟩
  by_cases hji : j = i
  · subst hji
    simp [List.getD_eq_getElem?_getD, h1, hi]
  · rw [← h2 j (by omega)]
    simp [List.getD_eq_getElem?_getD, Ne.symm hji]

theorem AndAt.done {A B : List Int} {M : Nat} {D : List Int} (hA : A.length = M) (hB : B.length = M) (h : AndAt A B M M D) : D = prodB A B := by
  obtain ⟨h1, h2⟩ := h
  apply List.ext_getElem (by simp [prodB, h1, hA, hB])
  intro j hj1 hj2
  have := h2 j (by omega)
  rw [List.getD_eq_getElem?_getD, List.getElem?_eq_getElem hj1, Option.getD_some] at this
  rw [this]
  simp [prodB, List.getD_eq_getElem?_getD, List.getElem?_eq_getElem (show j < A.length by omega), List.getElem?_eq_getElem (show j < B.length by omega)]

set_option maxRecDepth 100000 in
set_option maxHeartbeats 1600000 in
theorem productB_c (M : Nat) (hm1 : 1 ≤ M) (hm : M ≤ 3) (b off cap b2 off2 cap2 : Nat) (A B : List Int) (hA : A.length = M) (hB : B.length = M) (w : World) (hz : WordsAt w b off A) (hy : WordsAt w b2 off2 B) :
    Calls Try.prog 18 #[clsV 2 M 1 1, .slice (some ⟨b, off, none⟩) M cap, .slice (some ⟨b2, off2, none⟩) M cap2] w fun e w' => ∃ g, e = .returned (.slice (some ⟨g, 0, none⟩) M M) ∧ w'.ownsRow w.heap.size 47 1 (.slice (some ⟨g, 0, none⟩) M M) M ((prodB A B).map (Value.int .u64)) ∧ Ext w w' := by
  obtain ⟨i0, hi, hz0, hz1, hz2⟩ := info_parts infoU64
  have HS : Hid _ := sizes_c (kd := 2) (m := M) (k := 1) (n := 1) (s := ⟨true, M, 1, 1, 1⟩) (.inl ⟨rfl, rfl, rfl, rfl⟩) ⟨hm1, hm, Nat.le_refl 1, (by show 1 ≤ 3; omega), Nat.le_refl 1, (by show 1 ≤ 3; omega), Nat.le_refl 1, (by show 1 ≤ 3; omega), .inr ⟨rfl, rfl, rfl⟩⟩
  simp only [Sh.x, Sh.y, Sh.z, Nat.mul_one] at HS
  have HZ : Hid (WordsAt w b off A) := hz
  have HY : Hid (WordsAt w b2 off2 B) := hy
  have HAB : Hid (A.length = M ∧ B.length = M) := ⟨hA, hB⟩
  clear hz hy hA hB
  unfold clsV at *
  go_enter Try.func18, Try.ntmps18
  go_wp2_with fail
  refine (HS.out _).mono ?_
  rintro e w1 ⟨rfl, hx1⟩
  obtain ⟨d0, d1, d2, d3⟩ := four_in hx1
  have HX1 : Hid (Ext w w1) := ((Ext.refl w).alloc _).trans hx1
  have hlt1 := four_lt hx1
  clear hx1
  go_wp2_with (at_make; refine wpList_make_full _ rfl _ _ 27 rfl w1.heap.size 47 i0 (.int .u64 0) 1 Try.underlying27 hi hz0 hz1 _ _ _ _ M rfl rfl rfl rfl (by rw [hz2]; omega) (by unfold maxLen; omega) (Nat.le_refl _) ?_)
  intro w2 ho1 hg1
  have hx2 : Ext w1 w2 := Ext.grown (Ext.refl w1) hg1 (by simp)
  have ho2 : w2.ownsRow w1.heap.size 47 1 (.slice (some ⟨w1.heap.size, 0, none⟩) M M) M ((List.replicate M (0 : Int)).map (Value.int .u64)) := by
    rw [List.map_replicate, ← toList_madeCells_one]; simpa [Value.cells] using ho1
  have d0 := hx2.cell d0
  obtain ⟨g, hgE⟩ : ∃ g, w1.heap.size = g := ⟨_, rfl⟩
  rw [hgE] at ho2 ⊢
  have HO2 : Hid (w2.ownsRow g 47 1 (.slice (some ⟨g, 0, none⟩) M M) M ((List.replicate M (0 : Int)).map (Value.int .u64))) := ho2
  have HX2 : Hid (Ext w w2) := HX1.out.trans hx2
  have hgw : w.heap.size < g := by omega
  clear ho1 ho2 hg1 hx2 hgE hlt1 d1 d2 d3
  have HC : Hid _ := d0
  clear d0
  go_wp2_with fail
  go_loopw [11] (fun i wr => ∃ (j : Nat) (D : List Int), j ≤ M ∧ i = .int .i64 j ∧ AndAt A B M j D ∧ wr.ownsRow g 47 1 (.slice (some ⟨g, 0, none⟩) M M) M (D.map (Value.int .u64)) ∧ Ext w wr ∧ wr.cell? ⟨w.heap.size, 0, none⟩ = some (.int .i64 2)) (fun i _ => M - (intOf i).toNat)
  case atStart => exact ⟨0, List.replicate M 0, Nat.zero_le _, rfl, ⟨by simp, fun j hj => absurd hj (Nat.not_lt_zero _)⟩, HO2.out, HX2.out, HC.out⟩
  case round =>
    obtain ⟨j, D, hj, rfl, hP, ho, hx, d0⟩ := hrel
    have HP : Hid (AndAt A B M j D) := hP
    have HO : Hid (wr.ownsRow g 47 1 (.slice (some ⟨g, 0, none⟩) M M) M (D.map (Value.int .u64))) := ho
    have HX : Hid (Ext w wr) := hx
    clear hP ho hx
    by_cases hlt : j < M
    · have hk0 : (0 : Int) ≤ (j : Int) := by omega
      have hk1 : (j : Int) < M := by omega
      have e0 := HX.out.cell (HZ.out j (by rw [HAB.out.1]; exact hlt))
      have e1 := HX.out.cell (HY.out j (by rw [HAB.out.2]; exact hlt))
      have hbw := World.block_lt_of_cell? w _ (HZ.out j (by rw [HAB.out.1]; exact hlt))
      have hb2w := World.block_lt_of_cell? w _ (HY.out j (by rw [HAB.out.2]; exact hlt))
      have c0 : wr.cell? ⟨g, j, none⟩ = some (.int .u64 (D.getD j 0)) := by
        have := owns_words HO.out j (by rw [HP.out.1]; exact hlt)
        simpa using this
      have f0 : wr.frozen? ⟨g, j, none⟩ = false := HO.out.frozenAt j
      have HPn : Hid _ := HP.out.step hlt
      generalize A.getD j 0 = za at *
      generalize B.getD j 0 = zb at *
      generalize hdd : D.getD j 0 = dd at *
      clear hdd
      go_wp2
      go_region
      have HF : Hid (((wr.setCell ⟨g, j, none⟩ (.int .u64 (bits .and .u64 za zb))).drew).cell? ⟨w.heap.size, 0, none⟩ = some (.int .i64 2)) := (World.cell?_setCell_far wr ⟨g, j, none⟩ ⟨w.heap.size, 0, none⟩ _ (by show g ≠ w.heap.size; omega)).trans d0
      go_wp2
      go_roundw
      case rel => exact ⟨j + 1, _, by omega, by go_num, HPn.out, World.ownsRow.drew (by rw [List.map_set]; exact (HO.out.stored j _).1), Ext.drew (Ext.setCell HX.out (by show w.heap.size ≤ g; omega) _), HF.out⟩
      case measure => simp [intOf]; omega
    · obtain rfl : j = M := by omega
      go_wp2
      go_ret
      exact ⟨g, rfl, by rw [← HP.out.done HAB.out.1 HAB.out.2]; exact owns_base HO.out (by omega), HX.out⟩
end

section
open Go.RowKit

theorem prodW_mul {m k n : Nat} (hm1 : 1 ≤ m) (hm : m ≤ 3) (hn1 : 1 ≤ n) (hn : n ≤ 3) (A B : List Int) (hA : A.length = m * k) (hB : B.length = k * n) : prodW A B k n (m * n) = mulN ⟨false, 1, m, k, n⟩ A B 1 := by
  have e1 : subL A 0 (m * k) = A := by rw [subL, Nat.zero_mul, List.drop_zero, ← hA, List.take_length]
  have e2 : subL B 0 (k * n) = B := by rw [subL, Nat.zero_mul, List.drop_zero, ← hB, List.take_length]
  have h1 : mulN ⟨false, 1, m, k, n⟩ A B 1 = matN false A B k n m := by
    rw [show (1 : Nat) = 0 + 1 from rfl, mulN_succ]
    show mulN _ A B 0 ++ matN false (subL A 0 (m * k)) (subL B 0 (k * n)) k n m = _
    rw [e1, e2]; simp [mulN]
  rw [h1]
  clear h1 e1 e2 hA hB
  obtain rfl | rfl | rfl : m = 1 ∨ m = 2 ∨ m = 3 := by omega
  all_goals (obtain rfl | rfl | rfl : n = 1 ∨ n = 2 ∨ n = 3 := by omega)
  all_goals rfl

theorem wrap_bv (a : BitVec 64) : IntKind.u64.wrap (a.toNat : Int) = a.toNat := by
  rw [IntKind.wrap_u64]; have := a.isLt; omega
theorem bits_xor (x y : Int) : bits .xor .u64 x y = ((BitVec.ofInt 64 x ^^^ BitVec.ofInt 64 y).toNat : Int) := wrap_bv _
theorem bits_and (x y : Int) : bits .and .u64 x y = ((BitVec.ofInt 64 x &&& BitVec.ofInt 64 y).toNat : Int) := wrap_bv _
theorem bv_range (a : BitVec 64) : 0 ≤ (a.toNat : Int) ∧ (a.toNat : Int) ≤ 18446744073709551615 := by have := a.isLt; omega
theorem ofInt_nat (a : BitVec 64) : BitVec.ofInt 64 (a.toNat : Int) = a := by simp
theorem toNat_of {w : Int} (h : 0 ≤ w ∧ w ≤ 18446744073709551615) : ((BitVec.ofInt 64 w).toNat : Int) = w := by
  rw [BitVec.toNat_ofInt]; omega
theorem xor_cancel {w : Int} (h : 0 ≤ w ∧ w ≤ 18446744073709551615) (p : Int) : bits .xor .u64 p (bits .xor .u64 w p) = w := by
  rw [bits_xor, bits_xor, ofInt_nat, BitVec.xor_comm (BitVec.ofInt 64 w), ← BitVec.xor_assoc, BitVec.xor_self, BitVec.zero_xor, toNat_of h]
theorem xor_cancel2 {p : Int} (h : 0 ≤ p ∧ p ≤ 18446744073709551615) (w : Int) : bits .xor .u64 w (bits .xor .u64 w p) = p := by
  rw [bits_xor, bits_xor, ofInt_nat, ← BitVec.xor_assoc, BitVec.xor_self, BitVec.zero_xor, toNat_of h]
theorem xor_zero_and (a b : Int) : bits .xor .u64 0 (bits .and .u64 a b) = bits .and .u64 a b := by
  rw [bits_xor, bits_and, ofInt_nat]; simp
theorem plus_minus (bt : Bool) {w : Int} (h : 0 ≤ w ∧ w ≤ 18446744073709551615) (p : Int) : plusN bt p (minusN bt w p) = w := by
  cases bt
  · show IntKind.u64.wrap (p + IntKind.u64.wrap (w - p)) = w
    rw [IntKind.wrap_u64, IntKind.wrap_u64]; omega
  · exact xor_cancel h p
theorem minus_minus (bt : Bool) {p : Int} (h : 0 ≤ p ∧ p ≤ 18446744073709551615) (w : Int) : minusN bt w (minusN bt w p) = p := by
  cases bt
  · show IntKind.u64.wrap (w - IntKind.u64.wrap (w - p)) = p
    rw [IntKind.wrap_u64, IntKind.wrap_u64]; omega
  · exact xor_cancel2 h w
theorem plus_range (bt : Bool) (x y : Int) : 0 ≤ plusN bt x y ∧ plusN bt x y ≤ 18446744073709551615 := by
  cases bt
  · exact u64w _
  · show 0 ≤ bits .xor .u64 x y ∧ _; rw [show plusN true x y = bits .xor .u64 x y from rfl, bits_xor]; exact bv_range _
theorem minus_range (bt : Bool) (x y : Int) : 0 ≤ minusN bt x y ∧ minusN bt x y ≤ 18446744073709551615 := by
  cases bt
  · exact u64w _
  · show 0 ≤ bits .xor .u64 x y ∧ _; rw [show minusN true x y = bits .xor .u64 x y from rfl, bits_xor]; exact bv_range _
theorem dot_range (bt : Bool) (zs ys : List Int) (k n r c : Nat) : ∀ i, 0 ≤ dotN bt zs ys k n r c i ∧ dotN bt zs ys k n r c i ≤ 18446744073709551615
  | 0 => by simp [dotN]
  | i + 1 => plus_range _ _ _
theorem mat_in (bt : Bool) (zs ys : List Int) (k n r : Nat) : inU64 (matN bt zs ys k n r) := fun z hz => by
  simp only [matN, rowN, List.mem_flatMap, List.mem_map] at hz
  obtain ⟨_, _, _, _, rfl⟩ := hz
  exact dot_range _ _ _ _ _ _ _ _
theorem mul_in (s : Sh) (A B : List Int) (i : Nat) : inU64 (mulN s A B i) := fun z hz => by
  simp only [mulN, List.mem_flatMap] at hz
  obtain ⟨_, _, h⟩ := hz
  exact mat_in _ _ _ _ _ _ z h
theorem inU64.take {D : List Int} (h : inU64 D) (n : Nat) : inU64 (D.take n) := fun z hz => h z (List.mem_of_mem_take hz)
theorem inU64.drop {D : List Int} (h : inU64 D) (n : Nat) : inU64 (D.drop n) := fun z hz => h z (List.mem_of_mem_drop hz)
theorem whole_in (s : Sh) {D : List Int} (h : inU64 D) : inU64 (wholeN s D) := fun z hz => by
  rcases List.mem_append.1 hz with h' | h'
  · exact h.take _ z h'
  · exact mul_in _ _ _ _ z h'
theorem part0_in (s : Sh) {D : List Int} (h : inU64 D) : inU64 (part0 s D) := h.drop _
theorem part1_in (s : Sh) (D : List Int) : inU64 (part1 s D) := fun z hz => by
  rw [part1] at hz
  obtain ⟨i, h, rfl⟩ := List.getElem_of_mem hz
  rw [List.getElem_zipWith]
  exact minus_range _ _ _
theorem zip_plus_minus (bt : Bool) : ∀ {W P : List Int}, inU64 W → P.length = W.length → List.zipWith (plusN bt) P (List.zipWith (minusN bt) W P) = W
  | [], [], _, _ => rfl
  | w :: W, p :: P, h, hl => by
    simp only [List.zipWith_cons_cons]
    rw [plus_minus bt (h w (by simp)) p, zip_plus_minus bt (fun z hz => h z (by simp [hz])) (by simpa using hl)]
  | [], _ :: _, _, hl => by simp at hl
  | _ :: _, [], _, hl => by simp at hl
theorem parts_whole (s : Sh) {D : List Int} (h : inU64 D) (hl : D.length = s.x + s.y + (s.x + s.y + s.z)) : List.zipWith (plusN s.bt) (part0 s D) (part1 s D) = wholeN s D := by
  rw [part1]
  exact zip_plus_minus s.bt (whole_in s h) (by rw [whole_len s D hl, part0, List.length_drop]; omega)

theorem prodB_mul {M : Nat} (h1 : 1 ≤ M) (h3 : M ≤ 3) (A B : List Int) (hA : A.length = M) (hB : B.length = M) : prodB A B = mulN ⟨true, M, 1, 1, 1⟩ A B M := by
  have hx := xor_zero_and
  obtain rfl | rfl | rfl : M = 1 ∨ M = 2 ∨ M = 3 := by omega
  · obtain ⟨a, rfl⟩ := List.length_eq_one_iff.1 hA
    obtain ⟨b, rfl⟩ := List.length_eq_one_iff.1 hB
    exact congrArg (· :: []) (hx a b).symm
  · match A, B, hA, hB with
    | [a0, a1], [b0, b1], _, _ =>
      show [bits .and .u64 a0 b0, bits .and .u64 a1 b1] = [bits .xor .u64 0 (bits .and .u64 a0 b0), bits .xor .u64 0 (bits .and .u64 a1 b1)]
      rw [hx, hx]
  · match A, B, hA, hB with
    | [a0, a1, a2], [b0, b1, b2], _, _ =>
      show [bits .and .u64 a0 b0, bits .and .u64 a1 b1, bits .and .u64 a2 b2] = [bits .xor .u64 0 (bits .and .u64 a0 b0), bits .xor .u64 0 (bits .and .u64 a1 b1), bits .xor .u64 0 (bits .and .u64 a2 b2)]
      rw [hx, hx, hx]

theorem productS_c {kd m k n : Nat} {s : Sh} (hc : ofCls kd m k n s) (hs : s.ok) (b off cap b2 off2 cap2 la lb : Nat) (A B : List Int) (hla : la = s.x) (hlb : lb = s.y) (hA : A.length = la) (hB : B.length = lb) (w : World) (hz : WordsAt w b off A) (hy : WordsAt w b2 off2 B) :
    Calls Try.prog 18 #[clsV kd m k n, .slice (some ⟨b, off, none⟩) la cap, .slice (some ⟨b2, off2, none⟩) lb cap2] w fun e w' => ∃ g, e = .returned (.slice (some ⟨g, 0, none⟩) s.z s.z) ∧ w'.ownsRow w.heap.size 47 1 (.slice (some ⟨g, 0, none⟩) s.z s.z) s.z ((mulN s A B s.p).map (Value.int .u64)) ∧ Ext w w' := by
  rcases hc with ⟨rfl, rfl, rfl, rfl⟩ | ⟨hk, rfl⟩
  · simp only [Sh.x, Sh.y, Sh.z, Nat.mul_one] at *
    obtain ⟨h1, h2, _⟩ := hs
    simp only at h1 h2
    rw [hla] at hA ⊢
    rw [hlb] at hB ⊢
    rw [← prodB_mul h1 h2 A B hA hB]
    exact productB_c m h1 h2 b off cap b2 off2 cap2 A B hA hB w hz hy
  · have hs' := hs
    have hc' : ofCls kd m k n ⟨false, 1, m, k, n⟩ := .inr ⟨hk, rfl⟩
    simp only [Sh.x, Sh.y, Sh.z, Nat.one_mul] at *
    obtain ⟨_, _, h3, h4, h5, h6, h7, h8, _⟩ := hs
    simp only at h3 h4 h5 h6 h7 h8
    rw [← prodW_mul h3 h4 h7 h8 A B (hA.trans hla) (hB.trans hlb)]
    exact productW_c kd m k n (by omega) h3 h4 h5 h6 h7 h8 _ hc' hs' b off cap b2 off2 cap2 la lb A B hA hB hla hlb w hz hy
end
end Go.Proofs.Ytmnjhhachdlmkaa
