import Derived.Test.YtmnjhhachdlmkaaLaw2
namespace Go.Proofs.Ytmnjhhachdlmkaa
open Go.RowKit

theorem four_lt {w w' : World} {v0 v1 v2 v3 : Value} {t : TypeId} (h : Ext (w.alloc (.cells #[v0, v1, v2, v3] t)) w') : w.heap.size < w'.heap.size := by
  have := h.le
  simp at this
  omega

/-- What lies in the row of the product once i elements are reckoned and q products of the next. -/
def ProdAt (A B : List Int) (k n MN i q : Nat) (D : List Int) : Prop :=
  D.length = MN ∧ (∀ j, j < i → D.getD j 0 = dotN false A B k n (j / n) (j % n) k) ∧ D.getD i 0 = dotN false A B k n (i / n) (i % n) q ∧ ∀ j, i < j → D.getD j 0 = 0

theorem ProdAt.start (A B : List Int) (k n MN : Nat) : ProdAt A B k n MN 0 0 (List.replicate MN 0) := by
  refine ⟨by simp, fun j hj => by omega, ?_, fun j _ => ?_⟩
  · simp [dotN, List.getD_eq_getElem?_getD, List.getElem?_replicate]; split <;> rfl
  · simp [List.getD_eq_getElem?_getD, List.getElem?_replicate]; split <;> rfl
theorem ProdAt.next {A B : List Int} {k n MN i : Nat} {D : List Int} (h : ProdAt A B k n MN i k D) : ProdAt A B k n MN (i + 1) 0 D := by
  obtain ⟨h1, h2, h3, h4⟩ := h
  refine ⟨h1, fun j hj => ?_, ?_, fun j hj => h4 j (by omega)⟩
  · rcases Nat.lt_or_eq_of_le (Nat.le_of_lt_succ hj) with h | h
    · exact h2 j h
    · rw [h, h3]
  · rw [h4 (i + 1) (by omega)]; rfl
theorem ProdAt.step {A B : List Int} {k n MN i q : Nat} {D : List Int} (h : ProdAt A B k n MN i q D) (hi : i < MN) : ProdAt A B k n MN i (q + 1) (D.set i (plusN false (D.getD i 0) (timesN false (A.getD (i / n * k + q) 0) (B.getD (q * n + i % n) 0)))) := by
  obtain ⟨h1, h2, h3, h4⟩ := h
  have hne : ∀ j v, j ≠ i → (D.set i v).getD j 0 = D.getD j 0 := fun j v hj => by
    simp [List.getD_eq_getElem?_getD, Ne.symm hj]
  refine ⟨by simp [h1], fun j hj => ?_, ?_, fun j hj => ?_⟩
  · rw [hne _ _ (by omega), h2 j hj]
  · rw [h3]
    simp [List.getD_eq_getElem?_getD, h1, hi, dotN]
  · rw [hne _ _ (by omega), h4 j hj]
def prodW (A B : List Int) (k n MN : Nat) : List Int := (List.range MN).map fun i => dotN false A B k n (i / n) (i % n) k
theorem ProdAt.done {A B : List Int} {k n MN : Nat} {D : List Int} (h : ProdAt A B k n MN MN 0 D) : D = prodW A B k n MN := by
  obtain ⟨h1, h2, _, _⟩ := h
  apply List.ext_getElem?
  intro j
  by_cases hj : j < MN
  · have := h2 j hj
    rw [List.getD_eq_getElem?_getD, List.getElem?_eq_getElem (by omega), Option.getD_some] at this
    rw [List.getElem?_eq_getElem (by omega), this]
    simp [prodW, hj]
  · rw [List.getElem?_eq_none (by omega), List.getElem?_eq_none (by simp [prodW]; omega)]

set_option maxRecDepth 100000 in
set_option maxHeartbeats 1600000 in
theorem productW_c (kd m k n : Nat) (hkd : ¬ kd = 2) (hm1 : 1 ≤ m) (hm : m ≤ 3) (hk1 : 1 ≤ k) (hk : k ≤ 3) (hn1 : 1 ≤ n) (hn : n ≤ 3) (s : Sh) (hc : ofCls kd m k n s) (hs : s.ok) (b off cap b2 off2 cap2 la lb : Nat) (A B : List Int) (hA : A.length = la) (hB : B.length = lb) (hla : la = m * k) (hlb : lb = k * n) (w : World) (hz : WordsAt w b off A) (hy : WordsAt w b2 off2 B) :
    Calls Try.prog 18 #[clsV kd m k n, .slice (some ⟨b, off, none⟩) la cap, .slice (some ⟨b2, off2, none⟩) lb cap2] w fun e w' => ∃ g, e = .returned (.slice (some ⟨g, 0, none⟩) (m * n) (m * n)) ∧ w'.ownsRow w.heap.size 47 1 (.slice (some ⟨g, 0, none⟩) (m * n) (m * n)) (m * n) ((prodW A B k n (m * n)).map (Value.int .u64)) ∧ Ext w w' := by
  obtain ⟨i0, hi, hz0, hz1, hz2⟩ := info_parts infoU64
  have HS : Hid _ := sizes_c hc hs
  have HZ : Hid (WordsAt w b off A) := hz
  have HY : Hid (WordsAt w b2 off2 B) := hy
  have hzz : s.z = m * n := by
    rcases hc with ⟨h, _⟩ | ⟨_, rfl⟩
    · exact absurd h hkd
    · simp [Sh.z]
  rw [hzz] at HS
  have hmn := mul_le9 hm hn
  have hmn1 := Nat.mul_le_mul hm1 hn1
  have HAB : Hid (A.length = la ∧ B.length = lb ∧ la = m * k ∧ lb = k * n) := ⟨hA, hB, hla, hlb⟩
  generalize s.x = x at *
  generalize s.y = y at *
  clear hz hy hc hs hzz hA hB hla hlb
  generalize hMN : m * n = MN at *
  have HMN : Hid (m * n = MN) := hMN
  clear hMN
  unfold clsV at *
  go_enter Try.func18, Try.ntmps18
  go_wp2_with fail
  refine (HS.out _).mono ?_
  rintro e w1 ⟨rfl, hx1⟩
  obtain ⟨d0, d1, d2, d3⟩ := four_in hx1
  have HX1 : Hid (Ext w w1) := ((Ext.refl w).alloc _).trans hx1
  have hlt1 := four_lt hx1
  clear hx1
  go_wp2_with (at_make; refine wpList_make_full _ rfl _ _ 27 rfl w1.heap.size 47 i0 (.int .u64 0) 1 Try.underlying27 hi hz0 hz1 _ _ _ _ MN rfl rfl rfl rfl (by rw [hz2]; omega) (by unfold maxLen; omega) (Nat.le_refl _) ?_)
  intro w2 ho1 hg1
  have hx2 : Ext w1 w2 := Ext.grown (Ext.refl w1) hg1 (by simp)
  have ho2 : w2.ownsRow w1.heap.size 47 1 (.slice (some ⟨w1.heap.size, 0, none⟩) MN MN) MN ((List.replicate MN (0 : Int)).map (Value.int .u64)) := by
    rw [List.map_replicate, ← toList_madeCells_one]; simpa [Value.cells] using ho1
  have d0 := hx2.cell d0
  have d1 := hx2.cell d1
  have d2 := hx2.cell d2
  have d3 := hx2.cell d3
  obtain ⟨g, hgE⟩ : ∃ g, w1.heap.size = g := ⟨_, rfl⟩
  rw [hgE] at ho2 ⊢
  have HO2 : Hid (w2.ownsRow g 47 1 (.slice (some ⟨g, 0, none⟩) MN MN) MN ((List.replicate MN (0 : Int)).map (Value.int .u64))) := ho2
  have HX2 : Hid (Ext w w2) := HX1.out.trans hx2
  have hgw : w.heap.size < g := by omega
  clear ho1 ho2 hg1 hx2 hgE hlt1
  have hN0 : ¬ ((n : Int) = 0) := by omega
  have hkd2 : ¬ ((kd : Int) = 2) := by omega
  clear hkd
  have HC : Hid (w2.cell? ⟨w.heap.size, 0, none⟩ = some (.int .i64 kd) ∧ w2.cell? ⟨w.heap.size, 2, none⟩ = some (.int .i64 k) ∧ w2.cell? ⟨w.heap.size, 3, none⟩ = some (.int .i64 n)) := ⟨d0, d2, d3⟩
  clear d0 d1 d2 d3
  have hsz2 : w.heap.size + 1 ≤ g := hgw
  go_wp2_with fail
  go_loopw [11] (fun i wr => ∃ (j : Nat) (D : List Int), j ≤ MN ∧ i = .int .i64 j ∧ ProdAt A B k n MN j 0 D ∧ wr.ownsRow g 47 1 (.slice (some ⟨g, 0, none⟩) MN MN) MN (D.map (Value.int .u64)) ∧ Ext w wr ∧ wr.cell? ⟨w.heap.size, 0, none⟩ = some (.int .i64 kd) ∧ wr.cell? ⟨w.heap.size, 2, none⟩ = some (.int .i64 k) ∧ wr.cell? ⟨w.heap.size, 3, none⟩ = some (.int .i64 n)) (fun i _ => MN - (intOf i).toNat)
  case atStart => exact ⟨0, List.replicate MN 0, Nat.zero_le _, rfl, ProdAt.start _ _ _ _ _, HO2.out, HX2.out, HC.out⟩
  case round =>
    obtain ⟨j, D, hj, rfl, hP, ho, hx, d0, d2, d3⟩ := hrel
    have HP : Hid (ProdAt A B k n MN j 0 D) := hP
    have HO : Hid (wr.ownsRow g 47 1 (.slice (some ⟨g, 0, none⟩) MN MN) MN (D.map (Value.int .u64))) := ho
    have HX : Hid (Ext w wr) := hx
    have HD : Hid _ := And.intro d0 (And.intro d2 d3)
    clear hP ho hx
    by_cases hlt : j < MN
    · have hk0 : (0 : Int) ≤ (j : Int) := by omega
      have hk1 : (j : Int) < MN := by omega
      have HDM : Hid (j / n < m ∧ j % n < n ∧ wrap64 ((j : Int) / (n : Int)) = ((j / n : Nat) : Int)) := by
        have h1 : j / n < m := by rw [Nat.div_lt_iff_lt_mul (by omega), HMN.out]; exact hlt
        refine ⟨h1, Nat.mod_lt _ (by omega), ?_⟩
        rw [show ∀ z : Int, wrap64 z = IntKind.i64.wrap z from fun z => by rw [IntKind.wrap_i64, wrap64]]
        exact wrap_small (by omega)
      have HSt : Hid (∀ q D, ProdAt A B k n MN j q D → ProdAt A B k n MN j (q + 1) (D.set j (plusN false (D.getD j 0) (timesN false (A.getD (j / n * k + q) 0) (B.getD (q * n + j % n) 0))))) := fun q D h => h.step hlt
      go_wp2
      obtain ⟨hjd, hjm, hdw⟩ := HDM.out
      rw [hdw, show ((j : Int) % (n : Int)) = ((j % n : Nat) : Int) from rfl, show ((kd : Int) == 2) = false from by simp; omega]
      clear hdw HDM
      generalize j / n = r at *
      generalize j % n = c at *
      clear d0 d2 d3
      go_loopw [14] (fun i ws => ∃ (q : Nat) (D : List Int), q ≤ k ∧ i = .int .i64 q ∧ ProdAt A B k n MN j q D ∧ ws.ownsRow g 47 1 (.slice (some ⟨g, 0, none⟩) MN MN) MN (D.map (Value.int .u64)) ∧ Ext w ws ∧ ws.cell? ⟨w.heap.size, 0, none⟩ = some (.int .i64 kd) ∧ ws.cell? ⟨w.heap.size, 2, none⟩ = some (.int .i64 k) ∧ ws.cell? ⟨w.heap.size, 3, none⟩ = some (.int .i64 n)) (fun i _ => k - (intOf i).toNat)
      case atStart => exact ⟨0, D, Nat.zero_le _, rfl, HP.out, HO.out, HX.out, HD.out⟩
      case round =>
        clear HP HO HX HD
        clear D
        obtain ⟨q, D, hq, rfl, hP, ho, hx, d0, d2, d3⟩ := hrel
        rename World => ws
        have HP : Hid (ProdAt A B k n MN j q D) := hP
        have HO : Hid (ws.ownsRow g 47 1 (.slice (some ⟨g, 0, none⟩) MN MN) MN (D.map (Value.int .u64))) := ho
        have HX : Hid (Ext w ws) := hx
        have HD : Hid (D.length = MN) := hP.1
        clear hP ho hx
        by_cases hlq : q < k
        · have hbw := World.block_lt_of_cell? w _ (HZ.out (r * k + q) (by rw [HAB.out.1, HAB.out.2.2.1]; exact mul_add_lt hjd hlq))
          have hb2w := World.block_lt_of_cell? w _ (HY.out (q * n + c) (by rw [HAB.out.2.1, HAB.out.2.2.2]; exact mul_add_lt hlq hjm))
          have e0 := HX.out.cell (HZ.out (r * k + q) (by rw [HAB.out.1, HAB.out.2.2.1]; exact mul_add_lt hjd hlq))
          have e1 := HX.out.cell (HY.out (q * n + c) (by rw [HAB.out.2.1, HAB.out.2.2.2]; exact mul_add_lt hlq hjm))
          have b0 : r * k + q < la := by rw [HAB.out.2.2.1]; exact mul_add_lt hjd hlq
          have b1 : q * n + c < lb := by rw [HAB.out.2.2.2]; exact mul_add_lt hlq hjm
          have hqn := Nat.mul_le_mul (show q ≤ 2 by omega) hn
          have hrk := Nat.mul_le_mul (show r ≤ 2 by omega) hk
          have v1 : IntKind.i64.wrap ((r : Int) * (k : Int)) = ((r * k : Nat) : Int) := by rw [← Int.natCast_mul]; exact wrap_small (by omega)
          have v2 : IntKind.i64.wrap ((q : Int) * (n : Int)) = ((q * n : Nat) : Int) := by rw [← Int.natCast_mul]; exact wrap_small (by omega)
          have c0 : ws.cell? ⟨g, j, none⟩ = some (.int .u64 (D.getD j 0)) := by
            have := owns_words HO.out j (by rw [HD.out]; exact hlt)
            simpa using this
          have f0 : ws.frozen? ⟨g, j, none⟩ = false := HO.out.frozenAt j
          have HPn : Hid (ProdAt A B k n MN j (q + 1) (D.set j (IntKind.u64.wrap (D.getD j 0 + IntKind.u64.wrap (A.getD (r * k + q) 0 * B.getD (q * n + c) 0))))) := HSt.out q D HP.out
          generalize hzk : A.getD (r * k + q) 0 = z at *
          generalize hyk : B.getD (q * n + c) 0 = zb at *
          generalize hdd : D.getD j 0 = dd at *
          clear hzk hyk hdd
          generalize r * k = rk at *
          generalize q * n = qn at *
          have s1 : (rk : Int) + (q : Int) = ((rk + q : Nat) : Int) := by omega
          have s2 : (qn : Int) + (c : Int) = ((qn + c : Nat) : Int) := by omega
          have v3 : IntKind.i64.wrap ((rk : Int) + (q : Int)) = ((rk + q : Nat) : Int) := by rw [s1]; exact wrap_small (by omega)
          have v4 : IntKind.i64.wrap ((qn : Int) + (c : Int)) = ((qn + c : Nat) : Int) := by rw [s2]; exact wrap_small (by omega)
          generalize hx1 : rk + q = x1 at *
          generalize hx2 : qn + c = x2 at *
          clear s1 s2 hx1 hx2 hrk hqn
          have t0 : (0 : Int) ≤ (x1 : Int) := by omega
          have t1 : (x1 : Int) < la := by omega
          have t2 : (0 : Int) ≤ (x2 : Int) := by omega
          have t3 : (x2 : Int) < lb := by omega
          have hk0 : (0 : Int) ≤ (j : Int) := by omega
          have hk1 : (j : Int) < MN := by omega
          go_wp2
          go_region
          have hfar : ∀ (p : Addr) v, p.block ≠ g → ws.cell? p = some v → ((ws.setCell ⟨g, j, none⟩ (.int .u64 (IntKind.u64.wrap (dd + IntKind.u64.wrap (z * zb))))).drew).cell? p = some v := fun p v hp h => (World.cell?_setCell_far ws ⟨g, j, none⟩ p _ (by show g ≠ p.block; exact fun e => hp e.symm)).trans h
          have HF : Hid _ := And.intro (hfar _ _ (by show w.heap.size ≠ g; omega) d0) (And.intro (hfar _ _ (by show w.heap.size ≠ g; omega) d2) (hfar _ _ (by show w.heap.size ≠ g; omega) d3))
          clear hfar
          go_wp2
          go_roundw
          case rel => exact ⟨q + 1, _, by omega, by go_num, HPn.out, World.ownsRow.drew (by rw [List.map_set]; exact (HO.out.stored j _).1), Ext.drew (Ext.setCell HX.out (by show w.heap.size ≤ g; omega) _), HF.out⟩
          case measure => simp [intOf]; omega
        · obtain rfl : q = k := by omega
          go_wp2
          go_roundw
          case rel => exact ⟨j + 1, D, by omega, by go_num, HP.out.next, HO.out, HX.out, d0, d2, d3⟩
          case measure => simp [intOf]; omega
    · obtain rfl : j = MN := by omega
      go_wp2
      go_ret
      exact ⟨g, rfl, by rw [← HP.out.done]; exact owns_base HO.out (by omega), HX.out⟩
end Go.Proofs.Ytmnjhhachdlmkaa
