import Derived.Test.YtmnjhhachdlmkaaFit
import Derived.Test.YtmnjhhachdlmkaaLeaves
import Derived.Test.YtmnjhhachdlmkaaKind
namespace Go.Proofs.Ytmnjhhachdlmkaa
open Go.RowKit

/-- One number read off the head of the bytes. -/
def step1 (x : Nat × Int × Int) (r : List UInt8) : Option (Nat × List UInt8) :=
  if r.length < x.2.1.toNat then none else if x.2.2 < (be (r.take x.2.1.toNat) : Int) then none else some (be (r.take x.2.1.toNat), r.drop x.2.1.toNat)
/-- The first numbers, and what is left of the bytes. -/
def decTo : List (Nat × Int × Int) → List UInt8 → Option (List Nat × List UInt8)
  | [], r => some ([], r)
  | x :: t, r => (step1 x r).bind fun p => (decTo t p.2).map fun q => (p.1 :: q.1, q.2)
theorem decTo_snoc (l : List (Nat × Int × Int)) (x : Nat × Int × Int) (r : List UInt8) : decTo (l ++ [x]) r = (decTo l r).bind fun q => (step1 x q.2).map fun p => (q.1 ++ [p.1], p.2) := by
  induction l generalizing r with
  | nil => simp only [List.nil_append, decTo, Option.bind_some]; cases hs : step1 x r <;> simp
  | cons y t ih =>
    simp only [List.cons_append, decTo]
    cases step1 y r with
    | none => simp
    | some p => simp only [Option.bind_some, ih]; cases decTo t p.2 with
      | none => simp
      | some q => simp; cases step1 x q.2 <;> simp
theorem decTo_none (l : List (Nat × Int × Int)) (k : Nat) (hk : k ≤ l.length) (r : List UInt8) (h : decTo (l.take k) r = none) : decTo l r = none := by
  induction l generalizing k r with
  | nil => simp at hk; subst hk; simpa using h
  | cons y t ih =>
    cases k with
    | zero => simp [decTo] at h
    | succ k =>
      simp only [List.take_succ_cons, decTo] at h ⊢
      cases hs : step1 y r with
      | none => simp
      | some p =>
        rw [hs] at h
        simp only [Option.bind_some, Option.map_eq_none_iff] at h ⊢
        exact ih k (by simpa using hk) p.2 h
theorem decTo_len (l : List (Nat × Int × Int)) (r : List UInt8) (vs : List Nat) (r' : List UInt8) (h : decTo l r = some (vs, r')) : vs.length = l.length := by
  induction l generalizing r vs r' with
  | nil => simp [decTo] at h; simp [h.1]
  | cons y t ih =>
    simp only [decTo] at h
    cases hs : step1 y r with
    | none => rw [hs] at h; simp at h
    | some p =>
      rw [hs] at h
      simp only [Option.bind_some, Option.map_eq_some_iff] at h
      obtain ⟨q, hq, he⟩ := h
      simp at he
      rw [← he.1]
      simp [ih p.2 q.1 q.2 hq]

def intV (vs : List Nat) : List Value := vs.map fun (n : Nat) => Value.int .i64 (n : Int)
/-- The cells of a request of which the first numbers are read. -/
def cellsTo (vs : List Nat) (m : Nat) : Array Value := (intV vs ++ List.replicate (m - vs.length) (Value.int .i64 0)).toArray
theorem cellsTo_set (vs : List Nat) (m : Nat) (v : Nat) (h : vs.length < m) : (cellsTo vs m).setIfInBounds vs.length (.int .i64 (v : Int)) = cellsTo (vs ++ [v]) m := by
  have e : m - vs.length = (m - (vs.length + 1)) + 1 := by omega
  have hl : (intV vs).length = vs.length := by simp [intV]
  apply Array.ext'
  simp only [cellsTo, Array.toList_setIfInBounds]
  rw [e, List.replicate_succ, List.set_append, hl, if_neg (by omega), Nat.sub_self, List.set_cons_zero]
  simp [intV]


theorem step1_no {x : Nat × Int × Int} {r : List UInt8} (h : r.length < x.2.1.toNat ∨ x.2.2 < (be (r.take x.2.1.toNat) : Int)) : step1 x r = none := by
  unfold step1
  rcases h with h | h
  · rw [if_pos h]
  · by_cases h' : r.length < x.2.1.toNat
    · rw [if_pos h']
    · rw [if_neg h', if_pos h]
theorem step1_yes {x : Nat × Int × Int} {r : List UInt8} (h : ¬ r.length < x.2.1.toNat) (h' : ¬ x.2.2 < (be (r.take x.2.1.toNat) : Int)) : step1 x r = some (be (r.take x.2.1.toNat), r.drop x.2.1.toNat) := by
  unfold step1; rw [if_neg h, if_neg h']

theorem extract_lo (t : ByteArray) (n : Nat) : (t.extract 0 n).data.toList = t.data.toList.take n := by
  simp [ByteArray.data_extract]
theorem extract_hi (t : ByteArray) (n : Nat) : (t.extract n t.size).data.toList = t.data.toList.drop n := by
  rw [ByteArray.data_extract, Array.toList_extract, List.extract_eq_drop_take', ← ByteArray.size_data, ← Array.length_toList]
  simp only [List.take_length]

set_option maxRecDepth 100000 in
set_option maxHeartbeats 3200000 in
theorem fill_c (b g cap m base B : Nat) (tt : TypeId) (l : List (Nat × Int × Int)) (s : ByteArray) (w : World) (hm : l.length = m) (hm2 : m ≤ 100) (htt : tt ≠ 80)
    (hl : ∀ (k : Nat) (h : k < l.length), l[k].1 = k ∧ 1 ≤ l[k].2.1 ∧ l[k].2.1 ≤ 4 ∧ 0 ≤ l[k].2.2 ∧ l[k].2.2 ≤ 2147483647) (hs : s.size ≤ maxLen)
    (ho : w.ownsRow base 80 3 (.slice (some ⟨g, 0, none⟩) m cap) m (fl b l)) (hb : w.heap[b]? = some (.cells (cellsTo [] m) tt (0, 0))) (hBb : B ≤ b) (_hBw : B ≤ w.heap.size) :
    Calls Try.prog 41 #[.slice (some ⟨g, 0, none⟩) m cap, .string s] w fun e w' =>
      (∃ vs, decTo l s.data.toList = some (vs, []) ∧ e = .returned (.bool true) ∧ w'.heap[b]? = some (.cells (cellsTo vs m) tt (0, 0)) ∧ Below B w w') ∨
      ((∀ vs, decTo l s.data.toList ≠ some (vs, [])) ∧ e = .returned (.bool false) ∧ Below B w w') := by
  obtain ⟨cur, hg, hcur⟩ : ∃ cur : Array Value, w.heap[g]? = some (.cells cur 80 (0, 0)) ∧ ∀ j, j < m * 3 → cur[j]? = (fl b l)[j]? := by
    rcases ho.2 with ⟨h0, _⟩ | ⟨g1, cap1, cur, h0, _, hh, _, _, _, ht⟩
    · simp at h0
    · simp only [Value.slice.injEq, Option.some.injEq, Addr.mk.injEq, and_true, true_and] at h0
      obtain ⟨rfl, rfl⟩ := h0
      exact ⟨cur, hh, fun j hj => by rw [← ht, List.getElem?_take, if_pos hj]; simp⟩
  have hne : g ≠ b := by
    intro e
    rw [e, hb] at hg
    simp at hg
    exact htt hg.2
  have HG : Hid (w.heap[g]? = some (.cells cur 80 (0, 0))) := hg
  have HC : Hid (∀ j, j < m * 3 → cur[j]? = (fl b l)[j]?) := hcur
  have HL : Hid (∀ (k : Nat) (h : k < l.length), l[k].1 = k ∧ 1 ≤ l[k].2.1 ∧ l[k].2.1 ≤ 4 ∧ 0 ≤ l[k].2.2 ∧ l[k].2.2 ≤ 2147483647) := hl
  have HM : Hid (l.length = m) := hm
  have HB0 : Hid (w.heap[b]? = some (.cells (cellsTo [] m) tt (0, 0))) := hb
  clear ho hb hg hcur hl hm htt
  go_enter Try.func41, Try.ntmps41
  go_wp2
  go_loopw [1, 4, 6, 7, 10] (fun ss _ _ _ i wr => ∃ (k : Nat) (t : ByteArray) (vs : List Nat), k ≤ m ∧ i = .int .i64 k ∧ ss = .string t ∧ t.size ≤ maxLen ∧ decTo (l.take k) s.data.toList = some (vs, t.data.toList) ∧ wr.heap[b]? = some (.cells (cellsTo vs m) tt (0, 0)) ∧ wr.heap[g]? = some (.cells cur 80 (0, 0)) ∧ Below B w wr) (fun _ _ _ _ i _ => m - (intOf i).toNat)
  case atStart => exact ⟨0, s, [], Nat.zero_le _, rfl, rfl, hs, rfl, HB0.out, HG.out, Below.refl _ _⟩
  case round =>
    obtain ⟨k, t, vs, hk, rfl, rfl, ht, hd, hbr, hgr, hbel⟩ := hrel
    have HD : Hid (decTo (l.take k) s.data.toList = some (vs, t.data.toList)) := hd
    have HBR : Hid (wr.heap[b]? = some (.cells (cellsTo vs m) tt (0, 0))) := hbr
    have HGR : Hid (wr.heap[g]? = some (.cells cur 80 (0, 0))) := hgr
    unfold maxLen at ht
    clear hd hbr hgr
    by_cases hlt : k < m
    · have hkl : k < l.length := by have := HM.out; omega
      obtain ⟨f0, f1, f2⟩ := fl_at b l k hkl
      have e0 : wr.cell? ⟨g, k * 3, none⟩ = some (.pointer (some ⟨b, l[k].1, none⟩)) := cell_at HGR.out ((HC.out _ (by omega)).trans f0)
      have e1 : wr.cell? ⟨g, k * 3 + 1, none⟩ = some (.int .i64 l[k].2.1) := cell_at HGR.out ((HC.out _ (by omega)).trans f1)
      have e2 : wr.cell? ⟨g, k * 3 + 2, none⟩ = some (.int .i64 l[k].2.2) := cell_at HGR.out ((HC.out _ (by omega)).trans f2)
      obtain ⟨hl0, hl1, hl2, hl3, hl4⟩ := HL.out k hkl
      have HX : Hid (decTo (l.take (k + 1)) s.data.toList = (step1 l[k] t.data.toList).map fun p => (vs ++ [p.1], p.2)) := by
        show decTo (l.take (k + 1)) s.data.toList = _
        rw [List.take_succ_eq_append_getElem hkl, decTo_snoc, HD.out]; rfl
      have HN : Hid (decTo (l.take (k + 1)) s.data.toList = none → ∀ vs, decTo l s.data.toList ≠ some (vs, [])) := fun h vs h' => by
        rw [decTo_none l (k + 1) (by omega) _ h] at h'; simp at h'
      have HS1 : Hid (t.data.toList.length < l[k].2.1.toNat ∨ l[k].2.2 < (be (t.data.toList.take l[k].2.1.toNat) : Int) → step1 l[k] t.data.toList = none) := step1_no
      have HS2 : Hid (¬ t.data.toList.length < l[k].2.1.toNat → ¬ l[k].2.2 < (be (t.data.toList.take l[k].2.1.toNat) : Int) → step1 l[k] t.data.toList = some (be (t.data.toList.take l[k].2.1.toNat), t.data.toList.drop l[k].2.1.toNat)) := step1_yes
      have hgl : g < wr.heap.size := World.block_lt_of_cell? wr _ e0
      have hbl : b < wr.heap.size := (Array.getElem?_eq_some_iff.1 HBR.out).1
      have hvl : vs.length = k := by have := decTo_len _ _ _ _ HD.out; rw [this, List.length_take]; omega
      have HVL : Hid (vs.length = k) := hvl
      have efz : wr.frozen? ⟨b, k, none⟩ = false := frozen_of_row wr b k _ tt HBR.out
      obtain ⟨old, eold⟩ : ∃ old, wr.cell? ⟨b, k, none⟩ = some old := by
        refine ⟨_, cell_at HBR.out (Array.getElem?_eq_getElem ?_)⟩
        simp [cellsTo, intV]; omega
      obtain ⟨sz, hsz⟩ : ∃ sz : Nat, l[k].2.1 = (sz : Int) := ⟨l[k].2.1.toNat, by omega⟩
      rw [hl0] at e0
      rw [hsz] at e1 hl1 hl2 HS1 HS2
      rw [Int.toNat_natCast] at HS1 HS2
      clear hsz f0 f1 f2 hl0 hvl
      generalize l[k].2.2 = mo at *
      have hwr : IntKind.u64.wrap mo = mo := by rw [IntKind.wrap_u64]; omega
      have hts : t.data.toList.length = t.size := by simp
      by_cases hsh : t.size < sz
      · go_wp2
        go_ret
        refine .inr ⟨HN.out ?_, rfl, hbel.alloc (by have := hbel.size; omega) _⟩
        rw [HX.out, HS1.out (.inl (by omega))]; rfl
      · have HTK := extract_lo t sz
        have hext : (t.extract 0 sz).size ≤ 4 := by rw [ByteArray.size_extract]; omega
        by_cases hbig : mo < (be (t.data.toList.take sz) : Int)
        · go_wp2_with (go_at_call 45; refine (take_c (t.extract 0 sz) hext _).mono ?_; rw [HTK]; rintro e w3 ⟨rfl, rfl⟩)
          go_ret
          refine .inr ⟨HN.out ?_, rfl, hbel.alloc (by have := hbel.size; omega) _⟩
          rw [HX.out, HS1.out (.inr hbig)]; rfl
        · have hw3 : wrap64 (be (t.data.toList.take sz) : Int) = (be (t.data.toList.take sz) : Int) := w64 (by omega) (by omega)
          have HHI := extract_hi t sz
          have hhs : (t.extract sz t.size).size ≤ 9223372036854775807 := by rw [ByteArray.size_extract]; omega
          have HY : Hid (decTo (l.take (k + 1)) s.data.toList = some (vs ++ [be (t.data.toList.take sz)], t.data.toList.drop sz)) := by
            show decTo (l.take (k + 1)) s.data.toList = _
            rw [HX.out, HS2.out (by omega) hbig]; rfl
          have HW : Hid _ := HTK
          clear HTK
          have HW2 : Hid _ := HHI
          clear HHI
          generalize hv : be (t.data.toList.take sz) = v at *
          have HBE : Hid (be (t.data.toList.take sz) = v) := hv
          clear hv
          go_wp2_with (go_at_call 45; refine (take_c (t.extract 0 sz) hext _).mono ?_; rw [HW.out, HBE.out]; rintro e w3 ⟨rfl, rfl⟩)
          go_roundw
          case rel =>
            refine ⟨k + 1, t.extract sz t.size, vs ++ [v], by omega, by go_num, rfl, by unfold maxLen; exact hhs, ?_, ?_, ?_, ?_⟩
            · rw [HY.out, HW2.out]
            · have h1 := heap_setCell_same wr b k (cellsTo vs m) tt (.int .i64 (v : Int)) HBR.out
              have h2 := cellsTo_set vs m v (by have := HVL.out; omega)
              rw [HVL.out] at h2
              rw [h2] at h1
              exact at_old h1
            · exact at_old ((Below.heap_setCell wr ⟨b, k, none⟩ _ g hne).trans HGR.out)
            · exact (hbel.setCell hBb _).alloc (by have := hbel.size; simp [World.setCell]; omega) _
          case measure => simp [intOf]; omega
    · obtain rfl : m = k := by omega
      have HT : Hid (l.take m = l) := List.take_of_length_le (by have := HM.out; omega)
      go_wp2
      go_ret
      have hD := HD.out
      rw [HT.out] at hD
      by_cases he : t.data.toList = []
      · refine .inl ⟨vs, by rw [hD, he], ?_, HBR.out, hbel⟩
        show Ending.returned (.bool t.toList.isEmpty) = _
        rw [ByteArray.toList_eq, he]; rfl
      · refine .inr ⟨fun vs' h => ?_, ?_, hbel⟩
        · rw [hD] at h; simp at h; exact he (by simpa using h.2)
        · show Ending.returned (.bool t.toList.isEmpty) = _
          rw [ByteArray.toList_eq]
          cases hx : t.data.toList with
          | nil => exact absurd hx he
          | cons _ _ => rfl
theorem fill_yes (b g cap m base B : Nat) (tt : TypeId) (l : List (Nat × Int × Int)) (s : ByteArray) (w : World) (hm : l.length = m) (hm2 : m ≤ 100) (htt : tt ≠ 80)
    (hl : ∀ (k : Nat) (h : k < l.length), l[k].1 = k ∧ 1 ≤ l[k].2.1 ∧ l[k].2.1 ≤ 4 ∧ 0 ≤ l[k].2.2 ∧ l[k].2.2 ≤ 2147483647) (hs : s.size ≤ maxLen)
    (ho : w.ownsRow base 80 3 (.slice (some ⟨g, 0, none⟩) m cap) m (fl b l)) (hb : w.heap[b]? = some (.cells (cellsTo [] m) tt (0, 0))) (hBb : B ≤ b) (hBw : B ≤ w.heap.size) (vs : List Nat) (h : decTo l s.data.toList = some (vs, [])) :
    Calls Try.prog 41 #[.slice (some ⟨g, 0, none⟩) m cap, .string s] w fun e w' =>
      e = .returned (.bool true) ∧ w'.heap[b]? = some (.cells (cellsTo vs m) tt (0, 0)) ∧ Below B w w' :=
  (fill_c b g cap m base B tt l s w hm hm2 htt hl hs ho hb hBb hBw).mono fun e w' hh => by
    rcases hh with ⟨vs', h1, h2, h3, h4⟩ | ⟨h1, _, _⟩
    · rw [h] at h1; simp at h1; subst h1; exact ⟨h2, h3, h4⟩
    · exact absurd h (h1 vs)
theorem fill_no (b g cap m base B : Nat) (tt : TypeId) (l : List (Nat × Int × Int)) (s : ByteArray) (w : World) (hm : l.length = m) (hm2 : m ≤ 100) (htt : tt ≠ 80)
    (hl : ∀ (k : Nat) (h : k < l.length), l[k].1 = k ∧ 1 ≤ l[k].2.1 ∧ l[k].2.1 ≤ 4 ∧ 0 ≤ l[k].2.2 ∧ l[k].2.2 ≤ 2147483647) (hs : s.size ≤ maxLen)
    (ho : w.ownsRow base 80 3 (.slice (some ⟨g, 0, none⟩) m cap) m (fl b l)) (hb : w.heap[b]? = some (.cells (cellsTo [] m) tt (0, 0))) (hBb : B ≤ b) (hBw : B ≤ w.heap.size) (h : ∀ vs, decTo l s.data.toList ≠ some (vs, [])) :
    Calls Try.prog 41 #[.slice (some ⟨g, 0, none⟩) m cap, .string s] w fun e w' => e = .returned (.bool false) ∧ Below B w w' :=
  (fill_c b g cap m base B tt l s w hm hm2 htt hl hs ho hb hBb hBw).mono fun e w' hh => by
    rcases hh with ⟨vs', h1, h2, h3, h4⟩ | ⟨_, h2, h3⟩
    · exact absurd h1 (h vs')
    · exact ⟨h2, h3⟩
end Go.Proofs.Ytmnjhhachdlmkaa
