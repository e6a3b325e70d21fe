import Derived.Test.YtmnjhhachdlmkaaTurn
import Derived.Test.YtmnjhhachdlmkaaNums
import Derived.Deep.AppendLies
import Derived.Deep.RegionHeld3
import Derived.Deep.RegionLaw
namespace Go.Proofs.Ytmnjhhachdlmkaa
open Go.RowKit

/-- A dealer's own block: its stocks, leases, the operations that were done, whether one fails, behind how many, whether its file is known. -/
def DealAt (w : World) (B : Nat) (sv lv dv : Value) (fl : Bool) (ah : Int) (kn : Bool) : Prop := w.heap[B]? = some (.cells #[sv, lv, dv, .bool fl, .int .i64 ah, .bool kn] 94 (0, 0))
theorem DealAt.cells {w : World} {B : Nat} {sv lv dv : Value} {fl : Bool} {ah : Int} {kn : Bool} (h : DealAt w B sv lv dv fl ah kn) :
    w.cell? ⟨B, 0, none⟩ = some sv ∧ w.cell? ⟨B, 1, none⟩ = some lv ∧ w.cell? ⟨B, 2, none⟩ = some dv ∧ w.cell? ⟨B, 3, none⟩ = some (.bool fl) ∧ w.cell? ⟨B, 4, none⟩ = some (.int .i64 ah) ∧ w.cell? ⟨B, 5, none⟩ = some (.bool kn) := by
  refine ⟨?_, ?_, ?_, ?_, ?_, ?_⟩
  · rw [cell_of_row w _ 0 _ _ _ h]; rfl
  · rw [cell_of_row w _ 1 _ _ _ h]; rfl
  · rw [cell_of_row w _ 2 _ _ _ h]; rfl
  · rw [cell_of_row w _ 3 _ _ _ h]; rfl
  · rw [cell_of_row w _ 4 _ _ _ h]; rfl
  · rw [cell_of_row w _ 5 _ _ _ h]; rfl
theorem frozen_row {w : World} {B : Nat} {cs : Array Value} {t : TypeId} (h : w.heap[B]? = some (.cells cs t (0, 0))) (i : Nat) : w.frozen? ⟨B, i, none⟩ = false := by
  unfold World.frozen?; rw [h]; simp
theorem setCell_row {w : World} {B i : Nat} {cs : Array Value} {t : TypeId} (h : w.heap[B]? = some (.cells cs t (0, 0))) (v : Value) : (w.setCell ⟨B, i, none⟩ v).heap[B]? = some (.cells (cs.setIfInBounds i v) t (0, 0)) := by
  rw [setCell_eq_setRow w B i cs t (0, 0) v h, setRow_heap w B cs _ t (0, 0) h]
theorem DealAt.lt {w : World} {B : Nat} {sv lv dv : Value} {fl : Bool} {ah : Int} {kn : Bool} (h : DealAt w B sv lv dv fl ah kn) : B < w.heap.size := (Array.getElem?_eq_some_iff.1 h).1

theorem owns_setCell {w : World} {base : Nat} {e : TypeId} {size : Nat} {v : Value} {n : Nat} {xs : List Value} (h : w.ownsRow base e size v n xs) {a : Addr} (ha : v.ownBlock ≠ some a.block) (u : Value) : (w.setCell a u).ownsRow base e size v n xs := by
  refine ⟨h.1, ?_⟩
  rcases h.2 with h2 | ⟨g, cap, cur, hv, hg, hh, r⟩
  · exact .inl h2
  · exact .inr ⟨g, cap, cur, hv, hg, by rw [Below.heap_setCell _ _ _ _ (fun e => ha (by rw [hv, ← e]; rfl))]; exact hh, r⟩
theorem notFail_c (B : Nat) (sv lv dv : Value) (ah : Int) (kn : Bool) (w : World) (h : DealAt w B sv lv dv false ah kn) :
    Calls Try.prog 80 #[.pointer (some ⟨B, 2, none⟩)] w fun e w' => e = .returned (.bool false) ∧ w = w' := by
  obtain ⟨c0, c1, c2, c3, c4, c5⟩ := h.cells
  clear h
  go_enter Try.func80, Try.ntmps80
  go_wp2
  go_ret
  exact ⟨rfl, rfl⟩

theorem four_in {w w' : World} {v0 v1 v2 v3 : Value} {t : TypeId} (h : Ext (w.alloc (.cells #[v0, v1, v2, v3] t)) w') :
    w'.cell? ⟨w.heap.size, 0, none⟩ = some v0 ∧ w'.cell? ⟨w.heap.size, 1, none⟩ = some v1 ∧ w'.cell? ⟨w.heap.size, 2, none⟩ = some v2 ∧ w'.cell? ⟨w.heap.size, 3, none⟩ = some v3 := by
  have hb : (w.alloc (.cells #[v0, v1, v2, v3] t)).heap[w.heap.size]? = some (.cells #[v0, v1, v2, v3] t (0, 0)) := heap_alloc_new w _
  refine ⟨h.cell ?_, h.cell ?_, h.cell ?_, h.cell ?_⟩
  · rw [cell_of_row _ _ 0 _ _ _ hb]; rfl
  · rw [cell_of_row _ _ 1 _ _ _ hb]; rfl
  · rw [cell_of_row _ _ 2 _ _ _ hb]; rfl
  · rw [cell_of_row _ _ 3 _ _ _ hb]; rfl
theorem infoOp : (Try.prog.info? 154).map (fun i => (i.zero, i.size, i.bytes)) = some (some (.agg #[.int .i64 0, .string ⟨#[]⟩, .string ⟨#[]⟩, .string ⟨#[]⟩]), 4, 56) := by kernel_rfl
/-- An operation on the disk: its kind and three texts. -/
structure OpV where
  k : Int
  a : ByteArray
  b : ByteArray
  c : ByteArray
def OpV.cells (o : OpV) : List Value := [.int .i64 o.k, .string o.a, .string o.b, .string o.c]
def opCells (l : List OpV) : List Value := l.flatMap OpV.cells
theorem len_opCells (l : List OpV) : (opCells l).length = l.length * 4 := by
  induction l with
  | nil => rfl
  | cons o t ih => simp [opCells, OpV.cells] at ih ⊢; omega
theorem opCells_append (a b : List OpV) : opCells (a ++ b) = opCells a ++ opCells b := by simp [opCells]
theorem opCells_take (l : List OpV) (j : Nat) (hj : j < l.length) : opCells (l.take (j + 1)) = opCells (l.take j) ++ l[j].cells := by
  rw [List.take_succ_eq_append_getElem hj, opCells_append]; simp [opCells]
theorem opCells_at (l : List OpV) (j i : Nat) (hj : j < l.length) (hi : i < 4) : (opCells l)[j * 4 + i]? = l[j].cells[i]? := by
  have e : l = l.take j ++ (l[j] :: l.drop (j + 1)) := by simp
  have h1 : (opCells (l.take j)).length = j * 4 := by rw [len_opCells]; simp; omega
  have h2 : opCells l = opCells (l.take j) ++ (l[j].cells ++ opCells (l.drop (j + 1))) := by
    have h3 : opCells (l.take j ++ (l[j] :: l.drop (j + 1))) = opCells (l.take j) ++ (l[j].cells ++ opCells (l.drop (j + 1))) := by
      simp only [opCells, List.flatMap_append, List.flatMap_cons]
    rw [← e] at h3
    exact h3
  rw [h2, List.getElem?_append_right (by omega), h1, show j * 4 + i - j * 4 = i by omega, List.getElem?_append_left (by simpa [OpV.cells] using hi)]
theorem op_one (l : List OpV) : ∀ u ∈ opCells l, u.oneCell' = true := by
  intro u hu
  simp only [opCells, List.mem_flatMap, OpV.cells, List.mem_cons, List.not_mem_nil, or_false] at hu
  obtain ⟨o, _, rfl | rfl | rfl | rfl⟩ := hu <;> rfl
theorem row_ne {w : World} {B : Nat} {cs : Array Value} {t e : TypeId} {base size k : Nat} {v : Value} {xs : List Value} (hB : w.heap[B]? = some (.cells cs t (0, 0))) (ho : w.ownsRow base e size v k xs) (hne : t ≠ e) : v.ownBlock ≠ some B := by
  intro hv
  rcases ho.2 with ⟨rfl, _⟩ | ⟨g, cap, cur, rfl, _, hh, _⟩
  · simp [Value.ownBlock] at hv
  · simp [Value.ownBlock] at hv
    subst hv
    rw [hh] at hB
    simp at hB
    exact hne hB.2.symm

set_option maxRecDepth 100000 in
set_option maxHeartbeats 1600000 in
theorem doOps_c (B g k n : Nat) (sv lv dv : Value) (ah : Int) (kn : Bool) (xs : List Value) (ops : List OpV) (w : World) (h : DealAt w B sv lv dv false ah kn) (ho : w.ownsRow 0 154 4 dv k xs) (hg : w.heap[g]? = some (.cells (opCells ops).toArray 154 (0, 0))) (hgd : dv.ownBlock ≠ some g) (hl : ops.length = n) (hn : n ≤ 10) (hk : k ≤ 1000000) :
    Calls Try.prog 69 #[.pointer (some ⟨B, 2, none⟩), .slice (some ⟨g, 0, none⟩) n n] w fun e w' =>
      ∃ dv', e = .returned (.bool true) ∧ DealAt w' B sv lv dv' false ah kn ∧ w'.ownsRow 0 154 4 dv' (k + n) (xs ++ opCells ops) ∧ Turn (fun b => b = B ∨ dv.ownBlock = some b) w w' ∧ (∀ q, dv'.ownBlock = some q → q < w.heap.size → dv.ownBlock = some q) := by
  obtain ⟨i0, hi, hz0, hz1, hz2⟩ := info_parts infoOp
  have HD : Hid _ := h
  have HO : Hid _ := ho
  have HG : Hid _ := hg
  have HGD : Hid (dv.ownBlock ≠ some g) := hgd
  have HL : Hid (ops.length = n) := hl
  clear h ho hg hgd hl
  go_enter Try.func69, Try.ntmps69
  go_wp2
  go_loopw [9] (fun i wr => ∃ (j : Nat) (dj : Value), j ≤ n ∧ i = .int .i64 j ∧ DealAt wr B sv lv dj false ah kn ∧ wr.ownsRow 0 154 4 dj (k + j) (xs ++ opCells (ops.take j)) ∧ wr.heap[g]? = some (.cells (opCells ops).toArray 154 (0, 0)) ∧ dj.ownBlock ≠ some g ∧
    Turn (fun b => b = B ∨ dv.ownBlock = some b) w wr ∧ (∀ q, dj.ownBlock = some q → q < w.heap.size → dv.ownBlock = some q)) (fun i _ => n - (intOf i).toNat)
  case atStart => exact ⟨0, dv, Nat.zero_le _, rfl, HD.out, by rw [List.take_zero, show opCells [] = [] from rfl, List.append_nil]; exact HO.out, HG.out, HGD.out, Turn.refl _ _, fun _ h _ => h⟩
  case round =>
    obtain ⟨j, dj, hj, rfl, hd, ho, hg, hgd, ht, hq⟩ := hrel
    have HQ : Hid _ := hq
    have HT : Hid _ := ht
    have HOJ : Hid _ := ho
    have HDJ : Hid _ := hd
    have HGJ : Hid _ := hg
    have HGDJ : Hid (dj.ownBlock ≠ some g) := hgd
    clear hq ht ho hd hgd
    by_cases hlt : j < n
    · have hjl : j < ops.length := by rw [HL.out]; exact hlt
      have HE : Hid _ := opCells_take ops j hjl
      have k0 : wr.cell? ⟨g, j * 4, none⟩ = some (.int .i64 ops[j].k) := by rw [cell_of_row wr g _ _ _ _ hg]; simpa [OpV.cells] using opCells_at ops j 0 hjl (by omega)
      have k1 : wr.cell? ⟨g, j * 4 + 1, none⟩ = some (.string ops[j].a) := by rw [cell_of_row wr g _ _ _ _ hg]; simpa [OpV.cells] using opCells_at ops j 1 hjl (by omega)
      have k2 : wr.cell? ⟨g, j * 4 + 2, none⟩ = some (.string ops[j].b) := by rw [cell_of_row wr g _ _ _ _ hg]; simpa [OpV.cells] using opCells_at ops j 2 hjl (by omega)
      have k3 : wr.cell? ⟨g, j * 4 + 3, none⟩ = some (.string ops[j].c) := by rw [cell_of_row wr g _ _ _ _ hg]; simpa [OpV.cells] using opCells_at ops j 3 hjl (by omega)
      unfold OpV.cells at HE
      generalize ops[j].k = q0 at *
      generalize ops[j].a = q1 at *
      generalize ops[j].b = q2 at *
      generalize ops[j].c = q3 at *
      clear hg
      go_wp2_with fail
      refine (notFail_c B sv lv dj ah kn _ ?d).mono ?_
      case d => exact Ext.block ((Ext.refl wr).alloc _) HDJ.out
      rintro e w2 ⟨rfl, rfl⟩
      obtain ⟨m0, m1, m2, m3⟩ := four_in (Ext.refl (wr.alloc (.cells #[.int .i64 q0, .string q1, .string q2, .string q3] 154)))
      have hXw : Ext wr (wr.alloc (.cells #[.int .i64 q0, .string q1, .string q2, .string q3] 154)) := (Ext.refl wr).alloc _
      have hbl : wr.heap.size < (wr.alloc (.cells #[.int .i64 q0, .string q1, .string q2, .string q3] 154)).heap.size := by simp
      generalize World.alloc wr _ = X at m0 m1 m2 m3 hXw hbl ⊢
      have HDX : Hid (DealAt X B sv lv dj false ah kn) := hXw.block HDJ.out
      have hB : B < X.heap.size := DealAt.lt HDX.out
      obtain ⟨c0, c1, c2, c3, c4, c5⟩ := DealAt.cells HDX.out
      have HOX : Hid _ := Ext.owns hXw HOJ.out
      have HNE : Hid (dj.ownBlock ≠ some B) := row_ne HDJ.out HOJ.out (by decide)
      have HXW : Hid (Ext wr X) := hXw
      clear c0 c1 c3 c4 c5 hXw k0 k1 k2 k3
      go_wp2_with fail
      go_region_law (first
        | (refine step_append_lies _ (by rfl) _ _ 86 (by rfl) 0 154 i0 _ 4 56 Try.underlying86 hi hz0 hz1 hz2 (by rfl) (by decide) dj (k + j) _ (by rfl) (Ext.owns (Ext.alloc (Ext.drew (Ext.refl _)) _) HOX.out) ⟨_, 0, none⟩ 1 1 [.int .i64 q0, .string q1, .string q2, .string q3] (by rfl) (by rfl) (World.news_of_block (heap_alloc_new _ _)) (by simp [Value.oneCell']) (by decide) (by simp [maxLen]; omega) (by omega) (Nat.zero_le _) _ rfl ?_; intro g1 cap1 w1 hown1 hgrow hat hlt1; have HD1 := (hgrow.block B (by simp; omega) (fun e => HNE.out e.symm)).trans (Ext.block (Ext.alloc (Ext.drew (Ext.refl _)) _) HDX.out); have c2' := (DealAt.cells HD1).2.2.1; have f2' := frozen_row HD1 2))
      all_goals
        have R0 : DealAt (w1.setCell ⟨B, 2, none⟩ (.slice (some ⟨g1, 0, none⟩) (k + j + 1) cap1)) B sv lv (.slice (some ⟨g1, 0, none⟩) (k + j + 1) cap1) false ah kn := setCell_row HD1 _
        have hg1B : g1 ≠ B := fun e => by
          rcases hat with h | h
          · exact HNE.out (e ▸ h)
          · simp at h; omega
        have R1 : (w1.setCell ⟨B, 2, none⟩ (.slice (some ⟨g1, 0, none⟩) (k + j + 1) cap1)).ownsRow 0 154 4 (.slice (some ⟨g1, 0, none⟩) (k + j + 1) cap1) (k + (j + 1)) (xs ++ opCells (ops.take (j + 1))) := by
          rw [HE.out, ← List.append_assoc]
          exact owns_setCell hown1 (by simpa [Value.ownBlock] using hg1B) _
        have hlg : g < X.heap.size := Nat.lt_of_lt_of_le (Array.getElem?_eq_some_iff.1 HGJ.out).1 HXW.out.le
        have hgB : g ≠ B := fun e => by
          have h1 := HGJ.out
          have h2 : wr.heap[B]? = _ := HDJ.out
          rw [e, h2] at h1
          simp at h1
        have R2 : (w1.setCell ⟨B, 2, none⟩ (.slice (some ⟨g1, 0, none⟩) (k + j + 1) cap1)).heap[g]? = some (.cells (opCells ops).toArray 154 (0, 0)) := by
          rw [Below.heap_setCell _ _ _ _ hgB, hgrow.block g (by simp; omega) (fun e => HGDJ.out e.symm)]
          exact Ext.block (Ext.alloc (Ext.drew (Ext.refl _)) _) (HXW.out.block HGJ.out)
        have R3 : g1 ≠ g := fun e => by
          rcases hat with h | h
          · exact HGDJ.out (e ▸ h)
          · simp at h; omega
        have R4 : Turn (fun b => b = B ∨ dv.ownBlock = some b) w (w1.setCell ⟨B, 2, none⟩ (.slice (some ⟨g1, 0, none⟩) (k + j + 1) cap1)) :=
          Turn.setCell (Turn.grown ((Turn.chain HXW.out HT.out).drew.alloc _) hgrow (fun q hq hl => .inr (HQ.out q hq hl))) (fun _ => .inl rfl) _
        have R5 : ∀ q, (Value.slice (some ⟨g1, 0, none⟩) (k + j + 1) cap1).ownBlock = some q → q < w.heap.size → dv.ownBlock = some q := fun q hq hl => by
          simp [Value.ownBlock] at hq
          subst hq
          rcases hat with h | h
          · exact HQ.out g1 h hl
          · have h1 := HT.out.size
            have h2 := HXW.out.le
            simp at h; omega
        have HR : Hid _ := And.intro R0 (And.intro R1 (And.intro R2 (And.intro R3 (And.intro R4 R5))))
        clear R0 R1 R2 R3 R4 R5 hown1 hgrow hat HD1 c2' f2'
        go_wp2
        go_roundw
        case rel =>
          obtain ⟨R0, R1, R2, R3, R4, R5⟩ := HR.out
          exact ⟨j + 1, _, by omega, by go_num, R0, R1, R2, by simp [Value.ownBlock]; exact R3, R4, R5⟩
        case measure => simp [intOf]; omega
    · obtain rfl : j = n := by omega
      have hO := HOJ.out
      rw [List.take_of_length_le (by rw [HL.out]; exact Nat.le_refl _)] at hO
      have HO2 : Hid _ := hO
      clear hO
      go_wp2
      go_ret
      exact ⟨dj, rfl, HDJ.out, HO2.out, HT.out, HQ.out⟩
end Go.Proofs.Ytmnjhhachdlmkaa
