import Derived.Test.YtmnjhhachdlmkaaDo
import Derived.Test.YtmnjhhachdlmkaaMake
namespace Go.Proofs.Ytmnjhhachdlmkaa
open Go.RowKit Go.Maps

theorem infoShares : (Try.prog.info? 116).map (fun i => (i.zero, i.size, i.bytes)) = some (some (.agg #[.slice none 0 0, .slice none 0 0]), 2, 48) := by kernel_rfl

theorem app2_0 (a b : Value) (z : Array Value) : (#[a, b] ++ z)[0]? = some a := by rw [Array.getElem?_append_left (by simp)]; rfl
theorem app2_1 (a b : Value) (z : Array Value) : (#[a, b] ++ z)[1]? = some b := by rw [Array.getElem?_append_left (by simp)]; rfl
theorem WordsAt.turn {S : Nat → Prop} {w w' : World} {b off : Nat} {zs : List Int} (h : WordsAt w b off zs) (ht : Turn S w w') (hs : ¬ S b) : WordsAt w' b off zs := fun i hi => ht.cell (h i hi) hs

/-- Words that lie in a block of words. -/
def WordsU (w : World) (b : Nat) (zs : List Int) : Prop := WordsAt w b 0 zs ∧ ∃ cur, w.heap[b]? = some (.cells cur 47 (0, 0))
theorem WordsU.turn {S : Nat → Prop} {w w' : World} {b : Nat} {zs : List Int} (h : WordsU w b zs) (ht : Turn S w w') (hs : ¬ S b) : WordsU w' b zs := ⟨h.1.turn ht hs, h.2.elim fun cur hc => ⟨cur, ht.ref hc hs⟩⟩
theorem WordsU.ext {w w' : World} {b : Nat} {zs : List Int} (h : WordsU w b zs) (hx : Ext w w') : WordsU w' b zs := ⟨h.1.ext hx, h.2.elim fun cur hc => ⟨cur, hx.block hc⟩⟩
theorem owns_wordsU {w : World} {base g cap n : Nat} {zs : List Int} (h : w.ownsRow base 47 1 (.slice (some ⟨g, 0, none⟩) n cap) n (zs.map (Value.int .u64))) : WordsU w g zs := by
  refine ⟨owns_words h, ?_⟩
  rcases h.2 with ⟨h, _⟩ | ⟨g', cap', cur, hv, _, hh, _⟩
  · simp at h
  · simp at hv
    obtain ⟨rfl, rfl⟩ := hv
    exact ⟨cur, hh⟩
/-- A dealer with one triple that nobody has leased. -/
def Fresh1 (w : World) (B kd m k n a0 a1 L c0 c1 : Nat) (leased : Int) (lv : Value) (F : Nat → Prop) : Prop :=
  ∃ gk gs cs mb D dv kk xs, DealAt w B (.slice (some ⟨gs, 0, none⟩) 1 cs) lv dv false 0 true ∧ w.ownsRow 0 154 4 dv kk xs ∧ kk ≤ 100 ∧ (∀ q, dv.ownBlock = some q → F q) ∧
      w.heap[gk]? = some (.cells #[.int .i64 kd, .int .i64 m, .int .i64 k, .int .i64 n, .int .i64 1, .int .i64 leased, .map (some mb)] 171 (0, 0)) ∧ w.ownsMap Try.prog 3 heldElem mb 1 D ∧ D.atKey (.int .i64 0) (.held (.agg #[.slice none 0 0, .slice none 0 0])) = .held (.agg #[.slice (some ⟨a0, 0, none⟩) L c0, .slice (some ⟨a1, 0, none⟩) L c1]) ∧
      w.cell? ⟨gs, 0, none⟩ = some (.pointer (some ⟨gk, 0, none⟩)) ∧ (∃ cur, w.heap[gs]? = some (.cells cur 155 (0, 0))) ∧ F gk ∧ F gs ∧ F mb

set_option maxRecDepth 100000 in
set_option maxHeartbeats 1600000 in
theorem refill1_c {kd m k n : Nat} {s : Sh} (hc : ofCls kd m k n s) (hs : s.ok) (hcls : isCls kd m k n = true) (B b off len cap : Nat) (D : List Int) (hl : D.length = len) (hlen : len = s.x + s.y + (s.x + s.y + s.z)) (hcap : len ≤ cap) (_hbB : b ≠ B) (w : World) (hz : WordsAt w b off D)
    (hu0 : inU64 (part0 s D)) (hu1 : inU64 (part1 s D)) (h : DealAt w B (.slice none 0 0) (.slice none 0 0) (.slice none 0 0) false 0 false) :
    Calls Try.prog 43 #[.pointer (some ⟨B, 0, none⟩), clsV kd m k n, .slice (some ⟨b, off, none⟩) len cap] w fun e w' =>
      ∃ a0 c0 a1 c1, e = .returned (.int .i64 0) ∧ Fresh1 w' B kd m k n a0 a1 (s.x + s.y + s.z) c0 c1 0 (.slice none 0 0) (fun q => w.heap.size ≤ q) ∧
        WordsU w' a0 (part0 s D) ∧ WordsU w' a1 (part1 s D) ∧ Turn (fun b => b = B) w w' ∧ w.heap.size ≤ a0 ∧ w.heap.size ≤ a1 := by
  obtain ⟨i0, hi, hz0, hz1, hz2⟩ := info_parts infoShares
  have hle := Sh.le hs
  have HI : Hid (∀ w, Calls Try.prog 46 #[clsV kd m k n] w fun e w' => e = .returned (.bool true) ∧ Ext w w') := fun w => by
    have := isClass_c kd m k n w
    rw [hcls] at this
    exact this
  have HDr : Hid _ := drawsOf_c hc hs
  have HM : Hid _ := fun w hz => make_c hc hs b off len cap D hl hlen hcap w hz
  rw [← hlen] at HDr
  have HZ : Hid (WordsAt w b off D) := hz
  have HD : Hid _ := h
  have HU : Hid _ := And.intro hu0 hu1
  have hkd3 : kd ≤ 2 ∧ m ≤ 3 ∧ k ≤ 3 ∧ n ≤ 3 := by
    obtain ⟨h1, h2, h3, h4, h5, h6, h7, h8, h9⟩ := hs
    rcases hc with ⟨rfl, rfl, rfl, rfl⟩ | ⟨h, rfl⟩
    · simp at *; omega
    · simp at *; omega
  have hB := h.lt
  have hP0 : (part0 s D).length = s.x + s.y + s.z := by rw [part0, List.length_drop]; omega
  have hP1 : (part1 s D).length = s.x + s.y + s.z := by rw [part1, List.length_zipWith, whole_len s D (hl.trans hlen), hP0]; omega
  have HP : Hid _ := And.intro hP0 hP1
  clear hz h hu0 hu1 hP0 hP1 hcls
  generalize hP : part0 s D = P0 at *
  generalize hQ : part1 s D = P1 at *
  clear hP hQ hl hc hs
  have hL : 1 ≤ s.x + s.y + s.z ∧ s.x + s.y + s.z ≤ 27 ∧ len ≤ 100 ∧ 1 ≤ len := by omega
  generalize s.x + s.y + s.z = L at *
  unfold clsV at *
  clear hle hlen
  go_enter Try.func43, Try.ntmps43
  go_wp2_with fail
  refine (HI.out _).mono ?_; rintro e w1 ⟨rfl, hx1⟩
  obtain ⟨d0, d1, d2, d3⟩ := four_in hx1
  have HX1 : Hid (Ext w w1) := ((Ext.refl w).alloc _).trans hx1
  clear hx1
  go_wp2_with fail
  refine (HDr.out _).mono ?_; rintro e w2 ⟨rfl, hx2⟩
  have d0 := hx2.cell d0
  have d1 := hx2.cell d1
  have d2 := hx2.cell d2
  have d3 := hx2.cell d3
  have HX2 : Hid (Ext w w2) := HX1.out.trans hx2
  have hc0 := World.block_lt_of_cell? w2 _ d0
  have hdiv : Int.tdiv (len : Int) (len : Int) = 1 := Int.tdiv_self (by omega)
  have hmod : Int.tmod (len : Int) (len : Int) = 0 := Int.tmod_self
  have hne : ¬ ((len : Int) = 0) := by omega
  clear hx2 HX1
  go_wp2_with fail
  have hmv : (w2.alloc (.cells #[.int .i64 kd, .int .i64 m, .int .i64 k, .int .i64 n, .slice none 0 0] 114)).heap[w2.heap.size]? = some (.cells #[.int .i64 kd, .int .i64 m, .int .i64 k, .int .i64 n, .slice none 0 0] 114 (0, 0)) := heap_alloc_new w2 _
  have hXV : Ext w2 (w2.alloc (.cells #[.int .i64 kd, .int .i64 m, .int .i64 k, .int .i64 n, .slice none 0 0] 114)) := (Ext.refl w2).alloc _
  generalize World.alloc w2 _ = V at hmv hXV ⊢
  obtain ⟨mv, hmvE⟩ : ∃ mv, w2.heap.size = mv := ⟨_, rfl⟩
  rw [hmvE] at hmv
  have hmvw : w.heap.size ≤ mv := by rw [← hmvE]; exact HX2.out.le
  have HXV : Hid (Ext w V) := HX2.out.trans hXV
  have HMV : Hid (V.heap[mv]? = some (.cells #[.int .i64 kd, .int .i64 m, .int .i64 k, .int .i64 n, .slice none 0 0] 114 (0, 0))) := hmv
  have e4 : V.cell? ⟨mv, 4, none⟩ = some (.slice none 0 0) := by rw [cell_of_row V _ 4 _ _ _ hmv]; rfl
  have hmvl := World.block_lt_of_cell? V _ e4
  have d0 := hXV.cell d0
  have d1 := hXV.cell d1
  have d2 := hXV.cell d2
  have d3 := hXV.cell d3
  have hcl := World.block_lt_of_cell? V _ d0
  have hsl : ∀ W, (Instr.slice 27 (.slice (some ⟨b, off, none⟩) len cap) (some (.int .i64 0)) (some (.int .i64 (len : Int))) none).run Try.prog W = .ok (.slice (some ⟨b, off, none⟩) len cap) W := fun W => slice_lh b off len cap 0 len (by omega) hcap W
  have hwr0 : IntKind.i64.wrap 0 = 0 := rfl
  have hwr1 : IntKind.i64.wrap 1 = 1 := rfl
  have hwr2 : IntKind.i64.wrap (len : Int) = (len : Int) := wrap_small (by omega)
  simp only [hmvE]
  clear hXV hmv HX2 hmvE hdiv hmod hne hc0
  go_loopw [36] (fun i wr => (i = .int .i64 0 ∧ wr = V) ∨ (i = .int .i64 1 ∧ ∃ gt tcap a0 c0 a1 c1, wr.heap[mv]? = some (.cells #[.int .i64 kd, .int .i64 m, .int .i64 k, .int .i64 n, .slice (some ⟨gt, 0, none⟩) 1 tcap] 114 (0, 0)) ∧ wr.cell? ⟨gt, 0, none⟩ = some (.slice (some ⟨a0, 0, none⟩) L c0) ∧ wr.cell? ⟨gt, 1, none⟩ = some (.slice (some ⟨a1, 0, none⟩) L c1) ∧ WordsU wr a0 P0 ∧ WordsU wr a1 P1 ∧ Ext w wr ∧ w.heap.size ≤ gt ∧ w.heap.size ≤ a0 ∧ w.heap.size ≤ a1)) (fun i _ => 1 - (intOf i).toNat)
  case atStart => exact .inl ⟨rfl, rfl⟩
  case round =>
    rcases hrel with ⟨rfl, rfl⟩ | ⟨rfl, hfin⟩
    · go_wp2_with fail
      go_region_with (first
        | (go_at_call 48; refine (HM.out _ (HZ.out.ext (Ext.drew HXV.out))).mono ?_; rintro e w3 ⟨a0, c0, a1, c1, rfl, h0, h1, hx3⟩; have e4c := (Ext.chain hx3 (Ext.drew (Ext.refl wr))).cell e4; have f4c := frozen_row ((Ext.chain hx3 (Ext.drew (Ext.refl wr))).block HMV.out) 4; have hl3 := World.block_lt_of_cell? w3 _ e4c))
      all_goals
        have HXw3 : Hid (Ext w w3) := Ext.chain hx3 (Ext.drew HXV.out)
        have HMV3 : Hid _ := (Ext.chain hx3 (Ext.drew (Ext.refl wr))).block HMV.out
        have HH : Hid _ := And.intro h0 h1
        have hl0 := hx3.le
        generalize (Question.appendCap 1 0 116).cut (w3.tape w3.drawn (Question.appendCap 1 0 116)) = C at *
        clear h0 h1 hx3 e4c f4c
        go_wp2
        go_roundw
        case rel =>
          obtain ⟨h0, h1⟩ := HH.out
          have ha0 : wr.heap.size ≤ a0 := (h0.lt a0 rfl).1
          have ha1 : wr.heap.size ≤ a1 := (h1.lt a1 rfl).1
          have hww := HXV.out.le
          have HTu : Turn (fun q => q = mv) w3 _ := Turn.drew (Turn.alloc (Turn.alloc (Turn.setCell (S := fun q => q = mv) (p := ⟨mv, 4, none⟩) (Turn.refl _ w3) (fun _ => rfl) (.slice (some ⟨w3.heap.size + 1, 0, none⟩) 1 C)) (.cells #[.slice (some ⟨a0, 0, none⟩) L c0, .slice (some ⟨a1, 0, none⟩) L c1] 116)) (.cells (#[.slice (some ⟨a0, 0, none⟩) L c0, .slice (some ⟨a1, 0, none⟩) L c1] ++ Builtin.zeroCells #[.slice none 0 0, .slice none 0 0] (C - 1)) 116))
          have hnew : (World.drew (World.alloc (World.alloc (w3.setCell ⟨mv, 4, none⟩ (.slice (some ⟨w3.heap.size + 1, 0, none⟩) 1 C)) (.cells #[.slice (some ⟨a0, 0, none⟩) L c0, .slice (some ⟨a1, 0, none⟩) L c1] 116)) (.cells (#[.slice (some ⟨a0, 0, none⟩) L c0, .slice (some ⟨a1, 0, none⟩) L c1] ++ Builtin.zeroCells #[.slice none 0 0, .slice none 0 0] (C - 1)) 116))).heap[w3.heap.size + 1]? = some (.cells (#[.slice (some ⟨a0, 0, none⟩) L c0, .slice (some ⟨a1, 0, none⟩) L c1] ++ Builtin.zeroCells #[.slice none 0 0, .slice none 0 0] (C - 1)) 116 (0, 0)) := at_drew (at_new (by simp [World.setCell]))
          refine .inr ⟨by go_num, w3.heap.size + 1, C, a0, c0, a1, c1, ?_, ?_, ?_, ?_, ?_, ?_, by omega, by omega, by omega⟩
          · exact at_drew (at_old (at_old (setCell_row HMV3.out _)))
          · rw [cell_of_row _ _ 0 _ _ _ hnew]; exact app2_0 _ _ _
          · rw [cell_of_row _ _ 1 _ _ _ hnew]; exact app2_1 _ _ _
          · exact WordsU.turn (owns_wordsU h0) HTu (by show a0 ≠ mv; omega)
          · exact WordsU.turn (owns_wordsU h1) HTu (by show a1 ≠ mv; omega)
          · exact Ext.drew (Ext.alloc (Ext.alloc (Ext.setCell HXw3.out (by show w.heap.size ≤ mv; exact hmvw) _) _) _)
        case measure => simp [intOf]
    · obtain ⟨gt, tcap, a0, c0, a1, c1, r1, r2, r3, r4, r5, r6, r7, r8, r9⟩ := hfin
      have HR : Hid _ := And.intro r2 (And.intro r3 (And.intro r4 r5))
      have HX : Hid (Ext w wr) := r6
      have m0 : wr.cell? ⟨mv, 0, none⟩ = some (.int .i64 kd) := by rw [cell_of_row wr _ 0 _ _ _ r1]; rfl
      have m1 : wr.cell? ⟨mv, 1, none⟩ = some (.int .i64 m) := by rw [cell_of_row wr _ 1 _ _ _ r1]; rfl
      have m2 : wr.cell? ⟨mv, 2, none⟩ = some (.int .i64 k) := by rw [cell_of_row wr _ 2 _ _ _ r1]; rfl
      have m3 : wr.cell? ⟨mv, 3, none⟩ = some (.int .i64 n) := by rw [cell_of_row wr _ 3 _ _ _ r1]; rfl
      have m4 : wr.cell? ⟨mv, 4, none⟩ = some (.slice (some ⟨gt, 0, none⟩) 1 tcap) := by rw [cell_of_row wr _ 4 _ _ _ r1]; rfl
      clear r1 r2 r3 r4 r5 r6 e4 d0 d1 d2 d3
      go_wp2_with fail
      refine (do1_c B kd m k n gt tcap a0 a1 L c0 c1 P0 P1 hkd3.1 hkd3.2.1 hkd3.2.2.1 hkd3.2.2.2 hL.1 hL.2.1 HP.out.1 HP.out.2 HU.out.1 HU.out.2 wr (HX.out.block HD.out) (by omega) HR.out.1 HR.out.2.1 HR.out.2.2.1.1 HR.out.2.2.2.1).mono ?_
      rintro e w5 ⟨gk, gs, cs, mb, D5, dv, kk, xs, rfl, q1, q2, q3, qn, q4, q5, q6, q7, qr, q8, q9, q10, q11⟩
      have HQ : Hid _ := And.intro q1 (And.intro q2 (And.intro q3 (And.intro qn (And.intro q4 (And.intro q5 (And.intro q6 (And.intro q7 (And.intro qr (And.intro q8 (And.intro q9 (And.intro q10 q11)))))))))))
      clear q1 q2 q3 qn q4 q5 q6 q7 qr q8 q9 q10 q11
      go_wp2
      go_ret
      obtain ⟨q1, q2, q3, qn, q4, q5, q6, q7, qr, q8, q9, q10, q11⟩ := HQ.out
      have hww := HX.out.le
      exact ⟨a0, c0, a1, c1, rfl, ⟨gk, gs, cs, mb, D5, dv, kk, xs, q1, q2, q3, fun q hq => Nat.le_trans hww (qn q hq), q4, q5, q6, q7, qr, by show w.heap.size ≤ gk; omega, by show w.heap.size ≤ gs; omega, by show w.heap.size ≤ mb; omega⟩, HR.out.2.2.1.turn q8 (by show a0 ≠ B; omega), HR.out.2.2.2.turn q8 (by show a1 ≠ B; omega), (Turn.of_ext HX.out).trans q8, r8, r9⟩
end Go.Proofs.Ytmnjhhachdlmkaa
