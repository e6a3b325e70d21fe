import Derived.Test.YtmnjhhachdlmkaaRefill
import Derived.Test.YtmnjhhachdlmkaaAskF
import Derived.Test.YtmnjhhachdlmkaaLaw1
namespace Go.Proofs.Ytmnjhhachdlmkaa
open Go.RowKit Go.Maps

set_option maxRecDepth 100000 in
set_option maxHeartbeats 1600000 in
theorem dealerRefill_c {kd m k n : Nat} {s : Sh} (hc : ofCls kd m k n s) (hs : s.ok) (hcls : isCls kd m k n = true) (B b off len cap : Nat) (D : List Int) (hl : D.length = len) (hlen : len = s.x + s.y + (s.x + s.y + s.z)) (hcap : len ≤ cap) (hbB : b ≠ B) (w : World) (hz : WordsAt w b off D)
    (hu0 : inU64 (part0 s D)) (hu1 : inU64 (part1 s D)) (h : DealAt w B (.slice none 0 0) (.slice none 0 0) (.slice none 0 0) false 0 false) :
    Calls Try.prog 32 #[.pointer (some ⟨B, 0, none⟩), clsV kd m k n, .slice (some ⟨b, off, none⟩) len cap] w fun e w' =>
      ∃ a0 c0 a1 c1, e = .returned (.int .i64 0) ∧ Fresh1 w' B kd m k n a0 a1 (s.x + s.y + s.z) c0 c1 0 (.slice none 0 0) (fun q => w.heap.size ≤ q) ∧
        WordsU w' a0 (part0 s D) ∧ WordsU w' a1 (part1 s D) ∧ Turn (fun b => b = B) w w' ∧ w.heap.size ≤ a0 ∧ w.heap.size ≤ a1 := by
  have HR : Hid (∀ w', Ext w w' → _) := fun w' hx => refill1_c hc hs hcls B b off len cap D hl hlen hcap hbB w' (hz.ext hx) hu0 hu1 (hx.block h)
  have hBl := h.lt
  clear hc hs hcls hl hlen hz hu0 hu1 h
  generalize part0 s D = P0 at *
  generalize part1 s D = P1 at *
  generalize s.x + s.y + s.z = L at *
  unfold clsV at *
  go_enter Try.func32, Try.ntmps32
  go_wp2_with fail
  have hcl := four_in (Ext.refl (w.alloc (.cells #[.int .i64 kd, .int .i64 m, .int .i64 k, .int .i64 n] 23)))
  have hX0 : Ext w (w.alloc (.cells #[.int .i64 kd, .int .i64 m, .int .i64 k, .int .i64 n] 23)) := (Ext.refl w).alloc _
  generalize World.alloc w _ = W at hcl hX0 ⊢
  obtain ⟨d0, d1, d2, d3⟩ := hcl
  have HX0 : Hid (Ext w W) := hX0
  have hWl := hX0.le
  clear hX0
  go_region_held3 (fun w' => w'.cell? ⟨w.heap.size, 0, none⟩ = some (.int .i64 kd) ∧ w'.cell? ⟨w.heap.size, 1, none⟩ = some (.int .i64 m) ∧ w'.cell? ⟨w.heap.size, 2, none⟩ = some (.int .i64 k) ∧ w'.cell? ⟨w.heap.size, 3, none⟩ = some (.int .i64 n))
    (first | exact ⟨d0, d1, d2, d3⟩ | exact S1)
    (first
      | (go_at_call 43
         refine (HR.out _ (Ext.drew HX0.out)).mono ?_
         rintro e w1 ⟨a0, c0, a1, c1, rfl, q1, q2, q3, q4, q5, q6⟩
         have S1 : w1.cell? ⟨w.heap.size, 0, none⟩ = some (.int .i64 kd) ∧ w1.cell? ⟨w.heap.size, 1, none⟩ = some (.int .i64 m) ∧ w1.cell? ⟨w.heap.size, 2, none⟩ = some (.int .i64 k) ∧ w1.cell? ⟨w.heap.size, 3, none⟩ = some (.int .i64 n) := ⟨q4.cell d0 (by show w.heap.size ≠ B; omega), q4.cell d1 (by show w.heap.size ≠ B; omega), q4.cell d2 (by show w.heap.size ≠ B; omega), q4.cell d3 (by show w.heap.size ≠ B; omega)⟩))
  have HQ : Hid _ := And.intro q1 (And.intro q2 (And.intro q3 (And.intro q4 (And.intro q5 q6))))
  clear q1 q2 q3 q4 q5 q6
  go_wp2
  go_ret
  obtain ⟨⟨gk, gs, cs, mb, D5, dv, kk, xs, p1, p2, p3, pn, p4, p5, p6, p7, p8, p9, p10, p11⟩, q2, q3, q4, q5, q6⟩ := HQ.out
  have e0 : W.drew.heap.size = W.heap.size := rfl
  rw [e0] at p9 p10 p11 q5 q6
  exact ⟨a0, c0, a1, c1, rfl, ⟨gk, gs, cs, mb, D5, dv, kk, xs, p1, p2, p3, fun q hq => by have h := pn q hq; rw [e0] at h; show w.heap.size ≤ q; omega, p4, p5, p6, p7, p8, by show w.heap.size ≤ gk; omega, by show w.heap.size ≤ gs; omega, by show w.heap.size ≤ mb; omega⟩, q2, q3, (Turn.of_ext (Ext.drew HX0.out)).trans q4, by omega, by omega⟩

set_option maxRecDepth 100000 in
set_option maxHeartbeats 1600000 in
theorem both_c {kd m k n : Nat} {s : Sh} (hc : ofCls kd m k n s) (hs : s.ok) (hcls : isCls kd m k n = true) (b off len cap : Nat) (D : List Int) (hl : D.length = len) (hlen : len = s.x + s.y + (s.x + s.y + s.z)) (hcap : len ≤ cap) (w : World) (hz : WordsAt w b off D) (hu0 : inU64 (part0 s D)) (hu1 : inU64 (part1 s D)) :
    Calls Try.prog 16 #[clsV kd m k n, .slice (some ⟨b, off, none⟩) len cap] w fun e w' =>
      ∃ g0 c0 g1 c1, e = .returned (.tuple #[.slice (some ⟨g0, 0, none⟩) (s.x + s.y + s.z) c0, .slice (some ⟨g1, 0, none⟩) (s.x + s.y + s.z) c1, .bool true]) ∧ WordsAt w' g0 0 (part0 s D) ∧ WordsAt w' g1 0 (part1 s D) ∧ Ext w w' := by
  have hbl : b < w.heap.size := World.block_lt_of_cell? w _ (hz 0 (by have := Sh.le hs; omega))
  have hle := Sh.le hs
  have hP0 : (part0 s D).length = s.x + s.y + s.z := by rw [part0, List.length_drop]; omega
  have hP1 : (part1 s D).length = s.x + s.y + s.z := by rw [part1, List.length_zipWith, whole_len s D (hl.trans hlen), hP0]; omega
  have hkd3 : kd ≤ 2 ∧ m ≤ 3 ∧ k ≤ 3 ∧ n ≤ 3 := by
    obtain ⟨h1, h2, h3, h4, h5, h6, h7, h8, h9⟩ := hs
    rcases hc with ⟨rfl, rfl, rfl, rfl⟩ | ⟨h, rfl⟩
    · simp at *; omega
    · simp at *; omega
  have HRf : Hid (∀ B w', b ≠ B → Ext w w' → DealAt w' B (.slice none 0 0) (.slice none 0 0) (.slice none 0 0) false 0 false → _) := fun B w' hbB hx h => dealerRefill_c hc hs hcls B b off len cap D hl hlen hcap hbB w' (hz.ext hx) hu0 hu1 h
  have HP : Hid _ := And.intro hP0 hP1
  clear hcls hl hz hu0 hu1 hP0 hP1
  generalize part0 s D = P0 at *
  generalize part1 s D = P1 at *
  have hL : 1 ≤ s.x + s.y + s.z ∧ s.x + s.y + s.z ≤ 27 := by omega
  generalize s.x + s.y + s.z = L at *
  clear hc hs hlen hle
  have HLe : Hid _ := keepLease_c 5 6 kd m k n 1
  have HFe : Hid _ := fun p => keepFetch_c 5 kd m k n 0 1 p
  unfold clsV at *
  go_enter Try.func16, Try.ntmps16
  go_wp2_with fail
  refine (opened_c _).mono ?_
  rintro e w1 ⟨rfl, rfl⟩
  have hcl := four_in (Ext.refl (w.alloc (.cells #[.int .i64 kd, .int .i64 m, .int .i64 k, .int .i64 n] 23)))
  have hcb0 : (w.alloc (.cells #[.int .i64 kd, .int .i64 m, .int .i64 k, .int .i64 n] 23)).heap[w.heap.size]? = some (.cells #[.int .i64 kd, .int .i64 m, .int .i64 k, .int .i64 n] 23 (0, 0)) := heap_alloc_new _ _
  have hX0 : Ext w (w.alloc (.cells #[.int .i64 kd, .int .i64 m, .int .i64 k, .int .i64 n] 23)) := (Ext.refl w).alloc _
  have hl0 : (w.alloc (.cells #[.int .i64 kd, .int .i64 m, .int .i64 k, .int .i64 n] 23)).heap.size = w.heap.size + 1 := by simp
  generalize World.alloc w (.cells #[.int .i64 kd, .int .i64 m, .int .i64 k, .int .i64 n] 23) = W0 at hcl hcb0 hX0 hl0 ⊢
  obtain ⟨d0, d1, d2, d3⟩ := hcl
  have hd1 : DealAt (W0.alloc (.cells #[.slice none 0 0, .slice none 0 0, .slice none 0 0, .bool false, .int .i64 0, .bool false] 94)) W0.heap.size (.slice none 0 0) (.slice none 0 0) (.slice none 0 0) false 0 false := heap_alloc_new _ _
  have hX1 : Ext W0 (W0.alloc (.cells #[.slice none 0 0, .slice none 0 0, .slice none 0 0, .bool false, .int .i64 0, .bool false] 94)) := (Ext.refl W0).alloc _
  generalize World.alloc W0 _ = W1 at hd1 hX1 ⊢
  obtain ⟨B, hBE⟩ : ∃ B, W0.heap.size = B := ⟨_, rfl⟩
  rw [hBE] at hd1 ⊢
  have hBl := hd1.lt
  have hcb1 := hX1.block hcb0
  have d0 := hX1.cell d0
  have d1 := hX1.cell d1
  have d2 := hX1.cell d2
  have d3 := hX1.cell d3
  have HX1 : Hid (Ext w W1) := hX0.trans hX1
  have HD1 : Hid _ := hd1
  have hBw : w.heap.size + 1 = B := by omega
  clear hX0 hX1 hd1 hBE hl0 hcb0
  go_wp2_with fail
  refine (HRf.out B W1 (by omega) HX1.out HD1.out).mono ?_
  rintro e w2 ⟨a0, c0, a1, c1, rfl, hfr, hu0, hu1, ht2, hla0, hla1⟩
  obtain ⟨gk, gs, cs, mb, D5, dv, kk, xs, p1, p2, p3, pn, p4, p5, p6, p7, p8, p9, p10, p11⟩ := hfr
  have d0 := ht2.cell d0 (by show w.heap.size ≠ B; omega)
  have d1 := ht2.cell d1 (by show w.heap.size ≠ B; omega)
  have d2 := ht2.cell d2 (by show w.heap.size ≠ B; omega)
  have d3 := ht2.cell d3 (by show w.heap.size ≠ B; omega)
  have hgkgs : gk ≠ gs := fun e => by
    have h1 := cell_at p4 (i := 0) rfl
    rw [e, p7] at h1
    simp at h1
  obtain ⟨cur, hcur⟩ := p8
  have HPre : Hid (PreL w2 B gk gs cs mb kd m k n kk dv xs) := ⟨by omega, by omega, by omega, by omega, p3, by omega, hgkgs, ⟨p1, p7, p4⟩, p2, row_ne (B := gs) (t := 155) hcur p2 (by decide)⟩
  have HM : Hid _ := And.intro p5 (And.intro p6 (And.intro hu0 (And.intro hu1 p2)))
  have HT2 : Hid (Turn (fun b => b = B) W1 w2) := ht2
  have HX2 : Hid (Ext w w2) := ⟨(ht2.os).trans (Below.os HX1.out), (ht2.tape).trans (Below.tape HX1.out), (ht2.output).trans (Below.output HX1.out), Nat.le_trans HX1.out.le ht2.size, fun q hq => (ht2.block q (Nat.lt_of_lt_of_le hq HX1.out.le) (by omega)).trans (Below.block HX1.out q hq)⟩
  have HOld : Hid (∀ q, q < w.heap.size → dv.ownBlock ≠ some q) := fun q hq e => by have h := pn q e; have h2 := HX1.out.le; omega
  have HCB : Hid (w2.heap[w.heap.size]? = some (.cells #[.int .i64 kd, .int .i64 m, .int .i64 k, .int .i64 n] 23 (0, 0))) := ht2.ref hcb1 (by show w.heap.size ≠ B; omega)
  have HGE : Hid (W1.heap.size ≤ gk ∧ W1.heap.size ≤ mb ∧ W1.heap.size ≤ gs) := ⟨p9, p11, p10⟩
  clear p1 p2 p3 pn p4 p5 p6 p7 p9 p10 p11 hcur hu0 hu1 ht2 hcb1
  go_wp2_with fail
  refine (HLe.out _).mono ?_
  rintro e w3 ⟨rfl, hx3⟩
  have d0 := hx3.cell d0
  have d1 := hx3.cell d1
  have d2 := hx3.cell d2
  have d3 := hx3.cell d3
  have HX3 : Hid (Ext w2 w3) := hx3
  clear hx3
  go_wp2_with fail
  have hA := askLease_c B gk gs cs mb 5 6 kd m k n kk dv xs (by omega) (by omega) w3 (HPre.out.ext HX3.out)
  unfold replyV at hA
  refine hA.mono ?_
  clear hA
  rintro e w4 ⟨rfl, hl4⟩
  obtain ⟨g, cp, dv', q1, q2, q3, q4⟩ := hl4
  have hsz2 := HT2.out.size
  have hsz3 := HX3.out.le
  have hwB : w.heap.size + 1 = B := hBw
  have hdvb : ∀ q, dv.ownBlock = some q → ∃ cur, w3.heap[q]? = some (.cells cur 154 (0, 0)) := fun q hq => by
    rcases (HX3.out.owns HM.out.2.2.2.2).2 with ⟨rfl, _⟩ | ⟨g', cap', cur, rfl, _, hh, _⟩
    · simp [Value.ownBlock] at hq
    · simp [Value.ownBlock] at hq
      subst hq
      exact ⟨cur, hh⟩
  have hmapb : ∃ es clock, w3.heap[mb]? = some (.map es clock) := by
    obtain ⟨es, clock, hh, _⟩ := ownsMap_ext HM.out.1 HX3.out
    exact ⟨es, clock, hh⟩
  have hnmb : ¬ (mb = B ∨ mb = gk ∨ dv.ownBlock = some mb) := fun e => by
    obtain ⟨es, clock, hh⟩ := hmapb
    rcases e with e | e | e
    · have := HGE.out.2.1; omega
    · have h1 := HX3.out.block HPre.out.one.stk
      rw [← e, hh] at h1; simp at h1
    · obtain ⟨cur, hc⟩ := hdvb mb e
      rw [hh] at hc; simp at hc
  have hnw : ∀ (a : Nat) (zs : List Int), WordsU w3 a zs → W1.heap.size ≤ a → ¬ (a = B ∨ a = gk ∨ dv.ownBlock = some a) := fun a zs hu hla e => by
    obtain ⟨cur, hc⟩ := hu.2
    rcases e with e | e | e
    · omega
    · have h1 := HX3.out.block HPre.out.one.stk
      rw [← e, hc] at h1; simp at h1
    · obtain ⟨cur', hc'⟩ := hdvb a e
      rw [hc] at hc'; simp at hc'
  have hnc : ¬ (w.heap.size = B ∨ w.heap.size = gk ∨ dv.ownBlock = some w.heap.size) := fun e => by
    rcases e with e | e | e
    · omega
    · have := HGE.out.1; omega
    · obtain ⟨cur', hc'⟩ := hdvb _ e
      have h1 : w3.cell? ⟨w.heap.size, 0, none⟩ = some (.int .i64 kd) := d0
      have h2 := HCB.out
      have h3 := HX3.out.block h2
      rw [hc'] at h3; simp at h3
  have d0 := q3.cell d0 hnc
  have d1 := q3.cell d1 hnc
  have d2 := q3.cell d2 hnc
  have d3 := q3.cell d3 hnc
  have hmp4 : w4.ownsMap Try.prog 3 heldElem mb 1 D5 := by
    obtain ⟨es, clock, hh, r⟩ := ownsMap_ext HM.out.1 HX3.out
    exact ⟨es, clock, q3.ref hh hnmb, r⟩
  have HPost : Hid (PostL w4 B gk gs cs mb g cp kd m k n 5 6 a0 a1 L c0 c1 dv' D5 P0 P1) := ⟨q1, q2, hmp4, HM.out.2.1, ((HM.out.2.2.1.ext HX3.out).turn q3 (hnw a0 _ (HM.out.2.2.1.ext HX3.out) hla0)).1, ((HM.out.2.2.2.1.ext HX3.out).turn q3 (hnw a1 _ (HM.out.2.2.2.1.ext HX3.out) hla1)).1⟩
  have hold : ∀ q, q < w.heap.size → ¬ (q = B ∨ q = gk ∨ dv.ownBlock = some q) := fun q hq e => by
    rcases e with e | e | e
    · omega
    · have := HGE.out.1; omega
    · exact HOld.out q hq e
  have HX4 : Hid (Ext w w4) := ⟨(q3.os).trans (Below.os (HX2.out.trans HX3.out)), (q3.tape).trans (Below.tape (HX2.out.trans HX3.out)), (q3.output).trans (Below.output (HX2.out.trans HX3.out)), Nat.le_trans (HX2.out.trans HX3.out).le q3.size, fun q hq => (q3.block q (Nat.lt_of_lt_of_le hq (HX2.out.trans HX3.out).le) (hold q hq)).trans (Below.block (HX2.out.trans HX3.out) q hq)⟩
  clear q1 q2 q3 q4 hmp4 hdvb hmapb hnmb hnw hnc hold
  have hy : Ext w4 (w4.alloc (.cells #[.int .i64 0, .int .i64 0, .int .i64 1, .slice none 0 0] 29)) := (Ext.refl w4).alloc _
  have d0 := hy.cell d0
  have d1 := hy.cell d1
  have d2 := hy.cell d2
  have d3 := hy.cell d3
  go_wp2_with fail
  refine (HFe.out 0 _).mono ?_
  rintro e w5 ⟨rfl, hxa⟩
  obtain ⟨l0, l1, l2, l3⟩ := four_in hxa
  have d0 := hxa.cell d0
  have d1 := hxa.cell d1
  have d2 := hxa.cell d2
  have d3 := hxa.cell d3
  have HXa1 : Hid (Ext w4 w5) := hy.trans hxa
  clear hxa hy
  go_wp2_with fail
  have hA := askFetch_c B gk gs cs mb g cp kd m k n 5 6 a0 a1 L c0 c1 dv' D5 P0 P1 P0 0 (.inl ⟨rfl, rfl⟩) HP.out.1 HP.out.2 hL.1 hL.2 (by omega) (by omega) (by omega) (by omega) (by omega) _ (HPost.out.ext HXa1.out)
  unfold replyV at hA
  refine hA.mono ?_
  clear hA
  rintro e w6 ⟨g0, v0, rfl, hov0, hxb⟩
  have l0 := hxb.cell l0
  have l1 := hxb.cell l1
  have l2 := hxb.cell l2
  have d0 := hxb.cell d0
  have d1 := hxb.cell d1
  have d2 := hxb.cell d2
  have d3 := hxb.cell d3
  have HXb1 : Hid (Ext w4 w6) := HXa1.out.trans hxb
  have HV0 : Hid _ := And.intro (owns_words hov0) hxb
  clear hxb hov0
  have hy : Ext w6 (w6.alloc (.cells #[.int .i64 0, .int .i64 0, .int .i64 1, .slice (some ⟨g0, 0, none⟩) L v0] 29)) := (Ext.refl w6).alloc _
  have l0 := hy.cell l0
  have l1 := hy.cell l1
  have l2 := hy.cell l2
  have d0 := hy.cell d0
  have d1 := hy.cell d1
  have d2 := hy.cell d2
  have d3 := hy.cell d3
  go_wp2_with fail
  refine (HFe.out 1 _).mono ?_
  rintro e w7 ⟨rfl, hxa⟩
  obtain ⟨f0, f1, f2, f3⟩ := four_in hxa
  have l0 := hxa.cell l0
  have l1 := hxa.cell l1
  have l2 := hxa.cell l2
  have d0 := hxa.cell d0
  have d1 := hxa.cell d1
  have d2 := hxa.cell d2
  have d3 := hxa.cell d3
  have HXa2 : Hid (Ext w4 w7) := HXb1.out.trans (hy.trans hxa)
  have H67 : Hid (Ext w6 w7) := hy.trans hxa
  clear hxa hy
  go_wp2_with fail
  have hA := askFetch_c B gk gs cs mb g cp kd m k n 5 6 a0 a1 L c0 c1 dv' D5 P0 P1 P1 1 (.inr ⟨rfl, rfl⟩) HP.out.1 HP.out.2 hL.1 hL.2 (by omega) (by omega) (by omega) (by omega) (by omega) _ (HPost.out.ext HXa2.out)
  unfold replyV at hA
  refine hA.mono ?_
  clear hA
  rintro e w8 ⟨g1, v1, rfl, hov1, hxb⟩
  clear d0 d1 d2 d3
  have hy : Ext w8 (w8.alloc (.cells #[.int .i64 0, .int .i64 0, .int .i64 1, .slice (some ⟨g1, 0, none⟩) L v1] 29)) := (Ext.refl w8).alloc _
  have l0 := hy.cell (hxb.cell l0)
  have l1 := hy.cell (hxb.cell l1)
  have l2 := hy.cell (hxb.cell l2)
  have f0 := hy.cell (hxb.cell f0)
  have f3 := hy.cell (hxb.cell f3)
  obtain ⟨h0, h1, h2, h3⟩ := four_in (Ext.refl (w8.alloc (.cells #[.int .i64 0, .int .i64 0, .int .i64 1, .slice (some ⟨g1, 0, none⟩) L v1] 29)))
  have HXb2 : Hid (Ext w4 w8) := HXa2.out.trans hxb
  have H68 : Hid (Ext w6 w8) := H67.out.trans hxb
  have HY8 : Hid _ := hy
  have HV1 : Hid _ := And.intro (owns_words hov1) hxb
  clear hxb hov1 hy h1 h2 l3 f1 f2
  go_wp2
  go_quiet (fail)
  go_wp2
  go_ret3
  exact ⟨g0, v0, g1, v1, rfl, HV0.out.1.ext (H68.out.trans (Ext.drewN HY8.out _)), HV1.out.1.ext (Ext.drewN HY8.out _), HX4.out.trans (HXb2.out.trans (Ext.drewN HY8.out _))⟩
end Go.Proofs.Ytmnjhhachdlmkaa
