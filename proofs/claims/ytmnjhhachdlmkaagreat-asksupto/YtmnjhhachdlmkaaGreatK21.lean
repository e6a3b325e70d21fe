import Derived.Test.YtmnjhhachdlmkaaGreatK18
import Derived.Test.YtmnjhhachdlmkaaGreatK19
import Derived.Test.YtmnjhhachdlmkaaGreatK20
namespace Go.Proofs.YtmnjhhachdlmkaaGreat
open World renaming block_lt_of_cell? -> lG
open Value renaming ownBlock -> lH
-- JBo
section
set_option maxRecDepth 100000
set_option maxHeartbeats 1600000
open Go.RowKit Go.Maps
theorem keepOps_set {n j : Nat} {mz : Int} {xs : List Value} (hl : xs.length = n * 4) (hj : j < n) (h : MkRow 4 [.int .i64 mz, .string ⟨#[]⟩, .string ⟨#[]⟩, .string ⟨#[]⟩] j xs) : MkRow 4 [.int .i64 mz, .string ⟨#[]⟩, .string ⟨#[]⟩, .string ⟨#[]⟩] (j + 1) ((((xs.set (j * 4) (.int .i64 mz)).set (j * 4 + 1) (.string ⟨#[]⟩)).set (j * 4 + 2) (.string ⟨#[]⟩)).set (j * 4 + 3) (.string ⟨#[]⟩)) := by
 intro i hi k u hu
 have hk : k < 4 := (List.getElem?_eq_some_iff.1 hu).1
 by_cases e : i < j
 ·rw [List.getElem?_set_ne (by omega), List.getElem?_set_ne (by omega), List.getElem?_set_ne (by omega), List.getElem?_set_ne (by omega)]
  exact h i e k u hu
 ·obtain rfl : i = j := by omega
  rcases (show k = 0 \/ k = 1 \/ k = 2 \/ k = 3 by omega) with rfl | rfl | rfl | rfl
  ·show _[i * 4 + 0]? = _
   simp only [Nat.add_zero]
   rw [List.getElem?_set_ne (by omega), List.getElem?_set_ne (by omega), List.getElem?_set_ne (by omega), List.getElem?_set_self (by (try simp only [List.length_set]); omega)]
   simpa using hu
  ·rw [List.getElem?_set_ne (by omega), List.getElem?_set_ne (by omega), List.getElem?_set_self (by (try simp only [List.length_set]); omega)]
   simpa using hu
  ·rw [List.getElem?_set_ne (by omega), List.getElem?_set_self (by (try simp only [List.length_set]); omega)]
   simpa using hu
  ·rw [List.getElem?_set_self (by (try simp only [List.length_set]); omega)]
   simpa using hu
theorem keepOps_c {G : Nat -> Prop} (P m base : Nat) (pcs : Array Value) (hps : pcs.size = 11) (bv : Value) (hb : pcs[10]? = some bv) (la : Option Addr) (n lcap : Nat) (xs0 : List Value) (hm : m <= 1000000) (hn : n <= 100000000) (w : World) (hP : w.heap[P]? = some (.cells pcs 94 (0, 0))) (hbk : BookRow w G 69 4 mkO bv m) (ho : w.ownsRow base 134 4 (.slice la n lcap) n xs0) (hGl : ∀ q, lH (.slice la n lcap) = some q -> ¬ G q) (hGb : ∀ q, bv.ownBlock = some q -> ¬ G q) (hGs : ∀ q, G q -> q < w.heap.size) (hGP : ¬ G P) (hbw : base <= w.heap.size) :
  Calls Tryz.prog 68 #[.pointer (some ⟨P, 7, none⟩), .slice la n lcap] w fun e w' => e = .returned (.tuple #[]) /\ ∃ bv', w'.heap[P]? = some (.cells (pcs.setIfInBounds 10 bv') 94 (0, 0)) /\ (∃ G', (∀ q, G q -> G' q) /\ (∀ q, G' q -> G q \/ lH (.slice la n lcap) = some q \/ (w.heap.size <= q /\ q < w'.heap.size)) /\ (∀ q, bv'.ownBlock = some q -> ¬ G' q) /\ ¬ G' P /\ BookRow w' G' 69 4 mkO bv' (m + 1)) /\ (∀ q, bv'.ownBlock = some q -> bv.ownBlock = some q \/ w.heap.size <= q) /\ Turn (fun b => b = P \/ bv.ownBlock = some b \/ lH (.slice la n lcap) = some b) w w' := by
 obtain ⟨i0, hi, hz0, hz1, hz2⟩ := info_parts infoOp
 obtain ⟨k0, hk0, hw0, hw1, hw2⟩ := info_parts infoSlO
 obtain ⟨vs, hvo, hvm⟩ := hbk
 obtain ⟨bn, hbn⟩ : ∃ bn, 4 * m = bn := ⟨_, rfl⟩
 rw [hbn] at hvo
 have HBN : Hid (4 * m = bn) := hbn
 have hbnb : bn <= 4000000 := by omega
 have hq4 : Int.tdiv (bn : Int) 4 = (m : Int) := by rw [<- hbn, Int.natCast_mul, Int.mul_comm]; exact Int.mul_tdiv_cancel _ (by decide)
 obtain ⟨mz, hmz⟩ : ∃ mz : Int, -1 - (m : Int) = mz := ⟨_, rfl⟩
 have hwz : IntKind.i64.wrap (-1 - (m : Int)) = mz := by rw [<- hmz]; rw [IntKind.wrap_i64]; omega
 have HMZ : Hid (mkO m = [.int .i64 mz, .string ⟨#[]⟩, .string ⟨#[]⟩, .string ⟨#[]⟩]) := by
  show mkO m = _
  rw [<- hmz]; rfl
 obtain ⟨ba, bcap, rfl⟩ := owns_slice hvo
 have HB : Hid (w.ownsRow 0 69 1 (.slice ba bn bcap) bn vs) := hvo
 have HV : Hid (∀ k (h : k < vs.length), Marked w G 4 (mkO (k / 4)) vs[k]) := hvm
 have HO0 : Hid (w.ownsRow base 134 4 (.slice la n lcap) n xs0) := ho
 have HG1 : Hid (∀ q, lH (.slice la n lcap) = some q -> ¬ G q) := hGl
 have HG2 : Hid (∀ q, lH (.slice ba bn bcap) = some q -> ¬ G q) := hGb
 have HG3 : Hid (∀ q, G q -> q < w.heap.size) := hGs
 have HP : Hid (w.heap[P]? = some (.cells pcs 94 (0, 0))) := hP
 have HPS : Hid (pcs.size = 11 /\ pcs[10]? = some (.slice ba bn bcap) /\ ¬ G P) := ⟨hps, hb, hGP⟩
 have HLP : Hid (lH (.slice la n lcap) ≠ some P) := row_ne (B := P) hP ho (by decide)
 have HBP : Hid (lH (.slice ba bn bcap) ≠ some P) := row_ne (B := P) hP hvo (by decide)
 have HLB : Hid (∀ q, lH (.slice la n lcap) = some q -> q < w.heap.size) := fun q hq => owns_lt ho hq
 have HBB : Hid (∀ q, lH (.slice ba bn bcap) = some q -> q < w.heap.size /\ lH (.slice la n lcap) ≠ some q) := fun q hq => ⟨owns_lt hvo hq, fun e => by
  obtain ⟨cur, hc⟩ := owns_block hvo hq
  obtain ⟨cur', hc'⟩ := owns_block ho e
  exact type_ne hc hc' (by decide) rfl⟩
 have y : w.cell? ⟨P, 10, none⟩ = some (.slice ba bn bcap) := cell_at hP hb
 have hPl := lG w _ y
 clear hvo hvm ho hGl hGb hGs hP hps hb hbn hmz hGP
 go_enter Tryz.func68, Tryz.ntmps68
 go_wp2_with fail
 have hmk : (w.alloc (.cells #[.int .i64 mz, .string ⟨#[]⟩, .string ⟨#[]⟩, .string ⟨#[]⟩] 134)).heap[w.heap.size]? = some (.cells #[.int .i64 mz, .string ⟨#[]⟩, .string ⟨#[]⟩, .string ⟨#[]⟩] 134 (0, 0)) := heap_alloc_new _ _
 have hXW : Ext w (w.alloc (.cells #[.int .i64 mz, .string ⟨#[]⟩, .string ⟨#[]⟩, .string ⟨#[]⟩] 134)) := (Ext.refl w).alloc _
 obtain ⟨mb, hmb⟩ : ∃ mb, w.heap.size = mb := ⟨_, rfl⟩
 rw [hmb] at hmk
 simp only [hmb]
 generalize World.alloc w _ = W at hmk hXW ⊢
 have HMB : Hid (w.heap.size = mb) := hmb
 have HMK : Hid (W.heap[mb]? = some (.cells #[.int .i64 mz, .string ⟨#[]⟩, .string ⟨#[]⟩, .string ⟨#[]⟩] 134 (0, 0))) := hmk
 have HXW : Hid (Ext w W) := hXW
 clear hmb hmk hXW
 go_loopw [5] (fun at_ wr => ∃ (j : Nat) (xs : List Value), j <= n /\ at_ = .int .i64 (j : Int) /\ wr.ownsRow base 134 4 (.slice la n lcap) n xs /\ MkRow 4 [.int .i64 mz, .string ⟨#[]⟩, .string ⟨#[]⟩, .string ⟨#[]⟩] j xs /\ Turn (fun b => lH (.slice la n lcap) = some b) W wr /\ wr.heap[mb]? = some (.cells #[.int .i64 mz, .string ⟨#[]⟩, .string ⟨#[]⟩, .string ⟨#[]⟩] 134 (0, 0))) (fun at_ _ => n - (intOf at_).toNat)
 case atStart => exact ⟨0, xs0, Nat.zero_le _, rfl, HXW.out.owns HO0.out, fun i hi => absurd hi (Nat.not_lt_zero _), Turn.refl _ _, HMK.out⟩
 case round =>
  obtain ⟨j, xs, hj, rfl, ho, hmr, ht, hmk⟩ := hrel
  have HR0 : Hid (wr.ownsRow base 134 4 (.slice la n lcap) n xs) := ho
  have HMR : Hid (MkRow 4 [.int .i64 mz, .string ⟨#[]⟩, .string ⟨#[]⟩, .string ⟨#[]⟩] j xs) := hmr
  have HT : Hid (Turn (fun b => lH (.slice la n lcap) = some b) W wr) := ht
  have HM : Hid (wr.heap[mb]? = some (.cells #[.int .i64 mz, .string ⟨#[]⟩, .string ⟨#[]⟩, .string ⟨#[]⟩] 134 (0, 0))) := hmk
  clear ho hmr ht hmk
  by_cases hlt : j < n
  ·obtain ⟨gl, rfl⟩ : ∃ g, la = some ⟨g, 0, none⟩ := by
    rcases owns_form HR0.out with ⟨_, h2, _⟩ | ⟨g, c, h1, _⟩
    ·omega
    ·injection h1 with e1 _ _
     exact ⟨g, e1⟩
   have HO : Hid (wr.ownsRow base 134 4 (.slice (some ⟨gl, 0, none⟩) n lcap) n xs) := HR0.out
   have hk0 : (0 : Int) <= (j : Int) := by omega
   have hk1 : (j : Int) < n := by omega
   have c0 : ∃ u, wr.cell? ⟨gl, j * 4, none⟩ = some u := by
    have hl0 : j * 4 < xs.length := by rw [HO.out.1]; omega
    exact ⟨_, owns_cell HO.out (List.getElem?_eq_getElem hl0)⟩
   obtain ⟨old0, c0⟩ := c0
   have z0 : wr.frozen? ⟨gl, j * 4, none⟩ = false := by
    obtain ⟨cur, hc⟩ := owns_block HO.out (g := gl) rfl
    exact frozen_row hc _
   have c1 : ∃ u, wr.cell? ⟨gl, j * 4 + 1, none⟩ = some u := by
    have hl1 : j * 4 + 1 < xs.length := by rw [HO.out.1]; omega
    exact ⟨_, owns_cell HO.out (List.getElem?_eq_getElem hl1)⟩
   obtain ⟨old1, c1⟩ := c1
   have z1 : wr.frozen? ⟨gl, j * 4 + 1, none⟩ = false := by
    obtain ⟨cur, hc⟩ := owns_block HO.out (g := gl) rfl
    exact frozen_row hc _
   have c2 : ∃ u, wr.cell? ⟨gl, j * 4 + 2, none⟩ = some u := by
    have hl2 : j * 4 + 2 < xs.length := by rw [HO.out.1]; omega
    exact ⟨_, owns_cell HO.out (List.getElem?_eq_getElem hl2)⟩
   obtain ⟨old2, c2⟩ := c2
   have z2 : wr.frozen? ⟨gl, j * 4 + 2, none⟩ = false := by
    obtain ⟨cur, hc⟩ := owns_block HO.out (g := gl) rfl
    exact frozen_row hc _
   have c3 : ∃ u, wr.cell? ⟨gl, j * 4 + 3, none⟩ = some u := by
    have hl3 : j * 4 + 3 < xs.length := by rw [HO.out.1]; omega
    exact ⟨_, owns_cell HO.out (List.getElem?_eq_getElem hl3)⟩
   obtain ⟨old3, c3⟩ := c3
   have z3 : wr.frozen? ⟨gl, j * 4 + 3, none⟩ = false := by
    obtain ⟨cur, hc⟩ := owns_block HO.out (g := gl) rfl
    exact frozen_row hc _
   have m0 : wr.cell? ⟨mb, 0, none⟩ = some (.int .i64 mz) := cell_at HM.out rfl
   have m1 : wr.cell? ⟨mb, 1, none⟩ = some (.string ⟨#[]⟩) := cell_at HM.out rfl
   have m2 : wr.cell? ⟨mb, 2, none⟩ = some (.string ⟨#[]⟩) := cell_at HM.out rfl
   have m3 : wr.cell? ⟨mb, 3, none⟩ = some (.string ⟨#[]⟩) := cell_at HM.out rfl
   have hgl := lG wr _ c0
   have hne : gl ≠ mb := by have := HLB.out gl rfl; have := HMB.out; omega
   go_wp2
   go_roundw
   case rel =>
    refine ⟨j + 1, _, by omega, by go_num, (owns_set (owns_set (owns_set (owns_set HO.out (j * 4) _) (j * 4 + 1) _) (j * 4 + 2) _) (j * 4 + 3) _), keepOps_set HO.out.1 hlt HMR.out, (Turn.setCell (S := fun b => lH (.slice (some ⟨gl, 0, none⟩) n lcap) = some b) (p := ⟨gl, j * 4 + 3, none⟩) (Turn.setCell (S := fun b => lH (.slice (some ⟨gl, 0, none⟩) n lcap) = some b) (p := ⟨gl, j * 4 + 2, none⟩) (Turn.setCell (S := fun b => lH (.slice (some ⟨gl, 0, none⟩) n lcap) = some b) (p := ⟨gl, j * 4 + 1, none⟩) (Turn.setCell (S := fun b => lH (.slice (some ⟨gl, 0, none⟩) n lcap) = some b) (p := ⟨gl, j * 4, none⟩) HT.out (fun _ => rfl) _) (fun _ => rfl) _) (fun _ => rfl) _) (fun _ => rfl) _), (Turn.ref (S := fun b => b = gl) ((Turn.setCell (S := fun b => b = gl) (p := ⟨gl, j * 4 + 3, none⟩) (Turn.setCell (S := fun b => b = gl) (p := ⟨gl, j * 4 + 2, none⟩) (Turn.setCell (S := fun b => b = gl) (p := ⟨gl, j * 4 + 1, none⟩) (Turn.setCell (S := fun b => b = gl) (p := ⟨gl, j * 4, none⟩) (Turn.refl _ wr) (fun _ => rfl) _) (fun _ => rfl) _) (fun _ => rfl) _) (fun _ => rfl) _)) HM.out (fun e => hne e.symm))⟩
   case measure => simp [intOf]; omega
  ·obtain rfl : j = n := by omega
   clear hlt hj
   have y0 : wr.cell? ⟨P, 10, none⟩ = some (.slice ba bn bcap) := HT.out.cell (HXW.out.cell y) (by intro e; exact HLP.out e)
   have m0 : wr.cell? ⟨mb, 0, none⟩ = some (.int .i64 mz) := cell_at HM.out rfl
   have m1 : wr.cell? ⟨mb, 1, none⟩ = some (.string ⟨#[]⟩) := cell_at HM.out rfl
   have m2 : wr.cell? ⟨mb, 2, none⟩ = some (.string ⟨#[]⟩) := cell_at HM.out rfl
   have m3 : wr.cell? ⟨mb, 3, none⟩ = some (.string ⟨#[]⟩) := cell_at HM.out rfl
   have hszr := HT.out.size
   have hWw := HXW.out.le
   have hmbw := HMB.out
   go_wp2_with (at_builtin; refine wpList_append_keeps _ rfl _ _ 69 rfl base 134 i0 _ 4 56 Tryz.underlying69 hi hz0 hz1 hz2 rfl (by decide) (.slice la j lcap) j xs rfl (Ext.owns (Ext.alloc (Ext.refl _) _) HR0.out) ⟨_, 0, none⟩ 1 1 [.int .i64 mz, .string ⟨#[]⟩, .string ⟨#[]⟩, .string ⟨#[]⟩] rfl rfl (World.news_of_block (at_new (by simp))) (by simp [Value.oneCell']) (by decide) (by unfold maxLen; omega) (by omega) (by simp; omega) ?_)
   intro g1 cap1 w1 hown hkept hgrow hcase hlt
   have HR1 : Hid (w1.ownsRow base 134 4 (.slice (some ⟨g1, 0, none⟩) (j + 1) cap1) (j + 1) (xs ++ [.int .i64 mz, .string ⟨#[]⟩, .string ⟨#[]⟩, .string ⟨#[]⟩])) := hown
   have HK1 : Hid (w1.ownsRow base 134 4 (.slice la j lcap) j xs) := hkept
   have HT1 : Hid (Turn (fun b => lH (.slice la j lcap) = some b) wr w1) := Turn.grown (Turn.alloc (Turn.refl _ _) _) hgrow (fun q hq _ => hq)
   have HC1 : Hid (lH (.slice la j lcap) = some g1 \/ (Ext wr w1 /\ wr.heap.size <= g1)) := hcase.imp id (fun h => ⟨(Ext.alloc (Ext.refl _) _).trans h.1, by have := h.2; (try simp at this); omega⟩)
   have hsz1 := HT1.out.size
   clear hown hkept hgrow hcase hlt
   have m0 : w1.cell? ⟨mb, 0, none⟩ = some (.int .i64 mz) := HT1.out.cell m0 (by intro e; have := HLB.out mb e; omega)
   have m1 : w1.cell? ⟨mb, 1, none⟩ = some (.string ⟨#[]⟩) := HT1.out.cell m1 (by intro e; have := HLB.out mb e; omega)
   have m2 : w1.cell? ⟨mb, 2, none⟩ = some (.string ⟨#[]⟩) := HT1.out.cell m2 (by intro e; have := HLB.out mb e; omega)
   have m3 : w1.cell? ⟨mb, 3, none⟩ = some (.string ⟨#[]⟩) := HT1.out.cell m3 (by intro e; have := HLB.out mb e; omega)
   have y1 : w1.cell? ⟨P, 10, none⟩ = some (.slice ba bn bcap) := HT1.out.cell y0 (by intro e; exact HLP.out e)
   go_wp2_with (at_builtin; refine wpList_append_keeps _ rfl _ _ 69 rfl base 134 i0 _ 4 56 Tryz.underlying69 hi hz0 hz1 hz2 rfl (by decide) (.slice la j lcap) j xs rfl (Ext.owns (Ext.alloc (Ext.refl _) _) HK1.out) ⟨_, 0, none⟩ 2 2 [.int .i64 mz, .string ⟨#[]⟩, .string ⟨#[]⟩, .string ⟨#[]⟩, .int .i64 mz, .string ⟨#[]⟩, .string ⟨#[]⟩, .string ⟨#[]⟩] rfl rfl (World.news_of_block (at_new (by simp))) (by simp [Value.oneCell']) (by decide) (by unfold maxLen; omega) (by omega) (by simp; omega) ?_)
   intro g2 cap2 w2 hown hkept hgrow hcase hlt
   have HR2 : Hid (w2.ownsRow base 134 4 (.slice (some ⟨g2, 0, none⟩) (j + 2) cap2) (j + 2) (xs ++ [.int .i64 mz, .string ⟨#[]⟩, .string ⟨#[]⟩, .string ⟨#[]⟩, .int .i64 mz, .string ⟨#[]⟩, .string ⟨#[]⟩, .string ⟨#[]⟩])) := hown
   have HK2 : Hid (w2.ownsRow base 134 4 (.slice la j lcap) j xs) := hkept
   have HT2 : Hid (Turn (fun b => lH (.slice la j lcap) = some b) w1 w2) := Turn.grown (Turn.alloc (Turn.refl _ _) _) hgrow (fun q hq _ => hq)
   have HC2 : Hid (lH (.slice la j lcap) = some g2 \/ (Ext w1 w2 /\ w1.heap.size <= g2)) := hcase.imp id (fun h => ⟨(Ext.alloc (Ext.refl _) _).trans h.1, by have := h.2; (try simp at this); omega⟩)
   have hsz2 := HT2.out.size
   clear hown hkept hgrow hcase hlt
   have m0 : w2.cell? ⟨mb, 0, none⟩ = some (.int .i64 mz) := HT2.out.cell m0 (by intro e; have := HLB.out mb e; omega)
   have m1 : w2.cell? ⟨mb, 1, none⟩ = some (.string ⟨#[]⟩) := HT2.out.cell m1 (by intro e; have := HLB.out mb e; omega)
   have m2 : w2.cell? ⟨mb, 2, none⟩ = some (.string ⟨#[]⟩) := HT2.out.cell m2 (by intro e; have := HLB.out mb e; omega)
   have m3 : w2.cell? ⟨mb, 3, none⟩ = some (.string ⟨#[]⟩) := HT2.out.cell m3 (by intro e; have := HLB.out mb e; omega)
   have y2 : w2.cell? ⟨P, 10, none⟩ = some (.slice ba bn bcap) := HT2.out.cell y1 (by intro e; exact HLP.out e)
   go_wp2_with (at_builtin; refine wpList_append_keeps _ rfl _ _ 69 rfl base 134 i0 _ 4 56 Tryz.underlying69 hi hz0 hz1 hz2 rfl (by decide) (.slice la j lcap) j xs rfl (Ext.owns (Ext.alloc (Ext.refl _) _) HK2.out) ⟨_, 0, none⟩ 3 3 [.int .i64 mz, .string ⟨#[]⟩, .string ⟨#[]⟩, .string ⟨#[]⟩, .int .i64 mz, .string ⟨#[]⟩, .string ⟨#[]⟩, .string ⟨#[]⟩, .int .i64 mz, .string ⟨#[]⟩, .string ⟨#[]⟩, .string ⟨#[]⟩] rfl rfl (World.news_of_block (at_new (by simp))) (by simp [Value.oneCell']) (by decide) (by unfold maxLen; omega) (by omega) (by simp; omega) ?_)
   intro g3 cap3 w3 hown hkept hgrow hcase hlt
   have HR3 : Hid (w3.ownsRow base 134 4 (.slice (some ⟨g3, 0, none⟩) (j + 3) cap3) (j + 3) (xs ++ [.int .i64 mz, .string ⟨#[]⟩, .string ⟨#[]⟩, .string ⟨#[]⟩, .int .i64 mz, .string ⟨#[]⟩, .string ⟨#[]⟩, .string ⟨#[]⟩, .int .i64 mz, .string ⟨#[]⟩, .string ⟨#[]⟩, .string ⟨#[]⟩])) := hown
   have HK3 : Hid (w3.ownsRow base 134 4 (.slice la j lcap) j xs) := hkept
   have HT3 : Hid (Turn (fun b => lH (.slice la j lcap) = some b) w2 w3) := Turn.grown (Turn.alloc (Turn.refl _ _) _) hgrow (fun q hq _ => hq)
   have HC3 : Hid (lH (.slice la j lcap) = some g3 \/ (Ext w2 w3 /\ w2.heap.size <= g3)) := hcase.imp id (fun h => ⟨(Ext.alloc (Ext.refl _) _).trans h.1, by have := h.2; (try simp at this); omega⟩)
   have hsz3 := HT3.out.size
   clear hown hkept hgrow hcase hlt
   have m0 : w3.cell? ⟨mb, 0, none⟩ = some (.int .i64 mz) := HT3.out.cell m0 (by intro e; have := HLB.out mb e; omega)
   have m1 : w3.cell? ⟨mb, 1, none⟩ = some (.string ⟨#[]⟩) := HT3.out.cell m1 (by intro e; have := HLB.out mb e; omega)
   have m2 : w3.cell? ⟨mb, 2, none⟩ = some (.string ⟨#[]⟩) := HT3.out.cell m2 (by intro e; have := HLB.out mb e; omega)
   have m3 : w3.cell? ⟨mb, 3, none⟩ = some (.string ⟨#[]⟩) := HT3.out.cell m3 (by intro e; have := HLB.out mb e; omega)
   have y3 : w3.cell? ⟨P, 10, none⟩ = some (.slice ba bn bcap) := HT3.out.cell y2 (by intro e; exact HLP.out e)
   have HTA : Hid (Turn (fun b => lH (.slice la j lcap) = some b) w w3) := (((Turn.of_ext HXW.out).trans HT.out).trans HT1.out).trans (HT2.out.trans HT3.out)
   have HB3 : Hid (w3.ownsRow 0 69 1 (.slice ba bn bcap) bn vs) := HTA.out.owns HB.out (fun q hq e => (HBB.out q hq).2 e)
   go_wp2_with (at_builtin; refine wpList_append_lies _ rfl _ _ 90 rfl 0 69 k0 _ 1 24 Tryz.underlying90 hk0 hw0 hw1 hw2 rfl (by decide) (.slice ba bn bcap) bn vs rfl (Ext.owns (Ext.alloc (Ext.refl _) _) HB3.out) ⟨_, 0, none⟩ 4 4 [.slice la j lcap, .slice (some ⟨g1, 0, none⟩) (j + 1) cap1, .slice (some ⟨g2, 0, none⟩) (j + 2) cap2, .slice (some ⟨g3, 0, none⟩) (j + 3) cap3] rfl rfl (World.news_of_block (at_new (by simp))) (by simp [Value.oneCell']) (by decide) (by unfold maxLen; omega) (by omega) (Nat.zero_le _) _ rfl ?_)
   intro g5 cap5 w5 hown5 hgrow5 hat5 hlt5
   have HT5 : Hid (Turn (fun b => lH (.slice ba bn bcap) = some b) w3 w5) := Turn.grown (Turn.alloc (Turn.refl _ _) _) hgrow5 (fun q hq _ => hq)
   have HO5 : Hid (w5.ownsRow 0 69 1 (.slice (some ⟨g5, 0, none⟩) (bn + 4) cap5) (bn + 4) (vs ++ [.slice la j lcap, .slice (some ⟨g1, 0, none⟩) (j + 1) cap1, .slice (some ⟨g2, 0, none⟩) (j + 2) cap2, .slice (some ⟨g3, 0, none⟩) (j + 3) cap3])) := hown5
   have HAT : Hid (lH (.slice ba bn bcap) = some g5 \/ w3.heap.size < g5 + 1) := hat5.imp id (fun h => by (try simp at h); omega)
   have y5 : w5.cell? ⟨P, 10, none⟩ = some (.slice ba bn bcap) := HT5.out.cell y3 (by intro e; exact HBP.out e)
   have hP5 : w5.heap[P]? = some (.cells pcs 94 (0, 0)) := HT5.out.ref (HTA.out.ref HP.out (fun e => HLP.out e)) (fun e => HBP.out e)
   have f5 := frozen_row hP5 10
   have HP5 : Hid _ := hP5
   have hPl5 := lG w5 _ y5
   clear hown5 hgrow5 hat5 hP5
   go_wp2
   go_end0
   have hbn := HBN.out
   obtain ⟨hps, hpb, hGP⟩ := HPS.out
   have hsz5 := HT5.out.size
   have hszA := HTA.out.size
   have hA1 : xs.length = j * 4 := HR0.out.1
   have hm1 := HMR.out.snoc rfl hA1
   have hm2 := hm1.snoc rfl (by rw [List.length_append, hA1, Nat.add_mul]; rfl)
   have hm3 := hm2.snoc rfl (by rw [List.length_append, List.length_append, hA1, Nat.add_mul, Nat.add_mul]; rfl)
   have r1 : MkAt w1 4 [.int .i64 mz, .string ⟨#[]⟩, .string ⟨#[]⟩, .string ⟨#[]⟩] g1 (j + 1) := mkAt_owns HR1.out hm1
   have r2 : MkAt w2 4 [.int .i64 mz, .string ⟨#[]⟩, .string ⟨#[]⟩, .string ⟨#[]⟩] g2 (j + 2) := mkAt_owns HR2.out (by rw [show xs ++ [.int .i64 mz, .string ⟨#[]⟩, .string ⟨#[]⟩, .string ⟨#[]⟩, .int .i64 mz, .string ⟨#[]⟩, .string ⟨#[]⟩, .string ⟨#[]⟩] = (xs ++ [.int .i64 mz, .string ⟨#[]⟩, .string ⟨#[]⟩, .string ⟨#[]⟩]) ++ [.int .i64 mz, .string ⟨#[]⟩, .string ⟨#[]⟩, .string ⟨#[]⟩] by simp]; exact hm2)
   have r3 : MkAt w3 4 [.int .i64 mz, .string ⟨#[]⟩, .string ⟨#[]⟩, .string ⟨#[]⟩] g3 (j + 3) := mkAt_owns HR3.out (by rw [show xs ++ [.int .i64 mz, .string ⟨#[]⟩, .string ⟨#[]⟩, .string ⟨#[]⟩, .int .i64 mz, .string ⟨#[]⟩, .string ⟨#[]⟩, .string ⟨#[]⟩, .int .i64 mz, .string ⟨#[]⟩, .string ⟨#[]⟩, .string ⟨#[]⟩] = ((xs ++ [.int .i64 mz, .string ⟨#[]⟩, .string ⟨#[]⟩, .string ⟨#[]⟩]) ++ [.int .i64 mz, .string ⟨#[]⟩, .string ⟨#[]⟩, .string ⟨#[]⟩]) ++ [.int .i64 mz, .string ⟨#[]⟩, .string ⟨#[]⟩, .string ⟨#[]⟩] by simp]; exact hm3)
   have r1' := (r1.app (by omega) r2 HT2.out HC2.out).app (by omega) r3 HT3.out HC3.out
   have r2' := r2.app (by omega) r3 HT3.out HC3.out
   obtain ⟨w6, hw6⟩ : ∃ w6, w5.setCell ⟨P, 10, none⟩ (.slice (some ⟨g5, 0, none⟩) (bn + 4) cap5) = w6 := ⟨_, rfl⟩
   have hT6 : Turn (fun b => b = P \/ lH (.slice ba bn bcap) = some b) w3 w6 := by
    rw [<- hw6]; exact Turn.setCell (S := fun b => b = P \/ lH (.slice ba bn bcap) = some b) (p := ⟨P, 10, none⟩) (HT5.out.mono (fun _ _ e => .inr e)) (fun _ => .inl rfl) _
   have hP6 : w6.heap[P]? = some (.cells (pcs.setIfInBounds 10 (.slice (some ⟨g5, 0, none⟩) (bn + 4) cap5)) 94 (0, 0)) := by rw [<- hw6]; exact setCell_row HP5.out _
   have hg5P : g5 ≠ P := by
    rcases HAT.out with h | h
    ·exact fun e => HBP.out (by rw [<- e]; exact h)
    ·omega
   have hO6 := owns_setCell HO5.out (a := ⟨P, 10, none⟩) (by simpa [lH] using hg5P) (.slice (some ⟨g5, 0, none⟩) (bn + 4) cap5)
   rw [hw6] at hO6
   have hsz6 : w6.heap.size = w5.heap.size := by rw [<- hw6]; simp
   rw [hw6]
   -- where the new lists lie
   have hwh : ∀ g nn cc, (∃ xx w', (w' = w1 \/ w' = w2 \/ w' = w3) /\ World.ownsRow w' base 134 4 (.slice (some ⟨g, 0, none⟩) nn cc) nn xx) -> (lH (.slice la j lcap) = some g \/ w.heap.size <= g) -> g < w3.heap.size /\ (lH (.slice la j lcap) = some g \/ w.heap.size <= g) := fun g nn cc ⟨xx, w', hw', hoo⟩ hc => ⟨by
    have := owns_lt hoo (g := g) rfl
    have := HT2.out.size
    have := HT3.out.size
    rcases hw' with e | e | e <;> (subst e; omega), hc⟩
   have q1 := hwh g1 _ _ ⟨_, w1, .inl rfl, HR1.out⟩ (HC1.out.imp id (fun h => by have := h.2; omega))
   have q2 := hwh g2 _ _ ⟨_, w2, .inr (.inl rfl), HR2.out⟩ (HC2.out.imp id (fun h => by have := h.2; omega))
   have q3 := hwh g3 _ _ ⟨_, w3, .inr (.inr rfl), HR3.out⟩ (HC3.out.imp id (fun h => by have := h.2; omega))
   have hnn : ∀ g, (lH (.slice la j lcap) = some g \/ w.heap.size <= g) -> ¬ (g = P \/ lH (.slice ba bn bcap) = some g) := fun g hg hor => by
    rcases hor with e | e
    ·rcases hg with h | h
     ·exact HLP.out (by rw [<- e]; exact h)
     ·omega
    ·rcases hg with h | h
     ·exact (HBB.out g e).2 h
     ·have := (HBB.out g e).1; omega
   have hne5 : ∀ g, (∃ cur, w3.heap[g]? = some (.cells cur 134 (0, 0))) -> g ≠ g5 := fun g ⟨cur, hc⟩ e => by
    subst e
    rcases HAT.out with h | h
    ·obtain ⟨cur2, hc2⟩ := owns_block HB3.out h
     exact type_ne hc hc2 (by decide) rfl
    ·have := (Array.getElem?_eq_some_iff.1 hc).1
     omega
   have n1 := hne5 g1 (typ_keep (typ_keep (owns_block HR1.out (g := g1) rfl) HT2.out HK2.out) HT3.out HK3.out)
   have n2 := hne5 g2 (typ_keep (owns_block HR2.out (g := g2) rfl) HT3.out HK3.out)
   have n3 := hne5 g3 (owns_block HR3.out (g := g3) rfl)
   refine ⟨rfl, .slice (some ⟨g5, 0, none⟩) (bn + 4) cap5, hP6, ⟨fun q => G q \/ lH (.slice la j lcap) = some q \/ (w.heap.size <= q /\ q < w6.heap.size /\ q ≠ g5), fun q hq => .inl hq, fun q hq => ?_, fun q hq => ?_, ?_, ?_⟩, fun q hq => ?_, ?_⟩
   ·rcases hq with hq | hq | hq
    ·exact .inl hq
    ·exact .inr (.inl hq)
    ·exact .inr (.inr ⟨by have := hq.1; omega, hq.2.1⟩)
   ·have hq5 : g5 = q := by simpa [lH] using hq
    subst hq5
    rintro (hq | hq | hq)
    ·rcases HAT.out with h | h
     ·exact HG2.out _ h hq
     ·have := HG3.out _ hq; omega
    ·rcases HAT.out with h | h
     ·exact (HBB.out _ h).2 hq
     ·have := HLB.out _ hq; omega
    ·exact hq.2.2 rfl
   ·rintro (hq | hq | hq)
    ·exact hGP hq
    ·exact HLP.out hq
    ·omega
   ·have hmk : ∀ g nn cc, MkAt w3 4 [.int .i64 mz, .string ⟨#[]⟩, .string ⟨#[]⟩, .string ⟨#[]⟩] g nn -> nn <= 200000000 -> (g < w3.heap.size /\ (lH (.slice la j lcap) = some g \/ w.heap.size <= g)) -> g ≠ g5 -> Marked w6 (fun q => G q \/ lH (.slice la j lcap) = some q \/ (w.heap.size <= q /\ q < w6.heap.size /\ q ≠ g5)) 4 (mkO m) (.slice (some ⟨g, 0, none⟩) nn cc) := fun g nn cc hmm hnb hg hg5 => by
     refine ⟨some ⟨g, 0, none⟩, nn, cc, rfl, hnb, .inr ⟨g, rfl, ?_, ?_⟩⟩
     ·rcases hg.2 with h | h
      ·exact .inr (.inl h)
      ·exact .inr (.inr ⟨h, by omega, hg5⟩)
     ·rw [HMZ.out]
      exact hmm.turn hT6 (hnn g hg.2)
    refine BookRow.keep (vs := vs) (by rw [hbn]; have := HB.out.1; omega) (fun k hk => ?_) (by rw [hbn]; exact hO6) ?_ (hmk g1 _ _ r1' (by omega) q1 n1) (hmk g2 _ _ r2' (by omega) q2 n2) (hmk g3 _ _ r3 (by omega) q3 n3)
    ·refine (((HV.out k hk).turn HTA.out (fun b hb e => HG1.out b e hb)).turn hT6 (fun b hb hor => ?_)).mono (fun q hq => .inl hq)
     rcases hor with e | e
     ·exact hGP (by rw [<- e]; exact hb)
     ·exact HG2.out b e hb
    ·refine ⟨la, j, lcap, rfl, by omega, ?_⟩
     rcases owns_form HK3.out with ⟨_, h2, _⟩ | ⟨g, c, h1, _⟩
     ·exact .inl h2
     ·injection h1 with e1 _ e3
      subst e1
      refine .inr ⟨g, rfl, .inr (.inl rfl), ?_⟩
      rw [HMZ.out]
      exact (mkAt_owns HK3.out HMR.out).turn hT6 (hnn g (.inl rfl))
   ·have hq5 : g5 = q := by simpa [lH] using hq
    subst hq5
    rcases HAT.out with h | h
    ·exact .inl h
    ·exact .inr (by omega)
   ·exact (HTA.out.mono (fun b _ e => .inr (.inr e))).trans' hT6 (fun b _ e => e.elim (fun e => .inl e) (fun e => .inr (.inl e)))
end
-- JRd
section
set_option maxRecDepth 100000
set_option maxHeartbeats 3200000
open Go.RowKit Go.Maps
theorem reads_c {G : Nat -> Prop} (P mW mS mL mO : Nat) (pcs : Array Value) (bW bS bL bO : Value) (h7 : pcs[7]? = some bW) (h8 : pcs[8]? = some bS) (h9 : pcs[9]? = some bL) (h10 : pcs[10]? = some bO) (hmW : mW <= 1000000) (hmS : mS <= 1000000) (hmL : mL <= 1000000) (hmO : mO <= 1000000) (w : World) (hP : w.heap[P]? = some (.cells pcs 94 (0, 0))) (hW : BookRow w G 31 1 mkW bW mW) (hS : BookRow w G 44 7 mkS bS mS) (hL : BookRow w G 38 9 mkL bL mL) (hO : BookRow w G 69 4 mkO bO mO) :
  Calls Tryz.prog 43 #[.pointer (some ⟨P, 7, none⟩)] w fun e w' => e = .returned (.bool true) /\ Ext w w' := by
 have heq1 := eqStock
 have heq2 := eqLease
 have heq3 := eqOp
 obtain ⟨vsW, hoW, hvW⟩ := hW
 obtain ⟨bnW, hbnW⟩ : ∃ bn, 4 * mW = bn := ⟨_, rfl⟩
 rw [hbnW] at hoW
 have hbW : bnW <= 4000000 := by omega
 obtain ⟨baW, bcapW, rfl⟩ := owns_slice hoW
 have HBW : Hid (w.ownsRow 0 31 1 (.slice baW bnW bcapW) bnW vsW) := hoW
 have HVW : Hid _ := hvW
 have yW : w.cell? ⟨P, 7, none⟩ = some (.slice baW bnW bcapW) := cell_at hP h7
 obtain ⟨vsS, hoS, hvS⟩ := hS
 obtain ⟨bnS, hbnS⟩ : ∃ bn, 4 * mS = bn := ⟨_, rfl⟩
 rw [hbnS] at hoS
 have hbS : bnS <= 4000000 := by omega
 obtain ⟨baS, bcapS, rfl⟩ := owns_slice hoS
 have HBS : Hid (w.ownsRow 0 44 1 (.slice baS bnS bcapS) bnS vsS) := hoS
 have HVS : Hid _ := hvS
 have yS : w.cell? ⟨P, 8, none⟩ = some (.slice baS bnS bcapS) := cell_at hP h8
 obtain ⟨vsL, hoL, hvL⟩ := hL
 obtain ⟨bnL, hbnL⟩ : ∃ bn, 4 * mL = bn := ⟨_, rfl⟩
 rw [hbnL] at hoL
 have hbL : bnL <= 4000000 := by omega
 obtain ⟨baL, bcapL, rfl⟩ := owns_slice hoL
 have HBL : Hid (w.ownsRow 0 38 1 (.slice baL bnL bcapL) bnL vsL) := hoL
 have HVL : Hid _ := hvL
 have yL : w.cell? ⟨P, 9, none⟩ = some (.slice baL bnL bcapL) := cell_at hP h9
 obtain ⟨vsO, hoO, hvO⟩ := hO
 obtain ⟨bnO, hbnO⟩ : ∃ bn, 4 * mO = bn := ⟨_, rfl⟩
 rw [hbnO] at hoO
 have hbO : bnO <= 4000000 := by omega
 obtain ⟨baO, bcapO, rfl⟩ := owns_slice hoO
 have HBO : Hid (w.ownsRow 0 69 1 (.slice baO bnO bcapO) bnO vsO) := hoO
 have HVO : Hid _ := hvO
 have yO : w.cell? ⟨P, 10, none⟩ = some (.slice baO bnO bcapO) := cell_at hP h10
 have hPl := lG w _ yW
 clear hoW hoS hoL hoO hvW hvS hvL hvO h7 h8 h9 h10 hP hbnW hbnS hbnL hbnO hmW hmS hmL hmO
 go_enter Tryz.func43, Tryz.ntmps43
 go_wp2
 go_loopw [3, 4, 5] (fun ok_ k_ _ wr => ∃ kk : Nat, kk <= bnW /\ k_ = .int .i64 (kk : Int) /\ ok_ = .bool true /\ Ext w wr) (fun _ k_ _ _ => bnW - (intOf k_).toNat)
 case atStart => exact ⟨0, Nat.zero_le _, rfl, rfl, Ext.refl _⟩
 case round =>
  obtain ⟨V, rfl⟩ : ∃ V, V = wr := ⟨_, rfl⟩
  obtain ⟨kk, hk, rfl, rfl, hx⟩ := hrel
  have HX : Hid (Ext w V) := hx
  have zW := hx.cell yW
  clear hx
  by_cases hlt : kk < bnW
  ·have hkv : kk < vsW.length := by have := HBW.out.1; omega
   obtain ⟨gb, rfl⟩ : ∃ g, baW = some ⟨g, 0, none⟩ := by
    rcases owns_form HBW.out with ⟨_, h2, _⟩ | ⟨g, c, h1, _⟩
    ·omega
    ·injection h1 with e1 _ _
     exact ⟨g, e1⟩
   obtain ⟨a, n, cap, hva, hnb, hmk⟩ := HVW.out kk hkv
   have hvk : V.cell? ⟨gb, kk, none⟩ = some (.slice a n cap) := HX.out.cell (owns_cell HBW.out (by rw [List.getElem?_eq_getElem hkv, hva]))
   have hk0 : (0 : Int) <= (kk : Int) := by omega
   have hk1 : (kk : Int) < bnW := by omega
   have hq4 : Int.tdiv (kk : Int) 4 = ((kk / 4 : Nat) : Int) := by rw [Int.tdiv_eq_ediv_of_nonneg (by omega)]; rfl
   have hbk : kk / 4 <= 1000000 := by omega
   obtain ⟨mz, hmz⟩ : ∃ mz : Int, 1000000007 + ((kk / 4 : Nat) : Int) = mz := ⟨_, rfl⟩
   have hwz : IntKind.u64.wrap (1000000007 + ((kk / 4 : Nat) : Int)) = mz := by rw [<- hmz]; rw [IntKind.wrap_u64]; omega
   have hmkE : mkW (kk / 4) = [.int .u64 mz] := by rw [<- hmz]; rfl
   rw [hmkE] at hmk
   have HMK : Hid _ := hmk
   obtain ⟨kq, hkq⟩ : ∃ kq, kk / 4 = kq := ⟨_, rfl⟩
   rw [hkq] at hq4 hwz hbk
   clear hmk hva hmz hmkE hkq
   go_wp2
   go_loopw [3, 5] (fun ok_ i_ wr => ∃ j : Nat, j <= n /\ i_ = .int .i64 (j : Int) /\ ok_ = .bool true /\ Ext V wr) (fun _ i_ _ => n - (intOf i_).toNat)
   case atStart => exact ⟨0, Nat.zero_le _, rfl, rfl, Ext.refl _⟩
   case round =>
    obtain ⟨j, hj, rfl, rfl, hx2⟩ := hrel
    have HX2 : Hid (Ext V wr) := hx2
    have yy := hx2.cell zW
    have hvk := hx2.cell hvk
    clear hx2
    by_cases hlt2 : j < n
    ·obtain ⟨g, rfl, _, hMk⟩ := HMK.out.resolve_left (by omega)
     have HMk : Hid (MkAt V 1 [.int .u64 mz] g n) := hMk.turn (S := fun _ => False) (Turn.of_ext HX.out) id
     have hj0 : (0 : Int) <= (j : Int) := by omega
     have hj1 : (j : Int) < n := by omega
     have e0 : wr.cell? ⟨g, j, none⟩ = some (.int .u64 mz) := HX2.out.cell (by simpa using HMk.out j hlt2 0 _ rfl)
     clear hMk
     go_wp2
     go_roundw
     case rel => exact ⟨j + 1, by omega, by go_num, rfl, HX2.out⟩
     case measure => simp [intOf]; omega
    ·obtain rfl : j = n := by omega
     go_wp2
     go_roundw
     case rel => exact ⟨kk + 1, by omega, by go_num, rfl, HX.out.trans HX2.out⟩
     case measure => simp [intOf]; omega
  ·obtain rfl : kk = bnW := by omega
   clear hlt hk
   go_wp2
   go_loopw [3, 6, 7] (fun ok_ k_ _ wr => ∃ kk : Nat, kk <= bnS /\ k_ = .int .i64 (kk : Int) /\ ok_ = .bool true /\ Ext w wr) (fun _ k_ _ _ => bnS - (intOf k_).toNat)
   case atStart => exact ⟨0, Nat.zero_le _, rfl, rfl, HX.out⟩
   case round =>
    obtain ⟨V, rfl⟩ : ∃ V, V = wr := ⟨_, rfl⟩
    obtain ⟨kk, hk, rfl, rfl, hx⟩ := hrel
    have HX : Hid (Ext w V) := hx
    have zS := hx.cell yS
    clear hx
    by_cases hlt : kk < bnS
    ·have hkv : kk < vsS.length := by have := HBS.out.1; omega
     obtain ⟨gb, rfl⟩ : ∃ g, baS = some ⟨g, 0, none⟩ := by
      rcases owns_form HBS.out with ⟨_, h2, _⟩ | ⟨g, c, h1, _⟩
      ·omega
      ·injection h1 with e1 _ _
       exact ⟨g, e1⟩
     obtain ⟨a, n, cap, hva, hnb, hmk⟩ := HVS.out kk hkv
     have hvk : V.cell? ⟨gb, kk, none⟩ = some (.slice a n cap) := HX.out.cell (owns_cell HBS.out (by rw [List.getElem?_eq_getElem hkv, hva]))
     have hk0 : (0 : Int) <= (kk : Int) := by omega
     have hk1 : (kk : Int) < bnS := by omega
     have hq4 : Int.tdiv (kk : Int) 4 = ((kk / 4 : Nat) : Int) := by rw [Int.tdiv_eq_ediv_of_nonneg (by omega)]; rfl
     have hbk : kk / 4 <= 1000000 := by omega
     obtain ⟨mz, hmz⟩ : ∃ mz : Int, -1 - ((kk / 4 : Nat) : Int) = mz := ⟨_, rfl⟩
     have hwz : IntKind.i64.wrap (-1 - ((kk / 4 : Nat) : Int)) = mz := by rw [<- hmz]; rw [IntKind.wrap_i64]; omega
     have hmkE : mkS (kk / 4) = [.int .i64 0, .int .i64 0, .int .i64 0, .int .i64 0, .int .i64 mz, .int .i64 0, .int .i64 0] := by rw [<- hmz]; rfl
     rw [hmkE] at hmk
     have HMK : Hid _ := hmk
     obtain ⟨kq, hkq⟩ : ∃ kq, kk / 4 = kq := ⟨_, rfl⟩
     rw [hkq] at hq4 hwz hbk
     clear hmk hva hmz hmkE hkq
     go_wp2
     go_loopw [3, 7] (fun ok_ i_ wr => ∃ j : Nat, j <= n /\ i_ = .int .i64 (j : Int) /\ ok_ = .bool true /\ Ext V wr) (fun _ i_ _ => n - (intOf i_).toNat)
     case atStart => exact ⟨0, Nat.zero_le _, rfl, rfl, Ext.refl _⟩
     case round =>
      obtain ⟨j, hj, rfl, rfl, hx2⟩ := hrel
      have HX2 : Hid (Ext V wr) := hx2
      have yy := hx2.cell zS
      have hvk := hx2.cell hvk
      clear hx2
      by_cases hlt2 : j < n
      ·obtain ⟨g, rfl, _, hMk⟩ := HMK.out.resolve_left (by omega)
       have HMk : Hid (MkAt V 7 [.int .i64 0, .int .i64 0, .int .i64 0, .int .i64 0, .int .i64 mz, .int .i64 0, .int .i64 0] g n) := hMk.turn (S := fun _ => False) (Turn.of_ext HX.out) id
       have hj0 : (0 : Int) <= (j : Int) := by omega
       have hj1 : (j : Int) < n := by omega
       have e0 : wr.cell? ⟨g, j * 7, none⟩ = some (.int .i64 0) := HX2.out.cell (by simpa using HMk.out j hlt2 0 _ rfl)
       have e1 : wr.cell? ⟨g, j * 7 + 1, none⟩ = some (.int .i64 0) := HX2.out.cell (by simpa using HMk.out j hlt2 1 _ rfl)
       have e2 : wr.cell? ⟨g, j * 7 + 2, none⟩ = some (.int .i64 0) := HX2.out.cell (by simpa using HMk.out j hlt2 2 _ rfl)
       have e3 : wr.cell? ⟨g, j * 7 + 3, none⟩ = some (.int .i64 0) := HX2.out.cell (by simpa using HMk.out j hlt2 3 _ rfl)
       have e4 : wr.cell? ⟨g, j * 7 + 4, none⟩ = some (.int .i64 mz) := HX2.out.cell (by simpa using HMk.out j hlt2 4 _ rfl)
       have e5 : wr.cell? ⟨g, j * 7 + 5, none⟩ = some (.int .i64 0) := HX2.out.cell (by simpa using HMk.out j hlt2 5 _ rfl)
       have e6 : wr.cell? ⟨g, j * 7 + 6, none⟩ = some (.int .i64 0) := HX2.out.cell (by simpa using HMk.out j hlt2 6 _ rfl)
       clear hMk
       go_wp2
       go_roundw
       case rel => exact ⟨j + 1, by omega, by go_num, rfl, HX2.out⟩
       case measure => simp [intOf]; omega
      ·obtain rfl : j = n := by omega
       go_wp2
       go_roundw
       case rel => exact ⟨kk + 1, by omega, by go_num, rfl, HX.out.trans HX2.out⟩
       case measure => simp [intOf]; omega
    ·obtain rfl : kk = bnS := by omega
     clear hlt hk
     go_wp2
     go_loopw [3, 8, 9] (fun ok_ k_ _ wr => ∃ kk : Nat, kk <= bnL /\ k_ = .int .i64 (kk : Int) /\ ok_ = .bool true /\ Ext w wr) (fun _ k_ _ _ => bnL - (intOf k_).toNat)
     case atStart => exact ⟨0, Nat.zero_le _, rfl, rfl, HX.out⟩
     case round =>
      obtain ⟨V, rfl⟩ : ∃ V, V = wr := ⟨_, rfl⟩
      obtain ⟨kk, hk, rfl, rfl, hx⟩ := hrel
      have HX : Hid (Ext w V) := hx
      have zL := hx.cell yL
      clear hx
      by_cases hlt : kk < bnL
      ·have hkv : kk < vsL.length := by have := HBL.out.1; omega
       obtain ⟨gb, rfl⟩ : ∃ g, baL = some ⟨g, 0, none⟩ := by
        rcases owns_form HBL.out with ⟨_, h2, _⟩ | ⟨g, c, h1, _⟩
        ·omega
        ·injection h1 with e1 _ _
         exact ⟨g, e1⟩
       obtain ⟨a, n, cap, hva, hnb, hmk⟩ := HVL.out kk hkv
       have hvk : V.cell? ⟨gb, kk, none⟩ = some (.slice a n cap) := HX.out.cell (owns_cell HBL.out (by rw [List.getElem?_eq_getElem hkv, hva]))
       have hk0 : (0 : Int) <= (kk : Int) := by omega
       have hk1 : (kk : Int) < bnL := by omega
       have hq4 : Int.tdiv (kk : Int) 4 = ((kk / 4 : Nat) : Int) := by rw [Int.tdiv_eq_ediv_of_nonneg (by omega)]; rfl
       have hbk : kk / 4 <= 1000000 := by omega
       obtain ⟨mz, hmz⟩ : ∃ mz : Int, -1 - ((kk / 4 : Nat) : Int) = mz := ⟨_, rfl⟩
       have hwz : IntKind.i64.wrap (-1 - ((kk / 4 : Nat) : Int)) = mz := by rw [<- hmz]; rw [IntKind.wrap_i64]; omega
       have hmkE : mkL (kk / 4) = [.int .i64 mz, .int .i64 0, .int .i64 0, .int .i64 0, .int .i64 0, .int .i64 0, .int .i64 0, .int .i64 0, .bool false] := by rw [<- hmz]; rfl
       rw [hmkE] at hmk
       have HMK : Hid _ := hmk
       obtain ⟨kq, hkq⟩ : ∃ kq, kk / 4 = kq := ⟨_, rfl⟩
       rw [hkq] at hq4 hwz hbk
       clear hmk hva hmz hmkE hkq
       go_wp2
       go_loopw [3, 9] (fun ok_ i_ wr => ∃ j : Nat, j <= n /\ i_ = .int .i64 (j : Int) /\ ok_ = .bool true /\ Ext V wr) (fun _ i_ _ => n - (intOf i_).toNat)
       case atStart => exact ⟨0, Nat.zero_le _, rfl, rfl, Ext.refl _⟩
       case round =>
        obtain ⟨j, hj, rfl, rfl, hx2⟩ := hrel
        have HX2 : Hid (Ext V wr) := hx2
        have yy := hx2.cell zL
        have hvk := hx2.cell hvk
        clear hx2
        by_cases hlt2 : j < n
        ·obtain ⟨g, rfl, _, hMk⟩ := HMK.out.resolve_left (by omega)
         have HMk : Hid (MkAt V 9 [.int .i64 mz, .int .i64 0, .int .i64 0, .int .i64 0, .int .i64 0, .int .i64 0, .int .i64 0, .int .i64 0, .bool false] g n) := hMk.turn (S := fun _ => False) (Turn.of_ext HX.out) id
         have hj0 : (0 : Int) <= (j : Int) := by omega
         have hj1 : (j : Int) < n := by omega
         have e0 : wr.cell? ⟨g, j * 9, none⟩ = some (.int .i64 mz) := HX2.out.cell (by simpa using HMk.out j hlt2 0 _ rfl)
         have e1 : wr.cell? ⟨g, j * 9 + 1, none⟩ = some (.int .i64 0) := HX2.out.cell (by simpa using HMk.out j hlt2 1 _ rfl)
         have e2 : wr.cell? ⟨g, j * 9 + 2, none⟩ = some (.int .i64 0) := HX2.out.cell (by simpa using HMk.out j hlt2 2 _ rfl)
         have e3 : wr.cell? ⟨g, j * 9 + 3, none⟩ = some (.int .i64 0) := HX2.out.cell (by simpa using HMk.out j hlt2 3 _ rfl)
         have e4 : wr.cell? ⟨g, j * 9 + 4, none⟩ = some (.int .i64 0) := HX2.out.cell (by simpa using HMk.out j hlt2 4 _ rfl)
         have e5 : wr.cell? ⟨g, j * 9 + 5, none⟩ = some (.int .i64 0) := HX2.out.cell (by simpa using HMk.out j hlt2 5 _ rfl)
         have e6 : wr.cell? ⟨g, j * 9 + 6, none⟩ = some (.int .i64 0) := HX2.out.cell (by simpa using HMk.out j hlt2 6 _ rfl)
         have e7 : wr.cell? ⟨g, j * 9 + 7, none⟩ = some (.int .i64 0) := HX2.out.cell (by simpa using HMk.out j hlt2 7 _ rfl)
         have e8 : wr.cell? ⟨g, j * 9 + 8, none⟩ = some (.bool false) := HX2.out.cell (by simpa using HMk.out j hlt2 8 _ rfl)
         clear hMk
         go_wp2
         go_roundw
         case rel => exact ⟨j + 1, by omega, by go_num, rfl, HX2.out⟩
         case measure => simp [intOf]; omega
        ·obtain rfl : j = n := by omega
         go_wp2
         go_roundw
         case rel => exact ⟨kk + 1, by omega, by go_num, rfl, HX.out.trans HX2.out⟩
         case measure => simp [intOf]; omega
      ·obtain rfl : kk = bnL := by omega
       clear hlt hk
       go_wp2
       go_loopw [3, 10, 11] (fun ok_ k_ _ wr => ∃ kk : Nat, kk <= bnO /\ k_ = .int .i64 (kk : Int) /\ ok_ = .bool true /\ Ext w wr) (fun _ k_ _ _ => bnO - (intOf k_).toNat)
       case atStart => exact ⟨0, Nat.zero_le _, rfl, rfl, HX.out⟩
       case round =>
        obtain ⟨V, rfl⟩ : ∃ V, V = wr := ⟨_, rfl⟩
        obtain ⟨kk, hk, rfl, rfl, hx⟩ := hrel
        have HX : Hid (Ext w V) := hx
        have zO := hx.cell yO
        clear hx
        by_cases hlt : kk < bnO
        ·have hkv : kk < vsO.length := by have := HBO.out.1; omega
         obtain ⟨gb, rfl⟩ : ∃ g, baO = some ⟨g, 0, none⟩ := by
          rcases owns_form HBO.out with ⟨_, h2, _⟩ | ⟨g, c, h1, _⟩
          ·omega
          ·injection h1 with e1 _ _
           exact ⟨g, e1⟩
         obtain ⟨a, n, cap, hva, hnb, hmk⟩ := HVO.out kk hkv
         have hvk : V.cell? ⟨gb, kk, none⟩ = some (.slice a n cap) := HX.out.cell (owns_cell HBO.out (by rw [List.getElem?_eq_getElem hkv, hva]))
         have hk0 : (0 : Int) <= (kk : Int) := by omega
         have hk1 : (kk : Int) < bnO := by omega
         have hq4 : Int.tdiv (kk : Int) 4 = ((kk / 4 : Nat) : Int) := by rw [Int.tdiv_eq_ediv_of_nonneg (by omega)]; rfl
         have hbk : kk / 4 <= 1000000 := by omega
         obtain ⟨mz, hmz⟩ : ∃ mz : Int, -1 - ((kk / 4 : Nat) : Int) = mz := ⟨_, rfl⟩
         have hwz : IntKind.i64.wrap (-1 - ((kk / 4 : Nat) : Int)) = mz := by rw [<- hmz]; rw [IntKind.wrap_i64]; omega
         have hmkE : mkO (kk / 4) = [.int .i64 mz, .string ⟨#[]⟩, .string ⟨#[]⟩, .string ⟨#[]⟩] := by rw [<- hmz]; rfl
         rw [hmkE] at hmk
         have HMK : Hid _ := hmk
         obtain ⟨kq, hkq⟩ : ∃ kq, kk / 4 = kq := ⟨_, rfl⟩
         rw [hkq] at hq4 hwz hbk
         clear hmk hva hmz hmkE hkq
         go_wp2
         go_loopw [3, 11] (fun ok_ i_ wr => ∃ j : Nat, j <= n /\ i_ = .int .i64 (j : Int) /\ ok_ = .bool true /\ Ext V wr) (fun _ i_ _ => n - (intOf i_).toNat)
         case atStart => exact ⟨0, Nat.zero_le _, rfl, rfl, Ext.refl _⟩
         case round =>
          obtain ⟨j, hj, rfl, rfl, hx2⟩ := hrel
          have HX2 : Hid (Ext V wr) := hx2
          have yy := hx2.cell zO
          have hvk := hx2.cell hvk
          clear hx2
          by_cases hlt2 : j < n
          ·obtain ⟨g, rfl, _, hMk⟩ := HMK.out.resolve_left (by omega)
           have HMk : Hid (MkAt V 4 [.int .i64 mz, .string ⟨#[]⟩, .string ⟨#[]⟩, .string ⟨#[]⟩] g n) := hMk.turn (S := fun _ => False) (Turn.of_ext HX.out) id
           have hj0 : (0 : Int) <= (j : Int) := by omega
           have hj1 : (j : Int) < n := by omega
           have e0 : wr.cell? ⟨g, j * 4, none⟩ = some (.int .i64 mz) := HX2.out.cell (by simpa using HMk.out j hlt2 0 _ rfl)
           have e1 : wr.cell? ⟨g, j * 4 + 1, none⟩ = some (.string ⟨#[]⟩) := HX2.out.cell (by simpa using HMk.out j hlt2 1 _ rfl)
           have e2 : wr.cell? ⟨g, j * 4 + 2, none⟩ = some (.string ⟨#[]⟩) := HX2.out.cell (by simpa using HMk.out j hlt2 2 _ rfl)
           have e3 : wr.cell? ⟨g, j * 4 + 3, none⟩ = some (.string ⟨#[]⟩) := HX2.out.cell (by simpa using HMk.out j hlt2 3 _ rfl)
           clear hMk
           go_wp2
           go_roundw
           case rel => exact ⟨j + 1, by omega, by go_num, rfl, HX2.out⟩
           case measure => simp [intOf]; omega
          ·obtain rfl : j = n := by omega
           go_wp2
           go_roundw
           case rel => exact ⟨kk + 1, by omega, by go_num, rfl, HX.out.trans HX2.out⟩
           case measure => simp [intOf]; omega
        ·obtain rfl : kk = bnO := by omega
         clear hlt hk
         go_wp2
         go_ret
         exact ⟨rfl, HX.out⟩
end
-- JCp
section
open Go.RowKit Go.Maps
section
variable {P : Program}
/-- copy of a whole list, its elements of more than one cell. -/
theorem run_copy_whole (w : World) (dT sT ty elem : TypeId) (sz g n dCap : Nat) (a : Addr) (sCap : Nat) (cur : Array Value) (t : TypeId) (cs : List Value)
  (hu : P.underlying dT = some (.slice elem)) (hs : (P.info? elem).map (·.size) = some sz)
  (hg : w.heap[g]? = some (.cells cur t (0, 0))) (hn : cs.length = n * sz) (hcur : cur.size = n * sz)
  (hsrc : ∀ j v, cs[j]? = some v -> w.cell? (a.add j) = some v) (h1 : ∀ v ∈ cs, v.oneCell' = true) :
  (Builtin.copy_ #[dT, sT] ty #[.slice (some ⟨g, 0, none⟩) n dCap, .slice (some a) n sCap]).run P w = .ok (goInt n) (w.setRow g cs.toArray) := by
 have hl := run_loadCells_list (P := P) w a cs hsrc
 have hst := run_storeCells_at P g 0 t cs 0 cur w hg (by simp; omega) h1
 have e : (cur.toList.take (0 + 0) ++ cs ++ cur.toList.drop (0 + 0 + cs.length)) = cs := by
  rw [List.drop_of_length_le (by simp; omega)]; simp
 rw [e] at hst
 rw [hn] at hl
 cases hq : P.info? elem with
 | none => simp [hq] at hs
 | some i =>
  have hi : i.size = sz := by simpa [hq] using hs
  simp [Builtin.copy_, run_underlying hu, Builtin.lenOf, Builtin.firstCells, sizeOf, typeInfo, hq, hi, hl, hst]
theorem run_copy_zero (w : World) (dT sT ty elem : TypeId) (sz : Nat) (d a : Option Addr) (dCap sCap : Nat) (hu : P.underlying dT = some (.slice elem)) (hs : (P.info? elem).map (·.size) = some sz) :
  (Builtin.copy_ #[dT, sT] ty #[.slice d 0 dCap, .slice a 0 sCap]).run P w = .ok (goInt 0) w := by
 cases hq : P.info? elem with
 | none => simp [hq] at hs
 | some i =>
  have hl : ∀ (x : Addr), (loadCells x 0).run P w = .ok #[] w := fun x => by simpa using run_loadCells_list (P := P) w x [] (by simp)
  cases d <;> cases a <;> simp [Builtin.copy_, run_underlying hu, Builtin.lenOf, Builtin.firstCells, sizeOf, typeInfo, hq, storeCells, hl]
end
theorem setRow_turn (w : World) (g : Nat) (cs : Array Value) : Turn (fun b => b = g) w (w.setRow g cs) := ⟨rfl, rfl, rfl, by simp [World.setRow], fun k _ hk => setRow_other w g k cs hk⟩
/-- What a game has in its block. -/
structure GV where
 wv : Value
 ov : Value
 pv : Value
 bW : Value
 bS : Value
 bL : Value
 bO : Value
def gcells (B : Nat) (v : GV) : Array Value := #[.pointer (some ⟨B, 0, none⟩), v.wv, .slice none 0 0, v.ov, v.pv, .bool false, .int .i64 0, v.bW, v.bS, v.bL, v.bO]
/-- The blocks that a game writes into. -/
def GOwn (P : Nat) (v : GV) (b : Nat) : Prop := b = P \/ v.pv.ownBlock = some b \/ v.bW.ownBlock = some b \/ v.bS.ownBlock = some b \/ v.bL.ownBlock = some b \/ v.bO.ownBlock = some b
def OpRow (w : World) (G : Nat -> Prop) (ov : Value) (ops : List OpV) : Prop := ∃ a cap, ov = .slice a ops.length cap /\ (ops.length = 0 \/ ∃ g, a = some ⟨g, 0, none⟩ /\ G g /\ ∀ i u, (opCells ops)[i]? = some u -> w.cell? ⟨g, i, none⟩ = some u)
def OneIs (w : World) (G : Nat -> Prop) (v : Value) (q : Nat) : Prop := ∃ g cap, v = .slice (some ⟨g, 0, none⟩) 1 cap /\ G g /\ w.cell? ⟨g, 0, none⟩ = some (.pointer (some ⟨q, 0, none⟩))
/-- A part's cells. -/
def PartIs (w : World) (G : Nat -> Prop) (cs : List Value) : Prop := ∃ (f t : Int) (wv : Value) (d : Bool) (q : Nat), cs = [.int .i64 f, .int .i64 t, wv, .bool d] /\ OneIs w G wv q
def PartRow (w : World) (G : Nat -> Prop) (pv : Value) (np : Nat) : Prop := ∃ css : List (List Value), w.ownsRow 0 100 4 pv np css.flatten /\ css.length = np /\ ∀ c ∈ css, PartIs w G c
structure GameOf (w : World) (P B : Nat) (G : Nat -> Prop) (v : GV) (q : Nat) (S : List Stk) (ls : List LsV) (ops : List OpV) (c : Nat) : Prop where
 blk : w.heap[P]? = some (.cells (gcells B v) 94 (0, 0))
 wrow : OneIs w G v.wv q
 ref : RefAt w G q S ls
 orow : OpRow w G v.ov ops
 prow : ∃ np, np <= c /\ PartRow w G v.pv np
 bW : ∃ m, m <= c /\ BookRow w G 31 1 mkW v.bW m
 bS : ∃ m, m <= c /\ BookRow w G 44 7 mkS v.bS m
 bL : ∃ m, m <= c /\ BookRow w G 38 9 mkL v.bL m
 bO : ∃ m, m <= c /\ BookRow w G 69 4 mkO v.bO m
 ltG : ∀ b, G b -> b < w.heap.size
 apart : ∀ b, GOwn P v b -> ¬ G b
theorem OpRow.turn {S G : Nat -> Prop} {w w' : World} {ov : Value} {ops : List OpV} (h : OpRow w G ov ops) (ht : Turn S w w') (hs : ∀ b, G b -> ¬ S b) : OpRow w' G ov ops := by
 obtain ⟨a, cap, h1, h2⟩ := h
 exact ⟨a, cap, h1, h2.imp id (fun ⟨g, e, hg, hc⟩ => ⟨g, e, hg, fun i u hu => ht.cell (hc i u hu) (hs g hg)⟩)⟩
theorem OpRow.mono {G G' : Nat -> Prop} {w : World} {ov : Value} {ops : List OpV} (h : OpRow w G ov ops) (hg : ∀ b, G b -> G' b) : OpRow w G' ov ops := by
 obtain ⟨a, cap, h1, h2⟩ := h
 exact ⟨a, cap, h1, h2.imp id (fun ⟨g, e, h3, hc⟩ => ⟨g, e, hg g h3, hc⟩)⟩
theorem OneIs.turn {S G : Nat -> Prop} {w w' : World} {v : Value} {q : Nat} (h : OneIs w G v q) (ht : Turn S w w') (hs : ∀ b, G b -> ¬ S b) : OneIs w' G v q := by
 obtain ⟨g, cap, h1, h2, h3⟩ := h
 exact ⟨g, cap, h1, h2, ht.cell h3 (hs g h2)⟩
theorem OneIs.mono {G G' : Nat -> Prop} {w : World} {v : Value} {q : Nat} (h : OneIs w G v q) (hg : ∀ b, G b -> G' b) : OneIs w G' v q := by
 obtain ⟨g, cap, h1, h2, h3⟩ := h
 exact ⟨g, cap, h1, hg g h2, h3⟩
theorem PartIs.turn {S G : Nat -> Prop} {w w' : World} {cs : List Value} (h : PartIs w G cs) (ht : Turn S w w') (hs : ∀ b, G b -> ¬ S b) : PartIs w' G cs := by
 obtain ⟨f, t, wv, d, q, h1, h2⟩ := h
 exact ⟨f, t, wv, d, q, h1, h2.turn ht hs⟩
theorem PartIs.mono {G G' : Nat -> Prop} {w : World} {cs : List Value} (h : PartIs w G cs) (hg : ∀ b, G b -> G' b) : PartIs w G' cs := by
 obtain ⟨f, t, wv, d, q, h1, h2⟩ := h
 exact ⟨f, t, wv, d, q, h1, h2.mono hg⟩
theorem PartRow.turn {S G : Nat -> Prop} {w w' : World} {pv : Value} {np : Nat} (h : PartRow w G pv np) (ht : Turn S w w') (hs : ∀ b, G b -> ¬ S b) (hp : ∀ b, pv.ownBlock = some b -> ¬ S b) : PartRow w' G pv np := by
 obtain ⟨css, h1, h2, h3⟩ := h
 exact ⟨css, ht.owns h1 hp, h2, fun c hc => (h3 c hc).turn ht hs⟩
theorem PartRow.mono {G G' : Nat -> Prop} {w : World} {pv : Value} {np : Nat} (h : PartRow w G pv np) (hg : ∀ b, G b -> G' b) : PartRow w G' pv np := by
 obtain ⟨css, h1, h2, h3⟩ := h
 exact ⟨css, h1, h2, fun c hc => (h3 c hc).mono hg⟩
section
variable {w w' : World} {P B q c : Nat} {G : Nat -> Prop} {v : GV} {S : List Stk} {ls : List LsV} {ops : List OpV}
theorem GameOf.turn {X : Nat -> Prop} (h : GameOf w P B G v q S ls ops c) (ht : Turn X w w') (hg : ∀ b, G b -> ¬ X b) (ho : ∀ b, GOwn P v b -> ¬ X b) : GameOf w' P B G v q S ls ops c where
 blk := ht.ref h.blk (ho _ (.inl rfl))
 wrow := h.wrow.turn ht hg
 ref := h.ref.turn ht hg
 orow := h.orow.turn ht hg
 prow := let ⟨np, h1, h2⟩ := h.prow; ⟨np, h1, h2.turn ht hg (fun b hb => ho b (.inr (.inl hb)))⟩
 bW := let ⟨m, h1, h2⟩ := h.bW; ⟨m, h1, h2.turn ht hg (fun b hb => ho b (.inr (.inr (.inl hb))))⟩
 bS := let ⟨m, h1, h2⟩ := h.bS; ⟨m, h1, h2.turn ht hg (fun b hb => ho b (.inr (.inr (.inr (.inl hb)))))⟩
 bL := let ⟨m, h1, h2⟩ := h.bL; ⟨m, h1, h2.turn ht hg (fun b hb => ho b (.inr (.inr (.inr (.inr (.inl hb))))))⟩
 bO := let ⟨m, h1, h2⟩ := h.bO; ⟨m, h1, h2.turn ht hg (fun b hb => ho b (.inr (.inr (.inr (.inr (.inr hb))))))⟩
 ltG := fun b hb => Nat.lt_of_lt_of_le (h.ltG b hb) ht.size
 apart := h.apart
theorem GameOf.ext (h : GameOf w P B G v q S ls ops c) (hx : Ext w w') : GameOf w' P B G v q S ls ops c := h.turn (X := fun _ => False) (Turn.of_ext hx) (fun _ _ => id) (fun _ _ => id)
/-- The types of the blocks that a game writes into. -/
theorem GameOf.typ (h : GameOf w P B G v q S ls ops c) {b : Nat} (hb : GOwn P v b) : ∃ cur t, w.heap[b]? = some (.cells cur t (0, 0)) /\ (t = 94 \/ t = 100 \/ t = 31 \/ t = 44 \/ t = 38 \/ t = 69) := by
 rcases hb with e | e | e | e | e | e
 ·exact ⟨_, _, by rw [e]; exact h.blk, .inl rfl⟩
 ·obtain ⟨np, _, css, h1, _⟩ := h.prow
  obtain ⟨cur, hc⟩ := owns_block h1 e
  exact ⟨cur, _, hc, .inr (.inl rfl)⟩
 ·obtain ⟨m, _, vs, h1, _⟩ := h.bW
  obtain ⟨cur, hc⟩ := owns_block h1 e
  exact ⟨cur, _, hc, .inr (.inr (.inl rfl))⟩
 ·obtain ⟨m, _, vs, h1, _⟩ := h.bS
  obtain ⟨cur, hc⟩ := owns_block h1 e
  exact ⟨cur, _, hc, .inr (.inr (.inr (.inl rfl)))⟩
 ·obtain ⟨m, _, vs, h1, _⟩ := h.bL
  obtain ⟨cur, hc⟩ := owns_block h1 e
  exact ⟨cur, _, hc, .inr (.inr (.inr (.inr (.inl rfl))))⟩
 ·obtain ⟨m, _, vs, h1, _⟩ := h.bO
  obtain ⟨cur, hc⟩ := owns_block h1 e
  exact ⟨cur, _, hc, .inr (.inr (.inr (.inr (.inr rfl))))⟩
theorem GameOf.lt (h : GameOf w P B G v q S ls ops c) {b : Nat} (hb : GOwn P v b) : b < w.heap.size := by
 obtain ⟨cur, t, hc, _⟩ := h.typ hb
 exact (Array.getElem?_eq_some_iff.1 hc).1
/-- A block of another type is none of these. -/
theorem GameOf.not_own (h : GameOf w P B G v q S ls ops c) {b : Nat} {cur : Array Value} {e : TypeId} (hc : w.heap[b]? = some (.cells cur e (0, 0))) (h1 : e ≠ 94) (h2 : e ≠ 100) (h3 : e ≠ 31) (h4 : e ≠ 44) (h5 : e ≠ 38) (h6 : e ≠ 69) : ¬ GOwn P v b := fun hb => by
 obtain ⟨cur', t, hc', ht⟩ := h.typ hb
 rw [hc] at hc'
 injection hc' with hc'
 injection hc' with _ hc' _
 subst hc'
 rcases ht with e | e | e | e | e | e
 ·exact h1 e
 ·exact h2 e
 ·exact h3 e
 ·exact h4 e
 ·exact h5 e
 ·exact h6 e
/-- What a game's function does: X are blocks that are nobody's. -/
structure GStep (X : Nat -> Prop) (w w' : World) (P : Nat) (v v' : GV) (G G' : Nat -> Prop) : Prop where
 turn : Turn (fun b => GOwn P v b \/ X b) w w'
 sub : ∀ b, G b -> G' b
 new : ∀ b, G' b -> G b \/ X b
 own : ∀ b, GOwn P v' b -> GOwn P v b \/ X b
theorem GStep.refl (X : Nat -> Prop) (w : World) (P : Nat) (v : GV) (G : Nat -> Prop) : GStep X w w P v v G G := ⟨Turn.refl _ _, fun _ h => h, fun _ h => .inl h, fun _ h => .inl h⟩
theorem GStep.of_ext {X : Nat -> Prop} (hx : Ext w w') : GStep X w w' P v v G G := ⟨Turn.of_ext hx, fun _ h => h, fun _ h => .inl h, fun _ h => .inl h⟩
theorem GStep.trans {X Y : Nat -> Prop} {w'' : World} {v' v'' : GV} {G' G'' : Nat -> Prop} (h : GStep X w w' P v v' G G') (k : GStep Y w' w'' P v' v'' G' G'') (hy : ∀ b, Y b -> X b) : GStep X w w'' P v v'' G G'' where
 turn := h.turn.trans' k.turn (fun b _ hb => hb.elim (h.own b) (fun hb => .inr (hy b hb)))
 sub := fun b hb => k.sub b (h.sub b hb)
 new := fun b hb => (k.new b hb).elim (h.new b) (fun hb => .inr (hy b hb))
 own := fun b hb => (k.own b hb).elim (h.own b) (fun hb => .inr (hy b hb))
theorem GStep.mono {X Y : Nat -> Prop} {v' : GV} {G' : Nat -> Prop} (h : GStep X w w' P v v' G G') (hy : ∀ b, X b -> Y b) : GStep Y w w' P v v' G G' where
 turn := h.turn.mono (fun b _ hb => hb.imp id (hy b))
 sub := h.sub
 new := fun b hb => (h.new b hb).imp id (hy b)
 own := fun b hb => (h.own b hb).imp id (hy b)
end
end
end Go.Proofs.YtmnjhhachdlmkaaGreat
