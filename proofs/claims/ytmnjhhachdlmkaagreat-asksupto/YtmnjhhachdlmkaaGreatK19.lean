import Derived.Test.YtmnjhhachdlmkaaGreatK18
namespace Go.Proofs.YtmnjhhachdlmkaaGreat
open World renaming block_lt_of_cell? -> lG
open Value renaming ownBlock -> lH
-- JBs
section
set_option maxRecDepth 100000
set_option maxHeartbeats 1600000
open Go.RowKit Go.Maps
theorem keepStocks_set {n j : Nat} {mz : Int} {xs : List Value} (hl : xs.length = n * 7) (hj : j < n) (h : MkRow 7 [.int .i64 0, .int .i64 0, .int .i64 0, .int .i64 0, .int .i64 mz, .int .i64 0, .int .i64 0] j xs) : MkRow 7 [.int .i64 0, .int .i64 0, .int .i64 0, .int .i64 0, .int .i64 mz, .int .i64 0, .int .i64 0] (j + 1) (((((((xs.set (j * 7) (.int .i64 0)).set (j * 7 + 1) (.int .i64 0)).set (j * 7 + 2) (.int .i64 0)).set (j * 7 + 3) (.int .i64 0)).set (j * 7 + 4) (.int .i64 mz)).set (j * 7 + 5) (.int .i64 0)).set (j * 7 + 6) (.int .i64 0)) := by
 intro i hi k u hu
 have hk : k < 7 := (List.getElem?_eq_some_iff.1 hu).1
 by_cases e : i < j
 ·rw [List.getElem?_set_ne (by omega), List.getElem?_set_ne (by omega), List.getElem?_set_ne (by omega), List.getElem?_set_ne (by omega), List.getElem?_set_ne (by omega), List.getElem?_set_ne (by omega), List.getElem?_set_ne (by omega)]
  exact h i e k u hu
 ·obtain rfl : i = j := by omega
  rcases (show k = 0 \/ k = 1 \/ k = 2 \/ k = 3 \/ k = 4 \/ k = 5 \/ k = 6 by omega) with rfl | rfl | rfl | rfl | rfl | rfl | rfl
  ·show _[i * 7 + 0]? = _
   simp only [Nat.add_zero]
   rw [List.getElem?_set_ne (by omega), List.getElem?_set_ne (by omega), List.getElem?_set_ne (by omega), List.getElem?_set_ne (by omega), List.getElem?_set_ne (by omega), List.getElem?_set_ne (by omega), List.getElem?_set_self (by (try simp only [List.length_set]); omega)]
   simpa using hu
  ·rw [List.getElem?_set_ne (by omega), List.getElem?_set_ne (by omega), List.getElem?_set_ne (by omega), List.getElem?_set_ne (by omega), List.getElem?_set_ne (by omega), List.getElem?_set_self (by (try simp only [List.length_set]); omega)]
   simpa using hu
  ·rw [List.getElem?_set_ne (by omega), List.getElem?_set_ne (by omega), List.getElem?_set_ne (by omega), List.getElem?_set_ne (by omega), List.getElem?_set_self (by (try simp only [List.length_set]); omega)]
   simpa using hu
  ·rw [List.getElem?_set_ne (by omega), List.getElem?_set_ne (by omega), List.getElem?_set_ne (by omega), List.getElem?_set_self (by (try simp only [List.length_set]); omega)]
   simpa using hu
  ·rw [List.getElem?_set_ne (by omega), List.getElem?_set_ne (by omega), List.getElem?_set_self (by (try simp only [List.length_set]); omega)]
   simpa using hu
  ·rw [List.getElem?_set_ne (by omega), List.getElem?_set_self (by (try simp only [List.length_set]); omega)]
   simpa using hu
  ·rw [List.getElem?_set_self (by (try simp only [List.length_set]); omega)]
   simpa using hu
theorem keepStocks_c {G : Nat -> Prop} (P m base : Nat) (pcs : Array Value) (hps : pcs.size = 11) (bv : Value) (hb : pcs[8]? = some bv) (la : Option Addr) (n lcap : Nat) (xs0 : List Value) (hm : m <= 1000000) (hn : n <= 100000000) (w : World) (hP : w.heap[P]? = some (.cells pcs 94 (0, 0))) (hbk : BookRow w G 44 7 mkS bv m) (ho : w.ownsRow base 116 7 (.slice la n lcap) n xs0) (hGl : ∀ q, lH (.slice la n lcap) = some q -> ¬ G q) (hGb : ∀ q, bv.ownBlock = some q -> ¬ G q) (hGs : ∀ q, G q -> q < w.heap.size) (hGP : ¬ G P) (hbw : base <= w.heap.size) :
  Calls Tryz.prog 78 #[.pointer (some ⟨P, 7, none⟩), .slice la n lcap] w fun e w' => e = .returned (.tuple #[]) /\ ∃ bv', w'.heap[P]? = some (.cells (pcs.setIfInBounds 8 bv') 94 (0, 0)) /\ (∃ G', (∀ q, G q -> G' q) /\ (∀ q, G' q -> G q \/ lH (.slice la n lcap) = some q \/ (w.heap.size <= q /\ q < w'.heap.size)) /\ (∀ q, bv'.ownBlock = some q -> ¬ G' q) /\ ¬ G' P /\ BookRow w' G' 44 7 mkS bv' (m + 1)) /\ (∀ q, bv'.ownBlock = some q -> bv.ownBlock = some q \/ w.heap.size <= q) /\ Turn (fun b => b = P \/ bv.ownBlock = some b \/ lH (.slice la n lcap) = some b) w w' := by
 obtain ⟨i0, hi, hz0, hz1, hz2⟩ := info_parts infoStock
 obtain ⟨k0, hk0, hw0, hw1, hw2⟩ := info_parts infoSlS
 obtain ⟨vs, hvo, hvm⟩ := hbk
 obtain ⟨bn, hbn⟩ : ∃ bn, 4 * m = bn := ⟨_, rfl⟩
 rw [hbn] at hvo
 have HBN : Hid (4 * m = bn) := hbn
 have hbnb : bn <= 4000000 := by omega
 have hq4 : Int.tdiv (bn : Int) 4 = (m : Int) := by rw [<- hbn, Int.natCast_mul, Int.mul_comm]; exact Int.mul_tdiv_cancel _ (by decide)
 obtain ⟨mz, hmz⟩ : ∃ mz : Int, -1 - (m : Int) = mz := ⟨_, rfl⟩
 have hwz : IntKind.i64.wrap (-1 - (m : Int)) = mz := by rw [<- hmz]; rw [IntKind.wrap_i64]; omega
 have HMZ : Hid (mkS m = [.int .i64 0, .int .i64 0, .int .i64 0, .int .i64 0, .int .i64 mz, .int .i64 0, .int .i64 0]) := by
  show mkS m = _
  rw [<- hmz]; rfl
 obtain ⟨ba, bcap, rfl⟩ := owns_slice hvo
 have HB : Hid (w.ownsRow 0 44 1 (.slice ba bn bcap) bn vs) := hvo
 have HV : Hid (∀ k (h : k < vs.length), Marked w G 7 (mkS (k / 4)) vs[k]) := hvm
 have HO0 : Hid (w.ownsRow base 116 7 (.slice la n lcap) n xs0) := ho
 have HG1 : Hid (∀ q, lH (.slice la n lcap) = some q -> ¬ G q) := hGl
 have HG2 : Hid (∀ q, lH (.slice ba bn bcap) = some q -> ¬ G q) := hGb
 have HG3 : Hid (∀ q, G q -> q < w.heap.size) := hGs
 have HP : Hid (w.heap[P]? = some (.cells pcs 94 (0, 0))) := hP
 have HPS : Hid (pcs.size = 11 /\ pcs[8]? = some (.slice ba bn bcap) /\ ¬ G P) := ⟨hps, hb, hGP⟩
 have HLP : Hid (lH (.slice la n lcap) ≠ some P) := row_ne (B := P) hP ho (by decide)
 have HBP : Hid (lH (.slice ba bn bcap) ≠ some P) := row_ne (B := P) hP hvo (by decide)
 have HLB : Hid (∀ q, lH (.slice la n lcap) = some q -> q < w.heap.size) := fun q hq => owns_lt ho hq
 have HBB : Hid (∀ q, lH (.slice ba bn bcap) = some q -> q < w.heap.size /\ lH (.slice la n lcap) ≠ some q) := fun q hq => ⟨owns_lt hvo hq, fun e => by
  obtain ⟨cur, hc⟩ := owns_block hvo hq
  obtain ⟨cur', hc'⟩ := owns_block ho e
  exact type_ne hc hc' (by decide) rfl⟩
 have y : w.cell? ⟨P, 8, none⟩ = some (.slice ba bn bcap) := cell_at hP hb
 have hPl := lG w _ y
 clear hvo hvm ho hGl hGb hGs hP hps hb hbn hmz hGP
 go_enter Tryz.func78, Tryz.ntmps78
 go_wp2_with fail
 have hmk : (w.alloc (.cells #[.int .i64 0, .int .i64 0, .int .i64 0, .int .i64 0, .int .i64 mz, .int .i64 0, .int .i64 0] 116)).heap[w.heap.size]? = some (.cells #[.int .i64 0, .int .i64 0, .int .i64 0, .int .i64 0, .int .i64 mz, .int .i64 0, .int .i64 0] 116 (0, 0)) := heap_alloc_new _ _
 have hXW : Ext w (w.alloc (.cells #[.int .i64 0, .int .i64 0, .int .i64 0, .int .i64 0, .int .i64 mz, .int .i64 0, .int .i64 0] 116)) := (Ext.refl w).alloc _
 obtain ⟨mb, hmb⟩ : ∃ mb, w.heap.size = mb := ⟨_, rfl⟩
 rw [hmb] at hmk
 simp only [hmb]
 generalize World.alloc w _ = W at hmk hXW ⊢
 have HMB : Hid (w.heap.size = mb) := hmb
 have HMK : Hid (W.heap[mb]? = some (.cells #[.int .i64 0, .int .i64 0, .int .i64 0, .int .i64 0, .int .i64 mz, .int .i64 0, .int .i64 0] 116 (0, 0))) := hmk
 have HXW : Hid (Ext w W) := hXW
 clear hmb hmk hXW
 go_loopw [5] (fun at_ wr => ∃ (j : Nat) (xs : List Value), j <= n /\ at_ = .int .i64 (j : Int) /\ wr.ownsRow base 116 7 (.slice la n lcap) n xs /\ MkRow 7 [.int .i64 0, .int .i64 0, .int .i64 0, .int .i64 0, .int .i64 mz, .int .i64 0, .int .i64 0] j xs /\ Turn (fun b => lH (.slice la n lcap) = some b) W wr /\ wr.heap[mb]? = some (.cells #[.int .i64 0, .int .i64 0, .int .i64 0, .int .i64 0, .int .i64 mz, .int .i64 0, .int .i64 0] 116 (0, 0))) (fun at_ _ => n - (intOf at_).toNat)
 case atStart => exact ⟨0, xs0, Nat.zero_le _, rfl, HXW.out.owns HO0.out, fun i hi => absurd hi (Nat.not_lt_zero _), Turn.refl _ _, HMK.out⟩
 case round =>
  obtain ⟨j, xs, hj, rfl, ho, hmr, ht, hmk⟩ := hrel
  have HR0 : Hid (wr.ownsRow base 116 7 (.slice la n lcap) n xs) := ho
  have HMR : Hid (MkRow 7 [.int .i64 0, .int .i64 0, .int .i64 0, .int .i64 0, .int .i64 mz, .int .i64 0, .int .i64 0] j xs) := hmr
  have HT : Hid (Turn (fun b => lH (.slice la n lcap) = some b) W wr) := ht
  have HM : Hid (wr.heap[mb]? = some (.cells #[.int .i64 0, .int .i64 0, .int .i64 0, .int .i64 0, .int .i64 mz, .int .i64 0, .int .i64 0] 116 (0, 0))) := hmk
  clear ho hmr ht hmk
  by_cases hlt : j < n
  ·obtain ⟨gl, rfl⟩ : ∃ g, la = some ⟨g, 0, none⟩ := by
    rcases owns_form HR0.out with ⟨_, h2, _⟩ | ⟨g, c, h1, _⟩
    ·omega
    ·injection h1 with e1 _ _
     exact ⟨g, e1⟩
   have HO : Hid (wr.ownsRow base 116 7 (.slice (some ⟨gl, 0, none⟩) n lcap) n xs) := HR0.out
   have hk0 : (0 : Int) <= (j : Int) := by omega
   have hk1 : (j : Int) < n := by omega
   have c0 : ∃ u, wr.cell? ⟨gl, j * 7, none⟩ = some u := by
    have hl0 : j * 7 < xs.length := by rw [HO.out.1]; omega
    exact ⟨_, owns_cell HO.out (List.getElem?_eq_getElem hl0)⟩
   obtain ⟨old0, c0⟩ := c0
   have z0 : wr.frozen? ⟨gl, j * 7, none⟩ = false := by
    obtain ⟨cur, hc⟩ := owns_block HO.out (g := gl) rfl
    exact frozen_row hc _
   have c1 : ∃ u, wr.cell? ⟨gl, j * 7 + 1, none⟩ = some u := by
    have hl1 : j * 7 + 1 < xs.length := by rw [HO.out.1]; omega
    exact ⟨_, owns_cell HO.out (List.getElem?_eq_getElem hl1)⟩
   obtain ⟨old1, c1⟩ := c1
   have z1 : wr.frozen? ⟨gl, j * 7 + 1, none⟩ = false := by
    obtain ⟨cur, hc⟩ := owns_block HO.out (g := gl) rfl
    exact frozen_row hc _
   have c2 : ∃ u, wr.cell? ⟨gl, j * 7 + 2, none⟩ = some u := by
    have hl2 : j * 7 + 2 < xs.length := by rw [HO.out.1]; omega
    exact ⟨_, owns_cell HO.out (List.getElem?_eq_getElem hl2)⟩
   obtain ⟨old2, c2⟩ := c2
   have z2 : wr.frozen? ⟨gl, j * 7 + 2, none⟩ = false := by
    obtain ⟨cur, hc⟩ := owns_block HO.out (g := gl) rfl
    exact frozen_row hc _
   have c3 : ∃ u, wr.cell? ⟨gl, j * 7 + 3, none⟩ = some u := by
    have hl3 : j * 7 + 3 < xs.length := by rw [HO.out.1]; omega
    exact ⟨_, owns_cell HO.out (List.getElem?_eq_getElem hl3)⟩
   obtain ⟨old3, c3⟩ := c3
   have z3 : wr.frozen? ⟨gl, j * 7 + 3, none⟩ = false := by
    obtain ⟨cur, hc⟩ := owns_block HO.out (g := gl) rfl
    exact frozen_row hc _
   have c4 : ∃ u, wr.cell? ⟨gl, j * 7 + 4, none⟩ = some u := by
    have hl4 : j * 7 + 4 < xs.length := by rw [HO.out.1]; omega
    exact ⟨_, owns_cell HO.out (List.getElem?_eq_getElem hl4)⟩
   obtain ⟨old4, c4⟩ := c4
   have z4 : wr.frozen? ⟨gl, j * 7 + 4, none⟩ = false := by
    obtain ⟨cur, hc⟩ := owns_block HO.out (g := gl) rfl
    exact frozen_row hc _
   have c5 : ∃ u, wr.cell? ⟨gl, j * 7 + 5, none⟩ = some u := by
    have hl5 : j * 7 + 5 < xs.length := by rw [HO.out.1]; omega
    exact ⟨_, owns_cell HO.out (List.getElem?_eq_getElem hl5)⟩
   obtain ⟨old5, c5⟩ := c5
   have z5 : wr.frozen? ⟨gl, j * 7 + 5, none⟩ = false := by
    obtain ⟨cur, hc⟩ := owns_block HO.out (g := gl) rfl
    exact frozen_row hc _
   have c6 : ∃ u, wr.cell? ⟨gl, j * 7 + 6, none⟩ = some u := by
    have hl6 : j * 7 + 6 < xs.length := by rw [HO.out.1]; omega
    exact ⟨_, owns_cell HO.out (List.getElem?_eq_getElem hl6)⟩
   obtain ⟨old6, c6⟩ := c6
   have z6 : wr.frozen? ⟨gl, j * 7 + 6, none⟩ = false := by
    obtain ⟨cur, hc⟩ := owns_block HO.out (g := gl) rfl
    exact frozen_row hc _
   have m0 : wr.cell? ⟨mb, 0, none⟩ = some (.int .i64 0) := cell_at HM.out rfl
   have m1 : wr.cell? ⟨mb, 1, none⟩ = some (.int .i64 0) := cell_at HM.out rfl
   have m2 : wr.cell? ⟨mb, 2, none⟩ = some (.int .i64 0) := cell_at HM.out rfl
   have m3 : wr.cell? ⟨mb, 3, none⟩ = some (.int .i64 0) := cell_at HM.out rfl
   have m4 : wr.cell? ⟨mb, 4, none⟩ = some (.int .i64 mz) := cell_at HM.out rfl
   have m5 : wr.cell? ⟨mb, 5, none⟩ = some (.int .i64 0) := cell_at HM.out rfl
   have m6 : wr.cell? ⟨mb, 6, none⟩ = some (.int .i64 0) := cell_at HM.out rfl
   have hgl := lG wr _ c0
   have hne : gl ≠ mb := by have := HLB.out gl rfl; have := HMB.out; omega
   go_wp2
   go_roundw
   case rel =>
    refine ⟨j + 1, _, by omega, by go_num, (owns_set (owns_set (owns_set (owns_set (owns_set (owns_set (owns_set HO.out (j * 7) _) (j * 7 + 1) _) (j * 7 + 2) _) (j * 7 + 3) _) (j * 7 + 4) _) (j * 7 + 5) _) (j * 7 + 6) _), keepStocks_set HO.out.1 hlt HMR.out, (Turn.setCell (S := fun b => lH (.slice (some ⟨gl, 0, none⟩) n lcap) = some b) (p := ⟨gl, j * 7 + 6, none⟩) (Turn.setCell (S := fun b => lH (.slice (some ⟨gl, 0, none⟩) n lcap) = some b) (p := ⟨gl, j * 7 + 5, none⟩) (Turn.setCell (S := fun b => lH (.slice (some ⟨gl, 0, none⟩) n lcap) = some b) (p := ⟨gl, j * 7 + 4, none⟩) (Turn.setCell (S := fun b => lH (.slice (some ⟨gl, 0, none⟩) n lcap) = some b) (p := ⟨gl, j * 7 + 3, none⟩) (Turn.setCell (S := fun b => lH (.slice (some ⟨gl, 0, none⟩) n lcap) = some b) (p := ⟨gl, j * 7 + 2, none⟩) (Turn.setCell (S := fun b => lH (.slice (some ⟨gl, 0, none⟩) n lcap) = some b) (p := ⟨gl, j * 7 + 1, none⟩) (Turn.setCell (S := fun b => lH (.slice (some ⟨gl, 0, none⟩) n lcap) = some b) (p := ⟨gl, j * 7, none⟩) HT.out (fun _ => rfl) _) (fun _ => rfl) _) (fun _ => rfl) _) (fun _ => rfl) _) (fun _ => rfl) _) (fun _ => rfl) _) (fun _ => rfl) _), (Turn.ref (S := fun b => b = gl) ((Turn.setCell (S := fun b => b = gl) (p := ⟨gl, j * 7 + 6, none⟩) (Turn.setCell (S := fun b => b = gl) (p := ⟨gl, j * 7 + 5, none⟩) (Turn.setCell (S := fun b => b = gl) (p := ⟨gl, j * 7 + 4, none⟩) (Turn.setCell (S := fun b => b = gl) (p := ⟨gl, j * 7 + 3, none⟩) (Turn.setCell (S := fun b => b = gl) (p := ⟨gl, j * 7 + 2, none⟩) (Turn.setCell (S := fun b => b = gl) (p := ⟨gl, j * 7 + 1, none⟩) (Turn.setCell (S := fun b => b = gl) (p := ⟨gl, j * 7, none⟩) (Turn.refl _ wr) (fun _ => rfl) _) (fun _ => rfl) _) (fun _ => rfl) _) (fun _ => rfl) _) (fun _ => rfl) _) (fun _ => rfl) _) (fun _ => rfl) _)) HM.out (fun e => hne e.symm))⟩
   case measure => simp [intOf]; omega
  ·obtain rfl : j = n := by omega
   clear hlt hj
   have y0 : wr.cell? ⟨P, 8, none⟩ = some (.slice ba bn bcap) := HT.out.cell (HXW.out.cell y) (by intro e; exact HLP.out e)
   have m0 : wr.cell? ⟨mb, 0, none⟩ = some (.int .i64 0) := cell_at HM.out rfl
   have m1 : wr.cell? ⟨mb, 1, none⟩ = some (.int .i64 0) := cell_at HM.out rfl
   have m2 : wr.cell? ⟨mb, 2, none⟩ = some (.int .i64 0) := cell_at HM.out rfl
   have m3 : wr.cell? ⟨mb, 3, none⟩ = some (.int .i64 0) := cell_at HM.out rfl
   have m4 : wr.cell? ⟨mb, 4, none⟩ = some (.int .i64 mz) := cell_at HM.out rfl
   have m5 : wr.cell? ⟨mb, 5, none⟩ = some (.int .i64 0) := cell_at HM.out rfl
   have m6 : wr.cell? ⟨mb, 6, none⟩ = some (.int .i64 0) := cell_at HM.out rfl
   have hszr := HT.out.size
   have hWw := HXW.out.le
   have hmbw := HMB.out
   go_wp2_with (at_builtin; refine wpList_append_keeps _ rfl _ _ 44 rfl base 116 i0 _ 7 56 Tryz.underlying44 hi hz0 hz1 hz2 rfl (by decide) (.slice la j lcap) j xs rfl (Ext.owns (Ext.alloc (Ext.refl _) _) HR0.out) ⟨_, 0, none⟩ 1 1 [.int .i64 0, .int .i64 0, .int .i64 0, .int .i64 0, .int .i64 mz, .int .i64 0, .int .i64 0] rfl rfl (World.news_of_block (at_new (by simp))) (by simp [Value.oneCell']) (by decide) (by unfold maxLen; omega) (by omega) (by simp; omega) ?_)
   intro g1 cap1 w1 hown hkept hgrow hcase hlt
   have HR1 : Hid (w1.ownsRow base 116 7 (.slice (some ⟨g1, 0, none⟩) (j + 1) cap1) (j + 1) (xs ++ [.int .i64 0, .int .i64 0, .int .i64 0, .int .i64 0, .int .i64 mz, .int .i64 0, .int .i64 0])) := hown
   have HK1 : Hid (w1.ownsRow base 116 7 (.slice la j lcap) j xs) := hkept
   have HT1 : Hid (Turn (fun b => lH (.slice la j lcap) = some b) wr w1) := Turn.grown (Turn.alloc (Turn.refl _ _) _) hgrow (fun q hq _ => hq)
   have HC1 : Hid (lH (.slice la j lcap) = some g1 \/ (Ext wr w1 /\ wr.heap.size <= g1)) := hcase.imp id (fun h => ⟨(Ext.alloc (Ext.refl _) _).trans h.1, by have := h.2; (try simp at this); omega⟩)
   have hsz1 := HT1.out.size
   clear hown hkept hgrow hcase hlt
   have m0 : w1.cell? ⟨mb, 0, none⟩ = some (.int .i64 0) := HT1.out.cell m0 (by intro e; have := HLB.out mb e; omega)
   have m1 : w1.cell? ⟨mb, 1, none⟩ = some (.int .i64 0) := HT1.out.cell m1 (by intro e; have := HLB.out mb e; omega)
   have m2 : w1.cell? ⟨mb, 2, none⟩ = some (.int .i64 0) := HT1.out.cell m2 (by intro e; have := HLB.out mb e; omega)
   have m3 : w1.cell? ⟨mb, 3, none⟩ = some (.int .i64 0) := HT1.out.cell m3 (by intro e; have := HLB.out mb e; omega)
   have m4 : w1.cell? ⟨mb, 4, none⟩ = some (.int .i64 mz) := HT1.out.cell m4 (by intro e; have := HLB.out mb e; omega)
   have m5 : w1.cell? ⟨mb, 5, none⟩ = some (.int .i64 0) := HT1.out.cell m5 (by intro e; have := HLB.out mb e; omega)
   have m6 : w1.cell? ⟨mb, 6, none⟩ = some (.int .i64 0) := HT1.out.cell m6 (by intro e; have := HLB.out mb e; omega)
   have y1 : w1.cell? ⟨P, 8, none⟩ = some (.slice ba bn bcap) := HT1.out.cell y0 (by intro e; exact HLP.out e)
   go_wp2_with (at_builtin; refine wpList_append_keeps _ rfl _ _ 44 rfl base 116 i0 _ 7 56 Tryz.underlying44 hi hz0 hz1 hz2 rfl (by decide) (.slice la j lcap) j xs rfl (Ext.owns (Ext.alloc (Ext.refl _) _) HK1.out) ⟨_, 0, none⟩ 2 2 [.int .i64 0, .int .i64 0, .int .i64 0, .int .i64 0, .int .i64 mz, .int .i64 0, .int .i64 0, .int .i64 0, .int .i64 0, .int .i64 0, .int .i64 0, .int .i64 mz, .int .i64 0, .int .i64 0] rfl rfl (World.news_of_block (at_new (by simp))) (by simp [Value.oneCell']) (by decide) (by unfold maxLen; omega) (by omega) (by simp; omega) ?_)
   intro g2 cap2 w2 hown hkept hgrow hcase hlt
   have HR2 : Hid (w2.ownsRow base 116 7 (.slice (some ⟨g2, 0, none⟩) (j + 2) cap2) (j + 2) (xs ++ [.int .i64 0, .int .i64 0, .int .i64 0, .int .i64 0, .int .i64 mz, .int .i64 0, .int .i64 0, .int .i64 0, .int .i64 0, .int .i64 0, .int .i64 0, .int .i64 mz, .int .i64 0, .int .i64 0])) := hown
   have HK2 : Hid (w2.ownsRow base 116 7 (.slice la j lcap) j xs) := hkept
   have HT2 : Hid (Turn (fun b => lH (.slice la j lcap) = some b) w1 w2) := Turn.grown (Turn.alloc (Turn.refl _ _) _) hgrow (fun q hq _ => hq)
   have HC2 : Hid (lH (.slice la j lcap) = some g2 \/ (Ext w1 w2 /\ w1.heap.size <= g2)) := hcase.imp id (fun h => ⟨(Ext.alloc (Ext.refl _) _).trans h.1, by have := h.2; (try simp at this); omega⟩)
   have hsz2 := HT2.out.size
   clear hown hkept hgrow hcase hlt
   have m0 : w2.cell? ⟨mb, 0, none⟩ = some (.int .i64 0) := HT2.out.cell m0 (by intro e; have := HLB.out mb e; omega)
   have m1 : w2.cell? ⟨mb, 1, none⟩ = some (.int .i64 0) := HT2.out.cell m1 (by intro e; have := HLB.out mb e; omega)
   have m2 : w2.cell? ⟨mb, 2, none⟩ = some (.int .i64 0) := HT2.out.cell m2 (by intro e; have := HLB.out mb e; omega)
   have m3 : w2.cell? ⟨mb, 3, none⟩ = some (.int .i64 0) := HT2.out.cell m3 (by intro e; have := HLB.out mb e; omega)
   have m4 : w2.cell? ⟨mb, 4, none⟩ = some (.int .i64 mz) := HT2.out.cell m4 (by intro e; have := HLB.out mb e; omega)
   have m5 : w2.cell? ⟨mb, 5, none⟩ = some (.int .i64 0) := HT2.out.cell m5 (by intro e; have := HLB.out mb e; omega)
   have m6 : w2.cell? ⟨mb, 6, none⟩ = some (.int .i64 0) := HT2.out.cell m6 (by intro e; have := HLB.out mb e; omega)
   have y2 : w2.cell? ⟨P, 8, none⟩ = some (.slice ba bn bcap) := HT2.out.cell y1 (by intro e; exact HLP.out e)
   go_wp2_with (at_builtin; refine wpList_append_keeps _ rfl _ _ 44 rfl base 116 i0 _ 7 56 Tryz.underlying44 hi hz0 hz1 hz2 rfl (by decide) (.slice la j lcap) j xs rfl (Ext.owns (Ext.alloc (Ext.refl _) _) HK2.out) ⟨_, 0, none⟩ 3 3 [.int .i64 0, .int .i64 0, .int .i64 0, .int .i64 0, .int .i64 mz, .int .i64 0, .int .i64 0, .int .i64 0, .int .i64 0, .int .i64 0, .int .i64 0, .int .i64 mz, .int .i64 0, .int .i64 0, .int .i64 0, .int .i64 0, .int .i64 0, .int .i64 0, .int .i64 mz, .int .i64 0, .int .i64 0] rfl rfl (World.news_of_block (at_new (by simp))) (by simp [Value.oneCell']) (by decide) (by unfold maxLen; omega) (by omega) (by simp; omega) ?_)
   intro g3 cap3 w3 hown hkept hgrow hcase hlt
   have HR3 : Hid (w3.ownsRow base 116 7 (.slice (some ⟨g3, 0, none⟩) (j + 3) cap3) (j + 3) (xs ++ [.int .i64 0, .int .i64 0, .int .i64 0, .int .i64 0, .int .i64 mz, .int .i64 0, .int .i64 0, .int .i64 0, .int .i64 0, .int .i64 0, .int .i64 0, .int .i64 mz, .int .i64 0, .int .i64 0, .int .i64 0, .int .i64 0, .int .i64 0, .int .i64 0, .int .i64 mz, .int .i64 0, .int .i64 0])) := hown
   have HK3 : Hid (w3.ownsRow base 116 7 (.slice la j lcap) j xs) := hkept
   have HT3 : Hid (Turn (fun b => lH (.slice la j lcap) = some b) w2 w3) := Turn.grown (Turn.alloc (Turn.refl _ _) _) hgrow (fun q hq _ => hq)
   have HC3 : Hid (lH (.slice la j lcap) = some g3 \/ (Ext w2 w3 /\ w2.heap.size <= g3)) := hcase.imp id (fun h => ⟨(Ext.alloc (Ext.refl _) _).trans h.1, by have := h.2; (try simp at this); omega⟩)
   have hsz3 := HT3.out.size
   clear hown hkept hgrow hcase hlt
   have m0 : w3.cell? ⟨mb, 0, none⟩ = some (.int .i64 0) := HT3.out.cell m0 (by intro e; have := HLB.out mb e; omega)
   have m1 : w3.cell? ⟨mb, 1, none⟩ = some (.int .i64 0) := HT3.out.cell m1 (by intro e; have := HLB.out mb e; omega)
   have m2 : w3.cell? ⟨mb, 2, none⟩ = some (.int .i64 0) := HT3.out.cell m2 (by intro e; have := HLB.out mb e; omega)
   have m3 : w3.cell? ⟨mb, 3, none⟩ = some (.int .i64 0) := HT3.out.cell m3 (by intro e; have := HLB.out mb e; omega)
   have m4 : w3.cell? ⟨mb, 4, none⟩ = some (.int .i64 mz) := HT3.out.cell m4 (by intro e; have := HLB.out mb e; omega)
   have m5 : w3.cell? ⟨mb, 5, none⟩ = some (.int .i64 0) := HT3.out.cell m5 (by intro e; have := HLB.out mb e; omega)
   have m6 : w3.cell? ⟨mb, 6, none⟩ = some (.int .i64 0) := HT3.out.cell m6 (by intro e; have := HLB.out mb e; omega)
   have y3 : w3.cell? ⟨P, 8, none⟩ = some (.slice ba bn bcap) := HT3.out.cell y2 (by intro e; exact HLP.out e)
   have HTA : Hid (Turn (fun b => lH (.slice la j lcap) = some b) w w3) := (((Turn.of_ext HXW.out).trans HT.out).trans HT1.out).trans (HT2.out.trans HT3.out)
   have HB3 : Hid (w3.ownsRow 0 44 1 (.slice ba bn bcap) bn vs) := HTA.out.owns HB.out (fun q hq e => (HBB.out q hq).2 e)
   go_wp2_with (at_builtin; refine wpList_append_lies _ rfl _ _ 88 rfl 0 44 k0 _ 1 24 Tryz.underlying88 hk0 hw0 hw1 hw2 rfl (by decide) (.slice ba bn bcap) bn vs rfl (Ext.owns (Ext.alloc (Ext.refl _) _) HB3.out) ⟨_, 0, none⟩ 4 4 [.slice la j lcap, .slice (some ⟨g1, 0, none⟩) (j + 1) cap1, .slice (some ⟨g2, 0, none⟩) (j + 2) cap2, .slice (some ⟨g3, 0, none⟩) (j + 3) cap3] rfl rfl (World.news_of_block (at_new (by simp))) (by simp [Value.oneCell']) (by decide) (by unfold maxLen; omega) (by omega) (Nat.zero_le _) _ rfl ?_)
   intro g5 cap5 w5 hown5 hgrow5 hat5 hlt5
   have HT5 : Hid (Turn (fun b => lH (.slice ba bn bcap) = some b) w3 w5) := Turn.grown (Turn.alloc (Turn.refl _ _) _) hgrow5 (fun q hq _ => hq)
   have HO5 : Hid (w5.ownsRow 0 44 1 (.slice (some ⟨g5, 0, none⟩) (bn + 4) cap5) (bn + 4) (vs ++ [.slice la j lcap, .slice (some ⟨g1, 0, none⟩) (j + 1) cap1, .slice (some ⟨g2, 0, none⟩) (j + 2) cap2, .slice (some ⟨g3, 0, none⟩) (j + 3) cap3])) := hown5
   have HAT : Hid (lH (.slice ba bn bcap) = some g5 \/ w3.heap.size < g5 + 1) := hat5.imp id (fun h => by (try simp at h); omega)
   have y5 : w5.cell? ⟨P, 8, none⟩ = some (.slice ba bn bcap) := HT5.out.cell y3 (by intro e; exact HBP.out e)
   have hP5 : w5.heap[P]? = some (.cells pcs 94 (0, 0)) := HT5.out.ref (HTA.out.ref HP.out (fun e => HLP.out e)) (fun e => HBP.out e)
   have f5 := frozen_row hP5 8
   have HP5 : Hid _ := hP5
   have hPl5 := lG w5 _ y5
   clear hown5 hgrow5 hat5 hP5
   go_wp2
   go_end0
   have hbn := HBN.out
   obtain ⟨hps, hpb, hGP⟩ := HPS.out
   have hsz5 := HT5.out.size
   have hszA := HTA.out.size
   have hA1 : xs.length = j * 7 := HR0.out.1
   have hm1 := HMR.out.snoc rfl hA1
   have hm2 := hm1.snoc rfl (by rw [List.length_append, hA1, Nat.add_mul]; rfl)
   have hm3 := hm2.snoc rfl (by rw [List.length_append, List.length_append, hA1, Nat.add_mul, Nat.add_mul]; rfl)
   have r1 : MkAt w1 7 [.int .i64 0, .int .i64 0, .int .i64 0, .int .i64 0, .int .i64 mz, .int .i64 0, .int .i64 0] g1 (j + 1) := mkAt_owns HR1.out hm1
   have r2 : MkAt w2 7 [.int .i64 0, .int .i64 0, .int .i64 0, .int .i64 0, .int .i64 mz, .int .i64 0, .int .i64 0] g2 (j + 2) := mkAt_owns HR2.out (by rw [show xs ++ [.int .i64 0, .int .i64 0, .int .i64 0, .int .i64 0, .int .i64 mz, .int .i64 0, .int .i64 0, .int .i64 0, .int .i64 0, .int .i64 0, .int .i64 0, .int .i64 mz, .int .i64 0, .int .i64 0] = (xs ++ [.int .i64 0, .int .i64 0, .int .i64 0, .int .i64 0, .int .i64 mz, .int .i64 0, .int .i64 0]) ++ [.int .i64 0, .int .i64 0, .int .i64 0, .int .i64 0, .int .i64 mz, .int .i64 0, .int .i64 0] by simp]; exact hm2)
   have r3 : MkAt w3 7 [.int .i64 0, .int .i64 0, .int .i64 0, .int .i64 0, .int .i64 mz, .int .i64 0, .int .i64 0] g3 (j + 3) := mkAt_owns HR3.out (by rw [show xs ++ [.int .i64 0, .int .i64 0, .int .i64 0, .int .i64 0, .int .i64 mz, .int .i64 0, .int .i64 0, .int .i64 0, .int .i64 0, .int .i64 0, .int .i64 0, .int .i64 mz, .int .i64 0, .int .i64 0, .int .i64 0, .int .i64 0, .int .i64 0, .int .i64 0, .int .i64 mz, .int .i64 0, .int .i64 0] = ((xs ++ [.int .i64 0, .int .i64 0, .int .i64 0, .int .i64 0, .int .i64 mz, .int .i64 0, .int .i64 0]) ++ [.int .i64 0, .int .i64 0, .int .i64 0, .int .i64 0, .int .i64 mz, .int .i64 0, .int .i64 0]) ++ [.int .i64 0, .int .i64 0, .int .i64 0, .int .i64 0, .int .i64 mz, .int .i64 0, .int .i64 0] by simp]; exact hm3)
   have r1' := (r1.app (by omega) r2 HT2.out HC2.out).app (by omega) r3 HT3.out HC3.out
   have r2' := r2.app (by omega) r3 HT3.out HC3.out
   obtain ⟨w6, hw6⟩ : ∃ w6, w5.setCell ⟨P, 8, none⟩ (.slice (some ⟨g5, 0, none⟩) (bn + 4) cap5) = w6 := ⟨_, rfl⟩
   have hT6 : Turn (fun b => b = P \/ lH (.slice ba bn bcap) = some b) w3 w6 := by
    rw [<- hw6]; exact Turn.setCell (S := fun b => b = P \/ lH (.slice ba bn bcap) = some b) (p := ⟨P, 8, none⟩) (HT5.out.mono (fun _ _ e => .inr e)) (fun _ => .inl rfl) _
   have hP6 : w6.heap[P]? = some (.cells (pcs.setIfInBounds 8 (.slice (some ⟨g5, 0, none⟩) (bn + 4) cap5)) 94 (0, 0)) := by rw [<- hw6]; exact setCell_row HP5.out _
   have hg5P : g5 ≠ P := by
    rcases HAT.out with h | h
    ·exact fun e => HBP.out (by rw [<- e]; exact h)
    ·omega
   have hO6 := owns_setCell HO5.out (a := ⟨P, 8, none⟩) (by simpa [lH] using hg5P) (.slice (some ⟨g5, 0, none⟩) (bn + 4) cap5)
   rw [hw6] at hO6
   have hsz6 : w6.heap.size = w5.heap.size := by rw [<- hw6]; simp
   rw [hw6]
   -- where the new lists lie
   have hwh : ∀ g nn cc, (∃ xx w', (w' = w1 \/ w' = w2 \/ w' = w3) /\ World.ownsRow w' base 116 7 (.slice (some ⟨g, 0, none⟩) nn cc) nn xx) -> (lH (.slice la j lcap) = some g \/ w.heap.size <= g) -> g < w3.heap.size /\ (lH (.slice la j lcap) = some g \/ w.heap.size <= g) := fun g nn cc ⟨xx, w', hw', hoo⟩ hc => ⟨by
    have := owns_lt hoo (g := g) rfl
    have := HT2.out.size
    have := HT3.out.size
    rcases hw' with e | e | e <;> (subst e; omega), hc⟩
   have q1 := hwh g1 _ _ ⟨_, w1, .inl rfl, HR1.out⟩ (HC1.out.imp id (fun h => by have := h.2; omega))
   have q2 := hwh g2 _ _ ⟨_, w2, .inr (.inl rfl), HR2.out⟩ (HC2.out.imp id (fun h => by have := h.2; omega))
   have q3 := hwh g3 _ _ ⟨_, w3, .inr (.inr rfl), HR3.out⟩ (HC3.out.imp id (fun h => by have := h.2; omega))
   have hnn : ∀ g, (lH (.slice la j lcap) = some g \/ w.heap.size <= g) -> ¬ (g = P \/ lH (.slice ba bn bcap) = some g) := fun g hg hor => by
    rcases hor with e | e
    ·rcases hg with h | h
     ·exact HLP.out (by rw [<- e]; exact h)
     ·omega
    ·rcases hg with h | h
     ·exact (HBB.out g e).2 h
     ·have := (HBB.out g e).1; omega
   have hne5 : ∀ g, (∃ cur, w3.heap[g]? = some (.cells cur 116 (0, 0))) -> g ≠ g5 := fun g ⟨cur, hc⟩ e => by
    subst e
    rcases HAT.out with h | h
    ·obtain ⟨cur2, hc2⟩ := owns_block HB3.out h
     exact type_ne hc hc2 (by decide) rfl
    ·have := (Array.getElem?_eq_some_iff.1 hc).1
     omega
   have n1 := hne5 g1 (typ_keep (typ_keep (owns_block HR1.out (g := g1) rfl) HT2.out HK2.out) HT3.out HK3.out)
   have n2 := hne5 g2 (typ_keep (owns_block HR2.out (g := g2) rfl) HT3.out HK3.out)
   have n3 := hne5 g3 (owns_block HR3.out (g := g3) rfl)
   refine ⟨rfl, .slice (some ⟨g5, 0, none⟩) (bn + 4) cap5, hP6, ⟨fun q => G q \/ lH (.slice la j lcap) = some q \/ (w.heap.size <= q /\ q < w6.heap.size /\ q ≠ g5), fun q hq => .inl hq, fun q hq => ?_, fun q hq => ?_, ?_, ?_⟩, fun q hq => ?_, ?_⟩
   ·rcases hq with hq | hq | hq
    ·exact .inl hq
    ·exact .inr (.inl hq)
    ·exact .inr (.inr ⟨by have := hq.1; omega, hq.2.1⟩)
   ·have hq5 : g5 = q := by simpa [lH] using hq
    subst hq5
    rintro (hq | hq | hq)
    ·rcases HAT.out with h | h
     ·exact HG2.out _ h hq
     ·have := HG3.out _ hq; omega
    ·rcases HAT.out with h | h
     ·exact (HBB.out _ h).2 hq
     ·have := HLB.out _ hq; omega
    ·exact hq.2.2 rfl
   ·rintro (hq | hq | hq)
    ·exact hGP hq
    ·exact HLP.out hq
    ·omega
   ·have hmk : ∀ g nn cc, MkAt w3 7 [.int .i64 0, .int .i64 0, .int .i64 0, .int .i64 0, .int .i64 mz, .int .i64 0, .int .i64 0] g nn -> nn <= 200000000 -> (g < w3.heap.size /\ (lH (.slice la j lcap) = some g \/ w.heap.size <= g)) -> g ≠ g5 -> Marked w6 (fun q => G q \/ lH (.slice la j lcap) = some q \/ (w.heap.size <= q /\ q < w6.heap.size /\ q ≠ g5)) 7 (mkS m) (.slice (some ⟨g, 0, none⟩) nn cc) := fun g nn cc hmm hnb hg hg5 => by
     refine ⟨some ⟨g, 0, none⟩, nn, cc, rfl, hnb, .inr ⟨g, rfl, ?_, ?_⟩⟩
     ·rcases hg.2 with h | h
      ·exact .inr (.inl h)
      ·exact .inr (.inr ⟨h, by omega, hg5⟩)
     ·rw [HMZ.out]
      exact hmm.turn hT6 (hnn g hg.2)
    refine BookRow.keep (vs := vs) (by rw [hbn]; have := HB.out.1; omega) (fun k hk => ?_) (by rw [hbn]; exact hO6) ?_ (hmk g1 _ _ r1' (by omega) q1 n1) (hmk g2 _ _ r2' (by omega) q2 n2) (hmk g3 _ _ r3 (by omega) q3 n3)
    ·refine (((HV.out k hk).turn HTA.out (fun b hb e => HG1.out b e hb)).turn hT6 (fun b hb hor => ?_)).mono (fun q hq => .inl hq)
     rcases hor with e | e
     ·exact hGP (by rw [<- e]; exact hb)
     ·exact HG2.out b e hb
    ·refine ⟨la, j, lcap, rfl, by omega, ?_⟩
     rcases owns_form HK3.out with ⟨_, h2, _⟩ | ⟨g, c, h1, _⟩
     ·exact .inl h2
     ·injection h1 with e1 _ e3
      subst e1
      refine .inr ⟨g, rfl, .inr (.inl rfl), ?_⟩
      rw [HMZ.out]
      exact (mkAt_owns HK3.out HMR.out).turn hT6 (hnn g (.inl rfl))
   ·have hq5 : g5 = q := by simpa [lH] using hq
    subst hq5
    rcases HAT.out with h | h
    ·exact .inl h
    ·exact .inr (by omega)
   ·exact (HTA.out.mono (fun b _ e => .inr (.inr e))).trans' hT6 (fun b _ e => e.elim (fun e => .inl e) (fun e => .inr (.inl e)))
end
end Go.Proofs.YtmnjhhachdlmkaaGreat
