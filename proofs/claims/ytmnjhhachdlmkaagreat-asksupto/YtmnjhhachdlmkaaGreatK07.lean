import Derived.Test.YtmnjhhachdlmkaaGreatK06
import Derived.Test.YtmnjhhachdlmkaaGreatK02
import Derived.Test.YtmnjhhachdlmkaaGreatK01
namespace Go.Proofs.YtmnjhhachdlmkaaGreat
open List renaming getElem_toArray -> lA, getElem_cons_succ -> lB, getElem_cons_zero -> lC, setIfInBounds_toArray -> lD, set_cons_zero -> lE, set_cons_succ -> lF
open World renaming block_lt_of_cell? -> lG
open Value renaming ownBlock -> lH
-- GRf
section
set_option maxRecDepth 100000
set_option maxHeartbeats 3200000
open Go.RowKit Go.Maps
theorem infoShares : (Tryz.prog.info? 176).map (fun i => (i.zero, i.size, i.bytes)) = some (some (.agg #[.slice none 0 0, .slice none 0 0]), 2, 48) := by kernel_rfl
section
variable {B : Nat} {F : Nat -> Prop} {sv lv dv : Value} {R : List StkR} {ls : List LsV} {ops : List OpV} {fl : Bool} {ah : Int} {kn : Bool}
/-- No class. -/
theorem refillCls_c (kd m k n : Int) (hcls : isCls kd m k n = false) (a : Option Addr) (len cap B : Nat) (w : World) :
  Calls Tryz.prog 65 #[.pointer (some ⟨B, 0, none⟩), clsV kd m k n, .slice a len cap] w fun e w' => e = .returned (.int .i64 2) /\ Ext w w' := by
 have HI : Hid (∀ w, Calls Tryz.prog 95 #[clsV kd m k n] w fun e w' => e = .returned (.bool false) /\ Ext w w') := fun w => by
  have := isClass_c kd m k n w
  rw [hcls] at this
  exact this
 unfold clsV at *
 clear hcls
 go_enter Tryz.func65, Tryz.ntmps65
 go_wp2_with fail
 refine (HI.out _).mono ?_; rintro e w1 ⟨rfl, hx1⟩
 have HX1 : Hid (Ext w w1) := ((Ext.refl w).alloc _).trans hx1
 clear hx1
 go_wp2
 go_ret
 exact ⟨rfl, HX1.out⟩
/-- Not as many draws as triples take. -/
theorem refillDraws_c (kd m k n : Nat) (hcls : isCls kd m k n = true) (a : Option Addr) (len cap B E : Nat) (hE : E = (shOf kd m k n).x + (shOf kd m k n).y + ((shOf kd m k n).x + (shOf kd m k n).y + (shOf kd m k n).z)) (hlen : len <= 1000000000000000) (hno : len % E ≠ 0 \/ len / E < 1 \/ 12 < len / E) (w : World) :
  Calls Tryz.prog 65 #[.pointer (some ⟨B, 0, none⟩), clsV kd m k n, .slice a len cap] w fun e w' => e = .returned (.int .i64 3) /\ Ext w w' := by
 obtain ⟨hc, hs⟩ := shOf_of hcls
 have hle := Sh.le hs
 have HI : Hid (∀ w, Calls Tryz.prog 95 #[clsV kd m k n] w fun e w' => e = .returned (.bool true) /\ Ext w w') := fun w => by
  have := isClass_c kd m k n w
  rw [hcls] at this
  exact this
 have HDr : Hid _ := drawsOf_c hc hs
 rw [<- hE] at HDr
 have hE1 : 1 <= E /\ E <= 45 := by omega
 unfold clsV at *
 clear hcls hc hs hE hle
 have hdiv : Int.tdiv (len : Int) (E : Int) = ((len / E : Nat) : Int) := by rw [Int.tdiv_eq_ediv_of_nonneg (by omega)]; rfl
 have hmod : Int.tmod (len : Int) (E : Int) = ((len % E : Nat) : Int) := by rw [Int.tmod_eq_emod_of_nonneg (by omega)]; rfl
 have hne : ¬ ((E : Int) = 0) := by omega
 have hdl : len / E <= len := Nat.div_le_self _ _
 have HNo : Hid _ := hno
 generalize len / E = qd at *
 generalize len % E = qm at *
 have hwd : IntKind.i64.wrap (qd : Int) = (qd : Int) := by rw [IntKind.wrap_i64]; omega
 clear hno
 go_enter Tryz.func65, Tryz.ntmps65
 go_wp2_with fail
 refine (HI.out _).mono ?_; rintro e w1 ⟨rfl, hx1⟩
 obtain ⟨d0, d1, d2, d3⟩ := four_in hx1
 have HX1 : Hid (Ext w w1) := ((Ext.refl w).alloc _).trans hx1
 clear hx1
 go_wp2_with fail
 refine (HDr.out _).mono ?_; rintro e w2 ⟨rfl, hx2⟩
 have HX2 : Hid (Ext w w2) := HX1.out.trans hx2
 clear hx2 HX1 d0 d1 d2 d3
 go_wp2_with fail
 all_goals first
  | (go_ret; exact ⟨rfl, HX2.out⟩)
  | (exfalso; have := HNo.out; omega)
def chunk (D : List Int) (E j : Nat) : List Int := (D.drop (j * E)).take E
def chunks (D : List Int) (E c : Nat) : List (List Int) := (List.range c).map (chunk D E)
theorem len_chunks (D : List Int) (E c : Nat) : (chunks D E c).length = c := by simp [chunks]
theorem chunk_len {D : List Int} {E j c : Nat} (h : D.length = c * E) (hj : j < c) : (chunk D E j).length = E := by
 have h1 : (j + 1) * E <= c * E := Nat.mul_le_mul_right E hj
 rw [Nat.add_mul, Nat.one_mul] at h1
 rw [chunk, List.length_take, List.length_drop]
 omega
theorem chunk_in {D : List Int} (h : inU64 D) (E j : Nat) : inU64 (chunk D E j) := fun z hz => h z (List.mem_of_mem_drop (List.mem_of_mem_take hz))
/-- The row of the triples so far. -/
def TriSo (w : World) (base : Nat) (tv : Value) (j : Nat) (s : Sh) (us : List (List Int)) : Prop :=
 ∃ xs, w.ownsRow base 176 2 tv j xs /\ us.length = j /\ ∀ i (h : i < us.length), ∃ a0 c0 a1 c1, xs[i * 2]? = some (.slice (some ⟨a0, 0, none⟩) (s.x + s.y + s.z) c0) /\ xs[i * 2 + 1]? = some (.slice (some ⟨a1, 0, none⟩) (s.x + s.y + s.z) c1) /\ WordsU w a0 (part0 s us[i]) /\ WordsU w a1 (part1 s us[i]) /\ base <= a0 /\ base <= a1
theorem refill_round {w wr w3 w4 : World} {mv j cnt E g cap3 a0 c0 a1 c1 L kd m k n : Nat} {ta : Option Addr} {tcp : Nat} {D : List Int} {xs : List Value}
  (hx : Ext w wr) (hmr : wr.heap[mv]? = some (.cells #[.int .i64 (kd : Int), .int .i64 m, .int .i64 k, .int .i64 n, .slice ta j tcp] 174 (0, 0)))
  (htv : wr.ownsRow w.heap.size 176 2 (.slice ta j tcp) j xs)
  (hxs : ∀ i (h : i < (chunks D E j).length), ∃ a0 c0 a1 c1, xs[i * 2]? = some (.slice (some ⟨a0, 0, none⟩) ((shOf kd m k n).x + (shOf kd m k n).y + (shOf kd m k n).z) c0) /\ xs[i * 2 + 1]? = some (.slice (some ⟨a1, 0, none⟩) ((shOf kd m k n).x + (shOf kd m k n).y + (shOf kd m k n).z) c1) /\ WordsU wr a0 (part0 (shOf kd m k n) (chunks D E j)[i]) /\ WordsU wr a1 (part1 (shOf kd m k n) (chunks D E j)[i]) /\ w.heap.size <= a0 /\ w.heap.size <= a1)
  (hcr : wr.heap[w.heap.size]? = some (.cells #[.int .i64 (kd : Int), .int .i64 m, .int .i64 k, .int .i64 n] 49 (0, 0))) (hmvw : w.heap.size <= mv) (hL : (shOf kd m k n).x + (shOf kd m k n).y + (shOf kd m k n).z = L)
  (hx3 : Ext wr w3) (ht34 : Turn (fun q => lH (.slice ta j tcp) = some q) w3 w4) (ht4 : Turn (fun q => lH (.slice ta j tcp) = some q) wr w4)
  (hm4 : w4.heap[mv]? = some (.cells #[.int .i64 (kd : Int), .int .i64 m, .int .i64 k, .int .i64 n, .slice ta j tcp] 174 (0, 0)))
  (how : w4.ownsRow w.heap.size 176 2 (.slice (some ⟨g, 0, none⟩) (j + 1) cap3) (j + 1) (xs ++ [.slice (some ⟨a0, 0, none⟩) L c0, .slice (some ⟨a1, 0, none⟩) L c1]))
  (h0 : w3.ownsRow wr.heap.size 146 1 (.slice (some ⟨a0, 0, none⟩) L c0) L ((part0 (shOf kd m k n) (chunk D E j)).map (Value.int .u64)))
  (h1 : w3.ownsRow wr.heap.size 146 1 (.slice (some ⟨a1, 0, none⟩) L c1) L ((part1 (shOf kd m k n) (chunk D E j)).map (Value.int .u64)))
  (_hcl : (chunk D E j).length = E) (hlt : j < cnt) :
  ∃ (j_1 : Nat) (tv : Value), j_1 <= cnt /\ Value.int .i64 ((j : Int) + 1) = Value.int .i64 (j_1 : Int) /\ (w4.setCell ⟨mv, 4, none⟩ (.slice (some ⟨g, 0, none⟩) (j + 1) cap3)).heap[mv]? = some (.cells #[.int .i64 (kd : Int), .int .i64 m, .int .i64 k, .int .i64 n, tv] 174 (0, 0)) /\
   TriSo (w4.setCell ⟨mv, 4, none⟩ (.slice (some ⟨g, 0, none⟩) (j + 1) cap3)) w.heap.size tv j_1 (shOf kd m k n) (chunks D E j_1) /\ Ext w (w4.setCell ⟨mv, 4, none⟩ (.slice (some ⟨g, 0, none⟩) (j + 1) cap3)) /\
   (w4.setCell ⟨mv, 4, none⟩ (.slice (some ⟨g, 0, none⟩) (j + 1) cap3)).heap[w.heap.size]? = some (.cells #[.int .i64 (kd : Int), .int .i64 m, .int .i64 k, .int .i64 n] 49 (0, 0)) := by
 have hTm : Turn (fun q => q = mv) w4 (w4.setCell ⟨mv, 4, none⟩ (.slice (some ⟨g, 0, none⟩) (j + 1) cap3)) := Turn.setCell (S := fun q => q = mv) (p := ⟨mv, 4, none⟩) (Turn.refl _ w4) (fun _ => rfl) _
 have hwm : ∀ {b : Nat} {zs : List Int}, WordsU w4 b zs -> WordsU (w4.setCell ⟨mv, 4, none⟩ (.slice (some ⟨g, 0, none⟩) (j + 1) cap3)) b zs := fun {b zs} h => h.turn hTm (by obtain ⟨cur, hc⟩ := h.2; exact type_ne hc hm4 (by decide))
 have hold : ∀ {b : Nat} {zs : List Int}, WordsU wr b zs -> WordsU w4 b zs := fun {b zs} h => h.turn ht4 (fun e => by obtain ⟨cur, hc⟩ := h.2; obtain ⟨cur', hc'⟩ := owns_block htv e; exact type_ne hc hc' (by decide) rfl)
 have hnew : ∀ {b : Nat} {zs : List Int}, WordsU w3 b zs -> WordsU w4 b zs := fun {b zs} h => h.turn ht34 (fun e => by
  obtain ⟨cur, hc⟩ := h.2
  obtain ⟨cur', hc'⟩ := owns_block htv e
  exact type_ne hc (hx3.block hc') (by decide) rfl)
 have hxl : xs.length = j * 2 := htv.1
 have hgm : g ≠ mv := by
  obtain ⟨cur, hc⟩ := owns_block how (g := g) rfl
  exact type_ne hc hm4 (by decide)
 have htw : ¬ lH (.slice ta j tcp) = some w.heap.size := row_ne (B := w.heap.size) hcr htv (by decide)
 have hwl := hx.le
 refine ⟨j + 1, .slice (some ⟨g, 0, none⟩) (j + 1) cap3, by omega, by simp, setCell_row hm4 _, ⟨xs ++ [.slice (some ⟨a0, 0, none⟩) L c0, .slice (some ⟨a1, 0, none⟩) L c1], owns_setCell how (by simpa [lH] using hgm) _, len_chunks _ _ _, fun i hi => ?_⟩, ?_, ?_⟩
 ·rw [len_chunks] at hi
  by_cases e : i = j
  ·subst e
   have hg : (chunks D E (i + 1))[i]'(by rw [len_chunks]; omega) = chunk D E i := by simp [chunks]
   refine ⟨a0, c0, a1, c1, ?_, ?_, ?_, ?_, Nat.le_trans hwl (h0.lt a0 rfl).1, Nat.le_trans hwl (h1.lt a1 rfl).1⟩
   ·rw [List.getElem?_append_right (by omega), hxl, hL]; simp
   ·rw [List.getElem?_append_right (by omega), hxl, hL, show i * 2 + 1 - i * 2 = 1 by omega]; simp
   ·rw [hg]; exact hwm (hnew (owns_wordsU h0))
   ·rw [hg]; exact hwm (hnew (owns_wordsU h1))
  ·have hi' : i < (chunks D E j).length := by rw [len_chunks]; omega
   have hg : (chunks D E (j + 1))[i]'(by rw [len_chunks]; omega) = (chunks D E j)[i] := by simp [chunks]
   obtain ⟨b0, d0, b1, d1, k1, k2, k3, k4, k5, k6⟩ := hxs i hi'
   refine ⟨b0, d0, b1, d1, ?_, ?_, ?_, ?_, k5, k6⟩
   ·rw [List.getElem?_append_left (by omega)]; exact k1
   ·rw [List.getElem?_append_left (by omega)]; exact k2
   ·rw [hg]; exact hwm (hold k3)
   ·rw [hg]; exact hwm (hold k4)
 ·refine Ext.setCell ?_ (by show w.heap.size <= mv; exact hmvw) _
  exact Turn.ext ((Turn.of_ext (S := fun _ => False) hx).trans' ht4 (fun i hi e => by
   have := (htv.lt i e).1
   omega))
 ·rw [Below.heap_setCell _ _ _ _ (fun e => type_ne hcr hmr (by decide) e)]
  exact ht4.ref hcr htw
theorem refill_c (kd m k n : Nat) (hcls : isCls kd m k n = true) (b off len cap cnt E : Nat) (D : List Int) (hE : E = (shOf kd m k n).x + (shOf kd m k n).y + ((shOf kd m k n).x + (shOf kd m k n).y + (shOf kd m k n).z)) (hl : D.length = len) (hcap : len <= cap) (hlen : len = cnt * E) (hc1 : 1 <= cnt) (hc12 : cnt <= 12) (hu : inU64 D) (hu01 : ∀ u, u.length = E -> inU64 u -> inU64 (part0 (shOf kd m k n) u) /\ inU64 (part1 (shOf kd m k n) u))
  (hR : R.length <= 100) (hRm : ∀ x ∈ R, x.ts.length <= 1000) (hops : ops.length <= 1000000) (hkn : kn = true \/ sv = .slice none 0 0 /\ lv = .slice none 0 0 /\ kn = false) (w : World) (h : StoreOf w B F sv lv dv R ls ops false ah kn) (hz : WordsAt w b off D) :
  Calls Tryz.prog 65 #[.pointer (some ⟨B, 0, none⟩), clsV kd m k n, .slice (some ⟨b, off, none⟩) len cap] w fun e w' =>
   (makeCode (R.map StkR.abs) kd m k n cnt ≠ 0 /\ e = .returned (.int .i64 (makeCode (R.map StkR.abs) kd m k n cnt)) /\ Ext w w') \/
   (makeCode (R.map StkR.abs) kd m k n cnt = 0 /\ ∃ R' sv' dv' new, e = .returned (.int .i64 0) /\ StoreOf w' B (grow F w w') sv' lv dv' R' ls (ops ++ new) false ah true /\ R'.map StkR.abs = makeS (R.map StkR.abs) kd m k n (chunks D E cnt) /\ NewOps new /\ Turn F w w') := by
 obtain ⟨i0, hi, hz0, hz1, hz2⟩ := info_parts infoShares
 obtain ⟨hc, hs⟩ := shOf_of hcls
 have hle := Sh.le hs
 have HI : Hid (∀ w, Calls Tryz.prog 95 #[clsV kd m k n] w fun e w' => e = .returned (.bool true) /\ Ext w w') := fun w => by
  have := isClass_c kd m k n w
  rw [hcls] at this
  exact this
 have HDr : Hid _ := drawsOf_c hc hs
 rw [<- hE] at HDr
 have HM : Hid (∀ (off' cap' : Nat) (U : List Int), U.length = E -> E <= cap' -> ∀ w, WordsAt w b off' U -> _) := fun off' cap' U hU hcap' w hz => make_c hc hs b off' E cap' U hU hE hcap' w hz
 have hE1 : 5 <= E /\ E <= 45 := by omega
 have HDo : Hid (∀ (w' : World) (gt tcap : Nat) (F' : Nat -> Prop), StoreOf w' B F' sv lv dv R ls ops false ah kn -> TriRow w' F' gt (shOf kd m k n) (chunks D E cnt) ->
   Calls Tryz.prog 98 #[.pointer (some ⟨B, 0, none⟩), .iface 174 (.agg #[.int .i64 (kd : Int), .int .i64 m, .int .i64 k, .int .i64 n, .slice (some ⟨gt, 0, none⟩) cnt tcap])] w' fun e w'' =>
   (makeCode (R.map StkR.abs) kd m k n cnt ≠ 0 /\ e = .returned (.int .i64 (makeCode (R.map StkR.abs) kd m k n cnt)) /\ Ext w' w'') \/
   (makeCode (R.map StkR.abs) kd m k n cnt = 0 /\ ∃ R' sv' dv' new, e = .returned (.int .i64 0) /\ StoreOf w'' B (grow F' w' w'') sv' lv dv' R' ls (ops ++ new) false ah true /\ R'.map StkR.abs = makeS (R.map StkR.abs) kd m k n (chunks D E cnt) /\ NewOps new /\ Turn F' w' w'')) := fun w' gt tcap F' hst htr => by
  by_cases hcd : makeCode (R.map StkR.abs) kd m k n cnt = 0
  ·refine (doMaking_c kd m k n gt tcap cnt (chunks D E cnt) (len_chunks _ _ _) (by omega) (by omega) ?_ hR hRm hops hcd hkn w' hst htr).mono fun e w'' h => .inr ⟨hcd, h⟩
   intro u hu'
   obtain ⟨j, hj, rfl⟩ := List.mem_map.1 hu'
   have hjc : j < cnt := List.mem_range.1 hj
   have hcl := chunk_len (hl.trans hlen) hjc
   have h1 := hu01 _ hcl (chunk_in hu E j)
   refine ⟨?_, ?_, h1.1, h1.2⟩
   ·rw [part0, List.length_drop]; omega
   ·rw [part1, List.length_zipWith, whole_len _ _ (hcl.trans hE), part0, List.length_drop]; omega
  ·exact (doMakingNo_c kd m k n (some ⟨gt, 0, none⟩) cnt tcap (by omega) hR hRm hcd w' hst).mono fun e w'' h => .inl ⟨hcd, h⟩
 have H : Hid _ := h
 have HZ : Hid (WordsAt w b off D) := hz
 have HL : Hid (D.length = cnt * E) := hl.trans hlen
 have HB0 : Hid (b < w.heap.size) := lG w _ (hz 0 (by rw [hl, hlen]; have := Nat.mul_le_mul hc1 hE1.1; omega))
 have hlenb : len <= 540 := by rw [hlen]; exact Nat.le_trans (Nat.mul_le_mul hc12 hE1.2) (by omega)
 have hdiv : Int.tdiv (len : Int) (E : Int) = (cnt : Int) := by rw [hlen, Int.natCast_mul, Int.mul_tdiv_cancel _ (by omega)]
 have hmod : Int.tmod (len : Int) (E : Int) = 0 := by rw [hlen, Int.natCast_mul]; exact Int.mul_tmod_left _ _
 have hne : ¬ ((E : Int) = 0) := by omega
 have HLen : Hid (len = cnt * E /\ len <= cap) := ⟨hlen, hcap⟩
 unfold clsV at *
 clear hcls hc hs hE hle hRm hops hkn h hz hu hu01 hl hlen hcap
 generalize hsL : (shOf kd m k n).x + (shOf kd m k n).y + (shOf kd m k n).z = L at *
 have HSL : Hid ((shOf kd m k n).x + (shOf kd m k n).y + (shOf kd m k n).z = L) := hsL
 clear hsL
 go_enter Tryz.func65, Tryz.ntmps65
 go_wp2_with fail
 refine (HI.out _).mono ?_; rintro e w1 ⟨rfl, hx1⟩
 obtain ⟨d0, d1, d2, d3⟩ := four_in hx1
 have hcb : w1.heap[w.heap.size]? = some (.cells #[.int .i64 (kd : Int), .int .i64 m, .int .i64 k, .int .i64 n] 49 (0, 0)) := hx1.block (heap_alloc_new w _)
 have HX1 : Hid (Ext w w1) := ((Ext.refl w).alloc _).trans hx1
 clear hx1
 go_wp2_with fail
 refine (HDr.out _).mono ?_; rintro e w2 ⟨rfl, hx2⟩
 have d0 := hx2.cell d0
 have d1 := hx2.cell d1
 have d2 := hx2.cell d2
 have d3 := hx2.cell d3
 have HX2 : Hid (Ext w w2) := HX1.out.trans hx2
 have hc0 := lG w2 _ d0
 have HCB : Hid (w2.heap[w.heap.size]? = some (.cells #[.int .i64 (kd : Int), .int .i64 m, .int .i64 k, .int .i64 n] 49 (0, 0))) := hx2.block hcb
 clear hx2 HX1 hcb
 go_wp2_with fail
 have hmv : (w2.alloc (.cells #[.int .i64 (kd : Int), .int .i64 m, .int .i64 k, .int .i64 n, .slice none 0 0] 174)).heap[w2.heap.size]? = some (.cells #[.int .i64 (kd : Int), .int .i64 m, .int .i64 k, .int .i64 n, .slice none 0 0] 174 (0, 0)) := heap_alloc_new w2 _
 have hXV : Ext w2 (w2.alloc (.cells #[.int .i64 (kd : Int), .int .i64 m, .int .i64 k, .int .i64 n, .slice none 0 0] 174)) := (Ext.refl w2).alloc _
 generalize World.alloc w2 _ = V at hmv hXV ⊢
 obtain ⟨mv, hmvE⟩ : ∃ mv, w2.heap.size = mv := ⟨_, rfl⟩
 rw [hmvE] at hmv
 have hmvw : w.heap.size <= mv := by rw [<- hmvE]; exact HX2.out.le
 have hccm : w.heap.size < mv := by rw [<- hmvE]; exact hc0
 have HXV : Hid (Ext w V) := HX2.out.trans hXV
 have HMV : Hid (V.heap[mv]? = some (.cells #[.int .i64 (kd : Int), .int .i64 m, .int .i64 k, .int .i64 n, .slice none 0 0] 174 (0, 0))) := hmv
 have hmvl : mv < V.heap.size := (Array.getElem?_eq_some_iff.1 hmv).1
 have HC : Hid (V.heap[w.heap.size]? = some (.cells #[.int .i64 (kd : Int), .int .i64 m, .int .i64 k, .int .i64 n] 49 (0, 0))) := hXV.block HCB.out
 simp only [hmvE]
 clear hXV hmv HX2 hmvE hdiv hmod hne hc0 d0 d1 d2 d3
 go_loopw [36] (fun i wr => ∃ (j : Nat) (tv : Value), j <= cnt /\ i = .int .i64 j /\ wr.heap[mv]? = some (.cells #[.int .i64 (kd : Int), .int .i64 m, .int .i64 k, .int .i64 n, tv] 174 (0, 0)) /\ TriSo wr w.heap.size tv j (shOf kd m k n) (chunks D E j) /\ Ext w wr /\ wr.heap[w.heap.size]? = some (.cells #[.int .i64 (kd : Int), .int .i64 m, .int .i64 k, .int .i64 n] 49 (0, 0))) (fun i _ => cnt - (intOf i).toNat)
 case atStart => exact ⟨0, .slice none 0 0, Nat.zero_le _, rfl, HMV.out, ⟨[], World.ownsRow_nil _ _ _ _, rfl, fun i hi => by simp [chunks] at hi⟩, HXV.out, HC.out⟩
 case round =>
  obtain ⟨j, tv, hj, rfl, hmvr, htso, hx, hcb⟩ := hrel
  have HCr : Hid (wr.heap[w.heap.size]? = some (.cells #[.int .i64 (kd : Int), .int .i64 m, .int .i64 k, .int .i64 n] 49 (0, 0))) := hcb
  have d0 : wr.cell? ⟨w.heap.size, 0, none⟩ = some (.int .i64 (kd : Int)) := cell_at hcb rfl
  have d1 : wr.cell? ⟨w.heap.size, 1, none⟩ = some (.int .i64 (m : Int)) := cell_at hcb rfl
  have d2 : wr.cell? ⟨w.heap.size, 2, none⟩ = some (.int .i64 (k : Int)) := cell_at hcb rfl
  have d3 : wr.cell? ⟨w.heap.size, 3, none⟩ = some (.int .i64 (n : Int)) := cell_at hcb rfl
  have HMR : Hid _ := hmvr
  have HTS : Hid (TriSo wr w.heap.size tv j (shOf kd m k n) (chunks D E j)) := htso
  have HX : Hid (Ext w wr) := hx
  clear hmvr htso hx hcb
  by_cases hlt : j < cnt
  -- ROUND
  ·skip
   have hju : j < (chunks D E cnt).length := by rw [len_chunks]; exact hlt
   obtain ⟨lo, hlo⟩ : ∃ lo, j * E = lo := ⟨_, rfl⟩
   obtain ⟨hi', hhi⟩ : ∃ hi', (j + 1) * E = hi' := ⟨_, rfl⟩
   have hlh : lo + E = hi' := by rw [<- hlo, <- hhi, Nat.add_mul, Nat.one_mul]
   have hhl : hi' <= len := by rw [<- hhi, HLen.out.1]; exact Nat.mul_le_mul_right E hlt
   have v1 : IntKind.i64.wrap ((j : Int) * (E : Int)) = (lo : Int) := by rw [<- Int.natCast_mul, hlo]; exact wrap_small (by omega)
   have v3 : IntKind.i64.wrap (((j : Int) + 1) * (E : Int)) = (hi' : Int) := by rw [show ((j : Int) + 1) * (E : Int) = (((j + 1) * E : Nat) : Int) by simp, hhi]; exact wrap_small (by omega)
   have v4 : IntKind.i64.wrap (IntKind.i64.wrap ((j : Int) + 1) * (E : Int)) = (hi' : Int) := by rw [show IntKind.i64.wrap ((j : Int) + 1) = (j : Int) + 1 by rw [IntKind.wrap_i64]; omega]; exact v3
   have tS : ∀ W, (Instr.slice 31 (.slice (some ⟨b, off, none⟩) len cap) (some (.int .i64 (lo : Int))) (some (.int .i64 (hi' : Int))) none).run Tryz.prog W = .ok (.slice (some ⟨b, off + lo, none⟩) E (cap - lo)) W := fun W => by
    rw [slice_lh b off len cap lo hi' (by omega) (by have := HLen.out.2; omega), show hi' - lo = E by omega]
   have HU : Hid ((chunk D E j).length = E /\ WordsAt wr b (off + lo) (chunk D E j) /\ E <= cap - lo) := by
    refine ⟨chunk_len HL.out hlt, ?_, by have := HLen.out.2; omega⟩
    have h1 := ((HZ.out.ext HX.out).drop lo).take E
    rw [<- hlo] at h1 ⊢
    exact h1
   obtain ⟨xs, htv, _, hxs⟩ := HTS.out
   obtain ⟨ta, tcp, htvE⟩ := owns_slice htv
   have HTV : Hid (wr.ownsRow w.heap.size 176 2 tv j xs) := htv
   have HXS : Hid _ := hxs
   have e4 : wr.cell? ⟨mv, 4, none⟩ = some tv := cell_at HMR.out rfl
   have hwl := HX.out.le
   have hmvr : mv < wr.heap.size := lG wr _ e4
   have HTM : Hid (tv.ownBlock ≠ some mv) := row_ne (B := mv) HMR.out htv (by decide)
   have HTW : Hid (tv.ownBlock ≠ some w.heap.size) := row_ne (B := w.heap.size) HCr.out htv (by decide)
   clear htv hxs hlo hhi
   subst htvE
   have SD : Hid (∀ W, Turn (fun q => lH (.slice ta j tcp) = some q) wr W -> (fun w' => w'.cell? ⟨w.heap.size, 0, none⟩ = some (.int .i64 (kd : Int)) /\ w'.cell? ⟨w.heap.size, 1, none⟩ = some (.int .i64 (m : Int)) /\ w'.cell? ⟨w.heap.size, 2, none⟩ = some (.int .i64 (k : Int)) /\ w'.cell? ⟨w.heap.size, 3, none⟩ = some (.int .i64 (n : Int))) W) := fun W hT => ⟨hT.cell d0 HTW.out, hT.cell d1 HTW.out, hT.cell d2 HTW.out, hT.cell d3 HTW.out⟩
   go_wp2_with fail
   refine wp_region_held_drew (S := (fun w' => w'.cell? ⟨w.heap.size, 0, none⟩ = some (.int .i64 (kd : Int)) /\ w'.cell? ⟨w.heap.size, 1, none⟩ = some (.int .i64 (m : Int)) /\ w'.cell? ⟨w.heap.size, 2, none⟩ = some (.int .i64 (k : Int)) /\ w'.cell? ⟨w.heap.size, 3, none⟩ = some (.int .i64 (n : Int)))) (by kernel_rfl) ⟨d0, d1, d2, d3⟩ (fun hHeld => ?_)
   refine wpAnyH_take (i := 0) (oi := _) (v := ?v0) rfl (by kernel_rfl) (by kernel_rfl) (by kernel_rfl) (fun _ _ _ h => h) (Or.inl ⟨by rfl, ?hy⟩) hHeld ?_
   case hy => (intro w hSw; (try dsimp only at hSw); go_simp; try with_reducible rfl)
   try simp only [Act.put, lA, lC, lD, lE, lF]
   refine wpAnyH_take (i := 2) (oi := _) (v := ?v2) rfl (by kernel_rfl) (by kernel_rfl) (by kernel_rfl) (fun _ _ _ h => h) (Or.inl ⟨by rfl, ?hy⟩) hHeld ?_
   case hy => (intro w hSw; (try dsimp only at hSw); go_simp; try with_reducible rfl)
   try simp only [Act.put, lA, lB, lC, lD, lE, lF]
   refine wpAnyH_take (i := 3) (oi := _) (v := ?v3) rfl (by kernel_rfl) (by kernel_rfl) (by kernel_rfl) (fun _ _ _ h => h) (Or.inl ⟨by rfl, ?hy⟩) hHeld ?_
   case hy => (intro w hSw; (try dsimp only at hSw); go_simp; try with_reducible rfl)
   try simp only [Act.put, lA, lB, lC, lD, lE, lF]
   refine wpAnyH_take (i := 4) (oi := _) (v := ?v4) rfl (by kernel_rfl) (by kernel_rfl) (by kernel_rfl) (fun _ _ _ h => h) (Or.inl ⟨by rfl, ?hy⟩) hHeld ?_
   case hy => (intro w hSw; (try dsimp only at hSw); go_simp; try with_reducible rfl)
   try simp only [Act.put, lA, lB, lC, lD, lE, lF]
   refine wpAnyH_take (i := 5) (oi := _) (v := ?v5) rfl (by kernel_rfl) (by kernel_rfl) (by kernel_rfl) (fun _ _ _ h => h) (Or.inl ⟨by rfl, ?hy⟩) hHeld ?_
   case hy => (intro w hSw; (try dsimp only at hSw); go_simp; try with_reducible rfl)
   try simp only [Act.put, lA, lB, lC, lD, lE, lF]
   refine wpAnyH_take (i := 6) (oi := _) (v := ?v6) rfl (by kernel_rfl) (by kernel_rfl) (by kernel_rfl) (fun _ _ _ h => h) (Or.inl ⟨by rfl, ?hy⟩) hHeld ?_
   case hy => (intro w hSw; (try dsimp only at hSw); go_simp; try with_reducible rfl)
   try simp only [Act.put, lA, lB, lC, lD, lE, lF]
   refine wpAnyH_take (i := 7) (oi := _) (v := ?v7) rfl (by kernel_rfl) (by kernel_rfl) (by kernel_rfl) (fun _ _ _ h => h) (Or.inl ⟨by rfl, ?hy⟩) hHeld ?_
   case hy => (intro w hSw; (try dsimp only at hSw); go_simp; try with_reducible rfl)
   try simp only [Act.put, lA, lB, lC, lD, lE, lF]
   refine wpAnyH_take (i := 8) (oi := _) (v := ?v8) rfl (by kernel_rfl) (by kernel_rfl) (by kernel_rfl) (fun _ _ _ h => h) (Or.inl ⟨by rfl, ?hy⟩) hHeld ?_
   case hy => (intro w hSw; (try dsimp only at hSw); go_simp; try with_reducible rfl)
   try simp only [Act.put, lA, lB, lC, lD, lE, lF]
   refine wpAnyH_take (i := 9) (oi := _) (v := ?v9) rfl (by kernel_rfl) (by kernel_rfl) (by kernel_rfl) (fun _ _ _ h => h) (Or.inl ⟨by rfl, ?hy⟩) hHeld ?_
   case hy => (intro w hSw; (try dsimp only at hSw); go_simp; try with_reducible rfl)
   try simp only [Act.put, lA, lB, lC, lD, lE, lF]
   refine wpAnyH_take (i := 10) (oi := _) (v := ?v10) rfl (by kernel_rfl) (by kernel_rfl) (by kernel_rfl) (fun _ _ _ h => h) (Or.inl ⟨by rfl, ?hy⟩) hHeld ?_
   case hy => (intro w hSw; (try dsimp only at hSw); go_simp; try with_reducible rfl)
   try simp only [Act.put, lA, lB, lC, lD, lE, lF]
   refine wpAnyH_take (i := 11) (oi := _) (v := ?v11) rfl (by kernel_rfl) (by kernel_rfl) (by kernel_rfl) (fun _ _ _ h => h) (Or.inl ⟨by rfl, ?hy⟩) hHeld ?_
   case hy => (intro w hSw; (try dsimp only at hSw); go_simp; try with_reducible rfl)
   try simp only [Act.put, lA, lB, lC, lD, lE, lF]
   refine wpAnyH_ready (rs := [1, 12]) (by kernel_rfl) (by simp) ?_
   refine AllReadyH.cons (o := _) rfl (fun K hK => ?_) (AllReadyH.cons (o := _) rfl (fun K hK => ?_) AllReadyH.nil)
   ·skip
    (try simp only [lA, lB, lC])
    go_simp
    refine hK.out _ _ ?ha1 (fun hHeld => ?_)
    case ha1 => exact SD.out _ (Turn.of_ext (Ext.drew (Ext.refl _)))
    clear hK K
    try simp only [Act.put, lA, lB, lC, lD, lE, lF]
    refine wpAnyH_ready (rs := [12]) (by kernel_rfl) (by simp) ?_
    refine AllReadyH.cons (o := _) rfl (fun K hK => ?_) AllReadyH.nil
    (try simp only [lA, lB, lC])
    go_simp
    refine (HM.out _ _ _ HU.out.1 HU.out.2.2 _ (HU.out.2.1.ext (Ext.drew (Ext.refl _)))).mono ?_
    rintro e w3 ⟨a0, c0, a1, c1, rfl, h0, h1, hx3⟩
    have hX3 : Ext wr w3 := (Ext.drew (Ext.refl wr)).trans hx3
    have HX3 : Hid (Ext wr w3) := hX3
    have HH : Hid _ := And.intro h0 h1
    have e4 := hX3.cell e4
    have hl3 := lG w3 _ e4
    have hw3 := hX3.le
    clear h0 h1 hx3
    refine hK.out _ _ ?hc1 (fun hHeld => ?_)
    case hc1 => exact SD.out _ (Turn.of_ext hX3)
    clear hK K hX3
    try simp only [Act.put, lA, lB, lC, lD, lE, lF]
    refine wpAnyH_ready (rs := [13]) (by kernel_rfl) (by simp) ?_
    refine AllReadyH.cons (o := _) rfl (fun K hK => ?_) AllReadyH.nil
    (try simp only [lA, lB, lC])
    go_simp
    refine hK.out _ _ ?hb1 (fun hHeld => ?_)
    case hb1 => exact SD.out _ (Turn.of_ext (Ext.alloc HX3.out _))
    clear hK K
    try simp only [Act.put, lA, lB, lC, lD, lE, lF]
    refine wpAnyH_ready (rs := [14]) (by kernel_rfl) (by simp) ?_
    refine AllReadyH.cons (o := _) rfl (fun K hK => ?_) AllReadyH.nil
    refine step_append_lies _ (by rfl) _ _ 172 (by rfl) w.heap.size 176 i0 _ 2 48 Tryz.underlying172 hi hz0 hz1 hz2 (by rfl) (by decide) (.slice ta j tcp) j xs (by rfl) (Ext.owns (Ext.alloc HX3.out _) HTV.out) ⟨_, 0, none⟩ 1 1 [.slice (some ⟨a0, 0, none⟩) L c0, .slice (some ⟨a1, 0, none⟩) L c1] (by rfl) (by rfl) (World.news_of_block (heap_alloc_new _ _)) (by simp [Value.oneCell']) (by decide) (by unfold maxLen; omega) (by omega) ?hbase1 _ rfl ?_
    case hbase1 => exact Nat.le_trans hwl (Ext.le (Ext.alloc HX3.out _))
    intro g cap3 w4 hown4 hgrow4 hat4 hlt4
    have ht4 : Turn (fun q => lH (.slice ta j tcp) = some q) wr w4 := Turn.grown (Turn.of_ext (Ext.alloc HX3.out _)) hgrow4 (fun q hq _ => hq)
    have HT4 : Hid (Turn (fun q => lH (.slice ta j tcp) = some q) wr w4) := ht4
    have hm4 : w4.heap[mv]? = some (.cells #[.int .i64 (kd : Int), .int .i64 m, .int .i64 k, .int .i64 n, .slice ta j tcp] 174 (0, 0)) := ht4.ref HMR.out HTM.out
    have HM4 : Hid (w4.heap[mv]? = some (.cells #[.int .i64 (kd : Int), .int .i64 m, .int .i64 k, .int .i64 n, .slice ta j tcp] 174 (0, 0))) := hm4
    have e4d : w4.cell? ⟨mv, 4, none⟩ = some (.slice ta j tcp) := cell_at hm4 rfl
    have f4d := frozen_row hm4 4
    have HOW : Hid (w4.ownsRow w.heap.size 176 2 (.slice (some ⟨g, 0, none⟩) (j + 1) cap3) (j + 1) (xs ++ [.slice (some ⟨a0, 0, none⟩) L c0, .slice (some ⟨a1, 0, none⟩) L c1])) := hown4
    have HGR : Hid _ := And.intro hgrow4 hat4
    refine hK.out _ _ ?hd1 (fun hHeld => ?_)
    case hd1 => exact SD.out _ ht4
    clear hK K hown4 hgrow4 hat4 ht4 hm4
    try simp only [Act.put, lA, lB, lC, lD, lE, lF]
    refine wpAnyH_take (i := 15) (oi := _) (v := ?v15) rfl (by kernel_rfl) (by kernel_rfl) (by kernel_rfl) (fun _ _ _ h => h) (Or.inl ⟨by rfl, ?hy⟩) hHeld ?_
    case hy => (intro w hSw; (try dsimp only at hSw); go_simp; try with_reducible rfl)
    try simp only [Act.put, lA, lB, lC, lD, lE, lF]
    refine wpAnyH_ready (rs := [16]) (by kernel_rfl) (by simp) ?_
    refine AllReadyH.cons (o := _) rfl (fun K hK => ?_) AllReadyH.nil
    (try simp only [lA, lB, lC])
    go_simp
    refine hK.out _ _ ?he1 (fun hHeld => ?_)
    case he1 =>
     obtain ⟨s0, s1, s2, s3⟩ := SD.out _ HT4.out
     have hne : mv ≠ w.heap.size := by omega
     exact ⟨(World.cell?_setCell_far _ _ _ _ hne).trans s0, (World.cell?_setCell_far _ _ _ _ hne).trans s1, (World.cell?_setCell_far _ _ _ _ hne).trans s2, (World.cell?_setCell_far _ _ _ _ hne).trans s3⟩
    clear hK K
    try simp only [Act.put, lA, lB, lC, lD, lE, lF]
    refine wpAnyH_done (by kernel_rfl) ?_ _
    clear hHeld e4d f4d d0 d1 d2 d3 e4
    go_wp2
    go_roundw
    case rel =>
     have hT34 : Turn (fun q => lH (.slice ta j tcp) = some q) w3 w4 := Turn.grown (Turn.of_ext (Ext.alloc (Ext.refl w3) _)) HGR.out.1 (fun q hq _ => hq)
     obtain ⟨h0, h1⟩ := HH.out
     exact refill_round HX.out HMR.out HTV.out HXS.out HCr.out hmvw HSL.out HX3.out hT34 HT4.out HM4.out HOW.out h0 h1 HU.out.1 hlt
    case measure => simp [intOf]; omega
   ·skip
    (try simp only [lA, lB, lC])
    go_simp
    refine (HM.out _ _ _ HU.out.1 HU.out.2.2 _ (HU.out.2.1.ext (Ext.drew (Ext.refl _)))).mono ?_
    rintro e w3 ⟨a0, c0, a1, c1, rfl, h0, h1, hx3⟩
    have hX3 : Ext wr w3 := (Ext.drew (Ext.refl wr)).trans hx3
    have HX3 : Hid (Ext wr w3) := hX3
    have HH : Hid _ := And.intro h0 h1
    have e4 := hX3.cell e4
    have hl3 := lG w3 _ e4
    have hw3 := hX3.le
    clear h0 h1 hx3
    refine hK.out _ _ ?hc2 (fun hHeld => ?_)
    case hc2 => exact SD.out _ (Turn.of_ext hX3)
    clear hK K hX3
    try simp only [Act.put, lA, lB, lC, lD, lE, lF]
    refine wpAnyH_ready (rs := [1, 13]) (by kernel_rfl) (by simp) ?_
    refine AllReadyH.cons (o := _) rfl (fun K hK => ?_) (AllReadyH.cons (o := _) rfl (fun K hK => ?_) AllReadyH.nil)
    ·skip
     (try simp only [lA, lB, lC])
     go_simp
     refine hK.out _ _ ?ha2 (fun hHeld => ?_)
     case ha2 => exact SD.out _ (Turn.of_ext (HX3.out))
     clear hK K
     try simp only [Act.put, lA, lB, lC, lD, lE, lF]
     refine wpAnyH_ready (rs := [13]) (by kernel_rfl) (by simp) ?_
     refine AllReadyH.cons (o := _) rfl (fun K hK => ?_) AllReadyH.nil
     (try simp only [lA, lB, lC])
     go_simp
     refine hK.out _ _ ?hb2 (fun hHeld => ?_)
     case hb2 => exact SD.out _ (Turn.of_ext (Ext.alloc HX3.out _))
     clear hK K
     try simp only [Act.put, lA, lB, lC, lD, lE, lF]
     refine wpAnyH_ready (rs := [14]) (by kernel_rfl) (by simp) ?_
     refine AllReadyH.cons (o := _) rfl (fun K hK => ?_) AllReadyH.nil
     refine step_append_lies _ (by rfl) _ _ 172 (by rfl) w.heap.size 176 i0 _ 2 48 Tryz.underlying172 hi hz0 hz1 hz2 (by rfl) (by decide) (.slice ta j tcp) j xs (by rfl) (Ext.owns (Ext.alloc HX3.out _) HTV.out) ⟨_, 0, none⟩ 1 1 [.slice (some ⟨a0, 0, none⟩) L c0, .slice (some ⟨a1, 0, none⟩) L c1] (by rfl) (by rfl) (World.news_of_block (heap_alloc_new _ _)) (by simp [Value.oneCell']) (by decide) (by unfold maxLen; omega) (by omega) ?hbase2 _ rfl ?_
     case hbase2 => exact Nat.le_trans hwl (Ext.le (Ext.alloc HX3.out _))
     intro g cap3 w4 hown4 hgrow4 hat4 hlt4
     have ht4 : Turn (fun q => lH (.slice ta j tcp) = some q) wr w4 := Turn.grown (Turn.of_ext (Ext.alloc HX3.out _)) hgrow4 (fun q hq _ => hq)
     have HT4 : Hid (Turn (fun q => lH (.slice ta j tcp) = some q) wr w4) := ht4
     have hm4 : w4.heap[mv]? = some (.cells #[.int .i64 (kd : Int), .int .i64 m, .int .i64 k, .int .i64 n, .slice ta j tcp] 174 (0, 0)) := ht4.ref HMR.out HTM.out
     have HM4 : Hid (w4.heap[mv]? = some (.cells #[.int .i64 (kd : Int), .int .i64 m, .int .i64 k, .int .i64 n, .slice ta j tcp] 174 (0, 0))) := hm4
     have e4d : w4.cell? ⟨mv, 4, none⟩ = some (.slice ta j tcp) := cell_at hm4 rfl
     have f4d := frozen_row hm4 4
     have HOW : Hid (w4.ownsRow w.heap.size 176 2 (.slice (some ⟨g, 0, none⟩) (j + 1) cap3) (j + 1) (xs ++ [.slice (some ⟨a0, 0, none⟩) L c0, .slice (some ⟨a1, 0, none⟩) L c1])) := hown4
     have HGR : Hid _ := And.intro hgrow4 hat4
     refine hK.out _ _ ?hd2 (fun hHeld => ?_)
     case hd2 => exact SD.out _ ht4
     clear hK K hown4 hgrow4 hat4 ht4 hm4
     try simp only [Act.put, lA, lB, lC, lD, lE, lF]
     refine wpAnyH_take (i := 15) (oi := _) (v := ?v15) rfl (by kernel_rfl) (by kernel_rfl) (by kernel_rfl) (fun _ _ _ h => h) (Or.inl ⟨by rfl, ?hy⟩) hHeld ?_
     case hy => (intro w hSw; (try dsimp only at hSw); go_simp; try with_reducible rfl)
     try simp only [Act.put, lA, lB, lC, lD, lE, lF]
     refine wpAnyH_ready (rs := [16]) (by kernel_rfl) (by simp) ?_
     refine AllReadyH.cons (o := _) rfl (fun K hK => ?_) AllReadyH.nil
     (try simp only [lA, lB, lC])
     go_simp
     refine hK.out _ _ ?he2 (fun hHeld => ?_)
     case he2 =>
      obtain ⟨s0, s1, s2, s3⟩ := SD.out _ HT4.out
      have hne : mv ≠ w.heap.size := by omega
      exact ⟨(World.cell?_setCell_far _ _ _ _ hne).trans s0, (World.cell?_setCell_far _ _ _ _ hne).trans s1, (World.cell?_setCell_far _ _ _ _ hne).trans s2, (World.cell?_setCell_far _ _ _ _ hne).trans s3⟩
     clear hK K
     try simp only [Act.put, lA, lB, lC, lD, lE, lF]
     refine wpAnyH_done (by kernel_rfl) ?_ _
     clear hHeld e4d f4d d0 d1 d2 d3 e4
     go_wp2
     go_roundw
     case rel =>
      have hT34 : Turn (fun q => lH (.slice ta j tcp) = some q) w3 w4 := Turn.grown (Turn.of_ext (Ext.alloc (Ext.refl w3) _)) HGR.out.1 (fun q hq _ => hq)
      obtain ⟨h0, h1⟩ := HH.out
      exact refill_round HX.out HMR.out HTV.out HXS.out HCr.out hmvw HSL.out HX3.out hT34 HT4.out HM4.out HOW.out h0 h1 HU.out.1 hlt
     case measure => simp [intOf]; omega
    ·skip
     (try simp only [lA, lB, lC])
     go_simp
     refine hK.out _ _ ?hb3 (fun hHeld => ?_)
     case hb3 => exact SD.out _ (Turn.of_ext (Ext.alloc HX3.out _))
     clear hK K
     try simp only [Act.put, lA, lB, lC, lD, lE, lF]
     refine wpAnyH_ready (rs := [1]) (by kernel_rfl) (by simp) ?_
     refine AllReadyH.cons (o := _) rfl (fun K hK => ?_) AllReadyH.nil
     (try simp only [lA, lB, lC])
     go_simp
     refine hK.out _ _ ?ha3 (fun hHeld => ?_)
     case ha3 => exact SD.out _ (Turn.of_ext (Ext.alloc HX3.out _))
     clear hK K
     try simp only [Act.put, lA, lB, lC, lD, lE, lF]
     refine wpAnyH_ready (rs := [14]) (by kernel_rfl) (by simp) ?_
     refine AllReadyH.cons (o := _) rfl (fun K hK => ?_) AllReadyH.nil
     refine step_append_lies _ (by rfl) _ _ 172 (by rfl) w.heap.size 176 i0 _ 2 48 Tryz.underlying172 hi hz0 hz1 hz2 (by rfl) (by decide) (.slice ta j tcp) j xs (by rfl) (Ext.owns (Ext.alloc HX3.out _) HTV.out) ⟨_, 0, none⟩ 1 1 [.slice (some ⟨a0, 0, none⟩) L c0, .slice (some ⟨a1, 0, none⟩) L c1] (by rfl) (by rfl) (World.news_of_block (heap_alloc_new _ _)) (by simp [Value.oneCell']) (by decide) (by unfold maxLen; omega) (by omega) ?hbase3 _ rfl ?_
     case hbase3 => exact Nat.le_trans hwl (Ext.le (Ext.alloc HX3.out _))
     intro g cap3 w4 hown4 hgrow4 hat4 hlt4
     have ht4 : Turn (fun q => lH (.slice ta j tcp) = some q) wr w4 := Turn.grown (Turn.of_ext (Ext.alloc HX3.out _)) hgrow4 (fun q hq _ => hq)
     have HT4 : Hid (Turn (fun q => lH (.slice ta j tcp) = some q) wr w4) := ht4
     have hm4 : w4.heap[mv]? = some (.cells #[.int .i64 (kd : Int), .int .i64 m, .int .i64 k, .int .i64 n, .slice ta j tcp] 174 (0, 0)) := ht4.ref HMR.out HTM.out
     have HM4 : Hid (w4.heap[mv]? = some (.cells #[.int .i64 (kd : Int), .int .i64 m, .int .i64 k, .int .i64 n, .slice ta j tcp] 174 (0, 0))) := hm4
     have e4d : w4.cell? ⟨mv, 4, none⟩ = some (.slice ta j tcp) := cell_at hm4 rfl
     have f4d := frozen_row hm4 4
     have HOW : Hid (w4.ownsRow w.heap.size 176 2 (.slice (some ⟨g, 0, none⟩) (j + 1) cap3) (j + 1) (xs ++ [.slice (some ⟨a0, 0, none⟩) L c0, .slice (some ⟨a1, 0, none⟩) L c1])) := hown4
     have HGR : Hid _ := And.intro hgrow4 hat4
     refine hK.out _ _ ?hd3 (fun hHeld => ?_)
     case hd3 => exact SD.out _ ht4
     clear hK K hown4 hgrow4 hat4 ht4 hm4
     try simp only [Act.put, lA, lB, lC, lD, lE, lF]
     refine wpAnyH_take (i := 15) (oi := _) (v := ?v15) rfl (by kernel_rfl) (by kernel_rfl) (by kernel_rfl) (fun _ _ _ h => h) (Or.inl ⟨by rfl, ?hy⟩) hHeld ?_
     case hy => (intro w hSw; (try dsimp only at hSw); go_simp; try with_reducible rfl)
     try simp only [Act.put, lA, lB, lC, lD, lE, lF]
     refine wpAnyH_ready (rs := [16]) (by kernel_rfl) (by simp) ?_
     refine AllReadyH.cons (o := _) rfl (fun K hK => ?_) AllReadyH.nil
     (try simp only [lA, lB, lC])
     go_simp
     refine hK.out _ _ ?he3 (fun hHeld => ?_)
     case he3 =>
      obtain ⟨s0, s1, s2, s3⟩ := SD.out _ HT4.out
      have hne : mv ≠ w.heap.size := by omega
      exact ⟨(World.cell?_setCell_far _ _ _ _ hne).trans s0, (World.cell?_setCell_far _ _ _ _ hne).trans s1, (World.cell?_setCell_far _ _ _ _ hne).trans s2, (World.cell?_setCell_far _ _ _ _ hne).trans s3⟩
     clear hK K
     try simp only [Act.put, lA, lB, lC, lD, lE, lF]
     refine wpAnyH_done (by kernel_rfl) ?_ _
     clear hHeld e4d f4d d0 d1 d2 d3 e4
     go_wp2
     go_roundw
     case rel =>
      have hT34 : Turn (fun q => lH (.slice ta j tcp) = some q) w3 w4 := Turn.grown (Turn.of_ext (Ext.alloc (Ext.refl w3) _)) HGR.out.1 (fun q hq _ => hq)
      obtain ⟨h0, h1⟩ := HH.out
      exact refill_round HX.out HMR.out HTV.out HXS.out HCr.out hmvw HSL.out HX3.out hT34 HT4.out HM4.out HOW.out h0 h1 HU.out.1 hlt
     case measure => simp [intOf]; omega
  -- DONE
  ·obtain rfl : j = cnt := by omega
   obtain ⟨xs, htv, _, hxs⟩ := HTS.out
   obtain ⟨gt, tcap, rfl, _, _, _⟩ : ∃ gt tcap, tv = .slice (some ⟨gt, 0, none⟩) j tcap /\ w.heap.size <= gt /\ j <= tcap /\ tcap <= maxLen := by
    rcases owns_form htv with ⟨_, h, _⟩ | h
    ·omega
    ·exact h
   have HST : Hid (StoreOf wr B (grow F w wr) sv lv dv R ls ops false ah kn) := (H.out.ext HX.out).mono (fun b hb => .inl hb) (fun b hb => by
    rcases hb with hb | hb
    ·exact Nat.lt_of_lt_of_le (H.out.lt b hb) HX.out.le
    ·exact hb.2)
   have HTR : Hid (TriRow wr (grow F w wr) gt (shOf kd m k n) (chunks D E j)) := by
    refine ⟨fun i hi => ?_, owns_block htv rfl⟩
    obtain ⟨a0, c0, a1, c1, k1, k2, k3, k4, k5, k6⟩ := hxs i hi
    refine ⟨a0, c0, a1, c1, owns_cell htv k1, owns_cell htv k2, k3, k4, .inr ⟨k5, ?_⟩, .inr ⟨k6, ?_⟩⟩
    ·obtain ⟨cur, hc⟩ := k3.2
     exact (Array.getElem?_eq_some_iff.1 hc).1
    ·obtain ⟨cur, hc⟩ := k4.2
     exact (Array.getElem?_eq_some_iff.1 hc).1
   have m0 : wr.cell? ⟨mv, 0, none⟩ = some (.int .i64 (kd : Int)) := cell_at HMR.out rfl
   have m1 : wr.cell? ⟨mv, 1, none⟩ = some (.int .i64 (m : Int)) := cell_at HMR.out rfl
   have m2 : wr.cell? ⟨mv, 2, none⟩ = some (.int .i64 (k : Int)) := cell_at HMR.out rfl
   have m3 : wr.cell? ⟨mv, 3, none⟩ = some (.int .i64 (n : Int)) := cell_at HMR.out rfl
   have m4 : wr.cell? ⟨mv, 4, none⟩ = some (.slice (some ⟨gt, 0, none⟩) j tcap) := cell_at HMR.out rfl
   clear htv hxs HTS d0 d1 d2 d3
   go_wp2_with fail
   refine (HDo.out wr gt tcap _ HST.out HTR.out).mono ?_
   rintro e w5 hpost
   have HPo : Hid _ := hpost
   clear hpost
   obtain ⟨cd, hcd⟩ : ∃ cd, e = .returned (.int .i64 cd) := by
    rcases HPo.out with ⟨_, h, _⟩ | ⟨_, _, _, _, _, h, _⟩
    ·exact ⟨_, h⟩
    ·exact ⟨_, h⟩
   subst hcd
   go_wp2
   go_ret
   have hwl := HX.out.le
   rcases HPo.out with ⟨h1, h2, h3⟩ | ⟨h1, R', sv', dv', new, h2, h3, h4, h5, h6⟩
   ·exact .inl ⟨h1, h2, HX.out.trans h3⟩
   ·have hw5 := h6.size
    refine .inr ⟨h1, R', sv', dv', new, h2, h3.mono (fun b hb => ?_) (fun b hb => ?_), h4, h5, (Turn.of_ext HX.out).trans' h6 (fun b hb hor => ?_)⟩
    ·rcases hb with hb | hb
     ·rcases hb with hb | hb
      ·exact .inl hb
      ·exact .inr ⟨hb.1, by omega⟩
     ·exact .inr ⟨by omega, hb.2⟩
    ·rcases hb with hb | hb
     ·have := H.out.lt b hb
      omega
     ·exact hb.2
    ·rcases hor with h | h
     ·exact h
     ·omega
end
end
-- GTo
section
set_option maxRecDepth 100000
set_option maxHeartbeats 1600000
open Go.RowKit Go.Maps
def replyV (c f n : Int) (v : Value) : Value := .agg #[.int .i64 c, .int .i64 f, .int .i64 n, v]
theorem set4 {w1 w2 : World} {g : Nat} (hx : Ext w1 w2) (a b c d : Value) : Turn (fun q => q = g) w1 (World.drew ((((w2.setCell ⟨g, 0, none⟩ a).setCell ⟨g, 1, none⟩ b).setCell ⟨g, 2, none⟩ c).setCell ⟨g, 3, none⟩ d)) :=
 Turn.drew (Turn.setCell (S := fun q => q = g) (p := ⟨g, 3, none⟩) (Turn.setCell (S := fun q => q = g) (p := ⟨g, 2, none⟩) (Turn.setCell (S := fun q => q = g) (p := ⟨g, 1, none⟩) (Turn.setCell (S := fun q => q = g) (p := ⟨g, 0, none⟩) (Turn.of_ext hx) (fun _ => rfl) a) (fun _ => rfl) b) (fun _ => rfl) c) (fun _ => rfl) d)
theorem set4' {w1 w2 : World} {g : Nat} (hx : Ext w1 w2) (a b c d : Value) : Turn (fun q => q = g) w1 ((((w2.setCell ⟨g, 0, none⟩ a).setCell ⟨g, 1, none⟩ b).setCell ⟨g, 2, none⟩ c).setCell ⟨g, 3, none⟩ d) :=
 Turn.setCell (S := fun q => q = g) (p := ⟨g, 3, none⟩) (Turn.setCell (S := fun q => q = g) (p := ⟨g, 2, none⟩) (Turn.setCell (S := fun q => q = g) (p := ⟨g, 1, none⟩) (Turn.setCell (S := fun q => q = g) (p := ⟨g, 0, none⟩) (Turn.of_ext hx) (fun _ => rfl) a) (fun _ => rfl) b) (fun _ => rfl) c) (fun _ => rfl) d
theorem ext4 {w w1 : World} {g : Nat} (h : Ext w w1) (hg : w.heap.size <= g) (a b c d : Value) : Ext w ((((w1.setCell ⟨g, 0, none⟩ a).setCell ⟨g, 1, none⟩ b).setCell ⟨g, 2, none⟩ c).setCell ⟨g, 3, none⟩ d) :=
 Ext.setCell (Ext.setCell (Ext.setCell (Ext.setCell h hg _) hg _) hg _) hg _
/-- Behind a change that is done. -/
def DoPost (w w'' : World) (B : Nat) (F : Nat -> Prop) (ah : Int) (ops : List OpV) (R' : List StkR) (ls' : List LsV) : Prop :=
 ∃ sv' lv' dv' new, StoreOf w'' B (grow F w w'') sv' lv' dv' R' ls' (ops ++ new) false ah true /\ NewOps new /\ Turn F w w''
section
variable {B : Nat} {F : Nat -> Prop} {sv lv dv : Value} {R : List StkR} {ls : List LsV} {ops : List OpV} {fl : Bool} {ah : Int} {kn : Bool}
theorem DoPost.step {w w1 w2 w3 : World} {g : Nat} {R' : List StkR} {ls' : List LsV} (h : DoPost w1 w2 B F ah ops R' ls') (hx : Ext w w1) (ht : Turn (fun q => q = g) w2 w3) (hF : ∀ b, F b -> b < w.heap.size) (hg0 : w.heap.size <= g) (hg1 : g < w1.heap.size) : DoPost w w3 B F ah ops R' ls' := by
 obtain ⟨sv', lv', dv', new, h1, h2, h3⟩ := h
 have e1 := hx.le
 have e2 := h3.size
 have e3 := ht.size
 refine ⟨sv', lv', dv', new, (h1.turn ht (fun b hb e => ?_)).mono (fun b hb => ?_) (fun b hb => ?_), h2, ((Turn.of_ext hx).trans h3).trans' ht (fun b hb e => ?_)⟩
 ·rcases hb with hb | hb
  ·have := hF b hb
   omega
  ·omega
 ·rcases hb with hb | hb
  ·exact .inl hb
  ·exact .inr ⟨by omega, by omega⟩
 ·rcases hb with hb | hb
  ·have := hF b hb
   omega
  ·exact hb.2
 ·omega
theorem doToLeaseNo_c (cv : Value) (_hcv : cv.oneCell' = true) (cd ss ii : Int) (hcd : cd ≠ 0) (w : World) (hdo : ∀ w', Ext w w' -> Calls Tryz.prog 98 #[.pointer (some ⟨B, 0, none⟩), cv] w' fun e w'' => e = .returned (.int .i64 cd) /\ Ext w' w'') :
  Calls Tryz.prog 167 #[.pointer (some ⟨B, 0, none⟩), cv, .int .i64 ss, .int .i64 ii] w fun e w' => e = .returned (replyV cd 0 0 (.slice none 0 0)) /\ Ext w w' := by
 have HDo : Hid (∀ w', Ext w w' -> _) := hdo
 clear hdo
 unfold replyV
 go_enter Tryz.func167, Tryz.ntmps167
 go_wp2_with fail
 refine (HDo.out _ ((Ext.refl w).alloc _)).mono ?_
 rintro e w1 ⟨rfl, hx1⟩
 have hr2 := hx1.block (heap_alloc_new _ _)
 have o0 := cell_at hr2 (i := 0) rfl
 have o1 := cell_at hr2 (i := 1) rfl
 have o2 := cell_at hr2 (i := 2) rfl
 have o3 := cell_at hr2 (i := 3) rfl
 have f0 := frozen_row hr2 0
 have f1 := frozen_row hr2 1
 have f2 := frozen_row hr2 2
 have f3 := frozen_row hr2 3
 have HX1 : Hid (Ext w w1) := ((Ext.refl w).alloc _).trans hx1
 clear hx1 hr2
 go_wp2
 refine bodyPost_ret (v := .agg #[.int .i64 cd, .int .i64 0, .int .i64 0, .slice none 0 0]) (by simp [results, Tryz.results167, go_sem, o0, o1, o2, o3]) rfl ⟨rfl, ?_⟩
 exact ext4 HX1.out (Nat.le_refl _) _ _ _ _
theorem doToLeaseYes_c (cv : Value) (_hcv : cv.oneCell' = true) (ss ii : Int) (R' : List StkR) (ls' : List LsV) (ix : Nat) (hix : ix < ls'.length) (hn : ls'.findIdx? (isNamed ss ii) = some ix) (hls : ls'.length <= 1000) (w : World) (h : StoreOf w B F sv lv dv R ls ops fl ah kn)
  (hdo : ∀ w', Ext w w' -> Calls Tryz.prog 98 #[.pointer (some ⟨B, 0, none⟩), cv] w' fun e w'' => e = .returned (.int .i64 0) /\ DoPost w' w'' B F ah ops R' ls') :
  Calls Tryz.prog 167 #[.pointer (some ⟨B, 0, none⟩), cv, .int .i64 ss, .int .i64 ii] w fun e w' => e = .returned (replyV 0 ls'[ix].f ls'[ix].c (.slice none 0 0)) /\ DoPost w w' B F ah ops R' ls' := by
 have HDo : Hid (∀ w', Ext w w' -> _) := hdo
 have HF : Hid (∀ b, F b -> b < w.heap.size) := h.lt
 have hB := h.deal.lt
 have HN : Hid (ls'.findIdx? (isNamed ss ii) = some ix) := hn
 clear hdo h hn
 unfold replyV
 go_enter Tryz.func167, Tryz.ntmps167
 go_wp2_with fail
 refine (HDo.out _ ((Ext.refl w).alloc _)).mono ?_
 rintro e w1 ⟨rfl, hpo⟩
 have HPo : Hid _ := hpo
 obtain ⟨sv', lv', dv', new, hS, _, hT⟩ := hpo
 have hres : w1.heap[w.heap.size]? = some (.cells #[.int .i64 0, .int .i64 0, .int .i64 0, .slice none 0 0] 33 (0, 0)) := hT.ref (heap_alloc_new _ _) (fun e => by
  have := HF.out _ e
  omega)
 obtain ⟨la, lcap, hlv⟩ := owns_slice hS.lrow
 have HNm : Hid (∀ w', Ext w1 w' -> Calls Tryz.prog 165 #[.pointer (some ⟨B, 0, none⟩), .int .i64 ss, .int .i64 ii] w' fun e w'' => e = .returned (ptrAt lv' (some ix)) /\ Ext w' w'') := fun w' hx => by
  have := named_c B ls' ss ii sv' lv' dv' false ah true w' (hx.block hS.deal) (hS.lrow.ext hx) hls
  rwa [HN.out] at this
 obtain ⟨g, cap, rfl, _⟩ : ∃ g cap, lv' = .slice (some ⟨g, 0, none⟩) ls'.length cap /\ True := by
  rcases LeasesAt.form hS.lrow with ⟨_, e⟩ | ⟨g, cap, e, _⟩
  ·rw [e] at hix; simp at hix
  ·exact ⟨g, cap, e, trivial⟩
 obtain ⟨_, _, _, _, _, _, l6, l7, _⟩ := LeasesAt.cells hS.lrow ix hix
 have hgw : w.heap.size ≠ g := fun e => by
  obtain ⟨cur, hc⟩ := owns_block hS.lrow (g := g) rfl
  exact type_ne hres hc (by decide) e
 have hgl := lG w1 _ l6
 have HRes : Hid _ := hres
 clear hS hT hres hlv
 unfold ptrAt at HNm
 go_wp2_with fail
 refine (HNm.out _ (Ext.refl _)).mono ?_
 rintro e w2 ⟨rfl, hx2⟩
 have l6 := hx2.cell l6
 have l7 := hx2.cell l7
 have hr2 := hx2.block HRes.out
 have o0 := cell_at hr2 (i := 0) rfl
 have o1 := cell_at hr2 (i := 1) rfl
 have o2 := cell_at hr2 (i := 2) rfl
 have o3 := cell_at hr2 (i := 3) rfl
 have f0 := frozen_row hr2 0
 have f1 := frozen_row hr2 1
 have f2 := frozen_row hr2 2
 have f3 := frozen_row hr2 3
 have HX2 : Hid (Ext w1 w2) := hx2
 have hgl2 := lG w2 _ l6
 clear hx2 hr2
 obtain ⟨lf, hlf⟩ : ∃ lf, ls'[ix].f = lf := ⟨_, rfl⟩
 obtain ⟨lc, hlc⟩ : ∃ lc, ls'[ix].c = lc := ⟨_, rfl⟩
 have HLF : Hid (ls'[ix].f = lf /\ ls'[ix].c = lc) := ⟨hlf, hlc⟩
 rw [hlf] at l6
 rw [hlc] at l7
 clear hlf hlc
 go_wp2
 go_region
 all_goals go_wp2
 all_goals refine bodyPost_ret (v := .agg #[.int .i64 0, .int .i64 lf, .int .i64 lc, .slice none 0 0]) (by simp [results, Tryz.results167, go_sem, o0, o1, o2, o3]) rfl ⟨by rw [HLF.out.1, HLF.out.2], ?_⟩
 all_goals exact DoPost.step HPo.out ((Ext.refl w).alloc _) (set4 HX2.out _ _ _ _) HF.out (Nat.le_refl _) (by simp)
end
end
-- WW3
section
set_option maxRecDepth 100000
set_option maxHeartbeats 3200000
open Go.RowKit
theorem sizes_release : sizes8 releaseL := by intro x hx; simp only [releaseL, List.mem_cons, List.not_mem_nil, or_false] at hx; rcases hx with rfl | rfl <;> decide
theorem nvals_release {W : World} {b : Nat} {s i : Nat} {vals : Nat -> Nat} (hW : W.heap[b]? = some (.cells #[.int .i64 (s : Int), .int .i64 (i : Int)] 214 (0, 0))) (hv : vals 0 = s /\ vals 1 = i) : ∀ x ∈ releaseL, W.cell? ⟨b, x.1, none⟩ = some (.int .i64 (vals x.1 : Int)) := by
 obtain ⟨v0, v1⟩ := hv
 intro x hx
 simp only [releaseL, List.mem_cons, List.not_mem_nil, or_false] at hx
 rcases hx with rfl | rfl
 ·show W.cell? ⟨b, 0, none⟩ = some (.int .i64 (vals 0 : Int)); rw [v0]; exact cell_at hW rfl
 ·show W.cell? ⟨b, 1, none⟩ = some (.int .i64 (vals 1 : Int)); rw [v1]; exact cell_at hW rfl
theorem wireWrite_3 (b : Nat) (s i : Nat) (vals : Nat -> Nat) (hv : vals 0 = s /\ vals 1 = i) (hmax : ∀ j, vals j <= 2147483647) (w : World) (hb : w.heap[b]? = some (.cells #[.int .i64 (s : Int), .int .i64 (i : Int)] 214 (0, 0))) :
  Calls Tryz.prog 57 #[.iface 205 (.pointer (some ⟨b, 0, none⟩))] w fun e w' => e = .returned (.string ⟨([3] ++ flatB vals releaseL).toArray⟩) /\ Ext w w' := by
 have HV : Hid (vals 0 = s /\ vals 1 = i) := hv
 have HB : Hid _ := hb
 have HMX : Hid (∀ j, vals j <= 2147483647) := hmax
 have hm1 := m_releasePlain
 have hm2 := m_releaseFields
 have hfk := field_kind
 clear hv hb hmax
 go_enter Tryz.func57, Tryz.ntmps57
 go_wp2_with (first
  | (go_at_call 219; refine (releasePlain_c b s i _ (by exact HB.out)).mono ?_; rintro e w1 ⟨rfl, hx1⟩)
  | (go_at_call 220; refine (releaseFields_c b _).mono ?_; rintro e w2 ⟨g, cap, rfl, ho, hx2⟩))
 obtain ⟨g0, hg0⟩ : ∃ g0, g0 = w1.heap.size := ⟨_, rfl⟩
 have HO0 : Hid (w2.ownsRow w.heap.size 5 1 (.slice (some ⟨w1.heap.size, 0, none⟩) 1 1) 1 (byteV [3])) := (hx2.owns (World.ownsRow_lit w1 #[.int .u8 3] 1 hx1.le (by unfold maxLen; omega) rfl) : _)
 have HX2 : Ext w w2 := (hx1.alloc _).trans hx2
 have HB2 : Hid (w2.heap[b]? = some (.cells #[.int .i64 (s : Int), .int .i64 (i : Int)] 214 (0, 0))) := HX2.block (by exact HB.out)
 have HF2 : Hid (∃ cur : Array Value, w2.heap[g]? = some (.cells cur 162 (0, 0)) /\ ∀ j, j < 2 * 3 -> cur[j]? = (fl b releaseL)[j]?) := by
  rcases ho.2 with ⟨h0, _⟩ | ⟨g1, cap1, cur, h0, _, hh, _, _, _, ht⟩
  ·simp at h0
  ·simp only [Value.slice.injEq, Option.some.injEq, Addr.mk.injEq, and_true, true_and] at h0
   obtain ⟨rfl, rfl⟩ := h0
   exact ⟨cur, hh, fun j hj => by rw [<- ht, List.getElem?_take, if_pos hj]; simp⟩
 clear ho hx1 hx2 hg0 g0
 go_loopw [3, 5, 14] (fun u _ i wr => ∃ (k n g' cap' : Nat), k <= 2 /\ u = .slice (some ⟨g', 0, none⟩) n cap' /\ i = .int .i64 k /\ ([(3 : UInt8)] ++ flatB vals (releaseL.take k)).length = n /\ wr.ownsRow w.heap.size 5 1 (.slice (some ⟨g', 0, none⟩) n cap') n (byteV ([3] ++ flatB vals (releaseL.take k))) /\ Below w.heap.size w2 wr /\ Keeps w2 wr) (fun _ _ i _ => 2 - (intOf i).toNat)
 case atStart => exact ⟨0, 1, _, _, Nat.zero_le _, rfl, rfl, rfl, HO0.out, Below.refl _ _, Keeps.refl _⟩
 case round =>
  obtain ⟨k, n, g', cap', hk, rfl, rfl, hn, hor, hbel, hkp⟩ := hrel
  have HN : Hid (([(3 : UInt8)] ++ flatB vals (releaseL.take k)).length = n) := hn
  have hn1 : 1 <= n := by rw [<- hn]; simp
  have hn2 : n <= 65 := by
   have h1 := len_flatB vals (releaseL.take k) (fun x hx => sizes_release x (List.mem_of_mem_take hx))
   have h2 : (releaseL.take k).length <= 8 := Nat.le_trans (List.length_take_le' _ _) (by decide)
   rw [<- hn]; simp; omega
  clear hn
  by_cases hlt : k < 2
  ·have hkl : k < releaseL.length := hlt
   have HX : Hid (releaseL.take (k + 1) = releaseL.take k ++ [releaseL[k]]) := List.take_succ_eq_append_getElem hkl
   obtain ⟨cur, hg2, hcur⟩ := HF2.out
   have hgr := hkp.block g _ _ _ hg2 (by decide)
   have hbr := hkp.block b _ _ _ HB2.out (by decide)
   obtain ⟨f0, f1, f2⟩ := fl_at b releaseL k hkl
   have e0 : wr.cell? ⟨g, k * 3, none⟩ = some (.pointer (some ⟨b, releaseL[k].1, none⟩)) := cell_at hgr ((hcur _ (by omega)).trans f0)
   have e1 : wr.cell? ⟨g, k * 3 + 1, none⟩ = some (.int .i64 releaseL[k].2.1) := cell_at hgr ((hcur _ (by omega)).trans f1)
   have e2 : wr.cell? ⟨g, k * 3 + 2, none⟩ = some (.int .i64 releaseL[k].2.2) := cell_at hgr ((hcur _ (by omega)).trans f2)
   have e3 := nvals_release hbr HV.out releaseL[k] (List.getElem_mem hkl)
   have hmx := HMX.out releaseL[k].1
   have hs8 := sizes_release releaseL[k] (List.getElem_mem hkl)
   have HFB : Hid (flatB vals (releaseL.take (k + 1)) = flatB vals (releaseL.take k) ++ bytesOf (vals releaseL[k].1) releaseL[k].2.1.toNat) := by
    show flatB vals (releaseL.take (k + 1)) = _
    rw [HX.out, flatB_snoc]
   have hgl : g < wr.heap.size := lG wr _ e0
   have hbl : b < wr.heap.size := lG wr _ e3
   obtain ⟨sz, hsz⟩ : ∃ sz : Nat, releaseL[k].2.1 = (sz : Int) := ⟨releaseL[k].2.1.toNat, by omega⟩
   rw [hsz] at e1 hs8 HFB
   rw [Int.toNat_natCast] at HFB
   clear hsz f0 f1 f2 hcur hg2 HX hgr hbr
   generalize vals releaseL[k].1 = x at *
   generalize releaseL[k].2.2 = mo at *
   generalize releaseL[k].1 = o at *
   have hwr : IntKind.u64.wrap (x : Int) = (x : Int) := by rw [IntKind.wrap_u64]; omega
   have hszr := hbel.size
   have hszw := HX2.le
   go_wp2
   go_region_with (go_at_call 86; refine (put_s w.heap.size n g' cap' ([3] ++ flatB vals (releaseL.take k)) x sz (by omega) (by omega) (by omega) _ (by exact hor.alloc _) (by simp; omega) (by omega)).mono ?_; rintro e w3 ⟨g3, cap3, rfl, ho3, hb3, hk3⟩)
   all_goals
    have R1 : w3.ownsRow w.heap.size 5 1 (.slice (some ⟨g3, 0, none⟩) (n + sz) cap3) (n + sz) (byteV ([3] ++ flatB vals (releaseL.take (k + 1)))) := by
     rw [HFB.out, <- List.append_assoc]; exact ho3
    have R2 : Below w.heap.size w2 w3 := (hbel.alloc (by omega) _).drew.trans hb3
    have R3 : Keeps w2 w3 := ((hkp.alloc _).drew).trans hk3
    have R4 : ([(3 : UInt8)] ++ flatB vals (releaseL.take (k + 1))).length = n + sz := by
     rw [HFB.out, <- List.append_assoc, List.length_append, HN.out, len_bytesOf]
    have HR4 : Hid _ := R4
    clear R4 ho3 hb3 hk3 hor hbel hkp
    go_wp2
    go_roundw
    case rel => exact ⟨k + 1, n + sz, g3, cap3, by omega, rfl, by go_num, HR4.out, R1, R2, R3⟩
    case measure => simp [intOf]; omega
  ·obtain rfl : k = 2 := by omega
   have hcv := conv_own HN.out hor
   have HE : Ext w wr := Below.trans HX2 hbel
   rw [show releaseL.take 2 = releaseL from rfl] at hcv
   clear hor hbel hkp
   go_wp2
   go_ret
   exact ⟨rfl, HE⟩
end
end Go.Proofs.YtmnjhhachdlmkaaGreat
