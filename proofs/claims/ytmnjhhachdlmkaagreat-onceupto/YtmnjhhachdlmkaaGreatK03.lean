import Derived.Test.YtmnjhhachdlmkaaGreatK02
namespace Go.Proofs.YtmnjhhachdlmkaaGreat
open World renaming block_lt_of_cell? -> lG
open Value renaming ownBlock -> lH
-- Mk
section
set_option maxRecDepth 100000
set_option maxHeartbeats 1600000
open Go.RowKit
theorem sizeU64 (w : World) : (Go.sizeOf 146).run Tryz.prog w = .ok 1 w := by kernel_rfl
theorem elemW : Tryz.prog.underlying 31 = some (.slice (Tryz.prog.elem 31)) /\ Tryz.prog.elem 31 = 146 := by
 constructor
 ·simp [Program.elem, Tryz.underlying31]
 ·simp [Program.elem, Tryz.underlying31]
theorem slice_lh (b o len cap l h : Nat) (hlh : l < h) (hh : h <= cap) (W : World) :
  (Instr.slice 31 (.slice (some ⟨b, o, none⟩) len cap) (some (.int .i64 (l : Int))) (some (.int .i64 (h : Int))) none).run Tryz.prog W = .ok (.slice (some ⟨b, o + l, none⟩) (h - l) (cap - l)) W := by
 rw [run_slice_lh W 31 _ _ _ elemW.1 .i64 .i64 _ _ (by omega) (by omega) (by omega), elemW.2, sizeU64]
 have hne : ¬ cap = l := by omega
 by_cases h0 : l = 0
 ·subst h0
  simp [Result.andThen, sliced, Addr.add, hne]
 ·simp [Result.andThen, sliced, Addr.add, hne, h0]
theorem slice_h (b o len cap h : Nat) (hlh : 0 < h) (hh : h <= cap) (W : World) :
  (Instr.slice 31 (.slice (some ⟨b, o, none⟩) len cap) none (some (.int .i64 (h : Int))) none).run Tryz.prog W = .ok (.slice (some ⟨b, o, none⟩) h cap) W := by
 rw [run_slice_h W 31 _ _ _ elemW.1 .i64 _ (by omega) (by omega), elemW.2, sizeU64]
 have hne : ¬ cap = 0 := by omega
 simp [Result.andThen, sliced, Addr.add, hne]
theorem slice_l (b o len cap l : Nat) (hlh : l < len) (hh : len <= cap) (W : World) :
  (Instr.slice 31 (.slice (some ⟨b, o, none⟩) len cap) (some (.int .i64 (l : Int))) none none).run Tryz.prog W = .ok (.slice (some ⟨b, o + l, none⟩) (len - l) (cap - l)) W := by
 rw [run_slice_l W 31 _ _ _ elemW.1 .i64 _ (by omega) (by omega), elemW.2, sizeU64]
 have hne : ¬ cap = l := by omega
 by_cases h0 : l = 0
 ·subst h0
  simp [Result.andThen, sliced, Addr.add, hne]
 ·simp [Result.andThen, sliced, Addr.add, hne, h0]
theorem four_at {w w' : World} {v0 v1 v2 v3 : Value} {t : TypeId} (h : Ext (w.alloc (.cells #[v0, v1, v2, v3] t)) w') :
  w'.cell? ⟨w.heap.size, 0, none⟩ = some v0 /\ w'.cell? ⟨w.heap.size, 1, none⟩ = some v1 /\ w'.cell? ⟨w.heap.size, 2, none⟩ = some v2 /\ w'.cell? ⟨w.heap.size, 3, none⟩ = some v3 := by
 have hb : (w.alloc (.cells #[v0, v1, v2, v3] t)).heap[w.heap.size]? = some (.cells #[v0, v1, v2, v3] t (0, 0)) := heap_alloc_new w _
 refine ⟨h.cell ?_, h.cell ?_, h.cell ?_, h.cell ?_⟩
 ·rw [cell_of_row _ _ 0 _ _ _ hb]; rfl
 ·rw [cell_of_row _ _ 1 _ _ _ hb]; rfl
 ·rw [cell_of_row _ _ 2 _ _ _ hb]; rfl
 ·rw [cell_of_row _ _ 3 _ _ _ hb]; rfl
theorem drawsOf_c {kd m k n : Nat} {s : Sh} (h : ofCls kd m k n s) (hs : s.ok) (w : World) : Calls Tryz.prog 96 #[clsV kd m k n] w fun e w' => e = .returned (.int .i64 (s.x + s.y + (s.x + s.y + s.z) : Nat)) /\ Ext w w' := by
 have hle := Sh.le hs
 have HS : Hid _ := shapeS_c h
 have HL : Hid _ := lengthsS_c hs
 have HW : Hid _ := wordsOf_c h hs
 generalize s.x = x at *
 generalize s.y = y at *
 generalize s.z = z at *
 generalize s.val = sv at *
 clear h hs
 unfold clsV
 go_enter Tryz.func96, Tryz.ntmps96
 go_wp2_with fail
 refine (HS.out _).mono ?_; rintro e w1 ⟨rfl, hx1⟩
 go_wp2_with fail
 refine (HL.out _).mono ?_; rintro e w2 ⟨rfl, hx2⟩
 obtain ⟨c0, c1, c2, c3⟩ := four_at (hx1.trans hx2)
 go_wp2_with fail
 refine (HW.out _).mono ?_; rintro e w3 ⟨rfl, hx3⟩
 go_wp2
 go_ret
 exact ⟨ret_int (by go_num), (((Ext.refl w).alloc _).trans hx1).trans (hx2.trans hx3)⟩
theorem matS_c {s : Sh} (hs : s.ok) (b off cap b2 off2 cap2 la lb : Nat) (zs ys : List Int) (hla : la = s.m * s.k) (hlb : lb = s.k * s.n) (hn : zs.length = la) (hn2 : ys.length = lb) (w : World) (hz : WordsAt w b off zs) (hy : WordsAt w b2 off2 ys) :
  Calls Tryz.prog 174 #[s.num, s.val, .slice (some ⟨b, off, none⟩) la cap, .slice (some ⟨b2, off2, none⟩) lb cap2] w fun e w' =>
   ∃ v, e = .returned v /\ w'.ownsRow w.heap.size 146 1 v (s.m * s.n) ((matN s.bt zs ys s.k s.n s.m).map (Value.int .u64)) /\ Ext w w' := by
 obtain ⟨h1, h2, h3, h4, h5, h6, h7, h8, h9⟩ := hs
 match s with
 | ⟨false, p, m, k, n⟩ => exact matW_c b off cap b2 off2 cap2 p m k n la lb zs ys hla hlb hn hn2 h4 h6 h8 w hz hy
 | ⟨true, p, m, k, n⟩ => exact matB_c b off cap b2 off2 cap2 p m k n la lb zs ys hla hlb hn hn2 h4 h6 h8 w hz hy
def subL (A : List Int) (j L : Nat) : List Int := (A.drop (j * L)).take L
def mulN (s : Sh) (A B : List Int) (i : Nat) : List Int := (List.range i).flatMap fun j => matN s.bt (subL A j (s.m * s.k)) (subL B j (s.k * s.n)) s.k s.n s.m
theorem mulN_succ (s : Sh) (A B : List Int) (i : Nat) : mulN s A B (i + 1) = mulN s A B i ++ matN s.bt (subL A i (s.m * s.k)) (subL B i (s.k * s.n)) s.k s.n s.m := by simp [mulN, List.range_succ]
theorem WordsAt.sub {w : World} {b off : Nat} {A : List Int} (h : WordsAt w b off A) (j L : Nat) : WordsAt w b (off + j * L) (subL A j L) := by
 intro i hi
 simp only [subL, List.length_take, List.length_drop] at hi
 have := h (j * L + i) (by omega)
 rw [Nat.add_assoc, this]
 simp [subL, List.getD_eq_getElem?_getD, List.getElem?_drop, show i < L by omega]
theorem subL_len {A : List Int} {j p L : Nat} (h : A.length = p * L) (hj : j < p) : (subL A j L).length = L := by
 have := Nat.mul_le_mul (show j + 1 <= p by omega) (Nat.le_refl L)
 rw [Nat.add_mul] at this
 simp only [subL, List.length_take, List.length_drop]; omega
theorem multiply_c {s : Sh} (hs : s.ok) (b off cap b2 off2 cap2 la lb : Nat) (A B : List Int) (hla : la = s.p * (s.m * s.k)) (hlb : lb = s.p * (s.k * s.n)) (hn : A.length = la) (hn2 : B.length = lb) (hc1 : la <= cap) (hc2 : lb <= cap2) (w : World) (hz : WordsAt w b off A) (hy : WordsAt w b2 off2 B) :
  Calls Tryz.prog 142 #[s.num, s.val, .slice (some ⟨b, off, none⟩) la cap, .slice (some ⟨b2, off2, none⟩) lb cap2] w fun e w' =>
   ∃ v, e = .returned v /\ w'.ownsRow w.heap.size 146 1 v (s.p * (s.m * s.n)) ((mulN s A B s.p).map (Value.int .u64)) /\ Ext w w' := by
 obtain ⟨i0, hi, hz0, hz1, hz2⟩ := info_parts infoU64
 have HM : Hid _ := @matS_c s hs
 have HS : Hid _ := mulN_succ s A B
 have HZ : Hid (WordsAt w b off A) := hz
 have HY : Hid (WordsAt w b2 off2 B) := hy
 have HN : Hid (A.length = s.p * (s.m * s.k)) := hn.trans hla
 have HN2 : Hid (B.length = s.p * (s.k * s.n)) := hn2.trans hlb
 have HLA : Hid (la = s.p * (s.m * s.k)) := hla
 have HLB : Hid (lb = s.p * (s.k * s.n)) := hlb
 have hx9 := Sh.le hs
 clear hz hy hn hn2 hla hlb
 obtain ⟨h1, h2, h3, h4, h5, h6, h7, h8, h9⟩ := hs
 unfold Sh.val at *
 generalize s.num = nm at *
 unfold Sh.x Sh.y Sh.z at hx9
 rw [Nat.mul_assoc, Nat.mul_assoc, Nat.mul_assoc] at hx9
 have v1 : IntKind.i64.wrap ((s.m : Int) * (s.k : Int)) = ((s.m * s.k : Nat) : Int) := by rw [<- Int.natCast_mul]; exact wrap_small (by have := mul_le9 h4 h6; omega)
 have v2 : IntKind.i64.wrap ((s.k : Int) * (s.n : Int)) = ((s.k * s.n : Nat) : Int) := by rw [<- Int.natCast_mul]; exact wrap_small (by have := mul_le9 h6 h8; omega)
 have mn9 := mul_le9 h4 h8
 have mk9 := mul_le9 h4 h6
 have kn9 := mul_le9 h6 h8
 have mn1 := Nat.mul_le_mul h3 h7
 have mk1 := Nat.mul_le_mul h3 h5
 have kn1 := Nat.mul_le_mul h5 h7
 generalize hp : s.p = p at *
 generalize hm : s.m = m at *
 generalize hk : s.k = k at *
 generalize hnn : s.n = n at *
 clear hp hm hk hnn h3 h4 h5 h6 h7 h8 h9
 generalize m * k = L at *
 generalize k * n = R at *
 generalize m * n = MN at *
 go_enter Tryz.func142, Tryz.ntmps142
 go_wp2
 have hf := four_at (Ext.refl (w.alloc (.cells #[.int .i64 p, .int .i64 m, .int .i64 k, .int .i64 n] 240)))
 have HXW : Hid (Ext w (w.alloc (.cells #[.int .i64 p, .int .i64 m, .int .i64 k, .int .i64 n] 240))) := (Ext.refl w).alloc _
 generalize World.alloc w _ = W at hf HXW ⊢
 obtain ⟨s0, s1, s2, s3⟩ := hf
 go_region_held3 (fun w' => (w'.cell? ⟨w.heap.size, 0, none⟩ = some (.int .i64 p) /\ w'.cell? ⟨w.heap.size, 1, none⟩ = some (.int .i64 m) /\ w'.cell? ⟨w.heap.size, 2, none⟩ = some (.int .i64 k) /\ w'.cell? ⟨w.heap.size, 3, none⟩ = some (.int .i64 n)) /\ Ext W w')
  ((refine and_cell4 s0 s1 s2 s3 ?_; (repeat (first | with_reducible exact Ext.refl _ | with_reducible assumption | with_reducible refine Ext.drew ?_ | with_reducible refine Ext.alloc ?_ _ | with_reducible (apply Ext.chain; assumption))); done))
  (fail)
 rename_i hHeld
 clear hHeld
 have hD := (Ext.refl W).drew
 generalize W.drew = V at hD ⊢
 have s0 := hD.cell s0
 have s1 := hD.cell s1
 have s2 := hD.cell s2
 have s3 := hD.cell s3
 have HXV : Hid (Ext w V) := HXW.out.trans hD
 clear hD HXW
 go_wp2
 go_loopw [9, 25] (fun u i wr => ∃ j : Nat, j <= p /\ i = .int .i64 j /\ wr.ownsRow V.heap.size 146 1 u (j * MN) ((mulN s A B j).map (Value.int .u64)) /\ Ext V wr) (fun _ i _ => p - (intOf i).toNat)
 case atStart => exact ⟨0, Nat.zero_le _, rfl, by rw [Nat.zero_mul]; exact World.ownsRow_nil _ _ _ _, Ext.refl _⟩
 case round =>
  obtain ⟨j, hj, rfl, ho, hx⟩ := hrel
  have HO : Hid _ := ho
  clear ho
  by_cases hlt : j < p
  ·have f0 := hx.cell s0
   have f1 := hx.cell s1
   have f2 := hx.cell s2
   have f3 := hx.cell s3
   have jL := Nat.mul_le_mul (show j + 1 <= p by omega) (Nat.le_refl L)
   have jR := Nat.mul_le_mul (show j + 1 <= p by omega) (Nat.le_refl R)
   have HJ : Hid ((j + 1) * L = j * L + L /\ (j + 1) * R = j * R + R) := ⟨by rw [Nat.add_mul, Nat.one_mul], by rw [Nat.add_mul, Nat.one_mul]⟩
   have bL : (j + 1) * L <= la := by rw [HLA.out]; exact jL
   have bR : (j + 1) * R <= lb := by rw [HLB.out]; exact jR
   have u0 : IntKind.i64.wrap ((j : Int) + 1) = ((j + 1 : Nat) : Int) := by rw [show (j : Int) + 1 = ((j + 1 : Nat) : Int) by omega]; exact wrap_small (by omega)
   have u1 : IntKind.i64.wrap ((j : Int) * (L : Int)) = ((j * L : Nat) : Int) := by rw [<- Int.natCast_mul]; exact wrap_small (by have := HJ.out.1; omega)
   have u2 : IntKind.i64.wrap (((j + 1 : Nat) : Int) * (L : Int)) = (((j + 1) * L : Nat) : Int) := by rw [<- Int.natCast_mul]; exact wrap_small (by omega)
   have u3 : IntKind.i64.wrap ((j : Int) * (R : Int)) = ((j * R : Nat) : Int) := by rw [<- Int.natCast_mul]; exact wrap_small (by have := HJ.out.2; omega)
   have u4 : IntKind.i64.wrap (((j + 1 : Nat) : Int) * (R : Int)) = (((j + 1) * R : Nat) : Int) := by rw [<- Int.natCast_mul]; exact wrap_small (by omega)
   have HZ2 : Hid (WordsAt V b (off + j * L) (subL A j L)) := (HZ.out.sub j L).ext HXV.out
   have HY2 : Hid (WordsAt V b2 (off2 + j * R) (subL B j R)) := (HY.out.sub j R).ext HXV.out
   have HLn : Hid ((subL A j L).length = L) := subL_len HN.out hlt
   have HRn : Hid ((subL B j R).length = R) := subL_len HN2.out hlt
   have HG : Hid (mulN s A B (j + 1) = mulN s A B j ++ matN s.bt (subL A j L) (subL B j R) k n m) := HS.out j
   have HMN : Hid ((j + 1) * MN = j * MN + MN /\ j * MN <= 27) := ⟨by rw [Nat.add_mul, Nat.one_mul], by have := Nat.mul_le_mul (show j <= 3 by omega) mn9; omega⟩
   have hlow := fun q hq => (World.ownsRow.lt HO.out q hq).1
   generalize hj1 : j + 1 = j1 at *
   generalize subL A j L = zs at *
   generalize subL B j R = ys at *
   generalize j * L = jl at *
   generalize j * R = jr at *
   generalize j1 * L = jl1 at *
   generalize j1 * R = jr1 at *
   generalize j * MN = jm at *
   clear jL jR
   have hsl1 : ∀ W, (Instr.slice 31 (.slice (some ⟨b, off, none⟩) la cap) (some (.int .i64 (jl : Int))) (some (.int .i64 (jl1 : Int))) none).run Tryz.prog W = .ok (.slice (some ⟨b, off + jl, none⟩) L (cap - jl)) W := fun W => by
    rw [slice_lh b off la cap jl jl1 (by have := HJ.out.1; omega) (by omega), show jl1 - jl = L by have := HJ.out.1; omega]
   have hsl2 : ∀ W, (Instr.slice 31 (.slice (some ⟨b2, off2, none⟩) lb cap2) (some (.int .i64 (jr : Int))) (some (.int .i64 (jr1 : Int))) none).run Tryz.prog W = .ok (.slice (some ⟨b2, off2 + jr, none⟩) R (cap2 - jr)) W := fun W => by
    rw [slice_lh b2 off2 lb cap2 jr jr1 (by have := HJ.out.2; omega) (by omega), show jr1 - jr = R by have := HJ.out.2; omega]
   have HJ1 : Hid (j + 1 = j1) := hj1
   clear hj1 bL bR hc1 hc2
   go_wp2_with fail
   go_region_held3 (fun w' => (w'.cell? ⟨w.heap.size, 0, none⟩ = some (.int .i64 p) /\ w'.cell? ⟨w.heap.size, 1, none⟩ = some (.int .i64 m) /\ w'.cell? ⟨w.heap.size, 2, none⟩ = some (.int .i64 k) /\ w'.cell? ⟨w.heap.size, 3, none⟩ = some (.int .i64 n)) /\ Ext V w')
    (first
      | (refine and_cell4 s0 s1 s2 s3 ?_; (repeat (first | with_reducible exact Ext.refl _ | with_reducible assumption | with_reducible refine Ext.drew ?_ | with_reducible refine Ext.alloc ?_ _ | with_reducible (apply Ext.chain; assumption))); done)
      | exact and_cell4 s0 s1 s2 s3 (Ext.grown (Ext.chain hx2 (Ext.drew hx)) hgrow hlow))
    (first
      | (go_at_call 174; refine (HM.out b (off + jl) (cap - jl) b2 (off2 + jr) (cap2 - jr) L R zs ys rfl rfl HLn.out HRn.out _ (HZ2.out.ext (Ext.drew hx)) (HY2.out.ext (Ext.drew hx))).mono ?_; rintro e w2 ⟨v, rfl, hov, hx2⟩; obtain ⟨g2, cp2, rfl, hg2, hg3⟩ := hov.form (by omega))
      | (refine step_append_lies _ (by rfl) _ _ 31 (by rfl) V.heap.size 146 i0 (.int .u64 0) 1 8 Tryz.underlying31 hi hz0 hz1 hz2 (by rfl) (by decide) u9 jm _ (by rfl) (Ext.owns (Ext.chain hx2 (Ext.drew (Ext.refl _))) HO.out) ⟨_, 0, none⟩ MN cp2 _ (by rfl) hov.1 (hov.cells rfl) (words_one _) (by omega) (by have := HMN.out.2; simp [maxLen]; omega) (by have := HMN.out.2; omega) (Nat.le_trans hx.le (Ext.le (Ext.chain hx2 (Ext.drew (Ext.refl _))))) _ rfl ?_; intro g cap3 w1 hown1 hgrow hat hlt1))
   have R1 : w1.ownsRow V.heap.size 146 1 (.slice (some ⟨g, 0, none⟩) (jm + MN) cap3) (j1 * MN) ((mulN s A B j1).map (Value.int .u64)) := by
    rw [HG.out, HMN.out.1, List.map_append]; exact hown1
   have R2 : Ext V w1 := Ext.grown (Ext.chain hx2 (Ext.drew hx)) hgrow hlow
   clear hown1 hgrow
   go_wp2
   go_roundw
   case rel => exact ⟨j1, by have := HJ1.out; omega, by have := HJ1.out; subst this; go_num, R1, R2⟩
   case measure => have := HJ1.out; simp [intOf]; omega
  ·obtain rfl : j = p := by omega
   go_wp2
   go_ret
   exact ⟨_, rfl, owns_base HO.out HXV.out.le, HXV.out.trans hx⟩
end
-- Make
section
set_option maxRecDepth 100000
set_option maxHeartbeats 1600000
open Go.RowKit
theorem restS_c (s : Sh) (b off cap b2 off2 cap2 n : Nat) (zs ys : List Int) (hn : zs.length = n) (hn2 : ys.length = n) (hsm : n <= 1000) (w : World) (hz : WordsAt w b off zs) (hy : WordsAt w b2 off2 ys) :
  Calls Tryz.prog 143 #[s.num, .slice (some ⟨b, off, none⟩) n cap, .slice (some ⟨b2, off2, none⟩) n cap2] w fun e w' =>
   ∃ v, e = .returned v /\ w'.ownsRow w.heap.size 146 1 v n ((List.zipWith (minusN s.bt) zs ys).map (Value.int .u64)) /\ Ext w w' := by
 match s with
 | ⟨false, p, m, k, n'⟩ => exact restW_c b off cap b2 off2 cap2 n zs ys hn hn2 hsm w hz hy
 | ⟨true, p, m, k, n'⟩ => exact restB_c b off cap b2 off2 cap2 n zs ys hn hn2 hsm w hz hy
def wholeN (s : Sh) (D : List Int) : List Int := D.take (s.x + s.y) ++ mulN s (D.take s.x) ((D.drop s.x).take s.y) s.p
def part0 (s : Sh) (D : List Int) : List Int := D.drop (s.x + s.y)
def part1 (s : Sh) (D : List Int) : List Int := List.zipWith (minusN s.bt) (wholeN s D) (part0 s D)
theorem mat_len (bt : Bool) (zs ys : List Int) (k n r : Nat) : (matN bt zs ys k n r).length = r * n := by
 induction r with
 | zero => simp [matN]
 | succ r ih => rw [matN_succ, List.length_append, ih, Nat.add_mul]; simp [rowN]
theorem mul_len (s : Sh) (A B : List Int) (i : Nat) : (mulN s A B i).length = i * (s.m * s.n) := by
 induction i with
 | zero => simp [mulN]
 | succ i ih => rw [mulN_succ, List.length_append, ih, mat_len, Nat.add_mul]; simp
theorem whole_len (s : Sh) (D : List Int) (h : D.length = s.x + s.y + (s.x + s.y + s.z)) : (wholeN s D).length = s.x + s.y + s.z := by
 simp only [wholeN, List.length_append, List.length_take, mul_len, <- Nat.mul_assoc]
 show min (s.x + s.y) D.length + s.z = _
 omega
theorem WordsAt.take {w : World} {b off : Nat} {D : List Int} (h : WordsAt w b off D) (k : Nat) : WordsAt w b off (D.take k) := by
 intro i hi
 simp only [List.length_take] at hi
 rw [h i (by omega)]
 simp [List.getD_eq_getElem?_getD, show i < k by omega]
theorem WordsAt.drop {w : World} {b off : Nat} {D : List Int} (h : WordsAt w b off D) (k : Nat) : WordsAt w b (off + k) (D.drop k) := by
 intro i hi
 simp only [List.length_drop] at hi
 rw [Nat.add_assoc, h (k + i) (by omega)]
 simp [List.getD_eq_getElem?_getD, List.getElem?_drop]
theorem owns_words {w : World} {base g cap n : Nat} {zs : List Int} (h : w.ownsRow base 146 1 (.slice (some ⟨g, 0, none⟩) n cap) n (zs.map (Value.int .u64))) : WordsAt w g 0 zs := by
 intro i hi
 have hl := h.1
 simp only [List.length_map, Nat.mul_one] at hl
 rw [Nat.zero_add, h.cellAt i (by omega), List.getElem?_map, List.getElem?_eq_getElem hi]
 simp [List.getD_eq_getElem?_getD, List.getElem?_eq_getElem hi]
theorem Ext.frozen {a b : World} (h : Ext a b) {p : Addr} (hp : p.block < a.heap.size) : b.frozen? p = a.frozen? p := World.frozen?_of_block (w := a) (Below.block h p.block hp)
theorem four_set {w : World} {g : Nat} {a0 a1 a2 a3 b0 b1 b2 b3 : Value} (h : w.cell? ⟨g, 0, none⟩ = some a0 /\ w.cell? ⟨g, 1, none⟩ = some a1 /\ w.cell? ⟨g, 2, none⟩ = some a2 /\ w.cell? ⟨g, 3, none⟩ = some a3) :
  ((((w.setCell ⟨g, 0, none⟩ b0).setCell ⟨g, 1, none⟩ b1).setCell ⟨g, 2, none⟩ b2).setCell ⟨g, 3, none⟩ b3).cell? ⟨g, 0, none⟩ = some b0 /\
  ((((w.setCell ⟨g, 0, none⟩ b0).setCell ⟨g, 1, none⟩ b1).setCell ⟨g, 2, none⟩ b2).setCell ⟨g, 3, none⟩ b3).cell? ⟨g, 1, none⟩ = some b1 /\
  ((((w.setCell ⟨g, 0, none⟩ b0).setCell ⟨g, 1, none⟩ b1).setCell ⟨g, 2, none⟩ b2).setCell ⟨g, 3, none⟩ b3).cell? ⟨g, 2, none⟩ = some b2 /\
  ((((w.setCell ⟨g, 0, none⟩ b0).setCell ⟨g, 1, none⟩ b1).setCell ⟨g, 2, none⟩ b2).setCell ⟨g, 3, none⟩ b3).cell? ⟨g, 3, none⟩ = some b3 := by
 obtain ⟨h0, h1, h2, h3⟩ := h
 refine ⟨?_, ?_, ?_, ?_⟩ <;> simp [go_sem, h0, h1, h2, h3]
theorem two_cells {w w' : World} {a b : Value} {t : TypeId} (h : Ext (w.alloc (.cells #[a, b] t)) w') : w'.cell? ⟨w.heap.size, 0, none⟩ = some a /\ w'.cell? ⟨w.heap.size, 1, none⟩ = some b := by
 have hb : (w.alloc (.cells #[a, b] t)).heap[w.heap.size]? = some (.cells #[a, b] t (0, 0)) := heap_alloc_new w _
 refine ⟨h.cell ?_, h.cell ?_⟩
 ·rw [cell_of_row _ _ 0 _ _ _ hb]; rfl
 ·rw [cell_of_row _ _ 1 _ _ _ hb]; rfl
theorem fresh_at {w w' : World} {v0 v1 v2 v3 : Value} {t : TypeId} (h : Ext (w.alloc (.cells #[v0, v1, v2, v3] t)) w') (g : Nat) (hg : w.heap.size = g) :
  (w'.cell? ⟨g, 0, none⟩ = some v0 /\ w'.cell? ⟨g, 1, none⟩ = some v1 /\ w'.cell? ⟨g, 2, none⟩ = some v2 /\ w'.cell? ⟨g, 3, none⟩ = some v3) /\ w'.frozen? ⟨g, 0, none⟩ = false /\ w'.frozen? ⟨g, 1, none⟩ = false /\ w'.frozen? ⟨g, 2, none⟩ = false /\ w'.frozen? ⟨g, 3, none⟩ = false := by
 subst hg
 have hb : (w.alloc (.cells #[v0, v1, v2, v3] t)).heap[w.heap.size]? = some (.cells #[v0, v1, v2, v3] t (0, 0)) := heap_alloc_new w _
 have key : ∀ i, w'.frozen? ⟨w.heap.size, i, none⟩ = false := fun i => by
  rw [h.frozen (by simp)]
  unfold World.frozen?
  rw [hb]
  simp
 exact ⟨four_at h, key 0, key 1, key 2, key 3⟩
theorem make_c {kd m k n : Nat} {s : Sh} (hc : ofCls kd m k n s) (hs : s.ok) (b off len cap : Nat) (D : List Int) (hl : D.length = len) (hlen : len = s.x + s.y + (s.x + s.y + s.z)) (hcap : len <= cap) (w : World) (hz : WordsAt w b off D) :
  Calls Tryz.prog 97 #[clsV kd m k n, .slice (some ⟨b, off, none⟩) len cap] w fun e w' =>
   ∃ g0 c0 g1 c1, e = .returned (.agg #[.slice (some ⟨g0, 0, none⟩) (s.x + s.y + s.z) c0, .slice (some ⟨g1, 0, none⟩) (s.x + s.y + s.z) c1]) /\
    w'.ownsRow w.heap.size 146 1 (.slice (some ⟨g0, 0, none⟩) (s.x + s.y + s.z) c0) (s.x + s.y + s.z) ((part0 s D).map (Value.int .u64)) /\
    w'.ownsRow w.heap.size 146 1 (.slice (some ⟨g1, 0, none⟩) (s.x + s.y + s.z) c1) (s.x + s.y + s.z) ((part1 s D).map (Value.int .u64)) /\ Ext w w' := by
 have hle := Sh.le hs
 have HS : Hid _ := shapeS_c hc
 have HA : Hid _ := arithS_c hc
 have HL : Hid _ := lengthsS_c hs
 have HM : Hid _ := @multiply_c s hs
 have HR : Hid _ := restS_c s
 have HW : Hid (wholeN s D = D.take (s.x + s.y) ++ mulN s (D.take s.x) ((D.drop s.x).take s.y) s.p) := rfl
 have HP0 : Hid (part0 s D = D.drop (s.x + s.y)) := rfl
 have HP1 : Hid (part1 s D = List.zipWith (minusN s.bt) (wholeN s D) (part0 s D)) := rfl
 have HWL : Hid ((wholeN s D).length = s.x + s.y + s.z) := whole_len s D (hl.trans hlen)
 have HZ : Hid (WordsAt w b off D) := hz
 have HD : Hid (D.length = len) := hl
 have HX : Hid (s.p * (s.m * s.k) = s.x /\ s.p * (s.k * s.n) = s.y /\ s.p * (s.m * s.n) = s.z) := ⟨(Nat.mul_assoc _ _ _).symm, (Nat.mul_assoc _ _ _).symm, (Nat.mul_assoc _ _ _).symm⟩
 clear hl hz hs hc
 subst hlen
 generalize s.num = nm at *
 unfold Sh.val at *
 generalize s.x = x at *
 generalize s.y = y at *
 generalize s.z = z at *
 unfold clsV
 go_enter Tryz.func97, Tryz.ntmps97
 go_wp2_with fail
 have hf := four_at ((Ext.refl (w.alloc (.cells #[.int .i64 kd, .int .i64 m, .int .i64 k, .int .i64 n] 49))).alloc (.cells #[.slice none 0 0, .slice none 0 0] 176))
 have HXW : Hid (Ext w ((w.alloc (.cells #[.int .i64 kd, .int .i64 m, .int .i64 k, .int .i64 n] 49)).alloc (.cells #[.slice none 0 0, .slice none 0 0] 176))) := ((Ext.refl w).alloc _).alloc _
 have HRS : Hid (((w.alloc (.cells #[.int .i64 kd, .int .i64 m, .int .i64 k, .int .i64 n] 49)).alloc (.cells #[.slice none 0 0, .slice none 0 0] 176)).heap[w.heap.size + 1]? = some (.cells #[.slice none 0 0, .slice none 0 0] 176 (0, 0))) := at_new (by simp)
 generalize World.alloc (World.alloc w _) _ = W at hf HXW HRS ⊢
 obtain ⟨c0, c1, c2, c3⟩ := hf
 rename_i Q' K hK
 suffices KEY : ∀ (gs : Nat) (V : World), (V.cell? ⟨gs, 0, none⟩ = some (.int .i64 s.p) /\ V.cell? ⟨gs, 1, none⟩ = some (.int .i64 s.m) /\ V.cell? ⟨gs, 2, none⟩ = some (.int .i64 s.k) /\ V.cell? ⟨gs, 3, none⟩ = some (.int .i64 s.n)) -> Ext W V ->
   Exit.then K Q' Exit.normal { tmps := #[.agg #[.int .i64 kd, .int .i64 m, .int .i64 k, .int .i64 n], .slice (some ⟨b, off, none⟩) (x + y + (x + y + z)) cap, .pointer (some ⟨w.heap.size, 0, none⟩), undef, .pointer (some ⟨w.heap.size + 1, 0, none⟩), .pointer (some ⟨gs, 0, none⟩), nm, undef, undef, undef, undef, undef, .agg #[.int .i64 kd, .int .i64 m, .int .i64 k, .int .i64 n], .agg #[.int .i64 s.p, .int .i64 s.m, .int .i64 s.k, .int .i64 s.n], .agg #[.int .i64 kd, .int .i64 m, .int .i64 k, .int .i64 n], nm, undef, undef, undef, undef, undef, undef, undef, undef, undef, undef, undef, undef, undef, undef, undef, undef, undef, undef, undef, undef, undef, undef, undef, undef, undef, undef, undef, undef, undef, undef, undef, undef, undef, undef, undef, undef, undef], defers := [] } V by
  go_region_held3 (fun w' => (w'.cell? ⟨w.heap.size, 0, none⟩ = some (.int .i64 kd) /\ w'.cell? ⟨w.heap.size, 1, none⟩ = some (.int .i64 m) /\ w'.cell? ⟨w.heap.size, 2, none⟩ = some (.int .i64 k) /\ w'.cell? ⟨w.heap.size, 3, none⟩ = some (.int .i64 n)) /\ Ext W w')
   (first
     | (refine and_cell4 c0 c1 c2 c3 ?_; (repeat (first | with_reducible exact Ext.refl _ | with_reducible assumption | with_reducible refine Ext.drew ?_ | with_reducible refine Ext.alloc ?_ _ | with_reducible (apply Ext.chain; assumption))); done)
     | (refine and_cell4 c0 c1 c2 c3 ?_; (repeat (first | with_reducible exact Ext.refl _ | with_reducible assumption | with_reducible refine Ext.drew ?_ | with_reducible refine Ext.alloc ?_ _ | with_reducible (apply Ext.chain; assumption) | (refine Ext.setCell ?_ ?sc _; case sc => (first | exact Nat.le_refl _ | exact l1 | exact Nat.le_trans l1 l2)))); done))
   (first
     | (go_at_call 136; refine (HS.out _).mono ?_; rintro e w1 ⟨rfl, hx1⟩; have l1 := Ext.le hx1)
     | (go_at_call 139; refine (HA.out _).mono ?_; rintro e w2 ⟨rfl, hx2⟩; have l2 := Ext.le hx2; try (first | (have q := fresh_at (t := 240) hx2 w1.heap.size rfl; obtain ⟨⟨q0, q1, q2, q3⟩, q4, q5, q6, q7⟩ := q) | (have q := fresh_at (t := 240) (Ext.trans (Ext.drew (Ext.refl _)) (Ext.trans hx1 hx2)) W.heap.size rfl; obtain ⟨⟨q0, q1, q2, q3⟩, q4, q5, q6, q7⟩ := q))))
  all_goals (rename_i hh; refine KEY _ _ ?_ hh.2)
  ·obtain ⟨a0, a1, a2, a3⟩ := four_at (Ext.refl (w2.alloc (.cells #[.int .i64 s.p, .int .i64 s.m, .int .i64 s.k, .int .i64 s.n] 240)))
   exact ⟨a0, a1, a2, a3⟩
  ·exact four_set ⟨q0, q1, q2, q3⟩
  ·exact four_set ⟨q0, q1, q2, q3⟩
 clear c0 c1 c2 c3
 rintro gs V ⟨s0, s1, s2, s3⟩ hxV
 have HXV : Hid (Ext w V) := HXW.out.trans hxV
 have HRV : Hid (V.heap[w.heap.size + 1]? = some (.cells #[.slice none 0 0, .slice none 0 0] 176 (0, 0))) := hxV.block HRS.out
 clear HXW HRS hxV
 go_wp2_with fail
 refine (HL.out _).mono ?_; rintro e w1 ⟨rfl, hx1⟩
 have s0 := hx1.cell s0
 have s1 := hx1.cell s1
 have s2 := hx1.cell s2
 have s3 := hx1.cell s3
 have v1 : IntKind.i64.wrap ((x : Int) + (y : Int)) = ((x + y : Nat) : Int) := by rw [show (x : Int) + y = ((x + y : Nat) : Int) by omega]; exact wrap_small (by omega)
 have t1 : ∀ W, (Instr.slice 31 (.slice (some ⟨b, off, none⟩) (x + y + (x + y + z)) cap) (some (.int .i64 ((x + y : Nat) : Int))) none none).run Tryz.prog W = .ok (.slice (some ⟨b, off + (x + y), none⟩) (x + y + z) (cap - (x + y))) W := fun W => by
  rw [slice_l b off _ cap (x + y) (by omega) hcap, show x + y + (x + y + z) - (x + y) = x + y + z by omega]
 have t2 : ∀ W, (Instr.slice 31 (.slice (some ⟨b, off, none⟩) (x + y + (x + y + z)) cap) none (some (.int .i64 ((x + y : Nat) : Int))) none).run Tryz.prog W = .ok (.slice (some ⟨b, off, none⟩) (x + y) cap) W := fun W => slice_h b off _ cap (x + y) (by omega) (by omega) W
 have t3 : ∀ W, (Instr.slice 31 (.slice (some ⟨b, off, none⟩) (x + y + (x + y + z)) cap) none (some (.int .i64 (x : Int))) none).run Tryz.prog W = .ok (.slice (some ⟨b, off, none⟩) x cap) W := fun W => slice_h b off _ cap x (by omega) (by omega) W
 have t4 : ∀ W, (Instr.slice 31 (.slice (some ⟨b, off, none⟩) (x + y + (x + y + z)) cap) (some (.int .i64 (x : Int))) (some (.int .i64 ((x + y : Nat) : Int))) none).run Tryz.prog W = .ok (.slice (some ⟨b, off + x, none⟩) y (cap - x)) W := fun W => by
  rw [slice_lh b off _ cap x (x + y) (by omega) (by omega), show x + y - x = y by omega]
 have HB1 : Hid (x + y <= cap /\ x + y + (x + y + z) <= cap) := ⟨by omega, hcap⟩
 generalize hxy : x + y = xy at *
 have HXY : Hid (x + y = xy) := hxy
 clear hxy
 generalize hxz : xy + z = xyz at *
 have HXZ : Hid (xy + z = xyz) := hxz
 clear hxz hcap
 go_wp2_with fail
 refine (cloneW_c b (off + xy) xyz (cap - xy) (part0 s D) ?p1 ?p2 ?p3 w1 ?p4).mono ?_
 case p1 => rw [HP0.out, List.length_drop, HD.out]; omega
 case p2 => have := HXZ.out; omega
 case p3 => have := HXZ.out; have := HXY.out; omega
 case p4 => rw [HP0.out]; exact (HZ.out.drop xy).ext (HXV.out.trans hx1)
 rintro e w2 ⟨v0, rfl, ho0, hx2⟩
 obtain ⟨g0, cp0, rfl, hg0, hg0'⟩ := ho0.form (by have := HXZ.out; omega)
 have s0 := hx2.cell s0
 have s1 := hx2.cell s1
 have s2 := hx2.cell s2
 have s3 := hx2.cell s3
 have HO0 : Hid _ := ho0
 clear ho0
 have HZ2 : Hid (WordsAt w2 b off D) := HZ.out.ext (HXV.out.trans (hx1.trans hx2))
 have HM2 : Hid (∀ w3, Ext w2 w3 -> Calls Tryz.prog 142 #[nm, .agg #[.int .i64 s.p, .int .i64 s.m, .int .i64 s.k, .int .i64 s.n], .slice (some ⟨b, off, none⟩) x cap, .slice (some ⟨b, off + x, none⟩) y (cap - x)] w3 fun e w' =>
   ∃ g1 cp1, e = .returned (.slice (some ⟨g1, 0, none⟩) z cp1) /\ w'.ownsRow w3.heap.size 146 1 (.slice (some ⟨g1, 0, none⟩) z cp1) z ((mulN s (D.take x) ((D.drop x).take y) s.p).map (Value.int .u64)) /\ Ext w3 w') := fun w3 h3 => by
  have hb := HB1.out
  have hxy := HXY.out
  have hxz := HXZ.out
  have hd := HD.out
  refine (HM.out b off cap b (off + x) (cap - x) x y (D.take x) ((D.drop x).take y) HX.out.1.symm HX.out.2.1.symm (by rw [List.length_take]; omega) (by rw [List.length_take, List.length_drop]; omega) (by omega) (by omega) w3 ((HZ2.out.take x).ext h3) (((HZ2.out.drop x).take y).ext h3)).mono ?_
  rintro e w4 ⟨v, rfl, ho1, hx3⟩
  rw [HX.out.2.2] at ho1
  obtain ⟨g1, cp1, rfl, _, _⟩ := ho1.form (by omega)
  exact ⟨g1, cp1, rfl, ho1, hx3⟩
 have HC2 : Hid (∀ (g g1 cp1 : Nat) (w5 : World), WordsAt w5 g1 0 (mulN s (D.take x) ((D.drop x).take y) s.p) -> Ext w2 w5 -> w5.cell? ⟨g, 0, none⟩ = some (.slice (some ⟨b, off, none⟩) xy cap) /\ w5.cell? ⟨g, 1, none⟩ = some (.slice (some ⟨g1, 0, none⟩) z cp1) ->
   Calls Tryz.prog 141 #[.slice (some ⟨g, 0, none⟩) 2 2] w5 fun e w' => ∃ g2 cp2, e = .returned (.slice (some ⟨g2, 0, none⟩) xyz cp2) /\ WordsAt w' g2 0 (wholeN s D) /\ Ext w5 w') := fun g g1 cp1 w5 hw1 h5 hcc => by
  have hb := HB1.out
  have hxy := HXY.out
  have hxz := HXZ.out
  have hd := HD.out
  have hlm : (mulN s (D.take x) ((D.drop x).take y) s.p).length = z := by rw [mul_len]; exact HX.out.2.2
  refine (concatW_c g 2 [⟨b, off, xy, cap, D.take xy⟩, ⟨g1, 0, z, cp1, mulN s (D.take x) ((D.drop x).take y) s.p⟩] w5 rfl (by decide) (by decide) ?r1 ?r2).mono ?_
  case r1 =>
   intro r hr
   simp only [List.mem_cons, List.not_mem_nil, or_false] at hr
   rcases hr with rfl | rfl
   ·exact ⟨(HZ2.out.take xy).ext h5, by show 1 <= xy; omega, by show xy <= 30; omega, by show (D.take xy).length = xy; rw [List.length_take]; omega⟩
   ·exact ⟨hw1, by show 1 <= z; omega, by show z <= 30; omega, hlm⟩
  case r2 =>
   intro i hi
   match i, hi with
   | 0, _ => exact hcc.1
   | 1, _ => exact hcc.2
  rintro e w6 ⟨v, rfl, ho, hx⟩
  have e1 : sumU [⟨b, off, xy, cap, D.take xy⟩, ⟨g1, 0, z, cp1, mulN s (D.take x) ((D.drop x).take y) s.p⟩] = xyz := by simp [sumU]; exact hxz
  have e2 : flatU [⟨b, off, xy, cap, D.take xy⟩, ⟨g1, 0, z, cp1, mulN s (D.take x) ((D.drop x).take y) s.p⟩] = (wholeN s D).map (Value.int .u64) := by rw [HW.out]; simp [flatU]
  rw [e1, e2] at ho
  obtain ⟨g2, cp2, rfl, _, _⟩ := ho.form (by omega)
  exact ⟨g2, cp2, rfl, owns_words ho, hx⟩
 clear HZ
 go_wp2_with fail
 go_region_held3 (fun w' => (w'.cell? ⟨gs, 0, none⟩ = some (.int .i64 s.p) /\ w'.cell? ⟨gs, 1, none⟩ = some (.int .i64 s.m) /\ w'.cell? ⟨gs, 2, none⟩ = some (.int .i64 s.k) /\ w'.cell? ⟨gs, 3, none⟩ = some (.int .i64 s.n)) /\ Ext w2 w')
  ((refine and_cell4 s0 s1 s2 s3 ?_; (repeat (first | with_reducible exact Ext.refl _ | with_reducible assumption | with_reducible refine Ext.drew ?_ | with_reducible refine Ext.alloc ?_ _ | with_reducible (apply Ext.chain; assumption))); done))
  (first
    | (go_at_call 142; refine (HM2.out _ (Ext.drew (Ext.refl _))).mono ?_; rintro e w3 ⟨g1, cp1, rfl, ho1, hx3⟩)
    | (go_at_call 141; refine (HC2.out _ g1 cp1 _ ((owns_words ho1).ext (Ext.alloc (Ext.refl _) _)) (Ext.alloc (Ext.chain hx3 (Ext.drew (Ext.refl _))) _) (two_cells (Ext.refl _))).mono ?_; rintro e w4 ⟨g2, cp2, rfl, hw2, hx4⟩))
 rename_i hh
 have hx24 : Ext w2 w4 := hh.2
 clear hh
 have HO0' : Hid _ := (Ext.owns hx24 HO0.out)
 have HW2 : Hid (WordsAt w4 g2 0 (wholeN s D)) := hw2
 clear hw2 ho1
 go_wp2_with fail
 refine (HR.out g2 0 cp2 g0 0 cp0 xyz (wholeN s D) (part0 s D) (HWL.out) ?p1 ?p2 _ HW2.out (owns_words HO0'.out)).mono ?_
 case p1 => rw [HP0.out, List.length_drop, HD.out]; have := HXZ.out; omega
 case p2 => have := HXZ.out; have := HXY.out; omega
 rintro e w5 ⟨v5, rfl, ho5, hx5⟩
 obtain ⟨g5, cp5, rfl, hg5, hg5'⟩ := ho5.form (by have := HXZ.out; omega)
 have hxV5 : Ext V w5 := hx1.trans (hx2.trans (hx24.trans hx5))
 have hb5 := hxV5.block HRV.out
 have r0 : w5.cell? ⟨w.heap.size + 1, 0, none⟩ = some (.slice none 0 0) := by rw [cell_of_row w5 _ 0 _ _ _ hb5]; rfl
 have r1 : w5.cell? ⟨w.heap.size + 1, 1, none⟩ = some (.slice none 0 0) := by rw [cell_of_row w5 _ 1 _ _ _ hb5]; rfl
 have r2 : ∀ i, w5.frozen? ⟨w.heap.size + 1, i, none⟩ = false := fun i => by unfold World.frozen?; rw [hb5]; simp
 have HH5 : Hid _ := ho5
 have HH0 : Hid _ := Ext.owns hx5 HO0'.out
 clear ho5 hb5
 have hlt : w.heap.size + 1 < V.heap.size := (Array.getElem?_eq_some_iff.1 HRV.out).1
 have hl1 := hx1.le
 have hl4 : V.heap.size <= w4.heap.size := (hx1.trans (hx2.trans hx24)).le
 have hwl := HXV.out.le
 go_wp2
 have hz : x + y + z = xyz := by rw [HXY.out, HXZ.out]
 rw [hz]
 refine bodyPost_ret (v := .agg #[.slice (some ⟨g0, 0, none⟩) xyz cp0, .slice (some ⟨g5, 0, none⟩) xyz cp5]) (by simp [results, Tryz.results97, go_sem, r0, r1]) rfl ⟨g0, cp0, g5, cp5, rfl, ?_, ?_, ?_⟩
 ·refine owns_base (ownsRow_setCell_below (ownsRow_setCell_below HH0.out ?_ _) ?_ _) ?_
  ·show w.heap.size + 1 < _; omega
  ·show w.heap.size + 1 < _; omega
  ·omega
 ·rw [HP1.out]
  refine owns_base (ownsRow_setCell_below (ownsRow_setCell_below HH5.out ?_ _) ?_ _) ?_
  ·show w.heap.size + 1 < _; omega
  ·show w.heap.size + 1 < _; omega
  ·omega
 ·refine Ext.setCell (Ext.setCell (HXV.out.trans hxV5) ?_ _) ?_ _
  ·show w.heap.size <= w.heap.size + 1; omega
  ·show w.heap.size <= w.heap.size + 1; omega
end
-- GSt
section
set_option maxRecDepth 100000
set_option maxHeartbeats 1600000
open Go.RowKit Go.Maps
theorem owns_cell {w : World} {base : Nat} {e : TypeId} {size g n cap : Nat} {xs : List Value} (h : w.ownsRow base e size (.slice (some ⟨g, 0, none⟩) n cap) n xs) {i : Nat} {v : Value} (hv : xs[i]? = some v) : w.cell? ⟨g, i, none⟩ = some v := by
 obtain ⟨hl, ⟨h1, _⟩ | ⟨g', cap', cur, he, hb, hg, hc, hm, hs, ht⟩⟩ := h
 ·simp at h1
 ·simp at he
  obtain ⟨rfl, rfl⟩ := he
  rw [cell_of_row w _ i _ _ _ hg]
  rw [<- ht] at hv
  have hi := (List.getElem?_eq_some_iff.1 hv).1
  rw [List.getElem?_take] at hv
  split at hv
  ·simpa using hv
  ·simp at hv
theorem owns_block {w : World} {base : Nat} {e : TypeId} {size : Nat} {v : Value} {n : Nat} {xs : List Value} (h : w.ownsRow base e size v n xs) {g : Nat} (hg : v.ownBlock = some g) : ∃ cur, w.heap[g]? = some (.cells cur e (0, 0)) := by
 rcases h.2 with ⟨rfl, _⟩ | ⟨g', cap', cur, rfl, _, hh, _⟩
 ·simp [lH] at hg
 ·simp [lH] at hg
  subst hg
  exact ⟨cur, hh⟩
theorem owns_lt {w : World} {base : Nat} {e : TypeId} {size : Nat} {v : Value} {n : Nat} {xs : List Value} (h : w.ownsRow base e size v n xs) {g : Nat} (hg : v.ownBlock = some g) : g < w.heap.size := by
 obtain ⟨cur, hc⟩ := owns_block h hg
 exact (Array.getElem?_eq_some_iff.1 hc).1
def lsCells (l : List LsV) : List Value := l.flatMap LsV.cells
theorem len_lsCells (l : List LsV) : (lsCells l).length = l.length * 9 := by
 induction l with
 | nil => rfl
 | cons o t ih => simp [lsCells, LsV.cells] at ih ⊢; omega
theorem lsCells_append (a b : List LsV) : lsCells (a ++ b) = lsCells a ++ lsCells b := by simp [lsCells]
theorem lsCells_at (l : List LsV) (j i : Nat) (hj : j < l.length) (hi : i < 9) : (lsCells l)[j * 9 + i]? = l[j].cells[i]? := by
 have e : l = l.take j ++ (l[j] :: l.drop (j + 1)) := by simp
 have h1 : (lsCells (l.take j)).length = j * 9 := by rw [len_lsCells]; simp; omega
 have h2 : lsCells l = lsCells (l.take j) ++ (l[j].cells ++ lsCells (l.drop (j + 1))) := by
  have h3 : lsCells (l.take j ++ (l[j] :: l.drop (j + 1))) = lsCells (l.take j) ++ (l[j].cells ++ lsCells (l.drop (j + 1))) := by
   simp only [lsCells, List.flatMap_append, List.flatMap_cons]
  rw [<- e] at h3
  exact h3
 rw [h2, List.getElem?_append_right (by omega), h1, show j * 9 + i - j * 9 = i by omega, List.getElem?_append_left (by simpa [LsV.cells] using hi)]
def LeasesAt (w : World) (lv : Value) (l : List LsV) : Prop := w.ownsRow 0 56 9 lv l.length (lsCells l)
theorem LeasesAt.ext {w w' : World} {lv : Value} {l : List LsV} (h : LeasesAt w lv l) (hx : Ext w w') : LeasesAt w' lv l := Ext.owns hx h
def ptrAt (lv : Value) : Option Nat -> Value
 | some j => match lv with
  | .slice (some a) _ _ => .pointer (some ⟨a.block, j * 9, none⟩)
  | _ => .pointer none
 | none => .pointer none
theorem LeasesAt.cells {w : World} {g n cap : Nat} {l : List LsV} (h : LeasesAt w (.slice (some ⟨g, 0, none⟩) n cap) l) (j : Nat) (hj : j < l.length) :
  w.cell? ⟨g, j * 9, none⟩ = some (.int .i64 l[j].s) /\ w.cell? ⟨g, j * 9 + 1, none⟩ = some (.int .i64 l[j].i) /\ w.cell? ⟨g, j * 9 + 2, none⟩ = some (.int .i64 l[j].kd) /\ w.cell? ⟨g, j * 9 + 3, none⟩ = some (.int .i64 l[j].m) /\ w.cell? ⟨g, j * 9 + 4, none⟩ = some (.int .i64 l[j].k) /\
  w.cell? ⟨g, j * 9 + 5, none⟩ = some (.int .i64 l[j].n) /\ w.cell? ⟨g, j * 9 + 6, none⟩ = some (.int .i64 l[j].f) /\ w.cell? ⟨g, j * 9 + 7, none⟩ = some (.int .i64 l[j].c) /\ w.cell? ⟨g, j * 9 + 8, none⟩ = some (.bool l[j].r) := by
 have hn : n = l.length := by
  rcases h.2 with ⟨h1, _⟩ | ⟨g', cap', cur, he, _⟩
  ·simp at h1
  ·simp at he; exact he.2.1
 subst hn
 have key : ∀ i v, i < 9 -> l[j].cells[i]? = some v -> w.cell? ⟨g, j * 9 + i, none⟩ = some v := fun i v hi hv => owns_cell h ((lsCells_at l j i hj hi).trans hv)
 exact ⟨key 0 _ (by omega) rfl, key 1 _ (by omega) rfl, key 2 _ (by omega) rfl, key 3 _ (by omega) rfl, key 4 _ (by omega) rfl, key 5 _ (by omega) rfl, key 6 _ (by omega) rfl, key 7 _ (by omega) rfl, key 8 _ (by omega) rfl⟩
theorem LeasesAt.form {w : World} {lv : Value} {l : List LsV} (h : LeasesAt w lv l) : lv = .slice none 0 0 /\ l = [] \/ ∃ g cap, lv = .slice (some ⟨g, 0, none⟩) l.length cap /\ l.length <= cap := by
 rcases owns_form h with ⟨h1, h2, _⟩ | ⟨g, cap, h1, _, h2, _⟩
 ·exact .inl ⟨h1, List.length_eq_zero_iff.1 h2⟩
 ·exact .inr ⟨g, cap, h1, h2⟩
theorem findIdx_at {α : Type} {p : α -> Bool} {l : List α} {j : Nat} (hj : j < l.length) (hno : ∀ x ∈ l.take j, p x = false) (h : p l[j] = true) : l.findIdx? p = some j := by
 rw [List.findIdx?_eq_some_iff_getElem]
 refine ⟨hj, h, fun i hi => ?_⟩
 have := hno l[i] (by rw [List.mem_take_iff_getElem]; exact ⟨i, by omega, rfl⟩)
 simp [this]
theorem findIdx_no {α : Type} {p : α -> Bool} {l : List α} (hno : ∀ x ∈ l, p x = false) : l.findIdx? p = none := by
 rw [List.findIdx?_eq_none_iff]
 exact hno
theorem take_no {α : Type} {p : α -> Bool} {l : List α} {j : Nat} (hj : j < l.length) (hno : ∀ x ∈ l.take j, p x = false) (h : p l[j] = false) : ∀ x ∈ l.take (j + 1), p x = false := fun x hx => by
 rw [List.take_succ_eq_append_getElem hj] at hx
 rcases List.mem_append.1 hx with h1 | h1
 ·exact hno x h1
 ·rw [List.mem_singleton.1 h1]; exact h
def isNamed (ss ii : Int) (l : LsV) : Bool := l.s == ss && l.i == ii
theorem named_c (B : Nat) (ls : List LsV) (ss ii : Int) (sv lv dv : Value) (fl : Bool) (ah : Int) (kn : Bool) (w : World) (h : DealAt w B sv lv dv fl ah kn) (hl : LeasesAt w lv ls) (hn : ls.length <= 1000) :
  Calls Tryz.prog 165 #[.pointer (some ⟨B, 0, none⟩), .int .i64 ss, .int .i64 ii] w fun e w' => e = .returned (ptrAt lv (ls.findIdx? (isNamed ss ii))) /\ Ext w w' := by
 rcases hl.form with ⟨rfl, rfl⟩ | ⟨g, cap, rfl, hcap⟩
 ·exact (named0_c B ss ii sv dv fl ah kn w h).mono fun e w' ⟨h1, h2⟩ => ⟨h1, h2 ▸ Ext.refl w⟩
 ·obtain ⟨c0, c1, _⟩ := h.cells
  have hB := h.lt
  have HL : Hid (LeasesAt w (.slice (some ⟨g, 0, none⟩) ls.length cap) ls) := hl
  clear h hl
  obtain ⟨len, hlen⟩ : ∃ len, ls.length = len := ⟨_, rfl⟩
  have HLEN : Hid (ls.length = len) := hlen
  rw [hlen] at c1 hn hcap ⊢
  clear hlen
  go_enter Tryz.func165, Tryz.ntmps165
  go_wp2
  go_loopw [14] (fun i wr => ∃ j : Nat, j <= len /\ i = .int .i64 j /\ (∀ x ∈ ls.take j, isNamed ss ii x = false) /\ Ext w wr) (fun i _ => len - (intOf i).toNat)
  case atStart => exact ⟨0, Nat.zero_le _, rfl, by simp, Ext.refl _⟩
  case round =>
   obtain ⟨j, hj, rfl, hno, hx⟩ := hrel
   have HNO : Hid (∀ x ∈ ls.take j, isNamed ss ii x = false) := hno
   have HX : Hid (Ext w wr) := hx
   have c1 := hx.cell c1
   have hB := Nat.lt_of_lt_of_le hB hx.le
   clear hno hx
   by_cases hlt : j < len
   ·have hjl : j < ls.length := by rw [HLEN.out]; exact hlt
    obtain ⟨l0, l1, l2, l3, l4, l5, l6, l7, l8⟩ := (HL.out.ext HX.out).cells j hjl
    have hgl := lG wr _ l0
    have hk0 : (0 : Int) <= (j : Int) := by omega
    have hk1 : (j : Int) < len := by omega
    by_cases his : isNamed ss ii ls[j] = true
    ·have HF : Hid (ls.findIdx? (isNamed ss ii) = some j) := findIdx_at hjl HNO.out his
     have his2 : ls[j].s = ss /\ ls[j].i = ii := by simpa [isNamed] using his
     rw [his2.1] at l0
     rw [his2.2] at l1
     clear his his2
     go_wp2
     go_ret
     exact ⟨by rw [HF.out]; rfl, HX.out.alloc _⟩
    ·have HN2 : Hid (∀ x ∈ ls.take (j + 1), isNamed ss ii x = false) := take_no hjl HNO.out (by simpa using his)
     have his2 : ¬ (ls[j].s = ss /\ ls[j].i = ii) := by simpa [isNamed] using his
     clear his
     generalize ls[j] = l at *
     go_wp2
     all_goals go_roundw
     all_goals first
      | exact ⟨j + 1, by omega, by go_num, HN2.out, HX.out.alloc _⟩
      | (simp [intOf]; omega)
   ·obtain rfl : j = len := by omega
    have HF : Hid (ls.findIdx? (isNamed ss ii) = none) := findIdx_no (by have := HNO.out; rwa [List.take_of_length_le (by rw [HLEN.out]; exact Nat.le_refl _)] at this)
    go_wp2
    go_ret
    exact ⟨by rw [HF.out]; rfl, HX.out⟩
def covers (kd m k n num : Int) (l : LsV) : Bool := (l.kd == kd && (l.m == m && (l.k == k && l.n == n))) && (decide (l.f <= num) && decide (num < l.f + l.c))
theorem leaseOf_c (B : Nat) (ls : List LsV) (kd m k n num : Int) (sv lv dv : Value) (fl : Bool) (ah : Int) (kn : Bool) (w : World) (h : DealAt w B sv lv dv fl ah kn) (hl : LeasesAt w lv ls) (hn : ls.length <= 1000) (hfc : ∀ l ∈ ls, 0 <= l.f /\ l.f <= 1000 /\ 0 <= l.c /\ l.c <= 1000) :
  Calls Tryz.prog 126 #[.pointer (some ⟨B, 0, none⟩), clsV kd m k n, .int .i64 num] w fun e w' => e = .returned (ptrAt lv (ls.findIdx? (covers kd m k n num))) /\ Ext w w' := by
 obtain ⟨c0, c1, _⟩ := h.cells
 have hB := h.lt
 have heq := fun (a b c e a' b' c' e' : Int) (w : World) => eqClass 9998 a b c e a' b' c' e' w
 have HL : Hid (LeasesAt w lv ls) := hl
 have HFC : Hid (∀ l ∈ ls, 0 <= l.f /\ l.f <= 1000 /\ 0 <= l.c /\ l.c <= 1000) := hfc
 clear h hfc
 obtain ⟨len, hlen⟩ : ∃ len, ls.length = len := ⟨_, rfl⟩
 have HLEN : Hid (ls.length = len) := hlen
 unfold clsV
 rcases hl.form with ⟨rfl, rfl⟩ | ⟨g, cap, rfl, hcap⟩
 ·clear hl
  go_enter Tryz.func126, Tryz.ntmps126
  go_wp2
  go_loopw [14] (fun i wr => i = .int .i64 0 /\ Ext w wr) (fun _ _ => 0)
  case atStart => exact ⟨rfl, (Ext.refl _).alloc _⟩
  case round =>
   obtain ⟨rfl, hx⟩ := hrel
   go_wp2
   go_ret
   exact ⟨rfl, hx⟩
 ·clear hl
  rw [hlen] at c1 hn hcap ⊢
  clear hlen
  go_enter Tryz.func126, Tryz.ntmps126
  go_wp2
  have hf := four_in (Ext.refl (w.alloc (.cells #[.int .i64 kd, .int .i64 m, .int .i64 k, .int .i64 n] 49)))
  have HXV : Hid (Ext w (w.alloc (.cells #[.int .i64 kd, .int .i64 m, .int .i64 k, .int .i64 n] 49))) := (Ext.refl w).alloc _
  generalize World.alloc w _ = V at hf HXV ⊢
  obtain ⟨d0, d1, d2, d3⟩ := hf
  have c1 := HXV.out.cell c1
  go_loopw [14] (fun i wr => ∃ j : Nat, j <= len /\ i = .int .i64 j /\ (∀ x ∈ ls.take j, covers kd m k n num x = false) /\ Ext V wr) (fun i _ => len - (intOf i).toNat)
  case atStart => exact ⟨0, Nat.zero_le _, rfl, by simp, Ext.refl _⟩
  case round =>
   obtain ⟨j, hj, rfl, hno, hx⟩ := hrel
   have HNO : Hid (∀ x ∈ ls.take j, covers kd m k n num x = false) := hno
   have HX : Hid (Ext w wr) := HXV.out.trans hx
   have HX2 : Hid (Ext V wr) := hx
   have c1 := hx.cell c1
   have d0 := hx.cell d0
   have d1 := hx.cell d1
   have d2 := hx.cell d2
   have d3 := hx.cell d3
   have hcl := lG wr _ d0
   have hB := Nat.lt_of_lt_of_le hB HX.out.le
   clear hno hx
   by_cases hlt : j < len
   ·have hjl : j < ls.length := by rw [HLEN.out]; exact hlt
    obtain ⟨l0, l1, l2, l3, l4, l5, l6, l7, l8⟩ := (HL.out.ext HX.out).cells j hjl
    have hgl := lG wr _ l0
    obtain ⟨hf0, hf1, hcc0, hcc1⟩ := HFC.out ls[j] (List.getElem_mem hjl)
    have hk0 : (0 : Int) <= (j : Int) := by omega
    have hk1 : (j : Int) < len := by omega
    by_cases his : covers kd m k n num ls[j] = true
    ·have HF : Hid (ls.findIdx? (covers kd m k n num) = some j) := findIdx_at hjl HNO.out his
     have his2 : (ls[j].kd = kd /\ ls[j].m = m /\ ls[j].k = k /\ ls[j].n = n) /\ ls[j].f <= num /\ num < ls[j].f + ls[j].c := by simpa [covers] using his
     obtain ⟨⟨e1, e2, e3, e4⟩, e5, e6⟩ := his2
     rw [e1] at l2
     rw [e2] at l3
     rw [e3] at l4
     rw [e4] at l5
     clear his e1 e2 e3 e4
     generalize ls[j] = l at *
     go_wp2
     go_ret
     exact ⟨by rw [HF.out]; rfl, HX.out.alloc _⟩
    ·have HN2 : Hid (∀ x ∈ ls.take (j + 1), covers kd m k n num x = false) := take_no hjl HNO.out (by simpa using his)
     have HNC : Hid (¬ ((ls[j].kd = kd /\ ls[j].m = m /\ ls[j].k = k /\ ls[j].n = n) /\ ls[j].f <= num /\ num < ls[j].f + ls[j].c)) := by
      have his2 : ¬ ((ls[j].kd = kd /\ ls[j].m = m /\ ls[j].k = k /\ ls[j].n = n) /\ ls[j].f <= num /\ num < ls[j].f + ls[j].c) := by simpa [covers] using his
      exact his2
     clear his
     generalize ls[j] = l at *
     go_wp2
     any_goals (refine absurd ⟨?_, ?_, ?_⟩ HNC.out <;> assumption)
     all_goals go_roundw
     all_goals first
      | exact ⟨j + 1, by omega, by go_num, HN2.out, HX2.out.alloc _⟩
      | (simp [intOf]; omega)
   ·obtain rfl : j = len := by omega
    have HF : Hid (ls.findIdx? (covers kd m k n num) = none) := findIdx_no (by have := HNO.out; rwa [List.take_of_length_le (by rw [HLEN.out]; exact Nat.le_refl _)] at this)
    go_wp2
    go_ret
    exact ⟨by rw [HF.out]; rfl, HX.out⟩
end
-- GStk
section
open Go.RowKit Go.Maps
theorem WordsAt.turn {S : Nat -> Prop} {w w' : World} {b off : Nat} {zs : List Int} (h : WordsAt w b off zs) (ht : Turn S w w') (hs : ¬ S b) : WordsAt w' b off zs := fun i hi => ht.cell (h i hi) hs
def WordsU (w : World) (b : Nat) (zs : List Int) : Prop := WordsAt w b 0 zs /\ ∃ cur, w.heap[b]? = some (.cells cur 146 (0, 0))
theorem WordsU.turn {S : Nat -> Prop} {w w' : World} {b : Nat} {zs : List Int} (h : WordsU w b zs) (ht : Turn S w w') (hs : ¬ S b) : WordsU w' b zs := ⟨h.1.turn ht hs, h.2.elim fun cur hc => ⟨cur, ht.ref hc hs⟩⟩
theorem owns_wordsU {w : World} {base g cap n : Nat} {zs : List Int} (h : w.ownsRow base 146 1 (.slice (some ⟨g, 0, none⟩) n cap) n (zs.map (Value.int .u64))) : WordsU w g zs := by
 obtain ⟨cur, hc⟩ := owns_block h (g := g) rfl
 exact ⟨owns_words h, cur, hc⟩
def heldElem (v : Value) : Option (DataW Value × List MemPlace) := some (.held v, [])
theorem made_at {w : World} {b : Nat} (h : w.heap[b]? = some (.map #[] 0)) : w.ownsMap Tryz.prog 3 heldElem b 0 (.map []) :=
 ⟨#[], 0, h, ⟨by simp, Go.MapKept.stamped_empty 0, by simp⟩, Nat.le_refl _, rfl⟩
theorem DealAt.mne {w : World} {B : Nat} {sv lv dv : Value} {fl : Bool} {ah : Int} {kn : Bool} (h : DealAt w B sv lv dv fl ah kn) {b n : Nat} {D : DataW Value} (hb : w.ownsMap Tryz.prog 3 heldElem b n D) : B ≠ b := fun e => by
 subst e
 obtain ⟨t, _, h⟩ := h.ex
 obtain ⟨es, clock, h1, _⟩ := hb
 rw [h] at h1
 simp at h1
theorem keyInt : Keyed Tryz.prog 3 := int_keyed Tryz.underlying3
theorem map_turn {S : Nat -> Prop} {w w' : World} {mb n : Nat} {D : DataW Value} (h : w.ownsMap Tryz.prog 3 heldElem mb n D) (ht : Turn S w w') (hs : ¬ S mb) : w'.ownsMap Tryz.prog 3 heldElem mb n D := by
 obtain ⟨es, clock, h1, h2⟩ := h
 exact ⟨es, clock, ht.ref h1 hs, h2⟩
def inU64 (zs : List Int) : Prop := ∀ z ∈ zs, 0 <= z /\ z <= 18446744073709551615
def shOf (kd m k n : Nat) : Sh := if kd = 2 then ⟨true, m, 1, 1, 1⟩ else ⟨false, 1, m, k, n⟩
theorem shOf_of {kd m k n : Nat} (h : isCls kd m k n = true) : ofCls kd m k n (shOf kd m k n) /\ (shOf kd m k n).ok := by
 obtain ⟨s, hc, hs⟩ := ofCls.mk h
 have e : shOf kd m k n = s := by
  rcases hc with ⟨rfl, rfl, rfl, rfl⟩ | ⟨hk, rfl⟩
  ·simp [shOf]
  ·simp [shOf]; omega
 rw [e]
 exact ⟨hc, hs⟩
structure StkR where
 blk : Nat
 mb : Nat
 kd : Nat
 m : Nat
 k : Nat
 n : Nat
 ts : List (List Int × Bool)
 leased : Nat
def StkR.sh (x : StkR) : Sh := shOf x.kd x.m x.k x.n
def StkR.v (x : StkR) : StkV := ⟨x.blk, x.kd, x.m, x.k, x.n⟩
def StkR.row (x : StkR) : Array Value := #[.int .i64 x.kd, .int .i64 x.m, .int .i64 x.k, .int .i64 x.n, .int .i64 x.ts.length, .int .i64 x.leased, .map (some x.mb)]
def sh0 (s : Sh) (D : List Int) : List Int := if D.length = 2 * (s.x + s.y + s.z) then D.take (s.x + s.y + s.z) else part0 s D
def sh1 (s : Sh) (D : List Int) : List Int := if D.length = 2 * (s.x + s.y + s.z) then D.drop (s.x + s.y + s.z) else part1 s D
def OkT (s : Sh) (u : List Int × Bool) : Prop := u.2 = true -> (sh0 s u.1).length = s.x + s.y + s.z /\ (sh1 s u.1).length = s.x + s.y + s.z /\ inU64 (sh0 s u.1) /\ inU64 (sh1 s u.1)
def SharesAt (w : World) (F : Nat -> Prop) (s : Sh) (D : List Int) (v : Value) : Prop :=
 ∃ a0 c0 a1 c1, v = .agg #[.slice (some ⟨a0, 0, none⟩) (s.x + s.y + s.z) c0, .slice (some ⟨a1, 0, none⟩) (s.x + s.y + s.z) c1] /\ WordsU w a0 (sh0 s D) /\ WordsU w a1 (sh1 s D) /\ F a0 /\ F a1
theorem SharesAt.turn {S F : Nat -> Prop} {w w' : World} {s : Sh} {D : List Int} {v : Value} (h : SharesAt w F s D v) (ht : Turn S w w') (hs : ∀ b, F b -> ¬ S b) : SharesAt w' F s D v := by
 obtain ⟨a0, c0, a1, c1, h1, h2, h3, h4, h5⟩ := h
 exact ⟨a0, c0, a1, c1, h1, h2.turn ht (hs _ h4), h3.turn ht (hs _ h5), h4, h5⟩
theorem SharesAt.mono {F F' : Nat -> Prop} {w : World} {s : Sh} {D : List Int} {v : Value} (h : SharesAt w F s D v) (hf : ∀ b, F b -> F' b) : SharesAt w F' s D v := by
 obtain ⟨a0, c0, a1, c1, h1, h2, h3, h4, h5⟩ := h
 exact ⟨a0, c0, a1, c1, h1, h2, h3, hf _ h4, hf _ h5⟩
def noShares : DataW Value := .held (.agg #[.slice none 0 0, .slice none 0 0])
def Kept (w : World) (F : Nat -> Prop) (s : Sh) (ts : List (List Int × Bool)) (D : DataW Value) : Prop :=
 Maps.size D = (ts.filter (·.2)).length /\ (∀ i : Nat, has D (.int .i64 i) = (ts[i]?.map (·.2)).getD false) /\ ∀ i (h : i < ts.length), ts[i].2 = true -> ∃ v, D.atKey (.int .i64 i) noShares = .held v /\ SharesAt w F s ts[i].1 v
structure StkAt (w : World) (F : Nat -> Prop) (x : StkR) : Prop where
 blk : w.heap[x.blk]? = some (.cells x.row 154 (0, 0))
 map : ∃ D, w.ownsMap Tryz.prog 3 heldElem x.mb x.ts.length D /\ Kept w F x.sh x.ts D
 fb : F x.blk
 fm : F x.mb
theorem Kept.turn {S F : Nat -> Prop} {w w' : World} {s : Sh} {ts : List (List Int × Bool)} {D : DataW Value} (h : Kept w F s ts D) (ht : Turn S w w') (hs : ∀ b, F b -> ¬ S b) : Kept w' F s ts D :=
 ⟨h.1, h.2.1, fun i hi hk => let ⟨v, h1, h2⟩ := h.2.2 i hi hk; ⟨v, h1, h2.turn ht hs⟩⟩
theorem Kept.mono {F F' : Nat -> Prop} {w : World} {s : Sh} {ts : List (List Int × Bool)} {D : DataW Value} (h : Kept w F s ts D) (hf : ∀ b, F b -> F' b) : Kept w F' s ts D :=
 ⟨h.1, h.2.1, fun i hi hk => let ⟨v, h1, h2⟩ := h.2.2 i hi hk; ⟨v, h1, h2.mono hf⟩⟩
theorem StkAt.turn {S F : Nat -> Prop} {w w' : World} {x : StkR} (h : StkAt w F x) (ht : Turn S w w') (hs : ∀ b, F b -> ¬ S b) : StkAt w' F x :=
 ⟨ht.ref h.blk (hs _ h.fb), let ⟨D, h1, h2⟩ := h.map; ⟨D, map_turn h1 ht (hs _ h.fm), h2.turn ht hs⟩, h.fb, h.fm⟩
theorem StkAt.mono {F F' : Nat -> Prop} {w : World} {x : StkR} (h : StkAt w F x) (hf : ∀ b, F b -> F' b) : StkAt w F' x :=
 ⟨h.blk, let ⟨D, h1, h2⟩ := h.map; ⟨D, h1, h2.mono hf⟩, hf _ h.fb, hf _ h.fm⟩
def OpsAt (w : World) (dv : Value) (ops : List OpV) : Prop := w.ownsRow 0 134 4 dv ops.length (opCells ops)
def stkPtrs (R : List StkR) : List Value := R.map fun x => .pointer (some ⟨x.blk, 0, none⟩)
structure StoreOf (w : World) (B : Nat) (F : Nat -> Prop) (sv lv dv : Value) (R : List StkR) (ls : List LsV) (ops : List OpV) (fl : Bool) (ah : Int) (kn : Bool) : Prop where
 deal : DealAt w B sv lv dv fl ah kn
 srow : w.ownsRow 0 151 1 sv R.length (stkPtrs R)
 lrow : LeasesAt w lv ls
 orow : OpsAt w dv ops
 stk : ∀ x ∈ R, StkAt w F x
 nb : (R.map (·.blk)).Nodup
 nm : (R.map (·.mb)).Nodup
 fB : F B
 fs : ∀ q, sv.ownBlock = some q -> F q
 fl' : ∀ q, lv.ownBlock = some q -> F q
 fd : ∀ q, dv.ownBlock = some q -> F q
 lt : ∀ b, F b -> b < w.heap.size
 lnil : lv = .slice none 0 0 \/ 1 <= ls.length
 dnil : dv = .slice none 0 0 \/ 1 <= ops.length
theorem StoreOf.turn {S F : Nat -> Prop} {w w' : World} {B : Nat} {sv lv dv : Value} {R : List StkR} {ls : List LsV} {ops : List OpV} {fl : Bool} {ah : Int} {kn : Bool} (h : StoreOf w B F sv lv dv R ls ops fl ah kn) (ht : Turn S w w') (hs : ∀ b, F b -> ¬ S b) : StoreOf w' B F sv lv dv R ls ops fl ah kn where
 deal := h.deal.turn ht (hs _ h.fB)
 srow := ht.owns h.srow (fun k hk => hs _ (h.fs k hk))
 lrow := ht.owns h.lrow (fun k hk => hs _ (h.fl' k hk))
 orow := ht.owns h.orow (fun k hk => hs _ (h.fd k hk))
 stk := fun x hx => (h.stk x hx).turn ht hs
 nb := h.nb
 nm := h.nm
 fB := h.fB
 fs := h.fs
 fl' := h.fl'
 fd := h.fd
 lt := fun b hb => Nat.lt_of_lt_of_le (h.lt b hb) ht.size
 lnil := h.lnil
 dnil := h.dnil
theorem StoreOf.ext {F : Nat -> Prop} {w w' : World} {B : Nat} {sv lv dv : Value} {R : List StkR} {ls : List LsV} {ops : List OpV} {fl : Bool} {ah : Int} {kn : Bool} (h : StoreOf w B F sv lv dv R ls ops fl ah kn) (hx : Ext w w') : StoreOf w' B F sv lv dv R ls ops fl ah kn :=
 h.turn (S := fun _ => False) (Turn.of_ext hx) (fun _ _ => id)
theorem StoreOf.found {F : Nat -> Prop} {w : World} {B : Nat} {sv lv dv : Value} {R : List StkR} {ls : List LsV} {ops : List OpV} {fl : Bool} {ah : Int} {kn : Bool} (h : StoreOf w B F sv lv dv R ls ops fl ah kn) : StocksAt w sv (R.map StkR.v) := by
 refine ⟨?_, fun s hs => ?_⟩
 ·rcases owns_form h.srow with ⟨h1, h2, _⟩ | ⟨g, cap, h1, _, _, _⟩
  ·exact .inl ⟨h1, by rw [List.length_eq_zero_iff.1 h2]; rfl⟩
  ·refine .inr ⟨g, cap, by simpa using h1, fun i hi => ?_⟩
   have hs := h.srow
   rw [h1] at hs
   refine owns_cell hs ?_
   simp at hi
   simp [stkPtrs, StkR.v, hi]
 ·obtain ⟨x, hx, rfl⟩ := List.mem_map.1 hs
  have hb := (h.stk x hx).blk
  refine ⟨?_, ?_, ?_, ?_⟩
  ·exact (cell_of_row w x.blk 0 _ _ _ hb).trans rfl
  ·exact (cell_of_row w x.blk 1 _ _ _ hb).trans rfl
  ·exact (cell_of_row w x.blk 2 _ _ _ hb).trans rfl
  ·exact (cell_of_row w x.blk 3 _ _ _ hb).trans rfl
def StkR.is (x : StkR) (kd m k n : Int) : Bool := x.v.is kd m k n
def stkPtr (R : List StkR) (kd m k n : Int) : Value := match R.find? (fun x => x.is kd m k n) with | some x => .pointer (some ⟨x.blk, 0, none⟩) | none => .pointer none
theorem foundV_eq (R : List StkR) (kd m k n : Int) : foundV (R.map StkR.v) kd m k n = stkPtr R kd m k n := by
 unfold foundV stkPtr
 rw [List.find?_map]
 show (match Option.map StkR.v (R.find? fun x => x.is kd m k n) with | some s => _ | none => _) = _
 cases R.find? (fun x => x.is kd m k n) <;> rfl
theorem findR_c {F : Nat -> Prop} {B : Nat} {sv lv dv : Value} {R : List StkR} {ls : List LsV} {ops : List OpV} {fl : Bool} {ah : Int} {kn : Bool} (kd m k n : Int) (hR : R.length <= 100) (w : World) (h : StoreOf w B F sv lv dv R ls ops fl ah kn) :
  Calls Tryz.prog 168 #[.pointer (some ⟨B, 0, none⟩), clsV kd m k n] w fun e w' => e = .returned (stkPtr R kd m k n) /\ Ext w w' := by
 rw [<- foundV_eq]
 exact find_c B _ kd m k n sv lv dv fl ah kn w h.deal h.found (by simpa using hR)
def grow (F : Nat -> Prop) (w w' : World) : Nat -> Prop := fun b => F b \/ w.heap.size <= b /\ b < w'.heap.size
end
-- GMk
section
set_option maxRecDepth 100000
set_option maxHeartbeats 1600000
open Go.RowKit Go.Maps
theorem owns_slice {w : World} {base : Nat} {e : TypeId} {size : Nat} {v : Value} {n : Nat} {xs : List Value} (h : w.ownsRow base e size v n xs) : ∃ a cap, v = .slice a n cap := by
 rcases owns_form h with ⟨h1, h2, _⟩ | ⟨gs, cs, h1, _⟩
 ·exact ⟨none, 0, by rw [h1, h2]⟩
 ·exact ⟨some ⟨gs, 0, none⟩, cs, h1⟩
theorem type_ne {w : World} {a b : Nat} {c d : Array Value} {t u : TypeId} (ha : w.heap[a]? = some (.cells c t (0, 0))) (hb : w.heap[b]? = some (.cells d u (0, 0))) (h : t ≠ u) : a ≠ b := fun e => by
 subst e
 rw [ha] at hb
 simp at hb
 exact h hb.2
theorem map_ne {w : World} {a b n : Nat} {c : Array Value} {t : TypeId} {D : DataW Value} (ha : w.heap[a]? = some (.cells c t (0, 0))) (hb : w.ownsMap Tryz.prog 3 heldElem b n D) : a ≠ b := fun e => by
 subst e
 obtain ⟨es, clock, h1, _⟩ := hb
 rw [ha] at h1
 simp at h1
theorem SharesAt.turn' {S F : Nat -> Prop} {w w' : World} {s : Sh} {D : List Int} {v : Value} (h : SharesAt w F s D v) (ht : Turn S w w') (hs : ∀ b cur, w.heap[b]? = some (.cells cur 146 (0, 0)) -> ¬ S b) : SharesAt w' F s D v := by
 obtain ⟨a0, c0, a1, c1, h1, h2, h3, h4, h5⟩ := h
 exact ⟨a0, c0, a1, c1, h1, h2.turn ht (let ⟨_, hc⟩ := h2.2; hs _ _ hc), h3.turn ht (let ⟨_, hc⟩ := h3.2; hs _ _ hc), h4, h5⟩
theorem Kept.turn' {S F : Nat -> Prop} {w w' : World} {s : Sh} {ts : List (List Int × Bool)} {D : DataW Value} (h : Kept w F s ts D) (ht : Turn S w w') (hs : ∀ b cur, w.heap[b]? = some (.cells cur 146 (0, 0)) -> ¬ S b) : Kept w' F s ts D :=
 ⟨h.1, h.2.1, fun i hi hk => let ⟨v, h1, h2⟩ := h.2.2 i hi hk; ⟨v, h1, h2.turn' ht hs⟩⟩
theorem StkAt.turn' {S F : Nat -> Prop} {w w' : World} {x : StkR} (h : StkAt w F x) (ht : Turn S w w') (hb : ¬ S x.blk) (hm : ¬ S x.mb) (hs : ∀ b cur, w.heap[b]? = some (.cells cur 146 (0, 0)) -> ¬ S b) : StkAt w' F x :=
 ⟨ht.ref h.blk hb, let ⟨D, h1, h2⟩ := h.map; ⟨D, map_turn h1 ht hm, h2.turn' ht hs⟩, h.fb, h.fm⟩
section
variable {w : World} {B : Nat} {F : Nat -> Prop} {sv lv dv : Value} {R : List StkR} {ls : List LsV} {ops : List OpV} {fl : Bool} {ah : Int} {kn : Bool}
theorem nodup_idx {α : Type} {f : StkR -> α} {R : List StkR} (h : (R.map f).Nodup) {i j : Nat} (hi : i < R.length) (hj : j < R.length) (hne : j ≠ i) : f R[j] ≠ f R[i] := fun e => by
 have hp := List.pairwise_iff_getElem.1 h
 rcases Nat.lt_or_gt_of_ne hne with h1 | h1
 ·exact hp j i (by simpa using hj) (by simpa using hi) h1 (by simpa using e)
 ·exact hp i j (by simpa using hi) (by simpa using hj) h1 (by simpa using e.symm)
theorem map_set_same {α : Type} {f : StkR -> α} {R : List StkR} {i : Nat} (hi : i < R.length) {v : α} (hv : v = f R[i]) : (R.map f).set i v = R.map f := by
 apply List.ext_getElem (by simp)
 intro k h1 h2
 rw [List.getElem_set]
 split
 ·rename_i e
  subst e
  simp [hv]
 ·rfl
theorem StoreOf.setStk {w3 : World} (h : StoreOf w B F sv lv dv R ls ops fl ah kn) (i : Nat) (hi : i < R.length) (x' : StkR) (hb : x'.blk = R[i].blk) (hm : x'.mb = R[i].mb) (ht : Turn (fun b => b = R[i].blk \/ b = R[i].mb) w w3) (hx : StkAt w3 F x') :
  StoreOf w3 B F sv lv dv (R.set i x') ls ops fl ah kn := by
 have hxi := h.stk R[i] (List.getElem_mem hi)
 obtain ⟨D, hmap, _⟩ := hxi.map
 have far : ∀ b cur t, w.heap[b]? = some (.cells cur t (0, 0)) -> t ≠ 154 -> ¬ (b = R[i].blk \/ b = R[i].mb) := fun b cur t hc hne hor => by
  rcases hor with e | e
  ·exact type_ne hc hxi.blk hne e
  ·exact map_ne hc hmap e
 have farR : ∀ {base : Nat} {e : TypeId} {size n : Nat} {v : Value} {xs : List Value}, w.ownsRow base e size v n xs -> e ≠ 154 -> ∀ q, v.ownBlock = some q -> ¬ (q = R[i].blk \/ q = R[i].mb) := fun ho hne q hq =>
  let ⟨cur, hc⟩ := owns_block ho hq; far q cur _ hc hne
 have eb : (R.set i x').map (·.blk) = R.map (·.blk) := by
  rw [List.map_set]
  exact map_set_same hi hb
 have em : (R.set i x').map (·.mb) = R.map (·.mb) := by
  rw [List.map_set]
  exact map_set_same hi hm
 have es : stkPtrs (R.set i x') = stkPtrs R := by
  have : ∀ R : List StkR, stkPtrs R = (R.map (·.blk)).map (fun b => Value.pointer (some ⟨b, 0, none⟩)) := fun R => by simp [stkPtrs]
  rw [this, this, eb]
 refine ⟨h.deal.turn ht (fun hor => hor.elim (fun e => h.deal.tne hxi.blk (by decide) e.symm) (fun e => h.deal.mne hmap e)), ?_, ht.owns h.lrow (farR h.lrow (by decide)), ht.owns h.orow (farR h.orow (by decide)), fun y hy => ?_, by rw [eb]; exact h.nb, by rw [em]; exact h.nm, h.fB, h.fs, h.fl', h.fd, fun b hb => Nat.lt_of_lt_of_le (h.lt b hb) ht.size, h.lnil, h.dnil⟩
 ·rw [es, List.length_set]
  exact ht.owns h.srow (farR h.srow (by decide))
 ·obtain ⟨j, hj, rfl⟩ := List.getElem_of_mem hy
  rw [List.length_set] at hj
  by_cases e : j = i
  ·subst e
   simpa using hx
  ·rw [List.getElem_set_ne (Ne.symm e)]
   have hy := h.stk R[j] (List.getElem_mem hj)
   refine hy.turn' ht (fun hor => ?_) (fun hor => ?_) (fun b cur hc => far b cur _ hc (by decide))
   ·rcases hor with e1 | e1
    ·exact nodup_idx h.nb hi hj e e1
    ·exact map_ne hy.blk hmap e1
   ·rcases hor with e1 | e1
    ·obtain ⟨D2, hm2, _⟩ := hy.map
     exact map_ne hxi.blk hm2 e1.symm
    ·exact nodup_idx h.nm hi hj e e1
end
section
variable {B : Nat} {F : Nat -> Prop} {sv lv dv : Value} {R : List StkR} {ls : List LsV} {ops : List OpV} {fl : Bool} {ah : Int} {kn : Bool}
theorem makingAgainst_c (kd m k n : Int) (tv : Option Addr) (t tcap : Nat) (ht : t <= 1000) (hR : R.length <= 100) (hRm : ∀ x ∈ R, x.ts.length <= 1000) (w : World) (h : StoreOf w B F sv lv dv R ls ops fl ah kn) :
  Calls Tryz.prog 206 #[.agg #[.int .i64 kd, .int .i64 m, .int .i64 k, .int .i64 n, .slice tv t tcap], .pointer (some ⟨B, 0, none⟩)] w fun e w' =>
   e = .returned (.int .i64 (match R.find? (fun x => x.is kd m k n) with | some x => if 200 < x.ts.length + t then 4 else 0 | none => if 6 <= R.length \/ 200 < t then 4 else 0)) /\ Ext w w' := by
 have HF : Hid (∀ w', Ext w w' -> _) := fun w' hx => findR_c kd m k n hR w' (h.ext hx)
 unfold clsV at HF
 obtain ⟨c0, _⟩ := h.deal.cells
 have hB := h.deal.lt
 have HS : Hid _ := h
 obtain ⟨sa, scap, hsv⟩ := owns_slice h.srow
 subst hsv
 clear h
 cases hf : R.find? (fun x => x.is kd m k n) with
 | none =>
  have hp : stkPtr R kd m k n = .pointer none := by rw [stkPtr, hf]
  rw [hp] at HF
  clear hp hf
  simp only
  obtain ⟨cd, hcd⟩ : ∃ cd : Int, cd = (if 6 <= R.length \/ 200 < t then 4 else 0) := ⟨_, rfl⟩
  rw [<- hcd]
  have HCd : Hid (cd = (if 6 <= R.length \/ 200 < t then 4 else 0)) := hcd
  clear hcd
  go_enter Tryz.func206, Tryz.ntmps206
  go_wp2_with fail
  refine (HF.out _ ((Ext.refl w).alloc _)).mono ?_
  rintro e w1 ⟨rfl, hx1⟩
  have HX1 : Hid (Ext w w1) := ((Ext.refl w).alloc _).trans hx1
  have c0' := HX1.out.cell c0
  have m4 := cell_in hx1 4 rfl
  clear hx1 c0
  go_wp2
  all_goals go_ret
  all_goals refine ⟨?_, HX1.out⟩
  all_goals rw [HCd.out]
  all_goals split
  all_goals first | rfl | (exfalso; omega)
 | some x =>
  have hp : stkPtr R kd m k n = .pointer (some ⟨x.blk, 0, none⟩) := by rw [stkPtr, hf]
  rw [hp] at HF
  have hxR : x ∈ R := List.mem_of_find?_eq_some hf
  have hb4 := (HS.out.stk x hxR).blk
  have k4 : w.cell? ⟨x.blk, 4, none⟩ = some (.int .i64 x.ts.length) := (cell_of_row w x.blk 4 _ _ _ hb4).trans rfl
  have hbl := lG w _ k4
  have hmx := hRm x hxR
  clear hp hf hb4
  simp only
  generalize x.ts.length = tl at *
  generalize x.blk = blk at *
  clear HS hxR
  obtain ⟨cd, hcd⟩ : ∃ cd : Int, cd = (if 200 < tl + t then 4 else 0) := ⟨_, rfl⟩
  rw [<- hcd]
  have HCd : Hid (cd = (if 200 < tl + t then 4 else 0)) := hcd
  clear hcd
  go_enter Tryz.func206, Tryz.ntmps206
  go_wp2_with fail
  refine (HF.out _ ((Ext.refl w).alloc _)).mono ?_
  rintro e w1 ⟨rfl, hx1⟩
  have HX1 : Hid (Ext w w1) := ((Ext.refl w).alloc _).trans hx1
  have c0' := HX1.out.cell c0
  have k4' := HX1.out.cell k4
  have m4 := cell_in hx1 4 rfl
  clear hx1 c0 k4
  go_wp2
  all_goals go_ret
  all_goals refine ⟨?_, HX1.out⟩
  all_goals rw [HCd.out]
  all_goals split
  all_goals first | rfl | (exfalso; omega)
end
end
-- GFor
section
set_option maxRecDepth 100000
set_option maxHeartbeats 1600000
open Go.RowKit Go.Maps
section
variable {B : Nat} {F : Nat -> Prop} {sv lv dv : Value} {R : List StkR} {ls : List LsV} {ops : List OpV} {fl : Bool} {ah : Int} {kn : Bool}
theorem StoreOf.addStk {w w3 : World} {gk mb gs cs : Nat} {kd m k n : Nat} (h : StoreOf w B F sv lv dv R ls ops fl ah kn)
  (ht : Turn (fun b => b = B \/ sv.ownBlock = some b) w w3) (hd : DealAt w3 B (.slice (some ⟨gs, 0, none⟩) (R.length + 1) cs) lv dv fl ah kn)
  (hs : w3.ownsRow 0 151 1 (.slice (some ⟨gs, 0, none⟩) (R.length + 1) cs) (R.length + 1) (stkPtrs R ++ [.pointer (some ⟨gk, 0, none⟩)]))
  (hk : w3.heap[gk]? = some (.cells #[.int .i64 kd, .int .i64 m, .int .i64 k, .int .i64 n, .int .i64 0, .int .i64 0, .map (some mb)] 154 (0, 0))) (hm : w3.heap[mb]? = some (.map #[] 0))
  (hgk : w.heap.size <= gk) (hmb : w.heap.size <= mb) (hgs : sv.ownBlock = some gs \/ w.heap.size <= gs) :
  StoreOf w3 B (grow F w w3) (.slice (some ⟨gs, 0, none⟩) (R.length + 1) cs) lv dv (R ++ [⟨gk, mb, kd, m, k, n, [], 0⟩]) ls ops fl ah kn := by
 have hfar : ∀ b cur t, w.heap[b]? = some (.cells cur t (0, 0)) -> t ≠ 114 /\ t ≠ 112 -> t ≠ 151 -> ¬ (b = B \/ sv.ownBlock = some b) := fun b cur t hc h1 h2 hor => by
  rcases hor with e | e
  ·exact h.deal.tne hc h1 e
  ·obtain ⟨cur', hc'⟩ := owns_block h.srow e
   exact type_ne hc hc' h2 rfl
 have hfm : ∀ b D n, w.ownsMap Tryz.prog 3 heldElem b n D -> ¬ (b = B \/ sv.ownBlock = some b) := fun b D n hc hor => by
  rcases hor with e | e
  ·exact h.deal.mne hc e.symm
  ·obtain ⟨cur', hc'⟩ := owns_block h.srow e
   exact map_ne hc' hc rfl
 have hg : ∀ b, F b -> grow F w w3 b := fun b hb => .inl hb
 have ltn : ∀ {b : Nat} {o : Obj}, w3.heap[b]? = some o -> b < w3.heap.size := fun hb => (Array.getElem?_eq_some_iff.1 hb).1
 have old : ∀ x ∈ R, x.blk < w.heap.size /\ x.mb < w.heap.size := fun x hx => ⟨h.lt _ (h.stk x hx).fb, h.lt _ (h.stk x hx).fm⟩
 refine ⟨hd, ?_, ht.owns h.lrow (fun q hq => let ⟨cur, hc⟩ := owns_block h.lrow hq; hfar q cur _ hc (by decide) (by decide)), ht.owns h.orow (fun q hq => let ⟨cur, hc⟩ := owns_block h.orow hq; hfar q cur _ hc (by decide) (by decide)), ?_, ?_, ?_, .inl h.fB, ?_, fun q hq => .inl (h.fl' q hq), fun q hq => .inl (h.fd q hq), ?_, h.lnil, h.dnil⟩
 ·have e : stkPtrs (R ++ [⟨gk, mb, kd, m, k, n, [], 0⟩]) = stkPtrs R ++ [.pointer (some ⟨gk, 0, none⟩)] := by simp [stkPtrs]
  rw [e, List.length_append]
  exact hs
 ·intro y hy
  rcases List.mem_append.1 hy with hy | hy
  ·have hyk := h.stk y hy
   obtain ⟨D, hD, _⟩ := hyk.map
   exact (hyk.turn' ht (hfar _ _ _ hyk.blk (by decide) (by decide)) (hfm _ _ _ hD) (fun b cur hc => hfar b cur _ hc (by decide) (by decide))).mono hg
  ·rw [List.mem_singleton.1 hy]
   refine ⟨hk, ⟨.map [], made_at hm, ⟨rfl, fun i => by simp [has], fun i hi => by simp at hi⟩⟩, .inr ⟨hgk, ltn hk⟩, .inr ⟨hmb, ltn hm⟩⟩
 ·rw [List.map_append, List.nodup_append]
  refine ⟨h.nb, by simp, ?_⟩
  intro a ha b hb
  obtain ⟨x, hx, rfl⟩ := List.mem_map.1 ha
  simp at hb
  have := (old x hx).1
  omega
 ·rw [List.map_append, List.nodup_append]
  refine ⟨h.nm, by simp, ?_⟩
  intro a ha b hb
  obtain ⟨x, hx, rfl⟩ := List.mem_map.1 ha
  simp at hb
  have := (old x hx).2
  omega
 ·intro q hq
  simp [lH] at hq
  subst hq
  rcases hgs with e | e
  ·exact .inl (h.fs _ e)
  ·exact .inr ⟨e, by obtain ⟨cur, hc⟩ := owns_block hs (g := gs) rfl; exact ltn hc⟩
 ·intro b hb
  rcases hb with hb | hb
  ·exact Nat.lt_of_lt_of_le (h.lt b hb) ht.size
  ·exact hb.2
theorem stockNew_c (kd m k n : Nat) (hR : R.length <= 100) (hf : R.find? (fun x => x.is kd m k n) = none) (w : World) (h : StoreOf w B F sv lv dv R ls ops fl ah kn) :
  Calls Tryz.prog 208 #[.pointer (some ⟨B, 0, none⟩), clsV kd m k n] w fun e w' => ∃ gk mb sv', e = .returned (.pointer (some ⟨gk, 0, none⟩)) /\ StoreOf w' B (grow F w w') sv' lv dv (R ++ [⟨gk, mb, kd, m, k, n, [], 0⟩]) ls ops fl ah kn /\ Turn (fun b => b = B \/ sv.ownBlock = some b) w w' := by
 have HF : Hid (∀ w', Ext w w' -> Calls Tryz.prog 168 #[.pointer (some ⟨B, 0, none⟩), .agg #[.int .i64 (kd : Int), .int .i64 m, .int .i64 k, .int .i64 n]] w' fun e w'' => e = .returned (.pointer none) /\ Ext w' w'') := fun w' hx => by
  have := findR_c kd m k n hR w' (h.ext hx)
  rwa [stkPtr, hf] at this
 have HS : Hid _ := h
 unfold clsV
 clear h hf
 obtain ⟨i0, hi, hz0, hz1, hz2⟩ := info_parts infoPStock
 go_enter Tryz.func208, Tryz.ntmps208
 go_wp2_with fail
 refine (HF.out _ ((Ext.refl w).alloc _)).mono ?_
 rintro e w1 ⟨rfl, hx1⟩
 obtain ⟨d0, d1, d2, d3⟩ := four_in hx1
 have HX1 : Hid (Ext w w1) := ((Ext.refl w).alloc _).trans hx1
 have hS1 := HS.out.ext HX1.out
 have HS1 : Hid _ := hS1
 obtain ⟨c0', _⟩ := hS1.deal.cells
 have hB1 := hS1.deal.lt
 have f0 := hS1.deal.frozen 0
 clear hx1 hS1
 have hmm := @run_makeMap Tryz.prog
 have hw1 := HX1.out.le
 have hX : ∀ w1 : World, Ext w1 (((w1.alloc (.map #[] 0)).alloc (.cells #[.int .i64 (kd : Int), .int .i64 m, .int .i64 k, .int .i64 n, .int .i64 0, .int .i64 0, .map (some w1.heap.size)] 154)).alloc (.cells #[.pointer (some ⟨w1.heap.size + 1, 0, none⟩)] 151)) := fun w1 => Ext.alloc (Ext.alloc (Ext.alloc (Ext.refl w1) _) _) _
 go_wp2_with (at_builtin; refine wpList_append_lies _ rfl _ _ 106 rfl 0 151 i0 _ 1 8 Tryz.underlying106 hi hz0 hz1 hz2 rfl (by decide) sv R.length (stkPtrs R) rfl (Ext.owns (hX w1) HS1.out.srow) ⟨_, 0, none⟩ 1 1 [.pointer (some ⟨w1.heap.size + 1, 0, none⟩)] rfl rfl (World.news_of_block (at_new (by simp))) (by simp [Value.oneCell']) (by decide) (by unfold maxLen; omega) (by omega) (Nat.zero_le _) _ rfl ?_)
 intro gs cs w2 ho2 hg2 hat hlt2
 have hsB : ∀ q, sv.ownBlock = some q -> q < w.heap.size /\ q ≠ B := fun q hq => by
  obtain ⟨cur, hc⟩ := owns_block HS.out.srow hq
  exact ⟨owns_lt HS.out.srow hq, HS.out.deal.tne hc (by decide)⟩
 have hB0 : B < w.heap.size := HS.out.deal.lt
 have hgsB : gs ≠ B := by
  rcases hat with e | e
  ·exact (hsB gs e).2
  ·omega
 have hgsw : sv.ownBlock = some gs \/ w.heap.size <= gs := by
  rcases hat with e | e
  ·exact .inl e
  ·refine .inr ?_
   omega
 have hT2 : Turn (fun b => b = B \/ sv.ownBlock = some b) w w2 := Turn.grown (Turn.chain (hX w1) (Turn.of_ext HX1.out)) hg2 (fun q hq _ => .inr hq)
 have hD2 : DealAt w2 B sv lv dv fl ah kn := (HS1.out.deal.ext (hX w1)).same (hg2.block B (by simp; omega) (fun e => (hsB B e.symm).2 rfl))
 have hmb : w2.heap[w1.heap.size]? = some (.map #[] 0) := (hg2.block _ (by simp; omega) (fun e => by have := (hsB _ e.symm).1; omega)).trans (at_old (at_old (heap_alloc_new _ _)))
 have hgk : w2.heap[w1.heap.size + 1]? = some (.cells #[.int .i64 (kd : Int), .int .i64 m, .int .i64 k, .int .i64 n, .int .i64 0, .int .i64 0, .map (some w1.heap.size)] 154 (0, 0)) := (hg2.block _ (by simp) (fun e => by have := (hsB _ e.symm).1; omega)).trans (at_old (at_new (by simp)))
 obtain ⟨c0'', _⟩ := hD2.cells
 have f0'' := hD2.frozen 0
 have HR : Hid _ := And.intro ho2 (And.intro hmb (And.intro hgk (And.intro hT2 hD2)))
 clear ho2 hmb hgk hg2 hat hX c0' d0 d1 d2 d3 hmm hT2 hD2
 go_wp2
 go_ret
 obtain ⟨ho2, hmb, hgk, hT2, hD2⟩ := HR.out
 refine ⟨w1.heap.size + 1, w1.heap.size, _, rfl, StoreOf.addStk HS.out (Turn.setCell (p := ⟨B, 0, none⟩) hT2 (fun _ => .inl rfl) _) (hD2.set0 _) (owns_setCell ho2 (by simp [lH]; exact hgsB) _) ?_ ?_ (by omega) (by omega) hgsw, Turn.setCell (p := ⟨B, 0, none⟩) hT2 (fun _ => .inl rfl) _⟩
 ·rw [Below.heap_setCell _ _ _ _ (by show w1.heap.size + 1 ≠ B; omega)]; exact hgk
 ·rw [Below.heap_setCell _ _ _ _ (by show w1.heap.size ≠ B; omega)]; exact hmb
end
end
-- GApp
section
open Go.RowKit Go.Maps Go.ChangeMaps Go.MapKept
theorem isForgotten_c (a : Option Addr) (n c : Nat) (v : Value) (_hv : v.oneCell' = true) (w : World) : Calls Tryz.prog 127 #[.agg #[.slice a n c, v]] w fun e w' => e = .returned (.bool ((n : Int) == 0)) /\ Ext w w' := by
 go_enter Tryz.func127, Tryz.ntmps127
 go_wp2
 go_ret
 exact ⟨rfl, (Ext.refl w).alloc _⟩
theorem int_ne {i j : Nat} (h : i ≠ j) : (Lit.int .i64 (i : Int)) ≠ Lit.int .i64 (j : Int) := fun e => by
 injection e with _ e
 omega
theorem Kept.put {w : World} {F : Nat -> Prop} {s : Sh} {ts : List (List Int × Bool)} {D : DataW Value} {U : List Int} {v : Value} (h : Kept w F s ts D) (hD : Tidy D) (hv : SharesAt w F s U v) :
  Kept w F s (ts ++ [(U, true)]) (D.put (.int .i64 (ts.length : Int)) (.held v)) := by
 obtain ⟨h1, h2, h3⟩ := h
 have hno : has D (.int .i64 (ts.length : Int)) = false := by rw [h2]; simp
 refine ⟨?_, fun i => ?_, fun i hi hk => ?_⟩
 ·rw [size_put hD, hno]
  simp [h1, List.filter_append]
 ·by_cases e : i = ts.length
  ·subst e
   rw [has_put_same hD.isMap (by trivial)]
   simp
  ·rw [has_put_other (int_ne e), h2]
   by_cases hlt : i < ts.length
   ·simp [List.getElem?_append_left hlt]
   ·rw [List.getElem?_eq_none (by omega), List.getElem?_eq_none (by simp; omega)]
 ·by_cases e : i = ts.length
  ·subst e
   exact ⟨v, atKey_put_same hD.isMap (by trivial) _ _, by simpa using hv⟩
  ·have hlt : i < ts.length := by simp at hi; omega
   rw [List.getElem_append_left hlt] at hk ⊢
   obtain ⟨u, hu1, hu2⟩ := h3 i hlt hk
   exact ⟨u, (atKey_put_other (int_ne e) _ _).trans hu1, hu2⟩
theorem Kept.skip {w : World} {F : Nat -> Prop} {s : Sh} {ts : List (List Int × Bool)} {D : DataW Value} {U : List Int} (h : Kept w F s ts D) : Kept w F s (ts ++ [(U, false)]) D := by
 obtain ⟨h1, h2, h3⟩ := h
 refine ⟨?_, fun i => ?_, fun i hi hk => ?_⟩
 ·simp [h1, List.filter_append]
 ·rw [h2]
  by_cases hlt : i < ts.length
  ·rw [List.getElem?_append_left hlt]
  ·rw [List.getElem?_eq_none (by omega)]
   by_cases e : i = ts.length
   ·subst e; simp
   ·rw [List.getElem?_eq_none (by simp; omega)]
 ·by_cases hlt : i < ts.length
  ·rw [List.getElem_append_left hlt] at hk ⊢
   exact h3 i hlt hk
  ·have e : i = ts.length := by simp at hi; omega
   subst e
   rw [List.getElem_append_right (Nat.le_refl _)] at hk
   simp at hk
theorem map_more {w : World} {mb n n' : Nat} {D : DataW Value} (h : w.ownsMap Tryz.prog 3 heldElem mb n D) (hn : n <= n') : w.ownsMap Tryz.prog 3 heldElem mb n' D := by
 obtain ⟨es, clock, h1, h2, h3, h4⟩ := h
 exact ⟨es, clock, h1, h2, Nat.le_trans h3 hn, h4⟩
def TriCell (w : World) (F : Nat -> Prop) (gt : Nat) (s : Sh) (i : Nat) (u : List Int × Bool) : Prop :=
 (u.2 = true /\ ∃ a0 c0 a1 c1, w.cell? ⟨gt, i * 2, none⟩ = some (.slice (some ⟨a0, 0, none⟩) (s.x + s.y + s.z) c0) /\ w.cell? ⟨gt, i * 2 + 1, none⟩ = some (.slice (some ⟨a1, 0, none⟩) (s.x + s.y + s.z) c1) /\ WordsU w a0 (sh0 s u.1) /\ WordsU w a1 (sh1 s u.1) /\ F a0 /\ F a1) \/
 (u.2 = false /\ w.cell? ⟨gt, i * 2, none⟩ = some (.slice none 0 0) /\ w.cell? ⟨gt, i * 2 + 1, none⟩ = some (.slice none 0 0))
def TriRow (w : World) (F : Nat -> Prop) (gt : Nat) (s : Sh) (us : List (List Int × Bool)) : Prop :=
 (∀ i (h : i < us.length), TriCell w F gt s i us[i]) /\ ∃ cur, w.heap[gt]? = some (.cells cur 176 (0, 0))
theorem TriRow.turn {S F : Nat -> Prop} {w w' : World} {gt : Nat} {s : Sh} {us : List (List Int × Bool)} (h : TriRow w F gt s us) (ht : Turn S w w') (hg : ¬ S gt) (hs : ∀ b cur, w.heap[b]? = some (.cells cur 146 (0, 0)) -> ¬ S b) : TriRow w' F gt s us := by
 refine ⟨fun i hi => ?_, h.2.elim fun cur hc => ⟨cur, ht.ref hc hg⟩⟩
 rcases h.1 i hi with ⟨hk, a0, c0, a1, c1, h1, h2, h3, h4, h5, h6⟩ | ⟨hk, h1, h2⟩
 ·exact .inl ⟨hk, a0, c0, a1, c1, ht.cell h1 hg, ht.cell h2 hg, h3.turn ht (let ⟨_, hc⟩ := h3.2; hs _ _ hc), h4.turn ht (let ⟨_, hc⟩ := h4.2; hs _ _ hc), h5, h6⟩
 ·exact .inr ⟨hk, ht.cell h1 hg, ht.cell h2 hg⟩
theorem TriRow.mono {F F' : Nat -> Prop} {w : World} {gt : Nat} {s : Sh} {us : List (List Int × Bool)} (h : TriRow w F gt s us) (hf : ∀ b, F b -> F' b) : TriRow w F' gt s us :=
 ⟨fun i hi => (h.1 i hi).imp (fun ⟨hk, a0, c0, a1, c1, h1, h2, h3, h4, h5, h6⟩ => ⟨hk, a0, c0, a1, c1, h1, h2, h3, h4, hf _ h5, hf _ h6⟩) id, h.2⟩
def StkR.more (x : StkR) (us : List (List Int × Bool)) : StkR := { x with ts := x.ts ++ us }
section
variable {B : Nat} {F : Nat -> Prop} {sv lv dv : Value} {R : List StkR} {ls : List LsV} {ops : List OpV} {fl : Bool} {ah : Int} {kn : Bool}
theorem StoreOf.mono {w : World} {F' : Nat -> Prop} (h : StoreOf w B F sv lv dv R ls ops fl ah kn) (hf : ∀ b, F b -> F' b) (hlt : ∀ b, F' b -> b < w.heap.size) : StoreOf w B F' sv lv dv R ls ops fl ah kn :=
 ⟨h.deal, h.srow, h.lrow, h.orow, fun x hx => (h.stk x hx).mono hf, h.nb, h.nm, hf _ h.fB, fun q hq => hf _ (h.fs q hq), fun q hq => hf _ (h.fl' q hq), fun q hq => hf _ (h.fd q hq), hlt, h.lnil, h.dnil⟩
theorem stockSome_c (kd m k n : Int) (hR : R.length <= 100) (x : StkR) (hf : R.find? (fun x => x.is kd m k n) = some x) (w : World) (h : StoreOf w B F sv lv dv R ls ops fl ah kn) :
  Calls Tryz.prog 208 #[.pointer (some ⟨B, 0, none⟩), clsV kd m k n] w fun e w' => e = .returned (.pointer (some ⟨x.blk, 0, none⟩)) /\ Ext w w' := by
 have HF : Hid (∀ w', Ext w w' -> Calls Tryz.prog 168 #[.pointer (some ⟨B, 0, none⟩), .agg #[.int .i64 kd, .int .i64 m, .int .i64 k, .int .i64 n]] w' fun e w'' => e = .returned (.pointer (some ⟨x.blk, 0, none⟩)) /\ Ext w' w'') := fun w' hx => by
  have := findR_c kd m k n hR w' (h.ext hx)
  rwa [stkPtr, hf] at this
 unfold clsV
 clear h hf
 go_enter Tryz.func208, Tryz.ntmps208
 go_wp2_with fail
 refine (HF.out _ ((Ext.refl w).alloc _)).mono ?_
 rintro e w1 ⟨rfl, hx1⟩
 have HX1 : Hid (Ext w w1) := ((Ext.refl w).alloc _).trans hx1
 clear hx1
 go_wp2
 go_ret
 exact ⟨rfl, HX1.out⟩
end
end
end Go.Proofs.YtmnjhhachdlmkaaGreat
