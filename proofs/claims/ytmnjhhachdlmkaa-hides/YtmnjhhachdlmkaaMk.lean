import Derived.Test.YtmnjhhachdlmkaaLen
import Derived.Test.YtmnjhhachdlmkaaTri3B
namespace Go.Proofs.Ytmnjhhachdlmkaa
open Go.RowKit

theorem sizeU64 (w : World) : (Go.sizeOf 47).run Try.prog w = .ok 1 w := by kernel_rfl
theorem elemW : Try.prog.underlying 27 = some (.slice (Try.prog.elem 27)) ∧ Try.prog.elem 27 = 47 := by
  constructor
  · simp [Program.elem, Try.underlying27]
  · simp [Program.elem, Try.underlying27]
theorem slice_lh (b o len cap l h : Nat) (hlh : l < h) (hh : h ≤ cap) (W : World) :
    (Instr.slice 27 (.slice (some ⟨b, o, none⟩) len cap) (some (.int .i64 (l : Int))) (some (.int .i64 (h : Int))) none).run Try.prog W = .ok (.slice (some ⟨b, o + l, none⟩) (h - l) (cap - l)) W := by
  rw [run_slice_lh W 27 _ _ _ elemW.1 .i64 .i64 _ _ (by omega) (by omega) (by omega), elemW.2, sizeU64]
  have hne : ¬ cap = l := by omega
  by_cases h0 : l = 0
  · subst h0
    simp [Result.andThen, sliced, Addr.add, hne]
  · simp [Result.andThen, sliced, Addr.add, hne, h0]
theorem slice_h (b o len cap h : Nat) (hlh : 0 < h) (hh : h ≤ cap) (W : World) :
    (Instr.slice 27 (.slice (some ⟨b, o, none⟩) len cap) none (some (.int .i64 (h : Int))) none).run Try.prog W = .ok (.slice (some ⟨b, o, none⟩) h cap) W := by
  rw [run_slice_h W 27 _ _ _ elemW.1 .i64 _ (by omega) (by omega), elemW.2, sizeU64]
  have hne : ¬ cap = 0 := by omega
  simp [Result.andThen, sliced, Addr.add, hne]
theorem slice_l (b o len cap l : Nat) (hlh : l < len) (hh : len ≤ cap) (W : World) :
    (Instr.slice 27 (.slice (some ⟨b, o, none⟩) len cap) (some (.int .i64 (l : Int))) none none).run Try.prog W = .ok (.slice (some ⟨b, o + l, none⟩) (len - l) (cap - l)) W := by
  rw [run_slice_l W 27 _ _ _ elemW.1 .i64 _ (by omega) (by omega), elemW.2, sizeU64]
  have hne : ¬ cap = l := by omega
  by_cases h0 : l = 0
  · subst h0
    simp [Result.andThen, sliced, Addr.add, hne]
  · simp [Result.andThen, sliced, Addr.add, hne, h0]

/-- What lies in a block of four cells that was laid down. -/
theorem four_at {w w' : World} {v0 v1 v2 v3 : Value} {t : TypeId} (h : Ext (w.alloc (.cells #[v0, v1, v2, v3] t)) w') :
    w'.cell? ⟨w.heap.size, 0, none⟩ = some v0 ∧ w'.cell? ⟨w.heap.size, 1, none⟩ = some v1 ∧ w'.cell? ⟨w.heap.size, 2, none⟩ = some v2 ∧ w'.cell? ⟨w.heap.size, 3, none⟩ = some v3 := by
  have hb : (w.alloc (.cells #[v0, v1, v2, v3] t)).heap[w.heap.size]? = some (.cells #[v0, v1, v2, v3] t (0, 0)) := heap_alloc_new w _
  refine ⟨h.cell ?_, h.cell ?_, h.cell ?_, h.cell ?_⟩
  · rw [cell_of_row _ _ 0 _ _ _ hb]; rfl
  · rw [cell_of_row _ _ 1 _ _ _ hb]; rfl
  · rw [cell_of_row _ _ 2 _ _ _ hb]; rfl
  · rw [cell_of_row _ _ 3 _ _ _ hb]; rfl

set_option maxRecDepth 100000 in
set_option maxHeartbeats 800000 in
theorem drawsOf_c {kd m k n : Nat} {s : Sh} (h : ofCls kd m k n s) (hs : s.ok) (w : World) : Calls Try.prog 47 #[clsV kd m k n] w fun e w' => e = .returned (.int .i64 (s.x + s.y + (s.x + s.y + s.z) : Nat)) ∧ Ext w w' := by
  have hle := Sh.le hs
  have HS : Hid _ := shapeS_c h
  have HL : Hid _ := lengthsS_c hs
  have HW : Hid _ := wordsOf_c h hs
  generalize s.x = x at *
  generalize s.y = y at *
  generalize s.z = z at *
  generalize s.val = sv at *
  clear h hs
  unfold clsV
  go_enter Try.func47, Try.ntmps47
  go_wp2_with fail
  refine (HS.out _).mono ?_; rintro e w1 ⟨rfl, hx1⟩
  go_wp2_with fail
  refine (HL.out _).mono ?_; rintro e w2 ⟨rfl, hx2⟩
  obtain ⟨c0, c1, c2, c3⟩ := four_at (hx1.trans hx2)
  go_wp2_with fail
  refine (HW.out _).mono ?_; rintro e w3 ⟨rfl, hx3⟩
  go_wp2
  go_ret
  exact ⟨ret_int (by go_num), (((Ext.refl w).alloc _).trans hx1).trans (hx2.trans hx3)⟩

theorem matS_c {s : Sh} (hs : s.ok) (b off cap b2 off2 cap2 la lb : Nat) (zs ys : List Int) (hla : la = s.m * s.k) (hlb : lb = s.k * s.n) (hn : zs.length = la) (hn2 : ys.length = lb) (w : World) (hz : WordsAt w b off zs) (hy : WordsAt w b2 off2 ys) :
    Calls Try.prog 67 #[s.num, s.val, .slice (some ⟨b, off, none⟩) la cap, .slice (some ⟨b2, off2, none⟩) lb cap2] w fun e w' =>
      ∃ v, e = .returned v ∧ w'.ownsRow w.heap.size 47 1 v (s.m * s.n) ((matN s.bt zs ys s.k s.n s.m).map (Value.int .u64)) ∧ Ext w w' := by
  obtain ⟨h1, h2, h3, h4, h5, h6, h7, h8, h9⟩ := hs
  match s with
  | ⟨false, p, m, k, n⟩ => exact matW_c b off cap b2 off2 cap2 p m k n la lb zs ys hla hlb hn hn2 h4 h6 h8 w hz hy
  | ⟨true, p, m, k, n⟩ => exact matB_c b off cap b2 off2 cap2 p m k n la lb zs ys hla hlb hn hn2 h4 h6 h8 w hz hy

def subL (A : List Int) (j L : Nat) : List Int := (A.drop (j * L)).take L
def mulN (s : Sh) (A B : List Int) (i : Nat) : List Int := (List.range i).flatMap fun j => matN s.bt (subL A j (s.m * s.k)) (subL B j (s.k * s.n)) s.k s.n s.m
theorem mulN_succ (s : Sh) (A B : List Int) (i : Nat) : mulN s A B (i + 1) = mulN s A B i ++ matN s.bt (subL A i (s.m * s.k)) (subL B i (s.k * s.n)) s.k s.n s.m := by simp [mulN, List.range_succ]
theorem WordsAt.sub {w : World} {b off : Nat} {A : List Int} (h : WordsAt w b off A) (j L : Nat) : WordsAt w b (off + j * L) (subL A j L) := by
  intro i hi
  simp only [subL, List.length_take, List.length_drop] at hi
  have := h (j * L + i) (by omega)
  rw [Nat.add_assoc, this]
  simp [subL, List.getD_eq_getElem?_getD, List.getElem?_drop, show i < L by omega]
theorem subL_len {A : List Int} {j p L : Nat} (h : A.length = p * L) (hj : j < p) : (subL A j L).length = L := by
  have := Nat.mul_le_mul (show j + 1 ≤ p by omega) (Nat.le_refl L)
  rw [Nat.add_mul] at this
  simp only [subL, List.length_take, List.length_drop]; omega

set_option maxRecDepth 100000 in
set_option maxHeartbeats 1600000 in
theorem multiply_c {s : Sh} (hs : s.ok) (b off cap b2 off2 cap2 la lb : Nat) (A B : List Int) (hla : la = s.p * (s.m * s.k)) (hlb : lb = s.p * (s.k * s.n)) (hn : A.length = la) (hn2 : B.length = lb) (hc1 : la ≤ cap) (hc2 : lb ≤ cap2) (w : World) (hz : WordsAt w b off A) (hy : WordsAt w b2 off2 B) :
    Calls Try.prog 58 #[s.num, s.val, .slice (some ⟨b, off, none⟩) la cap, .slice (some ⟨b2, off2, none⟩) lb cap2] w fun e w' =>
      ∃ v, e = .returned v ∧ w'.ownsRow w.heap.size 47 1 v (s.p * (s.m * s.n)) ((mulN s A B s.p).map (Value.int .u64)) ∧ Ext w w' := by
  obtain ⟨i0, hi, hz0, hz1, hz2⟩ := info_parts infoU64
  have HM : Hid _ := @matS_c s hs
  have HS : Hid _ := mulN_succ s A B
  have HZ : Hid (WordsAt w b off A) := hz
  have HY : Hid (WordsAt w b2 off2 B) := hy
  have HN : Hid (A.length = s.p * (s.m * s.k)) := hn.trans hla
  have HN2 : Hid (B.length = s.p * (s.k * s.n)) := hn2.trans hlb
  have HLA : Hid (la = s.p * (s.m * s.k)) := hla
  have HLB : Hid (lb = s.p * (s.k * s.n)) := hlb
  have hx9 := Sh.le hs
  clear hz hy hn hn2 hla hlb
  obtain ⟨h1, h2, h3, h4, h5, h6, h7, h8, h9⟩ := hs
  unfold Sh.val at *
  generalize s.num = nm at *
  unfold Sh.x Sh.y Sh.z at hx9
  rw [Nat.mul_assoc, Nat.mul_assoc, Nat.mul_assoc] at hx9
  have v1 : IntKind.i64.wrap ((s.m : Int) * (s.k : Int)) = ((s.m * s.k : Nat) : Int) := by rw [← Int.natCast_mul]; exact wrap_small (by have := mul_le9 h4 h6; omega)
  have v2 : IntKind.i64.wrap ((s.k : Int) * (s.n : Int)) = ((s.k * s.n : Nat) : Int) := by rw [← Int.natCast_mul]; exact wrap_small (by have := mul_le9 h6 h8; omega)
  have mn9 := mul_le9 h4 h8
  have mk9 := mul_le9 h4 h6
  have kn9 := mul_le9 h6 h8
  have mn1 := Nat.mul_le_mul h3 h7
  have mk1 := Nat.mul_le_mul h3 h5
  have kn1 := Nat.mul_le_mul h5 h7
  generalize hp : s.p = p at *
  generalize hm : s.m = m at *
  generalize hk : s.k = k at *
  generalize hnn : s.n = n at *
  clear hp hm hk hnn h3 h4 h5 h6 h7 h8 h9
  generalize m * k = L at *
  generalize k * n = R at *
  generalize m * n = MN at *
  go_enter Try.func58, Try.ntmps58
  go_wp2
  have hf := four_at (Ext.refl (w.alloc (.cells #[.int .i64 p, .int .i64 m, .int .i64 k, .int .i64 n] 122)))
  have HXW : Hid (Ext w (w.alloc (.cells #[.int .i64 p, .int .i64 m, .int .i64 k, .int .i64 n] 122))) := (Ext.refl w).alloc _
  generalize World.alloc w _ = W at hf HXW ⊢
  obtain ⟨s0, s1, s2, s3⟩ := hf
  go_region_held3 (fun w' => (w'.cell? ⟨w.heap.size, 0, none⟩ = some (.int .i64 p) ∧ w'.cell? ⟨w.heap.size, 1, none⟩ = some (.int .i64 m) ∧ w'.cell? ⟨w.heap.size, 2, none⟩ = some (.int .i64 k) ∧ w'.cell? ⟨w.heap.size, 3, none⟩ = some (.int .i64 n)) ∧ Ext W w')
    ((refine and_cell4 s0 s1 s2 s3 ?_; (repeat (first | with_reducible exact Ext.refl _ | with_reducible assumption | with_reducible refine Ext.drew ?_ | with_reducible refine Ext.alloc ?_ _ | with_reducible (apply Ext.chain; assumption))); done))
    (fail)
  rename_i hHeld
  clear hHeld
  have hD := (Ext.refl W).drew
  generalize W.drew = V at hD ⊢
  have s0 := hD.cell s0
  have s1 := hD.cell s1
  have s2 := hD.cell s2
  have s3 := hD.cell s3
  have HXV : Hid (Ext w V) := HXW.out.trans hD
  clear hD HXW
  go_wp2
  go_loopw [9, 25] (fun u i wr => ∃ j : Nat, j ≤ p ∧ i = .int .i64 j ∧ wr.ownsRow V.heap.size 47 1 u (j * MN) ((mulN s A B j).map (Value.int .u64)) ∧ Ext V wr) (fun _ i _ => p - (intOf i).toNat)
  case atStart => exact ⟨0, Nat.zero_le _, rfl, by rw [Nat.zero_mul]; exact World.ownsRow_nil _ _ _ _, Ext.refl _⟩
  case round =>
    obtain ⟨j, hj, rfl, ho, hx⟩ := hrel
    have HO : Hid _ := ho
    clear ho
    by_cases hlt : j < p
    · have f0 := hx.cell s0
      have f1 := hx.cell s1
      have f2 := hx.cell s2
      have f3 := hx.cell s3
      have jL := Nat.mul_le_mul (show j + 1 ≤ p by omega) (Nat.le_refl L)
      have jR := Nat.mul_le_mul (show j + 1 ≤ p by omega) (Nat.le_refl R)
      have HJ : Hid ((j + 1) * L = j * L + L ∧ (j + 1) * R = j * R + R) := ⟨by rw [Nat.add_mul, Nat.one_mul], by rw [Nat.add_mul, Nat.one_mul]⟩
      have bL : (j + 1) * L ≤ la := by rw [HLA.out]; exact jL
      have bR : (j + 1) * R ≤ lb := by rw [HLB.out]; exact jR
      have u0 : IntKind.i64.wrap ((j : Int) + 1) = ((j + 1 : Nat) : Int) := by rw [show (j : Int) + 1 = ((j + 1 : Nat) : Int) by omega]; exact wrap_small (by omega)
      have u1 : IntKind.i64.wrap ((j : Int) * (L : Int)) = ((j * L : Nat) : Int) := by rw [← Int.natCast_mul]; exact wrap_small (by have := HJ.out.1; omega)
      have u2 : IntKind.i64.wrap (((j + 1 : Nat) : Int) * (L : Int)) = (((j + 1) * L : Nat) : Int) := by rw [← Int.natCast_mul]; exact wrap_small (by omega)
      have u3 : IntKind.i64.wrap ((j : Int) * (R : Int)) = ((j * R : Nat) : Int) := by rw [← Int.natCast_mul]; exact wrap_small (by have := HJ.out.2; omega)
      have u4 : IntKind.i64.wrap (((j + 1 : Nat) : Int) * (R : Int)) = (((j + 1) * R : Nat) : Int) := by rw [← Int.natCast_mul]; exact wrap_small (by omega)
      have HZ2 : Hid (WordsAt V b (off + j * L) (subL A j L)) := (HZ.out.sub j L).ext HXV.out
      have HY2 : Hid (WordsAt V b2 (off2 + j * R) (subL B j R)) := (HY.out.sub j R).ext HXV.out
      have HLn : Hid ((subL A j L).length = L) := subL_len HN.out hlt
      have HRn : Hid ((subL B j R).length = R) := subL_len HN2.out hlt
      have HG : Hid (mulN s A B (j + 1) = mulN s A B j ++ matN s.bt (subL A j L) (subL B j R) k n m) := HS.out j
      have HMN : Hid ((j + 1) * MN = j * MN + MN ∧ j * MN ≤ 27) := ⟨by rw [Nat.add_mul, Nat.one_mul], by have := Nat.mul_le_mul (show j ≤ 3 by omega) mn9; omega⟩
      have hlow := fun q hq => (World.ownsRow.lt HO.out q hq).1
      generalize hj1 : j + 1 = j1 at *
      generalize subL A j L = zs at *
      generalize subL B j R = ys at *
      generalize j * L = jl at *
      generalize j * R = jr at *
      generalize j1 * L = jl1 at *
      generalize j1 * R = jr1 at *
      generalize j * MN = jm at *
      clear jL jR
      have hsl1 : ∀ W, (Instr.slice 27 (.slice (some ⟨b, off, none⟩) la cap) (some (.int .i64 (jl : Int))) (some (.int .i64 (jl1 : Int))) none).run Try.prog W = .ok (.slice (some ⟨b, off + jl, none⟩) L (cap - jl)) W := fun W => by
        rw [slice_lh b off la cap jl jl1 (by have := HJ.out.1; omega) (by omega), show jl1 - jl = L by have := HJ.out.1; omega]
      have hsl2 : ∀ W, (Instr.slice 27 (.slice (some ⟨b2, off2, none⟩) lb cap2) (some (.int .i64 (jr : Int))) (some (.int .i64 (jr1 : Int))) none).run Try.prog W = .ok (.slice (some ⟨b2, off2 + jr, none⟩) R (cap2 - jr)) W := fun W => by
        rw [slice_lh b2 off2 lb cap2 jr jr1 (by have := HJ.out.2; omega) (by omega), show jr1 - jr = R by have := HJ.out.2; omega]
      have HJ1 : Hid (j + 1 = j1) := hj1
      clear hj1 bL bR hc1 hc2
      go_wp2_with fail
      go_region_held3 (fun w' => (w'.cell? ⟨w.heap.size, 0, none⟩ = some (.int .i64 p) ∧ w'.cell? ⟨w.heap.size, 1, none⟩ = some (.int .i64 m) ∧ w'.cell? ⟨w.heap.size, 2, none⟩ = some (.int .i64 k) ∧ w'.cell? ⟨w.heap.size, 3, none⟩ = some (.int .i64 n)) ∧ Ext V w')
        (first
          | (refine and_cell4 s0 s1 s2 s3 ?_; (repeat (first | with_reducible exact Ext.refl _ | with_reducible assumption | with_reducible refine Ext.drew ?_ | with_reducible refine Ext.alloc ?_ _ | with_reducible (apply Ext.chain; assumption))); done)
          | exact and_cell4 s0 s1 s2 s3 (Ext.grown (Ext.chain hx2 (Ext.drew hx)) hgrow hlow))
        (first
          | (go_at_call 67; refine (HM.out b (off + jl) (cap - jl) b2 (off2 + jr) (cap2 - jr) L R zs ys rfl rfl HLn.out HRn.out _ (HZ2.out.ext (Ext.drew hx)) (HY2.out.ext (Ext.drew hx))).mono ?_; rintro e w2 ⟨v, rfl, hov, hx2⟩; obtain ⟨g2, cp2, rfl, hg2, hg3⟩ := hov.form (by omega))
          | (refine step_append_lies _ (by rfl) _ _ 27 (by rfl) V.heap.size 47 i0 (.int .u64 0) 1 8 Try.underlying27 hi hz0 hz1 hz2 (by rfl) (by decide) u9 jm _ (by rfl) (Ext.owns (Ext.chain hx2 (Ext.drew (Ext.refl _))) HO.out) ⟨_, 0, none⟩ MN cp2 _ (by rfl) hov.1 (hov.cells rfl) (words_one _) (by omega) (by have := HMN.out.2; simp [maxLen]; omega) (by have := HMN.out.2; omega) (Nat.le_trans hx.le (Ext.le (Ext.chain hx2 (Ext.drew (Ext.refl _))))) _ rfl ?_; intro g cap3 w1 hown1 hgrow hat hlt1))
      have R1 : w1.ownsRow V.heap.size 47 1 (.slice (some ⟨g, 0, none⟩) (jm + MN) cap3) (j1 * MN) ((mulN s A B j1).map (Value.int .u64)) := by
        rw [HG.out, HMN.out.1, List.map_append]; exact hown1
      have R2 : Ext V w1 := Ext.grown (Ext.chain hx2 (Ext.drew hx)) hgrow hlow
      clear hown1 hgrow
      go_wp2
      go_roundw
      case rel => exact ⟨j1, by have := HJ1.out; omega, by have := HJ1.out; subst this; go_num, R1, R2⟩
      case measure => have := HJ1.out; simp [intOf]; omega
    · obtain rfl : j = p := by omega
      go_wp2
      go_ret
      exact ⟨_, rfl, owns_base HO.out HXV.out.le, HXV.out.trans hx⟩
end Go.Proofs.Ytmnjhhachdlmkaa
