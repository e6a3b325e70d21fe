import Derived.Test.YtmnjhhachdlmkaaBase
import Derived.Test.YtmnjhhachdlmkaaNums
import Derived.Deep.RegionHeld
import Derived.Deep.RegionHeld3
import Derived.Deep.AppendLies
namespace Go.Proofs.Ytmnjhhachdlmkaa

section
open Go.RowKit

/-- The two kinds of numbers: words (false), bits (true). -/
def plusN (bt : Bool) (x y : Int) : Int := if bt then bits .xor .u64 x y else IntKind.u64.wrap (x + y)
def minusN (bt : Bool) (x y : Int) : Int := if bt then bits .xor .u64 x y else IntKind.u64.wrap (x - y)
def timesN (bt : Bool) (x y : Int) : Int := if bt then bits .and .u64 x y else IntKind.u64.wrap (x * y)

theorem wordsPlus_c (x y : Int) (w : World) : Calls Try.prog 123 #[.agg #[], .int .u64 x, .int .u64 y] w fun e w' => e = .returned (.int .u64 (plusN false x y)) ∧ Ext w w' := by
  go_enter Try.func123, Try.ntmps123
  go_wp2
  go_ret
  exact ⟨rfl, (Ext.refl w).alloc _⟩
theorem wordsMinus_c (x y : Int) (w : World) : Calls Try.prog 122 #[.agg #[], .int .u64 x, .int .u64 y] w fun e w' => e = .returned (.int .u64 (minusN false x y)) ∧ Ext w w' := by
  go_enter Try.func122, Try.ntmps122
  go_wp2
  go_ret
  exact ⟨rfl, (Ext.refl w).alloc _⟩
theorem wordsTimes_c (x y : Int) (w : World) : Calls Try.prog 124 #[.agg #[], .int .u64 x, .int .u64 y] w fun e w' => e = .returned (.int .u64 (timesN false x y)) ∧ Ext w w' := by
  go_enter Try.func124, Try.ntmps124
  go_wp2
  go_ret
  exact ⟨rfl, (Ext.refl w).alloc _⟩
theorem bitsPlus_c (x y : Int) (w : World) : Calls Try.prog 120 #[.agg #[], .int .u64 x, .int .u64 y] w fun e w' => e = .returned (.int .u64 (plusN true x y)) ∧ Ext w w' := by
  go_enter Try.func120, Try.ntmps120
  go_wp2
  go_ret
  exact ⟨rfl, (Ext.refl w).alloc _⟩
theorem bitsMinus_c (x y : Int) (w : World) : Calls Try.prog 119 #[.agg #[], .int .u64 x, .int .u64 y] w fun e w' => e = .returned (.int .u64 (minusN true x y)) ∧ Ext w w' := by
  go_enter Try.func119, Try.ntmps119
  go_wp2
  go_ret
  exact ⟨rfl, (Ext.refl w).alloc _⟩
theorem bitsTimes_c (x y : Int) (w : World) : Calls Try.prog 121 #[.agg #[], .int .u64 x, .int .u64 y] w fun e w' => e = .returned (.int .u64 (timesN true x y)) ∧ Ext w w' := by
  go_enter Try.func121, Try.ntmps121
  go_wp2
  go_ret
  exact ⟨rfl, (Ext.refl w).alloc _⟩

theorem isSide_c (n : Int) (w : World) : Calls Try.prog 51 #[.int .i64 n] w fun e w' => e = .returned (.bool (decide (1 ≤ n) && decide (n ≤ 3))) ∧ w = w' := by
  go_enter Try.func51, Try.ntmps51
  go_wp2
  all_goals go_ret
  all_goals (refine ⟨ret_bool ?_, rfl⟩; simp [*]; try omega)

theorem mw_plus (w : World) : (method 301 145 (.agg #[]) "dealer/triple.plus").run Try.prog w = .ok (123, .agg #[]) w := by kernel_rfl
theorem mw_minus (w : World) : (method 301 145 (.agg #[]) "dealer/triple.minus").run Try.prog w = .ok (122, .agg #[]) w := by kernel_rfl
theorem mw_times (w : World) : (method 301 145 (.agg #[]) "dealer/triple.times").run Try.prog w = .ok (124, .agg #[]) w := by kernel_rfl
theorem mb_plus (w : World) : (method 301 144 (.agg #[]) "dealer/triple.plus").run Try.prog w = .ok (120, .agg #[]) w := by kernel_rfl
theorem mb_minus (w : World) : (method 301 144 (.agg #[]) "dealer/triple.minus").run Try.prog w = .ok (119, .agg #[]) w := by kernel_rfl
theorem mb_times (w : World) : (method 301 144 (.agg #[]) "dealer/triple.times").run Try.prog w = .ok (121, .agg #[]) w := by kernel_rfl

theorem infoU64 : (Try.prog.info? 47).map (fun i => (i.zero, i.size, i.bytes)) = some (some (.int .u64 0), 1, 8) := by kernel_rfl

/-- The words of a slice, wherever it lies. -/
def WordsAt (w : World) (b off : Nat) (zs : List Int) : Prop := ∀ i, i < zs.length → w.cell? ⟨b, off + i, none⟩ = some (.int .u64 (zs.getD i 0))
theorem WordsAt.ext {w w' : World} {b off : Nat} {zs : List Int} (h : WordsAt w b off zs) (hx : Ext w w') : WordsAt w' b off zs := fun i hi => hx.cell (h i hi)
end

section
open Go.RowKit

theorem nw_minus (w : World) : (nilAhead 301 145 (.agg #[]) "dealer/triple.minus").run Try.prog w = .ok (some false) w := by kernel_rfl
theorem zip_snoc (f : Int → Int → Int) (zs ys : List Int) (k : Nat) (h : k < zs.length) (h2 : k < ys.length) :
    List.zipWith f (zs.take (k + 1)) (ys.take (k + 1)) = List.zipWith f (zs.take k) (ys.take k) ++ [f (zs.getD k 0) (ys.getD k 0)] := by
  rw [List.take_succ_eq_append_getElem h, List.take_succ_eq_append_getElem h2, List.zipWith_append (by simp; omega)]
  simp [List.getD_eq_getElem?_getD, List.getElem?_eq_getElem h, List.getElem?_eq_getElem h2]
theorem and_cell {a b : World} {p : Addr} {v : Value} (hc : a.cell? p = some v) (h : Ext a b) : b.cell? p = some v ∧ Ext a b := ⟨h.cell hc, h⟩

set_option maxRecDepth 100000 in
set_option maxHeartbeats 1600000 in
/-- rest, of words: what the other party must have. -/
theorem restW_c (b off cap b2 off2 cap2 n : Nat) (zs ys : List Int) (hn : zs.length = n) (hn2 : ys.length = n) (hsm : n ≤ 1000) (w : World) (hz : WordsAt w b off zs) (hy : WordsAt w b2 off2 ys) :
    Calls Try.prog 59 #[.iface 145 (.agg #[]), .slice (some ⟨b, off, none⟩) n cap, .slice (some ⟨b2, off2, none⟩) n cap2] w fun e w' =>
      ∃ v, e = .returned v ∧ w'.ownsRow w.heap.size 47 1 v n ((List.zipWith (minusN false) zs ys).map (Value.int .u64)) ∧ Ext w w' := by
  obtain ⟨i0, hi, hz0, hz1, hz2⟩ := info_parts infoU64
  have HZ : Hid (WordsAt w b off zs) := hz
  have HY : Hid (WordsAt w b2 off2 ys) := hy
  have HN : Hid (zs.length = n) := hn
  have HN2 : Hid (ys.length = n) := hn2
  have hm := mw_minus
  have hnw := nw_minus
  clear hz hy hn hn2
  go_enter Try.func59, Try.ntmps59
  go_wp2
  go_loopw [7, 8, 9, 12] (fun u _ _ i wr => ∃ k : Nat, k ≤ n ∧ i = .int .i64 k ∧ wr.ownsRow w.heap.size 47 1 u k ((List.zipWith (minusN false) (zs.take k) (ys.take k)).map (Value.int .u64)) ∧ Ext w wr) (fun _ _ _ i _ => n - (intOf i).toNat)
  case atStart => exact ⟨0, Nat.zero_le _, rfl, World.ownsRow_nil _ _ _ _, Ext.refl _⟩
  case round =>
    obtain ⟨k, hk, rfl, ho, hx⟩ := hrel
    have hlow := fun q hq => (World.ownsRow.lt ho q hq).1
    have HO : Hid _ := ho
    clear ho
    by_cases hlt : k < n
    · have e0 : wr.cell? ⟨b, off + k, none⟩ = some (.int .u64 (zs.getD k 0)) := hx.cell (HZ.out k (by have := HN.out; omega))
      have e1w : w.cell? ⟨b2, off2 + k, none⟩ = some (.int .u64 (ys.getD k 0)) := HY.out k (by have := HN2.out; omega)
      have e1 : wr.cell? ⟨b2, off2 + k, none⟩ = some (.int .u64 (ys.getD k 0)) := hx.cell (HY.out k (by have := HN2.out; omega))
      generalize hzk : zs.getD k 0 = z at *
      generalize hyk : ys.getD k 0 = y at *
      have hk0 : (0 : Int) ≤ (k : Int) := by omega
      have hk1 : (k : Int) < n := by omega
      go_wp2
      go_region_held3 (fun w' => w'.cell? ⟨b2, off2 + k, none⟩ = some (.int .u64 y) ∧ Ext w w') (first
          | (refine and_cell e1w ?_; (repeat (first | with_reducible exact Ext.refl _ | with_reducible assumption | with_reducible refine Ext.drew ?_ | with_reducible refine Ext.alloc ?_ _ | with_reducible (apply Ext.chain; assumption))); done)
          | exact and_cell e1w (Ext.grown (Ext.alloc (Ext.chain hx2 (Ext.drew hx)) _) hgrow hlow))
        (first
          | (go_at_call 122; refine (wordsMinus_c _ _ _).mono ?_; rintro e w' ⟨rfl, hx2⟩)
          | (refine step_append_lies _ (by rfl) _ _ 27 (by rfl) w.heap.size 47 i0 (.int .u64 0) 1 8 Try.underlying27 hi hz0 hz1 hz2 (by rfl) (by decide) u7 k _ (by rfl) (Ext.owns (Ext.alloc (Ext.chain hx2 (Ext.drew (Ext.refl _))) _) HO.out) ⟨_, 0, none⟩ 1 1 [.int .u64 (minusN false z y)] (by rfl) (by rfl) (World.news_of_block (heap_alloc_new _ _)) (by simp [Value.oneCell']) (by decide) (by simp [maxLen]; omega) (by omega) (Nat.le_trans hx.le (Ext.le (Ext.alloc (Ext.chain hx2 (Ext.drew (Ext.refl _))) _))) _ rfl ?_; intro g cap3 w1 hown1 hgrow hat hlt1))
      have R : w1.ownsRow w.heap.size 47 1 (.slice (some ⟨g, 0, none⟩) (k + 1) cap3) (k + 1) ((List.zipWith (minusN false) (zs.take (k + 1)) (ys.take (k + 1))).map (Value.int .u64)) := by
        have h := hown1
        rw [zip_snoc (minusN false) zs ys k (by have := HN.out; omega) (by have := HN2.out; omega), hzk, hyk]
        simpa using h
      have R2 : Ext w w1 := Ext.grown (Ext.alloc (Ext.chain hx2 (Ext.drew hx)) _) hgrow hlow
      clear hown1 hgrow
      go_wp2
      go_roundw
      case rel => exact ⟨k + 1, by omega, by go_num, R, R2⟩
      case measure => simp [intOf]; omega
    · obtain rfl : k = n := by omega
      go_wp2
      go_ret
      refine ⟨_, rfl, ?_, hx⟩
      have h := HO.out
      rw [List.take_of_length_le (by have := HN.out; omega), List.take_of_length_le (by have := HN2.out; omega)] at h
      exact h
end

section
open Go.RowKit


theorem nb_minus (w : World) : (nilAhead 301 144 (.agg #[]) "dealer/triple.minus").run Try.prog w = .ok (some false) w := by kernel_rfl
set_option maxRecDepth 100000 in
set_option maxHeartbeats 1600000 in
/-- rest, of bits: what the other party must have. -/
theorem restB_c (b off cap b2 off2 cap2 n : Nat) (zs ys : List Int) (hn : zs.length = n) (hn2 : ys.length = n) (hsm : n ≤ 1000) (w : World) (hz : WordsAt w b off zs) (hy : WordsAt w b2 off2 ys) :
    Calls Try.prog 59 #[.iface 144 (.agg #[]), .slice (some ⟨b, off, none⟩) n cap, .slice (some ⟨b2, off2, none⟩) n cap2] w fun e w' =>
      ∃ v, e = .returned v ∧ w'.ownsRow w.heap.size 47 1 v n ((List.zipWith (minusN true) zs ys).map (Value.int .u64)) ∧ Ext w w' := by
  obtain ⟨i0, hi, hz0, hz1, hz2⟩ := info_parts infoU64
  have HZ : Hid (WordsAt w b off zs) := hz
  have HY : Hid (WordsAt w b2 off2 ys) := hy
  have HN : Hid (zs.length = n) := hn
  have HN2 : Hid (ys.length = n) := hn2
  have hm := mb_minus
  have hnw := nb_minus
  clear hz hy hn hn2
  go_enter Try.func59, Try.ntmps59
  go_wp2
  go_loopw [7, 8, 9, 12] (fun u _ _ i wr => ∃ k : Nat, k ≤ n ∧ i = .int .i64 k ∧ wr.ownsRow w.heap.size 47 1 u k ((List.zipWith (minusN true) (zs.take k) (ys.take k)).map (Value.int .u64)) ∧ Ext w wr) (fun _ _ _ i _ => n - (intOf i).toNat)
  case atStart => exact ⟨0, Nat.zero_le _, rfl, World.ownsRow_nil _ _ _ _, Ext.refl _⟩
  case round =>
    obtain ⟨k, hk, rfl, ho, hx⟩ := hrel
    have hlow := fun q hq => (World.ownsRow.lt ho q hq).1
    have HO : Hid _ := ho
    clear ho
    by_cases hlt : k < n
    · have e0 : wr.cell? ⟨b, off + k, none⟩ = some (.int .u64 (zs.getD k 0)) := hx.cell (HZ.out k (by have := HN.out; omega))
      have e1w : w.cell? ⟨b2, off2 + k, none⟩ = some (.int .u64 (ys.getD k 0)) := HY.out k (by have := HN2.out; omega)
      have e1 : wr.cell? ⟨b2, off2 + k, none⟩ = some (.int .u64 (ys.getD k 0)) := hx.cell (HY.out k (by have := HN2.out; omega))
      generalize hzk : zs.getD k 0 = z at *
      generalize hyk : ys.getD k 0 = y at *
      have hk0 : (0 : Int) ≤ (k : Int) := by omega
      have hk1 : (k : Int) < n := by omega
      go_wp2
      go_region_held3 (fun w' => w'.cell? ⟨b2, off2 + k, none⟩ = some (.int .u64 y) ∧ Ext w w') (first
          | (refine and_cell e1w ?_; (repeat (first | with_reducible exact Ext.refl _ | with_reducible assumption | with_reducible refine Ext.drew ?_ | with_reducible refine Ext.alloc ?_ _ | with_reducible (apply Ext.chain; assumption))); done)
          | exact and_cell e1w (Ext.grown (Ext.alloc (Ext.chain hx2 (Ext.drew hx)) _) hgrow hlow))
        (first
          | (go_at_call 119; refine (bitsMinus_c _ _ _).mono ?_; rintro e w' ⟨rfl, hx2⟩)
          | (refine step_append_lies _ (by rfl) _ _ 27 (by rfl) w.heap.size 47 i0 (.int .u64 0) 1 8 Try.underlying27 hi hz0 hz1 hz2 (by rfl) (by decide) u7 k _ (by rfl) (Ext.owns (Ext.alloc (Ext.chain hx2 (Ext.drew (Ext.refl _))) _) HO.out) ⟨_, 0, none⟩ 1 1 [.int .u64 (minusN true z y)] (by rfl) (by rfl) (World.news_of_block (heap_alloc_new _ _)) (by simp [Value.oneCell']) (by decide) (by simp [maxLen]; omega) (by omega) (Nat.le_trans hx.le (Ext.le (Ext.alloc (Ext.chain hx2 (Ext.drew (Ext.refl _))) _))) _ rfl ?_; intro g cap3 w1 hown1 hgrow hat hlt1))
      have R : w1.ownsRow w.heap.size 47 1 (.slice (some ⟨g, 0, none⟩) (k + 1) cap3) (k + 1) ((List.zipWith (minusN true) (zs.take (k + 1)) (ys.take (k + 1))).map (Value.int .u64)) := by
        have h := hown1
        rw [zip_snoc (minusN true) zs ys k (by have := HN.out; omega) (by have := HN2.out; omega), hzk, hyk]
        simpa using h
      have R2 : Ext w w1 := Ext.grown (Ext.alloc (Ext.chain hx2 (Ext.drew hx)) _) hgrow hlow
      clear hown1 hgrow
      go_wp2
      go_roundw
      case rel => exact ⟨k + 1, by omega, by go_num, R, R2⟩
      case measure => simp [intOf]; omega
    · obtain rfl : k = n := by omega
      go_wp2
      go_ret
      refine ⟨_, rfl, ?_, hx⟩
      have h := HO.out
      rw [List.take_of_length_le (by have := HN.out; omega), List.take_of_length_le (by have := HN2.out; omega)] at h
      exact h
end
end Go.Proofs.Ytmnjhhachdlmkaa
