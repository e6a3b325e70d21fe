import Derived.Lib.AppendStr
import Derived.Deep.AppendLies
import Derived.Laws.StructEq
import Derived.Deep.RegionHeld
import Derived.Deep.RegionHeld3
import Derived.Lib.AppendZerosOnto
import Derived.Maps.OwnSet
import Derived.Test.YtmnjhhachdlmkaaGreatK01
namespace Go.Proofs.YtmnjhhachdlmkaaGreat
open Value renaming ownBlock -> lH
-- Frame
section
set_option maxRecDepth 100000
set_option maxHeartbeats 800000
open Go.RowKit
def fnvI (l : List UInt8) : Int := l.foldl (fun h b => IntKind.u64.wrap (bits .xor .u64 h (b.toNat : Int) * 1099511628211)) 14695981039346656037
theorem fnvI_snoc (l : List UInt8) (b : UInt8) : fnvI (l ++ [b]) = IntKind.u64.wrap (bits .xor .u64 (fnvI l) (b.toNat : Int) * 1099511628211) := by simp [fnvI]
theorem fnvI_range (l : List UInt8) : 0 <= fnvI l /\ fnvI l <= 18446744073709551615 := by
 rcases List.eq_nil_or_concat l with rfl | ⟨t, b, rfl⟩
 ·decide
 ·rw [List.concat_eq_append, fnvI_snoc, IntKind.wrap_u64]; omega
theorem sum_c (s : ByteArray) (hs : s.size <= 1000000000) (w : World) : Calls Tryz.prog 171 #[.string s] w fun e w' => e = .returned (.int .u64 (fnvI s.data.toList)) /\ w = w' := by
 go_enter Tryz.func171, Tryz.ntmps171
 go_wp2
 go_loop [3, 4, 7] (fun h _ i => ∃ k : Nat, k <= s.size /\ i = .int .i64 k /\ h = .int .u64 (fnvI (s.data.toList.take k))) (fun _ _ i => s.size - (intOf i).toNat)
 case atStart => exact ⟨0, Nat.zero_le _, rfl, rfl⟩
 case round =>
  obtain ⟨k, hk, rfl, rfl⟩ := hrel
  by_cases hlt : k < s.size
  ·have HS : Hid (fnvI (s.data.toList.take (k + 1)) = IntKind.u64.wrap (bits .xor .u64 (fnvI (s.data.toList.take k)) ((s[k]).toNat : Int) * 1099511628211)) := by
    have hl : k < s.data.toList.length := by simpa using hlt
    show fnvI (s.data.toList.take (k + 1)) = _
    rw [List.take_succ_eq_append_getElem hl, fnvI_snoc]
    rfl
   have hbw : IntKind.u64.wrap ((s[k]).toNat : Int) = ((s[k]).toNat : Int) := by rw [IntKind.wrap_u64]; have := (s[k]).toNat_lt; omega
   generalize fnvI (s.data.toList.take k) = h at *
   go_wp2
   go_round
   case rel => exact ⟨k + 1, by omega, by go_num, by rw [HS.out]⟩
   case measure => simp [intOf]; omega
  ·go_wp2
   go_ret
   exact ⟨ret_int (by rw [List.take_of_length_le (by simp; omega)]), rfl⟩
def frameB (l : List UInt8) : List UInt8 := (bytesOf l.length 4 ++ bytesOf (fnvI l).toNat 8) ++ l
theorem len_frameB (l : List UInt8) : (frameB l).length = 12 + l.length := by simp [frameB, len_bytesOf]; omega
theorem strCells_eq (s : ByteArray) : Lib.strCells s = byteV s.data.toList := by
 unfold Lib.strCells byteV
 rfl
theorem frame_c (s : ByteArray) (hs : s.size <= 1000000000) (w : World) : Calls Tryz.prog 128 #[.string s] w fun e w' => e = .returned (.string ⟨(frameB s.data.toList).toArray⟩) /\ Ext w w' := by
 obtain ⟨i0, hi, hz0, hz1, hz2⟩ := info_parts infoU8
 have hr := fnvI_range s.data.toList
 obtain ⟨h, hh⟩ : ∃ h : Nat, fnvI s.data.toList = (h : Int) := ⟨(fnvI s.data.toList).toNat, by omega⟩
 have HS : Hid _ := sum_c s hs
 rw [hh] at HS hr
 have HF : Hid (frameB s.data.toList = (bytesOf s.size 4 ++ bytesOf h 8) ++ s.data.toList) := by
  show frameB s.data.toList = _
  simp [frameB, hh]
 clear hh
 have hwr : IntKind.u64.wrap (s.size : Int) = (s.size : Int) := by rw [IntKind.wrap_u64]; omega
 go_enter Tryz.func128, Tryz.ntmps128
 go_wp2_with fail
 refine (put_b w.heap.size 0 (.slice none 0 0) [] s.size 4 (by omega) (by omega) w (World.ownsRow_nil _ _ _ _) (Nat.le_refl _) (by omega)).mono ?_
 rintro e w1 ⟨v1, rfl, ho1, hb1, _⟩
 have hl1 := hb1.size
 have hx1 : Ext w w1 := hb1
 clear hb1
 go_wp2_with fail
 refine (HS.out _).mono ?_
 rintro e w1' ⟨rfl, rfl⟩
 go_wp2_with fail
 refine (put_b w.heap.size _ v1 ([] ++ bytesOf s.size 4) h 8 (by omega) (by omega) w1 ho1 hl1 (by omega)).mono ?_
 rintro e w2 ⟨v2, rfl, ho2, hb2, _⟩
 have hl2 := hb2.size
 have hx2 : Ext w w2 := Below.trans hx1 hb2
 obtain ⟨g2, cp2, rfl, hg2, hg2'⟩ := ho2.form (by omega)
 clear ho1 hb2 hx1
 go_wp2_with (at_builtin; refine Lib.wpList_append_own_string _ rfl _ _ 136 9 rfl w.heap.size 5 i0 Tryz.underlying136 Tryz.underlying9 hi hz0 hz1 hz2 _ _ _ rfl ho2 s rfl ?c1 ?c2 ?c3 ?_)
 case c1 => unfold maxLen; omega
 case c2 => omega
 case c3 => omega
 intro v3 w3 ho3 hg3 _
 have hx3 : Ext w w3 := Ext.grown hx2 hg3 (fun k hk => by simp [lH] at hk; omega)
 obtain ⟨g3, cp3, rfl, _, _⟩ := ho3.form (by omega)
 have hcv : (convert 136 9 (.slice (some ⟨g3, 0, none⟩) (12 + s.size) cp3)).run Tryz.prog w3 = .ok (.string ⟨(frameB s.data.toList).toArray⟩) w3 := by
  refine conv_own (base := w.heap.size) (by rw [len_frameB]; simp) ?_
  rw [HF.out]
  have h3 := ho3
  rw [strCells_eq] at h3
  simpa [byteV_append] using h3
 clear ho3 hg3 ho2
 go_wp2
 go_ret
 exact ⟨rfl, hx3⟩
end
-- Eqs
section
theorem eqClass (d : Nat) (a b c e a' b' c' e' : Int) (w : World) : (Op.equalIn (d + 2) 49 (.agg #[.int .i64 a, .int .i64 b, .int .i64 c, .int .i64 e]) (.agg #[.int .i64 a', .int .i64 b', .int .i64 c', .int .i64 e'])).run Tryz.prog w =
  .ok (a == a' && (b == b' && (c == c' && e == e'))) w := by
 have u3 := Tryz.underlying3
 have a3 := Tryz.isAgg3
 have z3 := Tryz.sizeOf3
 have hS : Tryz.prog.underlying 49 = some (.struct (Tryz.prog.fieldsOf 49)) := by kernel_rfl
 have hp : Tryz.prog.stoodInHeld 49 = false := by kernel_rfl
 rw [show d + 2 = (d + 1) + 1 from rfl, run_equalIn_agg w (d + 1) 49 _ _ hS hp]
 simp only [Program.fieldsOf, Tryz.underlying49]
 go_simp
 by_cases h1 : a = a' <;> by_cases h2 : b = b' <;> by_cases h3 : c = c' <;> by_cases h4 : e = e' <;> simp [h1, h2, h3, h4]
theorem ite_ok {a b : Int} {B : Bool} {r : Result Bool} {w : World} (h : r = .ok B w) : (if a = b then r else .ok false w) = .ok (a == b && B) w := by
 by_cases e : a = b <;> simp [e, h]
theorem ite_last {a b : Int} {w : World} : (if a = b then Result.ok true w else .ok false w) = .ok (a == b) w := by
 by_cases e : a = b <;> simp [e]
theorem ite_cls {a b c e a' b' c' e' : Int} {B : Bool} {r : Result Bool} {w : World} (h : r = .ok B w) : (if a = a' -> b = b' -> c = c' -> ¬ e = e' then .ok false w else r) = .ok ((a == a' && (b == b' && (c == c' && e == e'))) && B) w := by
 by_cases h1 : a = a' <;> by_cases h2 : b = b' <;> by_cases h3 : c = c' <;> by_cases h4 : e = e' <;> simp [h1, h2, h3, h4, h]
theorem eqReq (a b c x1 x2 x3 x4 f g h a' b' c' x1' x2' x3' x4' f' g' h' : Int) (w : World) :
  (Op.equalIn 10000 51 (.agg #[.int .i64 a, .int .i64 b, .int .i64 c, .int .i64 x1, .int .i64 x2, .int .i64 x3, .int .i64 x4, .int .i64 f, .int .i64 g, .int .i64 h]) (.agg #[.int .i64 a', .int .i64 b', .int .i64 c', .int .i64 x1', .int .i64 x2', .int .i64 x3', .int .i64 x4', .int .i64 f', .int .i64 g', .int .i64 h'])).run Tryz.prog w =
  .ok (a == a' && (b == b' && (c == c' && ((x1 == x1' && (x2 == x2' && (x3 == x3' && x4 == x4'))) && (f == f' && (g == g' && h == h')))))) w := by
 have u3 := Tryz.underlying3
 have a3 := Tryz.isAgg3
 have z3 := Tryz.sizeOf3
 have a23 := Tryz.isAgg49
 have z23 := Tryz.sizeOf49
 have hS : Tryz.prog.underlying 51 = some (.struct (Tryz.prog.fieldsOf 51)) := by kernel_rfl
 have hp : Tryz.prog.stoodInHeld 51 = false := by kernel_rfl
 have hc := fun (a b c e a' b' c' e' : Int) (w : World) => eqClass 9997 a b c e a' b' c' e' w
 rw [show (10000 : Nat) = 9999 + 1 from rfl, run_equalIn_agg w 9999 51 _ _ hS hp]
 simp only [Program.fieldsOf, Tryz.underlying51]
 go_simp
 exact ite_ok (ite_ok (ite_ok (ite_cls (ite_ok (ite_ok ite_last)))))
end
-- Tri2
section
set_option maxRecDepth 100000
set_option maxHeartbeats 1600000
section
open Go.RowKit
def plusN (bt : Bool) (x y : Int) : Int := if bt then bits .xor .u64 x y else IntKind.u64.wrap (x + y)
def minusN (bt : Bool) (x y : Int) : Int := if bt then bits .xor .u64 x y else IntKind.u64.wrap (x - y)
def timesN (bt : Bool) (x y : Int) : Int := if bt then bits .and .u64 x y else IntKind.u64.wrap (x * y)
theorem wordsPlus_c (x y : Int) (w : World) : Calls Tryz.prog 231 #[.agg #[], .int .u64 x, .int .u64 y] w fun e w' => e = .returned (.int .u64 (plusN false x y)) /\ Ext w w' := by
 go_enter Tryz.func231, Tryz.ntmps231
 go_wp2
 go_ret
 exact ⟨rfl, (Ext.refl w).alloc _⟩
theorem wordsMinus_c (x y : Int) (w : World) : Calls Tryz.prog 230 #[.agg #[], .int .u64 x, .int .u64 y] w fun e w' => e = .returned (.int .u64 (minusN false x y)) /\ Ext w w' := by
 go_enter Tryz.func230, Tryz.ntmps230
 go_wp2
 go_ret
 exact ⟨rfl, (Ext.refl w).alloc _⟩
theorem wordsTimes_c (x y : Int) (w : World) : Calls Tryz.prog 232 #[.agg #[], .int .u64 x, .int .u64 y] w fun e w' => e = .returned (.int .u64 (timesN false x y)) /\ Ext w w' := by
 go_enter Tryz.func232, Tryz.ntmps232
 go_wp2
 go_ret
 exact ⟨rfl, (Ext.refl w).alloc _⟩
theorem bitsPlus_c (x y : Int) (w : World) : Calls Tryz.prog 228 #[.agg #[], .int .u64 x, .int .u64 y] w fun e w' => e = .returned (.int .u64 (plusN true x y)) /\ Ext w w' := by
 go_enter Tryz.func228, Tryz.ntmps228
 go_wp2
 go_ret
 exact ⟨rfl, (Ext.refl w).alloc _⟩
theorem bitsMinus_c (x y : Int) (w : World) : Calls Tryz.prog 227 #[.agg #[], .int .u64 x, .int .u64 y] w fun e w' => e = .returned (.int .u64 (minusN true x y)) /\ Ext w w' := by
 go_enter Tryz.func227, Tryz.ntmps227
 go_wp2
 go_ret
 exact ⟨rfl, (Ext.refl w).alloc _⟩
theorem bitsTimes_c (x y : Int) (w : World) : Calls Tryz.prog 229 #[.agg #[], .int .u64 x, .int .u64 y] w fun e w' => e = .returned (.int .u64 (timesN true x y)) /\ Ext w w' := by
 go_enter Tryz.func229, Tryz.ntmps229
 go_wp2
 go_ret
 exact ⟨rfl, (Ext.refl w).alloc _⟩
theorem isSide_c (n : Int) (w : World) : Calls Tryz.prog 135 #[.int .i64 n] w fun e w' => e = .returned (.bool (decide (1 <= n) && decide (n <= 3))) /\ w = w' := by
 go_enter Tryz.func135, Tryz.ntmps135
 go_wp2
 all_goals go_ret
 all_goals (refine ⟨ret_bool ?_, rfl⟩; simp [*]; try omega)
theorem mw_plus (w : World) : (method 417 284 (.agg #[]) "dealer/triple.plus").run Tryz.prog w = .ok (231, .agg #[]) w := by kernel_rfl
theorem mw_minus (w : World) : (method 417 284 (.agg #[]) "dealer/triple.minus").run Tryz.prog w = .ok (230, .agg #[]) w := by kernel_rfl
theorem mw_times (w : World) : (method 417 284 (.agg #[]) "dealer/triple.times").run Tryz.prog w = .ok (232, .agg #[]) w := by kernel_rfl
theorem mb_plus (w : World) : (method 417 283 (.agg #[]) "dealer/triple.plus").run Tryz.prog w = .ok (228, .agg #[]) w := by kernel_rfl
theorem mb_minus (w : World) : (method 417 283 (.agg #[]) "dealer/triple.minus").run Tryz.prog w = .ok (227, .agg #[]) w := by kernel_rfl
theorem mb_times (w : World) : (method 417 283 (.agg #[]) "dealer/triple.times").run Tryz.prog w = .ok (229, .agg #[]) w := by kernel_rfl
theorem infoU64 : (Tryz.prog.info? 146).map (fun i => (i.zero, i.size, i.bytes)) = some (some (.int .u64 0), 1, 8) := by kernel_rfl
def WordsAt (w : World) (b off : Nat) (zs : List Int) : Prop := ∀ i, i < zs.length -> w.cell? ⟨b, off + i, none⟩ = some (.int .u64 (zs.getD i 0))
theorem WordsAt.ext {w w' : World} {b off : Nat} {zs : List Int} (h : WordsAt w b off zs) (hx : Ext w w') : WordsAt w' b off zs := fun i hi => hx.cell (h i hi)
end
section
open Go.RowKit
theorem nw_minus (w : World) : (nilAhead 417 284 (.agg #[]) "dealer/triple.minus").run Tryz.prog w = .ok (some false) w := by kernel_rfl
theorem zip_snoc (f : Int -> Int -> Int) (zs ys : List Int) (k : Nat) (h : k < zs.length) (h2 : k < ys.length) :
  List.zipWith f (zs.take (k + 1)) (ys.take (k + 1)) = List.zipWith f (zs.take k) (ys.take k) ++ [f (zs.getD k 0) (ys.getD k 0)] := by
 rw [List.take_succ_eq_append_getElem h, List.take_succ_eq_append_getElem h2, List.zipWith_append (by simp; omega)]
 simp [List.getD_eq_getElem?_getD, List.getElem?_eq_getElem h, List.getElem?_eq_getElem h2]
theorem and_cell {a b : World} {p : Addr} {v : Value} (hc : a.cell? p = some v) (h : Ext a b) : b.cell? p = some v /\ Ext a b := ⟨h.cell hc, h⟩
theorem restW_c (b off cap b2 off2 cap2 n : Nat) (zs ys : List Int) (hn : zs.length = n) (hn2 : ys.length = n) (hsm : n <= 1000) (w : World) (hz : WordsAt w b off zs) (hy : WordsAt w b2 off2 ys) :
  Calls Tryz.prog 143 #[.iface 284 (.agg #[]), .slice (some ⟨b, off, none⟩) n cap, .slice (some ⟨b2, off2, none⟩) n cap2] w fun e w' =>
   ∃ v, e = .returned v /\ w'.ownsRow w.heap.size 146 1 v n ((List.zipWith (minusN false) zs ys).map (Value.int .u64)) /\ Ext w w' := by
 obtain ⟨i0, hi, hz0, hz1, hz2⟩ := info_parts infoU64
 have HZ : Hid (WordsAt w b off zs) := hz
 have HY : Hid (WordsAt w b2 off2 ys) := hy
 have HN : Hid (zs.length = n) := hn
 have HN2 : Hid (ys.length = n) := hn2
 have hm := mw_minus
 have hnw := nw_minus
 clear hz hy hn hn2
 go_enter Tryz.func143, Tryz.ntmps143
 go_wp2
 go_loopw [7, 8, 9, 12] (fun u _ _ i wr => ∃ k : Nat, k <= n /\ i = .int .i64 k /\ wr.ownsRow w.heap.size 146 1 u k ((List.zipWith (minusN false) (zs.take k) (ys.take k)).map (Value.int .u64)) /\ Ext w wr) (fun _ _ _ i _ => n - (intOf i).toNat)
 case atStart => exact ⟨0, Nat.zero_le _, rfl, World.ownsRow_nil _ _ _ _, Ext.refl _⟩
 case round =>
  obtain ⟨k, hk, rfl, ho, hx⟩ := hrel
  have hlow := fun q hq => (World.ownsRow.lt ho q hq).1
  have HO : Hid _ := ho
  clear ho
  by_cases hlt : k < n
  ·have e0 : wr.cell? ⟨b, off + k, none⟩ = some (.int .u64 (zs.getD k 0)) := hx.cell (HZ.out k (by have := HN.out; omega))
   have e1w : w.cell? ⟨b2, off2 + k, none⟩ = some (.int .u64 (ys.getD k 0)) := HY.out k (by have := HN2.out; omega)
   have e1 : wr.cell? ⟨b2, off2 + k, none⟩ = some (.int .u64 (ys.getD k 0)) := hx.cell (HY.out k (by have := HN2.out; omega))
   generalize hzk : zs.getD k 0 = z at *
   generalize hyk : ys.getD k 0 = y at *
   have hk0 : (0 : Int) <= (k : Int) := by omega
   have hk1 : (k : Int) < n := by omega
   go_wp2
   go_region_held3 (fun w' => w'.cell? ⟨b2, off2 + k, none⟩ = some (.int .u64 y) /\ Ext w w') (first
     | (refine and_cell e1w ?_; (repeat (first | with_reducible exact Ext.refl _ | with_reducible assumption | with_reducible refine Ext.drew ?_ | with_reducible refine Ext.alloc ?_ _ | with_reducible (apply Ext.chain; assumption))); done)
     | exact and_cell e1w (Ext.grown (Ext.alloc (Ext.chain hx2 (Ext.drew hx)) _) hgrow hlow))
    (first
      | (go_at_call 230; refine (wordsMinus_c _ _ _).mono ?_; rintro e w' ⟨rfl, hx2⟩)
      | (refine step_append_lies _ (by rfl) _ _ 31 (by rfl) w.heap.size 146 i0 (.int .u64 0) 1 8 Tryz.underlying31 hi hz0 hz1 hz2 (by rfl) (by decide) u7 k _ (by rfl) (Ext.owns (Ext.alloc (Ext.chain hx2 (Ext.drew (Ext.refl _))) _) HO.out) ⟨_, 0, none⟩ 1 1 [.int .u64 (minusN false z y)] (by rfl) (by rfl) (World.news_of_block (heap_alloc_new _ _)) (by simp [Value.oneCell']) (by decide) (by simp [maxLen]; omega) (by omega) (Nat.le_trans hx.le (Ext.le (Ext.alloc (Ext.chain hx2 (Ext.drew (Ext.refl _))) _))) _ rfl ?_; intro g cap3 w1 hown1 hgrow hat hlt1))
   have R : w1.ownsRow w.heap.size 146 1 (.slice (some ⟨g, 0, none⟩) (k + 1) cap3) (k + 1) ((List.zipWith (minusN false) (zs.take (k + 1)) (ys.take (k + 1))).map (Value.int .u64)) := by
    have h := hown1
    rw [zip_snoc (minusN false) zs ys k (by have := HN.out; omega) (by have := HN2.out; omega), hzk, hyk]
    simpa using h
   have R2 : Ext w w1 := Ext.grown (Ext.alloc (Ext.chain hx2 (Ext.drew hx)) _) hgrow hlow
   clear hown1 hgrow
   go_wp2
   go_roundw
   case rel => exact ⟨k + 1, by omega, by go_num, R, R2⟩
   case measure => simp [intOf]; omega
  ·obtain rfl : k = n := by omega
   go_wp2
   go_ret
   refine ⟨_, rfl, ?_, hx⟩
   have h := HO.out
   rw [List.take_of_length_le (by have := HN.out; omega), List.take_of_length_le (by have := HN2.out; omega)] at h
   exact h
end
section
open Go.RowKit
theorem nb_minus (w : World) : (nilAhead 417 283 (.agg #[]) "dealer/triple.minus").run Tryz.prog w = .ok (some false) w := by kernel_rfl
theorem restB_c (b off cap b2 off2 cap2 n : Nat) (zs ys : List Int) (hn : zs.length = n) (hn2 : ys.length = n) (hsm : n <= 1000) (w : World) (hz : WordsAt w b off zs) (hy : WordsAt w b2 off2 ys) :
  Calls Tryz.prog 143 #[.iface 283 (.agg #[]), .slice (some ⟨b, off, none⟩) n cap, .slice (some ⟨b2, off2, none⟩) n cap2] w fun e w' =>
   ∃ v, e = .returned v /\ w'.ownsRow w.heap.size 146 1 v n ((List.zipWith (minusN true) zs ys).map (Value.int .u64)) /\ Ext w w' := by
 obtain ⟨i0, hi, hz0, hz1, hz2⟩ := info_parts infoU64
 have HZ : Hid (WordsAt w b off zs) := hz
 have HY : Hid (WordsAt w b2 off2 ys) := hy
 have HN : Hid (zs.length = n) := hn
 have HN2 : Hid (ys.length = n) := hn2
 have hm := mb_minus
 have hnw := nb_minus
 clear hz hy hn hn2
 go_enter Tryz.func143, Tryz.ntmps143
 go_wp2
 go_loopw [7, 8, 9, 12] (fun u _ _ i wr => ∃ k : Nat, k <= n /\ i = .int .i64 k /\ wr.ownsRow w.heap.size 146 1 u k ((List.zipWith (minusN true) (zs.take k) (ys.take k)).map (Value.int .u64)) /\ Ext w wr) (fun _ _ _ i _ => n - (intOf i).toNat)
 case atStart => exact ⟨0, Nat.zero_le _, rfl, World.ownsRow_nil _ _ _ _, Ext.refl _⟩
 case round =>
  obtain ⟨k, hk, rfl, ho, hx⟩ := hrel
  have hlow := fun q hq => (World.ownsRow.lt ho q hq).1
  have HO : Hid _ := ho
  clear ho
  by_cases hlt : k < n
  ·have e0 : wr.cell? ⟨b, off + k, none⟩ = some (.int .u64 (zs.getD k 0)) := hx.cell (HZ.out k (by have := HN.out; omega))
   have e1w : w.cell? ⟨b2, off2 + k, none⟩ = some (.int .u64 (ys.getD k 0)) := HY.out k (by have := HN2.out; omega)
   have e1 : wr.cell? ⟨b2, off2 + k, none⟩ = some (.int .u64 (ys.getD k 0)) := hx.cell (HY.out k (by have := HN2.out; omega))
   generalize hzk : zs.getD k 0 = z at *
   generalize hyk : ys.getD k 0 = y at *
   have hk0 : (0 : Int) <= (k : Int) := by omega
   have hk1 : (k : Int) < n := by omega
   go_wp2
   go_region_held3 (fun w' => w'.cell? ⟨b2, off2 + k, none⟩ = some (.int .u64 y) /\ Ext w w') (first
     | (refine and_cell e1w ?_; (repeat (first | with_reducible exact Ext.refl _ | with_reducible assumption | with_reducible refine Ext.drew ?_ | with_reducible refine Ext.alloc ?_ _ | with_reducible (apply Ext.chain; assumption))); done)
     | exact and_cell e1w (Ext.grown (Ext.alloc (Ext.chain hx2 (Ext.drew hx)) _) hgrow hlow))
    (first
      | (go_at_call 227; refine (bitsMinus_c _ _ _).mono ?_; rintro e w' ⟨rfl, hx2⟩)
      | (refine step_append_lies _ (by rfl) _ _ 31 (by rfl) w.heap.size 146 i0 (.int .u64 0) 1 8 Tryz.underlying31 hi hz0 hz1 hz2 (by rfl) (by decide) u7 k _ (by rfl) (Ext.owns (Ext.alloc (Ext.chain hx2 (Ext.drew (Ext.refl _))) _) HO.out) ⟨_, 0, none⟩ 1 1 [.int .u64 (minusN true z y)] (by rfl) (by rfl) (World.news_of_block (heap_alloc_new _ _)) (by simp [Value.oneCell']) (by decide) (by simp [maxLen]; omega) (by omega) (Nat.le_trans hx.le (Ext.le (Ext.alloc (Ext.chain hx2 (Ext.drew (Ext.refl _))) _))) _ rfl ?_; intro g cap3 w1 hown1 hgrow hat hlt1))
   have R : w1.ownsRow w.heap.size 146 1 (.slice (some ⟨g, 0, none⟩) (k + 1) cap3) (k + 1) ((List.zipWith (minusN true) (zs.take (k + 1)) (ys.take (k + 1))).map (Value.int .u64)) := by
    have h := hown1
    rw [zip_snoc (minusN true) zs ys k (by have := HN.out; omega) (by have := HN2.out; omega), hzk, hyk]
    simpa using h
   have R2 : Ext w w1 := Ext.grown (Ext.alloc (Ext.chain hx2 (Ext.drew hx)) _) hgrow hlow
   clear hown1 hgrow
   go_wp2
   go_roundw
   case rel => exact ⟨k + 1, by omega, by go_num, R, R2⟩
   case measure => simp [intOf]; omega
  ·obtain rfl : k = n := by omega
   go_wp2
   go_ret
   refine ⟨_, rfl, ?_, hx⟩
   have h := HO.out
   rw [List.take_of_length_le (by have := HN.out; omega), List.take_of_length_le (by have := HN2.out; omega)] at h
   exact h
end
end
-- Tri3
section
set_option maxRecDepth 100000
set_option maxHeartbeats 1600000
open Go.RowKit
theorem nw_plus (w : World) : (nilAhead 417 284 (.agg #[]) "dealer/triple.plus").run Tryz.prog w = .ok (some false) w := by kernel_rfl
theorem nw_times (w : World) : (nilAhead 417 284 (.agg #[]) "dealer/triple.times").run Tryz.prog w = .ok (some false) w := by kernel_rfl
def dotN (bt : Bool) (zs ys : List Int) (k n r c : Nat) : Nat -> Int
 | 0 => 0
 | i + 1 => plusN bt (dotN bt zs ys k n r c i) (timesN bt (zs.getD (r * k + i) 0) (ys.getD (i * n + c) 0))
def rowN (bt : Bool) (zs ys : List Int) (k n r c : Nat) : List Int := (List.range c).map fun j => dotN bt zs ys k n r j k
def matN (bt : Bool) (zs ys : List Int) (k n r : Nat) : List Int := (List.range r).flatMap fun i => rowN bt zs ys k n i n
theorem rowN_succ (bt : Bool) (zs ys : List Int) (k n r c : Nat) : rowN bt zs ys k n r (c + 1) = rowN bt zs ys k n r c ++ [dotN bt zs ys k n r c k] := by
 simp [rowN, List.range_succ]
theorem matN_succ (bt : Bool) (zs ys : List Int) (k n r : Nat) : matN bt zs ys k n (r + 1) = matN bt zs ys k n r ++ rowN bt zs ys k n r n := by
 simp [matN, List.range_succ]
theorem mul_add_lt {r m k q : Nat} (h : r < m) (g : q < k) : r * k + q < m * k := by
 have := Nat.mul_le_mul (show r + 1 <= m by omega) (Nat.le_refl k)
 rw [Nat.add_mul] at this; omega
theorem wrap_small {x : Nat} (h : x <= 1000000) : IntKind.i64.wrap (x : Int) = x := by
 exact i64w (by omega) (by omega)
theorem and_cell4 {a b : World} {p1 p2 p3 p4 : Addr} {v1 v2 v3 v4 : Value} (h1 : a.cell? p1 = some v1) (h2 : a.cell? p2 = some v2) (h3 : a.cell? p3 = some v3) (h4 : a.cell? p4 = some v4) (h : Ext a b) :
  (b.cell? p1 = some v1 /\ b.cell? p2 = some v2 /\ b.cell? p3 = some v3 /\ b.cell? p4 = some v4) /\ Ext a b := ⟨⟨h.cell h1, h.cell h2, h.cell h3, h.cell h4⟩, h⟩
theorem matW_c (b off cap b2 off2 cap2 p m k n la lb : Nat) (zs ys : List Int) (hla : la = m * k) (hlb : lb = k * n) (hn : zs.length = la) (hn2 : ys.length = lb) (hm : m <= 3) (hk : k <= 3) (hnn : n <= 3) (w : World) (hz : WordsAt w b off zs) (hy : WordsAt w b2 off2 ys) :
  Calls Tryz.prog 174 #[.iface 284 (.agg #[]), .agg #[.int .i64 p, .int .i64 m, .int .i64 k, .int .i64 n], .slice (some ⟨b, off, none⟩) la cap, .slice (some ⟨b2, off2, none⟩) lb cap2] w fun e w' =>
   ∃ v, e = .returned v /\ w'.ownsRow w.heap.size 146 1 v (m * n) ((matN false zs ys k n m).map (Value.int .u64)) /\ Ext w w' := by
 obtain ⟨i0, hi, hz0, hz1, hz2⟩ := info_parts infoU64
 have HZ : Hid (WordsAt w b off zs) := hz
 have HY : Hid (WordsAt w b2 off2 ys) := hy
 have HN : Hid (zs.length = la) := hn
 have HN2 : Hid (ys.length = lb) := hn2
 have HLA : Hid (la = m * k) := hla
 have HLB : Hid (lb = k * n) := hlb
 have hm1 := mw_plus
 have hm2 := mw_times
 have hnw := nw_plus
 have hnt := nw_times
 clear hz hy hn hn2 hla hlb
 go_enter Tryz.func174, Tryz.ntmps174
 go_wp2
 generalize hW : World.alloc w _ = W
 have hxW : Ext w W := hW ▸ (Ext.refl w).alloc _
 have hb : W.heap[w.heap.size]? = some (.cells #[.int .i64 p, .int .i64 m, .int .i64 k, .int .i64 n] 240) := by rw [<- hW]; exact heap_alloc_new w _
 have hs1 : W.cell? ⟨w.heap.size, 1, none⟩ = some (.int .i64 m) := by rw [cell_of_row W _ 1 _ _ _ hb]; rfl
 have hs2 : W.cell? ⟨w.heap.size, 2, none⟩ = some (.int .i64 k) := by rw [cell_of_row W _ 2 _ _ _ hb]; rfl
 have hs3 : W.cell? ⟨w.heap.size, 3, none⟩ = some (.int .i64 n) := by rw [cell_of_row W _ 3 _ _ _ hb]; rfl
 clear hb
 have HXW : Hid (Ext w W) := hxW
 clear hxW hW
 go_loopw [9, 16] (fun u i wr => ∃ r : Nat, r <= m /\ i = .int .i64 r /\ wr.ownsRow W.heap.size 146 1 u (r * n) ((matN false zs ys k n r).map (Value.int .u64)) /\ Ext W wr) (fun _ i _ => m - (intOf i).toNat)
 case atStart => exact ⟨0, Nat.zero_le _, rfl, by rw [Nat.zero_mul]; exact World.ownsRow_nil _ _ _ _, Ext.refl _⟩
 case round =>
  obtain ⟨r, hr, rfl, ho, hx⟩ := hrel
  have HO : Hid _ := ho
  clear ho
  by_cases hlt : r < m
  ·have f1 := hx.cell hs1
   have f2 := hx.cell hs2
   have f3 := hx.cell hs3
   have g1 := Nat.mul_le_mul hr (Nat.le_refl n)
   have hrk := Nat.mul_le_mul (show r <= 2 by omega) hk
   go_wp2
   go_loopw [9, 21] (fun u i ws => ∃ c : Nat, c <= n /\ i = .int .i64 c /\ ws.ownsRow W.heap.size 146 1 u (r * n + c) ((matN false zs ys k n r ++ rowN false zs ys k n r c).map (Value.int .u64)) /\ Ext W ws) (fun _ i _ => n - (intOf i).toNat)
   case atStart => exact ⟨0, Nat.zero_le _, rfl, by rw [show rowN false zs ys k n r 0 = [] from rfl, List.append_nil]; exact HO.out, hx⟩
   case round =>
    clear f1 f2 f3 HO hx
    obtain ⟨c, hc, rfl, ho, hx⟩ := hrel
    rename World => W2
    have hlow := fun q hq => (World.ownsRow.lt ho q hq).1
    have HO : Hid _ := ho
    clear ho
    by_cases hlc : c < n
    ·have f2 := hx.cell hs2
     have f3 := hx.cell hs3
     go_wp2
     go_loopw [12, 26] (fun u i wt => ∃ q : Nat, q <= k /\ i = .int .i64 q /\ u = .int .u64 (dotN false zs ys k n r c q) /\ Ext W2 wt) (fun _ i _ => k - (intOf i).toNat)
     case atStart => exact ⟨0, Nat.zero_le _, rfl, rfl, Ext.refl _⟩
     case round =>
      obtain ⟨q, hq, rfl, rfl, hx3⟩ := hrel
      by_cases hlq : q < k
      ·have e0w := (HXW.out.trans hx).cell (HZ.out (r * k + q) (by rw [HN.out, HLA.out]; exact mul_add_lt hlt hlq))
       have e1w := (HXW.out.trans hx).cell (HY.out (q * n + c) (by rw [HN2.out, HLB.out]; exact mul_add_lt hlq hlc))
       have b0 : r * k + q < la := by rw [HLA.out]; exact mul_add_lt hlt hlq
       have b1 : q * n + c < lb := by rw [HLB.out]; exact mul_add_lt hlq hlc
       have hqn := Nat.mul_le_mul (show q <= 2 by omega) hnn
       have v1 : IntKind.i64.wrap ((r : Int) * (k : Int)) = ((r * k : Nat) : Int) := by rw [<- Int.natCast_mul]; exact wrap_small (by omega)
       have v2 : IntKind.i64.wrap ((q : Int) * (n : Int)) = ((q * n : Nat) : Int) := by rw [<- Int.natCast_mul]; exact wrap_small (by omega)
       have hD : dotN false zs ys k n r c (q + 1) = plusN false (dotN false zs ys k n r c q) (timesN false (zs.getD (r * k + q) 0) (ys.getD (q * n + c) 0)) := rfl
       generalize hzk : zs.getD (r * k + q) 0 = z at *
       generalize hyk : ys.getD (q * n + c) 0 = y at *
       generalize hdd : dotN false zs ys k n r c q = dd at *
       generalize r * k = rk at *
       generalize q * n = qn at *
       have s1 : (rk : Int) + (q : Int) = ((rk + q : Nat) : Int) := by omega
       have s2 : (qn : Int) + (c : Int) = ((qn + c : Nat) : Int) := by omega
       have v3 : IntKind.i64.wrap ((rk : Int) + (q : Int)) = ((rk + q : Nat) : Int) := by rw [s1]; exact wrap_small (by omega)
       have v4 : IntKind.i64.wrap ((qn : Int) + (c : Int)) = ((qn + c : Nat) : Int) := by rw [s2]; exact wrap_small (by omega)
       generalize hx1 : rk + q = x1 at *
       generalize hx2 : qn + c = x2 at *
       clear s1 s2 hx1 hx2 hrk hqn g1
       have d0 : (0 : Int) <= (x1 : Int) := by omega
       have d1 : (x1 : Int) < la := by omega
       have d2 : (0 : Int) <= (x2 : Int) := by omega
       have d3 : (x2 : Int) < lb := by omega
       have j1 := hx3.cell f2
       have j2 := hx3.cell f3
       have j3 := hx3.cell e0w
       have j4 := hx3.cell e1w
       go_wp2
       go_region_held3 (fun w' => (w'.cell? ⟨w.heap.size, 2, none⟩ = some (.int .i64 k) /\ w'.cell? ⟨w.heap.size, 3, none⟩ = some (.int .i64 n) /\ w'.cell? ⟨b, off + x1, none⟩ = some (.int .u64 z) /\ w'.cell? ⟨b2, off2 + x2, none⟩ = some (.int .u64 y)) /\ Ext W2 w')
        ((refine and_cell4 f2 f3 e0w e1w ?_; (repeat (first | with_reducible exact Ext.refl _ | with_reducible assumption | with_reducible refine Ext.drew ?_ | with_reducible refine Ext.alloc ?_ _ | with_reducible (apply Ext.chain; assumption))); done))
        (first
          | (go_at_call 232; refine (wordsTimes_c _ _ _).mono ?_; rintro e w1 ⟨rfl, hx4⟩)
          | (go_at_call 231; refine (wordsPlus_c _ _ _).mono ?_; rintro e w2 ⟨rfl, hx5⟩))
       all_goals (go_wp2; go_roundw)
       all_goals first
        | (refine ⟨q + 1, by omega, by go_num, by rw [hD], ?_⟩; (repeat (first | with_reducible exact Ext.refl _ | with_reducible assumption | with_reducible refine Ext.drew ?_ | with_reducible refine Ext.alloc ?_ _ | with_reducible (apply Ext.chain; assumption))); done)
        | (simp [intOf]; omega)
      ·obtain rfl : q = k := by omega
       have hxx : Ext W _ := hx.trans hx3
       have ho2 := Ext.owns hx3 HO.out
       have hbase := hxx.le
       go_wp2_with (at_builtin; refine wpList_append_own _ rfl _ _ 31 rfl W.heap.size 146 i0 (.int .u64 0) 1 8 Tryz.underlying31 hi hz0 hz1 hz2 rfl (by decide) _ _ _ rfl (World.ownsRow.alloc ho2 _) ⟨_, 0, none⟩ 1 1 [.int .u64 (dotN false zs ys q n r c q)] rfl rfl ?c1 ?c2 ?c3 ?c4 ?c5 ?_)
       case c1 => exact cell_one_new _ _ _
       case c2 => intro u hu; simp at hu; subst hu; rfl
       case c3 => have := Nat.mul_le_mul (show r <= 3 by omega) hnn; unfold maxLen; omega
       case c4 => have := Nat.mul_le_mul (show r <= 3 by omega) hnn; omega
       case c5 => simp; omega
       ·intro v' w1 hown' hgrow _
        have R : w1.ownsRow W.heap.size 146 1 v' (r * n + (c + 1)) ((matN false zs ys q n r ++ rowN false zs ys q n r (c + 1)).map (Value.int .u64)) := by
         rw [rowN_succ, List.map_append, List.map_append, <- Nat.add_assoc]; exact hown'
        have R2 : Ext W w1 := Ext.grown (hxx.alloc _) hgrow hlow
        clear hown' hgrow
        go_wp2
        go_roundw
        case rel => exact ⟨c + 1, by omega, by go_num, R, R2⟩
        case measure => simp [intOf]; omega
    ·obtain rfl : c = n := by omega
     have R : World.ownsRow W2 W.heap.size 146 1 u9 ((r + 1) * c) ((matN false zs ys k c (r + 1)).map (Value.int .u64)) := by
      rw [matN_succ, Nat.add_mul, Nat.one_mul]; exact HO.out
     go_wp2
     go_roundw
     case rel => exact ⟨r + 1, by omega, by go_num, R, hx⟩
     case measure => simp [intOf]; omega
  ·obtain rfl : r = m := by omega
   go_wp2
   go_ret
   exact ⟨_, rfl, owns_base HO.out HXW.out.le, HXW.out.trans hx⟩
end
-- ConcatW
section
set_option maxRecDepth 100000
set_option maxHeartbeats 800000
open Go.RowKit
theorem growW_c (n : Nat) (hn : 1 <= n) (hn2 : n <= 1000) (w : World) :
  Calls Tryz.prog 173 #[.slice none 0 0, .int .i64 n] w fun e w' => ∃ v, e = .returned v /\ w'.ownsRow w.heap.size 146 1 v 0 [] /\ Ext w w' := by
 obtain ⟨i0, hi, hz0, hz1, hz2⟩ := info_parts infoU64
 obtain ⟨G, cur, hG1, hG2, hcs, hrz⟩ : ∃ (G : Nat) (cur : Array Value), n <= G /\ G <= maxLen /\ cur.size = G /\ ∀ ty, (Builtin.append_ #[31, 3] ty #[.slice none 0 0, .int .i64 n]).run Tryz.prog w =
   .ok (.slice (some ⟨w.heap.size, 0, none⟩) n G) (w.drew.alloc (.cells cur 146)) := by
  have h := fun ty => Lib.run_append_grow_zeros (P := Tryz.prog) w 31 3 ty 146 i0 _ .i64 .i64 Tryz.underlying31 Tryz.underlying3 hi hz0 none 0 0 [] (by rw [hz1]; exact run_firstCells_none w.drew 1 0 0 0) n (by omega) (by omega) (by omega) (by omega) (by rw [hz2]; omega)
    (by rw [hz2]; exact growslice_fits (by omega) (by omega))
  simp only [Nat.zero_add] at h
  refine ⟨_, _, ?_, ?_, ?_, h⟩
  ·exact grownCap_ge w _ _ _
  ·exact grownCap_le_maxLen w _ _ _ (by unfold maxLen; omega)
  ·have := grownCap_ge w n 0 146
   simp [size_zeroCells, Value.cells]
   omega
 have HC : Hid (cur.size = G) := hcs
 have HG : Hid (n <= G /\ G <= maxLen) := ⟨hG1, hG2⟩
 unfold maxLen at hG2
 clear hcs
 go_enter Tryz.func173, Tryz.ntmps173
 go_wp2_with (at_builtin; refine Lib.wpList_append_run _ rfl _ _ _ _ rfl _ _ rfl rfl _ _ (hrz _) ?_)
 go_ret
 refine ⟨_, rfl, World.ownsRow_made w.drew cur G (Nat.le_refl _) HG.out.2 (by rw [Nat.mul_one]; exact HC.out), (Ext.refl w).drew.alloc _⟩
structure URow where
 b : Nat
 off : Nat
 n : Nat
 cap : Nat
 zs : List Int
def URow.val (r : URow) : Value := .slice (some ⟨r.b, r.off, none⟩) r.n r.cap
def URow.ok (r : URow) (w : World) : Prop := WordsAt w r.b r.off r.zs /\ 1 <= r.n /\ r.n <= 30 /\ r.zs.length = r.n
def sumU (rs : List URow) : Nat := (rs.map (·.n)).sum
def flatU (rs : List URow) : List Value := rs.flatMap fun r => r.zs.map (Value.int .u64)
theorem sumU_snoc (rs : List URow) (r : URow) : sumU (rs ++ [r]) = sumU rs + r.n := by simp [sumU]
theorem flatU_snoc (rs : List URow) (r : URow) : flatU (rs ++ [r]) = flatU rs ++ r.zs.map (Value.int .u64) := by simp [flatU]
theorem sumU_le (rs : List URow) (w : World) (h : ∀ r ∈ rs, r.ok w) : sumU rs <= rs.length * 30 := by
 induction rs with
 | nil => simp [sumU]
 | cons r t ih =>
  have h1 := (h r (by simp)).2.2.1
  have h2 := ih (fun x hx => h x (by simp [hx]))
  simp [sumU] at h2 ⊢
  omega
theorem words_one (zs : List Int) : ∀ u ∈ zs.map (Value.int .u64), u.oneCell' = true := by
 intro u hu
 obtain ⟨x, _, rfl⟩ := List.mem_map.1 hu
 rfl
theorem WordsAt.cells {w : World} {b off : Nat} {zs : List Int} (h : WordsAt w b off zs) : ∀ j u, (zs.map (Value.int .u64))[j]? = some u -> w.cell? ((⟨b, off, none⟩ : Addr).add j) = some u := by
 intro j u hu
 rw [List.getElem?_map] at hu
 obtain ⟨x, hx, rfl⟩ := Option.map_eq_some_iff.1 hu
 have hj := (List.getElem?_eq_some_iff.1 hx).1
 have := h j hj
 rw [List.getD_eq_getElem?_getD, hx] at this
 rw [show (⟨b, off, none⟩ : Addr).add j = ⟨b, off + j, none⟩ by simp [Addr.add]]
 simpa using this
theorem concatW_c (g m : Nat) (rs : List URow) (w : World) (hM : rs.length = m) (hm1 : 1 <= m) (hm2 : m <= 10) (hrs : ∀ r ∈ rs, r.ok w) (hc : ∀ (i : Nat) (h : i < rs.length), w.cell? ⟨g, i, none⟩ = some rs[i].val) :
  Calls Tryz.prog 141 #[.slice (some ⟨g, 0, none⟩) m m] w fun e w' =>
   ∃ v, e = .returned v /\ w'.ownsRow w.heap.size 146 1 v (sumU rs) (flatU rs) /\ Ext w w' := by
 obtain ⟨i0, hi, hz0, hz1, hz2⟩ := info_parts infoU64
 have HL : Hid (∀ k, sumU (rs.take k) <= 300) := fun k => by
  have h1 := sumU_le (rs.take k) w (fun r hr => hrs r (List.mem_of_mem_take hr))
  have h2 := List.length_take_le k rs
  have h3 := List.length_take_le' k rs
  omega
 have HR : Hid (∀ r ∈ rs, r.ok w) := hrs
 have HC : Hid (∀ (i : Nat) (h : i < rs.length), w.cell? ⟨g, i, none⟩ = some rs[i].val) := hc
 have H1 : Hid (1 <= sumU rs) := by
  match rs, (show 1 <= rs.length by omega), hrs with
  | r :: t, _, hrs =>
   have := (hrs r (by simp)).2.1
   show 1 <= sumU (r :: t)
   simp [sumU]; omega
 have hT : ∀ k (h : k < rs.length), rs.take (k + 1) = rs.take k ++ [rs[k]] := fun k h => List.take_succ_eq_append_getElem h
 have HT : Hid _ := hT
 clear hrs hc hT
 have HM : Hid (rs.length = m) := hM
 clear hM
 go_enter Tryz.func141, Tryz.ntmps141
 go_wp2
 go_loop [3, 5, 11] (fun t _ i => ∃ k : Nat, k <= m /\ i = .int .i64 k /\ t = .int .i64 (sumU (rs.take k))) (fun _ _ i => m - (intOf i).toNat)
 case atStart => exact ⟨0, Nat.zero_le _, rfl, rfl⟩
 case round =>
  obtain ⟨k, hk, rfl, rfl⟩ := hrel
  have hL := HL.out k
  by_cases hlt : k < m
  ·have hlt' : k < rs.length := by have := HM.out; omega
   have hcx : w.cell? ⟨g, k, none⟩ = some (.slice (some ⟨rs[k].b, rs[k].off, none⟩) rs[k].n rs[k].cap) := HC.out k (by have := HM.out; omega)
   have hn1 := (HR.out rs[k] (List.getElem_mem hlt')).2.1
   have hn2 := (HR.out rs[k] (List.getElem_mem hlt')).2.2.1
   have HS : Hid (sumU (rs.take (k + 1)) = sumU (rs.take k) + rs[k].n) := by
    show sumU (rs.take (k + 1)) = sumU (rs.take k) + rs[k].n
    rw [HT.out k hlt', sumU_snoc]
   generalize rs[k] = r at *
   generalize sumU (rs.take k) = S at *
   go_wp2
   go_round
   case rel => exact ⟨k + 1, by omega, by go_num, by rw [HS.out]; go_num⟩
   case measure => simp [intOf]; omega
  ·obtain rfl : m = k := by omega
   have eS : rs.take m = rs := List.take_of_length_le (by have := HM.out; omega)
   rw [eS] at hL ⊢
   have h1 := H1.out
   clear eS
   go_wp2_with fail
   refine (growW_c _ h1 (by omega) _).mono ?_
   rintro e w1 ⟨v, rfl, ho0, hx0⟩
   go_wp2
   go_loopw [6, 8, 27] (fun u _ i wr => ∃ k : Nat, k <= m /\ i = .int .i64 k /\ wr.ownsRow w.heap.size 146 1 u (sumU (rs.take k)) (flatU (rs.take k)) /\ Ext w wr) (fun _ _ i _ => m - (intOf i).toNat)
   case atStart => exact ⟨0, Nat.zero_le _, rfl, ho0, hx0⟩
   case round =>
    obtain ⟨j, hj, rfl, ho, hx⟩ := hrel
    have hLj := HL.out j
    clear ho0 hx0
    by_cases hlt : j < m
    ·have hlt' : j < rs.length := by have := HM.out; omega
     have hcx : wr.cell? ⟨g, j, none⟩ = some (.slice (some ⟨rs[j].b, rs[j].off, none⟩) rs[j].n rs[j].cap) := hx.cell (HC.out j hlt')
     obtain ⟨hro, hn1, hn2, hzl⟩ := HR.out rs[j] (List.getElem_mem hlt')
     have HRO : Hid (WordsAt wr rs[j].b rs[j].off rs[j].zs) := hro.ext hx
     have HZL : Hid (rs[j].zs.length = rs[j].n) := hzl
     have HS : Hid (sumU (rs.take (j + 1)) = sumU (rs.take j) + rs[j].n) := by
      show sumU (rs.take (j + 1)) = sumU (rs.take j) + rs[j].n
      rw [HT.out j hlt', sumU_snoc]
     have HF : Hid (flatU (rs.take (j + 1)) = flatU (rs.take j) ++ rs[j].zs.map (Value.int .u64)) := by
      show flatU (rs.take (j + 1)) = flatU (rs.take j) ++ rs[j].zs.map (Value.int .u64)
      rw [HT.out j hlt', flatU_snoc]
     clear hro hzl
     generalize rs[j] = r at *
     generalize sumU (rs.take j) = S at *
     generalize flatU (rs.take j) = X at *
     have hsz := hx.le
     go_wp2_with (at_builtin; refine wpList_append_own _ rfl _ _ 31 rfl w.heap.size 146 i0 _ 1 8 Tryz.underlying31 hi hz0 hz1 hz2 rfl (by decide) _ _ _ rfl ho ⟨r.b, r.off, none⟩ r.n r.cap (r.zs.map (Value.int .u64)) rfl (by simp [HZL.out]) ?c1 ?c2 ?c3 ?c4 ?c5 ?_)
     case c1 => exact HRO.out.cells
     case c2 => exact words_one _
     case c3 => unfold maxLen; omega
     case c4 => omega
     case c5 => omega
     ·intro v' w2 hown' hgrow _
      have R2 : Ext w w2 := Ext.grown hx hgrow (fun k hk => (ho.lt k hk).1)
      have R : w2.ownsRow w.heap.size 146 1 v' (sumU (rs.take (j + 1))) (flatU (rs.take (j + 1))) := by
       rw [HS.out, HF.out]; exact hown'
      clear hown' hgrow ho hx
      go_wp2
      go_roundw
      case rel => exact ⟨j + 1, by omega, by go_num, R, R2⟩
      case measure => simp [intOf]; omega
    ·obtain rfl : m = j := by omega
     have eS : rs.take m = rs := List.take_of_length_le (by have := HM.out; omega)
     rw [eS] at ho
     clear eS
     go_wp2
     go_ret
     exact ⟨_, rfl, ho, hx⟩
theorem eql_slice_nil (b off n cap : Nat) (w : World) : (binOp BinOp.eql 31 (.slice (some ⟨b, off, none⟩) n cap) (.slice none 0 0)).run Tryz.prog w = .ok (.bool false) w := by kernel_rfl
theorem cloneW_c (b off n cap : Nat) (zs : List Int) (hn : zs.length = n) (h1 : 1 <= n) (h2 : n <= 100) (w : World) (hz : WordsAt w b off zs) :
  Calls Tryz.prog 140 #[.slice (some ⟨b, off, none⟩) n cap] w fun e w' =>
   ∃ v, e = .returned v /\ w'.ownsRow w.heap.size 146 1 v n (zs.map (Value.int .u64)) /\ Ext w w' := by
 obtain ⟨i0, hi, hz0, hz1, hz2⟩ := info_parts infoU64
 have HZ : Hid (WordsAt w b off zs) := hz
 have HN : Hid (zs.length = n) := hn
 clear hz hn
 have hq := eql_slice_nil b off n cap w
 go_enter Tryz.func140, Tryz.ntmps140
 go_wp2_with (at_builtin; refine wpList_append_own _ rfl _ _ 31 rfl w.heap.size 146 i0 _ 1 8 Tryz.underlying31 hi hz0 hz1 hz2 rfl (by decide) _ _ _ rfl (World.ownsRow_lit (base := w.heap.size) w #[] 0 (Nat.le_refl _) (by decide) rfl) ⟨b, off, none⟩ n cap (zs.map (Value.int .u64)) rfl (by simp [HN.out]) ?c1 ?c2 ?c3 ?c4 ?c5 ?_)
 case c1 => exact (HZ.out.ext ((Ext.refl w).alloc _)).cells
 case c2 => exact words_one _
 case c3 => unfold maxLen; omega
 case c4 => omega
 case c5 => simp
 intro v' w1 hown hgrow _
 go_wp2
 go_ret
 refine ⟨_, rfl, by simpa using hown, Ext.grown ((Ext.refl w).alloc _) hgrow (fun k hk => ?_)⟩
 simp [lH] at hk
 omega
end
-- Len
section
set_option maxRecDepth 100000
set_option maxHeartbeats 3200000
section
open Go.RowKit
def clsV (kd m k n : Int) : Value := .agg #[.int .i64 kd, .int .i64 m, .int .i64 k, .int .i64 n]
def isCls (kd m k n : Int) : Bool :=
 if kd = 0 then decide (m = 1) && (decide (k = 1) && decide (n = 1))
 else if kd = 1 then (decide (1 <= m) && decide (m <= 3)) && ((decide (1 <= k) && decide (k <= 3)) && (decide (1 <= n) && decide (n <= 3)))
 else if kd = 2 then (decide (1 <= m) && decide (m <= 3)) && (decide (k = 1) && decide (n = 1))
 else false
theorem isClass_c (kd m k n : Int) (w : World) : Calls Tryz.prog 95 #[clsV kd m k n] w fun e w' => e = .returned (.bool (isCls kd m k n)) /\ Ext w w' := by
 unfold clsV
 go_enter Tryz.func95, Tryz.ntmps95
 go_wp2_with (first | (go_at_call 135; refine (isSide_c _ _).mono ?_; rintro e w' ⟨rfl, rfl⟩) | go_in)
 all_goals go_ret
 all_goals (refine ⟨ret_bool (Bool.eq_iff_iff.2 ?_), (Ext.refl w).alloc _⟩; simp_all [isCls])
 all_goals (try omega)
theorem shapeB_c (m k n : Int) (w : World) : Calls Tryz.prog 136 #[clsV 2 m k n] w fun e w' => e = .returned (.agg #[.int .i64 m, .int .i64 1, .int .i64 1, .int .i64 1]) /\ Ext w w' := by
 unfold clsV
 go_enter Tryz.func136, Tryz.ntmps136
 go_wp2
 refine bodyPost_ret (v := .agg #[.int .i64 m, .int .i64 1, .int .i64 1, .int .i64 1]) (by simp [results, Tryz.results136, go_sem]) rfl ⟨rfl, ?_⟩
 (repeat (first | exact Ext.refl _ | refine Ext.drew ?_ | refine Ext.alloc ?_ _ | refine Ext.setCell ?_ (by simp) _))
theorem shapeW_c (kd m k n : Int) (h : ¬ kd = 2) (w : World) : Calls Tryz.prog 136 #[clsV kd m k n] w fun e w' => e = .returned (.agg #[.int .i64 1, .int .i64 m, .int .i64 k, .int .i64 n]) /\ Ext w w' := by
 unfold clsV
 go_enter Tryz.func136, Tryz.ntmps136
 go_wp2
 refine bodyPost_ret (v := .agg #[.int .i64 1, .int .i64 m, .int .i64 k, .int .i64 n]) (by simp [results, Tryz.results136, go_sem]) rfl ⟨rfl, ?_⟩
 (repeat (first | exact Ext.refl _ | refine Ext.drew ?_ | refine Ext.alloc ?_ _ | refine Ext.setCell ?_ (by simp) _))
theorem arithmeticOf_c (kd m k n : Int) (w : World) : Calls Tryz.prog 139 #[clsV kd m k n] w fun e w' => e = .returned (if kd = 2 then .iface 283 (.agg #[]) else .iface 284 (.agg #[])) /\ Ext w w' := by
 unfold clsV
 go_enter Tryz.func139, Tryz.ntmps139
 go_wp2
 all_goals go_ret
 all_goals (refine ⟨?_, (Ext.refl w).alloc _⟩; simp_all)
theorem mul_le9 {a b : Nat} (h1 : a <= 3) (h2 : b <= 3) : a * b <= 9 := Nat.mul_le_mul h1 h2
theorem mul_le27 {a b c : Nat} (h1 : a <= 3) (h2 : b <= 3) (h3 : c <= 3) : a * b * c <= 27 := Nat.mul_le_mul (mul_le9 h1 h2) h3
theorem wrap3 {a b c : Nat} (h1 : a <= 3) (h2 : b <= 3) (h3 : c <= 3) : IntKind.i64.wrap (IntKind.i64.wrap ((a : Int) * b) * c) = ((a * b * c : Nat) : Int) := by
 have e1 : IntKind.i64.wrap ((a : Int) * b) = ((a * b : Nat) : Int) := by
  rw [<- Int.natCast_mul]; exact wrap_small (by have := mul_le9 h1 h2; omega)
 rw [e1, <- Int.natCast_mul]; exact wrap_small (by have := mul_le27 h1 h2 h3; omega)
end
section
open Go.RowKit
theorem lengths_c (p m k n : Nat) (hp : p <= 3) (hm : m <= 3) (hk : k <= 3) (hn : n <= 3) (w : World) :
  Calls Tryz.prog 137 #[.agg #[.int .i64 p, .int .i64 m, .int .i64 k, .int .i64 n]] w fun e w' =>
   e = .returned (.tuple #[.int .i64 (p * m * k : Nat), .int .i64 (p * k * n : Nat), .int .i64 (p * m * n : Nat)]) /\ Ext w w' := by
 have e1 := wrap3 hp hm hk
 have e2 := wrap3 hp hk hn
 have e3 := wrap3 hp hm hn
 have HE : Hid _ := And.intro e1 (And.intro e2 e3)
 clear e1 e2 e3 hp hm hk hn
 go_enter Tryz.func137, Tryz.ntmps137
 go_wp2
 generalize hW : World.alloc w _ = W
 have hxW : Ext w W := hW ▸ (Ext.refl w).alloc _
 have hb : W.heap[w.heap.size]? = some (.cells #[.int .i64 p, .int .i64 m, .int .i64 k, .int .i64 n] 240) := by rw [<- hW]; exact heap_alloc_new w _
 have s0 : W.cell? ⟨w.heap.size, 0, none⟩ = some (.int .i64 p) := by rw [cell_of_row W _ 0 _ _ _ hb]; rfl
 have s1 : W.cell? ⟨w.heap.size, 1, none⟩ = some (.int .i64 m) := by rw [cell_of_row W _ 1 _ _ _ hb]; rfl
 have s2 : W.cell? ⟨w.heap.size, 2, none⟩ = some (.int .i64 k) := by rw [cell_of_row W _ 2 _ _ _ hb]; rfl
 have s3 : W.cell? ⟨w.heap.size, 3, none⟩ = some (.int .i64 n) := by rw [cell_of_row W _ 3 _ _ _ hb]; rfl
 clear hb
 have HXW : Hid (Ext w W) := hxW
 clear hxW hW
 go_region_held3 (fun w' => (w'.cell? ⟨w.heap.size, 0, none⟩ = some (.int .i64 p) /\ w'.cell? ⟨w.heap.size, 1, none⟩ = some (.int .i64 m) /\ w'.cell? ⟨w.heap.size, 2, none⟩ = some (.int .i64 k) /\ w'.cell? ⟨w.heap.size, 3, none⟩ = some (.int .i64 n)) /\ Ext W w')
  ((refine and_cell4 s0 s1 s2 s3 ?_; (repeat (first | with_reducible exact Ext.refl _ | with_reducible assumption | with_reducible refine Ext.drew ?_ | with_reducible refine Ext.alloc ?_ _)); done))
  (fail)
 go_wp2
 go_ret3
 obtain ⟨e1, e2, e3⟩ := HE.out
 exact ⟨by rw [<- e1, <- e2, <- e3]; rfl, HXW.out.drew⟩
structure Sh where
 bt : Bool
 p : Nat
 m : Nat
 k : Nat
 n : Nat
def Sh.ok (s : Sh) : Prop := 1 <= s.p /\ s.p <= 3 /\ 1 <= s.m /\ s.m <= 3 /\ 1 <= s.k /\ s.k <= 3 /\ 1 <= s.n /\ s.n <= 3 /\ (s.p = 1 \/ s.m = 1 /\ s.k = 1 /\ s.n = 1)
def Sh.x (s : Sh) : Nat := s.p * s.m * s.k
def Sh.y (s : Sh) : Nat := s.p * s.k * s.n
def Sh.z (s : Sh) : Nat := s.p * s.m * s.n
def Sh.val (s : Sh) : Value := .agg #[.int .i64 s.p, .int .i64 s.m, .int .i64 s.k, .int .i64 s.n]
def Sh.num (s : Sh) : Value := .iface (if s.bt then 283 else 284) (.agg #[])
def ofCls (kd m k n : Nat) (s : Sh) : Prop := (kd = 2 /\ s = ⟨true, m, 1, 1, 1⟩ /\ k = 1 /\ n = 1) \/ ((kd = 0 \/ kd = 1) /\ s = ⟨false, 1, m, k, n⟩)
theorem ofCls.mk {kd m k n : Nat} (h : isCls kd m k n = true) : ∃ s, ofCls kd m k n s /\ s.ok := by
 unfold isCls at h
 split at h
 ·refine ⟨⟨false, 1, m, k, n⟩, .inr ⟨.inl (by omega), rfl⟩, ?_⟩
  simp at h; simp [Sh.ok]; omega
 ·split at h
  ·refine ⟨⟨false, 1, m, k, n⟩, .inr ⟨.inr (by omega), rfl⟩, ?_⟩
   simp at h; simp [Sh.ok]; omega
  ·split at h
   ·simp at h
    refine ⟨⟨true, m, 1, 1, 1⟩, .inl ⟨by omega, rfl, by omega, by omega⟩, ?_⟩
    simp [Sh.ok]; omega
   ·cases h
theorem shapeS_c {kd m k n : Nat} {s : Sh} (h : ofCls kd m k n s) (w : World) : Calls Tryz.prog 136 #[clsV kd m k n] w fun e w' => e = .returned s.val /\ Ext w w' := by
 rcases h with ⟨rfl, rfl, _, _⟩ | ⟨h, rfl⟩
 ·exact shapeB_c m k n w
 ·exact shapeW_c kd m k n (by omega) w
theorem arithS_c {kd m k n : Nat} {s : Sh} (h : ofCls kd m k n s) (w : World) : Calls Tryz.prog 139 #[clsV kd m k n] w fun e w' => e = .returned s.num /\ Ext w w' := by
 refine (arithmeticOf_c kd m k n w).mono ?_
 rintro e w' ⟨rfl, hx⟩
 refine ⟨?_, hx⟩
 rcases h with ⟨rfl, rfl, _, _⟩ | ⟨h, rfl⟩
 ·rfl
 ·rw [if_neg (by omega)]; rfl
theorem lengthsS_c {s : Sh} (h : s.ok) (w : World) : Calls Tryz.prog 137 #[s.val] w fun e w' => e = .returned (.tuple #[.int .i64 (s.x : Int), .int .i64 (s.y : Int), .int .i64 (s.z : Int)]) /\ Ext w w' :=
 lengths_c s.p s.m s.k s.n h.2.1 h.2.2.2.1 h.2.2.2.2.2.1 h.2.2.2.2.2.2.2.1 w
theorem Sh.le {s : Sh} (h : s.ok) : 1 <= s.x /\ s.x <= 9 /\ 1 <= s.y /\ s.y <= 9 /\ 1 <= s.z /\ s.z <= 9 := by
 obtain ⟨h1, h2, h3, h4, h5, h6, h7, h8, h9⟩ := h
 unfold Sh.x Sh.y Sh.z
 rcases h9 with e | ⟨e1, e2, e3⟩
 ·rw [e]
  simp only [Nat.one_mul]
  exact ⟨Nat.mul_le_mul h3 h5, Nat.mul_le_mul h4 h6, Nat.mul_le_mul h5 h7, Nat.mul_le_mul h6 h8, Nat.mul_le_mul h3 h7, Nat.mul_le_mul h4 h8⟩
 ·rw [e1, e2, e3]
  simp only [Nat.mul_one]
  omega
theorem wordsOf_c {kd m k n : Nat} {s : Sh} (h : ofCls kd m k n s) (hs : s.ok) (w : World) : Calls Tryz.prog 138 #[clsV kd m k n] w fun e w' => e = .returned (.int .i64 (s.x + s.y + s.z : Nat)) /\ Ext w w' := by
 have hle := Sh.le hs
 have HS : Hid _ := shapeS_c h
 have HL : Hid _ := lengthsS_c hs
 generalize s.x = x at *
 generalize s.y = y at *
 generalize s.z = z at *
 generalize s.val = sv at *
 clear h hs
 unfold clsV
 go_enter Tryz.func138, Tryz.ntmps138
 go_wp2_with (first | (go_at_call 136; refine (HS.out _).mono ?_; rintro e w1 ⟨rfl, hx1⟩) | (go_at_call 137; refine (HL.out _).mono ?_; rintro e w2 ⟨rfl, hx2⟩) | go_in)
 go_ret
 refine ⟨ret_int (by go_num), ?_⟩
 (repeat (first | with_reducible exact Ext.refl _ | with_reducible assumption | with_reducible refine Ext.drew ?_ | with_reducible refine Ext.alloc ?_ _ | with_reducible (apply Ext.chain; assumption)))
end
end
-- Against
section
set_option maxRecDepth 100000
set_option maxHeartbeats 1600000
section
open Go.RowKit
def flatF (rs : List ByteArray) : List UInt8 := rs.flatMap fun r => frameB r.data.toList
theorem flatF_snoc (rs : List ByteArray) (r : ByteArray) : flatF (rs ++ [r]) = flatF rs ++ frameB r.data.toList := by simp [flatF]
theorem len_flatF (rs : List ByteArray) (h : ∀ r ∈ rs, r.size <= 100000) : (flatF rs).length <= rs.length * 100012 := by
 induction rs with
 | nil => simp [flatF]
 | cons r t ih =>
  have h1 := h r (by simp)
  have h2 := ih (fun x hx => h x (by simp [hx]))
  have h3 := len_frameB r.data.toList
  have h4 : r.data.toList.length = r.size := by simp
  simp only [flatF, List.flatMap_cons, List.length_append, List.length_cons] at h2 ⊢
  omega
def sDraft : ByteArray := ⟨#[115, 116, 111, 114, 101, 46, 110, 101, 119]⟩
def sFile : ByteArray := ⟨#[115, 116, 111, 114, 101]⟩
def sNone : ByteArray := ⟨#[]⟩
def opsNew (b : List UInt8) : List OpV := [⟨0, sDraft, sNone, ⟨b.toArray⟩⟩, ⟨2, sDraft, sNone, sNone⟩, ⟨3, sDraft, sFile, sNone⟩, ⟨4, sNone, sNone, sNone⟩]
def opsAdd (b : List UInt8) : List OpV := [⟨1, sFile, sNone, ⟨b.toArray⟩⟩, ⟨2, sFile, sNone, sNone⟩]
theorem conv_nil (w : World) : (convert 136 9 (.slice none 0 0)).run Tryz.prog w = .ok (.string ⟨#[]⟩) w := by kernel_rfl
theorem DidOps.known {B : Nat} {sv lv dv : Value} {fl : Bool} {ah : Int} {kn : Bool} {k : Nat} {xs : List Value} {ops : List OpV} {w w1 w2 : World} {dv' : Value} (h : DidOps B sv lv dv fl ah kn k xs ops w1 w2 dv') (hx : Ext w w1) (b : Bool) : DidOps B sv lv dv fl ah b k xs ops w (w2.setCell ⟨B, 5, none⟩ (.bool b)) dv' where
 deal := h.deal.set5 b
 row := owns_setCell h.row (h.deal.rne h.row (by decide)) _
 turn := Turn.setCell ((Turn.of_ext hx).trans h.turn) (fun _ => .inl rfl) _
 own := fun q hq hl => h.own q hq (Nat.lt_of_lt_of_le hl hx.le)
 same := h.same
theorem replace_c (B rcap m k : Nat) (ra : Option Addr) (rs : List ByteArray) (sv lv dv : Value) (fl : Bool) (ah : Int) (kn : Bool) (hah : fl = true -> 0 <= ah /\ ah <= 9223372036854775807) (xs : List Value) (w : World) (h : DealAt w B sv lv dv fl ah kn) (ho : w.ownsRow 0 134 4 dv k xs)
  (hm : rs.length = m) (hm2 : m <= 2000) (hr : ∀ r ∈ rs, r.size <= 100000) (hc : ∀ i (hi : i < rs.length), ∃ rb, ra = some ⟨rb, 0, none⟩ /\ w.cell? ⟨rb, i, none⟩ = some (.string rs[i])) (hk : k <= 1000000) :
  Calls Tryz.prog 91 #[.pointer (some ⟨B, 2, none⟩), .slice ra m rcap] w fun e w' =>
   ∃ dv', e = .returned (.bool (diskOk fl ah 4)) /\ DidOps B sv lv dv fl ah (diskOk fl ah 4) k xs (opsNew (flatF rs)) w w' dv' := by
 obtain ⟨i0, hi, hz0, hz1, hz2⟩ := info_parts infoU8
 have HD : Hid (DealAt w B sv lv dv fl ah kn) := h
 have HO : Hid (w.ownsRow 0 134 4 dv k xs) := ho
 have HM : Hid (rs.length = m) := hm
 have HR : Hid (∀ r ∈ rs, r.size <= 100000) := hr
 have HC : Hid _ := hc
 have HAH : Hid _ := hah
 clear h ho hm hr hc hah
 obtain ⟨ok, hok⟩ : ∃ ok, diskOk fl ah 4 = ok := ⟨_, rfl⟩
 rw [hok]
 have HOK : Hid (diskOk fl ah 4 = ok) := hok
 clear hok
 go_enter Tryz.func91, Tryz.ntmps91
 go_wp2
 go_loopw [5, 10] (fun u i wr => ∃ (j n : Nat), j <= m /\ i = .int .i64 j /\ (flatF (rs.take j)).length = n /\ wr.ownsRow w.heap.size 5 1 u n (byteV (flatF (rs.take j))) /\ Ext w wr) (fun _ i _ => m - (intOf i).toNat)
 case atStart => exact ⟨0, 0, Nat.zero_le _, rfl, rfl, World.ownsRow_nil _ _ _ _, Ext.refl _⟩
 case round =>
  obtain ⟨j, n, hj, rfl, hn, hor, hx⟩ := hrel
  have hn2 : n <= 2000 * 100012 := by
   rw [<- hn]
   have h1 := len_flatF (rs.take j) (fun r hr => HR.out r (List.mem_of_mem_take hr))
   have h2 : (rs.take j).length <= 2000 := by rw [List.length_take, HM.out]; omega
   exact Nat.le_trans h1 (Nat.mul_le_mul h2 (Nat.le_refl _))
  have HN : Hid ((flatF (rs.take j)).length = n) := hn
  have HOR : Hid (wr.ownsRow w.heap.size 5 1 u5 n (byteV (flatF (rs.take j)))) := hor
  have hlow := fun q hq => (World.ownsRow.lt hor q hq).1
  clear hn hor
  by_cases hlt : j < m
  ·have hjl : j < rs.length := by rw [HM.out]; exact hlt
   obtain ⟨rb, hra, hrc⟩ := HC.out j hjl
   subst hra
   have k0 : wr.cell? ⟨rb, j, none⟩ = some (.string rs[j]) := hx.cell hrc
   clear hrc
   have hrs : rs[j].size <= 100000 := HR.out _ (List.getElem_mem hjl)
   have HF : Hid (flatF (rs.take (j + 1)) = flatF (rs.take j) ++ frameB rs[j].data.toList) := by
    show flatF (rs.take (j + 1)) = _
    rw [List.take_succ_eq_append_getElem hjl, flatF_snoc]
   have HFr : Hid _ := frame_c rs[j] (by omega)
   have hls : (frameB rs[j].data.toList).length = 12 + rs[j].size := by rw [len_frameB]; simp
   have HLS : Hid _ := hls
   generalize rs[j] = r at *
   have hsz : (⟨(frameB r.data.toList).toArray⟩ : ByteArray).size = 12 + r.size := by show (frameB r.data.toList).toArray.size = _; rw [List.size_toArray]; exact hls
   have HST : Hid (Lib.strCells ⟨(frameB r.data.toList).toArray⟩ = byteV (frameB r.data.toList)) := by
    show Lib.strCells ⟨(frameB r.data.toList).toArray⟩ = byteV (frameB r.data.toList)
    rw [strCells_eq]
   generalize hfr : (⟨(frameB r.data.toList).toArray⟩ : ByteArray) = fr at *
   clear hls hfr
   go_wp2_with fail
   refine (HFr.out _).mono ?_
   rintro e w1 ⟨rfl, hx1⟩
   have hw1 := (hx.trans hx1).le
   go_wp2_with (at_builtin; refine Lib.wpList_append_own_string _ rfl _ _ 136 9 rfl w.heap.size 5 i0 Tryz.underlying136 Tryz.underlying9 hi hz0 hz1 hz2 _ _ _ rfl (Ext.owns hx1 HOR.out) _ rfl ?c1 ?c2 ?c3 ?_)
   case c1 => rw [hsz]; unfold maxLen; omega
   case c2 => rw [hsz]; omega
   case c3 => exact hw1
   intro v3 w3 ho3 hg3 _
   have R2 : Ext w w3 := Ext.grown (hx.trans hx1) hg3 hlow
   have R1 : w3.ownsRow w.heap.size 5 1 v3 (n + (12 + r.size)) (byteV (flatF (rs.take (j + 1)))) := by
    rw [HF.out, byteV_append, <- HST.out]; exact ho3
   have R3 : (flatF (rs.take (j + 1))).length = n + (12 + r.size) := by rw [HF.out, List.length_append, HN.out, HLS.out]
   have HRR : Hid _ := And.intro R1 (And.intro R2 R3)
   clear R1 R2 R3 ho3 hg3
   go_wp2
   go_roundw
   case rel =>
    obtain ⟨R1, R2, R3⟩ := HRR.out
    exact ⟨j + 1, _, by omega, by go_num, R3, R1, R2⟩
   case measure => simp [intOf]; omega
  ·obtain rfl : m = j := by omega
   have hall : rs.take m = rs := List.take_of_length_le (by rw [HM.out]; exact Nat.le_refl _)
   rw [hall] at HOR HN
   have HDr : Hid (DealAt wr B sv lv dv fl ah kn) := HD.out.ext hx
   have HOr : Hid (wr.ownsRow 0 134 4 dv k xs) := Ext.owns hx HO.out
   have HLT : Hid (∀ q, dv.ownBlock = some q -> q < wr.heap.size) := fun q hq => (World.ownsRow.lt HOr.out q hq).2
   have HX : Hid (Ext w wr) := hx
   obtain ⟨FB, hFB⟩ : ∃ FB, flatF rs = FB := ⟨_, rfl⟩
   rw [hFB] at HOR HN
   have HFB : Hid (flatF rs = FB) := hFB
   have hcv : (convert 136 9 u5).run Tryz.prog wr.drew = .ok (.string ⟨FB.toArray⟩) wr.drew := by
    rcases owns_form HOR.out with ⟨h1, h2, h3⟩ | ⟨gb, cb, h1, _, _, _⟩
    ·have h4 := HN.out
     rw [h2, List.length_eq_zero_iff] at h4
     rw [h1, h4]
     exact conv_nil _
    ·have h4 := World.ownsRow.drew HOR.out
     rw [h1] at h4 ⊢
     exact conv_own HN.out h4
   clear hFB HOR HN HC HR hall hx
   go_wp2_with fail
   go_region_with (first
    | (go_at_call 129
       refine (doOps_c B _ k 4 sv lv dv fl ah kn HAH.out xs (opsNew FB) _ ?ca ?cb ?cc ?cd rfl (by omega) hk).mono ?_
       case ca => exact HDr.out.ext (Ext.alloc (Ext.drew (Ext.refl _)) _)
       case cb => exact Ext.owns (Ext.alloc (Ext.drew (Ext.refl _)) _) HOr.out
       case cc => exact heap_alloc_new _ _
       case cd => exact fun hq => absurd (HLT.out _ hq) (Nat.lt_irrefl _)
       rintro e w1 ⟨dv', rfl, hd1⟩
       rw [show diskOk fl ah (opsNew FB).length = ok from HOK.out]
       have f5 := hd1.deal.frozen 5
       have c5 := hd1.deal.cells.2.2.2.2.2))
   have HRR : Hid _ := hd1.known (w := w) (Ext.alloc (Ext.drew HX.out) _) ok
   clear hd1
   go_wp2
   go_ret
   exact ⟨dv', rfl, by rw [HFB.out]; exact HRR.out⟩
end
section
open Go.RowKit
theorem addKnown_c (B k : Nat) (r : ByteArray) (fv sv lv dv : Value) (fl : Bool) (ah : Int) (hah : fl = true -> 0 <= ah /\ ah <= 9223372036854775807) (xs : List Value) (w : World) (h : DealAt w B sv lv dv fl ah true) (ho : w.ownsRow 0 134 4 dv k xs) (hr : r.size <= 100000) (hk : k <= 1000000) :
  Calls Tryz.prog 144 #[.pointer (some ⟨B, 2, none⟩), .string r, fv] w fun e w' =>
   ∃ dv', e = .returned (.bool (diskOk fl ah 2)) /\ DidOps B sv lv dv fl ah (diskOk fl ah 2) k xs (opsAdd (frameB r.data.toList)) w w' dv' := by
 have HD : Hid (DealAt w B sv lv dv fl ah true) := h
 have HO : Hid (w.ownsRow 0 134 4 dv k xs) := ho
 have HAH : Hid _ := hah
 obtain ⟨c0, c1, c2, c3, c4, c5⟩ := h.cells
 have HF : Hid _ := frame_c r (by omega)
 clear h ho c0 c1 c2 c3 c4 hah
 obtain ⟨ok, hok⟩ : ∃ ok, diskOk fl ah 2 = ok := ⟨_, rfl⟩
 rw [hok]
 have HOK : Hid (diskOk fl ah 2 = ok) := hok
 clear hok
 obtain ⟨FB, hFB⟩ : ∃ FB, frameB r.data.toList = FB := ⟨_, rfl⟩
 rw [hFB] at HF
 have HFB : Hid (frameB r.data.toList = FB) := hFB
 clear hFB
 go_enter Tryz.func144, Tryz.ntmps144
 go_wp2_with fail
 have HLT : Hid (∀ q, dv.ownBlock = some q -> q < w.heap.size) := fun q hq => (World.ownsRow.lt HO.out q hq).2
 go_region_with (first
  | (go_at_call 128; refine (HF.out _).mono ?_; rintro e w1 ⟨rfl, hx1⟩)
  | (go_at_call 129
     refine (doOps_c B _ k 2 sv lv dv fl ah true HAH.out xs (opsAdd FB) _ ?ca ?cb ?cc ?cd rfl (by omega) hk).mono ?_
     case ca => exact HD.out.ext (Ext.alloc (Ext.chain hx1 (Ext.drew (Ext.refl _))) _)
     case cb => exact Ext.owns (Ext.alloc (Ext.chain hx1 (Ext.drew (Ext.refl _))) _) HO.out
     case cc => exact heap_alloc_new _ _
     case cd => exact fun hq => absurd (Nat.lt_of_lt_of_le (HLT.out _ hq) (Ext.le (Ext.chain hx1 (Ext.drew (Ext.refl _))))) (Nat.lt_irrefl _)
     rintro e w2 ⟨dv', rfl, hd1⟩
     rw [show diskOk fl ah (opsAdd FB).length = ok from HOK.out]
     have f5 := hd1.deal.frozen 5
     have c5 := hd1.deal.cells.2.2.2.2.2))
 have HRR : Hid _ := hd1.known (w := w) (Ext.alloc (Ext.chain hx1 (Ext.drew (Ext.refl _))) _) ok
 clear hd1
 go_wp2
 go_ret
 exact ⟨dv', rfl, by rw [HFB.out]; exact HRR.out⟩
end
section
open Go.RowKit
structure StkV where
 blk : Nat
 kd : Int
 m : Int
 k : Int
 n : Int
def StkV.is (s : StkV) (kd m k n : Int) : Bool := s.kd == kd && (s.m == m && (s.k == k && s.n == n))
def StkV.clsAt (s : StkV) (w : World) : Prop := w.cell? ⟨s.blk, 0, none⟩ = some (.int .i64 s.kd) /\ w.cell? ⟨s.blk, 1, none⟩ = some (.int .i64 s.m) /\ w.cell? ⟨s.blk, 2, none⟩ = some (.int .i64 s.k) /\ w.cell? ⟨s.blk, 3, none⟩ = some (.int .i64 s.n)
def foundV (l : List StkV) (kd m k n : Int) : Value := match l.find? (fun s => s.is kd m k n) with | some s => .pointer (some ⟨s.blk, 0, none⟩) | none => .pointer none
def StocksAt (w : World) (sv : Value) (l : List StkV) : Prop :=
 (sv = .slice none 0 0 /\ l = [] \/ ∃ g cap, sv = .slice (some ⟨g, 0, none⟩) l.length cap /\ ∀ i (h : i < l.length), w.cell? ⟨g, i, none⟩ = some (.pointer (some ⟨l[i].blk, 0, none⟩))) /\ ∀ s ∈ l, s.clsAt w
theorem StocksAt.ext {w w' : World} {sv : Value} {l : List StkV} (h : StocksAt w sv l) (hx : Ext w w') : StocksAt w' sv l := by
 refine ⟨?_, fun s hs => ?_⟩
 ·rcases h.1 with h1 | ⟨g, cap, h1, h2⟩
  ·exact .inl h1
  ·exact .inr ⟨g, cap, h1, fun i hi => hx.cell (h2 i hi)⟩
 ·obtain ⟨a, b, c, d⟩ := h.2 s hs
  exact ⟨hx.cell a, hx.cell b, hx.cell c, hx.cell d⟩
theorem found_at (l : List StkV) {kd m k n : Int} (j : Nat) (hj : j < l.length) (hno : ∀ s ∈ l.take j, s.is kd m k n = false) (h : l[j].is kd m k n = true) : foundV l kd m k n = .pointer (some ⟨l[j].blk, 0, none⟩) := by
 have e : l = l.take j ++ (l[j] :: l.drop (j + 1)) := by simp
 have : l.find? (fun s => s.is kd m k n) = some l[j] := by
  have h1 : (l.take j ++ (l[j] :: l.drop (j + 1))).find? (fun s => s.is kd m k n) = some l[j] := by
   rw [List.find?_append, List.find?_eq_none.2 (fun s hs => by rw [hno s hs]; simp), List.find?_cons, h]
   rfl
  rw [<- e] at h1
  exact h1
 unfold foundV
 rw [this]
theorem found_none (l : List StkV) {kd m k n : Int} (hno : ∀ s ∈ l, s.is kd m k n = false) : foundV l kd m k n = .pointer none := by
 unfold foundV
 rw [List.find?_eq_none.2 (fun s hs => by rw [hno s hs]; simp)]
theorem find_c (B : Nat) (l : List StkV) (kd m k n : Int) (sv lv dv : Value) (fl : Bool) (ah : Int) (kn : Bool) (w : World) (h : DealAt w B sv lv dv fl ah kn) (hs : StocksAt w sv l) (hl : l.length <= 100) :
  Calls Tryz.prog 168 #[.pointer (some ⟨B, 0, none⟩), clsV kd m k n] w fun e w' => e = .returned (foundV l kd m k n) /\ Ext w w' := by
 unfold clsV
 rcases hs with ⟨⟨rfl, rfl⟩ | ⟨g, cap, rfl, hc⟩, hcl⟩
 ·obtain ⟨c0, _⟩ := h.cells
  have hB := h.lt
  clear h hcl
  go_enter Tryz.func168, Tryz.ntmps168
  go_wp2
  go_loop [12] (fun i => i = .int .i64 0) (fun _ => 0)
  case atStart => rfl
  case round =>
   obtain rfl := hrel
   go_wp2
   go_ret
   exact ⟨rfl, (Ext.refl w).alloc _⟩
 ·have HC : Hid (∀ i (h : i < l.length), w.cell? ⟨g, i, none⟩ = some (.pointer (some ⟨l[i].blk, 0, none⟩))) := hc
  have HCL : Hid (∀ s ∈ l, s.clsAt w) := hcl
  have heq := fun (a b c e a' b' c' e' : Int) (w : World) => eqClass 9998 a b c e a' b' c' e' w
  obtain ⟨c0, _⟩ := h.cells
  have hB := h.lt
  clear h hc hcl
  obtain ⟨len, hlen⟩ : ∃ len, l.length = len := ⟨_, rfl⟩
  have HLEN : Hid (l.length = len) := hlen
  rw [hlen] at c0 hl
  clear hlen
  go_enter Tryz.func168, Tryz.ntmps168
  go_wp2
  have hf := four_in (Ext.refl (w.alloc (.cells #[.int .i64 kd, .int .i64 m, .int .i64 k, .int .i64 n] 49)))
  have HXV : Hid (Ext w (w.alloc (.cells #[.int .i64 kd, .int .i64 m, .int .i64 k, .int .i64 n] 49))) := (Ext.refl w).alloc _
  generalize World.alloc w _ = V at hf HXV ⊢
  obtain ⟨d0, d1, d2, d3⟩ := hf
  go_loopw [12] (fun i wr => ∃ j : Nat, j <= len /\ i = .int .i64 j /\ (∀ s ∈ l.take j, s.is kd m k n = false) /\ Ext V wr) (fun i _ => len - (intOf i).toNat)
  case atStart => exact ⟨0, Nat.zero_le _, rfl, by simp, Ext.refl _⟩
  case round =>
   obtain ⟨j, hj, rfl, hno, hxr⟩ := hrel
   have d0 := hxr.cell d0
   have d1 := hxr.cell d1
   have d2 := hxr.cell d2
   have d3 := hxr.cell d3
   have HXR : Hid (Ext w wr) := HXV.out.trans hxr
   have HXR2 : Hid (Ext V wr) := hxr
   clear hxr
   have HNO : Hid (∀ s ∈ l.take j, s.is kd m k n = false) := hno
   clear hno
   by_cases hlt : j < len
   ·have hjl : j < l.length := by rw [HLEN.out]; exact hlt
    have e0 := HXR.out.cell (HC.out j hjl)
    obtain ⟨b0, b1, b2, b3⟩ := HCL.out l[j] (List.getElem_mem hjl)
    have b0 := HXR.out.cell b0
    have b1 := HXR.out.cell b1
    have b2 := HXR.out.cell b2
    have b3 := HXR.out.cell b3
    have HIS : Hid (l[j].is kd m k n = (l[j].kd == kd && (l[j].m == m && (l[j].k == k && l[j].n == n)))) := rfl
    have HT : Hid (l.take (j + 1) = l.take j ++ [l[j]]) := List.take_succ_eq_append_getElem hjl
    by_cases his : l[j].is kd m k n = true
    ·have HFV : Hid (foundV l kd m k n = .pointer (some ⟨l[j].blk, 0, none⟩)) := found_at l j hjl HNO.out his
     rw [HIS.out] at his
     generalize l[j] = s at *
     obtain ⟨blk, skd, sm, sk, sn⟩ := s
     simp only at *
     go_wp2
     go_region
     all_goals go_wp2
     all_goals go_ret
     all_goals exact ⟨by rw [HFV.out]; rfl, HXR.out.drew⟩
    ·have HN2 : Hid (∀ s ∈ l.take (j + 1), s.is kd m k n = false) := fun s hs => by
      rw [HT.out] at hs
      rcases List.mem_append.1 hs with h | h
      ·exact HNO.out s h
      ·rw [List.mem_singleton.1 h]; simpa using his
     rw [HIS.out] at his
     generalize l[j] = s at *
     obtain ⟨blk, skd, sm, sk, sn⟩ := s
     simp only at *
     have his2 : (skd == kd && (sm == m && (sk == k && sn == n))) = false := by simpa using his
     clear his
     go_wp2
     go_region
     all_goals go_wp2
     all_goals go_roundw
     all_goals first
      | exact ⟨j + 1, by omega, by go_num, HN2.out, HXR2.out.drew⟩
      | (simp [intOf]; omega)
   ·obtain rfl : j = len := by omega
    have hall : l.take j = l := List.take_of_length_le (by rw [HLEN.out]; exact Nat.le_refl _)
    have HNO2 := HNO.out
    rw [hall] at HNO2
    have HFV : Hid (foundV l kd m k n = .pointer none) := found_none l HNO2
    clear HNO2 hall HNO
    go_wp2
    go_ret
    exact ⟨by rw [HFV.out]; rfl, HXR.out⟩
end
section
open Go.RowKit Go.Maps
theorem cell_in {w w' : World} {cs : Array Value} {t : TypeId} (h : Ext (w.alloc (.cells cs t)) w') (i : Nat) {v : Value} (hv : cs[i]? = some v) : w'.cell? ⟨w.heap.size, i, none⟩ = some v := by
 have hb : (w.alloc (.cells cs t)).heap[w.heap.size]? = some (.cells cs t (0, 0)) := heap_alloc_new w _
 exact h.cell (by rw [cell_of_row _ _ i _ _ _ hb]; exact hv)
theorem infoPStock : (Tryz.prog.info? 151).map (fun i => (i.zero, i.size, i.bytes)) = some (some (.pointer none), 1, 8) := by kernel_rfl
end
end
-- Named
section
set_option maxRecDepth 100000
set_option maxHeartbeats 1600000
open Go.RowKit
structure LsV where
 s : Int
 i : Int
 kd : Int
 m : Int
 k : Int
 n : Int
 f : Int
 c : Int
 r : Bool
def LsV.cells (l : LsV) : List Value := [.int .i64 l.s, .int .i64 l.i, .int .i64 l.kd, .int .i64 l.m, .int .i64 l.k, .int .i64 l.n, .int .i64 l.f, .int .i64 l.c, .bool l.r]
theorem named0_c (B : Nat) (ss ii : Int) (sv dv : Value) (fl : Bool) (ah : Int) (kn : Bool) (w : World) (h : DealAt w B sv (.slice none 0 0) dv fl ah kn) :
  Calls Tryz.prog 165 #[.pointer (some ⟨B, 0, none⟩), .int .i64 ss, .int .i64 ii] w fun e w' => e = .returned (.pointer none) /\ w = w' := by
 obtain ⟨c0, c1, _⟩ := h.cells
 have hB := h.lt
 clear h
 go_enter Tryz.func165, Tryz.ntmps165
 go_wp2
 go_loopw [14] (fun i wr => i = .int .i64 0 /\ wr = w) (fun _ _ => 0)
 case atStart => exact ⟨rfl, rfl⟩
 case round =>
  obtain ⟨rfl, rfl⟩ := hrel
  go_wp2
  go_ret
  exact ⟨rfl, rfl⟩
end
-- Tri3B
section
set_option maxRecDepth 100000
set_option maxHeartbeats 1600000
open Go.RowKit
theorem nb_plus (w : World) : (nilAhead 417 283 (.agg #[]) "dealer/triple.plus").run Tryz.prog w = .ok (some false) w := by kernel_rfl
theorem nb_times (w : World) : (nilAhead 417 283 (.agg #[]) "dealer/triple.times").run Tryz.prog w = .ok (some false) w := by kernel_rfl
theorem matB_c (b off cap b2 off2 cap2 p m k n la lb : Nat) (zs ys : List Int) (hla : la = m * k) (hlb : lb = k * n) (hn : zs.length = la) (hn2 : ys.length = lb) (hm : m <= 3) (hk : k <= 3) (hnn : n <= 3) (w : World) (hz : WordsAt w b off zs) (hy : WordsAt w b2 off2 ys) :
  Calls Tryz.prog 174 #[.iface 283 (.agg #[]), .agg #[.int .i64 p, .int .i64 m, .int .i64 k, .int .i64 n], .slice (some ⟨b, off, none⟩) la cap, .slice (some ⟨b2, off2, none⟩) lb cap2] w fun e w' =>
   ∃ v, e = .returned v /\ w'.ownsRow w.heap.size 146 1 v (m * n) ((matN true zs ys k n m).map (Value.int .u64)) /\ Ext w w' := by
 obtain ⟨i0, hi, hz0, hz1, hz2⟩ := info_parts infoU64
 have HZ : Hid (WordsAt w b off zs) := hz
 have HY : Hid (WordsAt w b2 off2 ys) := hy
 have HN : Hid (zs.length = la) := hn
 have HN2 : Hid (ys.length = lb) := hn2
 have HLA : Hid (la = m * k) := hla
 have HLB : Hid (lb = k * n) := hlb
 have hm1 := mb_plus
 have hm2 := mb_times
 have hnw := nb_plus
 have hnt := nb_times
 clear hz hy hn hn2 hla hlb
 go_enter Tryz.func174, Tryz.ntmps174
 go_wp2
 generalize hW : World.alloc w _ = W
 have hxW : Ext w W := hW ▸ (Ext.refl w).alloc _
 have hb : W.heap[w.heap.size]? = some (.cells #[.int .i64 p, .int .i64 m, .int .i64 k, .int .i64 n] 240) := by rw [<- hW]; exact heap_alloc_new w _
 have hs1 : W.cell? ⟨w.heap.size, 1, none⟩ = some (.int .i64 m) := by rw [cell_of_row W _ 1 _ _ _ hb]; rfl
 have hs2 : W.cell? ⟨w.heap.size, 2, none⟩ = some (.int .i64 k) := by rw [cell_of_row W _ 2 _ _ _ hb]; rfl
 have hs3 : W.cell? ⟨w.heap.size, 3, none⟩ = some (.int .i64 n) := by rw [cell_of_row W _ 3 _ _ _ hb]; rfl
 clear hb
 have HXW : Hid (Ext w W) := hxW
 clear hxW hW
 go_loopw [9, 16] (fun u i wr => ∃ r : Nat, r <= m /\ i = .int .i64 r /\ wr.ownsRow W.heap.size 146 1 u (r * n) ((matN true zs ys k n r).map (Value.int .u64)) /\ Ext W wr) (fun _ i _ => m - (intOf i).toNat)
 case atStart => exact ⟨0, Nat.zero_le _, rfl, by rw [Nat.zero_mul]; exact World.ownsRow_nil _ _ _ _, Ext.refl _⟩
 case round =>
  obtain ⟨r, hr, rfl, ho, hx⟩ := hrel
  have HO : Hid _ := ho
  clear ho
  by_cases hlt : r < m
  ·have f1 := hx.cell hs1
   have f2 := hx.cell hs2
   have f3 := hx.cell hs3
   have g1 := Nat.mul_le_mul hr (Nat.le_refl n)
   have hrk := Nat.mul_le_mul (show r <= 2 by omega) hk
   go_wp2
   go_loopw [9, 21] (fun u i ws => ∃ c : Nat, c <= n /\ i = .int .i64 c /\ ws.ownsRow W.heap.size 146 1 u (r * n + c) ((matN true zs ys k n r ++ rowN true zs ys k n r c).map (Value.int .u64)) /\ Ext W ws) (fun _ i _ => n - (intOf i).toNat)
   case atStart => exact ⟨0, Nat.zero_le _, rfl, by rw [show rowN true zs ys k n r 0 = [] from rfl, List.append_nil]; exact HO.out, hx⟩
   case round =>
    clear f1 f2 f3 HO hx
    obtain ⟨c, hc, rfl, ho, hx⟩ := hrel
    rename World => W2
    have hlow := fun q hq => (World.ownsRow.lt ho q hq).1
    have HO : Hid _ := ho
    clear ho
    by_cases hlc : c < n
    ·have f2 := hx.cell hs2
     have f3 := hx.cell hs3
     go_wp2
     go_loopw [12, 26] (fun u i wt => ∃ q : Nat, q <= k /\ i = .int .i64 q /\ u = .int .u64 (dotN true zs ys k n r c q) /\ Ext W2 wt) (fun _ i _ => k - (intOf i).toNat)
     case atStart => exact ⟨0, Nat.zero_le _, rfl, rfl, Ext.refl _⟩
     case round =>
      obtain ⟨q, hq, rfl, rfl, hx3⟩ := hrel
      by_cases hlq : q < k
      ·have e0w := (HXW.out.trans hx).cell (HZ.out (r * k + q) (by rw [HN.out, HLA.out]; exact mul_add_lt hlt hlq))
       have e1w := (HXW.out.trans hx).cell (HY.out (q * n + c) (by rw [HN2.out, HLB.out]; exact mul_add_lt hlq hlc))
       have b0 : r * k + q < la := by rw [HLA.out]; exact mul_add_lt hlt hlq
       have b1 : q * n + c < lb := by rw [HLB.out]; exact mul_add_lt hlq hlc
       have hqn := Nat.mul_le_mul (show q <= 2 by omega) hnn
       have v1 : IntKind.i64.wrap ((r : Int) * (k : Int)) = ((r * k : Nat) : Int) := by rw [<- Int.natCast_mul]; exact wrap_small (by omega)
       have v2 : IntKind.i64.wrap ((q : Int) * (n : Int)) = ((q * n : Nat) : Int) := by rw [<- Int.natCast_mul]; exact wrap_small (by omega)
       have hD : dotN true zs ys k n r c (q + 1) = plusN true (dotN true zs ys k n r c q) (timesN true (zs.getD (r * k + q) 0) (ys.getD (q * n + c) 0)) := rfl
       generalize hzk : zs.getD (r * k + q) 0 = z at *
       generalize hyk : ys.getD (q * n + c) 0 = y at *
       generalize hdd : dotN true zs ys k n r c q = dd at *
       generalize r * k = rk at *
       generalize q * n = qn at *
       have s1 : (rk : Int) + (q : Int) = ((rk + q : Nat) : Int) := by omega
       have s2 : (qn : Int) + (c : Int) = ((qn + c : Nat) : Int) := by omega
       have v3 : IntKind.i64.wrap ((rk : Int) + (q : Int)) = ((rk + q : Nat) : Int) := by rw [s1]; exact wrap_small (by omega)
       have v4 : IntKind.i64.wrap ((qn : Int) + (c : Int)) = ((qn + c : Nat) : Int) := by rw [s2]; exact wrap_small (by omega)
       generalize hx1 : rk + q = x1 at *
       generalize hx2 : qn + c = x2 at *
       clear s1 s2 hx1 hx2 hrk hqn g1
       have d0 : (0 : Int) <= (x1 : Int) := by omega
       have d1 : (x1 : Int) < la := by omega
       have d2 : (0 : Int) <= (x2 : Int) := by omega
       have d3 : (x2 : Int) < lb := by omega
       have j1 := hx3.cell f2
       have j2 := hx3.cell f3
       have j3 := hx3.cell e0w
       have j4 := hx3.cell e1w
       go_wp2
       go_region_held3 (fun w' => (w'.cell? ⟨w.heap.size, 2, none⟩ = some (.int .i64 k) /\ w'.cell? ⟨w.heap.size, 3, none⟩ = some (.int .i64 n) /\ w'.cell? ⟨b, off + x1, none⟩ = some (.int .u64 z) /\ w'.cell? ⟨b2, off2 + x2, none⟩ = some (.int .u64 y)) /\ Ext W2 w')
        ((refine and_cell4 f2 f3 e0w e1w ?_; (repeat (first | with_reducible exact Ext.refl _ | with_reducible assumption | with_reducible refine Ext.drew ?_ | with_reducible refine Ext.alloc ?_ _ | with_reducible (apply Ext.chain; assumption))); done))
        (first
          | (go_at_call 229; refine (bitsTimes_c _ _ _).mono ?_; rintro e w1 ⟨rfl, hx4⟩)
          | (go_at_call 228; refine (bitsPlus_c _ _ _).mono ?_; rintro e w2 ⟨rfl, hx5⟩))
       all_goals (go_wp2; go_roundw)
       all_goals first
        | (refine ⟨q + 1, by omega, by go_num, by rw [hD], ?_⟩; (repeat (first | with_reducible exact Ext.refl _ | with_reducible assumption | with_reducible refine Ext.drew ?_ | with_reducible refine Ext.alloc ?_ _ | with_reducible (apply Ext.chain; assumption))); done)
        | (simp [intOf]; omega)
      ·obtain rfl : q = k := by omega
       have hxx : Ext W _ := hx.trans hx3
       have ho2 := Ext.owns hx3 HO.out
       have hbase := hxx.le
       go_wp2_with (at_builtin; refine wpList_append_own _ rfl _ _ 31 rfl W.heap.size 146 i0 (.int .u64 0) 1 8 Tryz.underlying31 hi hz0 hz1 hz2 rfl (by decide) _ _ _ rfl (World.ownsRow.alloc ho2 _) ⟨_, 0, none⟩ 1 1 [.int .u64 (dotN true zs ys q n r c q)] rfl rfl ?c1 ?c2 ?c3 ?c4 ?c5 ?_)
       case c1 => exact cell_one_new _ _ _
       case c2 => intro u hu; simp at hu; subst hu; rfl
       case c3 => have := Nat.mul_le_mul (show r <= 3 by omega) hnn; unfold maxLen; omega
       case c4 => have := Nat.mul_le_mul (show r <= 3 by omega) hnn; omega
       case c5 => simp; omega
       ·intro v' w1 hown' hgrow _
        have R : w1.ownsRow W.heap.size 146 1 v' (r * n + (c + 1)) ((matN true zs ys q n r ++ rowN true zs ys q n r (c + 1)).map (Value.int .u64)) := by
         rw [rowN_succ, List.map_append, List.map_append, <- Nat.add_assoc]; exact hown'
        have R2 : Ext W w1 := Ext.grown (hxx.alloc _) hgrow hlow
        clear hown' hgrow
        go_wp2
        go_roundw
        case rel => exact ⟨c + 1, by omega, by go_num, R, R2⟩
        case measure => simp [intOf]; omega
    ·obtain rfl : c = n := by omega
     have R : World.ownsRow W2 W.heap.size 146 1 u9 ((r + 1) * c) ((matN true zs ys k c (r + 1)).map (Value.int .u64)) := by
      rw [matN_succ, Nat.add_mul, Nat.one_mul]; exact HO.out
     go_wp2
     go_roundw
     case rel => exact ⟨r + 1, by omega, by go_num, R, hx⟩
     case measure => simp [intOf]; omega
  ·obtain rfl : r = m := by omega
   go_wp2
   go_ret
   exact ⟨_, rfl, owns_base HO.out HXW.out.le, HXW.out.trans hx⟩
end
end Go.Proofs.YtmnjhhachdlmkaaGreat
