import Derived.Test.YtmnjhhachdlmkaaBase
import Derived.Test.YtmnjhhachdlmkaaNums
namespace Go.Proofs.Ytmnjhhachdlmkaa
open Go.RowKit

/-- Blocks of whatever type but bytes are as they were. -/
structure Keeps (w w' : World) : Prop where
  size : w.heap.size ≤ w'.heap.size
  block : ∀ (k : Nat) (cs : Array Value) (t : TypeId) (m : Nat × Nat), w.heap[k]? = some (Obj.cells cs t m) → t ≠ 5 → w'.heap[k]? = some (Obj.cells cs t m)
theorem Keeps.refl (w : World) : Keeps w w := ⟨Nat.le_refl _, fun _ _ _ _ h _ => h⟩
theorem Keeps.trans {a b c : World} (h : Keeps a b) (k : Keeps b c) : Keeps a c := ⟨Nat.le_trans h.size k.size, fun i cs t m hi ht => k.block i cs t m (h.block i cs t m hi ht) ht⟩
theorem Keeps.ext {a b : World} (h : Ext a b) : Keeps a b := ⟨h.le, fun _ _ _ _ hi _ => h.block hi⟩
theorem Keeps.alloc {a b : World} (h : Keeps a b) (o : Obj) : Keeps a (b.alloc o) := h.trans (Keeps.ext ((Ext.refl b).alloc o))
theorem Keeps.drewN {a b : World} (h : Keeps a b) (n : Nat) : Keeps a (b.drewN n) := h.trans (Keeps.ext ((Ext.refl b).drewN n))
theorem Keeps.drew {a b : World} (h : Keeps a b) : Keeps a b.drew := h.trans (Keeps.ext ((Ext.refl b).drew))
theorem Keeps.grown {w w' : World} {base n : Nat} {v : Value} {xs : List Value} (ho : w.ownsRow base 5 1 v n xs) (hg : w.grownBy w' v.ownBlock) : Keeps w w' := by
  refine ⟨hg.size, fun k cs t m hk ht => ?_⟩
  rw [hg.block k (Array.getElem?_eq_some_iff.1 hk).1 ?_]
  · exact hk
  · intro e
    rcases ho.2 with ⟨rfl, _⟩ | ⟨g, cap, cur, rfl, _, hh, _⟩
    · simp [Value.ownBlock] at e
    · simp [Value.ownBlock] at e
      subst e
      rw [hh] at hk
      simp at hk
      exact ht hk.2.1.symm

theorem infoU8 : (Try.prog.info? 5).map (fun i => (i.zero, i.size, i.bytes)) = some (some (.int .u8 0), 1, 1) := by kernel_rfl

set_option maxRecDepth 100000 in
set_option maxHeartbeats 400000 in
theorem put_c (base n : Nat) (v : Value) (xs : List Value) (x : Int) (sz : Nat) (hs : sz ≤ 8) (_hx0 : 0 ≤ x) (hx1 : x ≤ 18446744073709551615) (w : World)
    (hown : w.ownsRow base 5 1 v n xs) (hb : base ≤ w.heap.size) (hn : n + sz ≤ 140737488355328) :
    Calls Try.prog 38 #[v, .int .u64 x, .int .i64 sz] w fun e w' => ∃ v', e = .returned v' ∧ w'.ownsRow base 5 1 v' (n + sz) (xs ++ beV x sz) ∧ Below base w w' ∧ Keeps w w' := by
  obtain ⟨i0, hi, hz0, hz1, hz2⟩ := info_parts infoU8
  have HX : Hid (x ≤ 18446744073709551615) := hx1
  have HN : Hid (n + sz ≤ 140737488355328) := hn
  clear hx1 hn
  go_enter Try.func38, Try.ntmps38
  go_wp2
  go_loopw [0, 7] (fun u i wr => ∃ (k : Nat) (pre : List Value), k ≤ sz ∧ i = .int .i64 ((k : Int) - 1) ∧ pre ++ beV x k = beV x sz ∧ wr.ownsRow base 5 1 u (n + (sz - k)) (xs ++ pre) ∧ Below base w wr ∧ Keeps w wr) (fun _ i _ => (intOf i + 1).toNat)
  case atStart => exact ⟨sz, [], Nat.le_refl _, by go_num, rfl, by simpa using hown, Below.refl _ _, Keeps.refl _⟩
  case round =>
    obtain ⟨k, pre, hk, rfl, hpre, ho, hbel, hkp⟩ := hrel
    by_cases hlt : 1 ≤ k
    · obtain ⟨j, rfl⟩ : ∃ j, k = j + 1 := ⟨k - 1, by omega⟩
      have HP : Hid (pre ++ beV x (j + 1) = beV x sz) := hpre
      clear hpre
      have hb' : base ≤ wr.heap.size := by have := hbel.size; omega
      go_wp2_with (at_builtin; refine wpList_append_own _ rfl _ _ 62 rfl base 5 i0 (.int .u8 0) 1 1 Try.underlying62 hi hz0 hz1 hz2 rfl (by decide) _ _ _ rfl (ho.alloc _) ⟨wr.heap.size, 0, none⟩ 1 1 [.int .u8 (x / 2 ^ (8 * j) % 256)] rfl rfl ?c1 ?c2 ?c3 ?c4 ?c5 ?_)
      case c1 => exact cell_one_new _ _ _
      case c2 => intro u hu; simp at hu; subst hu; rfl
      case c3 => have := HN.out; unfold maxLen; omega
      case c4 => have := HN.out; omega
      case c5 => simp; omega
      · intro v' w1 hown' hgrow _
        have R : w1.ownsRow base 5 1 v' (n + (sz - j)) (xs ++ (pre ++ [.int .u8 (x / 2 ^ (8 * j) % 256)])) := by
          rw [show n + (sz - j) = n + (sz - (j + 1)) + 1 by omega]; simpa using hown'
        have R2 : Below base w w1 := (hbel.alloc hb' _).grown hgrow (by simp; omega) (fun k hk => (ho.lt k hk).1)
        have R3 : Keeps w w1 := (hkp.alloc _).trans (Keeps.grown (ho.alloc _) hgrow)
        clear hown' hgrow ho hbel hkp
        go_wp2
        go_roundw
        case rel => exact ⟨j, _, by omega, by go_num, by rw [List.append_assoc]; exact HP.out, R, R2, R3⟩
        case measure => simp [intOf]
    · obtain rfl : k = 0 := by omega
      have HP : Hid (pre ++ beV x 0 = beV x sz) := hpre
      clear hpre
      go_wp2
      go_ret
      refine ⟨_, rfl, ?_, hbel, hkp⟩
      have := HP.out
      simp only [beV, List.append_nil] at this
      rw [← this]; exact ho

/-- The same, in bytes. -/
theorem put_b (base n : Nat) (v : Value) (l : List UInt8) (x : Nat) (sz : Nat) (hs : sz ≤ 8) (hx1 : x ≤ 18446744073709551615) (w : World)
    (hown : w.ownsRow base 5 1 v n (byteV l)) (hb : base ≤ w.heap.size) (hn : n + sz ≤ 140737488355328) :
    Calls Try.prog 38 #[v, .int .u64 (x : Int), .int .i64 (sz : Int)] w fun e w' => ∃ v', e = .returned v' ∧ w'.ownsRow base 5 1 v' (n + sz) (byteV (l ++ bytesOf x sz)) ∧ Below base w w' ∧ Keeps w w' :=
  (put_c base n v (byteV l) x sz hs (by omega) (by omega) w hown hb hn).mono fun e w' ⟨v', h1, h2, h3, h4⟩ => ⟨v', h1, by rw [byteV_append, ← beV_eq]; exact h2, h3, h4⟩
end Go.Proofs.Ytmnjhhachdlmkaa
