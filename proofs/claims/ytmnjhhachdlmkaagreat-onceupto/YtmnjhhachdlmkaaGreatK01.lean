import Derived.OrdersHeld
import Derived.Test.YtmnjhhachdlmkaaGreatProg
import Derived.WalkKit
import Derived.WalkLawsBesides
import Derived.WalkSpells
import Derived.Deep.QuietTactic
import Derived.BigQuiet
import Derived.Deep.RegionWith
import Derived.Laws.Bits64
import Derived.Laws.Bits64b
import Derived.Laws.BitsAllLaws
import Derived.Laws.BitsLemmas
import Derived.Deep.AppendLies
import Derived.Deep.RegionHeld3
import Derived.Deep.RegionLaw
import Derived.Laws.IdiomStrings
import Derived.Lib.AppendZerosOnto
namespace Go.Proofs.YtmnjhhachdlmkaaGreat
open List renaming getElem_cons_succ -> lB
open World renaming block_lt_of_cell? -> lG
open Value renaming ownBlock -> lH
-- Help
section
open Go.RowKit
theorem zT {P : Program} {ops : Array Oper} {Q : Exit → Act → World → Prop} {md : Region.Mode} {S : World → Prop} (i : Nat) {oi : Oper} {v : Value} {fuel : Nat} {listed l' : Array Bool} {a a' : Act} {w : World} (hS : S w) (h : wpAnyH P md ops Q S fuel l' a' w) (hi : ops[i]? = some oi := by rfl)
  (hs : Region.noSelect ops = true := by kernel_rfl) (hf : Region.free md ops listed i = true := by kernel_rfl) (hr : (Region.ready md ops listed).contains i = true := by kernel_rfl)
  (hQ : ∀ c a w, Q (.panic c) (a.put oi.dst v) w → Q (.panic c) a w := by exact fun _ _ _ h => h) (hw : Region.wanted oi (yielded ops a.tmps) = true := by rfl) (hy : ∀ w, S w → (execOp a.eval oi).run P w = .ok (.value v) w := by (intro w hSw; (try dsimp only at hSw); go_simp; try with_reducible rfl)) (hl : listed.setIfInBounds i true = l' := by ((try simp only [Act.put, List.getElem_toArray, List.getElem_cons_succ, List.getElem_cons_zero, List.setIfInBounds_toArray, List.set_cons_zero, List.set_cons_succ]); exact rfl)) (ha : a.put oi.dst v = a' := by ((try simp only [Act.put, List.getElem_toArray, List.getElem_cons_succ, List.getElem_cons_zero, List.setIfInBounds_toArray, List.set_cons_zero, List.set_cons_succ]); exact rfl)) : wpAnyH P md ops Q S (fuel + 1) listed a w :=
  wpAnyH_take hi hs hf hr hQ (Or.inl ⟨hw, hy⟩) hS (by rw [hl, ha]; exact h)
end
-- Base
section
open Go.RowKit
def Ext (w w' : World) : Prop := Below w.heap.size w w'
theorem Ext.refl (w : World) : Ext w w := Below.refl _ _
theorem Ext.trans {a b c : World} (h : Ext a b) (k : Ext b c) : Ext a c := Below.trans h (Below.mono k h.size)
theorem Ext.chain {a b c : World} (k : Ext b c) (h : Ext a b) : Ext a c := h.trans k
theorem Ext.drew {a b : World} (h : Ext a b) : Ext a b.drew := Below.drew h
theorem Ext.drewN {a b : World} (h : Ext a b) (n : Nat) : Ext a (b.drewN n) := below_drewN h n
theorem Ext.alloc {a b : World} (h : Ext a b) (o : Obj) : Ext a (b.alloc o) := Below.alloc h h.size o
theorem Ext.setCell {a b : World} (h : Ext a b) {p : Addr} (hp : a.heap.size <= p.block) (u : Value) : Ext a (b.setCell p u) := Below.setCell h hp u
theorem Ext.le {a b : World} (h : Ext a b) : a.heap.size <= b.heap.size := h.size
theorem Ext.below {a b : World} {B : Nat} (h : Ext a b) (hB : B <= a.heap.size) : Below B a b := Below.mono h hB
theorem Ext.block {a b : World} (h : Ext a b) {k : Nat} {o : Obj} (hk : a.heap[k]? = some o) : b.heap[k]? = some o :=
 (Below.block h k (Array.getElem?_eq_some_iff.1 hk).1).trans hk
theorem Ext.cell {a b : World} (h : Ext a b) {p : Addr} {v : Value} (hc : a.cell? p = some v) : b.cell? p = some v :=
 (Below.cell h (lG a p hc)).trans hc
theorem Ext.grown {a w w' : World} {row : Option Nat} (h : Ext a w) (hg : w.grownBy w' row) (hr : ∀ k, row = some k -> a.heap.size <= k) : Ext a w' :=
 Below.grown h hg h.size hr
theorem Ext.owns {a b : World} (h : Ext a b) {base : Nat} {e : TypeId} {size : Nat} {v : Value} {n : Nat} {xs : List Value} (ho : a.ownsRow base e size v n xs) : b.ownsRow base e size v n xs := by
 refine ⟨ho.1, ?_⟩
 rcases ho.2 with h1 | ⟨g, cap, cur, hv, hb, hg, r⟩
 ·exact .inl h1
 ·exact .inr ⟨g, cap, cur, hv, hb, h.block hg, r⟩
theorem at_new {w : World} {o : Obj} {g : Nat} (h : g = w.heap.size) : (w.alloc o).heap[g]? = some o := by subst h; exact heap_alloc_new w o
theorem at_old {w : World} {o o' : Obj} {g : Nat} (h : w.heap[g]? = some o') : (w.alloc o).heap[g]? = some o' := by
 rw [Below.heap_alloc w o g (Array.getElem?_eq_some_iff.1 h).1]; exact h
theorem at_drew {w : World} {o : Obj} {g : Nat} (h : w.heap[g]? = some o) : w.drew.heap[g]? = some o := h
theorem owns_base {w : World} {base base' : Nat} {e : TypeId} {size : Nat} {v : Value} {n : Nat} {xs : List Value} (ho : w.ownsRow base e size v n xs) (hb : base' <= base) : w.ownsRow base' e size v n xs := by
 refine ⟨ho.1, ?_⟩
 rcases ho.2 with h1 | ⟨g, cap, cur, hv, hb', r⟩
 ·exact .inl h1
 ·exact .inr ⟨g, cap, cur, hv, Nat.le_trans hb hb', r⟩
theorem ret_int {k : IntKind} {a b : Int} (h : a = b) : Ending.returned (.int k a) = .returned (.int k b) := by rw [h]
theorem ret_bool {a b : Bool} (h : a = b) : Ending.returned (.bool a) = .returned (.bool b) := by rw [h]
def isNum (n : Int) : Bool := decide (0 <= n) && decide (n <= 2147483647)
def isByt (n : Int) : Bool := decide (0 <= n) && decide (n < 256)
theorem isNum_iff (n : Int) : isNum n = true ↔ 0 <= n /\ n <= 2147483647 := by simp [isNum]
theorem isByt_iff (n : Int) : isByt n = true ↔ 0 <= n /\ n < 256 := by simp [isByt]
end
-- Turn
section
open Go.RowKit
structure Turn (S : Nat -> Prop) (w w' : World) : Prop where
 os : w'.os = w.os
 tape : w'.tape = w.tape
 output : w'.output = w.output
 size : w.heap.size <= w'.heap.size
 block : ∀ k, k < w.heap.size -> ¬ S k -> w'.heap[k]? = w.heap[k]?
theorem Turn.refl (S : Nat -> Prop) (w : World) : Turn S w w := ⟨rfl, rfl, rfl, Nat.le_refl _, fun _ _ _ => rfl⟩
theorem Turn.of_ext {S : Nat -> Prop} {a b : World} (h : Ext a b) : Turn S a b := ⟨Below.os h, Below.tape h, Below.output h, Below.size h, fun k hk _ => Below.block h k hk⟩
theorem Turn.ext {a b : World} (h : Turn (fun _ => False) a b) : Ext a b := ⟨h.os, h.tape, h.output, h.size, fun k hk => h.block k hk id⟩
theorem Turn.trans' {S S' : Nat -> Prop} {a b c : World} (h : Turn S a b) (k : Turn S' b c) (hs : ∀ i, i < a.heap.size -> S' i -> S i) : Turn S a c :=
 ⟨k.os.trans h.os, k.tape.trans h.tape, k.output.trans h.output, Nat.le_trans h.size k.size, fun i hi hn => (k.block i (Nat.lt_of_lt_of_le hi h.size) (fun hx => hn (hs i hi hx))).trans (h.block i hi hn)⟩
theorem Turn.trans {S : Nat -> Prop} {a b c : World} (h : Turn S a b) (k : Turn S b c) : Turn S a c := h.trans' k (fun _ _ hx => hx)
theorem Turn.mono {S S' : Nat -> Prop} {a b : World} (h : Turn S a b) (hs : ∀ i, i < a.heap.size -> S i -> S' i) : Turn S' a b :=
 ⟨h.os, h.tape, h.output, h.size, fun i hi hn => h.block i hi (fun hx => hn (hs i hi hx))⟩
theorem Turn.drew {S : Nat -> Prop} {a b : World} (h : Turn S a b) : Turn S a b.drew := ⟨h.os, h.tape, h.output, h.size, h.block⟩
theorem Turn.alloc {S : Nat -> Prop} {a b : World} (h : Turn S a b) (o : Obj) : Turn S a (b.alloc o) := h.trans (Turn.of_ext ((Ext.refl b).alloc o))
theorem Turn.setCell {S : Nat -> Prop} {a b : World} (h : Turn S a b) {p : Addr} (hp : p.block < a.heap.size -> S p.block) (u : Value) : Turn S a (b.setCell p u) :=
 h.trans' (S' := fun k => k = p.block) ⟨rfl, rfl, rfl, by simp [World.setCell], fun k _ hk => Below.heap_setCell _ _ _ _ (fun e => hk e)⟩ (fun i hi e => by subst e; exact hp hi)
theorem Turn.grown {S : Nat -> Prop} {a w w' : World} {row : Option Nat} (h : Turn S a w) (hg : w.grownBy w' row) (hr : ∀ k, row = some k -> k < a.heap.size -> S k) : Turn S a w' :=
 h.trans' (S' := fun k => row = some k) ⟨hg.os, hg.tape, hg.output, hg.size, fun k hk hn => hg.block k hk (fun e => hn e.symm)⟩ (fun i hi e => hr i e hi)
theorem Turn.chain {S : Nat -> Prop} {a b c : World} (k : Ext b c) (h : Turn S a b) : Turn S a c := h.trans (Turn.of_ext k)
theorem Turn.ref {S : Nat -> Prop} {a b : World} (h : Turn S a b) {k : Nat} {o : Obj} (hk : a.heap[k]? = some o) (hs : ¬ S k) : b.heap[k]? = some o :=
 (h.block k (Array.getElem?_eq_some_iff.1 hk).1 hs).trans hk
theorem Turn.cell {S : Nat -> Prop} {a b : World} (h : Turn S a b) {p : Addr} {v : Value} (hc : a.cell? p = some v) (hs : ¬ S p.block) : b.cell? p = some v :=
 (World.cell?_of_block (w := a) (h.block p.block (lG a p hc) hs)).trans hc
theorem Turn.owns {S : Nat -> Prop} {a b : World} (h : Turn S a b) {base : Nat} {e : TypeId} {size : Nat} {v : Value} {n : Nat} {xs : List Value} (ho : a.ownsRow base e size v n xs) (hs : ∀ k, v.ownBlock = some k -> ¬ S k) : b.ownsRow base e size v n xs := by
 refine ⟨ho.1, ?_⟩
 rcases ho.2 with h1 | ⟨g, cap, cur, hv, hb, hg, r⟩
 ·exact .inl h1
 ·exact .inr ⟨g, cap, cur, hv, hb, h.ref hg (hs g (by rw [hv]; rfl)), r⟩
theorem owns_form {w : World} {base : Nat} {e : TypeId} {size : Nat} {v : Value} {n : Nat} {xs : List Value} (h : w.ownsRow base e size v n xs) : v = .slice none 0 0 /\ n = 0 /\ xs = [] \/ ∃ g cap, v = .slice (some ⟨g, 0, none⟩) n cap /\ base <= g /\ n <= cap /\ cap <= maxLen := by
 obtain ⟨hl, h | ⟨g, cap, cur, hv, hb, hg, hc, hm, r⟩⟩ := h
 ·obtain ⟨rfl, rfl⟩ := h
  exact .inl ⟨rfl, rfl, List.length_eq_zero_iff.1 (by simpa using hl)⟩
 ·exact .inr ⟨g, cap, hv, hb, hc, hm⟩
end
-- Nums
section
open Go.RowKit
theorem i64w {x : Int} (h : -9223372036854775808 <= x) (h' : x <= 9223372036854775807) : IntKind.i64.wrap x = x := by rw [IntKind.wrap_i64]; omega
theorem w64 {x : Int} (h : -9223372036854775808 <= x) (h' : x <= 9223372036854775807) : wrap64 x = x := by unfold wrap64; omega
def be (l : List UInt8) : Nat := l.foldl (fun n c => n * 256 + c.toNat) 0
theorem be_snoc (l : List UInt8) (c : UInt8) : be (l ++ [c]) = be l * 256 + c.toNat := by simp [be, List.foldl_append]
theorem be_lt (l : List UInt8) : be l < 256 ^ l.length := by
 have key : ∀ (l : List UInt8) (a : Nat), l.foldl (fun n c => n * 256 + c.toNat) a < (a + 1) * 256 ^ l.length := by
  intro l
  induction l with
  | nil => intro a; simp
  | cons c t ih =>
   intro a
   simp only [List.foldl_cons, List.length_cons]
   refine Nat.lt_of_lt_of_le (ih _) ?_
   have hc := c.toNat_lt
   have : a * 256 + c.toNat + 1 <= (a + 1) * 256 := by omega
   calc (a * 256 + c.toNat + 1) * 256 ^ t.length <= ((a + 1) * 256) * 256 ^ t.length := Nat.mul_le_mul_right _ this
    _ = (a + 1) * 256 ^ (t.length + 1) := by rw [Nat.pow_succ]; rw [Nat.mul_assoc, Nat.mul_comm 256]
 have := key l 0
 simpa [be] using this
theorem take_snoc (s : ByteArray) (k : Nat) (h : k < s.size) : s.data.toList.take (k + 1) = s.data.toList.take k ++ [s[k]] := by
 rw [List.take_succ_eq_append_getElem (by simpa using h)]; rfl
def bytesOf (n : Nat) : Nat -> List UInt8
 | 0 => []
 | k + 1 => UInt8.ofNat (n / 2 ^ (8 * k)) :: bytesOf n k
theorem len_bytesOf (n k : Nat) : (bytesOf n k).length = k := by induction k <;> simp_all [bytesOf]
def byteV (l : List UInt8) : List Value := l.map fun c => .int .u8 (c.toNat : Int)
theorem byteV_append (a b : List UInt8) : byteV (a ++ b) = byteV a ++ byteV b := by simp [byteV]
theorem len_byteV (l : List UInt8) : (byteV l).length = l.length := by simp [byteV]
def beV (x : Int) : Nat -> List Value
 | 0 => []
 | k + 1 => .int .u8 (x / 2 ^ (8 * k) % 256) :: beV x k
theorem beV_eq (x : Nat) (k : Nat) : beV (x : Int) k = byteV (bytesOf x k) := by
 induction k with
 | zero => rfl
 | succ k ih =>
  simp only [beV, bytesOf, byteV, List.map_cons] at ih ⊢
  rw [ih]
  congr 2
def bytesI (x : Int) (k : Nat) : List UInt8 := bytesOf (x % 18446744073709551616).toNat k
theorem len_bytesI (x : Int) (k : Nat) : (bytesI x k).length = k := len_bytesOf _ _
theorem beV_mod (x : Int) (k : Nat) (hk : k <= 8) : beV x k = beV (x % 18446744073709551616) k := by
 have key : ∀ j, j < 8 -> x / 2 ^ (8 * j) % 256 = x % 18446744073709551616 / 2 ^ (8 * j) % 256 := by
  intro j hj
  match j, hj with
  | 0, _ => show x / 1 % 256 = x % 18446744073709551616 / 1 % 256; omega
  | 1, _ => show x / 256 % 256 = x % 18446744073709551616 / 256 % 256; omega
  | 2, _ => show x / 65536 % 256 = x % 18446744073709551616 / 65536 % 256; omega
  | 3, _ => show x / 16777216 % 256 = x % 18446744073709551616 / 16777216 % 256; omega
  | 4, _ => show x / 4294967296 % 256 = x % 18446744073709551616 / 4294967296 % 256; omega
  | 5, _ => show x / 1099511627776 % 256 = x % 18446744073709551616 / 1099511627776 % 256; omega
  | 6, _ => show x / 281474976710656 % 256 = x % 18446744073709551616 / 281474976710656 % 256; omega
  | 7, _ => show x / 72057594037927936 % 256 = x % 18446744073709551616 / 72057594037927936 % 256; omega
 induction k with
 | zero => rfl
 | succ k ih => simp only [beV]; rw [key k (by omega), ih (by omega)]
theorem beV_I (x : Int) (k : Nat) (hk : k <= 8) : beV x k = byteV (bytesI x k) := by
 rw [beV_mod x k hk, bytesI, <- beV_eq, Int.toNat_of_nonneg (by omega)]
end
-- Disk
section
set_option maxRecDepth 100000
set_option maxHeartbeats 1600000
open Go.RowKit
theorem frozen_row {w : World} {B : Nat} {cs : Array Value} {t : TypeId} (h : w.heap[B]? = some (.cells cs t (0, 0))) (i : Nat) : w.frozen? ⟨B, i, none⟩ = false := by
 unfold World.frozen?; rw [h]; simp
theorem setCell_row {w : World} {B i : Nat} {cs : Array Value} {t : TypeId} (h : w.heap[B]? = some (.cells cs t (0, 0))) (v : Value) : (w.setCell ⟨B, i, none⟩ v).heap[B]? = some (.cells (cs.setIfInBounds i v) t (0, 0)) := by
 rw [setCell_eq_setRow w B i cs t (0, 0) v h, setRow_heap w B cs _ t (0, 0) h]
structure DealAt (w : World) (B : Nat) (sv lv dv : Value) (fl : Bool) (ah : Int) (kn : Bool) : Prop where
 ex : ∃ t, (t = 114 \/ t = 112) /\ w.heap[B]? = some (.cells #[sv, lv, dv, .bool fl, .int .i64 ah, .bool kn] t (0, 0))
section
variable {w w' : World} {B : Nat} {sv lv dv : Value} {fl : Bool} {ah : Int} {kn : Bool}
theorem DealAt.cells (h : DealAt w B sv lv dv fl ah kn) :
  w.cell? ⟨B, 0, none⟩ = some sv /\ w.cell? ⟨B, 1, none⟩ = some lv /\ w.cell? ⟨B, 2, none⟩ = some dv /\ w.cell? ⟨B, 3, none⟩ = some (.bool fl) /\ w.cell? ⟨B, 4, none⟩ = some (.int .i64 ah) /\ w.cell? ⟨B, 5, none⟩ = some (.bool kn) := by
 obtain ⟨t, _, h⟩ := h.ex
 refine ⟨?_, ?_, ?_, ?_, ?_, ?_⟩
 ·rw [cell_of_row w _ 0 _ _ _ h]; rfl
 ·rw [cell_of_row w _ 1 _ _ _ h]; rfl
 ·rw [cell_of_row w _ 2 _ _ _ h]; rfl
 ·rw [cell_of_row w _ 3 _ _ _ h]; rfl
 ·rw [cell_of_row w _ 4 _ _ _ h]; rfl
 ·rw [cell_of_row w _ 5 _ _ _ h]; rfl
theorem DealAt.lt (h : DealAt w B sv lv dv fl ah kn) : B < w.heap.size := let ⟨_, _, h⟩ := h.ex; (Array.getElem?_eq_some_iff.1 h).1
theorem DealAt.frozen (h : DealAt w B sv lv dv fl ah kn) (i : Nat) : w.frozen? ⟨B, i, none⟩ = false := let ⟨_, _, h⟩ := h.ex; frozen_row h i
theorem DealAt.ext (h : DealAt w B sv lv dv fl ah kn) (hx : Ext w w') : DealAt w' B sv lv dv fl ah kn := let ⟨t, ht, h⟩ := h.ex; ⟨⟨t, ht, hx.block h⟩⟩
theorem DealAt.turn {S : Nat -> Prop} (h : DealAt w B sv lv dv fl ah kn) (ht : Turn S w w') (hs : ¬ S B) : DealAt w' B sv lv dv fl ah kn := let ⟨t, hq, h⟩ := h.ex; ⟨⟨t, hq, ht.ref h hs⟩⟩
theorem DealAt.same (h : DealAt w B sv lv dv fl ah kn) (hb : w'.heap[B]? = w.heap[B]?) : DealAt w' B sv lv dv fl ah kn := let ⟨t, hq, h⟩ := h.ex; ⟨⟨t, hq, hb.trans h⟩⟩
theorem DealAt.drew (h : DealAt w B sv lv dv fl ah kn) : DealAt w.drew B sv lv dv fl ah kn := ⟨h.ex⟩
theorem DealAt.tne (h : DealAt w B sv lv dv fl ah kn) {b : Nat} {c : Array Value} {t : TypeId} (hc : w.heap[b]? = some (.cells c t (0, 0))) (hne : t ≠ 114 /\ t ≠ 112) : b ≠ B := fun e => by
 obtain ⟨u, hu, h⟩ := h.ex
 subst e
 rw [h] at hc
 simp at hc
 rcases hu with rfl | rfl
 ·exact hne.1 hc.2.symm
 ·exact hne.2 hc.2.symm
theorem DealAt.rne (h : DealAt w B sv lv dv fl ah kn) {base : Nat} {e : TypeId} {size k : Nat} {v : Value} {xs : List Value} (ho : w.ownsRow base e size v k xs) (hne : e ≠ 114 /\ e ≠ 112) : v.ownBlock ≠ some B := by
 intro hv
 rcases ho.2 with ⟨rfl, _⟩ | ⟨g, cap, cur, rfl, _, hh, _⟩
 ·simp [lH] at hv
 ·simp [lH] at hv
  exact h.tne hh hne hv
theorem DealAt.set0 (h : DealAt w B sv lv dv fl ah kn) (v : Value) : DealAt (w.setCell ⟨B, 0, none⟩ v) B v lv dv fl ah kn := let ⟨t, hq, h⟩ := h.ex; ⟨⟨t, hq, setCell_row h v⟩⟩
theorem DealAt.set1 (h : DealAt w B sv lv dv fl ah kn) (v : Value) : DealAt (w.setCell ⟨B, 1, none⟩ v) B sv v dv fl ah kn := let ⟨t, hq, h⟩ := h.ex; ⟨⟨t, hq, setCell_row h v⟩⟩
theorem DealAt.set2 (h : DealAt w B sv lv dv fl ah kn) (v : Value) : DealAt (w.setCell ⟨B, 2, none⟩ v) B sv lv v fl ah kn := let ⟨t, hq, h⟩ := h.ex; ⟨⟨t, hq, setCell_row h v⟩⟩
theorem DealAt.set3 (h : DealAt w B sv lv dv fl ah kn) (b : Bool) : DealAt (w.setCell ⟨B, 3, none⟩ (.bool b)) B sv lv dv b ah kn := let ⟨t, hq, h⟩ := h.ex; ⟨⟨t, hq, setCell_row h _⟩⟩
theorem DealAt.set4 (h : DealAt w B sv lv dv fl ah kn) (z : Int) : DealAt (w.setCell ⟨B, 4, none⟩ (.int .i64 z)) B sv lv dv fl z kn := let ⟨t, hq, h⟩ := h.ex; ⟨⟨t, hq, setCell_row h _⟩⟩
theorem DealAt.set5 (h : DealAt w B sv lv dv fl ah kn) (b : Bool) : DealAt (w.setCell ⟨B, 5, none⟩ (.bool b)) B sv lv dv fl ah b := let ⟨t, hq, h⟩ := h.ex; ⟨⟨t, hq, setCell_row h _⟩⟩
end
theorem owns_setCell {w : World} {base : Nat} {e : TypeId} {size : Nat} {v : Value} {n : Nat} {xs : List Value} (h : w.ownsRow base e size v n xs) {a : Addr} (ha : v.ownBlock ≠ some a.block) (u : Value) : (w.setCell a u).ownsRow base e size v n xs := by
 refine ⟨h.1, ?_⟩
 rcases h.2 with h2 | ⟨g, cap, cur, hv, hg, hh, r⟩
 ·exact .inl h2
 ·exact .inr ⟨g, cap, cur, hv, hg, by rw [Below.heap_setCell _ _ _ _ (fun e => ha (by rw [hv, <- e]; rfl))]; exact hh, r⟩
def lessAh (fl : Bool) (ah : Int) (n : Nat) : Int := if fl = true then ah - n else ah
def FailSo (B : Nat) (sv lv dv : Value) (fl : Bool) (ah : Int) (kn : Bool) (e : Ending) (w' : World) : Prop :=
 (e = .returned (.bool false) /\ ¬ (fl = true /\ ah = 0) /\ DealAt w' B sv lv dv fl (lessAh fl ah 1) kn) \/ (e = .returned (.bool true) /\ fl = true /\ ah = 0 /\ DealAt w' B sv lv dv false ah kn)
theorem isToFail_c (B : Nat) (sv lv dv : Value) (fl : Bool) (ah : Int) (kn : Bool) (hah : fl = true -> 0 <= ah /\ ah <= 9223372036854775807) (w : World) (h : DealAt w B sv lv dv fl ah kn) :
  Calls Tryz.prog 172 #[.pointer (some ⟨B, 2, none⟩)] w fun e w' => FailSo B sv lv dv fl ah kn e w' /\ Turn (fun b => b = B) w w' /\ w'.heap.size = w.heap.size := by
 obtain ⟨c0, c1, c2, c3, c4, c5⟩ := h.cells
 have HD : Hid (DealAt w B sv lv dv fl ah kn) := h
 have hB := h.lt
 have f3 := h.frozen 3
 have f4 := h.frozen 4
 clear h
 cases fl with
 | false =>
  clear hah
  go_enter Tryz.func172, Tryz.ntmps172
  go_wp2
  go_ret
  exact ⟨.inl ⟨rfl, by simp, by simpa [lessAh] using HD.out⟩, Turn.refl _ _, rfl⟩
 | true =>
  obtain ⟨ha0, ha1⟩ := hah rfl
  by_cases h0 : ah = 0
  ·subst h0
   go_enter Tryz.func172, Tryz.ntmps172
   go_wp2
   go_ret
   exact ⟨.inr ⟨rfl, rfl, rfl, HD.out.set3 false⟩, Turn.setCell (S := fun b => b = B) (p := ⟨B, 3, none⟩) (Turn.refl _ w) (fun _ => rfl) _, by simp [World.setCell]⟩
  ·go_enter Tryz.func172, Tryz.ntmps172
   go_wp2
   go_ret
   exact ⟨.inl ⟨rfl, by simp [h0], by simpa [lessAh] using HD.out.set4 (ah - 1)⟩, Turn.setCell (S := fun b => b = B) (p := ⟨B, 4, none⟩) (Turn.refl _ w) (fun _ => rfl) _, by simp [World.setCell]⟩
theorem four_in {w w' : World} {v0 v1 v2 v3 : Value} {t : TypeId} (h : Ext (w.alloc (.cells #[v0, v1, v2, v3] t)) w') :
  w'.cell? ⟨w.heap.size, 0, none⟩ = some v0 /\ w'.cell? ⟨w.heap.size, 1, none⟩ = some v1 /\ w'.cell? ⟨w.heap.size, 2, none⟩ = some v2 /\ w'.cell? ⟨w.heap.size, 3, none⟩ = some v3 := by
 have hb : (w.alloc (.cells #[v0, v1, v2, v3] t)).heap[w.heap.size]? = some (.cells #[v0, v1, v2, v3] t (0, 0)) := heap_alloc_new w _
 refine ⟨h.cell ?_, h.cell ?_, h.cell ?_, h.cell ?_⟩
 ·rw [cell_of_row _ _ 0 _ _ _ hb]; rfl
 ·rw [cell_of_row _ _ 1 _ _ _ hb]; rfl
 ·rw [cell_of_row _ _ 2 _ _ _ hb]; rfl
 ·rw [cell_of_row _ _ 3 _ _ _ hb]; rfl
theorem infoOp : (Tryz.prog.info? 134).map (fun i => (i.zero, i.size, i.bytes)) = some (some (.agg #[.int .i64 0, .string ⟨#[]⟩, .string ⟨#[]⟩, .string ⟨#[]⟩]), 4, 56) := by kernel_rfl
structure OpV where
 k : Int
 a : ByteArray
 b : ByteArray
 c : ByteArray
def OpV.cells (o : OpV) : List Value := [.int .i64 o.k, .string o.a, .string o.b, .string o.c]
def opCells (l : List OpV) : List Value := l.flatMap OpV.cells
theorem len_opCells (l : List OpV) : (opCells l).length = l.length * 4 := by
 induction l with
 | nil => rfl
 | cons o t ih => simp [opCells, OpV.cells] at ih ⊢; omega
theorem opCells_append (a b : List OpV) : opCells (a ++ b) = opCells a ++ opCells b := by simp [opCells]
theorem opCells_take (l : List OpV) (j : Nat) (hj : j < l.length) : opCells (l.take (j + 1)) = opCells (l.take j) ++ l[j].cells := by
 rw [List.take_succ_eq_append_getElem hj, opCells_append]; simp [opCells]
theorem opCells_at (l : List OpV) (j i : Nat) (hj : j < l.length) (hi : i < 4) : (opCells l)[j * 4 + i]? = l[j].cells[i]? := by
 have e : l = l.take j ++ (l[j] :: l.drop (j + 1)) := by simp
 have h1 : (opCells (l.take j)).length = j * 4 := by rw [len_opCells]; simp; omega
 have h2 : opCells l = opCells (l.take j) ++ (l[j].cells ++ opCells (l.drop (j + 1))) := by
  have h3 : opCells (l.take j ++ (l[j] :: l.drop (j + 1))) = opCells (l.take j) ++ (l[j].cells ++ opCells (l.drop (j + 1))) := by
   simp only [opCells, List.flatMap_append, List.flatMap_cons]
  rw [<- e] at h3
  exact h3
 rw [h2, List.getElem?_append_right (by omega), h1, show j * 4 + i - j * 4 = i by omega, List.getElem?_append_left (by simpa [OpV.cells] using hi)]
theorem op_one (l : List OpV) : ∀ u ∈ opCells l, u.oneCell' = true := by
 intro u hu
 simp only [opCells, List.mem_flatMap, OpV.cells, List.mem_cons, List.not_mem_nil, or_false] at hu
 obtain ⟨o, _, rfl | rfl | rfl | rfl⟩ := hu <;> rfl
theorem row_ne {w : World} {B : Nat} {cs : Array Value} {t e : TypeId} {base size k : Nat} {v : Value} {xs : List Value} (hB : w.heap[B]? = some (.cells cs t (0, 0))) (ho : w.ownsRow base e size v k xs) (hne : t ≠ e) : v.ownBlock ≠ some B := by
 intro hv
 rcases ho.2 with ⟨rfl, _⟩ | ⟨g, cap, cur, rfl, _, hh, _⟩
 ·simp [lH] at hv
 ·simp [lH] at hv
  subst hv
  rw [hh] at hB
  simp at hB
  exact hne hB.2.symm
def diskN (fl : Bool) (ah : Int) (n : Nat) : Nat := if fl = true /\ ah < n then ah.toNat else n
def diskOk (fl : Bool) (ah : Int) (n : Nat) : Bool := !(fl && decide (ah < n))
def diskFl (fl : Bool) (ah : Int) (n : Nat) : Bool := fl && !decide (ah < n)
def diskAh (fl : Bool) (ah : Int) (n : Nat) : Int := if fl = true /\ ah < n then 0 else lessAh fl ah n
theorem less_zero (fl : Bool) (ah : Int) : lessAh fl ah 0 = ah := by unfold lessAh; split <;> simp
theorem less_less (fl : Bool) (ah : Int) (j : Nat) : lessAh fl (lessAh fl ah j) 1 = lessAh fl ah (j + 1) := by
 unfold lessAh
 cases fl <;> simp
 omega
structure DidOps (B : Nat) (sv lv dv : Value) (fl : Bool) (ah : Int) (kn : Bool) (k : Nat) (xs : List Value) (ops : List OpV) (w w' : World) (dv' : Value) : Prop where
 deal : DealAt w' B sv lv dv' (diskFl fl ah ops.length) (diskAh fl ah ops.length) kn
 row : w'.ownsRow 0 134 4 dv' (k + diskN fl ah ops.length) (xs ++ opCells (ops.take (diskN fl ah ops.length)))
 turn : Turn (fun b => b = B \/ dv.ownBlock = some b) w w'
 own : ∀ q, dv'.ownBlock = some q -> q < w.heap.size -> dv.ownBlock = some q
 same : diskN fl ah ops.length = 0 -> dv' = dv
theorem doOps_c (B g k n : Nat) (sv lv dv : Value) (fl : Bool) (ah : Int) (kn : Bool) (hah : fl = true -> 0 <= ah /\ ah <= 9223372036854775807) (xs : List Value) (ops : List OpV) (w : World) (h : DealAt w B sv lv dv fl ah kn) (ho : w.ownsRow 0 134 4 dv k xs) (hg : w.heap[g]? = some (.cells (opCells ops).toArray 134 (0, 0))) (hgd : dv.ownBlock ≠ some g) (hl : ops.length = n) (hn : n <= 10) (hk : k <= 1000000) :
  Calls Tryz.prog 129 #[.pointer (some ⟨B, 2, none⟩), .slice (some ⟨g, 0, none⟩) n n] w fun e w' =>
   ∃ dv', e = .returned (.bool (diskOk fl ah ops.length)) /\ DidOps B sv lv dv fl ah kn k xs ops w w' dv' := by
 obtain ⟨i0, hi, hz0, hz1, hz2⟩ := info_parts infoOp
 have HD : Hid _ := h
 have HO : Hid _ := ho
 have HG : Hid _ := hg
 have HGD : Hid (dv.ownBlock ≠ some g) := hgd
 have HL : Hid (ops.length = n) := hl
 have HAH : Hid (fl = true -> 0 <= ah /\ ah <= 9223372036854775807) := hah
 clear h ho hg hgd hl hah
 go_enter Tryz.func129, Tryz.ntmps129
 go_wp2
 go_loopw [9] (fun i wr => ∃ (j : Nat) (dj : Value), j <= n /\ i = .int .i64 j /\ Hid ((fl = true -> (j : Int) <= ah) /\ (j = 0 -> dj = dv)) /\ DealAt wr B sv lv dj fl (lessAh fl ah j) kn /\ wr.ownsRow 0 134 4 dj (k + j) (xs ++ opCells (ops.take j)) /\ wr.heap[g]? = some (.cells (opCells ops).toArray 134 (0, 0)) /\ dj.ownBlock ≠ some g /\
  Turn (fun b => b = B \/ dv.ownBlock = some b) w wr /\ (∀ q, dj.ownBlock = some q -> q < w.heap.size -> dv.ownBlock = some q)) (fun i _ => n - (intOf i).toNat)
 case atStart => exact ⟨0, dv, Nat.zero_le _, rfl, ⟨fun h => (HAH.out h).1, fun _ => rfl⟩, by rw [less_zero]; exact HD.out, by rw [List.take_zero, show opCells [] = [] from rfl, List.append_nil]; exact HO.out, HG.out, HGD.out, Turn.refl _ _, fun _ h _ => h⟩
 case round =>
  obtain ⟨j, dj, hj, rfl, hja, hd, ho, hg, hgd, ht, hq⟩ := hrel
  have HQ : Hid _ := hq
  have HT : Hid _ := ht
  have HOJ : Hid _ := ho
  have HDJ : Hid _ := hd
  have HGJ : Hid _ := hg
  have HGDJ : Hid (dj.ownBlock ≠ some g) := hgd
  clear hq ht ho hd hgd
  by_cases hlt : j < n
  ·have hjl : j < ops.length := by rw [HL.out]; exact hlt
   have HE : Hid _ := opCells_take ops j hjl
   have k0 : wr.cell? ⟨g, j * 4, none⟩ = some (.int .i64 ops[j].k) := by rw [cell_of_row wr g _ _ _ _ hg]; simpa [OpV.cells] using opCells_at ops j 0 hjl (by omega)
   have k1 : wr.cell? ⟨g, j * 4 + 1, none⟩ = some (.string ops[j].a) := by rw [cell_of_row wr g _ _ _ _ hg]; simpa [OpV.cells] using opCells_at ops j 1 hjl (by omega)
   have k2 : wr.cell? ⟨g, j * 4 + 2, none⟩ = some (.string ops[j].b) := by rw [cell_of_row wr g _ _ _ _ hg]; simpa [OpV.cells] using opCells_at ops j 2 hjl (by omega)
   have k3 : wr.cell? ⟨g, j * 4 + 3, none⟩ = some (.string ops[j].c) := by rw [cell_of_row wr g _ _ _ _ hg]; simpa [OpV.cells] using opCells_at ops j 3 hjl (by omega)
   unfold OpV.cells at HE
   generalize ops[j].k = q0 at *
   generalize ops[j].a = q1 at *
   generalize ops[j].b = q2 at *
   generalize ops[j].c = q3 at *
   clear hg
   go_wp2_with fail
   have hgl0 : g < wr.heap.size := lG wr _ k0
   refine (isToFail_c B sv lv dj fl (lessAh fl ah j) kn ?hle _ ?d).mono ?_
   case hle =>
    intro hf
    have h1 := HAH.out hf
    have h2 := hja.out.1 hf
    simp only [lessAh, hf, if_true]
    omega
   case d => exact HDJ.out.ext ((Ext.refl wr).alloc _)
   rintro e w2 ⟨hso, ht2, hsz2⟩
   have HT2 : Hid (Turn (fun b => b = B) wr w2) := (Turn.of_ext ((Ext.refl wr).alloc _)).trans ht2
   have hBl : B < wr.heap.size := HDJ.out.lt
   obtain ⟨m0, m1, m2, m3⟩ := four_in (Ext.refl (wr.alloc (.cells #[.int .i64 q0, .string q1, .string q2, .string q3] 134)))
   have hnB : ¬ wr.heap.size = B := by omega
   have m0 := ht2.cell m0 hnB
   have m1 := ht2.cell m1 hnB
   have m2 := ht2.cell m2 hnB
   have m3 := ht2.cell m3 hnB
   have hsz3 : wr.heap.size < w2.heap.size := by rw [hsz2, World.size_alloc]; omega
   clear hsz2
   have hNEj : dj.ownBlock ≠ some B := DealAt.rne HDJ.out HOJ.out (by decide)
   have HO2 : Hid (w2.ownsRow 0 134 4 dj (k + j) (xs ++ opCells (ops.take j))) := HT2.out.owns HOJ.out (fun q hq e => hNEj (e ▸ hq))
   have HNE : Hid (dj.ownBlock ≠ some B) := hNEj
   have HG2 : Hid (w2.heap[g]? = some (.cells (opCells ops).toArray 134 (0, 0))) := HT2.out.ref HGJ.out (fun e => HDJ.out.tne HGJ.out (by decide) e)
   clear k0 k1 k2 k3 ht2 hNEj
   rcases hso with ⟨rfl, hno, hd2⟩ | ⟨rfl, hf, ha0, hd2⟩
   ·have HJA : Hid (fl = true -> ((j + 1 : Nat) : Int) <= ah) := fun hf => by
     have h1 := hja.out.1 hf
     have h2 : ¬ lessAh fl ah j = 0 := fun e => hno ⟨hf, e⟩
     simp only [lessAh, hf, if_true] at h2
     omega
    rw [less_less] at hd2
    have HD2 : Hid (DealAt w2 B sv lv dj fl (lessAh fl ah (j + 1)) kn) := hd2
    have hB : B < w2.heap.size := hd2.lt
    obtain ⟨c0, c1, c2, c3, c4, c5⟩ := hd2.cells
    have hbl := lG w2 _ m0
    clear c0 c1 c3 c4 c5 hno hd2
    obtain ⟨ah1, hah1⟩ : ∃ ah1, lessAh fl ah (j + 1) = ah1 := ⟨_, rfl⟩
    rw [hah1] at HD2
    have HA1 : Hid (lessAh fl ah (j + 1) = ah1) := hah1
    clear hah1
    go_wp2_with fail
    go_region_law (first
     | (refine step_append_lies _ (by rfl) _ _ 69 (by rfl) 0 134 i0 _ 4 56 Tryz.underlying69 hi hz0 hz1 hz2 (by rfl) (by decide) dj (k + j) _ (by rfl) (Ext.owns (Ext.alloc (Ext.drew (Ext.refl _)) _) HO2.out) ⟨_, 0, none⟩ 1 1 [.int .i64 q0, .string q1, .string q2, .string q3] (by rfl) (by rfl) (World.news_of_block (heap_alloc_new _ _)) (by simp [Value.oneCell']) (by decide) (by simp [maxLen]; omega) (by omega) (Nat.zero_le _) _ rfl ?_; intro g1 cap1 w1 hown1 hgrow hat hlt1; have HD1 := (DealAt.ext HD2.out (Ext.alloc (Ext.drew (Ext.refl _)) _)).same (hgrow.block B (by simp; omega) (fun e => HNE.out e.symm)); have c2' := (DealAt.cells HD1).2.2.1; have f2' := HD1.frozen 2))
    all_goals
     have R0 : DealAt (w1.setCell ⟨B, 2, none⟩ (.slice (some ⟨g1, 0, none⟩) (k + j + 1) cap1)) B sv lv (.slice (some ⟨g1, 0, none⟩) (k + j + 1) cap1) fl ah1 kn := HD1.set2 _
     have hg1B : g1 ≠ B := fun e => by
      rcases hat with h | h
      ·exact HNE.out (e ▸ h)
      ·simp at h; omega
     have R1 : (w1.setCell ⟨B, 2, none⟩ (.slice (some ⟨g1, 0, none⟩) (k + j + 1) cap1)).ownsRow 0 134 4 (.slice (some ⟨g1, 0, none⟩) (k + j + 1) cap1) (k + (j + 1)) (xs ++ opCells (ops.take (j + 1))) := by
      rw [HE.out, <- List.append_assoc]
      exact owns_setCell hown1 (by simpa [lH] using hg1B) _
     have hlg : g < w2.heap.size := by omega
     have hgB : g ≠ B := fun e => HD2.out.tne HG2.out (by decide) e
     have R2 : (w1.setCell ⟨B, 2, none⟩ (.slice (some ⟨g1, 0, none⟩) (k + j + 1) cap1)).heap[g]? = some (.cells (opCells ops).toArray 134 (0, 0)) := by
      rw [Below.heap_setCell _ _ _ _ hgB, hgrow.block g (by simp; omega) (fun e => HGDJ.out e.symm)]
      exact Ext.block (Ext.alloc (Ext.drew (Ext.refl _)) _) HG2.out
     have R3 : g1 ≠ g := fun e => by
      rcases hat with h | h
      ·exact HGDJ.out (e ▸ h)
      ·simp at h; omega
     have R4 : Turn (fun b => b = B \/ dv.ownBlock = some b) w (w1.setCell ⟨B, 2, none⟩ (.slice (some ⟨g1, 0, none⟩) (k + j + 1) cap1)) :=
      Turn.setCell (Turn.grown ((HT.out.trans (HT2.out.mono (fun _ _ e => .inl e))).drew.alloc _) hgrow (fun q hq hl => .inr (HQ.out q hq hl))) (fun _ => .inl rfl) _
     have R5 : ∀ q, (Value.slice (some ⟨g1, 0, none⟩) (k + j + 1) cap1).ownBlock = some q -> q < w.heap.size -> dv.ownBlock = some q := fun q hq hl => by
      simp [lH] at hq
      subst hq
      rcases hat with h | h
      ·exact HQ.out g1 h hl
      ·have h1 := HT.out.size
       simp at h; omega
     have HR : Hid _ := And.intro R0 (And.intro R1 (And.intro R2 (And.intro R3 (And.intro R4 R5))))
     clear R0 R1 R2 R3 R4 R5 hown1 hgrow hat HD1 c2' f2'
     go_wp2
     go_roundw
     case rel =>
      obtain ⟨R0, R1, R2, R3, R4, R5⟩ := HR.out
      exact ⟨j + 1, _, by omega, by go_num, ⟨HJA.out, fun e => by omega⟩, by rw [HA1.out]; exact R0, R1, R2, by simp [lH]; exact R3, R4, R5⟩
     case measure => simp [intOf]; omega
   ·have hja' : ah = j := by
     have h1 := hja.out.1 hf
     simp only [lessAh, hf, if_true] at ha0
     omega
    have hnn : diskN fl ah ops.length = j := by
     simp only [diskN, HL.out]
     rw [if_pos ⟨hf, by omega⟩]
     omega
    have hok : diskOk fl ah ops.length = false := by
     simp only [diskOk, HL.out, hf]
     simp
     omega
    have HFin : Hid (DidOps B sv lv dv fl ah kn k xs ops w w2 dj) := by
     refine ⟨?_, by rw [hnn]; exact HO2.out, HT.out.trans (HT2.out.mono (fun _ _ e => .inl e)), HQ.out, fun e => hja.out.2 (by omega)⟩
     have e1 : diskFl fl ah ops.length = false := by
      simp only [diskFl, HL.out, hf]
      simp
      omega
     have e2 : diskAh fl ah ops.length = lessAh fl ah j := by
      simp only [diskAh, HL.out]
      rw [if_pos ⟨hf, by omega⟩, ha0]
     rw [e1, e2]
     exact hd2
    have HOK : Hid (diskOk fl ah ops.length = false) := hok
    clear hd2 hnn hok
    go_wp2
    go_ret
    exact ⟨dj, by rw [HOK.out]; rfl, HFin.out⟩
  ·obtain rfl : j = n := by omega
   have hna : ¬ (fl = true /\ ah < (j : Int)) := fun h => by
    have := hja.out.1 h.1
    omega
   have hok : diskOk fl ah ops.length = true := by
    simp only [diskOk, HL.out]
    cases fl
    ·rfl
    ·simp at hna ⊢
     omega
   have HFin : Hid (DidOps B sv lv dv fl ah kn k xs ops w wr dj) := by
    have e0 : diskN fl ah ops.length = j := by
     simp only [diskN, HL.out]
     rw [if_neg hna]
    have e1 : diskFl fl ah ops.length = fl := by
     simp only [diskFl, HL.out]
     cases fl
     ·rfl
     ·simp at hna ⊢
      omega
    have e2 : diskAh fl ah ops.length = lessAh fl ah j := by
     simp only [diskAh, HL.out]
     rw [if_neg hna]
    refine ⟨by rw [e1, e2]; exact HDJ.out, by rw [e0]; exact HOJ.out, HT.out, HQ.out, fun e => hja.out.2 (by omega)⟩
   have HOK : Hid (diskOk fl ah ops.length = true) := hok
   clear hok hna
   go_wp2
   go_ret
   exact ⟨dj, by rw [HOK.out]; rfl, HFin.out⟩
end
-- Leaves
section
set_option maxHeartbeats 400000
open Go.RowKit
theorem be_take_lt (s : ByteArray) (k n : Nat) (h : k <= n) : be (s.data.toList.take k) < 256 ^ n := by
 refine Nat.lt_of_lt_of_le (be_lt _) (Nat.pow_le_pow_right (by omega) ?_)
 exact Nat.le_trans (List.length_take_le _ _) h
theorem take_step (s : ByteArray) (k : Nat) (hk : k < 4) (h : k < s.size) :
  bits BinOp.or IntKind.u64 (IntKind.u64.wrap ((be (s.data.toList.take k) : Int) * 256)) (IntKind.u64.wrap (s[k].toNat : Int)) = (be (s.data.toList.take (k + 1)) : Int) := by
 rw [take_snoc s k h, be_snoc]
 have h1 := be_take_lt s k 3 (by omega)
 have h2 := s[k].toNat_lt
 generalize be (List.take k s.data.toList) = b at *
 generalize s[k].toNat = c at *
 rw [IntKind.wrap_u64, IntKind.wrap_u64, Int.emod_eq_of_lt (by omega) (by omega), Int.emod_eq_of_lt (by omega) (by omega)]
 have e : ((b : Int) * 256) = ((b * 256 : Nat) : Int) := by omega
 rw [e, u64_or_nat _ _ (by omega) (by omega), nat_join 8 _ _ (by omega) (by omega)]
theorem take_c (s : ByteArray) (h : s.size <= 4) (w : World) : Calls Tryz.prog 123 #[.string s] w fun e w' =>
  e = .returned (.int .u64 (be s.data.toList)) /\ w = w' := by
 go_enter Tryz.func123, Tryz.ntmps123
 go_wp2
 go_loop [3, 4, 7] (fun n _ i => ∃ k : Nat, k <= s.size /\ i = .int .i64 k /\ n = .int .u64 (be (s.data.toList.take k))) (fun _ _ i => s.size - (intOf i).toNat)
 case atStart => exact ⟨0, Nat.zero_le _, rfl, rfl⟩
 case round =>
  obtain ⟨k, hk, rfl, rfl⟩ := hrel
  by_cases hlt : k < s.size
  ·go_wp2
   go_round
   case rel => exact ⟨k + 1, by omega, by go_num, by rw [take_step s k (by omega) hlt]⟩
   case measure => simp [intOf]; omega
  ·go_wp2
   go_ret
   exact ⟨ret_int (by rw [List.take_of_length_le (by simp; omega)]), rfl⟩
end
-- Put
section
set_option maxRecDepth 100000
set_option maxHeartbeats 400000
open Go.RowKit
structure Keeps (w w' : World) : Prop where
 size : w.heap.size <= w'.heap.size
 block : ∀ (k : Nat) (cs : Array Value) (t : TypeId) (m : Nat × Nat), w.heap[k]? = some (Obj.cells cs t m) -> t ≠ 5 -> w'.heap[k]? = some (Obj.cells cs t m)
theorem Keeps.refl (w : World) : Keeps w w := ⟨Nat.le_refl _, fun _ _ _ _ h _ => h⟩
theorem Keeps.trans {a b c : World} (h : Keeps a b) (k : Keeps b c) : Keeps a c := ⟨Nat.le_trans h.size k.size, fun i cs t m hi ht => k.block i cs t m (h.block i cs t m hi ht) ht⟩
theorem Keeps.ext {a b : World} (h : Ext a b) : Keeps a b := ⟨h.le, fun _ _ _ _ hi _ => h.block hi⟩
theorem Keeps.alloc {a b : World} (h : Keeps a b) (o : Obj) : Keeps a (b.alloc o) := h.trans (Keeps.ext ((Ext.refl b).alloc o))
theorem Keeps.drewN {a b : World} (h : Keeps a b) (n : Nat) : Keeps a (b.drewN n) := h.trans (Keeps.ext ((Ext.refl b).drewN n))
theorem Keeps.drew {a b : World} (h : Keeps a b) : Keeps a b.drew := h.trans (Keeps.ext ((Ext.refl b).drew))
theorem Keeps.grown {w w' : World} {base n : Nat} {v : Value} {xs : List Value} (ho : w.ownsRow base 5 1 v n xs) (hg : w.grownBy w' v.ownBlock) : Keeps w w' := by
 refine ⟨hg.size, fun k cs t m hk ht => ?_⟩
 rw [hg.block k (Array.getElem?_eq_some_iff.1 hk).1 ?_]
 ·exact hk
 ·intro e
  rcases ho.2 with ⟨rfl, _⟩ | ⟨g, cap, cur, rfl, _, hh, _⟩
  ·simp [lH] at e
  ·simp [lH] at e
   subst e
   rw [hh] at hk
   simp at hk
   exact ht hk.2.1.symm
theorem infoU8 : (Tryz.prog.info? 5).map (fun i => (i.zero, i.size, i.bytes)) = some (some (.int .u8 0), 1, 1) := by kernel_rfl
theorem put_c (base n : Nat) (v : Value) (xs : List Value) (x : Int) (sz : Nat) (hs : sz <= 8) (_hx0 : 0 <= x) (hx1 : x <= 18446744073709551615) (w : World)
  (hown : w.ownsRow base 5 1 v n xs) (hb : base <= w.heap.size) (hn : n + sz <= 140737488355328) :
  Calls Tryz.prog 86 #[v, .int .u64 x, .int .i64 sz] w fun e w' => ∃ v', e = .returned v' /\ w'.ownsRow base 5 1 v' (n + sz) (xs ++ beV x sz) /\ Below base w w' /\ Keeps w w' := by
 obtain ⟨i0, hi, hz0, hz1, hz2⟩ := info_parts infoU8
 have HX : Hid (x <= 18446744073709551615) := hx1
 have HN : Hid (n + sz <= 140737488355328) := hn
 clear hx1 hn
 go_enter Tryz.func86, Tryz.ntmps86
 go_wp2
 go_loopw [0, 7] (fun u i wr => ∃ (k : Nat) (pre : List Value), k <= sz /\ i = .int .i64 ((k : Int) - 1) /\ pre ++ beV x k = beV x sz /\ wr.ownsRow base 5 1 u (n + (sz - k)) (xs ++ pre) /\ Below base w wr /\ Keeps w wr) (fun _ i _ => (intOf i + 1).toNat)
 case atStart => exact ⟨sz, [], Nat.le_refl _, by go_num, rfl, by simpa using hown, Below.refl _ _, Keeps.refl _⟩
 case round =>
  obtain ⟨k, pre, hk, rfl, hpre, ho, hbel, hkp⟩ := hrel
  by_cases hlt : 1 <= k
  ·obtain ⟨j, rfl⟩ : ∃ j, k = j + 1 := ⟨k - 1, by omega⟩
   have HP : Hid (pre ++ beV x (j + 1) = beV x sz) := hpre
   clear hpre
   have hb' : base <= wr.heap.size := by have := hbel.size; omega
   go_wp2_with (at_builtin; refine wpList_append_own _ rfl _ _ 136 rfl base 5 i0 (.int .u8 0) 1 1 Tryz.underlying136 hi hz0 hz1 hz2 rfl (by decide) _ _ _ rfl (ho.alloc _) ⟨wr.heap.size, 0, none⟩ 1 1 [.int .u8 (x / 2 ^ (8 * j) % 256)] rfl rfl ?c1 ?c2 ?c3 ?c4 ?c5 ?_)
   case c1 => exact cell_one_new _ _ _
   case c2 => intro u hu; simp at hu; subst hu; rfl
   case c3 => have := HN.out; unfold maxLen; omega
   case c4 => have := HN.out; omega
   case c5 => simp; omega
   ·intro v' w1 hown' hgrow _
    have R : w1.ownsRow base 5 1 v' (n + (sz - j)) (xs ++ (pre ++ [.int .u8 (x / 2 ^ (8 * j) % 256)])) := by
     rw [show n + (sz - j) = n + (sz - (j + 1)) + 1 by omega]; simpa using hown'
    have R2 : Below base w w1 := (hbel.alloc hb' _).grown hgrow (by simp; omega) (fun k hk => (ho.lt k hk).1)
    have R3 : Keeps w w1 := (hkp.alloc _).trans (Keeps.grown (ho.alloc _) hgrow)
    clear hown' hgrow ho hbel hkp
    go_wp2
    go_roundw
    case rel => exact ⟨j, _, by omega, by go_num, by rw [List.append_assoc]; exact HP.out, R, R2, R3⟩
    case measure => simp [intOf]
  ·obtain rfl : k = 0 := by omega
   have HP : Hid (pre ++ beV x 0 = beV x sz) := hpre
   clear hpre
   go_wp2
   go_ret
   refine ⟨_, rfl, ?_, hbel, hkp⟩
   have := HP.out
   simp only [beV, List.append_nil] at this
   rw [<- this]; exact ho
theorem put_b (base n : Nat) (v : Value) (l : List UInt8) (x : Nat) (sz : Nat) (hs : sz <= 8) (hx1 : x <= 18446744073709551615) (w : World)
  (hown : w.ownsRow base 5 1 v n (byteV l)) (hb : base <= w.heap.size) (hn : n + sz <= 140737488355328) :
  Calls Tryz.prog 86 #[v, .int .u64 (x : Int), .int .i64 (sz : Int)] w fun e w' => ∃ v', e = .returned v' /\ w'.ownsRow base 5 1 v' (n + sz) (byteV (l ++ bytesOf x sz)) /\ Below base w w' /\ Keeps w w' :=
 (put_c base n v (byteV l) x sz hs (by omega) (by omega) w hown hb hn).mono fun e w' ⟨v', h1, h2, h3, h4⟩ => ⟨v', h1, by rw [byteV_append, <- beV_eq]; exact h2, h3, h4⟩
end
-- Four
section
open Go.RowKit
theorem conv_at (W : World) (g cap n : Nat) (l : List UInt8) (hl : l.length = n) (hc : ∀ j u, (byteV l)[j]? = some u -> W.cell? ⟨g, j, none⟩ = some u) :
  (convert 136 9 (.slice (some ⟨g, 0, none⟩) n cap)).run Tryz.prog W = .ok (.string ⟨l.toArray⟩) W := by
 subst hl
 refine run_convert_bytes_back W 136 9 5 ⟨g, 0, none⟩ cap l Tryz.underlying136 Tryz.underlying5 Tryz.underlying9 ?_
 intro j hj
 have e : (⟨g, 0, none⟩ : Addr).add j = ⟨g, j, none⟩ := by unfold Addr.add; split <;> simp_all
 rw [e]
 exact hc j _ (by simp [byteV, List.getElem?_eq_getElem hj])
theorem conv_own {W : World} {base g cap n : Nat} {l : List UInt8} (hl : l.length = n) (ho : W.ownsRow base 5 1 (.slice (some ⟨g, 0, none⟩) n cap) n (byteV l)) :
  (convert 136 9 (.slice (some ⟨g, 0, none⟩) n cap)).run Tryz.prog W = .ok (.string ⟨l.toArray⟩) W :=
 conv_at W g cap n l hl fun j u hu => by
  have hj := (List.getElem?_eq_some_iff.1 hu).1
  rw [ho.cellAt j (by rw [len_byteV] at hj; omega)]; exact hu
end
-- Alike
section
set_option maxRecDepth 100000
set_option maxHeartbeats 400000
open Go.RowKit
theorem infoField : (Tryz.prog.info? 162).map (fun i => (i.zero, i.size, i.bytes)) = some (some (.agg #[.pointer none, .int .i64 0, .int .i64 0]), 3, 24) := by kernel_rfl
def fcells (ps : List Addr) (sz mo : Int) : List Value := ps.flatMap fun p => [.pointer (some p), .int .i64 sz, .int .i64 mo]
theorem fcells_snoc (ps : List Addr) (p : Addr) (sz mo : Int) : fcells (ps ++ [p]) sz mo = fcells ps sz mo ++ [.pointer (some p), .int .i64 sz, .int .i64 mo] := by simp [fcells]
theorem cells_three_new (w : World) (a b c : Value) (t : TypeId) : ∀ j u, [a, b, c][j]? = some u -> (w.alloc (.cells #[a, b, c] t)).cell? ((⟨w.heap.size, 0, none⟩ : Addr).add j) = some u := by
 intro j u hj
 match j, hj with
 | 0, hj => simp at hj; subst hj; simp [Addr.add]
 | 1, hj => simp at hj; subst hj; simp [Addr.add]
 | 2, hj => simp at hj; subst hj; simp [Addr.add]
theorem alike_c (g m : Nat) (ps : List Addr) (sz mo : Int) (w : World) (hM : ps.length = m) (hm : m <= 100) (hc : ∀ i p, ps[i]? = some p -> w.cell? ⟨g, i, none⟩ = some (.pointer (some p))) :
  Calls Tryz.prog 215 #[.int .i64 sz, .int .i64 mo, .slice (some ⟨g, 0, none⟩) m m] w fun e w' =>
   ∃ v, e = .returned v /\ w'.ownsRow w.heap.size 162 3 v m (fcells ps sz mo) /\ Ext w w' := by
 obtain ⟨i0, hi, hz0, hz1, hz2⟩ := info_parts infoField
 have HM : Hid (ps.length = m) := hM
 have HCC : Hid (∀ i p, ps[i]? = some p -> w.cell? ⟨g, i, none⟩ = some (.pointer (some p))) := hc
 clear hM hc
 go_enter Tryz.func215, Tryz.ntmps215
 go_wp2
 go_loopw [7, 9, 12] (fun u _ i wr => ∃ k : Nat, k <= m /\ i = .int .i64 k /\ wr.ownsRow w.heap.size 162 3 u k (fcells (ps.take k) sz mo) /\ Ext w wr) (fun _ _ i _ => m - (intOf i).toNat)
 case atStart => exact ⟨0, Nat.zero_le _, rfl, World.ownsRow_nil _ _ _ _, Ext.refl _⟩
 case round =>
  obtain ⟨k, hk, rfl, ho, hx⟩ := hrel
  by_cases hlt : k < m
  ·have hkl : k < ps.length := by have := HM.out; omega
   have hcx : wr.cell? ⟨g, k, none⟩ = some (.pointer (some ps[k])) := hx.cell (HCC.out k _ (List.getElem?_eq_getElem hkl))
   have HP : Hid (ps.take (k + 1) = ps.take k ++ [ps[k]]) := List.take_succ_eq_append_getElem hkl
   generalize ps[k] = p at *
   have hsz := hx.le
   go_wp2_with (at_builtin; refine wpList_append_own _ rfl _ _ 158 rfl w.heap.size 162 i0 _ 3 24 Tryz.underlying158 hi hz0 hz1 hz2 rfl (by decide) _ _ _ rfl (ho.alloc _) ⟨wr.heap.size, 0, none⟩ 1 1 [.pointer (some p), .int .i64 sz, .int .i64 mo] rfl rfl ?c1 ?c2 ?c3 ?c4 ?c5 ?_)
   case c1 => exact cells_three_new _ _ _ _ _
   case c2 => intro u hu; simp at hu; rcases hu with rfl | rfl | rfl <;> rfl
   case c3 => unfold maxLen; omega
   case c4 => omega
   case c5 => simp; omega
   ·intro v' w1 hown' hgrow _
    have R : w1.ownsRow w.heap.size 162 3 v' (k + 1) (fcells (ps.take (k + 1)) sz mo) := by
     rw [HP.out, fcells_snoc]; exact hown'
    have R2 : Ext w w1 := Ext.grown (hx.alloc _) hgrow (fun k hk => (ho.lt k hk).1)
    clear hown' hgrow ho hx
    go_wp2
    go_roundw
    case rel => exact ⟨k + 1, by omega, by go_num, R, R2⟩
    case measure => simp [intOf]; omega
  ·obtain rfl : m = k := by omega
   go_wp2
   go_ret
   refine ⟨_, rfl, ?_, hx⟩
   have e : ps.take m = ps := List.take_of_length_le (by have := HM.out; omega)
   rw [e] at ho; exact ho
theorem numbers_c (g m : Nat) (ps : List Addr) (w : World) (hM : ps.length = m) (hm : m <= 100) (hc : ∀ i p, ps[i]? = some p -> w.cell? ⟨g, i, none⟩ = some (.pointer (some p))) :
  Calls Tryz.prog 212 #[.slice (some ⟨g, 0, none⟩) m m] w fun e w' =>
   ∃ v, e = .returned v /\ w'.ownsRow w.heap.size 162 3 v m (fcells ps 4 2147483647) /\ Ext w w' := by
 have H := alike_c g m ps 4 2147483647 w hM hm hc
 have HH : Hid (Calls _ _ _ _ _) := H
 clear H hc hM
 go_enter Tryz.func212, Tryz.ntmps212
 go_wp2_with fail
 refine HH.out.mono ?_
 rintro e w' ⟨v, rfl, h1, h2⟩
 go_wp2
 go_ret
 exact ⟨v, rfl, h1, h2⟩
theorem octets_c (g m : Nat) (ps : List Addr) (w : World) (hM : ps.length = m) (hm : m <= 100) (hc : ∀ i p, ps[i]? = some p -> w.cell? ⟨g, i, none⟩ = some (.pointer (some p))) :
  Calls Tryz.prog 216 #[.slice (some ⟨g, 0, none⟩) m m] w fun e w' =>
   ∃ v, e = .returned v /\ w'.ownsRow w.heap.size 162 3 v m (fcells ps 1 255) /\ Ext w w' := by
 have H := alike_c g m ps 1 255 w hM hm hc
 have HH : Hid (Calls _ _ _ _ _) := H
 clear H hc hM
 go_enter Tryz.func216, Tryz.ntmps216
 go_wp2_with fail
 refine HH.out.mono ?_
 rintro e w' ⟨v, rfl, h1, h2⟩
 go_wp2
 go_ret
 exact ⟨v, rfl, h1, h2⟩
end
-- Concat
section
set_option maxRecDepth 100000
set_option maxHeartbeats 800000
open Go.RowKit
theorem growF_c (n : Nat) (hn : 1 <= n) (hn2 : n <= 1000) (w : World) :
  Calls Tryz.prog 214 #[.slice none 0 0, .int .i64 n] w fun e w' => ∃ v, e = .returned v /\ w'.ownsRow w.heap.size 162 3 v 0 [] /\ Ext w w' := by
 obtain ⟨i0, hi, hz0, hz1, hz2⟩ := info_parts infoField
 obtain ⟨G, cur, hG1, hG2, hcs, hrz⟩ : ∃ (G : Nat) (cur : Array Value), n <= G /\ G <= maxLen /\ cur.size = G * 3 /\ ∀ ty, (Builtin.append_ #[158, 3] ty #[.slice none 0 0, .int .i64 n]).run Tryz.prog w =
   .ok (.slice (some ⟨w.heap.size, 0, none⟩) n G) (w.drew.alloc (.cells cur 162)) := by
  have h := fun ty => Lib.run_append_grow_zeros (P := Tryz.prog) w 158 3 ty 162 i0 _ .i64 .i64 Tryz.underlying158 Tryz.underlying3 hi hz0 none 0 0 [] (by rw [hz1]; exact run_firstCells_none w.drew 3 0 0 0) n (by omega) (by omega) (by omega) (by omega) (by rw [hz2]; omega)
    (by rw [hz2]; exact growslice_fits (by omega) (by omega))
  simp only [Nat.zero_add] at h
  refine ⟨_, _, ?_, ?_, ?_, h⟩
  ·exact grownCap_ge w _ _ _
  ·exact grownCap_le_maxLen w _ _ _ (by unfold maxLen; omega)
  ·have := grownCap_ge w n 0 162
   simp [size_zeroCells, Value.cells]
   omega
 have HC : Hid (cur.size = G * 3) := hcs
 have HG : Hid (n <= G /\ G <= maxLen) := ⟨hG1, hG2⟩
 unfold maxLen at hG2
 clear hcs
 go_enter Tryz.func214, Tryz.ntmps214
 go_wp2_with (at_builtin; refine Lib.wpList_append_run _ rfl _ _ _ _ rfl _ _ rfl rfl _ _ (hrz _) ?_)
 go_ret
 refine ⟨_, rfl, World.ownsRow_made w.drew cur G (Nat.le_refl _) HG.out.2 HC.out, (Ext.refl w).drew.alloc _⟩
structure FRow where
 g : Nat
 n : Nat
 cap : Nat
 xs : List Value
def FRow.val (r : FRow) : Value := .slice (some ⟨r.g, 0, none⟩) r.n r.cap
def FRow.ok (r : FRow) (w : World) : Prop := w.ownsRow 0 162 3 r.val r.n r.xs /\ 1 <= r.n /\ r.n <= 10 /\ ∀ u ∈ r.xs, u.oneCell' = true
def sumN (rs : List FRow) : Nat := (rs.map (·.n)).sum
def flatX (rs : List FRow) : List Value := rs.flatMap (·.xs)
theorem sumN_snoc (rs : List FRow) (r : FRow) : sumN (rs ++ [r]) = sumN rs + r.n := by simp [sumN]
theorem flatX_snoc (rs : List FRow) (r : FRow) : flatX (rs ++ [r]) = flatX rs ++ r.xs := by simp [flatX]
theorem sumN_le (rs : List FRow) (w : World) (h : ∀ r ∈ rs, r.ok w) : sumN rs <= rs.length * 10 := by
 induction rs with
 | nil => simp [sumN]
 | cons r t ih =>
  have h1 := (h r (by simp)).2.2.1
  have h2 := ih (fun x hx => h x (by simp [hx]))
  simp [sumN] at h2 ⊢
  omega
theorem concatF_c (g m : Nat) (rs : List FRow) (w : World) (hM : rs.length = m) (hm1 : 1 <= m) (hm2 : m <= 10) (hrs : ∀ r ∈ rs, r.ok w) (hc : ∀ (i : Nat) (h : i < rs.length), w.cell? ⟨g, i, none⟩ = some rs[i].val) :
  Calls Tryz.prog 211 #[.slice (some ⟨g, 0, none⟩) m m] w fun e w' =>
   ∃ v, e = .returned v /\ w'.ownsRow w.heap.size 162 3 v (sumN rs) (flatX rs) /\ Ext w w' := by
 obtain ⟨i0, hi, hz0, hz1, hz2⟩ := info_parts infoField
 have HL : Hid (∀ k, sumN (rs.take k) <= 100) := fun k => by
  have h1 := sumN_le (rs.take k) w (fun r hr => hrs r (List.mem_of_mem_take hr))
  have h2 := List.length_take_le k rs
  have h3 := List.length_take_le' k rs
  omega
 have HR : Hid (∀ r ∈ rs, r.ok w) := hrs
 have HC : Hid (∀ (i : Nat) (h : i < rs.length), w.cell? ⟨g, i, none⟩ = some rs[i].val) := hc
 have H1 : Hid (1 <= sumN rs) := by
  match rs, (show 1 <= rs.length by omega), hrs with
  | r :: t, _, hrs =>
   have := (hrs r (by simp)).2.1
   show 1 <= sumN (r :: t)
   simp [sumN]; omega
 have hT : ∀ k (h : k < rs.length), rs.take (k + 1) = rs.take k ++ [rs[k]] := fun k h => List.take_succ_eq_append_getElem h
 have HT : Hid _ := hT
 clear hrs hc hT
 have HM : Hid (rs.length = m) := hM
 clear hM
 go_enter Tryz.func211, Tryz.ntmps211
 go_wp2
 go_loop [3, 5, 11] (fun t _ i => ∃ k : Nat, k <= m /\ i = .int .i64 k /\ t = .int .i64 (sumN (rs.take k))) (fun _ _ i => m - (intOf i).toNat)
 case atStart => exact ⟨0, Nat.zero_le _, rfl, rfl⟩
 case round =>
  obtain ⟨k, hk, rfl, rfl⟩ := hrel
  have hL := HL.out k
  by_cases hlt : k < m
  ·have hlt' : k < rs.length := by have := HM.out; omega
   have hcx : w.cell? ⟨g, k, none⟩ = some (.slice (some ⟨rs[k].g, 0, none⟩) rs[k].n rs[k].cap) := HC.out k (by have := HM.out; omega)
   have hn1 := (HR.out rs[k] (List.getElem_mem hlt')).2.1
   have hn2 := (HR.out rs[k] (List.getElem_mem hlt')).2.2.1
   have HS : Hid (sumN (rs.take (k + 1)) = sumN (rs.take k) + rs[k].n) := by
    show sumN (rs.take (k + 1)) = sumN (rs.take k) + rs[k].n
    rw [HT.out k hlt', sumN_snoc]
   generalize rs[k] = r at *
   generalize sumN (rs.take k) = S at *
   go_wp2
   go_round
   case rel => exact ⟨k + 1, by omega, by go_num, by rw [HS.out]; go_num⟩
   case measure => simp [intOf]; omega
  ·obtain rfl : m = k := by omega
   have eS : rs.take m = rs := List.take_of_length_le (by have := HM.out; omega)
   rw [eS] at hL ⊢
   have h1 := H1.out
   clear eS
   go_wp2_with fail
   refine (growF_c _ h1 (by omega) _).mono ?_
   rintro e w1 ⟨v, rfl, ho0, hx0⟩
   go_wp2
   go_loopw [6, 8, 27] (fun u _ i wr => ∃ k : Nat, k <= m /\ i = .int .i64 k /\ wr.ownsRow w.heap.size 162 3 u (sumN (rs.take k)) (flatX (rs.take k)) /\ Ext w wr) (fun _ _ i _ => m - (intOf i).toNat)
   case atStart => exact ⟨0, Nat.zero_le _, rfl, ho0, hx0⟩
   case round =>
    obtain ⟨j, hj, rfl, ho, hx⟩ := hrel
    have hLj := HL.out j
    clear ho0 hx0
    by_cases hlt : j < m
    ·have hlt' : j < rs.length := by have := HM.out; omega
     have hcx : wr.cell? ⟨g, j, none⟩ = some (.slice (some ⟨rs[j].g, 0, none⟩) rs[j].n rs[j].cap) := hx.cell (HC.out j hlt')
     obtain ⟨hro, hn1, hn2, hone⟩ := HR.out rs[j] (List.getElem_mem hlt')
     have HRO : Hid (wr.ownsRow 0 162 3 (.slice (some ⟨rs[j].g, 0, none⟩) rs[j].n rs[j].cap) rs[j].n rs[j].xs) := hx.owns hro
     have HONE : Hid (∀ u ∈ rs[j].xs, u.oneCell' = true) := hone
     have HS : Hid (sumN (rs.take (j + 1)) = sumN (rs.take j) + rs[j].n) := by
      show sumN (rs.take (j + 1)) = sumN (rs.take j) + rs[j].n
      rw [HT.out j hlt', sumN_snoc]
     have HF : Hid (flatX (rs.take (j + 1)) = flatX (rs.take j) ++ rs[j].xs) := by
      show flatX (rs.take (j + 1)) = flatX (rs.take j) ++ rs[j].xs
      rw [HT.out j hlt', flatX_snoc]
     clear hro hone
     generalize rs[j] = r at *
     generalize sumN (rs.take j) = S at *
     generalize flatX (rs.take j) = X at *
     have hsz := hx.le
     go_wp2_with (at_builtin; refine wpList_append_own _ rfl _ _ 158 rfl w.heap.size 162 i0 _ 3 24 Tryz.underlying158 hi hz0 hz1 hz2 rfl (by decide) _ _ _ rfl ho ⟨r.g, 0, none⟩ r.n r.cap r.xs rfl HRO.out.1 ?c1 ?c2 ?c3 ?c4 ?c5 ?_)
     case c1 => exact HRO.out.cells rfl
     case c2 => exact HONE.out
     case c3 => unfold maxLen; omega
     case c4 => omega
     case c5 => omega
     ·intro v' w2 hown' hgrow _
      have R2 : Ext w w2 := Ext.grown hx hgrow (fun k hk => (ho.lt k hk).1)
      have R : w2.ownsRow w.heap.size 162 3 v' (sumN (rs.take (j + 1))) (flatX (rs.take (j + 1))) := by
       rw [HS.out, HF.out]; exact hown'
      clear hown' hgrow ho hx
      go_wp2
      go_roundw
      case rel => exact ⟨j + 1, by omega, by go_num, R, R2⟩
      case measure => simp [intOf]; omega
    ·obtain rfl : m = j := by omega
     have eS : rs.take m = rs := List.take_of_length_le (by have := HM.out; omega)
     rw [eS] at ho
     clear eS
     go_wp2
     go_ret
     exact ⟨_, rfl, ho, hx⟩
end
-- FieldsA
section
set_option maxRecDepth 100000
open Go.RowKit
theorem ptrs_at {W : World} {g : Nat} {t : TypeId} {arr : Array Value} (ps : List Addr) (hW : W.heap[g]? = some (.cells arr t (0, 0))) (hA : arr = (ps.map fun p => Value.pointer (some p)).toArray) :
  ∀ i p, ps[i]? = some p -> W.cell? ⟨g, i, none⟩ = some (.pointer (some p)) := by
 intro i p h
 rw [cell_of_row W g i _ t (0, 0) hW, hA]
 simp [h]
theorem class_c (b o : Nat) (w : World) :
  Calls Tryz.prog 213 #[.pointer (some ⟨b, o, none⟩)] w fun e w' =>
   ∃ v, e = .returned v /\ w'.ownsRow w.heap.size 162 3 v 4 (fcells [⟨b, o, none⟩, ⟨b, o + 1, none⟩, ⟨b, o + 2, none⟩, ⟨b, o + 3, none⟩] 1 255) /\ Ext w w' := by
 go_enter Tryz.func213, Tryz.ntmps213
 go_wp2
 go_region_with (go_at_call 216; refine (octets_c _ 4 [⟨b, o, none⟩, ⟨b, o + 1, none⟩, ⟨b, o + 2, none⟩, ⟨b, o + 3, none⟩] _ rfl (by decide) ?_).mono ?_; exact ptrs_at _ (by repeat (first | (with_reducible refine at_drew ?_) | ((with_reducible refine at_new ?_); (simp; done)) | (with_reducible refine at_old ?_) | (with_reducible (apply Ext.block; assumption)))) (by rfl); rintro e w1 ⟨v, rfl, ho, hx⟩)
 all_goals go_wp2
 all_goals go_ret
 refine ⟨v, rfl, owns_base ho (by simp), ((Ext.refl w).alloc _).drew.trans hx⟩
theorem row_form {w : World} {base : Nat} {e : TypeId} {size : Nat} {v : Value} {m : Nat} {xs : List Value} (h : w.ownsRow base e size v m xs) (hm : 1 <= m) :
  ∃ g cap, v = .slice (some ⟨g, 0, none⟩) m cap /\ w.ownsRow base e size (.slice (some ⟨g, 0, none⟩) m cap) m xs := by
 rcases h.2 with ⟨_, h0⟩ | ⟨g, cap, cur, hv, _⟩
 ·omega
 ·exact ⟨g, cap, hv, hv ▸ h⟩
def Made (w : World) (m : Nat) (xs : List Value) (e : Ending) (w' : World) : Prop :=
 ∃ g cap, e = .returned (.slice (some ⟨g, 0, none⟩) m cap) /\ w'.ownsRow w.heap.size 162 3 (.slice (some ⟨g, 0, none⟩) m cap) m xs /\ Ext w w'
theorem Made.of {w w' : World} {m : Nat} {xs : List Value} {e : Ending} (hm : 1 <= m) (h : ∃ v, e = .returned v /\ w'.ownsRow w.heap.size 162 3 v m xs /\ Ext w w') : Made w m xs e w' := by
 obtain ⟨v, rfl, ho, hx⟩ := h
 obtain ⟨g, cap, rfl, ho'⟩ := row_form ho hm
 exact ⟨g, cap, rfl, ho', hx⟩
theorem numbers_m (g m : Nat) (ps : List Addr) (w : World) (hM : ps.length = m) (hm1 : 1 <= m) (hm : m <= 100) (hc : ∀ i p, ps[i]? = some p -> w.cell? ⟨g, i, none⟩ = some (.pointer (some p))) :
  Calls Tryz.prog 212 #[.slice (some ⟨g, 0, none⟩) m m] w fun e w' => Made w m (fcells ps 4 2147483647) e w' := (numbers_c g m ps w hM hm hc).mono fun _ _ h => .of hm1 h
theorem octets_m (g m : Nat) (ps : List Addr) (w : World) (hM : ps.length = m) (hm1 : 1 <= m) (hm : m <= 100) (hc : ∀ i p, ps[i]? = some p -> w.cell? ⟨g, i, none⟩ = some (.pointer (some p))) :
  Calls Tryz.prog 216 #[.slice (some ⟨g, 0, none⟩) m m] w fun e w' => Made w m (fcells ps 1 255) e w' := (octets_c g m ps w hM hm hc).mono fun _ _ h => .of hm1 h
theorem class_m (b o : Nat) (w : World) : Calls Tryz.prog 213 #[.pointer (some ⟨b, o, none⟩)] w fun e w' => Made w 4 (fcells [⟨b, o, none⟩, ⟨b, o + 1, none⟩, ⟨b, o + 2, none⟩, ⟨b, o + 3, none⟩] 1 255) e w' :=
 (class_c b o w).mono fun _ _ h => .of (by decide) h
def fl (b : Nat) (l : List (Nat × Int × Int)) : List Value := l.flatMap fun x => [.pointer (some ⟨b, x.1, none⟩), .int .i64 x.2.1, .int .i64 x.2.2]
def leaseL : List (Nat × Int × Int) := [(0, 4, 2147483647), (1, 4, 2147483647), (2, 1, 255), (3, 1, 255), (4, 1, 255), (5, 1, 255), (6, 4, 2147483647)]
def fetchL : List (Nat × Int × Int) := [(0, 4, 2147483647), (1, 1, 255), (2, 1, 255), (3, 1, 255), (4, 1, 255), (5, 4, 2147483647), (6, 4, 2147483647), (7, 1, 255)]
def releaseL : List (Nat × Int × Int) := [(0, 4, 2147483647), (1, 4, 2147483647)]
def statusL : List (Nat × Int × Int) := [(0, 1, 255), (1, 1, 255), (2, 1, 255), (3, 1, 255)]
theorem releaseFields_c (b : Nat) (w : World) : Calls Tryz.prog 220 #[.pointer (some ⟨b, 0, none⟩)] w fun e w' => Made w 2 (fl b releaseL) e w' := by
 go_enter Tryz.func220, Tryz.ntmps220
 go_wp2
 go_region_with (go_at_call 212; refine (numbers_m _ 2 [⟨b, 0, none⟩, ⟨b, 1, none⟩] _ rfl (by decide) (by decide) ?_).mono ?_; exact ptrs_at _ (by repeat (first | (with_reducible refine at_drew ?_) | ((with_reducible refine at_new ?_); (simp; done)) | (with_reducible refine at_old ?_) | (with_reducible (apply Ext.block; assumption)))) (by rfl); rintro e w1 ⟨g, cap, rfl, ho, hx⟩)
 all_goals go_wp2
 all_goals go_ret
 refine ⟨g, cap, rfl, owns_base ho (by simp), ((Ext.refl w).alloc _).drew.trans hx⟩
theorem statusFields_c (b : Nat) (w : World) : Calls Tryz.prog 222 #[.pointer (some ⟨b, 0, none⟩)] w fun e w' => Made w 4 (fl b statusL) e w' := by
 go_enter Tryz.func222, Tryz.ntmps222
 go_wp2_with (go_at_call 213; refine (class_m b 0 _).mono ?_; rintro e w1 ⟨g, cap, rfl, ho, hx⟩)
 all_goals go_ret
 exact ⟨g, cap, rfl, ho, hx⟩
theorem one_fcells (ps : List Addr) (a b : Int) : ∀ u ∈ fcells ps a b, u.oneCell' = true := by
 intro u hu
 simp only [fcells, List.mem_flatMap] at hu
 obtain ⟨p, _, hu⟩ := hu
 simp at hu
 rcases hu with rfl | rfl | rfl <;> rfl
theorem ok_of {w W : World} {base g n cap : Nat} {ps : List Addr} {a b : Int} (ho : w.ownsRow base 162 3 (.slice (some ⟨g, 0, none⟩) n cap) n (fcells ps a b)) (h1 : 1 <= n) (h2 : n <= 10) (hx : Ext w W) :
  FRow.ok ⟨g, n, cap, fcells ps a b⟩ W := ⟨owns_base (hx.owns ho) (Nat.zero_le _), h1, h2, one_fcells ps a b⟩
theorem vals_at {W : World} {g : Nat} {t : TypeId} {arr : Array Value} (rs : List FRow) (hW : W.heap[g]? = some (.cells arr t (0, 0))) (hA : arr = (rs.map FRow.val).toArray) :
  ∀ (i : Nat) (h : i < rs.length), W.cell? ⟨g, i, none⟩ = some rs[i].val := by
 intro i h
 rw [cell_of_row W g i _ t (0, 0) hW, hA]
 simp [h]
theorem concat_m (g m : Nat) (rs : List FRow) (w : World) (n : Nat) (xs : List Value) (hM : rs.length = m) (hm1 : 1 <= m) (hm2 : m <= 10) (hn : sumN rs = n) (hn1 : 1 <= n) (hxs : flatX rs = xs) (hrs : ∀ r ∈ rs, r.ok w) (hc : ∀ (i : Nat) (h : i < rs.length), w.cell? ⟨g, i, none⟩ = some rs[i].val) :
  Calls Tryz.prog 211 #[.slice (some ⟨g, 0, none⟩) m m] w fun e w' => Made w n xs e w' :=
 (concatF_c g m rs w hM hm1 hm2 hrs hc).mono fun _ _ h => .of hn1 (by rw [<- hn, <- hxs]; exact h)
theorem three_ok {w : World} {a b c : FRow} (h1 : a.ok w) (h2 : b.ok w) (h3 : c.ok w) : ∀ r ∈ [a, b, c], r.ok w := by simp; exact ⟨h1, h2, h3⟩
theorem four_ok {w : World} {a b c d : FRow} (h1 : a.ok w) (h2 : b.ok w) (h3 : c.ok w) (h4 : d.ok w) : ∀ r ∈ [a, b, c, d], r.ok w := by simp; exact ⟨h1, h2, h3, h4⟩
end
-- Fit
section
set_option maxRecDepth 100000
set_option maxHeartbeats 800000
open Go.RowKit
def fitB (vals : Nat -> Int) (l : List (Nat × Int × Int)) : Bool := l.all fun x => decide (0 <= vals x.1) && decide (vals x.1 <= x.2.2)
theorem fitB_snoc (vals : Nat -> Int) (l : List (Nat × Int × Int)) (x : Nat × Int × Int) : fitB vals (l ++ [x]) = (fitB vals l && (decide (0 <= vals x.1) && decide (vals x.1 <= x.2.2))) := by simp [fitB]
theorem fitB_part {vals : Nat -> Int} {l : List (Nat × Int × Int)} {k : Nat} (hk : k < l.length) (h : (decide (0 <= vals l[k].1) && decide (vals l[k].1 <= l[k].2.2)) = false) : fitB vals l = false := by
 simp only [fitB, List.all_eq_false]
 exact ⟨l[k], List.getElem_mem hk, by simp at h ⊢; exact h⟩
theorem fl_at (b : Nat) (l : List (Nat × Int × Int)) (k : Nat) (hk : k < l.length) :
  (fl b l)[k * 3]? = some (.pointer (some ⟨b, l[k].1, none⟩)) /\ (fl b l)[k * 3 + 1]? = some (.int .i64 l[k].2.1) /\ (fl b l)[k * 3 + 2]? = some (.int .i64 l[k].2.2) := by
 induction l generalizing k with
 | nil => simp at hk
 | cons x t ih =>
  have e : fl b (x :: t) = [.pointer (some ⟨b, x.1, none⟩), .int .i64 x.2.1, .int .i64 x.2.2] ++ fl b t := rfl
  cases k with
  | zero => rw [e]; simp
  | succ k =>
   have h := ih k (by simpa using hk)
   rw [e]
   have e1 : (k + 1) * 3 = k * 3 + 3 := by omega
   rw [e1]
   simp only [lB]
   refine ⟨?_, ?_, ?_⟩
   ·rw [List.getElem?_append_right (by simp)]; simpa using h.1
   ·rw [List.getElem?_append_right (by simp)]; simpa [show k * 3 + 3 + 1 - 3 = k * 3 + 1 by omega] using h.2.1
   ·rw [List.getElem?_append_right (by simp)]; simpa [show k * 3 + 3 + 2 - 3 = k * 3 + 2 by omega] using h.2.2
theorem fit_c (b g cap m base : Nat) (l : List (Nat × Int × Int)) (vals : Nat -> Int) (w : World) (hm : l.length = m) (hm2 : m <= 100)
  (ho : w.ownsRow base 162 3 (.slice (some ⟨g, 0, none⟩) m cap) m (fl b l)) (hv : ∀ x ∈ l, w.cell? ⟨b, x.1, none⟩ = some (.int .i64 (vals x.1))) :
  Calls Tryz.prog 85 #[.slice (some ⟨g, 0, none⟩) m cap] w fun e w' => e = .returned (.bool (fitB vals l)) /\ Ext w w' := by
 have HO : Hid (∀ k (h : k < l.length), w.cell? ⟨g, k * 3, none⟩ = some (.pointer (some ⟨b, l[k].1, none⟩)) /\ w.cell? ⟨g, k * 3 + 1, none⟩ = some (.int .i64 l[k].2.1) /\ w.cell? ⟨g, k * 3 + 2, none⟩ = some (.int .i64 l[k].2.2)) := by
  intro k h
  have hf := fl_at b l k h
  rw [ho.cellAt _ (by omega), ho.cellAt _ (by omega), ho.cellAt _ (by omega)]
  exact hf
 have HV : Hid (∀ x ∈ l, w.cell? ⟨b, x.1, none⟩ = some (.int .i64 (vals x.1))) := hv
 have HM : Hid (l.length = m) := hm
 clear ho hv hm
 go_enter Tryz.func85, Tryz.ntmps85
 go_wp2
 go_loopw [4, 7] (fun _ i wr => ∃ k : Nat, k <= m /\ i = .int .i64 k /\ fitB vals (l.take k) = true /\ Ext w wr) (fun _ i _ => m - (intOf i).toNat)
 case atStart => exact ⟨0, Nat.zero_le _, rfl, rfl, Ext.refl _⟩
 case round =>
  obtain ⟨k, hk, rfl, hfit, hx⟩ := hrel
  have HF : Hid (fitB vals (l.take k) = true) := hfit
  clear hfit
  by_cases hlt : k < m
  ·have hkl : k < l.length := by have := HM.out; omega
   obtain ⟨d0, d1, d2⟩ := HO.out k hkl
   have d3 := HV.out l[k] (List.getElem_mem hkl)
   have e0 := hx.cell d0
   have e1 := hx.cell d1
   have e2 := hx.cell d2
   have e3 := hx.cell d3
   have HP : Hid ((decide (0 <= vals l[k].1) && decide (vals l[k].1 <= l[k].2.2)) = false -> fitB vals l = false) := fitB_part hkl
   have HT : Hid (fitB vals (l.take (k + 1)) = (fitB vals (l.take k) && (decide (0 <= vals l[k].1) && decide (vals l[k].1 <= l[k].2.2)))) := by
    show fitB vals (l.take (k + 1)) = _
    rw [List.take_succ_eq_append_getElem hkl, fitB_snoc]
   have hbl : b < wr.heap.size := lG wr _ e3
   have hgl : g < wr.heap.size := lG wr _ e0
   clear d0 d1 d2 d3
   generalize vals l[k].1 = x at *
   generalize l[k].2.2 = mo at *
   generalize l[k].2.1 = sz at *
   generalize l[k].1 = o at *
   by_cases h0 : 0 <= x
   ·have hd : decide (x < 0) = false := by simpa using h0
    by_cases h1 : x <= mo
    ·have hd1 : decide (mo < x) = false := by simp; omega
     go_wp2
     go_quiet (fail)
     go_wp2
     go_roundw
     case rel => exact ⟨k + 1, by omega, by go_num, by rw [HT.out, HF.out]; simp [h0, h1], (hx.alloc _).drewN _⟩
     case measure => simp [intOf]; omega
    ·have hd1 : decide (mo < x) = true := by simp; omega
     go_wp2
     go_quiet (fail)
     go_wp2
     go_ret
     exact ⟨ret_bool (HP.out (by simp [h1])).symm, (hx.alloc _).drewN _⟩
   ·have hd : decide (x < 0) = true := by simp; omega
    go_wp2
    go_quiet (fail)
    go_wp2
    go_ret
    exact ⟨ret_bool (HP.out (by simp; intro; omega)).symm, (hx.alloc _).drewN _⟩
  ·obtain rfl : m = k := by omega
   go_wp2
   go_ret
   refine ⟨ret_bool ?_, hx⟩
   have := HF.out
   rw [List.take_of_length_le (by have := HM.out; omega)] at this
   exact this.symm
end
-- Kind
section
set_option maxRecDepth 100000
set_option maxHeartbeats 800000
open Go.RowKit
def Own (w : World) (t s : TypeId) (cs : Array Value) (e : Ending) (w' : World) : Prop :=
 ∃ b, e = .returned (.iface t (.pointer (some ⟨b, 0, none⟩))) /\ w'.heap[b]? = some (.cells cs s (0, 0)) /\ w.heap.size <= b /\ Ext w w'
theorem ofKind_1 (s i ck cm cl cn f c p : Int) (w : World) :
  Calls Tryz.prog 84 #[.agg #[.int .i64 1, .int .i64 s, .int .i64 i, .int .i64 ck, .int .i64 cm, .int .i64 cl, .int .i64 cn, .int .i64 f, .int .i64 c, .int .i64 p]] w fun e w' =>
   Own w 201 210 #[.int .i64 s, .int .i64 i, .int .i64 ck, .int .i64 cm, .int .i64 cl, .int .i64 cn, .int .i64 c] e w' := by
 go_enter Tryz.func84, Tryz.ntmps84
 go_wp2
 go_ret
 exact ⟨_, rfl, at_new (by simp), by simp, ((Ext.refl w).alloc _).alloc _⟩
theorem ofKind_2 (s i ck cm cl cn f c p : Int) (w : World) :
  Calls Tryz.prog 84 #[.agg #[.int .i64 2, .int .i64 s, .int .i64 i, .int .i64 ck, .int .i64 cm, .int .i64 cl, .int .i64 cn, .int .i64 f, .int .i64 c, .int .i64 p]] w fun e w' =>
   Own w 203 212 #[.int .i64 s, .int .i64 ck, .int .i64 cm, .int .i64 cl, .int .i64 cn, .int .i64 f, .int .i64 c, .int .i64 p] e w' := by
 go_enter Tryz.func84, Tryz.ntmps84
 go_wp2
 go_ret
 exact ⟨_, rfl, at_new (by simp), by simp, ((Ext.refl w).alloc _).alloc _⟩
theorem ofKind_3 (s i ck cm cl cn f c p : Int) (w : World) :
  Calls Tryz.prog 84 #[.agg #[.int .i64 3, .int .i64 s, .int .i64 i, .int .i64 ck, .int .i64 cm, .int .i64 cl, .int .i64 cn, .int .i64 f, .int .i64 c, .int .i64 p]] w fun e w' =>
   Own w 205 214 #[.int .i64 s, .int .i64 i] e w' := by
 go_enter Tryz.func84, Tryz.ntmps84
 go_wp2
 go_ret
 exact ⟨_, rfl, at_new (by simp), by simp, ((Ext.refl w).alloc _).alloc _⟩
theorem ofKind_4 (s i ck cm cl cn f c p : Int) (w : World) :
  Calls Tryz.prog 84 #[.agg #[.int .i64 4, .int .i64 s, .int .i64 i, .int .i64 ck, .int .i64 cm, .int .i64 cl, .int .i64 cn, .int .i64 f, .int .i64 c, .int .i64 p]] w fun e w' =>
   Own w 207 216 #[.int .i64 ck, .int .i64 cm, .int .i64 cl, .int .i64 cn] e w' := by
 go_enter Tryz.func84, Tryz.ntmps84
 go_wp2
 go_ret
 exact ⟨_, rfl, at_new (by simp), by simp, ((Ext.refl w).alloc _).alloc _⟩
theorem ofKind_no (k s i ck cm cl cn f c p : Int) (h1 : (k == 1) = false) (h2 : (k == 2) = false) (h3 : (k == 3) = false) (h4 : (k == 4) = false) (w : World) :
  Calls Tryz.prog 84 #[.agg #[.int .i64 k, .int .i64 s, .int .i64 i, .int .i64 ck, .int .i64 cm, .int .i64 cl, .int .i64 cn, .int .i64 f, .int .i64 c, .int .i64 p]] w fun e w' =>
   e = .returned .nilIface /\ Ext w w' := by
 go_enter Tryz.func84, Tryz.ntmps84
 go_wp2
 go_ret
 exact ⟨rfl, (Ext.refl w).alloc _⟩
theorem cell_at {W : World} {b i : Nat} {cs : Array Value} {t : TypeId} {v : Value} (h : W.heap[b]? = some (.cells cs t (0, 0))) (hv : cs[i]? = some v) : W.cell? ⟨b, i, none⟩ = some v := by
 rw [cell_of_row W b i cs t (0, 0) h]; exact hv
theorem leasePlain_c (b : Nat) (s i ck cm cl cn c : Int) (w : World) (h : w.heap[b]? = some (.cells #[.int .i64 s, .int .i64 i, .int .i64 ck, .int .i64 cm, .int .i64 cl, .int .i64 cn, .int .i64 c] 210 (0, 0))) :
  Calls Tryz.prog 209 #[.pointer (some ⟨b, 0, none⟩)] w fun e w' =>
   e = .returned (.agg #[.int .i64 1, .int .i64 s, .int .i64 i, .int .i64 ck, .int .i64 cm, .int .i64 cl, .int .i64 cn, .int .i64 0, .int .i64 c, .int .i64 0]) /\ Ext w w' := by
 have c0 : w.cell? ⟨b, 0, none⟩ = some (.int .i64 s) := cell_at h rfl
 have c1 : w.cell? ⟨b, 1, none⟩ = some (.int .i64 i) := cell_at h rfl
 have c2 : w.cell? ⟨b, 2, none⟩ = some (.int .i64 ck) := cell_at h rfl
 have c3 : w.cell? ⟨b, 3, none⟩ = some (.int .i64 cm) := cell_at h rfl
 have c4 : w.cell? ⟨b, 4, none⟩ = some (.int .i64 cl) := cell_at h rfl
 have c5 : w.cell? ⟨b, 5, none⟩ = some (.int .i64 cn) := cell_at h rfl
 have c6 : w.cell? ⟨b, 6, none⟩ = some (.int .i64 c) := cell_at h rfl
 have hlt : b < w.heap.size := (Array.getElem?_eq_some_iff.1 h).1
 clear h
 go_enter Tryz.func209, Tryz.ntmps209
 go_wp2
 go_region
 all_goals go_wp2
 all_goals refine bodyPost_ret (v := .agg #[.int .i64 1, .int .i64 s, .int .i64 i, .int .i64 ck, .int .i64 cm, .int .i64 cl, .int .i64 cn, .int .i64 0, .int .i64 c, .int .i64 0]) (by simp [results, Tryz.results209, go_sem]) rfl ⟨rfl, ?_⟩
 all_goals (repeat (first | exact Ext.refl _ | refine Ext.drew ?_ | refine Ext.alloc ?_ _ | refine Ext.setCell ?_ (by simp) _))
theorem fetchPlain_c (b : Nat) (s ck cm cl cn f c p : Int) (w : World) (h : w.heap[b]? = some (.cells #[.int .i64 s, .int .i64 ck, .int .i64 cm, .int .i64 cl, .int .i64 cn, .int .i64 f, .int .i64 c, .int .i64 p] 212 (0, 0))) :
  Calls Tryz.prog 217 #[.pointer (some ⟨b, 0, none⟩)] w fun e w' =>
   e = .returned (.agg #[.int .i64 2, .int .i64 s, .int .i64 0, .int .i64 ck, .int .i64 cm, .int .i64 cl, .int .i64 cn, .int .i64 f, .int .i64 c, .int .i64 p]) /\ Ext w w' := by
 have c0 : w.cell? ⟨b, 0, none⟩ = some (.int .i64 s) := cell_at h rfl
 have c1 : w.cell? ⟨b, 1, none⟩ = some (.int .i64 ck) := cell_at h rfl
 have c2 : w.cell? ⟨b, 2, none⟩ = some (.int .i64 cm) := cell_at h rfl
 have c3 : w.cell? ⟨b, 3, none⟩ = some (.int .i64 cl) := cell_at h rfl
 have c4 : w.cell? ⟨b, 4, none⟩ = some (.int .i64 cn) := cell_at h rfl
 have c5 : w.cell? ⟨b, 5, none⟩ = some (.int .i64 f) := cell_at h rfl
 have c6 : w.cell? ⟨b, 6, none⟩ = some (.int .i64 c) := cell_at h rfl
 have c7 : w.cell? ⟨b, 7, none⟩ = some (.int .i64 p) := cell_at h rfl
 have hlt : b < w.heap.size := (Array.getElem?_eq_some_iff.1 h).1
 clear h
 go_enter Tryz.func217, Tryz.ntmps217
 go_wp2
 go_region
 all_goals go_wp2
 all_goals refine bodyPost_ret (v := .agg #[.int .i64 2, .int .i64 s, .int .i64 0, .int .i64 ck, .int .i64 cm, .int .i64 cl, .int .i64 cn, .int .i64 f, .int .i64 c, .int .i64 p]) (by simp [results, Tryz.results217, go_sem]) rfl ⟨rfl, ?_⟩
 all_goals (repeat (first | exact Ext.refl _ | refine Ext.drew ?_ | refine Ext.alloc ?_ _ | refine Ext.setCell ?_ (by simp) _))
theorem releasePlain_c (b : Nat) (s i : Int) (w : World) (h : w.heap[b]? = some (.cells #[.int .i64 s, .int .i64 i] 214 (0, 0))) :
  Calls Tryz.prog 219 #[.pointer (some ⟨b, 0, none⟩)] w fun e w' =>
   e = .returned (.agg #[.int .i64 3, .int .i64 s, .int .i64 i, .int .i64 0, .int .i64 0, .int .i64 0, .int .i64 0, .int .i64 0, .int .i64 0, .int .i64 0]) /\ Ext w w' := by
 have c0 : w.cell? ⟨b, 0, none⟩ = some (.int .i64 s) := cell_at h rfl
 have c1 : w.cell? ⟨b, 1, none⟩ = some (.int .i64 i) := cell_at h rfl
 have hlt : b < w.heap.size := (Array.getElem?_eq_some_iff.1 h).1
 clear h
 go_enter Tryz.func219, Tryz.ntmps219
 go_wp2
 go_region
 all_goals go_wp2
 all_goals refine bodyPost_ret (v := .agg #[.int .i64 3, .int .i64 s, .int .i64 i, .int .i64 0, .int .i64 0, .int .i64 0, .int .i64 0, .int .i64 0, .int .i64 0, .int .i64 0]) (by simp [results, Tryz.results219, go_sem]) rfl ⟨rfl, ?_⟩
 all_goals (repeat (first | exact Ext.refl _ | refine Ext.drew ?_ | refine Ext.alloc ?_ _ | refine Ext.setCell ?_ (by simp) _))
theorem statusPlain_c (b : Nat) (ck cm cl cn : Int) (w : World) (h : w.heap[b]? = some (.cells #[.int .i64 ck, .int .i64 cm, .int .i64 cl, .int .i64 cn] 216 (0, 0))) :
  Calls Tryz.prog 221 #[.pointer (some ⟨b, 0, none⟩)] w fun e w' =>
   e = .returned (.agg #[.int .i64 4, .int .i64 0, .int .i64 0, .int .i64 ck, .int .i64 cm, .int .i64 cl, .int .i64 cn, .int .i64 0, .int .i64 0, .int .i64 0]) /\ Ext w w' := by
 have c0 : w.cell? ⟨b, 0, none⟩ = some (.int .i64 ck) := cell_at h rfl
 have c1 : w.cell? ⟨b, 1, none⟩ = some (.int .i64 cm) := cell_at h rfl
 have c2 : w.cell? ⟨b, 2, none⟩ = some (.int .i64 cl) := cell_at h rfl
 have c3 : w.cell? ⟨b, 3, none⟩ = some (.int .i64 cn) := cell_at h rfl
 have hlt : b < w.heap.size := (Array.getElem?_eq_some_iff.1 h).1
 clear h
 go_enter Tryz.func221, Tryz.ntmps221
 go_wp2
 all_goals go_wp2
 all_goals refine bodyPost_ret (v := .agg #[.int .i64 4, .int .i64 0, .int .i64 0, .int .i64 ck, .int .i64 cm, .int .i64 cl, .int .i64 cn, .int .i64 0, .int .i64 0, .int .i64 0]) (by simp [results, Tryz.results221, go_sem]) rfl ⟨rfl, ?_⟩
 all_goals (repeat (first | exact Ext.refl _ | refine Ext.drew ?_ | refine Ext.alloc ?_ _ | refine Ext.setCell ?_ (by simp) _))
end
-- Meth
section
theorem m_leasePlain (a : Addr) (w : World) : (method 417 201 (.pointer (some a)) "Plain").run Tryz.prog w = .ok (209, .pointer (some a)) w := by kernel_rfl
theorem m_fetchPlain (a : Addr) (w : World) : (method 417 203 (.pointer (some a)) "Plain").run Tryz.prog w = .ok (217, .pointer (some a)) w := by kernel_rfl
theorem m_releasePlain (a : Addr) (w : World) : (method 417 205 (.pointer (some a)) "Plain").run Tryz.prog w = .ok (219, .pointer (some a)) w := by kernel_rfl
theorem m_statusPlain (a : Addr) (w : World) : (method 417 207 (.pointer (some a)) "Plain").run Tryz.prog w = .ok (221, .pointer (some a)) w := by kernel_rfl
theorem m_leaseFields (a : Addr) (w : World) : (method 417 201 (.pointer (some a)) "dealer/wire.fields").run Tryz.prog w = .ok (210, .pointer (some a)) w := by kernel_rfl
theorem m_fetchFields (a : Addr) (w : World) : (method 417 203 (.pointer (some a)) "dealer/wire.fields").run Tryz.prog w = .ok (218, .pointer (some a)) w := by kernel_rfl
theorem m_releaseFields (a : Addr) (w : World) : (method 417 205 (.pointer (some a)) "dealer/wire.fields").run Tryz.prog w = .ok (220, .pointer (some a)) w := by kernel_rfl
theorem m_statusFields (a : Addr) (w : World) : (method 417 207 (.pointer (some a)) "dealer/wire.fields").run Tryz.prog w = .ok (222, .pointer (some a)) w := by kernel_rfl
theorem field_kind (k s i ck cm cl cn f c p : Int) (w : World) : (Instr.field 51 (.agg #[.int .i64 k, .int .i64 s, .int .i64 i, .int .i64 ck, .int .i64 cm, .int .i64 cl, .int .i64 cn, .int .i64 f, .int .i64 c, .int .i64 p]) 0).run Tryz.prog w = .ok (.int .i64 k) w := by kernel_rfl
end
-- WW
section
open Go.RowKit
theorem put_s (base n g cap : Nat) (l : List UInt8) (x : Nat) (sz : Nat) (hs : sz <= 8) (hn1 : 1 <= n + sz) (hx1 : x <= 18446744073709551615) (w : World)
  (hown : w.ownsRow base 5 1 (.slice (some ⟨g, 0, none⟩) n cap) n (byteV l)) (hb : base <= w.heap.size) (hn : n + sz <= 140737488355328) :
  Calls Tryz.prog 86 #[.slice (some ⟨g, 0, none⟩) n cap, .int .u64 (x : Int), .int .i64 (sz : Int)] w fun e w' =>
   ∃ g' cap', e = .returned (.slice (some ⟨g', 0, none⟩) (n + sz) cap') /\ w'.ownsRow base 5 1 (.slice (some ⟨g', 0, none⟩) (n + sz) cap') (n + sz) (byteV (l ++ bytesOf x sz)) /\ Below base w w' /\ Keeps w w' :=
 (put_b base n _ l x sz hs hx1 w hown hb hn).mono fun e w' ⟨v', h1, h2, h3, h4⟩ => by
  obtain ⟨g', cap', rfl, h5⟩ := row_form h2 (by omega)
  exact ⟨g', cap', h1, h5, h3, h4⟩
def flatB (vals : Nat -> Nat) (l : List (Nat × Int × Int)) : List UInt8 := l.flatMap fun x => bytesOf (vals x.1) x.2.1.toNat
theorem flatB_snoc (vals : Nat -> Nat) (l : List (Nat × Int × Int)) (x : Nat × Int × Int) : flatB vals (l ++ [x]) = flatB vals l ++ bytesOf (vals x.1) x.2.1.toNat := by simp [flatB]
def sizes8 (l : List (Nat × Int × Int)) : Prop := ∀ x ∈ l, 1 <= x.2.1 /\ x.2.1 <= 8
theorem len_flatB (vals : Nat -> Nat) (l : List (Nat × Int × Int)) (h : sizes8 l) : (flatB vals l).length <= l.length * 8 := by
 induction l with
 | nil => simp [flatB]
 | cons x t ih =>
  have h1 := ih (fun y hy => h y (by simp [hy]))
  have h2 := h x (by simp)
  simp [flatB, len_bytesOf] at h1 ⊢
  omega
end
end Go.Proofs.YtmnjhhachdlmkaaGreat
