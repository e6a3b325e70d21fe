/-
  Plain mathematics: numbers and their bytes. No walk in here.
-/
import Derived.Laws.Bits64
import Derived.Laws.Bits64b
import Derived.Laws.BitsAllLaws
import Derived.WalkKit
import Derived.Laws.BitsLemmas
namespace Go.Proofs.Ytmnjhhachdlmkaa
open Go.RowKit

theorem i64w {x : Int} (h : -9223372036854775808 ≤ x) (h' : x ≤ 9223372036854775807) : IntKind.i64.wrap x = x := by rw [IntKind.wrap_i64]; omega
theorem w64 {x : Int} (h : -9223372036854775808 ≤ x) (h' : x ≤ 9223372036854775807) : wrap64 x = x := by unfold wrap64; omega

/-- The number whose highest byte stands first. -/
def be (l : List UInt8) : Nat := l.foldl (fun n c => n * 256 + c.toNat) 0
theorem be_snoc (l : List UInt8) (c : UInt8) : be (l ++ [c]) = be l * 256 + c.toNat := by simp [be, List.foldl_append]
theorem be_lt (l : List UInt8) : be l < 256 ^ l.length := by
  have key : ∀ (l : List UInt8) (a : Nat), l.foldl (fun n c => n * 256 + c.toNat) a < (a + 1) * 256 ^ l.length := by
    intro l
    induction l with
    | nil => intro a; simp
    | cons c t ih =>
      intro a
      simp only [List.foldl_cons, List.length_cons]
      refine Nat.lt_of_lt_of_le (ih _) ?_
      have hc := c.toNat_lt
      have : a * 256 + c.toNat + 1 ≤ (a + 1) * 256 := by omega
      calc (a * 256 + c.toNat + 1) * 256 ^ t.length ≤ ((a + 1) * 256) * 256 ^ t.length := Nat.mul_le_mul_right _ this
        _ = (a + 1) * 256 ^ (t.length + 1) := by rw [Nat.pow_succ]; rw [Nat.mul_assoc, Nat.mul_comm 256]
  have := key l 0
  simpa [be] using this

theorem take_snoc (s : ByteArray) (k : Nat) (h : k < s.size) : s.data.toList.take (k + 1) = s.data.toList.take k ++ [s[k]] := by
  rw [List.take_succ_eq_append_getElem (by simpa using h)]; rfl

/-- The lowest k bytes of n, the highest first. -/
def bytesOf (n : Nat) : Nat → List UInt8
  | 0 => []
  | k + 1 => UInt8.ofNat (n / 2 ^ (8 * k)) :: bytesOf n k
theorem len_bytesOf (n k : Nat) : (bytesOf n k).length = k := by induction k <;> simp_all [bytesOf]

/-- Bytes as they lie in memory. -/
def byteV (l : List UInt8) : List Value := l.map fun c => .int .u8 (c.toNat : Int)
theorem byteV_append (a b : List UInt8) : byteV (a ++ b) = byteV a ++ byteV b := by simp [byteV]
theorem len_byteV (l : List UInt8) : (byteV l).length = l.length := by simp [byteV]
theorem byteV_one (l : List UInt8) : ∀ u ∈ byteV l, u.oneCell' = true := by
  intro u hu
  simp only [byteV, List.mem_map] at hu
  obtain ⟨c, _, rfl⟩ := hu
  rfl
/-- The lowest k bytes of x, as they lie in memory, the highest first. -/
def beV (x : Int) : Nat → List Value
  | 0 => []
  | k + 1 => .int .u8 (x / 2 ^ (8 * k) % 256) :: beV x k
theorem len_beV (x : Int) (k : Nat) : (beV x k).length = k := by induction k <;> simp_all [beV]
theorem beV_eq (x : Nat) (k : Nat) : beV (x : Int) k = byteV (bytesOf x k) := by
  induction k with
  | zero => rfl
  | succ k ih =>
    simp only [beV, bytesOf, byteV, List.map_cons] at ih ⊢
    rw [ih]
    congr 2

theorem four_bytes (n : Nat) : [Value.int .u8 ((n : Int) / 256 / 256 / 256 % 256), .int .u8 ((n : Int) / 256 / 256 % 256), .int .u8 ((n : Int) / 256 % 256), .int .u8 ((n : Int) % 256)] = byteV (bytesOf n 4) := by
  rw [← beV_eq]
  simp only [beV]
  have e3 : (n : Int) / 256 / 256 / 256 = (n : Int) / 2 ^ (8 * 3) := by show _ = (n : Int) / 16777216; omega
  have e2 : (n : Int) / 256 / 256 = (n : Int) / 2 ^ (8 * 2) := by show _ = (n : Int) / 65536; omega
  have e1 : (n : Int) / 256 = (n : Int) / 2 ^ (8 * 1) := rfl
  have e0 : (n : Int) = (n : Int) / 2 ^ (8 * 0) := by simp
  rw [e3, e2, ← e0, ← e1]

theorem i64_and255 (n : Int) : bits .and .i64 n 255 = n % 256 := by
  have h255 : (BitVec.ofInt 64 255).toNat = 2 ^ 8 - 1 := by decide
  have key : (BitVec.ofInt 64 n &&& BitVec.ofInt 64 255).toNat = (n % ((2 ^ 64 : Nat) : Int)).toNat % 2 ^ 8 := by
    rw [BitVec.toNat_and, BitVec.toNat_ofInt, h255, Nat.and_two_pow_sub_one_eq_mod]
  show IntKind.i64.wrap ((BitVec.ofInt 64 n &&& BitVec.ofInt 64 255).toNat : Nat) = n % 256
  rw [key, IntKind.wrap_i64]
  omega

/-- The lowest k bytes of a number that may be below nought, the highest first. -/
def bytesI (x : Int) (k : Nat) : List UInt8 := bytesOf (x % 18446744073709551616).toNat k
theorem len_bytesI (x : Int) (k : Nat) : (bytesI x k).length = k := len_bytesOf _ _
theorem beV_mod (x : Int) (k : Nat) (hk : k ≤ 8) : beV x k = beV (x % 18446744073709551616) k := by
  have key : ∀ j, j < 8 → x / 2 ^ (8 * j) % 256 = x % 18446744073709551616 / 2 ^ (8 * j) % 256 := by
    intro j hj
    match j, hj with
    | 0, _ => show x / 1 % 256 = x % 18446744073709551616 / 1 % 256; omega
    | 1, _ => show x / 256 % 256 = x % 18446744073709551616 / 256 % 256; omega
    | 2, _ => show x / 65536 % 256 = x % 18446744073709551616 / 65536 % 256; omega
    | 3, _ => show x / 16777216 % 256 = x % 18446744073709551616 / 16777216 % 256; omega
    | 4, _ => show x / 4294967296 % 256 = x % 18446744073709551616 / 4294967296 % 256; omega
    | 5, _ => show x / 1099511627776 % 256 = x % 18446744073709551616 / 1099511627776 % 256; omega
    | 6, _ => show x / 281474976710656 % 256 = x % 18446744073709551616 / 281474976710656 % 256; omega
    | 7, _ => show x / 72057594037927936 % 256 = x % 18446744073709551616 / 72057594037927936 % 256; omega
  induction k with
  | zero => rfl
  | succ k ih => simp only [beV]; rw [key k (by omega), ih (by omega)]
theorem beV_I (x : Int) (k : Nat) (hk : k ≤ 8) : beV x k = byteV (bytesI x k) := by
  rw [beV_mod x k hk, bytesI, ← beV_eq, Int.toNat_of_nonneg (by omega)]
end Go.Proofs.Ytmnjhhachdlmkaa
