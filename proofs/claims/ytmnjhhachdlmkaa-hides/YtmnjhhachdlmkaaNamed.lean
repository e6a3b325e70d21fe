import Derived.Test.YtmnjhhachdlmkaaAgainst
namespace Go.Proofs.Ytmnjhhachdlmkaa
open Go.RowKit

/-- A lease as its cells. -/
structure LsV where
  s : Int
  i : Int
  kd : Int
  m : Int
  k : Int
  n : Int
  f : Int
  c : Int
  r : Bool
def LsV.cells (l : LsV) : List Value := [.int .i64 l.s, .int .i64 l.i, .int .i64 l.kd, .int .i64 l.m, .int .i64 l.k, .int .i64 l.n, .int .i64 l.f, .int .i64 l.c, .bool l.r]

set_option maxRecDepth 100000 in
set_option maxHeartbeats 1600000 in
theorem named0_c (B : Nat) (ss ii : Int) (sv dv : Value) (fl : Bool) (ah : Int) (kn : Bool) (w : World) (h : DealAt w B sv (.slice none 0 0) dv fl ah kn) :
    Calls Try.prog 75 #[.pointer (some ⟨B, 0, none⟩), .int .i64 ss, .int .i64 ii] w fun e w' => e = .returned (.pointer none) ∧ w = w' := by
  obtain ⟨c0, c1, _⟩ := h.cells
  have hB := h.lt
  clear h
  go_enter Try.func75, Try.ntmps75
  go_wp2
  go_loopw [14] (fun i wr => i = .int .i64 0 ∧ wr = w) (fun _ _ => 0)
  case atStart => exact ⟨rfl, rfl⟩
  case round =>
    obtain ⟨rfl, rfl⟩ := hrel
    go_wp2
    go_ret
    exact ⟨rfl, rfl⟩

set_option maxRecDepth 100000 in
set_option maxHeartbeats 1600000 in
theorem named1_c (B g cap : Nat) (l : LsV) (sv dv : Value) (fl : Bool) (ah : Int) (kn : Bool) (w : World) (h : DealAt w B sv (.slice (some ⟨g, 0, none⟩) 1 cap) dv fl ah kn) (hl : ∀ i v, l.cells[i]? = some v → w.cell? ⟨g, i, none⟩ = some v) :
    Calls Try.prog 75 #[.pointer (some ⟨B, 0, none⟩), .int .i64 l.s, .int .i64 l.i] w fun e w' => e = .returned (.pointer (some ⟨g, 0, none⟩)) ∧ Ext w w' := by
  obtain ⟨c0, c1, _⟩ := h.cells
  have hB := h.lt
  have l0 := hl 0 _ rfl
  have l1 := hl 1 _ rfl
  have l2 := hl 2 _ rfl
  have l3 := hl 3 _ rfl
  have l4 := hl 4 _ rfl
  have l5 := hl 5 _ rfl
  have l6 := hl 6 _ rfl
  have l7 := hl 7 _ rfl
  have l8 := hl 8 _ rfl
  have hgl := World.block_lt_of_cell? w _ l0
  clear h hl
  go_enter Try.func75, Try.ntmps75
  go_wp2
  go_loopw [14] (fun i wr => i = .int .i64 0 ∧ wr = w) (fun _ _ => 0)
  case atStart => exact ⟨rfl, rfl⟩
  case round =>
    obtain ⟨rfl, rfl⟩ := hrel
    go_wp2
    go_ret
    exact ⟨rfl, (Ext.refl _).alloc _⟩

set_option maxRecDepth 100000 in
set_option maxHeartbeats 1600000 in
theorem leaseOf1_c (B g cap : Nat) (l : LsV) (hf : l.f = 0) (hc : l.c = 1) (sv dv : Value) (fl : Bool) (ah : Int) (kn : Bool) (w : World) (h : DealAt w B sv (.slice (some ⟨g, 0, none⟩) 1 cap) dv fl ah kn) (hl : ∀ i v, l.cells[i]? = some v → w.cell? ⟨g, i, none⟩ = some v) :
    Calls Try.prog 84 #[.pointer (some ⟨B, 0, none⟩), clsV l.kd l.m l.k l.n, .int .i64 0] w fun e w' => e = .returned (.pointer (some ⟨g, 0, none⟩)) ∧ Ext w w' := by
  obtain ⟨c0, c1, _⟩ := h.cells
  have hB := h.lt
  have l0 := hl 0 _ rfl
  have l1 := hl 1 _ rfl
  have l2 := hl 2 _ rfl
  have l3 := hl 3 _ rfl
  have l4 := hl 4 _ rfl
  have l5 := hl 5 _ rfl
  have l6 := hl 6 _ rfl
  have l7 := hl 7 _ rfl
  have l8 := hl 8 _ rfl
  rw [hf] at l6
  rw [hc] at l7
  have hgl := World.block_lt_of_cell? w _ l0
  have heq := fun (a b c e a' b' c' e' : Int) (w : World) => eqClass 9998 a b c e a' b' c' e' w
  clear h hl hf hc
  unfold clsV
  go_enter Try.func84, Try.ntmps84
  go_wp2
  have hf := four_in (Ext.refl (w.alloc (.cells #[.int .i64 l.kd, .int .i64 l.m, .int .i64 l.k, .int .i64 l.n] 23)))
  have HXV : Hid (Ext w (w.alloc (.cells #[.int .i64 l.kd, .int .i64 l.m, .int .i64 l.k, .int .i64 l.n] 23))) := (Ext.refl w).alloc _
  generalize World.alloc w _ = V at hf HXV ⊢
  obtain ⟨d0, d1, d2, d3⟩ := hf
  have l0 := HXV.out.cell l0
  have l1 := HXV.out.cell l1
  have l2 := HXV.out.cell l2
  have l3 := HXV.out.cell l3
  have l4 := HXV.out.cell l4
  have l5 := HXV.out.cell l5
  have l6 := HXV.out.cell l6
  have l7 := HXV.out.cell l7
  have l8 := HXV.out.cell l8
  have c1 := HXV.out.cell c1
  have hB := Nat.lt_of_lt_of_le hB HXV.out.le
  have hgl := Nat.lt_of_lt_of_le hgl HXV.out.le
  have hcl := World.block_lt_of_cell? V _ d0
  go_loopw [14] (fun i wr => i = .int .i64 0 ∧ wr = V) (fun _ _ => 0)
  case atStart => exact ⟨rfl, rfl⟩
  case round =>
    obtain ⟨rfl, rfl⟩ := hrel
    go_wp2
    go_ret
    exact ⟨rfl, HXV.out.alloc _⟩
end Go.Proofs.Ytmnjhhachdlmkaa
