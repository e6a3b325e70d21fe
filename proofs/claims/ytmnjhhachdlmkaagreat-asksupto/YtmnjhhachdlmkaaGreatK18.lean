import Derived.Test.YtmnjhhachdlmkaaGreatK17
namespace Go.Proofs.YtmnjhhachdlmkaaGreat
open List renaming getElem_cons_succ -> lB, getElem_cons_zero -> lC, set_cons_zero -> lE
open World renaming block_lt_of_cell? -> lG
open Value renaming ownBlock -> lH
-- JSm
section
set_option maxRecDepth 100000
set_option maxHeartbeats 1600000
open Go.RowKit Go.Maps
theorem eqStock (x0 x1 x2 x3 x4 x5 x6 : Int) (w : World) : (Op.equalIn 10000 116 (.agg #[.int .i64 x0, .int .i64 x1, .int .i64 x2, .int .i64 x3, .int .i64 x4, .int .i64 x5, .int .i64 x6]) (.agg #[.int .i64 x0, .int .i64 x1, .int .i64 x2, .int .i64 x3, .int .i64 x4, .int .i64 x5, .int .i64 x6])).run Tryz.prog w = .ok true w := by
 have u3 := Tryz.underlying3
 have a3 := Tryz.isAgg3
 have z3 := Tryz.sizeOf3
 have a23 := Tryz.isAgg49
 have z23 := Tryz.sizeOf49
 have hc := fun (a b c e a' b' c' e' : Int) (w : World) => eqClass 9997 a b c e a' b' c' e' w
 have hS : Tryz.prog.underlying 116 = some (.struct (Tryz.prog.fieldsOf 116)) := by kernel_rfl
 have hp : Tryz.prog.stoodInHeld 116 = false := by kernel_rfl
 rw [show (10000 : Nat) = 9999 + 1 from rfl, run_equalIn_agg w 9999 116 _ _ hS hp]
 simp only [Program.fieldsOf, Tryz.underlying116]
 go_simp
theorem eqLease (x0 x1 x2 x3 x4 x5 x6 x7 : Int) (r : Bool) (w : World) : (Op.equalIn 10000 56 (.agg #[.int .i64 x0, .int .i64 x1, .int .i64 x2, .int .i64 x3, .int .i64 x4, .int .i64 x5, .int .i64 x6, .int .i64 x7, .bool r]) (.agg #[.int .i64 x0, .int .i64 x1, .int .i64 x2, .int .i64 x3, .int .i64 x4, .int .i64 x5, .int .i64 x6, .int .i64 x7, .bool r])).run Tryz.prog w = .ok true w := by
 have u3 := Tryz.underlying3
 have a3 := Tryz.isAgg3
 have z3 := Tryz.sizeOf3
 have a23 := Tryz.isAgg49
 have z23 := Tryz.sizeOf49
 have hc := fun (a b c e a' b' c' e' : Int) (w : World) => eqClass 9997 a b c e a' b' c' e' w
 have u4 := Tryz.underlying4
 have a4 := Tryz.isAgg4
 have z4 := Tryz.sizeOf4
 have hS : Tryz.prog.underlying 56 = some (.struct (Tryz.prog.fieldsOf 56)) := by kernel_rfl
 have hp : Tryz.prog.stoodInHeld 56 = false := by kernel_rfl
 rw [show (10000 : Nat) = 9999 + 1 from rfl, run_equalIn_agg w 9999 56 _ _ hS hp]
 simp only [Program.fieldsOf, Tryz.underlying56]
 go_simp
theorem eqOp (k : Int) (a b c : ByteArray) (w : World) : (Op.equalIn 10000 134 (.agg #[.int .i64 k, .string a, .string b, .string c]) (.agg #[.int .i64 k, .string a, .string b, .string c])).run Tryz.prog w = .ok true w := by
 have u3 := Tryz.underlying3
 have a3 := Tryz.isAgg3
 have z3 := Tryz.sizeOf3
 have u5 := Tryz.underlying9
 have a5 := Tryz.isAgg9
 have z5 := Tryz.sizeOf9
 have hS : Tryz.prog.underlying 134 = some (.struct (Tryz.prog.fieldsOf 134)) := by kernel_rfl
 have hp : Tryz.prog.stoodInHeld 134 = false := by kernel_rfl
 rw [show (10000 : Nat) = 9999 + 1 from rfl, run_equalIn_agg w 9999 134 _ _ hS hp]
 simp only [Program.fieldsOf, Tryz.underlying134]
 go_simp
/-- A row that may be read. -/
def RdRow (w : World) (a : Option Addr) (n : Nat) (xs : List Value) : Prop := n = 0 \/ ∃ g, a = some ⟨g, 0, none⟩ /\ ∀ i u, xs[i]? = some u -> w.cell? ⟨g, i, none⟩ = some u
theorem rd_owns {w : World} {base : Nat} {e : TypeId} {size : Nat} {a : Option Addr} {n cap : Nat} {xs : List Value} (h : w.ownsRow base e size (.slice a n cap) n xs) : RdRow w a n xs := by
 rcases owns_form h with ⟨_, h2, _⟩ | ⟨g, c, h1, _⟩
 ·exact .inl h2
 ·injection h1 with e1 e2 e3
  subst e1 e3
  exact .inr ⟨g, rfl, fun i u hu => owns_cell h hu⟩
theorem rd_is {w : World} {G : Nat -> Prop} {a : Option Addr} {n cap : Nat} {xs : List Value} (h : RowIs w G (.slice a n cap) n xs) : RdRow w a n xs := by
 rcases h with ⟨_, h2⟩ | ⟨g, c, h1, _, _, h4, _⟩
 ·exact .inl h2
 ·injection h1 with e1 e2 e3
  subst e1
  exact .inr ⟨g, rfl, h4⟩
theorem RdRow.turn {S : Nat -> Prop} {w w' : World} {a : Option Addr} {n : Nat} {xs : List Value} (h : RdRow w a n xs) (ht : Turn S w w') (hs : ∀ g, a = some ⟨g, 0, none⟩ -> ¬ S g) : RdRow w' a n xs := by
 rcases h with h | ⟨g, e, h⟩
 ·exact .inl h
 ·exact .inr ⟨g, e, fun i u hu => ht.cell (h i u hu) (hs g e)⟩
theorem RdRow.ext {w w' : World} {a : Option Addr} {n : Nat} {xs : List Value} (h : RdRow w a n xs) (hx : Ext w w') : RdRow w' a n xs := h.turn (S := fun _ => False) (Turn.of_ext hx) (fun _ _ => id)
theorem toldAll_at (S : List Stk) (j i : Nat) (hj : j < S.length) (hi : i < 7) : (toldAll S)[j * 7 + i]? = S[j].told[i]? := by
 have e : S = S.take j ++ (S[j] :: S.drop (j + 1)) := by simp
 have h1 : (toldAll (S.take j)).length = j * 7 := by rw [len_toldAll]; simp; omega
 have h2 : toldAll S = toldAll (S.take j) ++ (S[j].told ++ toldAll (S.drop (j + 1))) := by
  have h3 : toldAll (S.take j ++ (S[j] :: S.drop (j + 1))) = toldAll (S.take j) ++ (S[j].told ++ toldAll (S.drop (j + 1))) := by
   simp only [toldAll, List.flatMap_append, List.flatMap_cons]
  rw [<- e] at h3
  exact h3
 rw [h2, List.getElem?_append_right (by omega), h1, show j * 7 + i - j * 7 = i by omega, List.getElem?_append_left (by simpa [Stk.told] using hi)]
theorem sameStocks_c (S : List Stk) (n : Nat) (hl : S.length = n) (hn : n <= 1000000000) (a1 a2 : Option Addr) (c1 c2 : Nat) (w : World) (h1 : RdRow w a1 n (toldAll S)) (h2 : RdRow w a2 n (toldAll S)) :
  Calls Tryz.prog 76 #[.slice a1 n c1, .slice a2 n c2] w fun e w' => e = .returned (.bool true) /\ Ext w w' := by
 have heq := eqStock
 have HL : Hid (S.length = n) := hl
 have H1 : Hid _ := h1
 have H2 : Hid _ := h2
 clear h1 h2 hl
 go_enter Tryz.func76, Tryz.ntmps76
 go_wp2
 go_loopw [5] (fun i wr => ∃ j : Nat, j <= n /\ i = .int .i64 j /\ Ext w wr) (fun i _ => n - (intOf i).toNat)
 case atStart => exact ⟨0, Nat.zero_le _, rfl, Ext.refl _⟩
 case round =>
  obtain ⟨j, hj, rfl, hx⟩ := hrel
  have HX : Hid (Ext w wr) := hx
  clear hx
  by_cases hlt : j < n
  ·have hjl : j < S.length := by rw [HL.out]; exact hlt
   obtain ⟨g1, rfl, k1⟩ := H1.out.resolve_left (by omega)
   obtain ⟨g2, rfl, k2⟩ := H2.out.resolve_left (by omega)
   obtain ⟨y0, hy0⟩ : ∃ y, (S[j].kd : Int) = y := ⟨_, rfl⟩
   obtain ⟨y1, hy1⟩ : ∃ y, (S[j].m : Int) = y := ⟨_, rfl⟩
   obtain ⟨y2, hy2⟩ : ∃ y, (S[j].k : Int) = y := ⟨_, rfl⟩
   obtain ⟨y3, hy3⟩ : ∃ y, (S[j].n : Int) = y := ⟨_, rfl⟩
   obtain ⟨y4, hy4⟩ : ∃ y, (S[j].ts.length : Int) = y := ⟨_, rfl⟩
   obtain ⟨y5, hy5⟩ : ∃ y, (S[j].leased : Int) = y := ⟨_, rfl⟩
   obtain ⟨y6, hy6⟩ : ∃ y, ((S[j].ts.filter (·.2)).length : Int) = y := ⟨_, rfl⟩
   have e0 : wr.cell? ⟨g1, j * 7, none⟩ = some (.int .i64 y0) := HX.out.cell (by rw [<- hy0]; exact k1 (j * 7) _ ((toldAll_at S j 0 hjl (by omega)).trans rfl))
   have d0 : wr.cell? ⟨g2, j * 7, none⟩ = some (.int .i64 y0) := HX.out.cell (by rw [<- hy0]; exact k2 (j * 7) _ ((toldAll_at S j 0 hjl (by omega)).trans rfl))
   have e1 : wr.cell? ⟨g1, j * 7 + 1, none⟩ = some (.int .i64 y1) := HX.out.cell (by rw [<- hy1]; exact k1 (j * 7 + 1) _ ((toldAll_at S j 1 hjl (by omega)).trans rfl))
   have d1 : wr.cell? ⟨g2, j * 7 + 1, none⟩ = some (.int .i64 y1) := HX.out.cell (by rw [<- hy1]; exact k2 (j * 7 + 1) _ ((toldAll_at S j 1 hjl (by omega)).trans rfl))
   have e2 : wr.cell? ⟨g1, j * 7 + 2, none⟩ = some (.int .i64 y2) := HX.out.cell (by rw [<- hy2]; exact k1 (j * 7 + 2) _ ((toldAll_at S j 2 hjl (by omega)).trans rfl))
   have d2 : wr.cell? ⟨g2, j * 7 + 2, none⟩ = some (.int .i64 y2) := HX.out.cell (by rw [<- hy2]; exact k2 (j * 7 + 2) _ ((toldAll_at S j 2 hjl (by omega)).trans rfl))
   have e3 : wr.cell? ⟨g1, j * 7 + 3, none⟩ = some (.int .i64 y3) := HX.out.cell (by rw [<- hy3]; exact k1 (j * 7 + 3) _ ((toldAll_at S j 3 hjl (by omega)).trans rfl))
   have d3 : wr.cell? ⟨g2, j * 7 + 3, none⟩ = some (.int .i64 y3) := HX.out.cell (by rw [<- hy3]; exact k2 (j * 7 + 3) _ ((toldAll_at S j 3 hjl (by omega)).trans rfl))
   have e4 : wr.cell? ⟨g1, j * 7 + 4, none⟩ = some (.int .i64 y4) := HX.out.cell (by rw [<- hy4]; exact k1 (j * 7 + 4) _ ((toldAll_at S j 4 hjl (by omega)).trans rfl))
   have d4 : wr.cell? ⟨g2, j * 7 + 4, none⟩ = some (.int .i64 y4) := HX.out.cell (by rw [<- hy4]; exact k2 (j * 7 + 4) _ ((toldAll_at S j 4 hjl (by omega)).trans rfl))
   have e5 : wr.cell? ⟨g1, j * 7 + 5, none⟩ = some (.int .i64 y5) := HX.out.cell (by rw [<- hy5]; exact k1 (j * 7 + 5) _ ((toldAll_at S j 5 hjl (by omega)).trans rfl))
   have d5 : wr.cell? ⟨g2, j * 7 + 5, none⟩ = some (.int .i64 y5) := HX.out.cell (by rw [<- hy5]; exact k2 (j * 7 + 5) _ ((toldAll_at S j 5 hjl (by omega)).trans rfl))
   have e6 : wr.cell? ⟨g1, j * 7 + 6, none⟩ = some (.int .i64 y6) := HX.out.cell (by rw [<- hy6]; exact k1 (j * 7 + 6) _ ((toldAll_at S j 6 hjl (by omega)).trans rfl))
   have d6 : wr.cell? ⟨g2, j * 7 + 6, none⟩ = some (.int .i64 y6) := HX.out.cell (by rw [<- hy6]; exact k2 (j * 7 + 6) _ ((toldAll_at S j 6 hjl (by omega)).trans rfl))
   have hk0 : (0 : Int) <= (j : Int) := by omega
   have hk1 : (j : Int) < n := by omega
   clear k1 k2 hy0 hy1 hy2 hy3 hy4 hy5 hy6
   go_wp2
   go_quiet (fail)
   go_wp2
   go_roundw
   case rel => exact ⟨j + 1, by omega, by go_num, HX.out.drewN _⟩
   case measure => simp [intOf]; omega
  ·obtain rfl : j = n := by omega
   go_wp2
   go_ret
   exact ⟨rfl, HX.out⟩
theorem sameLeases_c (ls : List LsV) (n : Nat) (hl : ls.length = n) (hn : n <= 1000000000) (a1 a2 : Option Addr) (c1 c2 : Nat) (w : World) (h1 : RdRow w a1 n (lsCells ls)) (h2 : RdRow w a2 n (lsCells ls)) :
  Calls Tryz.prog 77 #[.slice a1 n c1, .slice a2 n c2] w fun e w' => e = .returned (.bool true) /\ Ext w w' := by
 have heq := eqLease
 have HL : Hid (ls.length = n) := hl
 have H1 : Hid _ := h1
 have H2 : Hid _ := h2
 clear h1 h2 hl
 go_enter Tryz.func77, Tryz.ntmps77
 go_wp2
 go_loopw [5] (fun i wr => ∃ j : Nat, j <= n /\ i = .int .i64 j /\ Ext w wr) (fun i _ => n - (intOf i).toNat)
 case atStart => exact ⟨0, Nat.zero_le _, rfl, Ext.refl _⟩
 case round =>
  obtain ⟨j, hj, rfl, hx⟩ := hrel
  have HX : Hid (Ext w wr) := hx
  clear hx
  by_cases hlt : j < n
  ·have hjl : j < ls.length := by rw [HL.out]; exact hlt
   obtain ⟨g1, rfl, k1⟩ := H1.out.resolve_left (by omega)
   obtain ⟨g2, rfl, k2⟩ := H2.out.resolve_left (by omega)
   obtain ⟨y0, hy0⟩ : ∃ y, ls[j].s = y := ⟨_, rfl⟩
   obtain ⟨y1, hy1⟩ : ∃ y, ls[j].i = y := ⟨_, rfl⟩
   obtain ⟨y2, hy2⟩ : ∃ y, ls[j].kd = y := ⟨_, rfl⟩
   obtain ⟨y3, hy3⟩ : ∃ y, ls[j].m = y := ⟨_, rfl⟩
   obtain ⟨y4, hy4⟩ : ∃ y, ls[j].k = y := ⟨_, rfl⟩
   obtain ⟨y5, hy5⟩ : ∃ y, ls[j].n = y := ⟨_, rfl⟩
   obtain ⟨y6, hy6⟩ : ∃ y, ls[j].f = y := ⟨_, rfl⟩
   obtain ⟨y7, hy7⟩ : ∃ y, ls[j].c = y := ⟨_, rfl⟩
   obtain ⟨y8, hy8⟩ : ∃ y, ls[j].r = y := ⟨_, rfl⟩
   have e0 : wr.cell? ⟨g1, j * 9, none⟩ = some (.int .i64 y0) := HX.out.cell (by rw [<- hy0]; exact k1 (j * 9) _ ((lsCells_at ls j 0 hjl (by omega)).trans rfl))
   have d0 : wr.cell? ⟨g2, j * 9, none⟩ = some (.int .i64 y0) := HX.out.cell (by rw [<- hy0]; exact k2 (j * 9) _ ((lsCells_at ls j 0 hjl (by omega)).trans rfl))
   have e1 : wr.cell? ⟨g1, j * 9 + 1, none⟩ = some (.int .i64 y1) := HX.out.cell (by rw [<- hy1]; exact k1 (j * 9 + 1) _ ((lsCells_at ls j 1 hjl (by omega)).trans rfl))
   have d1 : wr.cell? ⟨g2, j * 9 + 1, none⟩ = some (.int .i64 y1) := HX.out.cell (by rw [<- hy1]; exact k2 (j * 9 + 1) _ ((lsCells_at ls j 1 hjl (by omega)).trans rfl))
   have e2 : wr.cell? ⟨g1, j * 9 + 2, none⟩ = some (.int .i64 y2) := HX.out.cell (by rw [<- hy2]; exact k1 (j * 9 + 2) _ ((lsCells_at ls j 2 hjl (by omega)).trans rfl))
   have d2 : wr.cell? ⟨g2, j * 9 + 2, none⟩ = some (.int .i64 y2) := HX.out.cell (by rw [<- hy2]; exact k2 (j * 9 + 2) _ ((lsCells_at ls j 2 hjl (by omega)).trans rfl))
   have e3 : wr.cell? ⟨g1, j * 9 + 3, none⟩ = some (.int .i64 y3) := HX.out.cell (by rw [<- hy3]; exact k1 (j * 9 + 3) _ ((lsCells_at ls j 3 hjl (by omega)).trans rfl))
   have d3 : wr.cell? ⟨g2, j * 9 + 3, none⟩ = some (.int .i64 y3) := HX.out.cell (by rw [<- hy3]; exact k2 (j * 9 + 3) _ ((lsCells_at ls j 3 hjl (by omega)).trans rfl))
   have e4 : wr.cell? ⟨g1, j * 9 + 4, none⟩ = some (.int .i64 y4) := HX.out.cell (by rw [<- hy4]; exact k1 (j * 9 + 4) _ ((lsCells_at ls j 4 hjl (by omega)).trans rfl))
   have d4 : wr.cell? ⟨g2, j * 9 + 4, none⟩ = some (.int .i64 y4) := HX.out.cell (by rw [<- hy4]; exact k2 (j * 9 + 4) _ ((lsCells_at ls j 4 hjl (by omega)).trans rfl))
   have e5 : wr.cell? ⟨g1, j * 9 + 5, none⟩ = some (.int .i64 y5) := HX.out.cell (by rw [<- hy5]; exact k1 (j * 9 + 5) _ ((lsCells_at ls j 5 hjl (by omega)).trans rfl))
   have d5 : wr.cell? ⟨g2, j * 9 + 5, none⟩ = some (.int .i64 y5) := HX.out.cell (by rw [<- hy5]; exact k2 (j * 9 + 5) _ ((lsCells_at ls j 5 hjl (by omega)).trans rfl))
   have e6 : wr.cell? ⟨g1, j * 9 + 6, none⟩ = some (.int .i64 y6) := HX.out.cell (by rw [<- hy6]; exact k1 (j * 9 + 6) _ ((lsCells_at ls j 6 hjl (by omega)).trans rfl))
   have d6 : wr.cell? ⟨g2, j * 9 + 6, none⟩ = some (.int .i64 y6) := HX.out.cell (by rw [<- hy6]; exact k2 (j * 9 + 6) _ ((lsCells_at ls j 6 hjl (by omega)).trans rfl))
   have e7 : wr.cell? ⟨g1, j * 9 + 7, none⟩ = some (.int .i64 y7) := HX.out.cell (by rw [<- hy7]; exact k1 (j * 9 + 7) _ ((lsCells_at ls j 7 hjl (by omega)).trans rfl))
   have d7 : wr.cell? ⟨g2, j * 9 + 7, none⟩ = some (.int .i64 y7) := HX.out.cell (by rw [<- hy7]; exact k2 (j * 9 + 7) _ ((lsCells_at ls j 7 hjl (by omega)).trans rfl))
   have e8 : wr.cell? ⟨g1, j * 9 + 8, none⟩ = some (.bool y8) := HX.out.cell (by rw [<- hy8]; exact k1 (j * 9 + 8) _ ((lsCells_at ls j 8 hjl (by omega)).trans rfl))
   have d8 : wr.cell? ⟨g2, j * 9 + 8, none⟩ = some (.bool y8) := HX.out.cell (by rw [<- hy8]; exact k2 (j * 9 + 8) _ ((lsCells_at ls j 8 hjl (by omega)).trans rfl))
   have hk0 : (0 : Int) <= (j : Int) := by omega
   have hk1 : (j : Int) < n := by omega
   clear k1 k2 hy0 hy1 hy2 hy3 hy4 hy5 hy6 hy7 hy8
   go_wp2
   go_quiet (fail)
   go_wp2
   go_roundw
   case rel => exact ⟨j + 1, by omega, by go_num, HX.out.drewN _⟩
   case measure => simp [intOf]; omega
  ·obtain rfl : j = n := by omega
   go_wp2
   go_ret
   exact ⟨rfl, HX.out⟩
theorem sameWords_c (zs : List Int) (n : Nat) (hl : zs.length = n) (hn : n <= 1000000000) (a1 a2 : Option Addr) (c1 c2 : Nat) (w : World) (h1 : RdRow w a1 n (zs.map (Value.int .u64))) (h2 : RdRow w a2 n (zs.map (Value.int .u64))) :
  Calls Tryz.prog 154 #[.slice a1 n c1, .slice a2 n c2] w fun e w' => e = .returned (.bool true) /\ Ext w w' := by
 have HL : Hid (zs.length = n) := hl
 have H1 : Hid _ := h1
 have H2 : Hid _ := h2
 clear h1 h2 hl
 go_enter Tryz.func154, Tryz.ntmps154
 go_wp2
 go_loopw [5] (fun i wr => ∃ j : Nat, j <= n /\ i = .int .i64 j /\ Ext w wr) (fun i _ => n - (intOf i).toNat)
 case atStart => exact ⟨0, Nat.zero_le _, rfl, Ext.refl _⟩
 case round =>
  obtain ⟨j, hj, rfl, hx⟩ := hrel
  have HX : Hid (Ext w wr) := hx
  clear hx
  by_cases hlt : j < n
  ·have hjl : j < zs.length := by rw [HL.out]; exact hlt
   obtain ⟨g1, rfl, k1⟩ := H1.out.resolve_left (by omega)
   obtain ⟨g2, rfl, k2⟩ := H2.out.resolve_left (by omega)
   obtain ⟨y0, hy0⟩ : ∃ y, zs[j] = y := ⟨_, rfl⟩
   have e0 : wr.cell? ⟨g1, j, none⟩ = some (.int .u64 y0) := HX.out.cell (by rw [<- hy0]; exact k1 (j) _ (by simp [hjl]))
   have d0 : wr.cell? ⟨g2, j, none⟩ = some (.int .u64 y0) := HX.out.cell (by rw [<- hy0]; exact k2 (j) _ (by simp [hjl]))
   have hk0 : (0 : Int) <= (j : Int) := by omega
   have hk1 : (j : Int) < n := by omega
   clear k1 k2 hy0
   go_wp2
   go_quiet (fail)
   go_wp2
   go_roundw
   case rel => exact ⟨j + 1, by omega, by go_num, HX.out.drewN _⟩
   case measure => simp [intOf]; omega
  ·obtain rfl : j = n := by omega
   go_wp2
   go_ret
   exact ⟨rfl, HX.out⟩
theorem isOp_c (o : OpV) (h0 : 0 <= o.k) (h5 : o.k <= 5) (w : World) : Calls Tryz.prog 67 #[.agg #[.int .i64 o.k, .string o.a, .string o.b, .string o.c]] w fun e w' => e = .returned (.bool true) /\ Ext w w' := by
 obtain ⟨k, a, b, c⟩ := o
 simp only at h0 h5 ⊢
 go_enter Tryz.func67, Tryz.ntmps67
 go_wp2
 all_goals go_ret
 all_goals exact ⟨ret_bool (by simp [*]), (Ext.refl w).alloc _⟩
theorem sameReply_c (c f n : Int) (zs : List Int) (hn : zs.length <= 1000000000) (a1 a2 : Option Addr) (c1 c2 : Nat) (w : World) (h1 : RdRow w a1 zs.length (zs.map (Value.int .u64))) (h2 : RdRow w a2 zs.length (zs.map (Value.int .u64))) :
  Calls Tryz.prog 109 #[replyV c f n (.slice a1 zs.length c1), replyV c f n (.slice a2 zs.length c2)] w fun e w' => e = .returned (.bool true) /\ Ext w w' := by
 have HS : Hid (∀ w', Ext w w' -> _) := fun w' hx => sameWords_c zs zs.length rfl hn a1 a2 c1 c2 w' (h1.ext hx) (h2.ext hx)
 clear h1 h2
 generalize zs.length = len at *
 unfold replyV
 go_enter Tryz.func109, Tryz.ntmps109
 go_wp2_with fail
 have ha : ((w.alloc (.cells #[.int .i64 c, .int .i64 f, .int .i64 n, .slice a1 len c1] 33)).alloc (.cells #[.int .i64 c, .int .i64 f, .int .i64 n, .slice a2 len c2] 33)).heap[w.heap.size]? = some (.cells #[.int .i64 c, .int .i64 f, .int .i64 n, .slice a1 len c1] 33 (0, 0)) := at_old (heap_alloc_new _ _)
 have hb : ((w.alloc (.cells #[.int .i64 c, .int .i64 f, .int .i64 n, .slice a1 len c1] 33)).alloc (.cells #[.int .i64 c, .int .i64 f, .int .i64 n, .slice a2 len c2] 33)).heap[w.heap.size + 1]? = some (.cells #[.int .i64 c, .int .i64 f, .int .i64 n, .slice a2 len c2] 33 (0, 0)) := at_new (by simp)
 have hXW : Ext w ((w.alloc (.cells #[.int .i64 c, .int .i64 f, .int .i64 n, .slice a1 len c1] 33)).alloc (.cells #[.int .i64 c, .int .i64 f, .int .i64 n, .slice a2 len c2] 33)) := ((Ext.refl w).alloc _).alloc _
 generalize World.alloc (World.alloc w _) _ = W at ha hb hXW ⊢
 refine (HS.out _ hXW).mono ?_
 rintro e w1 ⟨rfl, hx1⟩
 have ha := hx1.block ha
 have hb := hx1.block hb
 have e0 := cell_at ha (i := 0) rfl
 have e1 := cell_at ha (i := 1) rfl
 have e2 := cell_at ha (i := 2) rfl
 have d0 := cell_at hb (i := 0) rfl
 have d1 := cell_at hb (i := 1) rfl
 have d2 := cell_at hb (i := 2) rfl
 have HX1 : Hid (Ext w w1) := hXW.trans hx1
 have hl1 := lG w1 _ e0
 have hl2 := lG w1 _ d0
 clear ha hb hx1 hXW
 go_wp2
 all_goals go_ret
 all_goals exact ⟨ret_bool (by simp), HX1.out⟩
end
-- JHd
section
set_option maxRecDepth 100000
set_option maxHeartbeats 1600000
open Go.RowKit Go.Maps
theorem slice_h' (b o len cap h : Nat) (hh : h <= cap) (hc : 0 < cap) (W : World) :
  (Instr.slice 31 (.slice (some ⟨b, o, none⟩) len cap) none (some (.int .i64 (h : Int))) none).run Tryz.prog W = .ok (.slice (some ⟨b, o, none⟩) h cap) W := by
 rw [run_slice_h W 31 _ _ _ elemW.1 .i64 _ (by omega) (by omega), elemW.2, sizeU64]
 have hne : ¬ cap = 0 := by omega
 simp [Result.andThen, sliced, Addr.add, hne]
/-- What is handed in, and its spare room, so far. -/
def spareL (D : List Int) (j : Nat) : List Int := D ++ (List.replicate j 5 ++ List.replicate (8 - j) 0)
theorem spareL_set (D : List Int) (j : Nat) (hj : j < 8) : (spareL D j).set (D.length + j) 5 = spareL D (j + 1) := by
 unfold spareL
 rw [List.set_append_right _ _ (by omega), show D.length + j - D.length = j by omega, List.set_append_right _ _ (by simp), List.length_replicate, Nat.sub_self, show 8 - j = (8 - (j + 1)) + 1 by omega, List.replicate_succ, lE, List.replicate_succ' (n := j)]
 simp
theorem spareL_len (D : List Int) (j : Nat) (hj : j <= 8) : (spareL D j).length = D.length + 8 := by
 simp [spareL]; omega
/-- Draws, wherever they lie. -/
def DrawsAt (w : World) (a : Option Addr) (n : Nat) (D : List Int) : Prop := n = 0 \/ ∃ b off, a = some ⟨b, off, none⟩ /\ WordsAt w b off D
theorem DrawsAt.ext {w w' : World} {a : Option Addr} {n : Nat} {D : List Int} (h : DrawsAt w a n D) (hx : Ext w w') : DrawsAt w' a n D := h.imp id (fun ⟨b, off, e, k⟩ => ⟨b, off, e, k.ext hx⟩)
theorem handed_c (D : List Int) (n : Nat) (hl : D.length = n) (hn : n <= 100000000) (a : Option Addr) (c : Nat) (w : World) (h : DrawsAt w a n D) :
  Calls Tryz.prog 99 #[.slice a n c] w fun e w' => ∃ g, e = .returned (.slice (some ⟨g, 0, none⟩) n (n + 8)) /\ w.heap.size <= g /\ w'.ownsRow w.heap.size 146 1 (.slice (some ⟨g, 0, none⟩) (n + 8) (n + 8)) (n + 8) ((spareL D 8).map (Value.int .u64)) /\ Ext w w' := by
 obtain ⟨i0, hi, hz0, hz1, hz2⟩ := info_parts infoU64
 have H : Hid _ := h
 have HD : Hid (D.length = n) := hl
 obtain ⟨n8, hn8⟩ : ∃ n8, n + 8 = n8 := ⟨_, rfl⟩
 have hw8 : IntKind.i64.wrap ((n : Int) + 8) = (n8 : Int) := by rw [IntKind.wrap_i64]; omega
 have HN8 : Hid (n + 8 = n8) := hn8
 have hb8 : n8 <= 100000008 /\ 8 <= n8 /\ n <= n8 := by omega
 have tS : ∀ g W, (Instr.slice 31 (.slice (some ⟨g, 0, none⟩) n8 n8) none (some (.int .i64 (n : Int))) none).run Tryz.prog W = .ok (.slice (some ⟨g, 0, none⟩) n n8) W := fun g W => slice_h' g 0 n8 n8 n (by omega) (by omega) W
 clear h hl
 rw [hn8]
 clear hn8
 go_enter Tryz.func99, Tryz.ntmps99
 go_wp2_with (at_make; refine wpList_make_full _ rfl _ _ 31 rfl w.heap.size 146 i0 (.int .u64 0) 1 Tryz.underlying31 hi hz0 hz1 _ _ _ _ n8 rfl rfl (by omega) (by omega) (by rw [hz2]; omega) (by unfold maxLen; omega) (Nat.le_refl _) ?_)
 intro w6 ho6 hg6
 have hx6 : Ext w w6 := Ext.grown (Ext.refl w) hg6 (by simp)
 have ho6' : w6.ownsRow w.heap.size 146 1 (.slice (some ⟨w.heap.size, 0, none⟩) n8 n8) n8 ((List.replicate n8 (0 : Int)).map (Value.int .u64)) := by
  rw [List.map_replicate, <- toList_madeCells_one]; simpa [Value.cells] using ho6
 obtain ⟨gm, hgm⟩ : ∃ gm, w.heap.size = gm := ⟨_, rfl⟩
 rw [hgm] at ho6' ⊢
 have HM6 : Hid (w6.ownsRow gm 146 1 (.slice (some ⟨gm, 0, none⟩) n8 n8) n8 ((List.replicate n8 (0 : Int)).map (Value.int .u64))) := ho6'
 have HX6 : Hid (Ext w w6) := hx6
 have HGM : Hid (w.heap.size = gm) := hgm
 clear ho6 ho6' hg6 hx6
 obtain ⟨cs, hcs⟩ : ∃ cs, cs = D.map (Value.int .u64) := ⟨_, rfl⟩
 have hcsl : cs.length = n := by rw [hcs, List.length_map, HD.out]
 have HCs : Hid (cs = D.map (Value.int .u64)) := hcs
 clear hcs hgm
 go_wp2_with (refine wpList_copy_splice rfl _ _ 31 31 rfl 146 Tryz.underlying31 (by rw [hi]; simp [hz1]) _ _ n8 n8 n c rfl rfl gm 0 ((List.replicate n8 (0 : Int)).map (Value.int .u64)) 146 (owns_full HM6.out).1 cs (by rw [hcsl]; exact (Nat.min_eq_left (by omega)).symm) ?s1 (by simp [hcsl]; omega) ?s2 gm w (by rw [<- HGM.out]; exact HX6.out) (Nat.le_refl _) ?_)
 case s1 =>
  intro hpos
  try rw [hcsl] at hpos
  obtain ⟨bd, od, e, k⟩ := H.out.resolve_left (by omega)
  first
   | (refine ⟨rfl, _, e, fun x v h => ?_⟩
      rw [HCs.out] at h
      exact (k.ext HX6.out).cells x v h)
   | (refine ⟨_, e, fun x v h => ?_⟩
      rw [HCs.out] at h
      exact (k.ext HX6.out).cells x v h)
 case s2 => rw [HCs.out]; exact words_one _
 intro w7 HG7 hb7
 have hx7 : Ext w w7 := by rw [<- HGM.out] at hb7; exact hb7
 have HM7 : Hid (w7.ownsRow gm 146 1 (.slice (some ⟨gm, 0, none⟩) n8 n8) n8 ((spareL D 0).map (Value.int .u64))) := by
  have h := HG7.out
  have e : splice (List.replicate n8 (Value.int .u64 0)) 0 cs = (spareL D 0).map (Value.int .u64) := by
   rw [HCs.out]
   simp only [splice, spareL, List.take_zero, List.nil_append, List.length_map, HD.out, Nat.zero_add, List.replicate_zero, Nat.sub_zero, List.map_append, List.map_replicate, List.drop_replicate]
   rw [<- HN8.out, show n + 8 - n = 8 by omega]
  try rw [List.map_replicate] at h
  rw [e] at h
  exact owns_of h (by rw [List.length_map, spareL_len _ _ (by omega), HD.out, HN8.out]) (Nat.le_refl _) (by unfold maxLen; omega)
 have HX7 : Hid (Ext w w7) := hx7
 clear HG7 hb7 hx7 HM6 HX6
 go_wp2_with fail
 go_loopw [5] (fun at_ wr => ∃ j nj : Nat, j <= 8 /\ n + j = nj /\ at_ = .int .i64 (nj : Int) /\ wr.ownsRow gm 146 1 (.slice (some ⟨gm, 0, none⟩) n8 n8) n8 ((spareL D j).map (Value.int .u64)) /\ Ext w wr) (fun at_ _ => n8 - (intOf at_).toNat)
 case atStart => exact ⟨0, n, Nat.zero_le _, rfl, rfl, HM7.out, HX7.out⟩
 case round =>
  obtain ⟨j, nj, hj, hnj, rfl, ho, hx⟩ := hrel
  have HO : Hid (wr.ownsRow gm 146 1 (.slice (some ⟨gm, 0, none⟩) n8 n8) n8 ((spareL D j).map (Value.int .u64))) := ho
  have HX : Hid (Ext w wr) := hx
  have HNJ : Hid (n + j = nj) := hnj
  have h8 := HN8.out
  by_cases hlt : j < 8
  ·have hltf : (nj : Int) < (n8 : Int) := by omega
   have hnn : nj < n8 := by omega
   have hk0 : (0 : Int) <= (nj : Int) := by omega
   have hlen : nj < (spareL D j).length := by rw [spareL_len _ _ hj, HD.out]; omega
   have cj : wr.cell? ⟨gm, nj, none⟩ = some (.int .u64 (spareL D j)[nj]) := owns_cell ho (by simp [hlen])
   have fj : wr.frozen? ⟨gm, nj, none⟩ = false := by
    obtain ⟨cur, hc⟩ := owns_block ho (g := gm) rfl
    exact frozen_row hc _
   generalize (spareL D j)[nj] = old at cj
   have hgl := lG wr _ cj
   clear ho hx hnj h8
   go_wp2
   go_roundw
   case rel =>
    refine ⟨j + 1, nj + 1, by omega, by have := HNJ.out; omega, by go_num, ?_, Ext.setCell HX.out (by show w.heap.size <= gm; rw [HGM.out]; exact Nat.le_refl _) _⟩
    have h1 := owns_set HO.out nj (.int .u64 5)
    rw [<- List.map_set, <- HNJ.out, <- HD.out, spareL_set D j hlt] at h1
    rw [<- HNJ.out, <- HD.out]
    exact h1
   case measure => simp [intOf]; omega
  ·obtain rfl : j = 8 := by omega
   have hltf : ¬ (nj : Int) < (n8 : Int) := by omega
   clear ho hx hnj h8
   go_wp2
   go_ret
   exact ⟨gm, by simp, by rw [HGM.out]; exact Nat.le_refl _, by rw [HGM.out]; exact HO.out, HX.out⟩
theorem untouched_c (D : List Int) (n g c : Nat) (hl : D.length = n) (hn : n <= 100000000) (a : Option Addr) (w : World) (ho : WordsAt w g 0 (spareL D 8)) (h : DrawsAt w a n D) :
  Calls Tryz.prog 100 #[.slice (some ⟨g, 0, none⟩) n (n + 8), .slice a n c] w fun e w' => e = .returned (.bool true) /\ Ext w w' := by
 have H : Hid _ := h
 have HO : Hid (WordsAt w g 0 (spareL D 8)) := ho
 have HD : Hid (D.length = n) := hl
 obtain ⟨n8, hn8⟩ : ∃ n8, n + 8 = n8 := ⟨_, rfl⟩
 have hw8 : IntKind.i64.wrap ((n : Int) + 8) = (n8 : Int) := by rw [IntKind.wrap_i64]; omega
 have HN8 : Hid (n + 8 = n8) := hn8
 have hb8 : n8 <= 100000008 /\ 8 <= n8 /\ n <= n8 := by omega
 have tS : ∀ W, (Instr.slice 31 (.slice (some ⟨g, 0, none⟩) n n8) none (some (.int .i64 (n8 : Int))) none).run Tryz.prog W = .ok (.slice (some ⟨g, 0, none⟩) n8 n8) W := fun W => slice_h' g 0 n n8 n8 (by omega) (by omega) W
 clear h hl ho
 rw [hn8]
 clear hn8
 go_enter Tryz.func100, Tryz.ntmps100
 go_wp2_with fail
 go_loopw [7, 8] (fun at_ _ wr => ∃ j : Nat, j <= n8 /\ at_ = .int .i64 (j : Int) /\ Ext w wr) (fun at_ _ _ => n8 - (intOf at_).toNat)
 case atStart => exact ⟨0, Nat.zero_le _, rfl, Ext.refl _⟩
 case round =>
  obtain ⟨j, hj, rfl, hx⟩ := hrel
  have HX : Hid (Ext w wr) := hx
  have h8 := HN8.out
  by_cases hlt : j < n8
  ·have hk0 : (0 : Int) <= (j : Int) := by omega
   have hk1 : (j : Int) < n8 := by omega
   have hlen : j < (spareL D 8).length := by rw [spareL_len _ _ (Nat.le_refl _), HD.out]; omega
   have cj : wr.cell? ⟨g, j, none⟩ = some (.int .u64 (spareL D 8)[j]) := by
    have := (HO.out.ext hx) j hlen
    simpa [hlen] using this
   by_cases hjn : j < n
   ·have hjD : j < D.length := by rw [HD.out]; exact hjn
    have hk2 : (j : Int) < n := by omega
    obtain ⟨ga, od, rfl, k⟩ := H.out.resolve_left (by omega)
    have dj : wr.cell? ⟨ga, od + j, none⟩ = some (.int .u64 D[j]) := by
     have := (k.ext hx) j hjD
     simpa [hjD] using this
    have e : (spareL D 8)[j] = D[j] := by simp [spareL, List.getElem_append_left hjD]
    rw [e] at cj
    generalize D[j] = zj at *
    clear hx h8 k
    go_wp2
    go_roundw
    case rel => exact ⟨j + 1, by omega, by go_num, HX.out⟩
    case measure => simp [intOf]; omega
   ·have hk2 : ¬ (j : Int) < n := by omega
    have e : (spareL D 8)[j] = 5 := by
     have hDj : D.length <= j := by rw [HD.out]; omega
     simp only [spareL]
     rw [List.getElem_append_right hDj, List.getElem_append_left (by rw [List.length_replicate, HD.out]; omega)]
     exact List.getElem_replicate _
    rw [e] at cj
    clear hx h8
    go_wp2
    go_roundw
    case rel => exact ⟨j + 1, by omega, by go_num, HX.out⟩
    case measure => simp [intOf]; omega
  ·obtain rfl : j = n8 := by omega
   clear hx h8
   go_wp2
   go_ret
   exact ⟨rfl, HX.out⟩
theorem blot_c (n c g : Nat) (cs : Array Value) (hn : n <= 100000000) (hcs : n <= cs.size) (w : World) (h : w.heap[g]? = some (.cells cs 146 (0, 0))) :
  Calls Tryz.prog 101 #[.slice (some ⟨g, 0, none⟩) n c] w fun e w' => e = .returned (.tuple #[]) /\ Turn (fun b => b = g) w w' := by
 have HB : Hid _ := h
 have hgl : g < w.heap.size := (Array.getElem?_eq_some_iff.1 h).1
 clear h
 go_enter Tryz.func101, Tryz.ntmps101
 go_wp2_with fail
 go_loopw [2] (fun at_ wr => ∃ (j : Nat) (cs' : Array Value), j <= n /\ at_ = .int .i64 (j : Int) /\ n <= cs'.size /\ wr.heap[g]? = some (.cells cs' 146 (0, 0)) /\ Turn (fun b => b = g) w wr) (fun at_ _ => n - (intOf at_).toNat)
 case atStart => exact ⟨0, cs, Nat.zero_le _, rfl, hcs, HB.out, Turn.refl _ _⟩
 case round =>
  obtain ⟨j, cs', hj, rfl, hsz, hb, ht⟩ := hrel
  have HB2 : Hid _ := hb
  have HT : Hid (Turn (fun b => b = g) w wr) := ht
  by_cases hlt : j < n
  ·have hk0 : (0 : Int) <= (j : Int) := by omega
   have hk1 : (j : Int) < n := by omega
   have cj : wr.cell? ⟨g, j, none⟩ = some cs'[j] := cell_at hb (by simp [show j < cs'.size by omega])
   have fj := frozen_row hb j
   generalize cs'[j] = old at cj
   have hgl2 := lG wr _ cj
   clear hb ht
   go_wp2
   go_roundw
   case rel => exact ⟨j + 1, cs'.setIfInBounds j (.int .u64 7), by omega, by go_num, by simpa using hsz, setCell_row HB2.out _, Turn.setCell HT.out (fun _ => rfl) _⟩
   case measure => simp [intOf]; omega
  ·obtain rfl : j = n := by omega
   clear hb ht
   go_wp2
   go_end0
   exact ⟨rfl, HT.out⟩
theorem infoPW : (Tryz.prog.info? 95).map (fun i => (i.zero, i.size, i.bytes)) = some (some (.pointer none), 1, 8) := by kernel_rfl
theorem only_c (gl gw nl cl cw : Nat) (q : Value) (hq : q.oneCell' = true) (hn : 1 <= nl) (w : World) (hl : w.cell? ⟨gl, 0, none⟩ = some q) (hw : w.cell? ⟨gw, 0, none⟩ = some (.int .i64 0)) (hqp : ∃ a, q = .pointer a) :
  Calls Tryz.prog 180 #[.slice (some ⟨gl, 0, none⟩) nl cl, .slice (some ⟨gw, 0, none⟩) 1 cw] w fun e w' => ∃ g cap, e = .returned (.slice (some ⟨g, 0, none⟩) 1 cap) /\ w'.ownsRow w.heap.size 95 1 (.slice (some ⟨g, 0, none⟩) 1 cap) 1 [q] /\ Ext w w' := by
 obtain ⟨i0, hi, hz0, hz1, hz2⟩ := info_parts infoPW
 obtain ⟨qa, rfl⟩ := hqp
 have hl0 := lG w _ hl
 have hw0 := lG w _ hw
 have hnl : (0 : Int) < (nl : Int) := by omega
 go_enter Tryz.func180, Tryz.ntmps180
 go_wp2_with fail
 refine wp_loop_rounds 2 ?_
 rw [rounds_succ]
 go_wp2_with (at_builtin; refine wpList_append_lies _ rfl _ _ 85 rfl w.heap.size 95 i0 _ 1 8 Tryz.underlying85 hi hz0 hz1 hz2 rfl (by decide) _ 0 [] rfl (World.ownsRow_nil _ _ _ _) ⟨_, 0, none⟩ 1 1 [.pointer qa] rfl rfl (World.news_of_block (at_new (by simp))) (by simp [Value.oneCell']) (by decide) (by simp [maxLen]) (by omega) (by simp) _ rfl ?_)
 intro g cap w2 hown hgrow hat hlt
 have HF : Hid (w2.ownsRow w.heap.size 95 1 (.slice (some ⟨g, 0, none⟩) 1 cap) 1 [.pointer qa] /\ Ext w w2) := ⟨by simpa using hown, Ext.grown (Ext.alloc (Ext.refl _) _) hgrow (by simp [lH])⟩
 clear hown hgrow hat
 go_wp2
 rw [rounds_succ]
 go_wp2
 go_ret
 exact ⟨g, cap, by simp, HF.out.1, HF.out.2⟩
end
-- JBk
section
set_option maxRecDepth 100000
set_option maxHeartbeats 1600000
open Go.RowKit Go.Maps
/-- Elements of a list, so many of which are a mark. -/
def MkRow (sz : Nat) (cs : List Value) (n : Nat) (xs : List Value) : Prop := ∀ i, i < n -> ∀ k u, cs[k]? = some u -> xs[i * sz + k]? = some u
theorem MkRow.snoc {sz n : Nat} {cs xs : List Value} (hc : cs.length = sz) (hl : xs.length = n * sz) (h : MkRow sz cs n xs) : MkRow sz cs (n + 1) (xs ++ cs) := by
 intro i hi k u hu
 have hk : k < sz := by rw [<- hc]; exact (List.getElem?_eq_some_iff.1 hu).1
 by_cases e : i < n
 ·have h1 := h i e k u hu
  rw [List.getElem?_append_left (List.getElem?_eq_some_iff.1 h1).1]
  exact h1
 ·obtain rfl : i = n := by omega
  rw [List.getElem?_append_right (by omega), hl, show i * sz + k - i * sz = k by omega]
  exact hu
/-- So many elements of a block are a mark. -/
def MkAt (w : World) (sz : Nat) (cs : List Value) (g n : Nat) : Prop := ∀ i, i < n -> ∀ k u, cs[k]? = some u -> w.cell? ⟨g, i * sz + k, none⟩ = some u
theorem mkAt_owns {w : World} {base : Nat} {e : TypeId} {size g n cap sz m : Nat} {cs xs : List Value} (h : w.ownsRow base e size (.slice (some ⟨g, 0, none⟩) n cap) n xs) (hm : MkRow sz cs m xs) : MkAt w sz cs g m := fun i hi k u hu => owns_cell h (hm i hi k u hu)
theorem MkAt.turn {S : Nat -> Prop} {w w' : World} {sz g n : Nat} {cs : List Value} (h : MkAt w sz cs g n) (ht : Turn S w w') (hs : ¬ S g) : MkAt w' sz cs g n := fun i hi k u hu => ht.cell (h i hi k u hu) hs
/-- Behind an append of marks. -/
theorem MkAt.app {w w' : World} {v : Value} {sz g n g' n' : Nat} {cs : List Value} (h : MkAt w sz cs g n) (hn : n <= n') (hnew : MkAt w' sz cs g' n') (ht : Turn (fun b => v.ownBlock = some b) w w') (hc : v.ownBlock = some g' \/ (Ext w w' /\ w.heap.size <= g')) : MkAt w' sz cs g n := by
 rcases hc with hc | ⟨hx, _⟩
 ·by_cases e : g = g'
  ·subst e
   exact fun i hi k u hu => hnew i (by omega) k u hu
  ·refine h.turn ht (fun h1 => e ?_)
   rw [hc] at h1
   injection h1 with h1
   exact h1.symm
 ·exact h.turn (S := fun _ => False) (Turn.of_ext hx) id
/-- A list that came out, all marks. -/
def Marked (w : World) (G : Nat -> Prop) (sz : Nat) (cs : List Value) (v : Value) : Prop := ∃ a n cap, v = .slice a n cap /\ n <= 200000000 /\ (n = 0 \/ ∃ g, a = some ⟨g, 0, none⟩ /\ G g /\ MkAt w sz cs g n)
theorem Marked.turn {S G : Nat -> Prop} {w w' : World} {sz : Nat} {cs : List Value} {v : Value} (h : Marked w G sz cs v) (ht : Turn S w w') (hs : ∀ b, G b -> ¬ S b) : Marked w' G sz cs v := by
 obtain ⟨a, n, cap, h1, h2, h3⟩ := h
 refine ⟨a, n, cap, h1, h2, ?_⟩
 rcases h3 with h3 | ⟨g, e, hg, hm⟩
 ·exact .inl h3
 ·exact .inr ⟨g, e, hg, hm.turn ht (hs g hg)⟩
theorem Marked.mono {G G' : Nat -> Prop} {w : World} {sz : Nat} {cs : List Value} {v : Value} (h : Marked w G sz cs v) (hg : ∀ b, G b -> G' b) : Marked w G' sz cs v := by
 obtain ⟨a, n, cap, h1, h2, h3⟩ := h
 exact ⟨a, n, cap, h1, h2, h3.imp id (fun ⟨g, e, h4, h5⟩ => ⟨g, e, hg g h4, h5⟩)⟩
/-- The lists of a kind that came out. -/
def BookRow (w : World) (G : Nat -> Prop) (t : TypeId) (sz : Nat) (mk : Nat -> List Value) (bv : Value) (m : Nat) : Prop :=
 ∃ vs : List Value, w.ownsRow 0 t 1 bv (4 * m) vs /\ ∀ k (h : k < vs.length), Marked w G sz (mk (k / 4)) vs[k]
theorem BookRow.turn {S G : Nat -> Prop} {w w' : World} {t : TypeId} {sz : Nat} {mk : Nat -> List Value} {bv : Value} {m : Nat} (h : BookRow w G t sz mk bv m) (ht : Turn S w w') (hs : ∀ b, G b -> ¬ S b) (hb : ∀ b, bv.ownBlock = some b -> ¬ S b) : BookRow w' G t sz mk bv m := by
 obtain ⟨vs, h1, h2⟩ := h
 exact ⟨vs, ht.owns h1 hb, fun k hk => (h2 k hk).turn ht hs⟩
theorem BookRow.mono {G G' : Nat -> Prop} {w : World} {t : TypeId} {sz : Nat} {mk : Nat -> List Value} {bv : Value} {m : Nat} (h : BookRow w G t sz mk bv m) (hg : ∀ b, G b -> G' b) : BookRow w G' t sz mk bv m := by
 obtain ⟨vs, h1, h2⟩ := h
 exact ⟨vs, h1, fun k hk => (h2 k hk).mono hg⟩
theorem typ_keep {w w' : World} {v : Value} {g : Nat} {e : TypeId} {base size n : Nat} {xs : List Value} (h : ∃ cur, w.heap[g]? = some (.cells cur e (0, 0))) (ht : Turn (fun b => v.ownBlock = some b) w w') (ho : w'.ownsRow base e size v n xs) : ∃ cur, w'.heap[g]? = some (.cells cur e (0, 0)) := by
 by_cases hv : v.ownBlock = some g
 ·exact owns_block ho hv
 ·obtain ⟨cur, hc⟩ := h
  exact ⟨cur, ht.ref hc hv⟩
theorem infoSlS : (Tryz.prog.info? 44).map (fun i => (i.zero, i.size, i.bytes)) = some (some (.slice none 0 0), 1, 24) := by kernel_rfl
theorem infoSlL : (Tryz.prog.info? 38).map (fun i => (i.zero, i.size, i.bytes)) = some (some (.slice none 0 0), 1, 24) := by kernel_rfl
theorem infoSlO : (Tryz.prog.info? 69).map (fun i => (i.zero, i.size, i.bytes)) = some (some (.slice none 0 0), 1, 24) := by kernel_rfl
def mkW (j : Nat) : List Value := [.int .u64 (1000000007 + (j : Int))]
def mkS (j : Nat) : List Value := [.int .i64 0, .int .i64 0, .int .i64 0, .int .i64 0, .int .i64 (-1 - (j : Int)), .int .i64 0, .int .i64 0]
def mkL (j : Nat) : List Value := [.int .i64 (-1 - (j : Int)), .int .i64 0, .int .i64 0, .int .i64 0, .int .i64 0, .int .i64 0, .int .i64 0, .int .i64 0, .bool false]
def mkO (j : Nat) : List Value := [.int .i64 (-1 - (j : Int)), .string ⟨#[]⟩, .string ⟨#[]⟩, .string ⟨#[]⟩]
/-- A new list is kept. -/
theorem BookRow.keep {G' : Nat -> Prop} {w' : World} {t : TypeId} {sz : Nat} {mk : Nat -> List Value} {bv' : Value} {m : Nat} {vs : List Value} (hv : vs.length = 4 * m) (h : ∀ k (h : k < vs.length), Marked w' G' sz (mk (k / 4)) vs[k]) {a b c d : Value} (ho : w'.ownsRow 0 t 1 bv' (4 * m + 4) (vs ++ [a, b, c, d])) (ha : Marked w' G' sz (mk m) a) (hb : Marked w' G' sz (mk m) b) (hc : Marked w' G' sz (mk m) c) (hd : Marked w' G' sz (mk m) d) : BookRow w' G' t sz mk bv' (m + 1) := by
 refine ⟨vs ++ [a, b, c, d], by rw [Nat.mul_add]; exact ho, fun k hk => ?_⟩
 by_cases e : k < vs.length
 ·rw [List.getElem_append_left e]
  exact h k e
 ·rw [List.getElem_append_right (by omega)]
  have hk4 : k < vs.length + 4 := by simpa using hk
  have hq : k / 4 = m := by omega
  rw [hq]
  obtain e | e | e | e : k - vs.length = 0 \/ k - vs.length = 1 \/ k - vs.length = 2 \/ k - vs.length = 3 := by omega
  all_goals simp only [e, lC, lB]
  all_goals assumption
theorem keepWords_set {n j : Nat} {mz : Int} {xs : List Value} (hl : xs.length = n * 1) (hj : j < n) (h : MkRow 1 [.int .u64 mz] j xs) : MkRow 1 [.int .u64 mz] (j + 1) (xs.set (j) (.int .u64 mz)) := by
 intro i hi k u hu
 have hk : k < 1 := (List.getElem?_eq_some_iff.1 hu).1
 by_cases e : i < j
 ·rw [List.getElem?_set_ne (by omega)]
  exact h i e k u hu
 ·obtain rfl : i = j := by omega
  rcases (show k = 0 by omega) with rfl
  simp only [Nat.mul_one, Nat.add_zero]
  rw [List.getElem?_set_self (by omega)]
  simpa using hu
theorem keepWords_c {G : Nat -> Prop} (P m base : Nat) (pcs : Array Value) (hps : pcs.size = 11) (bv : Value) (hb : pcs[7]? = some bv) (la : Option Addr) (n lcap : Nat) (xs0 : List Value) (hm : m <= 1000000) (hn : n <= 100000000) (w : World) (hP : w.heap[P]? = some (.cells pcs 94 (0, 0))) (hbk : BookRow w G 31 1 mkW bv m) (ho : w.ownsRow base 146 1 (.slice la n lcap) n xs0) (hGl : ∀ q, lH (.slice la n lcap) = some q -> ¬ G q) (hGb : ∀ q, bv.ownBlock = some q -> ¬ G q) (hGs : ∀ q, G q -> q < w.heap.size) (hGP : ¬ G P) (hbw : base <= w.heap.size) :
  Calls Tryz.prog 106 #[.pointer (some ⟨P, 7, none⟩), .slice la n lcap] w fun e w' => e = .returned (.tuple #[]) /\ ∃ bv', w'.heap[P]? = some (.cells (pcs.setIfInBounds 7 bv') 94 (0, 0)) /\ (∃ G', (∀ q, G q -> G' q) /\ (∀ q, G' q -> G q \/ lH (.slice la n lcap) = some q \/ (w.heap.size <= q /\ q < w'.heap.size)) /\ (∀ q, bv'.ownBlock = some q -> ¬ G' q) /\ ¬ G' P /\ BookRow w' G' 31 1 mkW bv' (m + 1)) /\ (∀ q, bv'.ownBlock = some q -> bv.ownBlock = some q \/ w.heap.size <= q) /\ Turn (fun b => b = P \/ bv.ownBlock = some b \/ lH (.slice la n lcap) = some b) w w' := by
 obtain ⟨i0, hi, hz0, hz1, hz2⟩ := info_parts infoU64
 obtain ⟨k0, hk0, hw0, hw1, hw2⟩ := info_parts infoSl
 obtain ⟨vs, hvo, hvm⟩ := hbk
 obtain ⟨bn, hbn⟩ : ∃ bn, 4 * m = bn := ⟨_, rfl⟩
 rw [hbn] at hvo
 have HBN : Hid (4 * m = bn) := hbn
 have hbnb : bn <= 4000000 := by omega
 have hq4 : Int.tdiv (bn : Int) 4 = (m : Int) := by rw [<- hbn, Int.natCast_mul, Int.mul_comm]; exact Int.mul_tdiv_cancel _ (by decide)
 obtain ⟨mz, hmz⟩ : ∃ mz : Int, 1000000007 + (m : Int) = mz := ⟨_, rfl⟩
 have hwz : IntKind.u64.wrap (1000000007 + (m : Int)) = mz := by rw [<- hmz]; rw [IntKind.wrap_u64]; omega
 have HMZ : Hid (mkW m = [.int .u64 mz]) := by
  show mkW m = _
  rw [<- hmz]; rfl
 obtain ⟨ba, bcap, rfl⟩ := owns_slice hvo
 have HB : Hid (w.ownsRow 0 31 1 (.slice ba bn bcap) bn vs) := hvo
 have HV : Hid (∀ k (h : k < vs.length), Marked w G 1 (mkW (k / 4)) vs[k]) := hvm
 have HO0 : Hid (w.ownsRow base 146 1 (.slice la n lcap) n xs0) := ho
 have HG1 : Hid (∀ q, lH (.slice la n lcap) = some q -> ¬ G q) := hGl
 have HG2 : Hid (∀ q, lH (.slice ba bn bcap) = some q -> ¬ G q) := hGb
 have HG3 : Hid (∀ q, G q -> q < w.heap.size) := hGs
 have HP : Hid (w.heap[P]? = some (.cells pcs 94 (0, 0))) := hP
 have HPS : Hid (pcs.size = 11 /\ pcs[7]? = some (.slice ba bn bcap) /\ ¬ G P) := ⟨hps, hb, hGP⟩
 have HLP : Hid (lH (.slice la n lcap) ≠ some P) := row_ne (B := P) hP ho (by decide)
 have HBP : Hid (lH (.slice ba bn bcap) ≠ some P) := row_ne (B := P) hP hvo (by decide)
 have HLB : Hid (∀ q, lH (.slice la n lcap) = some q -> q < w.heap.size) := fun q hq => owns_lt ho hq
 have HBB : Hid (∀ q, lH (.slice ba bn bcap) = some q -> q < w.heap.size /\ lH (.slice la n lcap) ≠ some q) := fun q hq => ⟨owns_lt hvo hq, fun e => by
  obtain ⟨cur, hc⟩ := owns_block hvo hq
  obtain ⟨cur', hc'⟩ := owns_block ho e
  exact type_ne hc hc' (by decide) rfl⟩
 have y : w.cell? ⟨P, 7, none⟩ = some (.slice ba bn bcap) := cell_at hP hb
 have hPl := lG w _ y
 clear hvo hvm ho hGl hGb hGs hP hps hb hbn hmz hGP
 go_enter Tryz.func106, Tryz.ntmps106
 go_wp2_with fail
 go_loopw [5] (fun at_ wr => ∃ (j : Nat) (xs : List Value), j <= n /\ at_ = .int .i64 (j : Int) /\ wr.ownsRow base 146 1 (.slice la n lcap) n xs /\ MkRow 1 [.int .u64 mz] j xs /\ Turn (fun b => lH (.slice la n lcap) = some b) w wr) (fun at_ _ => n - (intOf at_).toNat)
 case atStart => exact ⟨0, xs0, Nat.zero_le _, rfl, HO0.out, fun i hi => absurd hi (Nat.not_lt_zero _), Turn.refl _ _⟩
 case round =>
  obtain ⟨j, xs, hj, rfl, ho, hmr, ht⟩ := hrel
  have HR0 : Hid (wr.ownsRow base 146 1 (.slice la n lcap) n xs) := ho
  have HMR : Hid (MkRow 1 [.int .u64 mz] j xs) := hmr
  have HT : Hid (Turn (fun b => lH (.slice la n lcap) = some b) w wr) := ht
  clear ho hmr ht
  by_cases hlt : j < n
  ·obtain ⟨gl, rfl⟩ : ∃ g, la = some ⟨g, 0, none⟩ := by
    rcases owns_form HR0.out with ⟨_, h2, _⟩ | ⟨g, c, h1, _⟩
    ·omega
    ·injection h1 with e1 _ _
     exact ⟨g, e1⟩
   have HO : Hid (wr.ownsRow base 146 1 (.slice (some ⟨gl, 0, none⟩) n lcap) n xs) := HR0.out
   have hk0 : (0 : Int) <= (j : Int) := by omega
   have hk1 : (j : Int) < n := by omega
   have c0 : ∃ u, wr.cell? ⟨gl, j, none⟩ = some u := by
    have hl0 : j < xs.length := by rw [HO.out.1]; omega
    exact ⟨_, owns_cell HO.out (List.getElem?_eq_getElem hl0)⟩
   obtain ⟨old0, c0⟩ := c0
   have z0 : wr.frozen? ⟨gl, j, none⟩ = false := by
    obtain ⟨cur, hc⟩ := owns_block HO.out (g := gl) rfl
    exact frozen_row hc _
   have hgl := lG wr _ c0
   go_wp2
   go_roundw
   case rel =>
    refine ⟨j + 1, _, by omega, by go_num, (owns_set HO.out (j) _), keepWords_set HO.out.1 hlt HMR.out, (Turn.setCell (S := fun b => lH (.slice (some ⟨gl, 0, none⟩) n lcap) = some b) (p := ⟨gl, j, none⟩) HT.out (fun _ => rfl) _)⟩
   case measure => simp [intOf]; omega
  ·obtain rfl : j = n := by omega
   clear hlt hj
   have y0 : wr.cell? ⟨P, 7, none⟩ = some (.slice ba bn bcap) := HT.out.cell y (by intro e; exact HLP.out e)
   have hszr := HT.out.size
   go_wp2_with (at_builtin; refine wpList_append_keeps _ rfl _ _ 31 rfl base 146 i0 _ 1 8 Tryz.underlying31 hi hz0 hz1 hz2 rfl (by decide) (.slice la j lcap) j xs rfl (Ext.owns (Ext.alloc (Ext.refl _) _) HR0.out) ⟨_, 0, none⟩ 1 1 [.int .u64 mz] rfl rfl (World.news_of_block (at_new (by simp))) (by simp [Value.oneCell']) (by decide) (by unfold maxLen; omega) (by omega) (by simp; omega) ?_)
   intro g1 cap1 w1 hown hkept hgrow hcase hlt
   have HR1 : Hid (w1.ownsRow base 146 1 (.slice (some ⟨g1, 0, none⟩) (j + 1) cap1) (j + 1) (xs ++ [.int .u64 mz])) := hown
   have HK1 : Hid (w1.ownsRow base 146 1 (.slice la j lcap) j xs) := hkept
   have HT1 : Hid (Turn (fun b => lH (.slice la j lcap) = some b) wr w1) := Turn.grown (Turn.alloc (Turn.refl _ _) _) hgrow (fun q hq _ => hq)
   have HC1 : Hid (lH (.slice la j lcap) = some g1 \/ (Ext wr w1 /\ wr.heap.size <= g1)) := hcase.imp id (fun h => ⟨(Ext.alloc (Ext.refl _) _).trans h.1, by have := h.2; (try simp at this); omega⟩)
   have hsz1 := HT1.out.size
   clear hown hkept hgrow hcase hlt
   have y1 : w1.cell? ⟨P, 7, none⟩ = some (.slice ba bn bcap) := HT1.out.cell y0 (by intro e; exact HLP.out e)
   go_wp2_with (at_builtin; refine wpList_append_keeps _ rfl _ _ 31 rfl base 146 i0 _ 1 8 Tryz.underlying31 hi hz0 hz1 hz2 rfl (by decide) (.slice la j lcap) j xs rfl (Ext.owns (Ext.alloc (Ext.refl _) _) HK1.out) ⟨_, 0, none⟩ 2 2 [.int .u64 mz, .int .u64 mz] rfl rfl (World.news_of_block (at_new (by simp))) (by simp [Value.oneCell']) (by decide) (by unfold maxLen; omega) (by omega) (by simp; omega) ?_)
   intro g2 cap2 w2 hown hkept hgrow hcase hlt
   have HR2 : Hid (w2.ownsRow base 146 1 (.slice (some ⟨g2, 0, none⟩) (j + 2) cap2) (j + 2) (xs ++ [.int .u64 mz, .int .u64 mz])) := hown
   have HK2 : Hid (w2.ownsRow base 146 1 (.slice la j lcap) j xs) := hkept
   have HT2 : Hid (Turn (fun b => lH (.slice la j lcap) = some b) w1 w2) := Turn.grown (Turn.alloc (Turn.refl _ _) _) hgrow (fun q hq _ => hq)
   have HC2 : Hid (lH (.slice la j lcap) = some g2 \/ (Ext w1 w2 /\ w1.heap.size <= g2)) := hcase.imp id (fun h => ⟨(Ext.alloc (Ext.refl _) _).trans h.1, by have := h.2; (try simp at this); omega⟩)
   have hsz2 := HT2.out.size
   clear hown hkept hgrow hcase hlt
   have y2 : w2.cell? ⟨P, 7, none⟩ = some (.slice ba bn bcap) := HT2.out.cell y1 (by intro e; exact HLP.out e)
   go_wp2_with (at_builtin; refine wpList_append_keeps _ rfl _ _ 31 rfl base 146 i0 _ 1 8 Tryz.underlying31 hi hz0 hz1 hz2 rfl (by decide) (.slice la j lcap) j xs rfl (Ext.owns (Ext.alloc (Ext.refl _) _) HK2.out) ⟨_, 0, none⟩ 3 3 [.int .u64 mz, .int .u64 mz, .int .u64 mz] rfl rfl (World.news_of_block (at_new (by simp))) (by simp [Value.oneCell']) (by decide) (by unfold maxLen; omega) (by omega) (by simp; omega) ?_)
   intro g3 cap3 w3 hown hkept hgrow hcase hlt
   have HR3 : Hid (w3.ownsRow base 146 1 (.slice (some ⟨g3, 0, none⟩) (j + 3) cap3) (j + 3) (xs ++ [.int .u64 mz, .int .u64 mz, .int .u64 mz])) := hown
   have HK3 : Hid (w3.ownsRow base 146 1 (.slice la j lcap) j xs) := hkept
   have HT3 : Hid (Turn (fun b => lH (.slice la j lcap) = some b) w2 w3) := Turn.grown (Turn.alloc (Turn.refl _ _) _) hgrow (fun q hq _ => hq)
   have HC3 : Hid (lH (.slice la j lcap) = some g3 \/ (Ext w2 w3 /\ w2.heap.size <= g3)) := hcase.imp id (fun h => ⟨(Ext.alloc (Ext.refl _) _).trans h.1, by have := h.2; (try simp at this); omega⟩)
   have hsz3 := HT3.out.size
   clear hown hkept hgrow hcase hlt
   have y3 : w3.cell? ⟨P, 7, none⟩ = some (.slice ba bn bcap) := HT3.out.cell y2 (by intro e; exact HLP.out e)
   have HTA : Hid (Turn (fun b => lH (.slice la j lcap) = some b) w w3) := ((HT.out).trans HT1.out).trans (HT2.out.trans HT3.out)
   have HB3 : Hid (w3.ownsRow 0 31 1 (.slice ba bn bcap) bn vs) := HTA.out.owns HB.out (fun q hq e => (HBB.out q hq).2 e)
   go_wp2_with (at_builtin; refine wpList_append_lies _ rfl _ _ 87 rfl 0 31 k0 _ 1 24 Tryz.underlying87 hk0 hw0 hw1 hw2 rfl (by decide) (.slice ba bn bcap) bn vs rfl (Ext.owns (Ext.alloc (Ext.refl _) _) HB3.out) ⟨_, 0, none⟩ 4 4 [.slice la j lcap, .slice (some ⟨g1, 0, none⟩) (j + 1) cap1, .slice (some ⟨g2, 0, none⟩) (j + 2) cap2, .slice (some ⟨g3, 0, none⟩) (j + 3) cap3] rfl rfl (World.news_of_block (at_new (by simp))) (by simp [Value.oneCell']) (by decide) (by unfold maxLen; omega) (by omega) (Nat.zero_le _) _ rfl ?_)
   intro g5 cap5 w5 hown5 hgrow5 hat5 hlt5
   have HT5 : Hid (Turn (fun b => lH (.slice ba bn bcap) = some b) w3 w5) := Turn.grown (Turn.alloc (Turn.refl _ _) _) hgrow5 (fun q hq _ => hq)
   have HO5 : Hid (w5.ownsRow 0 31 1 (.slice (some ⟨g5, 0, none⟩) (bn + 4) cap5) (bn + 4) (vs ++ [.slice la j lcap, .slice (some ⟨g1, 0, none⟩) (j + 1) cap1, .slice (some ⟨g2, 0, none⟩) (j + 2) cap2, .slice (some ⟨g3, 0, none⟩) (j + 3) cap3])) := hown5
   have HAT : Hid (lH (.slice ba bn bcap) = some g5 \/ w3.heap.size < g5 + 1) := hat5.imp id (fun h => by (try simp at h); omega)
   have y5 : w5.cell? ⟨P, 7, none⟩ = some (.slice ba bn bcap) := HT5.out.cell y3 (by intro e; exact HBP.out e)
   have hP5 : w5.heap[P]? = some (.cells pcs 94 (0, 0)) := HT5.out.ref (HTA.out.ref HP.out (fun e => HLP.out e)) (fun e => HBP.out e)
   have f5 := frozen_row hP5 7
   have HP5 : Hid _ := hP5
   have hPl5 := lG w5 _ y5
   clear hown5 hgrow5 hat5 hP5
   go_wp2
   go_end0
   have hbn := HBN.out
   obtain ⟨hps, hpb, hGP⟩ := HPS.out
   have hsz5 := HT5.out.size
   have hszA := HTA.out.size
   have hA1 : xs.length = j * 1 := HR0.out.1
   have hm1 := HMR.out.snoc rfl hA1
   have hm2 := hm1.snoc rfl (by rw [List.length_append, hA1, Nat.add_mul]; rfl)
   have hm3 := hm2.snoc rfl (by rw [List.length_append, List.length_append, hA1, Nat.add_mul, Nat.add_mul]; rfl)
   have r1 : MkAt w1 1 [.int .u64 mz] g1 (j + 1) := mkAt_owns HR1.out hm1
   have r2 : MkAt w2 1 [.int .u64 mz] g2 (j + 2) := mkAt_owns HR2.out (by rw [show xs ++ [.int .u64 mz, .int .u64 mz] = (xs ++ [.int .u64 mz]) ++ [.int .u64 mz] by simp]; exact hm2)
   have r3 : MkAt w3 1 [.int .u64 mz] g3 (j + 3) := mkAt_owns HR3.out (by rw [show xs ++ [.int .u64 mz, .int .u64 mz, .int .u64 mz] = ((xs ++ [.int .u64 mz]) ++ [.int .u64 mz]) ++ [.int .u64 mz] by simp]; exact hm3)
   have r1' := (r1.app (by omega) r2 HT2.out HC2.out).app (by omega) r3 HT3.out HC3.out
   have r2' := r2.app (by omega) r3 HT3.out HC3.out
   obtain ⟨w6, hw6⟩ : ∃ w6, w5.setCell ⟨P, 7, none⟩ (.slice (some ⟨g5, 0, none⟩) (bn + 4) cap5) = w6 := ⟨_, rfl⟩
   have hT6 : Turn (fun b => b = P \/ lH (.slice ba bn bcap) = some b) w3 w6 := by
    rw [<- hw6]; exact Turn.setCell (S := fun b => b = P \/ lH (.slice ba bn bcap) = some b) (p := ⟨P, 7, none⟩) (HT5.out.mono (fun _ _ e => .inr e)) (fun _ => .inl rfl) _
   have hP6 : w6.heap[P]? = some (.cells (pcs.setIfInBounds 7 (.slice (some ⟨g5, 0, none⟩) (bn + 4) cap5)) 94 (0, 0)) := by rw [<- hw6]; exact setCell_row HP5.out _
   have hg5P : g5 ≠ P := by
    rcases HAT.out with h | h
    ·exact fun e => HBP.out (by rw [<- e]; exact h)
    ·omega
   have hO6 := owns_setCell HO5.out (a := ⟨P, 7, none⟩) (by simpa [lH] using hg5P) (.slice (some ⟨g5, 0, none⟩) (bn + 4) cap5)
   rw [hw6] at hO6
   have hsz6 : w6.heap.size = w5.heap.size := by rw [<- hw6]; simp
   rw [hw6]
   -- where the new lists lie
   have hwh : ∀ g nn cc, (∃ xx w', (w' = w1 \/ w' = w2 \/ w' = w3) /\ World.ownsRow w' base 146 1 (.slice (some ⟨g, 0, none⟩) nn cc) nn xx) -> (lH (.slice la j lcap) = some g \/ w.heap.size <= g) -> g < w3.heap.size /\ (lH (.slice la j lcap) = some g \/ w.heap.size <= g) := fun g nn cc ⟨xx, w', hw', hoo⟩ hc => ⟨by
    have := owns_lt hoo (g := g) rfl
    have := HT2.out.size
    have := HT3.out.size
    rcases hw' with e | e | e <;> (subst e; omega), hc⟩
   have q1 := hwh g1 _ _ ⟨_, w1, .inl rfl, HR1.out⟩ (HC1.out.imp id (fun h => by have := h.2; omega))
   have q2 := hwh g2 _ _ ⟨_, w2, .inr (.inl rfl), HR2.out⟩ (HC2.out.imp id (fun h => by have := h.2; omega))
   have q3 := hwh g3 _ _ ⟨_, w3, .inr (.inr rfl), HR3.out⟩ (HC3.out.imp id (fun h => by have := h.2; omega))
   have hnn : ∀ g, (lH (.slice la j lcap) = some g \/ w.heap.size <= g) -> ¬ (g = P \/ lH (.slice ba bn bcap) = some g) := fun g hg hor => by
    rcases hor with e | e
    ·rcases hg with h | h
     ·exact HLP.out (by rw [<- e]; exact h)
     ·omega
    ·rcases hg with h | h
     ·exact (HBB.out g e).2 h
     ·have := (HBB.out g e).1; omega
   have hne5 : ∀ g, (∃ cur, w3.heap[g]? = some (.cells cur 146 (0, 0))) -> g ≠ g5 := fun g ⟨cur, hc⟩ e => by
    subst e
    rcases HAT.out with h | h
    ·obtain ⟨cur2, hc2⟩ := owns_block HB3.out h
     exact type_ne hc hc2 (by decide) rfl
    ·have := (Array.getElem?_eq_some_iff.1 hc).1
     omega
   have n1 := hne5 g1 (typ_keep (typ_keep (owns_block HR1.out (g := g1) rfl) HT2.out HK2.out) HT3.out HK3.out)
   have n2 := hne5 g2 (typ_keep (owns_block HR2.out (g := g2) rfl) HT3.out HK3.out)
   have n3 := hne5 g3 (owns_block HR3.out (g := g3) rfl)
   refine ⟨rfl, .slice (some ⟨g5, 0, none⟩) (bn + 4) cap5, hP6, ⟨fun q => G q \/ lH (.slice la j lcap) = some q \/ (w.heap.size <= q /\ q < w6.heap.size /\ q ≠ g5), fun q hq => .inl hq, fun q hq => ?_, fun q hq => ?_, ?_, ?_⟩, fun q hq => ?_, ?_⟩
   ·rcases hq with hq | hq | hq
    ·exact .inl hq
    ·exact .inr (.inl hq)
    ·exact .inr (.inr ⟨by have := hq.1; omega, hq.2.1⟩)
   ·have hq5 : g5 = q := by simpa [lH] using hq
    subst hq5
    rintro (hq | hq | hq)
    ·rcases HAT.out with h | h
     ·exact HG2.out _ h hq
     ·have := HG3.out _ hq; omega
    ·rcases HAT.out with h | h
     ·exact (HBB.out _ h).2 hq
     ·have := HLB.out _ hq; omega
    ·exact hq.2.2 rfl
   ·rintro (hq | hq | hq)
    ·exact hGP hq
    ·exact HLP.out hq
    ·omega
   ·have hmk : ∀ g nn cc, MkAt w3 1 [.int .u64 mz] g nn -> nn <= 200000000 -> (g < w3.heap.size /\ (lH (.slice la j lcap) = some g \/ w.heap.size <= g)) -> g ≠ g5 -> Marked w6 (fun q => G q \/ lH (.slice la j lcap) = some q \/ (w.heap.size <= q /\ q < w6.heap.size /\ q ≠ g5)) 1 (mkW m) (.slice (some ⟨g, 0, none⟩) nn cc) := fun g nn cc hmm hnb hg hg5 => by
     refine ⟨some ⟨g, 0, none⟩, nn, cc, rfl, hnb, .inr ⟨g, rfl, ?_, ?_⟩⟩
     ·rcases hg.2 with h | h
      ·exact .inr (.inl h)
      ·exact .inr (.inr ⟨h, by omega, hg5⟩)
     ·rw [HMZ.out]
      exact hmm.turn hT6 (hnn g hg.2)
    refine BookRow.keep (vs := vs) (by rw [hbn]; have := HB.out.1; omega) (fun k hk => ?_) (by rw [hbn]; exact hO6) ?_ (hmk g1 _ _ r1' (by omega) q1 n1) (hmk g2 _ _ r2' (by omega) q2 n2) (hmk g3 _ _ r3 (by omega) q3 n3)
    ·refine (((HV.out k hk).turn HTA.out (fun b hb e => HG1.out b e hb)).turn hT6 (fun b hb hor => ?_)).mono (fun q hq => .inl hq)
     rcases hor with e | e
     ·exact hGP (by rw [<- e]; exact hb)
     ·exact HG2.out b e hb
    ·refine ⟨la, j, lcap, rfl, by omega, ?_⟩
     rcases owns_form HK3.out with ⟨_, h2, _⟩ | ⟨g, c, h1, _⟩
     ·exact .inl h2
     ·injection h1 with e1 _ e3
      subst e1
      refine .inr ⟨g, rfl, .inr (.inl rfl), ?_⟩
      rw [HMZ.out]
      exact (mkAt_owns HK3.out HMR.out).turn hT6 (hnn g (.inl rfl))
   ·have hq5 : g5 = q := by simpa [lH] using hq
    subst hq5
    rcases HAT.out with h | h
    ·exact .inl h
    ·exact .inr (by omega)
   ·exact (HTA.out.mono (fun b _ e => .inr (.inr e))).trans' hT6 (fun b _ e => e.elim (fun e => .inl e) (fun e => .inr (.inl e)))
end
end Go.Proofs.YtmnjhhachdlmkaaGreat
