import Derived.Test.YtmnjhhachdlmkaaGreatK22
namespace Go.Proofs.YtmnjhhachdlmkaaGreat
open List renaming getElem_toArray -> lA, getElem_cons_succ -> lB, getElem_cons_zero -> lC, setIfInBounds_toArray -> lD, set_cons_zero -> lE, set_cons_succ -> lF
open World renaming block_lt_of_cell? -> lG
open Value renaming ownBlock -> lH
-- JCh
section
set_option maxRecDepth 100000
set_option maxHeartbeats 3200000
open Go.RowKit Go.Maps
/-- All that a dealer has, and what is always so of it. -/
structure StoreOk (w : World) (B : Nat) (F : Nat -> Prop) (R : List StkR) (ls : List LsV) (ops : List OpV) : Prop where
 ex : ∃ sv lv dv ah kn, StoreOf w B F sv lv dv R ls ops false ah kn /\ (lv = .slice none 0 0 \/ 1 <= ls.length) /\ (dv = .slice none 0 0 \/ 1 <= ops.length) /\ (kn = true \/ R = [] /\ ls = [] /\ sv = .slice none 0 0 /\ lv = .slice none 0 0 /\ kn = false)
 kinds : ∀ o ∈ ops, 0 <= o.k /\ o.k <= 5
theorem StoreOk.lt {w : World} {B : Nat} {F : Nat -> Prop} {R : List StkR} {ls : List LsV} {ops : List OpV} (h : StoreOk w B F R ls ops) : ∀ b, F b -> b < w.heap.size := by
 obtain ⟨sv, lv, dv, ah, kn, h1, _⟩ := h.ex
 exact h1.lt
theorem StoreOk.turn {X : Nat -> Prop} {w w' : World} {B : Nat} {F : Nat -> Prop} {R : List StkR} {ls : List LsV} {ops : List OpV} (h : StoreOk w B F R ls ops) (ht : Turn X w w') (hx : ∀ b, F b -> ¬ X b) : StoreOk w' B F R ls ops := by
 obtain ⟨sv, lv, dv, ah, kn, h1, h2⟩ := h.ex
 exact ⟨⟨sv, lv, dv, ah, kn, h1.turn ht hx, h2⟩, h.kinds⟩
theorem StoreOk.ext {w w' : World} {B : Nat} {F : Nat -> Prop} {R : List StkR} {ls : List LsV} {ops : List OpV} (h : StoreOk w B F R ls ops) (hx : Ext w w') : StoreOk w' B F R ls ops := h.turn (X := fun _ => False) (Turn.of_ext hx) (fun _ _ => id)
section
variable {w : World} {P B q c : Nat} {G F : Nat -> Prop} {v : GV} {S : List Stk} {ls : List LsV} {ops0 : List OpV}
/-- What a dealer has is none of a game's. -/
def Far (F G : Nat -> Prop) (P : Nat) (v : GV) : Prop := ∀ b, F b -> ¬ G b /\ ¬ GOwn P v b
/-- What was there and is neither a dealer's nor a game's is as it was. -/
def Old (w w' : World) (F F' : Nat -> Prop) (P : Nat) (v v' : GV) : Prop := Turn (fun b => F b \/ GOwn P v b) w w' /\ (∀ b, F' b -> F b \/ w.heap.size <= b) /\ ∀ b, GOwn P v' b -> GOwn P v b \/ w.heap.size <= b
theorem StoreOk.step {X : Nat -> Prop} {w' : World} {v' : GV} {G' : Nat -> Prop} {R : List StkR} {ls' : List LsV} {ops : List OpV} (h : StoreOk w B F R ls' ops) (hs : GStep X w w' P v v' G G') (hf : Far F G P v) (hx : ∀ b, F b -> ¬ X b) : StoreOk w' B F R ls' ops /\ Far F G' P v' :=
 ⟨h.turn hs.turn (fun b hb hor => hor.elim (hf b hb).2 (hx b hb)), fun b hb => ⟨fun hg => (hs.new b hg).elim (hf b hb).1 (hx b hb), fun ho => (hs.own b ho).elim (hf b hb).2 (hx b hb)⟩⟩
theorem storeDisk_ok {R : List StkR} {ls' : List LsV} {ops : List OpV} (h : GameOf w P B G v q S ls ops0 c) (hc : c <= 900000) (hst : StoreOk w B F R ls' ops) (hn : ops.length <= 1000000) (hpre : ∃ new, ops = ops0 ++ new) :
  Calls Tryz.prog 41 #[.pointer (some ⟨P, 0, none⟩)] w fun e w' => e = .returned (.bool true) /\ ∃ v' G', GameOf w' P B G' v' q S ls ops (c + 1) /\ GStep (fun b => w.heap.size <= b) w w' P v v' G G' /\ v'.wv = v.wv /\ v'.pv = v.pv := by
 obtain ⟨sv, lv, dv, ah, kn, h1, h2, h3, h4⟩ := hst.ex
 exact disk_c h hc h1 h3 hn hpre hst.kinds
theorem GameOf.ops_cell {ops : List OpV} (h : GameOf w P B G v q S ls ops c) : ∃ a cap, w.cell? ⟨P, 3, none⟩ = some (.slice a ops.length cap) := by
 obtain ⟨a, cap, e, _⟩ := h.orow
 exact ⟨a, cap, by rw [<- e]; exact cell_at h.blk rfl⟩
theorem still_c {R : List StkR} {ls' : List LsV} (h : GameOf w P B G v q S ls ops0 c) (hc : c <= 900000) (hst : StoreOk w B F R ls' ops0) (hn : ops0.length <= 1000000) :
  Calls Tryz.prog 80 #[.pointer (some ⟨P, 0, none⟩)] w fun e w' => e = .returned (.bool true) /\ ∃ v' G', GameOf w' P B G' v' q S ls ops0 (c + 1) /\ GStep (fun b => w.heap.size <= b) w w' P v v' G G' /\ v'.wv = v.wv /\ v'.pv = v.pv := by
 have HD : Hid (∀ w', w = w' -> _) := fun w' e => by subst e; exact storeDisk_ok h hc hst hn ⟨[], (List.append_nil _).symm⟩
 obtain ⟨a, cap, c3⟩ := h.ops_cell
 have hPl := lG w _ c3
 clear h hst
 obtain ⟨n, hnn⟩ : ∃ n, ops0.length = n := ⟨_, rfl⟩
 have HNN : Hid (ops0.length = n) := hnn
 rw [hnn] at c3
 clear hnn
 go_enter Tryz.func80, Tryz.ntmps80
 go_wp2_with fail
 refine (HD.out _ rfl).mono ?_
 rintro e w1 ⟨rfl, v', G', hg, hs, hw, hp⟩
 obtain ⟨a', cap', c31⟩ := hg.ops_cell
 have hPl1 := lG w1 _ c31
 have HG : Hid _ := And.intro hg (And.intro hs (And.intro hw hp))
 clear hg hs hw hp
 rw [HNN.out] at c31
 go_wp2
 go_ret
 exact ⟨ret_bool (by simp), v', G', HG.out.1, HG.out.2.1, HG.out.2.2.1, HG.out.2.2.2⟩
/-- What there is, and what has come about, turned. -/
theorem GameOf.upd {w' : World} {wv' pv' : Value} {q' c' np' : Nat} {S' : List Stk} {ls' : List LsV} (h : GameOf w P B G v q S ls ops0 c) (ht : Turn (fun b => b = P \/ v.pv.ownBlock = some b) w w') (hb : w'.heap[P]? = some (.cells (gcells B { v with wv := wv', pv := pv' }) 94 (0, 0))) {G' : Nat -> Prop} (hsub : ∀ b, G b -> G' b) (hnew : ∀ b, G' b -> G b \/ w.heap.size <= b /\ b < w'.heap.size /\ pv'.ownBlock ≠ some b) (hone : OneIs w' G' wv' q') (href : RefAt w' G' q' S' ls') (hpr : PartRow w' G' pv' np') (hnp : np' <= c') (hcc : c <= c') (hpo : ∀ b, pv'.ownBlock = some b -> v.pv.ownBlock = some b \/ w.heap.size <= b) :
  GameOf w' P B G' { v with wv := wv', pv := pv' } q' S' ls' ops0 c' /\ GStep (fun b => w.heap.size <= b) w w' P v { v with wv := wv', pv := pv' } G G' := by
 obtain ⟨npv, hnpv, csspv, opv, hpv⟩ := h.prow
 obtain ⟨nW, hnW, vsW, oW, hW⟩ := h.bW
 obtain ⟨nS, hnS, vsS, oS, hS⟩ := h.bS
 obtain ⟨nL, hnL, vsL, oL, hL⟩ := h.bL
 obtain ⟨nO, hnO, vsO, oO, hO⟩ := h.bO
 have hG : ∀ b, G b -> ¬ (b = P \/ v.pv.ownBlock = some b) := fun b hb hor => hor.elim (fun e => h.apart b (.inl e) hb) (fun e => h.apart b (.inr (.inl e)) hb)
 have far : ∀ (e : TypeId) (r : Value) (n : Nat) (xs : List Value), w.ownsRow 0 e 1 r n xs -> 94 ≠ e -> e ≠ 100 -> ∀ b, r.ownBlock = some b -> ¬ (b = P \/ v.pv.ownBlock = some b) := fun e r n xs ho h1 h2 b hb hor => by
  rcases hor with e' | e'
  ·exact row_ne h.blk ho h1 (by rw [<- e']; exact hb)
  ·obtain ⟨cur, hc⟩ := owns_block ho hb
   obtain ⟨cur2, hc2⟩ := owns_block opv e'
   exact type_ne hc hc2 h2 rfl
 refine ⟨⟨hb, hone, href, (h.orow.turn ht hG).mono hsub, ⟨np', hnp, hpr⟩, ⟨nW, by omega, (BookRow.turn ⟨vsW, oW, hW⟩ ht hG (far _ _ _ _ oW (by decide) (by decide))).mono hsub⟩, ⟨nS, by omega, (BookRow.turn ⟨vsS, oS, hS⟩ ht hG (far _ _ _ _ oS (by decide) (by decide))).mono hsub⟩, ⟨nL, by omega, (BookRow.turn ⟨vsL, oL, hL⟩ ht hG (far _ _ _ _ oL (by decide) (by decide))).mono hsub⟩, ⟨nO, by omega, (BookRow.turn ⟨vsO, oO, hO⟩ ht hG (far _ _ _ _ oO (by decide) (by decide))).mono hsub⟩, fun b hb => ?_, fun b hb hg => ?_⟩, ⟨ht.mono (fun b _ hb => .inl (hb.elim .inl (fun e => .inr (.inl e)))), hsub, fun b hb => (hnew b hb).imp id (fun h => h.1), fun b hb => ?_⟩⟩
 ·rcases hnew b hb with e | e
  ·exact Nat.lt_of_lt_of_le (h.ltG b e) ht.size
  ·exact e.2.1
 ·rcases hb with e | e | e
  ·rcases hnew b hg with k | k
   ·exact h.apart b (.inl e) k
   ·have := h.lt (b := P) (.inl rfl)
    omega
  ·rcases hnew b hg with k | k
   ·rcases hpo b e with e | e
    ·exact h.apart b (.inr (.inl e)) k
    ·have := h.ltG b k
     omega
   ·exact k.2.2 e
  ·have ho : GOwn P v b := .inr (.inr e)
   rcases hnew b hg with k | k
   ·exact h.apart b ho k
   ·have := h.lt ho
    omega
 ·rcases hb with e | e | e
  ·exact .inl (.inl e)
  ·exact (hpo b e).imp (fun e => .inr (.inl e)) id
  ·exact .inl (.inr (.inr e))
theorem infoPart : (Tryz.prog.info? 100).map (fun i => (i.zero, i.size, i.bytes)) = some (some (.agg #[.int .i64 0, .int .i64 0, .slice none 0 0, .bool false]), 4, 48) := by kernel_rfl
theorem changes_c {R : List StkR} {ls' : List LsV} {ops : List OpV} (h : GameOf w P B G v q S ls ops0 c) (hc : c <= 900000) (hst : StoreOk w B F R ls' ops) (hn : ops.length <= 1000000) (new : List OpV) (hnew : ops = ops0 ++ new) (hne : new ≠ []) (nv : Value) (q' : Nat) (S' : List Stk) (hone : OneIs w G nv q') (href : RefAt w G q' S' ls') :
  Calls Tryz.prog 104 #[.pointer (some ⟨P, 0, none⟩), .int .i64 0, nv, .bool true] w fun e w' => e = .returned (.bool true) /\ ∃ v' G', GameOf w' P B G' v' q' S' ls' ops (c + 1) /\ GStep (fun b => w.heap.size <= b) w w' P v v' G G' := by
 have HD : Hid (∀ w', w = w' -> _) := fun w' e => by subst e; exact storeDisk_ok h hc hst hn ⟨new, hnew⟩
 obtain ⟨k0, hk0i, hw0, hw1, hw2⟩ := info_parts infoPart
 obtain ⟨a, cap, c3⟩ := h.ops_cell
 have hPl := lG w _ c3
 obtain ⟨gn, ncap, rfl, hgn, hnc⟩ := hone
 have HON : Hid (G gn /\ w.cell? ⟨gn, 0, none⟩ = some (.pointer (some ⟨q', 0, none⟩)) /\ RefAt w G q' S' ls') := ⟨hgn, hnc, href⟩
 have H0 : Hid (GameOf w P B G v q S ls ops0 c) := h
 have hlen : ops0.length < ops.length := by
  rw [hnew, List.length_append]
  have : 0 < new.length := List.length_pos_iff.2 hne
  omega
 clear h hst hnew hne hgn hnc href
 obtain ⟨n0, hn0⟩ : ∃ n, ops0.length = n := ⟨_, rfl⟩
 obtain ⟨n, hnn⟩ : ∃ n, ops.length = n := ⟨_, rfl⟩
 have HNN : Hid (ops.length = n) := hnn
 rw [hn0] at c3 hlen
 rw [hnn] at hn hlen
 clear hn0 hnn
 go_enter Tryz.func104, Tryz.ntmps104
 go_wp2_with fail
 refine (HD.out _ rfl).mono ?_
 rintro e w1 ⟨rfl, v1, G1, hg, hs, hwv, hpv⟩
 obtain ⟨oa, ocap, c31⟩ := hg.ops_cell
 rw [HNN.out] at c31
 have hPl1 := lG w1 _ c31
 obtain ⟨np, hnp, css, hpr, hcl, hpi⟩ := hg.prow
 obtain ⟨pa, pcap, hpvE⟩ := owns_slice hpr
 have HG : Hid (GameOf w1 P B G1 v1 q S ls ops (c + 1)) := hg
 have HS : Hid (GStep (fun b => w.heap.size <= b) w w1 P v v1 G G1) := hs
 have HPR : Hid (w1.ownsRow 0 100 4 (.slice pa np pcap) np css.flatten) := by
  show World.ownsRow _ _ _ _ _ _ _
  rw [<- hpvE]; exact hpr
 have HPI : Hid (css.length = np /\ (∀ c ∈ css, PartIs w1 G1 c) /\ np <= c) := ⟨hcl, hpi, by
  obtain ⟨np2, h1, css2, h2, _⟩ := H0.out.prow
  have e1 := hpr
  rw [hpv] at e1
  have h3 := HS.out.turn.size
  have : np2 = np := by
   rw [hpv] at hpvE
   obtain ⟨pa2, pcap2, e2⟩ := owns_slice h2
   rw [hpvE] at e2
   injection e2 with _ e2 _
   exact e2.symm
  omega⟩
 have HPV : Hid (v1.pv = .slice pa np pcap) := hpvE
 have hblk := hg.blk
 unfold gcells at hblk
 rw [hpvE] at hblk
 obtain ⟨oa2, ocap2, hov, _⟩ := hg.orow
 have hovE : v1.ov = .slice oa n ocap := by
  have e1 : w1.cell? ⟨P, 3, none⟩ = some v1.ov := cell_at hg.blk rfl
  rw [c31] at e1
  injection e1 with e1
  exact e1.symm
 rw [hovE] at hblk
 obtain ⟨wv1, hwv1⟩ : ∃ x, v1.wv = x := ⟨_, rfl⟩
 rw [hwv1] at hblk
 have HB1 : Hid _ := hblk
 have HOV : Hid (v1.ov = .slice oa n ocap) := hovE
 have HPP : Hid (lH (.slice pa np pcap) ≠ some P) := row_ne (B := P) hblk HPR.out (by decide)
 have hsz1 := HS.out.turn.size
 have c4 : w1.cell? ⟨P, 4, none⟩ = some (.slice pa np pcap) := cell_at hblk rfl
 have hsub : IntKind.i64.wrap ((n : Int) - (n0 : Int)) = ((n - n0 : Nat) : Int) := by rw [IntKind.wrap_i64]; omega
 obtain ⟨dn, hdn⟩ : ∃ d, n - n0 = d := ⟨_, rfl⟩
 rw [hdn] at hsub
 have hd1 : 0 < dn := by omega
 have hd1I : (0 : Int) < (dn : Int) := by omega
 have hnpb : np <= 900000 := by have := HPI.out.2.2; omega
 clear hg hs hwv hpv hpr hcl hpi hpvE hblk hov hovE hdn hwv1 hnp
 go_wp2_with fail
 have SD : Hid (∀ w', Turn (fun b => lH (.slice pa np pcap) = some b) w1 w' -> (fun w' => w'.cell? ⟨P, 3, none⟩ = some (.slice oa n ocap)) w') := fun w' hx => hx.cell c31 (fun e => HPP.out e)
 refine wp_region_held_drew (S := (fun w' => w'.cell? ⟨P, 3, none⟩ = some (.slice oa n ocap))) (by kernel_rfl) c31 (fun hHeld => ?_)
 refine wpAnyH_take (i := 0) (oi := _) (v := ?v0) rfl (by kernel_rfl) (by kernel_rfl) (by kernel_rfl) (fun _ _ _ h => h) (Or.inl ⟨by rfl, ?hy⟩) hHeld ?_
 case hy => (intro w hSw; (try dsimp only at hSw); go_simp; try with_reducible rfl)
 try simp only [Act.put, lA, lC, lD, lE, lF]
 refine wpAnyH_take (i := 1) (oi := _) (v := ?v1) rfl (by kernel_rfl) (by kernel_rfl) (by kernel_rfl) (fun _ _ _ h => h) (Or.inl ⟨by rfl, ?hy⟩) hHeld ?_
 case hy => (intro w hSw; (try dsimp only at hSw); go_simp; try with_reducible rfl)
 try simp only [Act.put, lA, lB, lC, lD, lE, lF]
 refine wpAnyH_take (i := 2) (oi := _) (v := ?v2) rfl (by kernel_rfl) (by kernel_rfl) (by kernel_rfl) (fun _ _ _ h => h) (Or.inl ⟨by rfl, ?hy⟩) hHeld ?_
 case hy => (intro w hSw; (try dsimp only at hSw); go_simp; try with_reducible rfl)
 try simp only [Act.put, lA, lB, lC, lD, lE, lF]
 refine wpAnyH_take (i := 3) (oi := _) (v := ?v3) rfl (by kernel_rfl) (by kernel_rfl) (by kernel_rfl) (fun _ _ _ h => h) (Or.inl ⟨by rfl, ?hy⟩) hHeld ?_
 case hy => (intro w hSw; (try dsimp only at hSw); go_simp; try with_reducible rfl)
 try simp only [Act.put, lA, lB, lC, lD, lE, lF]
 refine wpAnyH_take (i := 5) (oi := _) (v := ?v5) rfl (by kernel_rfl) (by kernel_rfl) (by kernel_rfl) (fun _ _ _ h => h) (Or.inl ⟨by rfl, ?hy⟩) hHeld ?_
 case hy => (intro w hSw; (try dsimp only at hSw); go_simp; try with_reducible rfl)
 try simp only [Act.put, lA, lB, lC, lD, lE, lF]
 refine wpAnyH_take (i := 6) (oi := _) (v := ?v6) rfl (by kernel_rfl) (by kernel_rfl) (by kernel_rfl) (fun _ _ _ h => h) (Or.inl ⟨by rfl, ?hy⟩) hHeld ?_
 case hy => (intro w hSw; (try dsimp only at hSw); go_simp; try with_reducible rfl)
 try simp only [Act.put, lA, lB, lC, lD, lE, lF]
 refine wpAnyH_take (i := 7) (oi := _) (v := ?v7) rfl (by kernel_rfl) (by kernel_rfl) (by kernel_rfl) (fun _ _ _ h => h) (Or.inl ⟨by rfl, ?hy⟩) hHeld ?_
 case hy => (intro w hSw; (try dsimp only at hSw); go_simp; try with_reducible rfl)
 try simp only [Act.put, lA, lB, lC, lD, lE, lF]
 refine wpAnyH_take (i := 8) (oi := _) (v := ?v8) rfl (by kernel_rfl) (by kernel_rfl) (by kernel_rfl) (fun _ _ _ h => h) (Or.inl ⟨by rfl, ?hy⟩) hHeld ?_
 case hy => (intro w hSw; (try dsimp only at hSw); go_simp; try with_reducible rfl)
 try simp only [Act.put, lA, lB, lC, lD, lE, lF]
 refine wpAnyH_take (i := 9) (oi := _) (v := ?v9) rfl (by kernel_rfl) (by kernel_rfl) (by kernel_rfl) (fun _ _ _ h => h) (Or.inl ⟨by rfl, ?hy⟩) hHeld ?_
 case hy => (intro w hSw; (try dsimp only at hSw); go_simp; try with_reducible rfl)
 try simp only [Act.put, lA, lB, lC, lD, lE, lF]
 refine wpAnyH_take (i := 10) (oi := _) (v := ?v10) rfl (by kernel_rfl) (by kernel_rfl) (by kernel_rfl) (fun _ _ _ h => h) (Or.inl ⟨by rfl, ?hy⟩) hHeld ?_
 case hy => (intro w hSw; (try dsimp only at hSw); go_simp; try with_reducible rfl)
 try simp only [Act.put, lA, lB, lC, lD, lE, lF]
 refine wpAnyH_take (i := 11) (oi := _) (v := ?v11) rfl (by kernel_rfl) (by kernel_rfl) (by kernel_rfl) (fun _ _ _ h => h) (Or.inl ⟨by rfl, ?hy⟩) hHeld ?_
 case hy => (intro w hSw; (try dsimp only at hSw); go_simp; try with_reducible rfl)
 try simp only [Act.put, lA, lB, lC, lD, lE, lF]
 refine wpAnyH_take (i := 12) (oi := _) (v := ?v12) rfl (by kernel_rfl) (by kernel_rfl) (by kernel_rfl) (fun _ _ _ h => h) (Or.inl ⟨by rfl, ?hy⟩) hHeld ?_
 case hy => (intro w hSw; (try dsimp only at hSw); go_simp; try with_reducible rfl)
 try simp only [Act.put, lA, lB, lC, lD, lE, lF]
 refine wpAnyH_take (i := 13) (oi := _) (v := ?v13) rfl (by kernel_rfl) (by kernel_rfl) (by kernel_rfl) (fun _ _ _ h => h) (Or.inl ⟨by rfl, ?hy⟩) hHeld ?_
 case hy => (intro w hSw; (try dsimp only at hSw); go_simp; try with_reducible rfl)
 try simp only [Act.put, lA, lB, lC, lD, lE, lF]
 refine wpAnyH_ready (rs := [4, 14]) (by kernel_rfl) (by simp) ?_
 refine AllReadyH.cons (o := _) rfl (fun K hK => ?_) (AllReadyH.cons (o := _) rfl (fun K hK => ?_) AllReadyH.nil)
 ·skip
  (try simp only [lA, lB, lC])
  go_simp
  refine hK.out _ _ ?hs1 (fun hHeld => ?_)
  case hs1 => exact SD.out _ (Turn.of_ext (Ext.drew (Ext.refl _)))
  clear hK K
  try simp only [Act.put, lA, lB, lC, lD, lE, lF]
  refine wpAnyH_ready (rs := [14]) (by kernel_rfl) (by simp) ?_
  refine AllReadyH.cons (o := _) rfl (fun K hK => ?_) AllReadyH.nil
  (try simp only [lA, lB, lC])
  go_simp
  refine hK.out _ _ ?hs2 (fun hHeld => ?_)
  case hs2 => exact SD.out _ (Turn.of_ext (Ext.drew (Ext.alloc (Ext.refl _) _)))
  clear hK K
  try simp only [Act.put, lA, lB, lC, lD, lE, lF]
  refine wpAnyH_ready (rs := [15]) (by kernel_rfl) (by simp) ?_
  refine AllReadyH.cons (o := _) rfl (fun K hK => ?_) AllReadyH.nil
  refine step_append_lies _ (by rfl) _ _ 86 (by rfl) 0 100 k0 _ 4 48 Tryz.underlying86 hk0i hw0 hw1 hw2 (by rfl) (by decide) (.slice pa np pcap) np css.flatten (by rfl) (Ext.owns (Ext.drew (Ext.alloc (Ext.refl _) _)) HPR.out) ⟨_, 0, none⟩ 1 1 [.int .i64 (n0 : Int), .int .i64 (n : Int), .slice (some ⟨gn, 0, none⟩) 1 ncap, .bool true] (by rfl) (by rfl) (World.news_of_block (at_drew (heap_alloc_new _ _))) (by simp [Value.oneCell']) (by decide) (by unfold maxLen; omega) (by omega) (Nat.zero_le _) _ rfl ?_
  intro g cap w5 hown5 hgrow5 hat5 hlt5
  have HT5 : Hid (Turn (fun b => lH (.slice pa np pcap) = some b) w1 w5) := Turn.grown (Turn.of_ext (Ext.drew (Ext.alloc (Ext.refl _) _))) hgrow5 (fun q hq _ => hq)
  have HOW : Hid (w5.ownsRow 0 100 4 (.slice (some ⟨g, 0, none⟩) (np + 1) cap) (np + 1) (css.flatten ++ [.int .i64 (n0 : Int), .int .i64 (n : Int), .slice (some ⟨gn, 0, none⟩) 1 ncap, .bool true])) := hown5
  have HAT : Hid (lH (.slice pa np pcap) = some g \/ w1.heap.size <= g) := by
   rcases hat5 with h | h
   ·exact .inl h
   ·exact .inr (by rw [h]; exact (Turn.of_ext (Ext.drew (Ext.alloc (Ext.refl _) _)) : Turn (fun _ => False) w1 _).size)
  have HB5 : Hid (w5.heap[P]? = some (.cells #[.pointer (some ⟨B, 0, none⟩), wv1, .slice none 0 0, .slice oa n ocap, .slice pa np pcap, .bool false, .int .i64 0, v1.bW, v1.bS, v1.bL, v1.bO] 94 (0, 0))) := HT5.out.ref HB1.out (fun e => HPP.out e)
  have y1b : w5.cell? ⟨P, 4, none⟩ = some (.slice pa np pcap) := cell_at HB5.out rfl
  have f1b := frozen_row HB5.out 4
  refine hK.out _ _ ?hs3 (fun hHeld => ?_)
  case hs3 => exact SD.out _ HT5.out
  clear hK K hown5 hgrow5 hat5
  try simp only [Act.put, lA, lB, lC, lD, lE, lF]
  refine wpAnyH_take (i := 16) (oi := _) (v := ?v16) rfl (by kernel_rfl) (by kernel_rfl) (by kernel_rfl) (fun _ _ _ h => h) (Or.inl ⟨by rfl, ?hy⟩) hHeld ?_
  case hy => (intro w hSw; (try dsimp only at hSw); go_simp; try with_reducible rfl)
  try simp only [Act.put, lA, lB, lC, lD, lE, lF]
  refine wpAnyH_take (i := 17) (oi := _) (v := ?v17) rfl (by kernel_rfl) (by kernel_rfl) (by kernel_rfl) (fun _ _ _ h => h) (Or.inl ⟨by rfl, ?hy⟩) hHeld ?_
  case hy => (intro w hSw; (try dsimp only at hSw); go_simp; try with_reducible rfl)
  try simp only [Act.put, lA, lB, lC, lD, lE, lF]
  refine wpAnyH_ready (rs := [18]) (by kernel_rfl) (by simp) ?_
  refine AllReadyH.cons (o := _) rfl (fun K hK => ?_) AllReadyH.nil
  (try simp only [lA, lB, lC])
  go_simp
  refine hK.out _ _ ?hs4 (fun hHeld => ?_)
  case hs4 =>
   exact cell_at (setCell_row HB5.out _) rfl
  clear hK K
  try simp only [Act.put, lA, lB, lC, lD, lE, lF]
  refine wpAnyH_done (by kernel_rfl) ?_ _
  have hB6 : (w5.setCell ⟨P, 4, none⟩ (.slice (some ⟨g, 0, none⟩) (np + 1) cap)).heap[P]? = some (.cells #[.pointer (some ⟨B, 0, none⟩), wv1, .slice none 0 0, .slice oa n ocap, .slice (some ⟨g, 0, none⟩) (np + 1) cap, .bool false, .int .i64 0, v1.bW, v1.bS, v1.bL, v1.bO] 94 (0, 0)) := setCell_row HB5.out _
  have hgP : g ≠ P := by
   rcases HAT.out with h | h
   ·exact fun e => HPP.out (by rw [<- e]; exact h)
   ·omega
  have hO6 : (w5.setCell ⟨P, 4, none⟩ (.slice (some ⟨g, 0, none⟩) (np + 1) cap)).ownsRow 0 100 4 (.slice (some ⟨g, 0, none⟩) (np + 1) cap) (np + 1) (css.flatten ++ [.int .i64 (n0 : Int), .int .i64 (n : Int), .slice (some ⟨gn, 0, none⟩) 1 ncap, .bool true]) := owns_setCell HOW.out (by simpa [lH] using hgP) _
  have hT6 : Turn (fun b => b = P \/ lH (.slice pa np pcap) = some b) w1 (w5.setCell ⟨P, 4, none⟩ (.slice (some ⟨g, 0, none⟩) (np + 1) cap)) := Turn.setCell (S := fun b => b = P \/ lH (.slice pa np pcap) = some b) (p := ⟨P, 4, none⟩) (HT5.out.mono (fun _ _ e => .inr e)) (fun _ => .inl rfl) _
  generalize World.setCell w5 _ _ = w6 at hO6 hB6 hT6 hHeld ⊢
  have HB6 : Hid _ := hB6
  have HO6 : Hid _ := hO6
  have HT6 : Hid (Turn (fun b => b = P \/ lH (.slice pa np pcap) = some b) w1 w6) := hT6
  have z5 : w6.cell? ⟨P, 5, none⟩ = some (.bool false) := cell_at hB6 rfl
  have z1 : w6.cell? ⟨P, 1, none⟩ = some wv1 := cell_at hB6 rfl
  have f1 := frozen_row hB6 1
  have HGP : Hid (g ≠ P) := hgP
  have hPl6 := lG w6 _ z5
  clear hO6 hB6 hT6 hHeld y1b f1b c4 c31 hgP
  go_wp2_with fail
  have hB7 : (w6.setCell ⟨P, 1, none⟩ (.slice (some ⟨gn, 0, none⟩) 1 ncap)).heap[P]? = some (.cells #[.pointer (some ⟨B, 0, none⟩), .slice (some ⟨gn, 0, none⟩) 1 ncap, .slice none 0 0, .slice oa n ocap, .slice (some ⟨g, 0, none⟩) (np + 1) cap, .bool false, .int .i64 0, v1.bW, v1.bS, v1.bL, v1.bO] 94 (0, 0)) := setCell_row HB6.out _
  have x5 : (w6.setCell ⟨P, 1, none⟩ (.slice (some ⟨gn, 0, none⟩) 1 ncap)).cell? ⟨P, 5, none⟩ = some (.bool false) := cell_at hB7 rfl
  have HB7 : Hid _ := hB7
  clear hB7
  all_goals go_wp2
  all_goals go_ret
  all_goals
   have hT7 : Turn (fun b => b = P \/ v1.pv.ownBlock = some b) w1 (w6.setCell ⟨P, 1, none⟩ (.slice (some ⟨gn, 0, none⟩) 1 ncap)) := by
    rw [HPV.out]
    exact Turn.setCell (S := fun b => b = P \/ lH (.slice pa np pcap) = some b) (p := ⟨P, 1, none⟩) HT6.out (fun _ => .inl rfl) _
   have hOP := owns_setCell HO6.out (a := ⟨P, 1, none⟩) (by simpa [lH] using HGP.out) (.slice (some ⟨gn, 0, none⟩) 1 ncap)
   have hB7 := HB7.out
   generalize World.setCell w6 _ _ = w7 at hT7 hB7 hOP ⊢
   have hGt : ∀ b, G1 b -> ¬ (b = P \/ v1.pv.ownBlock = some b) := fun b hb hor => hor.elim (fun e => HG.out.apart b (.inl e) hb) (fun e => HG.out.apart b (.inr (.inl e)) hb)
   have hone7 : OneIs w7 G1 (.slice (some ⟨gn, 0, none⟩) 1 ncap) q' := by
    have h1 : OneIs w1 G (.slice (some ⟨gn, 0, none⟩) 1 ncap) q' := OneIs.turn ⟨gn, ncap, rfl, HON.out.1, HON.out.2.1⟩ HS.out.turn (fun b hb hor => hor.elim (fun ho => H0.out.apart b ho hb) (fun hl => by have := H0.out.ltG b hb; omega))
    exact (h1.mono HS.out.sub).turn hT7 hGt
   have href7 : RefAt w7 G1 q' S' ls' := by
    have h1 : RefAt w1 G q' S' ls' := HON.out.2.2.turn HS.out.turn (fun b hb hor => hor.elim (fun ho => H0.out.apart b ho hb) (fun hl => by have := H0.out.ltG b hb; omega))
    exact (h1.mono HS.out.sub).turn hT7 hGt
   have hpr7 : PartRow w7 G1 (.slice (some ⟨g, 0, none⟩) (np + 1) cap) (np + 1) := by
    refine ⟨css ++ [[.int .i64 (n0 : Int), .int .i64 (n : Int), .slice (some ⟨gn, 0, none⟩) 1 ncap, .bool true]], by rw [List.flatten_append, List.flatten_cons, List.flatten_nil, List.append_nil]; exact hOP, by rw [List.length_append, HPI.out.1]; rfl, fun cc hcc => ?_⟩
    rcases List.mem_append.1 hcc with hcc | hcc
    ·exact (HPI.out.2.1 cc hcc).turn hT7 hGt
    ·rw [List.mem_singleton.1 hcc]
     exact ⟨n0, n, _, true, q', rfl, hone7⟩
   have hfin := HG.out.upd (wv' := .slice (some ⟨gn, 0, none⟩) 1 ncap) (pv' := .slice (some ⟨g, 0, none⟩) (np + 1) cap) (c' := c + 1) hT7 (by rw [hB7]; unfold gcells; rw [HOV.out]) (fun b hb => hb) (fun b hb => .inl hb) hone7 href7 hpr7 (by have := HPI.out.2.2; omega) (Nat.le_refl _) (fun b hb => by
    have hbg : g = b := by simpa [lH] using hb
    subst hbg
    rw [HPV.out]
    exact HAT.out)
   refine ⟨ret_bool (by simp [*]), _, _, hfin.1, HS.out.trans hfin.2 (fun b hb => by omega)⟩
 ·skip
  (try simp only [lA, lB, lC])
  go_simp
  refine hK.out _ _ ?hs1 (fun hHeld => ?_)
  case hs1 => exact SD.out _ (Turn.of_ext (Ext.drew (Ext.alloc (Ext.refl _) _)))
  clear hK K
  try simp only [Act.put, lA, lB, lC, lD, lE, lF]
  refine wpAnyH_ready (rs := [4]) (by kernel_rfl) (by simp) ?_
  refine AllReadyH.cons (o := _) rfl (fun K hK => ?_) AllReadyH.nil
  (try simp only [lA, lB, lC])
  go_simp
  refine hK.out _ _ ?hs2 (fun hHeld => ?_)
  case hs2 => exact SD.out _ (Turn.of_ext (Ext.drew (Ext.alloc (Ext.refl _) _)))
  clear hK K
  try simp only [Act.put, lA, lB, lC, lD, lE, lF]
  refine wpAnyH_ready (rs := [15]) (by kernel_rfl) (by simp) ?_
  refine AllReadyH.cons (o := _) rfl (fun K hK => ?_) AllReadyH.nil
  refine step_append_lies _ (by rfl) _ _ 86 (by rfl) 0 100 k0 _ 4 48 Tryz.underlying86 hk0i hw0 hw1 hw2 (by rfl) (by decide) (.slice pa np pcap) np css.flatten (by rfl) (Ext.owns (Ext.drew (Ext.alloc (Ext.refl _) _)) HPR.out) ⟨_, 0, none⟩ 1 1 [.int .i64 (n0 : Int), .int .i64 (n : Int), .slice (some ⟨gn, 0, none⟩) 1 ncap, .bool true] (by rfl) (by rfl) (World.news_of_block (at_drew (heap_alloc_new _ _))) (by simp [Value.oneCell']) (by decide) (by unfold maxLen; omega) (by omega) (Nat.zero_le _) _ rfl ?_
  intro g cap w5 hown5 hgrow5 hat5 hlt5
  have HT5 : Hid (Turn (fun b => lH (.slice pa np pcap) = some b) w1 w5) := Turn.grown (Turn.of_ext (Ext.drew (Ext.alloc (Ext.refl _) _))) hgrow5 (fun q hq _ => hq)
  have HOW : Hid (w5.ownsRow 0 100 4 (.slice (some ⟨g, 0, none⟩) (np + 1) cap) (np + 1) (css.flatten ++ [.int .i64 (n0 : Int), .int .i64 (n : Int), .slice (some ⟨gn, 0, none⟩) 1 ncap, .bool true])) := hown5
  have HAT : Hid (lH (.slice pa np pcap) = some g \/ w1.heap.size <= g) := by
   rcases hat5 with h | h
   ·exact .inl h
   ·exact .inr (by rw [h]; exact (Turn.of_ext (Ext.drew (Ext.alloc (Ext.refl _) _)) : Turn (fun _ => False) w1 _).size)
  have HB5 : Hid (w5.heap[P]? = some (.cells #[.pointer (some ⟨B, 0, none⟩), wv1, .slice none 0 0, .slice oa n ocap, .slice pa np pcap, .bool false, .int .i64 0, v1.bW, v1.bS, v1.bL, v1.bO] 94 (0, 0))) := HT5.out.ref HB1.out (fun e => HPP.out e)
  have y1b : w5.cell? ⟨P, 4, none⟩ = some (.slice pa np pcap) := cell_at HB5.out rfl
  have f1b := frozen_row HB5.out 4
  refine hK.out _ _ ?hs3 (fun hHeld => ?_)
  case hs3 => exact SD.out _ HT5.out
  clear hK K hown5 hgrow5 hat5
  try simp only [Act.put, lA, lB, lC, lD, lE, lF]
  refine wpAnyH_take (i := 16) (oi := _) (v := ?v16) rfl (by kernel_rfl) (by kernel_rfl) (by kernel_rfl) (fun _ _ _ h => h) (Or.inl ⟨by rfl, ?hy⟩) hHeld ?_
  case hy => (intro w hSw; (try dsimp only at hSw); go_simp; try with_reducible rfl)
  try simp only [Act.put, lA, lB, lC, lD, lE, lF]
  refine wpAnyH_take (i := 17) (oi := _) (v := ?v17) rfl (by kernel_rfl) (by kernel_rfl) (by kernel_rfl) (fun _ _ _ h => h) (Or.inl ⟨by rfl, ?hy⟩) hHeld ?_
  case hy => (intro w hSw; (try dsimp only at hSw); go_simp; try with_reducible rfl)
  try simp only [Act.put, lA, lB, lC, lD, lE, lF]
  refine wpAnyH_ready (rs := [18]) (by kernel_rfl) (by simp) ?_
  refine AllReadyH.cons (o := _) rfl (fun K hK => ?_) AllReadyH.nil
  (try simp only [lA, lB, lC])
  go_simp
  refine hK.out _ _ ?hs4 (fun hHeld => ?_)
  case hs4 =>
   exact cell_at (setCell_row HB5.out _) rfl
  clear hK K
  try simp only [Act.put, lA, lB, lC, lD, lE, lF]
  refine wpAnyH_done (by kernel_rfl) ?_ _
  have hB6 : (w5.setCell ⟨P, 4, none⟩ (.slice (some ⟨g, 0, none⟩) (np + 1) cap)).heap[P]? = some (.cells #[.pointer (some ⟨B, 0, none⟩), wv1, .slice none 0 0, .slice oa n ocap, .slice (some ⟨g, 0, none⟩) (np + 1) cap, .bool false, .int .i64 0, v1.bW, v1.bS, v1.bL, v1.bO] 94 (0, 0)) := setCell_row HB5.out _
  have hgP : g ≠ P := by
   rcases HAT.out with h | h
   ·exact fun e => HPP.out (by rw [<- e]; exact h)
   ·omega
  have hO6 : (w5.setCell ⟨P, 4, none⟩ (.slice (some ⟨g, 0, none⟩) (np + 1) cap)).ownsRow 0 100 4 (.slice (some ⟨g, 0, none⟩) (np + 1) cap) (np + 1) (css.flatten ++ [.int .i64 (n0 : Int), .int .i64 (n : Int), .slice (some ⟨gn, 0, none⟩) 1 ncap, .bool true]) := owns_setCell HOW.out (by simpa [lH] using hgP) _
  have hT6 : Turn (fun b => b = P \/ lH (.slice pa np pcap) = some b) w1 (w5.setCell ⟨P, 4, none⟩ (.slice (some ⟨g, 0, none⟩) (np + 1) cap)) := Turn.setCell (S := fun b => b = P \/ lH (.slice pa np pcap) = some b) (p := ⟨P, 4, none⟩) (HT5.out.mono (fun _ _ e => .inr e)) (fun _ => .inl rfl) _
  generalize World.setCell w5 _ _ = w6 at hO6 hB6 hT6 hHeld ⊢
  have HB6 : Hid _ := hB6
  have HO6 : Hid _ := hO6
  have HT6 : Hid (Turn (fun b => b = P \/ lH (.slice pa np pcap) = some b) w1 w6) := hT6
  have z5 : w6.cell? ⟨P, 5, none⟩ = some (.bool false) := cell_at hB6 rfl
  have z1 : w6.cell? ⟨P, 1, none⟩ = some wv1 := cell_at hB6 rfl
  have f1 := frozen_row hB6 1
  have HGP : Hid (g ≠ P) := hgP
  have hPl6 := lG w6 _ z5
  clear hO6 hB6 hT6 hHeld y1b f1b c4 c31 hgP
  go_wp2_with fail
  have hB7 : (w6.setCell ⟨P, 1, none⟩ (.slice (some ⟨gn, 0, none⟩) 1 ncap)).heap[P]? = some (.cells #[.pointer (some ⟨B, 0, none⟩), .slice (some ⟨gn, 0, none⟩) 1 ncap, .slice none 0 0, .slice oa n ocap, .slice (some ⟨g, 0, none⟩) (np + 1) cap, .bool false, .int .i64 0, v1.bW, v1.bS, v1.bL, v1.bO] 94 (0, 0)) := setCell_row HB6.out _
  have x5 : (w6.setCell ⟨P, 1, none⟩ (.slice (some ⟨gn, 0, none⟩) 1 ncap)).cell? ⟨P, 5, none⟩ = some (.bool false) := cell_at hB7 rfl
  have HB7 : Hid _ := hB7
  clear hB7
  all_goals go_wp2
  all_goals go_ret
  all_goals
   have hT7 : Turn (fun b => b = P \/ v1.pv.ownBlock = some b) w1 (w6.setCell ⟨P, 1, none⟩ (.slice (some ⟨gn, 0, none⟩) 1 ncap)) := by
    rw [HPV.out]
    exact Turn.setCell (S := fun b => b = P \/ lH (.slice pa np pcap) = some b) (p := ⟨P, 1, none⟩) HT6.out (fun _ => .inl rfl) _
   have hOP := owns_setCell HO6.out (a := ⟨P, 1, none⟩) (by simpa [lH] using HGP.out) (.slice (some ⟨gn, 0, none⟩) 1 ncap)
   have hB7 := HB7.out
   generalize World.setCell w6 _ _ = w7 at hT7 hB7 hOP ⊢
   have hGt : ∀ b, G1 b -> ¬ (b = P \/ v1.pv.ownBlock = some b) := fun b hb hor => hor.elim (fun e => HG.out.apart b (.inl e) hb) (fun e => HG.out.apart b (.inr (.inl e)) hb)
   have hone7 : OneIs w7 G1 (.slice (some ⟨gn, 0, none⟩) 1 ncap) q' := by
    have h1 : OneIs w1 G (.slice (some ⟨gn, 0, none⟩) 1 ncap) q' := OneIs.turn ⟨gn, ncap, rfl, HON.out.1, HON.out.2.1⟩ HS.out.turn (fun b hb hor => hor.elim (fun ho => H0.out.apart b ho hb) (fun hl => by have := H0.out.ltG b hb; omega))
    exact (h1.mono HS.out.sub).turn hT7 hGt
   have href7 : RefAt w7 G1 q' S' ls' := by
    have h1 : RefAt w1 G q' S' ls' := HON.out.2.2.turn HS.out.turn (fun b hb hor => hor.elim (fun ho => H0.out.apart b ho hb) (fun hl => by have := H0.out.ltG b hb; omega))
    exact (h1.mono HS.out.sub).turn hT7 hGt
   have hpr7 : PartRow w7 G1 (.slice (some ⟨g, 0, none⟩) (np + 1) cap) (np + 1) := by
    refine ⟨css ++ [[.int .i64 (n0 : Int), .int .i64 (n : Int), .slice (some ⟨gn, 0, none⟩) 1 ncap, .bool true]], by rw [List.flatten_append, List.flatten_cons, List.flatten_nil, List.append_nil]; exact hOP, by rw [List.length_append, HPI.out.1]; rfl, fun cc hcc => ?_⟩
    rcases List.mem_append.1 hcc with hcc | hcc
    ·exact (HPI.out.2.1 cc hcc).turn hT7 hGt
    ·rw [List.mem_singleton.1 hcc]
     exact ⟨n0, n, _, true, q', rfl, hone7⟩
   have hfin := HG.out.upd (wv' := .slice (some ⟨gn, 0, none⟩) 1 ncap) (pv' := .slice (some ⟨g, 0, none⟩) (np + 1) cap) (c' := c + 1) hT7 (by rw [hB7]; unfold gcells; rw [HOV.out]) (fun b hb => hb) (fun b hb => .inl hb) hone7 href7 hpr7 (by have := HPI.out.2.2; omega) (Nat.le_refl _) (fun b hb => by
    have hbg : g = b := by simpa [lH] using hb
    subst hbg
    rw [HPV.out]
    exact HAT.out)
   refine ⟨ret_bool (by simp [*]), _, _, hfin.1, HS.out.trans hfin.2 (fun b hb => by omega)⟩
end
end
-- JNw
section
set_option maxRecDepth 100000
set_option maxHeartbeats 3200000
open Go.RowKit Go.Maps
theorem flatN_set {N : Nat} {css : List (List Value)} (h7 : ∀ c ∈ css, c.length = N) (j : Nat) (i : Nat) (hi : i < N) {cs : List Value} (hcs : css[j]? = some cs) (v : Value) : (css.set j (cs.set i v)).flatten = css.flatten.set (j * N + i) v := by
 induction css generalizing j with
 | nil => simp at hcs
 | cons c t ih =>
  have hc := h7 c (by simp)
  cases j with
  | zero =>
   simp at hcs
   subst hcs
   simp [List.set_append_left _ _ (show i < c.length by omega)]
  | succ j =>
   simp at hcs
   rw [lF, List.flatten_cons, List.flatten_cons, List.set_append_right _ _ (by rw [Nat.add_mul]; omega), hc, show (j + 1) * N + i - N = j * N + i by rw [Nat.add_mul]; omega, ih (fun c hc => h7 c (by simp [hc])) j hcs]
theorem flatN_at {N : Nat} {css : List (List Value)} (h7 : ∀ c ∈ css, c.length = N) (j : Nat) (i : Nat) (hi : i < N) {cs : List Value} (hcs : css[j]? = some cs) : css.flatten[j * N + i]? = cs[i]? := by
 induction css generalizing j with
 | nil => simp at hcs
 | cons c t ih =>
  have hc := h7 c (by simp)
  cases j with
  | zero =>
   simp at hcs
   subst hcs
   simp [List.getElem?_append_left (show i < c.length by omega)]
  | succ j =>
   simp at hcs
   rw [List.flatten_cons, List.getElem?_append_right (by rw [hc, Nat.add_mul]; omega), hc, show (j + 1) * N + i - N = j * N + i by rw [Nat.add_mul]; omega]
   exact ih (fun c hc => h7 c (by simp [hc])) j hcs
section
variable {w : World} {P B q c : Nat} {G : Nat -> Prop} {v : GV} {S : List Stk} {ls : List LsV} {ops0 : List OpV}
theorem narrow_c (h : GameOf w P B G v q S ls ops0 c) (hc : c <= 900000) (gw cw : Nat) (hw0 : w.cell? ⟨gw, 0, none⟩ = some (.int .i64 0)) (hwt : ∃ cur, w.heap[gw]? = some (.cells cur 3 (0, 0))) :
  Calls Tryz.prog 150 #[.pointer (some ⟨P, 0, none⟩), .slice (some ⟨gw, 0, none⟩) 1 cw] w fun e w' => e = .returned (.tuple #[]) /\ ∃ v' G', GameOf w' P B G' v' q S ls ops0 c /\ GStep (fun b => w.heap.size <= b) w w' P v v' G G' := by
 have H : Hid (GameOf w P B G v q S ls ops0 c) := h
 obtain ⟨gl, lcap, hwv, hgl, hlc⟩ := h.wrow
 obtain ⟨np, hnp, css, hpr, hcl, hpi⟩ := h.prow
 obtain ⟨pa, pcap, hpvE⟩ := owns_slice hpr
 have hblk := h.blk
 unfold gcells at hblk
 rw [hpvE, hwv] at hblk
 rw [hpvE] at hpr
 have c1 : w.cell? ⟨P, 1, none⟩ = some (.slice (some ⟨gl, 0, none⟩) 1 lcap) := cell_at hblk rfl
 have f1 := frozen_row hblk 1
 have hPl := lG w _ c1
 have HO1 : Hid (∀ w', Ext w w' -> _) := fun w' hx => only_c gl gw 1 lcap cw (.pointer (some ⟨q, 0, none⟩)) rfl (Nat.le_refl _) w' (hx.cell hlc) (hx.cell hw0) ⟨_, rfl⟩
 have HB : Hid (w.heap[P]? = some (.cells #[.pointer (some ⟨B, 0, none⟩), .slice (some ⟨gl, 0, none⟩) 1 lcap, .slice none 0 0, v.ov, .slice pa np pcap, .bool false, .int .i64 0, v.bW, v.bS, v.bL, v.bO] 94 (0, 0))) := hblk
 have HPR : Hid (w.ownsRow 0 100 4 (.slice pa np pcap) np css.flatten) := hpr
 have HPI : Hid (css.length = np /\ ∀ c ∈ css, PartIs w G c) := ⟨hcl, hpi⟩
 have HPV : Hid (v.pv = .slice pa np pcap) := hpvE
 have HPP : Hid (lH (.slice pa np pcap) ≠ some P) := row_ne (B := P) hblk hpr (by decide)
 have HGW : Hid (gw ≠ P /\ lH (.slice pa np pcap) ≠ some gw /\ w.cell? ⟨gw, 0, none⟩ = some (.int .i64 0)) := by
  obtain ⟨cur, hcw⟩ := hwt
  exact ⟨fun e => type_ne hcw hblk (by decide) e, row_ne (B := gw) hcw hpr (by decide), hw0⟩
 have hnpb : np <= 900000 := by omega
 have HNP : Hid (np <= c) := hnp
 clear h hwv hgl hlc hpr hcl hpi hpvE hblk hw0 hwt hnp
 go_enter Tryz.func150, Tryz.ntmps150
 go_wp2_with fail
 refine (HO1.out _ (Ext.refl _)).mono ?_
 rintro e w1 ⟨g1, cap1, rfl, hown1, hx1⟩
 have HW1 : Hid (w1.ownsRow w.heap.size 95 1 (.slice (some ⟨g1, 0, none⟩) 1 cap1) 1 [.pointer (some ⟨q, 0, none⟩)]) := hown1
 have HX1 : Hid (Ext w w1) := hx1
 have hb1 := hx1.block HB.out
 have d1 : w1.cell? ⟨P, 1, none⟩ = some (.slice (some ⟨gl, 0, none⟩) 1 lcap) := cell_at hb1 rfl
 have e1 := frozen_row hb1 1
 have HB1 : Hid _ := hb1
 have hPl1 := lG w1 _ d1
 clear hown1 hx1 hb1 c1 f1 HO1
 go_wp2_with fail
 have HB2 : Hid ((w1.setCell ⟨P, 1, none⟩ (.slice (some ⟨g1, 0, none⟩) 1 cap1)).heap[P]? = some (.cells #[.pointer (some ⟨B, 0, none⟩), .slice (some ⟨g1, 0, none⟩) 1 cap1, .slice none 0 0, v.ov, .slice pa np pcap, .bool false, .int .i64 0, v.bW, v.bS, v.bL, v.bO] 94 (0, 0))) := setCell_row HB1.out _
 have HT2 : Hid (Turn (fun b => b = P \/ lH (.slice pa np pcap) = some b) w (w1.setCell ⟨P, 1, none⟩ (.slice (some ⟨g1, 0, none⟩) 1 cap1))) := Turn.setCell (S := fun b => b = P \/ lH (.slice pa np pcap) = some b) (p := ⟨P, 1, none⟩) (Turn.of_ext HX1.out) (fun _ => .inl rfl) _
 have HW2 : Hid ((w1.setCell ⟨P, 1, none⟩ (.slice (some ⟨g1, 0, none⟩) 1 cap1)).cell? ⟨g1, 0, none⟩ = some (.pointer (some ⟨q, 0, none⟩)) /\ w.heap.size <= g1 /\ g1 < (w1.setCell ⟨P, 1, none⟩ (.slice (some ⟨g1, 0, none⟩) 1 cap1)).heap.size) := by
  have hg := World.ownsRow.lt HW1.out g1 rfl
  exact ⟨(World.cell?_setCell_far w1 ⟨P, 1, none⟩ ⟨g1, 0, none⟩ _ (by show P ≠ g1; omega)).trans (owns_cell HW1.out rfl), hg.1, by simpa using hg.2⟩
 have HP2 : Hid ((w1.setCell ⟨P, 1, none⟩ (.slice (some ⟨g1, 0, none⟩) 1 cap1)).ownsRow 0 100 4 (.slice pa np pcap) np css.flatten) := owns_setCell (HX1.out.owns HPR.out) HPP.out _
 generalize World.setCell w1 _ _ = W at HB2 HT2 HW2 HP2 ⊢
 go_loopw [4] (fun at_ wr => ∃ (j : Nat) (cs' : List (List Value)), j <= np /\ at_ = .int .i64 (j : Int) /\ wr.heap[P]? = some (.cells #[.pointer (some ⟨B, 0, none⟩), .slice (some ⟨g1, 0, none⟩) 1 cap1, .slice none 0 0, v.ov, .slice pa np pcap, .bool false, .int .i64 0, v.bW, v.bS, v.bL, v.bO] 94 (0, 0)) /\ wr.ownsRow 0 100 4 (.slice pa np pcap) np cs'.flatten /\ cs'.length = np /\ (∀ cc ∈ cs', PartIs wr (fun b => G b \/ w.heap.size <= b /\ b < wr.heap.size) cc) /\ Turn (fun b => b = P \/ lH (.slice pa np pcap) = some b) w wr /\ wr.cell? ⟨g1, 0, none⟩ = some (.pointer (some ⟨q, 0, none⟩)) /\ g1 < wr.heap.size) (fun at_ _ => np - (intOf at_).toNat)
 case atStart =>
  refine ⟨0, css, Nat.zero_le _, rfl, HB2.out, HP2.out, HPI.out.1, fun cc hcc => ((HPI.out.2 cc hcc).turn HT2.out (fun b hb hor => ?_)).mono (fun b hb => .inl hb), HT2.out, HW2.out.1, HW2.out.2.2⟩
  rcases hor with e | e
  ·exact H.out.apart b (.inl e) hb
  ·exact H.out.apart b (.inr (.inl (by rw [HPV.out]; exact e))) hb
 case round =>
  obtain ⟨j, cs', hj, rfl, hb, hpr, hcl, hpi, ht, hg1, hg1l⟩ := hrel
  have HBr : Hid (wr.heap[P]? = some (.cells #[.pointer (some ⟨B, 0, none⟩), .slice (some ⟨g1, 0, none⟩) 1 cap1, .slice none 0 0, v.ov, .slice pa np pcap, .bool false, .int .i64 0, v.bW, v.bS, v.bL, v.bO] 94 (0, 0))) := hb
  have HPr : Hid (wr.ownsRow 0 100 4 (.slice pa np pcap) np cs'.flatten) := hpr
  have HPi : Hid (cs'.length = np /\ ∀ cc ∈ cs', PartIs wr (fun b => G b \/ w.heap.size <= b /\ b < wr.heap.size) cc) := ⟨hcl, hpi⟩
  have HTr : Hid (Turn (fun b => b = P \/ lH (.slice pa np pcap) = some b) w wr) := ht
  have HG1 : Hid (wr.cell? ⟨g1, 0, none⟩ = some (.pointer (some ⟨q, 0, none⟩)) /\ g1 < wr.heap.size) := ⟨hg1, hg1l⟩
  have d4 : wr.cell? ⟨P, 4, none⟩ = some (.slice pa np pcap) := cell_at hb rfl
  have hPlr := lG wr _ d4
  have hwr := ht.size
  by_cases hlt : j < np
  ·obtain ⟨pg, rfl⟩ : ∃ g, pa = some ⟨g, 0, none⟩ := by
    rcases owns_form hpr with ⟨_, h2, _⟩ | ⟨g, c, h1, _⟩
    ·omega
    ·injection h1 with e1 _ _
     exact ⟨g, e1⟩
   have hjl : j < cs'.length := by omega
   have H4 : Hid (∀ cc ∈ cs', cc.length = 4) := fun cc hcc => by
    obtain ⟨_, _, _, _, _, e, _⟩ := hpi cc hcc
    rw [e]; rfl
   obtain ⟨pf, pt, pw, pd, pq, hcs, gj, cj, rfl, hgj, hcj⟩ := hpi cs'[j] (List.getElem_mem hjl)
   have hcsj : cs'[j]? = some [.int .i64 pf, .int .i64 pt, .slice (some ⟨gj, 0, none⟩) 1 cj, .bool pd] := by rw [List.getElem?_eq_getElem hjl, hcs]
   have dw : wr.cell? ⟨pg, j * 4 + 2, none⟩ = some (.slice (some ⟨gj, 0, none⟩) 1 cj) := owns_cell hpr ((flatN_at H4.out j 2 (by omega) hcsj).trans rfl)
   have fw : wr.frozen? ⟨pg, j * 4 + 2, none⟩ = false := by
    obtain ⟨cur, hcu⟩ := owns_block hpr (g := pg) rfl
    exact frozen_row hcu _
   have hgwr : wr.cell? ⟨gw, 0, none⟩ = some (.int .i64 0) := ht.cell HGW.out.2.2 (fun hor => hor.elim (fun e => HGW.out.1 e) (fun e => HGW.out.2.1 e))
   have HCJ : Hid (cs'[j]? = some [.int .i64 pf, .int .i64 pt, .slice (some ⟨gj, 0, none⟩) 1 cj, .bool pd]) := hcsj
   have HOJ : Hid (∀ w', Ext wr w' -> _) := fun w' hx => only_c gj gw 1 cj cw (.pointer (some ⟨pq, 0, none⟩)) rfl (Nat.le_refl _) w' (hx.cell hcj) (hx.cell hgwr) ⟨_, rfl⟩
   have hk0 : (0 : Int) <= (j : Int) := by omega
   have hk1 : (j : Int) < np := by omega
   have hpgl := lG wr _ dw
   have hpgP : pg ≠ P := fun e => HPP.out (by rw [e]; rfl)
   clear hb hpr hcl hpi ht hg1 hg1l hcs hgj hcj hcsj hgwr
   go_wp2_with fail
   refine wp_region_held_drew (S := (fun w' => w'.cell? ⟨P, 4, none⟩ = some (.slice (some ⟨pg, 0, none⟩) np pcap))) (by kernel_rfl) d4 (fun hHeld => ?_)
   refine wpAnyH_take (i := 0) (oi := _) (v := ?v0) rfl (by kernel_rfl) (by kernel_rfl) (by kernel_rfl) (fun _ _ _ h => h) (Or.inl ⟨by rfl, ?hy⟩) hHeld ?_
   case hy => (intro w hSw; (try dsimp only at hSw); go_simp; try with_reducible rfl)
   try simp only [Act.put, lA, lC, lD, lE, lF]
   refine wpAnyH_take (i := 1) (oi := _) (v := ?v1) rfl (by kernel_rfl) (by kernel_rfl) (by kernel_rfl) (fun _ _ _ h => h) (Or.inl ⟨by rfl, ?hy⟩) hHeld ?_
   case hy => (intro w hSw; (try dsimp only at hSw); go_simp; try with_reducible rfl)
   try simp only [Act.put, lA, lB, lC, lD, lE, lF]
   refine wpAnyH_take (i := 2) (oi := _) (v := ?v2) rfl (by kernel_rfl) (by kernel_rfl) (by kernel_rfl) (fun _ _ _ h => h) (Or.inl ⟨by rfl, ?hy⟩) hHeld ?_
   case hy => (intro w hSw; (try dsimp only at hSw); go_simp; try with_reducible rfl)
   try simp only [Act.put, lA, lB, lC, lD, lE, lF]
   refine wpAnyH_take (i := 3) (oi := _) (v := ?v3) rfl (by kernel_rfl) (by kernel_rfl) (by kernel_rfl) (fun _ _ _ h => h) (Or.inl ⟨by rfl, ?hy⟩) hHeld ?_
   case hy => (intro w hSw; (try dsimp only at hSw); go_simp; try with_reducible rfl)
   try simp only [Act.put, lA, lB, lC, lD, lE, lF]
   refine wpAnyH_take (i := 4) (oi := _) (v := ?v4) rfl (by kernel_rfl) (by kernel_rfl) (by kernel_rfl) (fun _ _ _ h => h) (Or.inl ⟨by rfl, ?hy⟩) hHeld ?_
   case hy => (intro w hSw; (try dsimp only at hSw); go_simp; try with_reducible rfl)
   try simp only [Act.put, lA, lB, lC, lD, lE, lF]
   refine wpAnyH_take (i := 5) (oi := _) (v := ?v5) rfl (by kernel_rfl) (by kernel_rfl) (by kernel_rfl) (fun _ _ _ h => h) (Or.inl ⟨by rfl, ?hy⟩) hHeld ?_
   case hy => (intro w hSw; (try dsimp only at hSw); go_simp; try with_reducible rfl)
   try simp only [Act.put, lA, lB, lC, lD, lE, lF]
   refine wpAnyH_take (i := 6) (oi := _) (v := ?v6) rfl (by kernel_rfl) (by kernel_rfl) (by kernel_rfl) (fun _ _ _ h => h) (Or.inl ⟨by rfl, ?hy⟩) hHeld ?_
   case hy => (intro w hSw; (try dsimp only at hSw); go_simp; try with_reducible rfl)
   try simp only [Act.put, lA, lB, lC, lD, lE, lF]
   refine wpAnyH_take (i := 7) (oi := _) (v := ?v7) rfl (by kernel_rfl) (by kernel_rfl) (by kernel_rfl) (fun _ _ _ h => h) (Or.inl ⟨by rfl, ?hy⟩) hHeld ?_
   case hy => (intro w hSw; (try dsimp only at hSw); go_simp; try with_reducible rfl)
   try simp only [Act.put, lA, lB, lC, lD, lE, lF]
   refine wpAnyH_take (i := 8) (oi := _) (v := ?v8) rfl (by kernel_rfl) (by kernel_rfl) (by kernel_rfl) (fun _ _ _ h => h) (Or.inl ⟨by rfl, ?hy⟩) hHeld ?_
   case hy => (intro w hSw; (try dsimp only at hSw); go_simp; try with_reducible rfl)
   try simp only [Act.put, lA, lB, lC, lD, lE, lF]
   refine wpAnyH_take (i := 9) (oi := _) (v := ?v9) rfl (by kernel_rfl) (by kernel_rfl) (by kernel_rfl) (fun _ _ _ h => h) (Or.inl ⟨by rfl, ?hy⟩) hHeld ?_
   case hy => (intro w hSw; (try dsimp only at hSw); go_simp; try with_reducible rfl)
   try simp only [Act.put, lA, lB, lC, lD, lE, lF]
   refine wpAnyH_take (i := 10) (oi := _) (v := ?v10) rfl (by kernel_rfl) (by kernel_rfl) (by kernel_rfl) (fun _ _ _ h => h) (Or.inl ⟨by rfl, ?hy⟩) hHeld ?_
   case hy => (intro w hSw; (try dsimp only at hSw); go_simp; try with_reducible rfl)
   try simp only [Act.put, lA, lB, lC, lD, lE, lF]
   refine wpAnyH_take (i := 11) (oi := _) (v := ?v11) rfl (by kernel_rfl) (by kernel_rfl) (by kernel_rfl) (fun _ _ _ h => h) (Or.inl ⟨by rfl, ?hy⟩) hHeld ?_
   case hy => (intro w hSw; (try dsimp only at hSw); go_simp; try with_reducible rfl)
   try simp only [Act.put, lA, lB, lC, lD, lE, lF]
   refine wpAnyH_take (i := 13) (oi := _) (v := ?v13) rfl (by kernel_rfl) (by kernel_rfl) (by kernel_rfl) (fun _ _ _ h => h) (Or.inl ⟨by rfl, ?hy⟩) hHeld ?_
   case hy => (intro w hSw; (try dsimp only at hSw); go_simp; try with_reducible rfl)
   try simp only [Act.put, lA, lB, lC, lD, lE, lF]
   try simp only [Act.put, lA, lB, lC, lD, lE, lF]
   refine wpAnyH_ready (rs := [12]) (by kernel_rfl) (by simp) ?_
   refine AllReadyH.cons (o := _) rfl (fun K hK => ?_) AllReadyH.nil
   (try simp only [lA, lB, lC])
   go_simp
   refine hK.out _ _ ?hs1 (fun hHeld => ?_)
   case hs1 => exact d4
   clear hK K
   try simp only [Act.put, lA, lB, lC, lD, lE, lF]
   refine wpAnyH_ready (rs := [14]) (by kernel_rfl) (by simp) ?_
   refine AllReadyH.cons (o := _) rfl (fun K hK => ?_) AllReadyH.nil
   (try simp only [lA, lB, lC])
   go_simp
   refine (HOJ.out _ (Ext.drew (Ext.refl _))).mono ?_
   rintro e w3 ⟨g3, cap3, rfl, hown3, hx3⟩
   have HX3 : Hid (Ext wr w3) := (Ext.drew (Ext.refl wr)).trans hx3
   have HO3 : Hid (w3.ownsRow wr.heap.size 95 1 (.slice (some ⟨g3, 0, none⟩) 1 cap3) 1 [.pointer (some ⟨pq, 0, none⟩)]) := hown3
   have d4 := HX3.out.cell d4
   have dw := HX3.out.cell dw
   have fw : w3.frozen? ⟨pg, j * 4 + 2, none⟩ = false := by
    obtain ⟨cur, hcu⟩ := owns_block (HX3.out.owns HPr.out) (g := pg) rfl
    exact frozen_row hcu _
   have hpg3 := lG w3 _ dw
   clear hown3 hx3
   refine hK.out _ _ ?hs2 (fun hHeld => ?_)
   case hs2 => exact d4
   clear hK K
   try simp only [Act.put, lA, lB, lC, lD, lE, lF]
   refine wpAnyH_take (i := 15) (oi := _) (v := ?v15) rfl (by kernel_rfl) (by kernel_rfl) (by kernel_rfl) (fun _ _ _ h => h) (Or.inl ⟨by rfl, ?hy⟩) hHeld ?_
   case hy => (intro w hSw; (try dsimp only at hSw); go_simp; try with_reducible rfl)
   try simp only [Act.put, lA, lB, lC, lD, lE, lF]
   refine wpAnyH_take (i := 16) (oi := _) (v := ?v16) rfl (by kernel_rfl) (by kernel_rfl) (by kernel_rfl) (fun _ _ _ h => h) (Or.inl ⟨by rfl, ?hy⟩) hHeld ?_
   case hy => (intro w hSw; (try dsimp only at hSw); go_simp; try with_reducible rfl)
   try simp only [Act.put, lA, lB, lC, lD, lE, lF]
   refine wpAnyH_ready (rs := [17]) (by kernel_rfl) (by simp) ?_
   refine AllReadyH.cons (o := _) rfl (fun K hK => ?_) AllReadyH.nil
   (try simp only [lA, lB, lC])
   go_simp
   refine hK.out _ _ ?hs3 (fun hHeld => ?_)
   case hs3 => exact (World.cell?_setCell_far w3 ⟨pg, j * 4 + 2, none⟩ ⟨P, 4, none⟩ _ hpgP).trans d4
   clear hK K
   try simp only [Act.put, lA, lB, lC, lD, lE, lF]
   refine wpAnyH_done (by kernel_rfl) ?_ _
   go_wp2
   go_roundw
   case rel =>
    have hT : Turn (fun b => b = P \/ lH (.slice (some ⟨pg, 0, none⟩) np pcap) = some b) wr (w3.setCell ⟨pg, j * 4 + 2, none⟩ (.slice (some ⟨g3, 0, none⟩) 1 cap3)) := Turn.setCell (S := fun b => b = P \/ lH (.slice (some ⟨pg, 0, none⟩) np pcap) = some b) (p := ⟨pg, j * 4 + 2, none⟩) (Turn.of_ext HX3.out) (fun _ => .inr rfl) _
    have hbb : (w3.setCell ⟨pg, j * 4 + 2, none⟩ (.slice (some ⟨g3, 0, none⟩) 1 cap3)).heap[P]? = some (.cells #[.pointer (some ⟨B, 0, none⟩), .slice (some ⟨g1, 0, none⟩) 1 cap1, .slice none 0 0, v.ov, .slice (some ⟨pg, 0, none⟩) np pcap, .bool false, .int .i64 0, v.bW, v.bS, v.bL, v.bO] 94 (0, 0)) := (Turn.setCell (S := fun b => b = pg) (p := ⟨pg, j * 4 + 2, none⟩) (Turn.refl _ w3) (fun _ => rfl) _).ref (HX3.out.block HBr.out) (fun e => hpgP e.symm)
    have hoo := owns_set (HX3.out.owns HPr.out) (j * 4 + 2) (.slice (some ⟨g3, 0, none⟩) 1 cap3)
    rw [<- flatN_set H4.out j 2 (by omega) HCJ.out] at hoo
    have hg3 := World.ownsRow.lt HO3.out g3 rfl
    have hpgw := owns_lt HPr.out (g := pg) rfl
    have hc3 : (w3.setCell ⟨pg, j * 4 + 2, none⟩ (.slice (some ⟨g3, 0, none⟩) 1 cap3)).cell? ⟨g3, 0, none⟩ = some (.pointer (some ⟨pq, 0, none⟩)) := (World.cell?_setCell_far w3 ⟨pg, j * 4 + 2, none⟩ ⟨g3, 0, none⟩ _ (by show pg ≠ g3; omega)).trans (owns_cell HO3.out rfl)
    have hwsz := HTr.out.size
    have hsz3 : (w3.setCell ⟨pg, j * 4 + 2, none⟩ (.slice (some ⟨g3, 0, none⟩) 1 cap3)).heap.size = w3.heap.size := by simp
    have hx3l := HX3.out.le
    have hpgold : pg < w.heap.size := owns_lt HPR.out (g := pg) rfl
    refine ⟨j + 1, cs'.set j ([.int .i64 pf, .int .i64 pt, .slice (some ⟨gj, 0, none⟩) 1 cj, .bool pd].set 2 (.slice (some ⟨g3, 0, none⟩) 1 cap3)), by omega, by go_num, hbb, hoo, by rw [List.length_set]; exact HPi.out.1, fun cc hcc => ?_, HTr.out.trans hT, ?_, by have := HG1.out.2; omega⟩
    ·rcases List.mem_or_eq_of_mem_set hcc with hcc | hcc
     ·refine ((HPi.out.2 cc hcc).turn hT (fun b hb hor => ?_)).mono (fun b hb => hb.imp id (fun e => ⟨e.1, by omega⟩))
      rcases hb with hb | hb
      ·rcases hor with e | e
       ·exact H.out.apart b (.inl e) hb
       ·exact H.out.apart b (.inr (.inl (by rw [HPV.out]; exact e))) hb
      ·rcases hor with e | e
       ·omega
       ·have := owns_lt HPR.out e
        omega
     ·rw [hcc]
      exact ⟨pf, pt, .slice (some ⟨g3, 0, none⟩) 1 cap3, pd, pq, rfl, g3, cap3, rfl, .inr ⟨by omega, by omega⟩, hc3⟩
    ·refine hT.cell HG1.out.1 (fun hor => ?_)
     have := HW2.out.2.1
     rcases hor with e | e
     ·simp only at e; omega
     ·have := owns_lt HPR.out e
      simp only at this; omega
   case measure => simp [intOf]; omega
  ·obtain rfl : j = np := by omega
   clear hb hpr hcl hpi ht hg1 hg1l hlt hj
   go_wp2
   go_end0
   have hT : Turn (fun b => b = P \/ v.pv.ownBlock = some b) w wr := by rw [HPV.out]; exact HTr.out
   have hfin := H.out.upd (G' := fun b => G b \/ w.heap.size <= b /\ b < wr.heap.size) (wv' := .slice (some ⟨g1, 0, none⟩) 1 cap1) (pv' := .slice pa j pcap) (q' := q) (c' := c) (np' := j) (S' := S) (ls' := ls) hT HBr.out (fun b hb => .inl hb) (fun b hb => hb.imp id (fun e => ⟨e.1, e.2, fun e2 => by have := owns_lt HPR.out e2; omega⟩)) ⟨g1, cap1, rfl, .inr ⟨HW2.out.2.1, HG1.out.2⟩, HG1.out.1⟩ ((H.out.ref.turn hT (fun b hb hor => hor.elim (fun e => H.out.apart b (.inl e) hb) (fun e => H.out.apart b (.inr (.inl e)) hb))).mono (fun b hb => .inl hb)) ⟨cs', HPr.out, HPi.out.1, HPi.out.2⟩ HNP.out (Nat.le_refl _) (fun b hb => .inl (by rw [HPV.out]; exact hb))
   exact ⟨rfl, _, _, hfin.1, hfin.2⟩
end
end
end Go.Proofs.YtmnjhhachdlmkaaGreat
