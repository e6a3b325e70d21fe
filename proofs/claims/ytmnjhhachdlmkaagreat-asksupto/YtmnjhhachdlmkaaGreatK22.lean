import Derived.Test.YtmnjhhachdlmkaaGreatK21
namespace Go.Proofs.YtmnjhhachdlmkaaGreat
open World renaming block_lt_of_cell? -> lG
open Value renaming ownBlock -> lH
-- JGk
section
open Go.RowKit Go.Maps
section
variable {w : World} {P B q c : Nat} {G : Nat -> Prop} {v : GV} {S : List Stk} {ls : List LsV} {ops : List OpV}
theorem gkeepWords_c (h : GameOf w P B G v q S ls ops c) (hc : c <= 900000) (base : Nat) (la : Option Addr) (n lcap : Nat) (xs : List Value) (hn : n <= 100000000) (ho : w.ownsRow base 146 1 (.slice la n lcap) n xs) (hbw : base <= w.heap.size) (hGl : ∀ q, lH (.slice la n lcap) = some q -> ¬ G q) (X : Nat -> Prop) (hX : ∀ b, (lH (.slice la n lcap) = some b \/ w.heap.size <= b) -> X b) :
  Calls Tryz.prog 106 #[.pointer (some ⟨P, 7, none⟩), .slice la n lcap] w fun e w' => e = .returned (.tuple #[]) /\ ∃ bv' G', GameOf w' P B G' { v with bW := bv' } q S ls ops (c + 1) /\ GStep X w w' P v { v with bW := bv' } G G' := by
 obtain ⟨npv, hnpv, hrpv⟩ := h.prow
 have opv := hrpv
 obtain ⟨csspv, opv, _⟩ := opv
 obtain ⟨nbW, hnbW, hrbW⟩ := h.bW
 have obW := hrbW
 obtain ⟨vsbW, obW, _⟩ := obW
 obtain ⟨nbS, hnbS, hrbS⟩ := h.bS
 have obS := hrbS
 obtain ⟨vsbS, obS, _⟩ := obS
 obtain ⟨nbL, hnbL, hrbL⟩ := h.bL
 have obL := hrbL
 obtain ⟨vsbL, obL, _⟩ := obL
 obtain ⟨nbO, hnbO, hrbO⟩ := h.bO
 have obO := hrbO
 obtain ⟨vsbO, obO, _⟩ := obO
 refine (keepWords_c P nbW base (gcells B v) rfl v.bW rfl la n lcap xs (by omega) hn w h.blk hrbW ho hGl (fun b hb => h.apart b (.inr (.inr (.inl hb)))) h.ltG (h.apart P (.inl rfl)) hbw).mono ?_
 rintro e w' ⟨rfl, bv', hP', ⟨G', hsub, hnew, hbv, hGP, hbk⟩, hbo, ht⟩
 have hGt : ∀ b, G b -> ¬ (b = P \/ v.bW.ownBlock = some b \/ lH (.slice la n lcap) = some b) := fun b hb hor => by
  rcases hor with e | e | e
  ·exact h.apart b (.inl e) hb
  ·exact h.apart b (.inr (.inr (.inl e))) hb
  ·exact hGl b e hb
 have fpv : ∀ b, v.pv.ownBlock = some b -> ¬ (b = P \/ v.bW.ownBlock = some b \/ lH (.slice la n lcap) = some b) := fun b hb hor => by
  obtain ⟨cur, hcur⟩ := owns_block opv hb
  rcases hor with e | e | e
  ·exact type_ne hcur h.blk (by decide) e
  ·obtain ⟨cur2, hc2⟩ := owns_block obW e
   exact type_ne hcur hc2 (by decide) rfl
  ·obtain ⟨cur2, hc2⟩ := owns_block ho e
   exact type_ne hcur hc2 (by decide) rfl
 have apv : ∀ b, v.pv.ownBlock = some b -> ¬ G' b := fun b hb hg => by
  rcases hnew b hg with e | e | e
  ·exact h.apart b (.inr (.inl hb)) e
  ·exact fpv b hb (.inr (.inr e))
  ·have := owns_lt opv hb
   omega
 have fbS : ∀ b, v.bS.ownBlock = some b -> ¬ (b = P \/ v.bW.ownBlock = some b \/ lH (.slice la n lcap) = some b) := fun b hb hor => by
  obtain ⟨cur, hcur⟩ := owns_block obS hb
  rcases hor with e | e | e
  ·exact type_ne hcur h.blk (by decide) e
  ·obtain ⟨cur2, hc2⟩ := owns_block obW e
   exact type_ne hcur hc2 (by decide) rfl
  ·obtain ⟨cur2, hc2⟩ := owns_block ho e
   exact type_ne hcur hc2 (by decide) rfl
 have abS : ∀ b, v.bS.ownBlock = some b -> ¬ G' b := fun b hb hg => by
  rcases hnew b hg with e | e | e
  ·exact h.apart b (.inr (.inr (.inr (.inl hb)))) e
  ·exact fbS b hb (.inr (.inr e))
  ·have := owns_lt obS hb
   omega
 have fbL : ∀ b, v.bL.ownBlock = some b -> ¬ (b = P \/ v.bW.ownBlock = some b \/ lH (.slice la n lcap) = some b) := fun b hb hor => by
  obtain ⟨cur, hcur⟩ := owns_block obL hb
  rcases hor with e | e | e
  ·exact type_ne hcur h.blk (by decide) e
  ·obtain ⟨cur2, hc2⟩ := owns_block obW e
   exact type_ne hcur hc2 (by decide) rfl
  ·obtain ⟨cur2, hc2⟩ := owns_block ho e
   exact type_ne hcur hc2 (by decide) rfl
 have abL : ∀ b, v.bL.ownBlock = some b -> ¬ G' b := fun b hb hg => by
  rcases hnew b hg with e | e | e
  ·exact h.apart b (.inr (.inr (.inr (.inr (.inl hb))))) e
  ·exact fbL b hb (.inr (.inr e))
  ·have := owns_lt obL hb
   omega
 have fbO : ∀ b, v.bO.ownBlock = some b -> ¬ (b = P \/ v.bW.ownBlock = some b \/ lH (.slice la n lcap) = some b) := fun b hb hor => by
  obtain ⟨cur, hcur⟩ := owns_block obO hb
  rcases hor with e | e | e
  ·exact type_ne hcur h.blk (by decide) e
  ·obtain ⟨cur2, hc2⟩ := owns_block obW e
   exact type_ne hcur hc2 (by decide) rfl
  ·obtain ⟨cur2, hc2⟩ := owns_block ho e
   exact type_ne hcur hc2 (by decide) rfl
 have abO : ∀ b, v.bO.ownBlock = some b -> ¬ G' b := fun b hb hg => by
  rcases hnew b hg with e | e | e
  ·exact h.apart b (.inr (.inr (.inr (.inr (.inr hb))))) e
  ·exact fbO b hb (.inr (.inr e))
  ·have := owns_lt obO hb
   omega
 refine ⟨rfl, bv', G', ⟨hP', (h.wrow.turn ht hGt).mono hsub, (h.ref.turn ht hGt).mono hsub, (h.orow.turn ht hGt).mono hsub, ⟨npv, by omega, (hrpv.turn ht hGt fpv).mono hsub⟩, ⟨nbW + 1, by omega, hbk⟩, ⟨nbS, by omega, (hrbS.turn ht hGt fbS).mono hsub⟩, ⟨nbL, by omega, (hrbL.turn ht hGt fbL).mono hsub⟩, ⟨nbO, by omega, (hrbO.turn ht hGt fbO).mono hsub⟩, fun b hb => ?_, fun b hb => ?_⟩, ⟨ht.mono (fun b _ hb => ?_), hsub, fun b hb => ?_, fun b hb => ?_⟩⟩
 ·rcases hnew b hb with e | e | e
  ·exact Nat.lt_of_lt_of_le (h.ltG b e) ht.size
  ·exact Nat.lt_of_lt_of_le (owns_lt ho e) ht.size
  ·exact e.2
 ·rcases hb with e | e | e | e | e | e
  ·rw [e]; exact hGP
  ·exact apv b e
  ·exact hbv b e
  ·exact abS b e
  ·exact abL b e
  ·exact abO b e
 ·rcases hb with e | e | e
  ·exact .inl (.inl e)
  ·exact .inl (.inr (.inr (.inl e)))
  ·exact .inr (hX b (.inl e))
 ·rcases hnew b hb with e | e | e
  ·exact .inl e
  ·exact .inr (hX b (.inl e))
  ·exact .inr (hX b (.inr e.1))
 ·rcases hb with e | e | e | e | e | e
  ·exact .inl (.inl e)
  ·exact .inl (.inr (.inl e))
  ·exact (hbo b e).elim (fun e => .inl (.inr (.inr (.inl e)))) (fun e => .inr (hX b (.inr e)))
  ·exact .inl (.inr (.inr (.inr (.inl e))))
  ·exact .inl (.inr (.inr (.inr (.inr (.inl e)))))
  ·exact .inl (.inr (.inr (.inr (.inr (.inr e)))))
theorem gkeepStocks_c (h : GameOf w P B G v q S ls ops c) (hc : c <= 900000) (base : Nat) (la : Option Addr) (n lcap : Nat) (xs : List Value) (hn : n <= 100000000) (ho : w.ownsRow base 116 7 (.slice la n lcap) n xs) (hbw : base <= w.heap.size) (hGl : ∀ q, lH (.slice la n lcap) = some q -> ¬ G q) (X : Nat -> Prop) (hX : ∀ b, (lH (.slice la n lcap) = some b \/ w.heap.size <= b) -> X b) :
  Calls Tryz.prog 78 #[.pointer (some ⟨P, 7, none⟩), .slice la n lcap] w fun e w' => e = .returned (.tuple #[]) /\ ∃ bv' G', GameOf w' P B G' { v with bS := bv' } q S ls ops (c + 1) /\ GStep X w w' P v { v with bS := bv' } G G' := by
 obtain ⟨npv, hnpv, hrpv⟩ := h.prow
 have opv := hrpv
 obtain ⟨csspv, opv, _⟩ := opv
 obtain ⟨nbW, hnbW, hrbW⟩ := h.bW
 have obW := hrbW
 obtain ⟨vsbW, obW, _⟩ := obW
 obtain ⟨nbS, hnbS, hrbS⟩ := h.bS
 have obS := hrbS
 obtain ⟨vsbS, obS, _⟩ := obS
 obtain ⟨nbL, hnbL, hrbL⟩ := h.bL
 have obL := hrbL
 obtain ⟨vsbL, obL, _⟩ := obL
 obtain ⟨nbO, hnbO, hrbO⟩ := h.bO
 have obO := hrbO
 obtain ⟨vsbO, obO, _⟩ := obO
 refine (keepStocks_c P nbS base (gcells B v) rfl v.bS rfl la n lcap xs (by omega) hn w h.blk hrbS ho hGl (fun b hb => h.apart b (.inr (.inr (.inr (.inl hb))))) h.ltG (h.apart P (.inl rfl)) hbw).mono ?_
 rintro e w' ⟨rfl, bv', hP', ⟨G', hsub, hnew, hbv, hGP, hbk⟩, hbo, ht⟩
 have hGt : ∀ b, G b -> ¬ (b = P \/ v.bS.ownBlock = some b \/ lH (.slice la n lcap) = some b) := fun b hb hor => by
  rcases hor with e | e | e
  ·exact h.apart b (.inl e) hb
  ·exact h.apart b (.inr (.inr (.inr (.inl e)))) hb
  ·exact hGl b e hb
 have fpv : ∀ b, v.pv.ownBlock = some b -> ¬ (b = P \/ v.bS.ownBlock = some b \/ lH (.slice la n lcap) = some b) := fun b hb hor => by
  obtain ⟨cur, hcur⟩ := owns_block opv hb
  rcases hor with e | e | e
  ·exact type_ne hcur h.blk (by decide) e
  ·obtain ⟨cur2, hc2⟩ := owns_block obS e
   exact type_ne hcur hc2 (by decide) rfl
  ·obtain ⟨cur2, hc2⟩ := owns_block ho e
   exact type_ne hcur hc2 (by decide) rfl
 have apv : ∀ b, v.pv.ownBlock = some b -> ¬ G' b := fun b hb hg => by
  rcases hnew b hg with e | e | e
  ·exact h.apart b (.inr (.inl hb)) e
  ·exact fpv b hb (.inr (.inr e))
  ·have := owns_lt opv hb
   omega
 have fbW : ∀ b, v.bW.ownBlock = some b -> ¬ (b = P \/ v.bS.ownBlock = some b \/ lH (.slice la n lcap) = some b) := fun b hb hor => by
  obtain ⟨cur, hcur⟩ := owns_block obW hb
  rcases hor with e | e | e
  ·exact type_ne hcur h.blk (by decide) e
  ·obtain ⟨cur2, hc2⟩ := owns_block obS e
   exact type_ne hcur hc2 (by decide) rfl
  ·obtain ⟨cur2, hc2⟩ := owns_block ho e
   exact type_ne hcur hc2 (by decide) rfl
 have abW : ∀ b, v.bW.ownBlock = some b -> ¬ G' b := fun b hb hg => by
  rcases hnew b hg with e | e | e
  ·exact h.apart b (.inr (.inr (.inl hb))) e
  ·exact fbW b hb (.inr (.inr e))
  ·have := owns_lt obW hb
   omega
 have fbL : ∀ b, v.bL.ownBlock = some b -> ¬ (b = P \/ v.bS.ownBlock = some b \/ lH (.slice la n lcap) = some b) := fun b hb hor => by
  obtain ⟨cur, hcur⟩ := owns_block obL hb
  rcases hor with e | e | e
  ·exact type_ne hcur h.blk (by decide) e
  ·obtain ⟨cur2, hc2⟩ := owns_block obS e
   exact type_ne hcur hc2 (by decide) rfl
  ·obtain ⟨cur2, hc2⟩ := owns_block ho e
   exact type_ne hcur hc2 (by decide) rfl
 have abL : ∀ b, v.bL.ownBlock = some b -> ¬ G' b := fun b hb hg => by
  rcases hnew b hg with e | e | e
  ·exact h.apart b (.inr (.inr (.inr (.inr (.inl hb))))) e
  ·exact fbL b hb (.inr (.inr e))
  ·have := owns_lt obL hb
   omega
 have fbO : ∀ b, v.bO.ownBlock = some b -> ¬ (b = P \/ v.bS.ownBlock = some b \/ lH (.slice la n lcap) = some b) := fun b hb hor => by
  obtain ⟨cur, hcur⟩ := owns_block obO hb
  rcases hor with e | e | e
  ·exact type_ne hcur h.blk (by decide) e
  ·obtain ⟨cur2, hc2⟩ := owns_block obS e
   exact type_ne hcur hc2 (by decide) rfl
  ·obtain ⟨cur2, hc2⟩ := owns_block ho e
   exact type_ne hcur hc2 (by decide) rfl
 have abO : ∀ b, v.bO.ownBlock = some b -> ¬ G' b := fun b hb hg => by
  rcases hnew b hg with e | e | e
  ·exact h.apart b (.inr (.inr (.inr (.inr (.inr hb))))) e
  ·exact fbO b hb (.inr (.inr e))
  ·have := owns_lt obO hb
   omega
 refine ⟨rfl, bv', G', ⟨hP', (h.wrow.turn ht hGt).mono hsub, (h.ref.turn ht hGt).mono hsub, (h.orow.turn ht hGt).mono hsub, ⟨npv, by omega, (hrpv.turn ht hGt fpv).mono hsub⟩, ⟨nbW, by omega, (hrbW.turn ht hGt fbW).mono hsub⟩, ⟨nbS + 1, by omega, hbk⟩, ⟨nbL, by omega, (hrbL.turn ht hGt fbL).mono hsub⟩, ⟨nbO, by omega, (hrbO.turn ht hGt fbO).mono hsub⟩, fun b hb => ?_, fun b hb => ?_⟩, ⟨ht.mono (fun b _ hb => ?_), hsub, fun b hb => ?_, fun b hb => ?_⟩⟩
 ·rcases hnew b hb with e | e | e
  ·exact Nat.lt_of_lt_of_le (h.ltG b e) ht.size
  ·exact Nat.lt_of_lt_of_le (owns_lt ho e) ht.size
  ·exact e.2
 ·rcases hb with e | e | e | e | e | e
  ·rw [e]; exact hGP
  ·exact apv b e
  ·exact abW b e
  ·exact hbv b e
  ·exact abL b e
  ·exact abO b e
 ·rcases hb with e | e | e
  ·exact .inl (.inl e)
  ·exact .inl (.inr (.inr (.inr (.inl e))))
  ·exact .inr (hX b (.inl e))
 ·rcases hnew b hb with e | e | e
  ·exact .inl e
  ·exact .inr (hX b (.inl e))
  ·exact .inr (hX b (.inr e.1))
 ·rcases hb with e | e | e | e | e | e
  ·exact .inl (.inl e)
  ·exact .inl (.inr (.inl e))
  ·exact .inl (.inr (.inr (.inl e)))
  ·exact (hbo b e).elim (fun e => .inl (.inr (.inr (.inr (.inl e))))) (fun e => .inr (hX b (.inr e)))
  ·exact .inl (.inr (.inr (.inr (.inr (.inl e)))))
  ·exact .inl (.inr (.inr (.inr (.inr (.inr e)))))
theorem gkeepLeases_c (h : GameOf w P B G v q S ls ops c) (hc : c <= 900000) (base : Nat) (la : Option Addr) (n lcap : Nat) (xs : List Value) (hn : n <= 100000000) (ho : w.ownsRow base 56 9 (.slice la n lcap) n xs) (hbw : base <= w.heap.size) (hGl : ∀ q, lH (.slice la n lcap) = some q -> ¬ G q) (X : Nat -> Prop) (hX : ∀ b, (lH (.slice la n lcap) = some b \/ w.heap.size <= b) -> X b) :
  Calls Tryz.prog 79 #[.pointer (some ⟨P, 7, none⟩), .slice la n lcap] w fun e w' => e = .returned (.tuple #[]) /\ ∃ bv' G', GameOf w' P B G' { v with bL := bv' } q S ls ops (c + 1) /\ GStep X w w' P v { v with bL := bv' } G G' := by
 obtain ⟨npv, hnpv, hrpv⟩ := h.prow
 have opv := hrpv
 obtain ⟨csspv, opv, _⟩ := opv
 obtain ⟨nbW, hnbW, hrbW⟩ := h.bW
 have obW := hrbW
 obtain ⟨vsbW, obW, _⟩ := obW
 obtain ⟨nbS, hnbS, hrbS⟩ := h.bS
 have obS := hrbS
 obtain ⟨vsbS, obS, _⟩ := obS
 obtain ⟨nbL, hnbL, hrbL⟩ := h.bL
 have obL := hrbL
 obtain ⟨vsbL, obL, _⟩ := obL
 obtain ⟨nbO, hnbO, hrbO⟩ := h.bO
 have obO := hrbO
 obtain ⟨vsbO, obO, _⟩ := obO
 refine (keepLeases_c P nbL base (gcells B v) rfl v.bL rfl la n lcap xs (by omega) hn w h.blk hrbL ho hGl (fun b hb => h.apart b (.inr (.inr (.inr (.inr (.inl hb)))))) h.ltG (h.apart P (.inl rfl)) hbw).mono ?_
 rintro e w' ⟨rfl, bv', hP', ⟨G', hsub, hnew, hbv, hGP, hbk⟩, hbo, ht⟩
 have hGt : ∀ b, G b -> ¬ (b = P \/ v.bL.ownBlock = some b \/ lH (.slice la n lcap) = some b) := fun b hb hor => by
  rcases hor with e | e | e
  ·exact h.apart b (.inl e) hb
  ·exact h.apart b (.inr (.inr (.inr (.inr (.inl e))))) hb
  ·exact hGl b e hb
 have fpv : ∀ b, v.pv.ownBlock = some b -> ¬ (b = P \/ v.bL.ownBlock = some b \/ lH (.slice la n lcap) = some b) := fun b hb hor => by
  obtain ⟨cur, hcur⟩ := owns_block opv hb
  rcases hor with e | e | e
  ·exact type_ne hcur h.blk (by decide) e
  ·obtain ⟨cur2, hc2⟩ := owns_block obL e
   exact type_ne hcur hc2 (by decide) rfl
  ·obtain ⟨cur2, hc2⟩ := owns_block ho e
   exact type_ne hcur hc2 (by decide) rfl
 have apv : ∀ b, v.pv.ownBlock = some b -> ¬ G' b := fun b hb hg => by
  rcases hnew b hg with e | e | e
  ·exact h.apart b (.inr (.inl hb)) e
  ·exact fpv b hb (.inr (.inr e))
  ·have := owns_lt opv hb
   omega
 have fbW : ∀ b, v.bW.ownBlock = some b -> ¬ (b = P \/ v.bL.ownBlock = some b \/ lH (.slice la n lcap) = some b) := fun b hb hor => by
  obtain ⟨cur, hcur⟩ := owns_block obW hb
  rcases hor with e | e | e
  ·exact type_ne hcur h.blk (by decide) e
  ·obtain ⟨cur2, hc2⟩ := owns_block obL e
   exact type_ne hcur hc2 (by decide) rfl
  ·obtain ⟨cur2, hc2⟩ := owns_block ho e
   exact type_ne hcur hc2 (by decide) rfl
 have abW : ∀ b, v.bW.ownBlock = some b -> ¬ G' b := fun b hb hg => by
  rcases hnew b hg with e | e | e
  ·exact h.apart b (.inr (.inr (.inl hb))) e
  ·exact fbW b hb (.inr (.inr e))
  ·have := owns_lt obW hb
   omega
 have fbS : ∀ b, v.bS.ownBlock = some b -> ¬ (b = P \/ v.bL.ownBlock = some b \/ lH (.slice la n lcap) = some b) := fun b hb hor => by
  obtain ⟨cur, hcur⟩ := owns_block obS hb
  rcases hor with e | e | e
  ·exact type_ne hcur h.blk (by decide) e
  ·obtain ⟨cur2, hc2⟩ := owns_block obL e
   exact type_ne hcur hc2 (by decide) rfl
  ·obtain ⟨cur2, hc2⟩ := owns_block ho e
   exact type_ne hcur hc2 (by decide) rfl
 have abS : ∀ b, v.bS.ownBlock = some b -> ¬ G' b := fun b hb hg => by
  rcases hnew b hg with e | e | e
  ·exact h.apart b (.inr (.inr (.inr (.inl hb)))) e
  ·exact fbS b hb (.inr (.inr e))
  ·have := owns_lt obS hb
   omega
 have fbO : ∀ b, v.bO.ownBlock = some b -> ¬ (b = P \/ v.bL.ownBlock = some b \/ lH (.slice la n lcap) = some b) := fun b hb hor => by
  obtain ⟨cur, hcur⟩ := owns_block obO hb
  rcases hor with e | e | e
  ·exact type_ne hcur h.blk (by decide) e
  ·obtain ⟨cur2, hc2⟩ := owns_block obL e
   exact type_ne hcur hc2 (by decide) rfl
  ·obtain ⟨cur2, hc2⟩ := owns_block ho e
   exact type_ne hcur hc2 (by decide) rfl
 have abO : ∀ b, v.bO.ownBlock = some b -> ¬ G' b := fun b hb hg => by
  rcases hnew b hg with e | e | e
  ·exact h.apart b (.inr (.inr (.inr (.inr (.inr hb))))) e
  ·exact fbO b hb (.inr (.inr e))
  ·have := owns_lt obO hb
   omega
 refine ⟨rfl, bv', G', ⟨hP', (h.wrow.turn ht hGt).mono hsub, (h.ref.turn ht hGt).mono hsub, (h.orow.turn ht hGt).mono hsub, ⟨npv, by omega, (hrpv.turn ht hGt fpv).mono hsub⟩, ⟨nbW, by omega, (hrbW.turn ht hGt fbW).mono hsub⟩, ⟨nbS, by omega, (hrbS.turn ht hGt fbS).mono hsub⟩, ⟨nbL + 1, by omega, hbk⟩, ⟨nbO, by omega, (hrbO.turn ht hGt fbO).mono hsub⟩, fun b hb => ?_, fun b hb => ?_⟩, ⟨ht.mono (fun b _ hb => ?_), hsub, fun b hb => ?_, fun b hb => ?_⟩⟩
 ·rcases hnew b hb with e | e | e
  ·exact Nat.lt_of_lt_of_le (h.ltG b e) ht.size
  ·exact Nat.lt_of_lt_of_le (owns_lt ho e) ht.size
  ·exact e.2
 ·rcases hb with e | e | e | e | e | e
  ·rw [e]; exact hGP
  ·exact apv b e
  ·exact abW b e
  ·exact abS b e
  ·exact hbv b e
  ·exact abO b e
 ·rcases hb with e | e | e
  ·exact .inl (.inl e)
  ·exact .inl (.inr (.inr (.inr (.inr (.inl e)))))
  ·exact .inr (hX b (.inl e))
 ·rcases hnew b hb with e | e | e
  ·exact .inl e
  ·exact .inr (hX b (.inl e))
  ·exact .inr (hX b (.inr e.1))
 ·rcases hb with e | e | e | e | e | e
  ·exact .inl (.inl e)
  ·exact .inl (.inr (.inl e))
  ·exact .inl (.inr (.inr (.inl e)))
  ·exact .inl (.inr (.inr (.inr (.inl e))))
  ·exact (hbo b e).elim (fun e => .inl (.inr (.inr (.inr (.inr (.inl e)))))) (fun e => .inr (hX b (.inr e)))
  ·exact .inl (.inr (.inr (.inr (.inr (.inr e)))))
theorem gkeepOps_c (h : GameOf w P B G v q S ls ops c) (hc : c <= 900000) (base : Nat) (la : Option Addr) (n lcap : Nat) (xs : List Value) (hn : n <= 100000000) (ho : w.ownsRow base 134 4 (.slice la n lcap) n xs) (hbw : base <= w.heap.size) (hGl : ∀ q, lH (.slice la n lcap) = some q -> ¬ G q) (X : Nat -> Prop) (hX : ∀ b, (lH (.slice la n lcap) = some b \/ w.heap.size <= b) -> X b) :
  Calls Tryz.prog 68 #[.pointer (some ⟨P, 7, none⟩), .slice la n lcap] w fun e w' => e = .returned (.tuple #[]) /\ ∃ bv' G', GameOf w' P B G' { v with bO := bv' } q S ls ops (c + 1) /\ GStep X w w' P v { v with bO := bv' } G G' := by
 obtain ⟨npv, hnpv, hrpv⟩ := h.prow
 have opv := hrpv
 obtain ⟨csspv, opv, _⟩ := opv
 obtain ⟨nbW, hnbW, hrbW⟩ := h.bW
 have obW := hrbW
 obtain ⟨vsbW, obW, _⟩ := obW
 obtain ⟨nbS, hnbS, hrbS⟩ := h.bS
 have obS := hrbS
 obtain ⟨vsbS, obS, _⟩ := obS
 obtain ⟨nbL, hnbL, hrbL⟩ := h.bL
 have obL := hrbL
 obtain ⟨vsbL, obL, _⟩ := obL
 obtain ⟨nbO, hnbO, hrbO⟩ := h.bO
 have obO := hrbO
 obtain ⟨vsbO, obO, _⟩ := obO
 refine (keepOps_c P nbO base (gcells B v) rfl v.bO rfl la n lcap xs (by omega) hn w h.blk hrbO ho hGl (fun b hb => h.apart b (.inr (.inr (.inr (.inr (.inr hb)))))) h.ltG (h.apart P (.inl rfl)) hbw).mono ?_
 rintro e w' ⟨rfl, bv', hP', ⟨G', hsub, hnew, hbv, hGP, hbk⟩, hbo, ht⟩
 have hGt : ∀ b, G b -> ¬ (b = P \/ v.bO.ownBlock = some b \/ lH (.slice la n lcap) = some b) := fun b hb hor => by
  rcases hor with e | e | e
  ·exact h.apart b (.inl e) hb
  ·exact h.apart b (.inr (.inr (.inr (.inr (.inr e))))) hb
  ·exact hGl b e hb
 have fpv : ∀ b, v.pv.ownBlock = some b -> ¬ (b = P \/ v.bO.ownBlock = some b \/ lH (.slice la n lcap) = some b) := fun b hb hor => by
  obtain ⟨cur, hcur⟩ := owns_block opv hb
  rcases hor with e | e | e
  ·exact type_ne hcur h.blk (by decide) e
  ·obtain ⟨cur2, hc2⟩ := owns_block obO e
   exact type_ne hcur hc2 (by decide) rfl
  ·obtain ⟨cur2, hc2⟩ := owns_block ho e
   exact type_ne hcur hc2 (by decide) rfl
 have apv : ∀ b, v.pv.ownBlock = some b -> ¬ G' b := fun b hb hg => by
  rcases hnew b hg with e | e | e
  ·exact h.apart b (.inr (.inl hb)) e
  ·exact fpv b hb (.inr (.inr e))
  ·have := owns_lt opv hb
   omega
 have fbW : ∀ b, v.bW.ownBlock = some b -> ¬ (b = P \/ v.bO.ownBlock = some b \/ lH (.slice la n lcap) = some b) := fun b hb hor => by
  obtain ⟨cur, hcur⟩ := owns_block obW hb
  rcases hor with e | e | e
  ·exact type_ne hcur h.blk (by decide) e
  ·obtain ⟨cur2, hc2⟩ := owns_block obO e
   exact type_ne hcur hc2 (by decide) rfl
  ·obtain ⟨cur2, hc2⟩ := owns_block ho e
   exact type_ne hcur hc2 (by decide) rfl
 have abW : ∀ b, v.bW.ownBlock = some b -> ¬ G' b := fun b hb hg => by
  rcases hnew b hg with e | e | e
  ·exact h.apart b (.inr (.inr (.inl hb))) e
  ·exact fbW b hb (.inr (.inr e))
  ·have := owns_lt obW hb
   omega
 have fbS : ∀ b, v.bS.ownBlock = some b -> ¬ (b = P \/ v.bO.ownBlock = some b \/ lH (.slice la n lcap) = some b) := fun b hb hor => by
  obtain ⟨cur, hcur⟩ := owns_block obS hb
  rcases hor with e | e | e
  ·exact type_ne hcur h.blk (by decide) e
  ·obtain ⟨cur2, hc2⟩ := owns_block obO e
   exact type_ne hcur hc2 (by decide) rfl
  ·obtain ⟨cur2, hc2⟩ := owns_block ho e
   exact type_ne hcur hc2 (by decide) rfl
 have abS : ∀ b, v.bS.ownBlock = some b -> ¬ G' b := fun b hb hg => by
  rcases hnew b hg with e | e | e
  ·exact h.apart b (.inr (.inr (.inr (.inl hb)))) e
  ·exact fbS b hb (.inr (.inr e))
  ·have := owns_lt obS hb
   omega
 have fbL : ∀ b, v.bL.ownBlock = some b -> ¬ (b = P \/ v.bO.ownBlock = some b \/ lH (.slice la n lcap) = some b) := fun b hb hor => by
  obtain ⟨cur, hcur⟩ := owns_block obL hb
  rcases hor with e | e | e
  ·exact type_ne hcur h.blk (by decide) e
  ·obtain ⟨cur2, hc2⟩ := owns_block obO e
   exact type_ne hcur hc2 (by decide) rfl
  ·obtain ⟨cur2, hc2⟩ := owns_block ho e
   exact type_ne hcur hc2 (by decide) rfl
 have abL : ∀ b, v.bL.ownBlock = some b -> ¬ G' b := fun b hb hg => by
  rcases hnew b hg with e | e | e
  ·exact h.apart b (.inr (.inr (.inr (.inr (.inl hb))))) e
  ·exact fbL b hb (.inr (.inr e))
  ·have := owns_lt obL hb
   omega
 refine ⟨rfl, bv', G', ⟨hP', (h.wrow.turn ht hGt).mono hsub, (h.ref.turn ht hGt).mono hsub, (h.orow.turn ht hGt).mono hsub, ⟨npv, by omega, (hrpv.turn ht hGt fpv).mono hsub⟩, ⟨nbW, by omega, (hrbW.turn ht hGt fbW).mono hsub⟩, ⟨nbS, by omega, (hrbS.turn ht hGt fbS).mono hsub⟩, ⟨nbL, by omega, (hrbL.turn ht hGt fbL).mono hsub⟩, ⟨nbO + 1, by omega, hbk⟩, fun b hb => ?_, fun b hb => ?_⟩, ⟨ht.mono (fun b _ hb => ?_), hsub, fun b hb => ?_, fun b hb => ?_⟩⟩
 ·rcases hnew b hb with e | e | e
  ·exact Nat.lt_of_lt_of_le (h.ltG b e) ht.size
  ·exact Nat.lt_of_lt_of_le (owns_lt ho e) ht.size
  ·exact e.2
 ·rcases hb with e | e | e | e | e | e
  ·rw [e]; exact hGP
  ·exact apv b e
  ·exact abW b e
  ·exact abS b e
  ·exact abL b e
  ·exact hbv b e
 ·rcases hb with e | e | e
  ·exact .inl (.inl e)
  ·exact .inl (.inr (.inr (.inr (.inr (.inr e)))))
  ·exact .inr (hX b (.inl e))
 ·rcases hnew b hb with e | e | e
  ·exact .inl e
  ·exact .inr (hX b (.inl e))
  ·exact .inr (hX b (.inr e.1))
 ·rcases hb with e | e | e | e | e | e
  ·exact .inl (.inl e)
  ·exact .inl (.inr (.inl e))
  ·exact .inl (.inr (.inr (.inl e)))
  ·exact .inl (.inr (.inr (.inr (.inl e))))
  ·exact .inl (.inr (.inr (.inr (.inr (.inl e)))))
  ·exact (hbo b e).elim (fun e => .inl (.inr (.inr (.inr (.inr (.inr e)))))) (fun e => .inr (hX b (.inr e)))
theorem gReads_c (h : GameOf w P B G v q S ls ops c) (hc : c <= 900000) :
  Calls Tryz.prog 43 #[.pointer (some ⟨P, 7, none⟩)] w fun e w' => e = .returned (.bool true) /\ Ext w w' := by
 obtain ⟨n1, h1, r1⟩ := h.bW
 obtain ⟨n2, h2, r2⟩ := h.bS
 obtain ⟨n3, h3, r3⟩ := h.bL
 obtain ⟨n4, h4, r4⟩ := h.bO
 exact reads_c P n1 n2 n3 n4 (gcells B v) v.bW v.bS v.bL v.bO rfl rfl rfl rfl (by omega) (by omega) (by omega) (by omega) w h.blk r1 r2 r3 r4
end
end
-- JDk
section
set_option maxRecDepth 100000
set_option maxHeartbeats 3200000
open Go.RowKit Go.Maps
section
variable {w : World} {P B q c : Nat} {G : Nat -> Prop} {v : GV} {S : List Stk} {ls : List LsV} {ops0 : List OpV}
/-- A game's block is written into. -/
theorem GameOf.setOv {w' : World} {gm n cap : Nat} {ops : List OpV} (h : GameOf w P B G v q S ls ops0 c) (ht : Turn (fun b => b = P) w w') (hb : w'.heap[P]? = some (.cells (gcells B { v with ov := .slice (some ⟨gm, 0, none⟩) n cap }) 94 (0, 0))) (hgm : w.heap.size <= gm) (hg1 : gm < w'.heap.size) (hn : n = ops.length) (hc : ∀ i u, (opCells ops)[i]? = some u -> w'.cell? ⟨gm, i, none⟩ = some u) :
  GameOf w' P B (fun b => G b \/ b = gm) { v with ov := .slice (some ⟨gm, 0, none⟩) n cap } q S ls ops c /\ GStep (fun b => w.heap.size <= b) w w' P v { v with ov := .slice (some ⟨gm, 0, none⟩) n cap } G (fun b => G b \/ b = gm) := by
 have hG : ∀ b, G b -> ¬ b = P := fun b hb e => h.apart b (.inl e) hb
 have hsub : ∀ b, G b -> (G b \/ b = gm) := fun b hb => .inl hb
 have hne : ∀ b, GOwn P v b -> b ≠ P -> ¬ b = P := fun _ _ h => h
 obtain ⟨npv, hnpv, csspv, opv, hpv⟩ := h.prow
 obtain ⟨nW, hnW, vsW, oW, hW⟩ := h.bW
 obtain ⟨nS, hnS, vsS, oS, hS⟩ := h.bS
 obtain ⟨nL, hnL, vsL, oL, hL⟩ := h.bL
 obtain ⟨nO, hnO, vsO, oO, hO⟩ := h.bO
 refine ⟨⟨hb, (h.wrow.turn ht hG).mono hsub, (h.ref.turn ht hG).mono hsub, ⟨some ⟨gm, 0, none⟩, cap, by rw [<- hn], ?_⟩, ⟨npv, hnpv, (PartRow.turn ⟨csspv, opv, hpv⟩ ht hG (fun b hb e => row_ne h.blk opv (by decide) (by rw [<- e]; exact hb))).mono hsub⟩, ⟨nW, hnW, (BookRow.turn ⟨vsW, oW, hW⟩ ht hG (fun b hb e => row_ne h.blk oW (by decide) (by rw [<- e]; exact hb))).mono hsub⟩, ⟨nS, hnS, (BookRow.turn ⟨vsS, oS, hS⟩ ht hG (fun b hb e => row_ne h.blk oS (by decide) (by rw [<- e]; exact hb))).mono hsub⟩, ⟨nL, hnL, (BookRow.turn ⟨vsL, oL, hL⟩ ht hG (fun b hb e => row_ne h.blk oL (by decide) (by rw [<- e]; exact hb))).mono hsub⟩, ⟨nO, hnO, (BookRow.turn ⟨vsO, oO, hO⟩ ht hG (fun b hb e => row_ne h.blk oO (by decide) (by rw [<- e]; exact hb))).mono hsub⟩, fun b hb => ?_, fun b hb hor => ?_⟩, ⟨ht.mono (fun b _ e => .inl (.inl e)), hsub, fun b hb => hb.imp id (fun e => by omega), fun b hb => .inl hb⟩⟩
 ·exact .inr ⟨gm, rfl, .inr rfl, hc⟩
 ·rcases hb with e | e
  ·exact Nat.lt_of_lt_of_le (h.ltG b e) ht.size
  ·omega
 ·rcases hor with e | e
  ·exact h.apart b hb e
  ·have := h.lt (b := b) hb
   omega
theorem disk_c {F : Nat -> Prop} {sv lv dv : Value} {R : List StkR} {ls' : List LsV} {ops : List OpV} {fl : Bool} {ah : Int} {kn : Bool} (h : GameOf w P B G v q S ls ops0 c) (hc : c <= 900000) (hst : StoreOf w B F sv lv dv R ls' ops fl ah kn) (hdv : dv = .slice none 0 0 \/ 1 <= ops.length) (hn : ops.length <= 1000000) (hpre : ∃ new, ops = ops0 ++ new) (hk : ∀ o ∈ ops, 0 <= o.k /\ o.k <= 5) :
  Calls Tryz.prog 41 #[.pointer (some ⟨P, 0, none⟩)] w fun e w' => e = .returned (.bool true) /\ ∃ v' G', GameOf w' P B G' v' q S ls ops (c + 1) /\ GStep (fun b => w.heap.size <= b) w w' P v v' G G' /\ v'.wv = v.wv /\ v'.pv = v.pv := by
 obtain ⟨i0, hi, hz0, hz1, hz2⟩ := info_parts infoOp
 have heq := eqOp
 have HD : Hid (∀ w', Ext w w' -> _) := fun w' hx => dealerDisk_c hn hdv w' (hst.ext hx)
 have H : Hid (GameOf w P B G v q S ls ops0 c) := h
 have HK : Hid (∀ o ∈ ops, 0 <= o.k /\ o.k <= 5) := hk
 obtain ⟨new, hnew⟩ := hpre
 have HPre : Hid (∀ j (hj : j < ops0.length), ∃ hj' : j < ops.length, ops0[j] = ops[j]) := fun j hj => by
  subst hnew
  exact ⟨by simp; omega, by rw [List.getElem_append_left hj]⟩
 obtain ⟨n, hnn⟩ : ∃ n, ops.length = n := ⟨_, rfl⟩
 obtain ⟨n0, hn0⟩ : ∃ n0, ops0.length = n0 := ⟨_, rfl⟩
 have HN : Hid (ops.length = n) := hnn
 have HN0 : Hid (ops0.length = n0) := hn0
 have hnl : n0 <= n := by rw [<- hnn, <- hn0, hnew, List.length_append]; omega
 obtain ⟨oa, ocap, hov, hor⟩ := h.orow
 have HOR : Hid _ := hor
 rw [hn0] at hov
 rw [hnn] at hn HD
 have hblk := h.blk
 unfold gcells at hblk
 rw [hov] at hblk
 have c0 : w.cell? ⟨P, 0, none⟩ = some (.pointer (some ⟨B, 0, none⟩)) := cell_at hblk rfl
 have c3 : w.cell? ⟨P, 3, none⟩ = some (.slice oa n0 ocap) := cell_at hblk rfl
 have hPl := lG w _ c0
 have HBK : Hid _ := hblk
 have HOV : Hid (v.ov = .slice oa n0 ocap) := hov
 clear h hk hnn hn0 hnew hor hst hdv hblk hov
 go_enter Tryz.func41, Tryz.ntmps41
 go_wp2_with fail
 refine (HD.out _ (Ext.refl _)).mono ?_
 rintro e w1 ⟨l, rfl, hl, hx1⟩
 obtain ⟨la, lcap, rfl⟩ := owns_slice hl
 have HL : Hid (w1.ownsRow w.heap.size 134 4 (.slice la n lcap) n (opCells ops)) := hl
 have HX1 : Hid (Ext w w1) := hx1
 have c3 := hx1.cell c3
 have hPl1 := lG w1 _ c3
 have hsz1 := hx1.le
 clear hl hx1 HD
 have hnlI : ¬ (n : Int) < (n0 : Int) := by omega
 go_wp2_with fail
 have hdn : decide (n < n0) = false := by simp; omega
 rw [hdn]
 clear hdn
 go_loopw [4, 5] (fun at_ _ wr => ∃ j : Nat, j <= n /\ at_ = .int .i64 (j : Int) /\ Ext w1 wr) (fun at_ _ _ => n - (intOf at_).toNat)
 case atStart => exact ⟨0, Nat.zero_le _, rfl, Ext.refl _⟩
 case round =>
  obtain ⟨j, hj, rfl, hx⟩ := hrel
  have HX : Hid (Ext w1 wr) := hx
  have c3 := hx.cell c3
  have hPl2 := lG wr _ c3
  clear hx
  by_cases hlt : j < n
  ·have hjo : j < ops.length := by rw [HN.out]; exact hlt
   obtain ⟨gl, rfl⟩ : ∃ g, la = some ⟨g, 0, none⟩ := by
    rcases owns_form HL.out with ⟨_, h2, _⟩ | ⟨g, c, h1, _⟩
    ·omega
    ·injection h1 with e1 _ _
     exact ⟨g, e1⟩
   have hkj := HK.out ops[j] (List.getElem_mem hjo)
   have HI : Hid (∀ w', _) := fun w' => isOp_c ops[j] hkj.1 hkj.2 w'
   have hpj : j < n0 -> ∃ go, oa = some ⟨go, 0, none⟩ /\ wr.cell? ⟨go, j * 4, none⟩ = some (.int .i64 ops[j].k) /\ wr.cell? ⟨go, j * 4 + 1, none⟩ = some (.string ops[j].a) /\ wr.cell? ⟨go, j * 4 + 2, none⟩ = some (.string ops[j].b) /\ wr.cell? ⟨go, j * 4 + 3, none⟩ = some (.string ops[j].c) := fun hj0 => by
    have hj0' : j < ops0.length := by rw [HN0.out]; exact hj0
    obtain ⟨go, e, _, hcell⟩ := HOR.out.resolve_left (by omega)
    obtain ⟨_, heo⟩ := HPre.out j hj0'
    have hxx := HX1.out.trans HX.out
    have k0 := hxx.cell (hcell (j * 4 + 0) _ ((opCells_at ops0 j 0 hj0' (by omega)).trans rfl))
    have k1 := hxx.cell (hcell (j * 4 + 1) _ ((opCells_at ops0 j 1 hj0' (by omega)).trans rfl))
    have k2 := hxx.cell (hcell (j * 4 + 2) _ ((opCells_at ops0 j 2 hj0' (by omega)).trans rfl))
    have k3 := hxx.cell (hcell (j * 4 + 3) _ ((opCells_at ops0 j 3 hj0' (by omega)).trans rfl))
    rw [heo] at k0 k1 k2 k3
    exact ⟨go, e, k0, k1, k2, k3⟩
   have e0 : wr.cell? ⟨gl, j * 4, none⟩ = some (.int .i64 ops[j].k) := HX.out.cell (owns_cell HL.out ((opCells_at ops j 0 hjo (by omega)).trans rfl))
   have e1 : wr.cell? ⟨gl, j * 4 + 1, none⟩ = some (.string ops[j].a) := HX.out.cell (owns_cell HL.out ((opCells_at ops j 1 hjo (by omega)).trans rfl))
   have e2 : wr.cell? ⟨gl, j * 4 + 2, none⟩ = some (.string ops[j].b) := HX.out.cell (owns_cell HL.out ((opCells_at ops j 2 hjo (by omega)).trans rfl))
   have e3 : wr.cell? ⟨gl, j * 4 + 3, none⟩ = some (.string ops[j].c) := HX.out.cell (owns_cell HL.out ((opCells_at ops j 3 hjo (by omega)).trans rfl))
   clear hkj
   generalize ops[j].k = ok at *
   generalize ops[j].a = oA at *
   generalize ops[j].b = oB at *
   generalize ops[j].c = oC at *
   have hk0 : (0 : Int) <= (j : Int) := by omega
   have hk1 : (j : Int) < n := by omega
   have hgl := lG wr _ e0
   go_wp2_with fail
   refine (HI.out _).mono ?_
   rintro e w2 ⟨rfl, hx2⟩
   have c3 := hx2.cell c3
   have e0 := hx2.cell e0
   have e1 := hx2.cell e1
   have e2 := hx2.cell e2
   have e3 := hx2.cell e3
   have HX2 : Hid (Ext w1 w2) := HX.out.trans hx2
   by_cases hj0 : j < n0
   ·obtain ⟨go, rfl, d0, d1, d2, d3⟩ := hpj hj0
    have d0 := hx2.cell d0
    have d1 := hx2.cell d1
    have d2 := hx2.cell d2
    have d3 := hx2.cell d3
    have hd : decide ((j : Int) < (n0 : Int)) = true := by simp; omega
    have hj0I : (j : Int) < (n0 : Int) := by omega
    clear hx2 hpj
    go_wp2
    go_quiet (fail)
    go_wp2
    go_roundw
    case rel => exact ⟨j + 1, by omega, by go_num, HX2.out.drewN _⟩
    case measure => simp [intOf]; omega
   ·have hd : decide ((j : Int) < (n0 : Int)) = false := by simp; omega
    clear hx2 hpj
    go_wp2
    go_quiet (fail)
    go_wp2
    go_roundw
    case rel => exact ⟨j + 1, by omega, by go_num, HX2.out.drewN _⟩
    case measure => simp [intOf]; omega
  ·obtain rfl : j = n := by omega
   clear hlt hj
   have HXr : Hid (Ext w wr) := HX1.out.trans HX.out
   have hszr := HXr.out.le
   go_wp2_with (at_make; refine wpList_make_full _ rfl _ _ 69 rfl wr.heap.size 134 i0 _ 4 Tryz.underlying69 hi hz0 hz1 _ _ _ _ j rfl rfl (by omega) (by omega) (by rw [hz2]; omega) (by unfold maxLen; omega) (Nat.le_refl _) ?_)
   intro w6 ho6 hg6
   have hx6 : Ext wr w6 := Ext.grown (Ext.refl wr) hg6 (by simp)
   obtain ⟨gm, hgm⟩ : ∃ gm, wr.heap.size = gm := ⟨_, rfl⟩
   rw [hgm] at ho6 ⊢
   have HM6 : Hid (w6.ownsRow gm 134 4 (.slice (some ⟨gm, 0, none⟩) j j) j _) := ho6
   have HX6 : Hid (Ext wr w6) := hx6
   have HGM : Hid (wr.heap.size = gm) := hgm
   have hb6 := hx6.block (HXr.out.block HBK.out)
   have c36 : w6.cell? ⟨P, 3, none⟩ = some (.slice oa n0 ocap) := cell_at hb6 rfl
   have f36 := frozen_row hb6 3
   have hPl6 := lG w6 _ c36
   have HB6 : Hid _ := hb6
   have hPg : P ≠ gm := by rw [<- hgm]; omega
   have hgm6 : gm < w6.heap.size := (Array.getElem?_eq_some_iff.1 (owns_block ho6 (g := gm) rfl).choose_spec).1
   clear ho6 hg6 hx6 hb6
   go_wp2_with fail
   have HB7 : Hid ((w6.setCell ⟨P, 3, none⟩ (.slice (some ⟨gm, 0, none⟩) j j)).heap[P]? = some (.cells (gcells B { v with ov := .slice (some ⟨gm, 0, none⟩) j j }) 94 (0, 0))) := setCell_row HB6.out _
   have HT7 : Hid (Turn (fun b => b = P) w (w6.setCell ⟨P, 3, none⟩ (.slice (some ⟨gm, 0, none⟩) j j))) := Turn.setCell (S := fun b => b = P) (p := ⟨P, 3, none⟩) (Turn.of_ext (HXr.out.trans HX6.out)) (fun _ => rfl) _
   have HM7 : Hid ((w6.setCell ⟨P, 3, none⟩ (.slice (some ⟨gm, 0, none⟩) j j)).ownsRow gm 134 4 (.slice (some ⟨gm, 0, none⟩) j j) j _) := owns_setCell HM6.out (by simp [lH]; omega) _
   have HL7 : Hid ((w6.setCell ⟨P, 3, none⟩ (.slice (some ⟨gm, 0, none⟩) j j)).ownsRow w.heap.size 134 4 (.slice la j lcap) j (opCells ops)) := owns_setCell (HX6.out.owns (HX.out.owns HL.out)) (fun e => by have := (World.ownsRow.lt HL.out P e).1; omega) _
   have h7s : (w6.setCell ⟨P, 3, none⟩ (.slice (some ⟨gm, 0, none⟩) j j)).heap.size = w6.heap.size := by simp
   generalize World.setCell w6 _ _ = w7 at HB7 HT7 HM7 HL7 h7s ⊢
   have c37 : w7.cell? ⟨P, 3, none⟩ = some (.slice (some ⟨gm, 0, none⟩) j j) := cell_at HB7.out rfl
   have hPl7 := lG w7 _ c37
   have hcopy : ∃ w8, (∀ ty, (Builtin.copy_ #[69, 69] ty #[.slice (some ⟨gm, 0, none⟩) j j, .slice la j lcap]).run Tryz.prog w7 = .ok (goInt j) w8) /\ Turn (fun b => b = gm) w7 w8 /\ (∀ i u, (opCells ops)[i]? = some u -> w8.cell? ⟨gm, i, none⟩ = some u) /\ ∃ cur, w8.heap[gm]? = some (.cells cur 134 (0, 0)) := by
    obtain ⟨cur, hcur⟩ := owns_block HM7.out (g := gm) rfl
    have hlo : (opCells ops).length = j * 4 := by rw [len_opCells, HN.out]
    rcases owns_form HL7.out with ⟨_, hj0, _⟩ | ⟨gl, c', h1, _⟩
    ·have hr := fun ty => run_copy_zero (P := Tryz.prog) w7 69 69 ty 134 4 (some ⟨gm, 0, none⟩) la j lcap Tryz.underlying69 (by rw [hi]; simp [hz1])
     refine ⟨w7, fun ty => ?_, Turn.refl _ _, fun i u hu => ?_, cur, hcur⟩
     ·have := hr ty
      rw [hj0] at this ⊢
      exact this
     ·have hil := (List.getElem?_eq_some_iff.1 hu).1
      omega
    ·injection h1 with e1 _ e3
     subst e1
     have hcsz : cur.size = j * 4 := by
      rcases HM7.out.2 with ⟨hh, _⟩ | ⟨g2, c2, cur2, hh, _, hh3, _, _, hh6, _⟩
      ·simp at hh
      ·simp at hh
       obtain ⟨rfl, rfl⟩ := hh
       rw [hcur] at hh3
       injection hh3 with hh3
       injection hh3 with hh3 _ _
       rw [hh3]; exact hh6
     have hr := fun ty => run_copy_whole (P := Tryz.prog) w7 69 69 ty 134 4 gm j j ⟨gl, 0, none⟩ lcap cur 134 (opCells ops) Tryz.underlying69 (by rw [hi]; simp [hz1]) hcur hlo hcsz (fun a u hu => by rw [addr_add']; simpa using owns_cell HL7.out hu) (op_one ops)
     refine ⟨w7.setRow gm (opCells ops).toArray, hr, setRow_turn _ _ _, fun i u hu => ?_, (opCells ops).toArray, setRow_heap w7 gm cur _ _ _ hcur⟩
     rw [cell_of_row _ gm i _ _ _ (setRow_heap w7 gm cur _ _ _ hcur)]
     simpa using hu
   obtain ⟨w8, hrun, hT8, hcell8, hcur8⟩ := hcopy
   have HR8 : Hid (∀ ty, (Builtin.copy_ #[69, 69] ty #[.slice (some ⟨gm, 0, none⟩) j j, .slice la j lcap]).run Tryz.prog w7 = .ok (goInt j) w8) := hrun
   have HT8 : Hid (Turn (fun b => b = gm) w7 w8) := hT8
   have HC8 : Hid (∀ i u, (opCells ops)[i]? = some u -> w8.cell? ⟨gm, i, none⟩ = some u) := hcell8
   clear hrun hT8 hcell8 hcur8
   rw [HR8.out]
   have HG8 : Hid (GameOf w8 P B (fun b => G b \/ b = gm) { v with ov := .slice (some ⟨gm, 0, none⟩) j j } q S ls ops c /\ GStep (fun b => w.heap.size <= b) w w8 P v { v with ov := .slice (some ⟨gm, 0, none⟩) j j } G (fun b => G b \/ b = gm)) := by
    have hT : Turn (fun b => b = P) w w8 := HT7.out.trans' HT8.out (fun b hb e => by have := HGM.out; omega)
    exact H.out.setOv hT (HT8.out.ref HB7.out (fun e => hPg e)) (by have := HGM.out; omega) (Nat.lt_of_lt_of_le (by omega) HT8.out.size) HN.out.symm HC8.out
   have HL8 : Hid (w8.ownsRow w.heap.size 134 4 (.slice la j lcap) j (opCells ops)) := HT8.out.owns HL7.out (fun b hb e => by
    have h1 := owns_lt HL.out hb
    have h2 := HX.out.le
    have h3 := HGM.out
    omega)
   have hb8 := HG8.out.1.blk
   have hPl8 : P < w8.heap.size := (Array.getElem?_eq_some_iff.1 hb8).1
   have hs8 : w.heap.size <= w8.heap.size := HG8.out.2.turn.size
   clear c37 hb8
   go_wp2_with fail
   refine (gkeepOps_c HG8.out.1 hc w.heap.size la j lcap (opCells ops) (by omega) HL8.out hs8 (fun b hb hg => ?_) (fun b => w.heap.size <= b) (fun b hb => ?_)).mono ?_
   ·have h1 := World.ownsRow.lt HL.out b hb
    rcases hg with e | e
    ·have := H.out.ltG b e
     omega
    ·have h2 := HX.out.le
     have h3 := HGM.out
     omega
   ·rcases hb with e | e
    ·exact (World.ownsRow.lt HL8.out b e).1
    ·omega
   rintro e w9 ⟨rfl, bv', G', hg9, hs9⟩
   have HF : Hid _ := And.intro hg9 hs9
   clear hg9 hs9
   go_wp2
   go_ret
   exact ⟨rfl, _, _, HF.out.1, HG8.out.2.trans HF.out.2 (fun b hb => hb), rfl, rfl⟩
end
end
end Go.Proofs.YtmnjhhachdlmkaaGreat
