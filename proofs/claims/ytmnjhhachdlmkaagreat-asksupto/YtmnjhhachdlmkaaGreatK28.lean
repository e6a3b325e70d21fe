import Derived.Test.YtmnjhhachdlmkaaGreatRows
import Derived.ProofKit
import Derived.OpenShut
import Derived.Lib.SmallJoins
import Derived.SizedLaws
import Derived.Deep.Slices
import Derived.ShutString
import Derived.ChangeOld
import Derived.JoinedCond
import Derived.Test.YtmnjhhachdlmkaaGreatK27
import Derived.Test.YtmnjhhachdlmkaaGreatK18
namespace Go.Proofs.YtmnjhhachdlmkaaGreat
open List renaming getElem_toArray -> lA, getElem_cons_succ -> lB, getElem_cons_zero -> lC, setIfInBounds_toArray -> lD, set_cons_zero -> lE, set_cons_succ -> lF
open World renaming block_lt_of_cell? -> lG
open Value renaming ownBlock -> lH
-- JSt
section
open Go.RowKit Go.Maps
theorem step_c {w : World} {P B N0 c : Nat} (h : Live w P B N0 c) (hc : c <= 200000) (sk sa sb kd m k n r0 r1 r2 r3 r4 r5 r6 r7 r8 r9 st : Int) (hsk : sk <= 3) (ss : ByteArray) (ca : Option Addr) (cl ccap : Nat) (a : Option Addr) (len cap : Nat) (D : List Int) (hD : D.length = len) (hu : inU64 D) (hlen : len <= 100000000) (hcap : len <= cap) (hd : DrawsAt w a len D) (hda : ∀ b off, len ≠ 0 /\ a = some ⟨b, off, none⟩ -> b < N0) :
  Calls Tryz.prog 42 #[.pointer (some ⟨P, 0, none⟩), .agg #[.int .i64 sk, .int .i64 sa, .int .i64 sb, .int .i64 kd, .int .i64 m, .int .i64 k, .int .i64 n, .slice a len cap, .int .i64 r0, .int .i64 r1, .int .i64 r2, .int .i64 r3, .int .i64 r4, .int .i64 r5, .int .i64 r6, .int .i64 r7, .int .i64 r8, .int .i64 r9, .string ss, .slice ca cl ccap, .int .i64 st]] w fun e w' => e = .returned (.bool true) /\ Live w' P B N0 (c + 3) /\ Turn (fun b => N0 <= b) w w' := by
 by_cases h1 : sk = 1
 ·exact step1_c h hc sk sa sb kd m k n r0 r1 r2 r3 r4 r5 r6 r7 r8 r9 st hsk h1 ss ca cl ccap a len cap D hD hu hlen hcap hd hda
 by_cases h2 : sk = 2
 ·exact stepRefill_o (Q := fun w w' => Live w' P B N0 (c + 3) /\ Turn (fun b => N0 <= b) w w') sk h2 _ rfl rfl (fun w1 w2 w3 hx k => ⟨k.1, (Turn.of_ext hx).trans k.2⟩) (fun w' hx => liveRefills (h.ext hx) hc sk sa sb kd m k n r0 r1 r2 r3 r4 r5 r6 r7 r8 r9 st ss ca cl ccap a len cap D hD hu hlen hcap (hd.ext hx) hda)
 by_cases h3 : sk = 3
 ·exact stepAsk_o (Q := fun w w' => Live w' P B N0 (c + 3) /\ Turn (fun b => N0 <= b) w w') sk h3 (.int .i64 sa) (.int .i64 sb) (.int .i64 kd) (.int .i64 m) (.int .i64 k) (.int .i64 n) (.slice a len cap) (.int .i64 r0) (.int .i64 r1) (.int .i64 r2) (.int .i64 r3) (.int .i64 r4) (.int .i64 r5) (.int .i64 r6) (.int .i64 r7) (.int .i64 r8) (.int .i64 r9) (.string ss) (.slice ca cl ccap) (.int .i64 st) (fun w1 w2 w3 hx k => ⟨k.1, (Turn.of_ext hx).trans k.2⟩) (fun w' hx => liveAsks (h.ext hx) hc r0 r1 r2 r3 r4 r5 r6 r7 r8 r9)
 exact step4_c h hc sk sa sb kd m k n r0 r1 r2 r3 r4 r5 r6 r7 r8 r9 st hsk h1 h2 h3 ss ca cl ccap a len cap D hD hu hlen hcap hd hda
end
-- JBg
section
set_option maxRecDepth 100000
set_option maxHeartbeats 3200000
open Go.RowKit Go.Maps
theorem openD_c (w : World) : Calls Tryz.prog 40 #[] w fun e w' => e = .returned (.pointer (some ⟨w.heap.size, 0, none⟩)) /\ w' = w.alloc (.cells #[.slice none 0 0, .slice none 0 0, .slice none 0 0, .bool false, .int .i64 0, .bool false] 114) := by
 go_enter Tryz.func40, Tryz.ntmps40
 go_wp2
 go_ret
 exact ⟨rfl, rfl⟩
theorem invS_nil : InvS [] [] := ⟨by simp, by simp, by simp, by simp, by simp, by simp, fun i j hi => by simp at hi⟩
theorem begin_c (w : World) : Calls Tryz.prog 11 #[] w fun e w' => ∃ P B, e = .returned (.pointer (some ⟨P, 0, none⟩)) /\ Live w' P B w.heap.size 2 /\ Ext w w' := by
 obtain ⟨j0, hj0, hy0, hy1, hy2⟩ := info_parts infoPW
 obtain ⟨k0, hk0i, hw0, hw1, hw2⟩ := info_parts infoPart
 have HOp : Hid (∀ w', _) := fun w' => openD_c w'
 go_enter Tryz.func11, Tryz.ntmps11
 go_wp2_with fail
 refine (HOp.out _).mono ?_
 rintro e w1 ⟨rfl, hw1E⟩
 have HB1 : Hid (w1.heap[w.heap.size]? = some (.cells #[.slice none 0 0, .slice none 0 0, .slice none 0 0, .bool false, .int .i64 0, .bool false] 114 (0, 0)) /\ Ext w w1 /\ w1.heap.size = w.heap.size + 1) := by
  rw [hw1E]
  exact ⟨heap_alloc_new _ _, (Ext.refl w).alloc _, by simp⟩
 clear hw1E
 go_wp2_with (at_builtin; refine wpList_append_lies _ rfl _ _ 85 rfl w1.heap.size 95 j0 _ 1 8 Tryz.underlying85 hj0 hy0 hy1 hy2 rfl (by decide) _ 0 [] rfl (World.ownsRow_nil _ _ _ _) ⟨_, 0, none⟩ 1 1 [.pointer (some ⟨w1.heap.size + 1, 0, none⟩)] rfl rfl (World.news_of_block (at_new (by simp))) (by simp [Value.oneCell']) (by decide) (by simp [maxLen]) (by omega) (by simp; omega) _ rfl ?_)
 intro g1 cap1 w2 hown2 hgrow2 hat2 hlt2
 have HX2 : Hid (Ext ((w1.alloc (.cells #[.pointer (some ⟨w.heap.size, 0, none⟩), .slice none 0 0, .slice none 0 0, .slice none 0 0, .slice none 0 0, .bool false, .int .i64 0, .slice none 0 0, .slice none 0 0, .slice none 0 0, .slice none 0 0] 94)).alloc (.cells #[.slice none 0 0, .slice none 0 0] 98)) w2) := Ext.grown (Ext.alloc (Ext.refl _) _) hgrow2 (by simp [lH])
 obtain ⟨P, hP⟩ : ∃ P, w1.heap.size = P := ⟨_, rfl⟩
 have HGB : Hid (w2.heap[P]? = some (.cells #[.pointer (some ⟨w.heap.size, 0, none⟩), .slice none 0 0, .slice none 0 0, .slice none 0 0, .slice none 0 0, .bool false, .int .i64 0, .slice none 0 0, .slice none 0 0, .slice none 0 0, .slice none 0 0] 94 (0, 0))) := HX2.out.block (at_old (by rw [<- hP]; exact heap_alloc_new _ _))
 have HQB : Hid (w2.heap[P + 1]? = some (.cells #[.slice none 0 0, .slice none 0 0] 98 (0, 0))) := HX2.out.block (at_new (by simp [hP]))
 have HDB : Hid (w2.heap[w.heap.size]? = some (.cells #[.slice none 0 0, .slice none 0 0, .slice none 0 0, .bool false, .int .i64 0, .bool false] 114 (0, 0))) := HX2.out.block (at_old (at_old HB1.out.1))
 have HXw2 : Hid (Ext w w2) := (((HB1.out.2.1).alloc _).alloc _).trans HX2.out
 have HO2 : Hid (w2.ownsRow P 95 1 (.slice (some ⟨g1, 0, none⟩) 1 cap1) 1 [.pointer (some ⟨P + 1, 0, none⟩)]) := by
  show World.ownsRow _ _ _ _ _ _ _
  rw [<- hP]
  simpa using hown2
 have HPW : Hid (P = w.heap.size + 1) := by
  show P = w.heap.size + 1
  rw [<- hP]; exact HB1.out.2.2
 simp only [hP]
 have hl2 : P + 1 < w2.heap.size := (Array.getElem?_eq_some_iff.1 HQB.out).1
 have x1 : w2.cell? ⟨P, 1, none⟩ = some (.slice none 0 0) := cell_at HGB.out rfl
 have f1 := frozen_row HGB.out 1
 clear hown2 hgrow2 hat2 hlt2 hP HB1 HX2
 go_wp2_with fail
 have HG3 : Hid ((w2.setCell ⟨P, 1, none⟩ (.slice (some ⟨g1, 0, none⟩) 1 cap1)).heap[P]? = some (.cells #[.pointer (some ⟨w.heap.size, 0, none⟩), .slice (some ⟨g1, 0, none⟩) 1 cap1, .slice none 0 0, .slice none 0 0, .slice none 0 0, .bool false, .int .i64 0, .slice none 0 0, .slice none 0 0, .slice none 0 0, .slice none 0 0] 94 (0, 0))) := setCell_row HGB.out _
 have HT3 : Hid (Turn (fun b => b = P) w2 (w2.setCell ⟨P, 1, none⟩ (.slice (some ⟨g1, 0, none⟩) 1 cap1))) := Turn.setCell (S := fun b => b = P) (p := ⟨P, 1, none⟩) (Turn.refl _ w2) (fun _ => rfl) _
 generalize World.setCell w2 _ _ = w3 at HG3 HT3 ⊢
 have hg1P : g1 ≠ P := fun e => row_ne (B := P) HGB.out HO2.out (by decide) (by rw [e]; rfl)
 have c4 : w3.cell? ⟨P, 4, none⟩ = some (.slice none 0 0) := cell_at HG3.out rfl
 have c1 : w3.cell? ⟨P, 1, none⟩ = some (.slice (some ⟨g1, 0, none⟩) 1 cap1) := cell_at HG3.out rfl
 have hPl3 := lG w3 _ c4
 have h23 := HT3.out.size
 clear x1 f1
 go_wp2_with fail
 have SD : Hid (∀ w', Turn (fun b => lH (.slice none 0 0) = some b) w3 w' -> (fun w' => w'.cell? ⟨P, 1, none⟩ = some (.slice (some ⟨g1, 0, none⟩) 1 cap1)) w') := fun w' hx => hx.cell c1 (fun e => by simp [lH] at e)
 refine wp_region_held_drew (S := (fun w' => w'.cell? ⟨P, 1, none⟩ = some (.slice (some ⟨g1, 0, none⟩) 1 cap1))) (by kernel_rfl) c1 (fun hHeld => ?_)
 refine wpAnyH_take (i := 0) (oi := _) (v := ?v0) rfl (by kernel_rfl) (by kernel_rfl) (by kernel_rfl) (fun _ _ _ h => h) (Or.inl ⟨by rfl, ?hy⟩) hHeld ?_
 case hy => (intro w hSw; (try dsimp only at hSw); go_simp; try with_reducible rfl)
 try simp only [Act.put, lA, lC, lD, lE, lF]
 refine wpAnyH_take (i := 1) (oi := _) (v := ?v1) rfl (by kernel_rfl) (by kernel_rfl) (by kernel_rfl) (fun _ _ _ h => h) (Or.inl ⟨by rfl, ?hy⟩) hHeld ?_
 case hy => (intro w hSw; (try dsimp only at hSw); go_simp; try with_reducible rfl)
 try simp only [Act.put, lA, lB, lC, lD, lE, lF]
 refine wpAnyH_take (i := 2) (oi := _) (v := ?v2) rfl (by kernel_rfl) (by kernel_rfl) (by kernel_rfl) (fun _ _ _ h => h) (Or.inl ⟨by rfl, ?hy⟩) hHeld ?_
 case hy => (intro w hSw; (try dsimp only at hSw); go_simp; try with_reducible rfl)
 try simp only [Act.put, lA, lB, lC, lD, lE, lF]
 refine wpAnyH_take (i := 3) (oi := _) (v := ?v3) rfl (by kernel_rfl) (by kernel_rfl) (by kernel_rfl) (fun _ _ _ h => h) (Or.inl ⟨by rfl, ?hy⟩) hHeld ?_
 case hy => (intro w hSw; (try dsimp only at hSw); go_simp; try with_reducible rfl)
 try simp only [Act.put, lA, lB, lC, lD, lE, lF]
 refine wpAnyH_take (i := 5) (oi := _) (v := ?v5) rfl (by kernel_rfl) (by kernel_rfl) (by kernel_rfl) (fun _ _ _ h => h) (Or.inl ⟨by rfl, ?hy⟩) hHeld ?_
 case hy => (intro w hSw; (try dsimp only at hSw); go_simp; try with_reducible rfl)
 try simp only [Act.put, lA, lB, lC, lD, lE, lF]
 refine wpAnyH_take (i := 6) (oi := _) (v := ?v6) rfl (by kernel_rfl) (by kernel_rfl) (by kernel_rfl) (fun _ _ _ h => h) (Or.inl ⟨by rfl, ?hy⟩) hHeld ?_
 case hy => (intro w hSw; (try dsimp only at hSw); go_simp; try with_reducible rfl)
 try simp only [Act.put, lA, lB, lC, lD, lE, lF]
 refine wpAnyH_take (i := 7) (oi := _) (v := ?v7) rfl (by kernel_rfl) (by kernel_rfl) (by kernel_rfl) (fun _ _ _ h => h) (Or.inl ⟨by rfl, ?hy⟩) hHeld ?_
 case hy => (intro w hSw; (try dsimp only at hSw); go_simp; try with_reducible rfl)
 try simp only [Act.put, lA, lB, lC, lD, lE, lF]
 refine wpAnyH_take (i := 8) (oi := _) (v := ?v8) rfl (by kernel_rfl) (by kernel_rfl) (by kernel_rfl) (fun _ _ _ h => h) (Or.inl ⟨by rfl, ?hy⟩) hHeld ?_
 case hy => (intro w hSw; (try dsimp only at hSw); go_simp; try with_reducible rfl)
 try simp only [Act.put, lA, lB, lC, lD, lE, lF]
 refine wpAnyH_take (i := 9) (oi := _) (v := ?v9) rfl (by kernel_rfl) (by kernel_rfl) (by kernel_rfl) (fun _ _ _ h => h) (Or.inl ⟨by rfl, ?hy⟩) hHeld ?_
 case hy => (intro w hSw; (try dsimp only at hSw); go_simp; try with_reducible rfl)
 try simp only [Act.put, lA, lB, lC, lD, lE, lF]
 refine wpAnyH_ready (rs := [4, 10]) (by kernel_rfl) (by simp) ?_
 refine AllReadyH.cons (o := _) rfl (fun K hK => ?_) (AllReadyH.cons (o := _) rfl (fun K hK => ?_) AllReadyH.nil)
 ·skip
  (try simp only [lA, lB, lC])
  go_simp
  refine hK.out _ _ ?hs1 (fun hHeld => ?_)
  case hs1 => exact SD.out _ (Turn.of_ext (Ext.drew (Ext.refl _)))
  clear hK K
  try simp only [Act.put, lA, lB, lC, lD, lE, lF]
  refine wpAnyH_ready (rs := [10]) (by kernel_rfl) (by simp) ?_
  refine AllReadyH.cons (o := _) rfl (fun K hK => ?_) AllReadyH.nil
  (try simp only [lA, lB, lC])
  go_simp
  refine hK.out _ _ ?hs2 (fun hHeld => ?_)
  case hs2 => exact SD.out _ (Turn.of_ext (Ext.drew (Ext.alloc (Ext.refl _) _)))
  clear hK K
  try simp only [Act.put, lA, lB, lC, lD, lE, lF]
  refine wpAnyH_ready (rs := [11]) (by kernel_rfl) (by simp) ?_
  refine AllReadyH.cons (o := _) rfl (fun K hK => ?_) AllReadyH.nil
  refine step_append_lies _ (by rfl) _ _ 86 (by rfl) 0 100 k0 _ 4 48 Tryz.underlying86 hk0i hw0 hw1 hw2 (by rfl) (by decide) (.slice none 0 0) 0 [] (by rfl) (World.ownsRow_nil _ _ _ _) ⟨_, 0, none⟩ 1 1 [.int .i64 0, .int .i64 0, .slice (some ⟨g1, 0, none⟩) 1 cap1, .bool true] (by rfl) (by rfl) (World.news_of_block (at_drew (heap_alloc_new _ _))) (by simp [Value.oneCell']) (by decide) (by unfold maxLen; omega) (by omega) (Nat.zero_le _) _ rfl ?_
  intro g cap w5 hown5 hgrow5 hat5 hlt5
  have HT5 : Hid (Turn (fun b => lH (.slice none 0 0) = some b) w3 w5) := Turn.grown (Turn.of_ext (Ext.drew (Ext.alloc (Ext.refl _) _))) hgrow5 (fun q hq _ => hq)
  have HOW : Hid (w5.ownsRow 0 100 4 (.slice (some ⟨g, 0, none⟩) 1 cap) 1 ([] ++ [.int .i64 0, .int .i64 0, .slice (some ⟨g1, 0, none⟩) 1 cap1, .bool true])) := hown5
  have HAT : Hid (lH (.slice none 0 0) = some g \/ w3.heap.size <= g) := by
   rcases hat5 with h | h
   ·exact .inl h
   ·exact .inr (by rw [h]; exact (Turn.of_ext (Ext.drew (Ext.alloc (Ext.refl _) _)) : Turn (fun _ => False) w3 _).size)
  have HB5 : Hid (w5.heap[P]? = some (.cells #[.pointer (some ⟨w.heap.size, 0, none⟩), .slice (some ⟨g1, 0, none⟩) 1 cap1, .slice none 0 0, .slice none 0 0, .slice none 0 0, .bool false, .int .i64 0, .slice none 0 0, .slice none 0 0, .slice none 0 0, .slice none 0 0] 94 (0, 0))) := HT5.out.ref HG3.out (fun e => by simp [lH] at e)
  have y1b : w5.cell? ⟨P, 4, none⟩ = some (.slice none 0 0) := cell_at HB5.out rfl
  have f1b := frozen_row HB5.out 4
  refine hK.out _ _ ?hs3 (fun hHeld => ?_)
  case hs3 => exact SD.out _ HT5.out
  clear hK K hown5 hgrow5 hat5
  try simp only [Act.put, lA, lB, lC, lD, lE, lF]
  refine wpAnyH_take (i := 12) (oi := _) (v := ?v12) rfl (by kernel_rfl) (by kernel_rfl) (by kernel_rfl) (fun _ _ _ h => h) (Or.inl ⟨by rfl, ?hy⟩) hHeld ?_
  case hy => (intro w hSw; (try dsimp only at hSw); go_simp; try with_reducible rfl)
  try simp only [Act.put, lA, lB, lC, lD, lE, lF]
  refine wpAnyH_take (i := 13) (oi := _) (v := ?v13) rfl (by kernel_rfl) (by kernel_rfl) (by kernel_rfl) (fun _ _ _ h => h) (Or.inl ⟨by rfl, ?hy⟩) hHeld ?_
  case hy => (intro w hSw; (try dsimp only at hSw); go_simp; try with_reducible rfl)
  try simp only [Act.put, lA, lB, lC, lD, lE, lF]
  refine wpAnyH_ready (rs := [14]) (by kernel_rfl) (by simp) ?_
  refine AllReadyH.cons (o := _) rfl (fun K hK => ?_) AllReadyH.nil
  (try simp only [lA, lB, lC])
  go_simp
  refine hK.out _ _ ?hs4 (fun hHeld => ?_)
  case hs4 =>
   exact cell_at (setCell_row HB5.out _) rfl
  clear hK K
  try simp only [Act.put, lA, lB, lC, lD, lE, lF]
  refine wpAnyH_done (by kernel_rfl) ?_ _
  have hPw := HPW.out
  have hg5 : w3.heap.size <= g := by
   rcases HAT.out with h | h
   ·simp [lH] at h
   ·exact h
  have hB6 : (w5.setCell ⟨P, 4, none⟩ (.slice (some ⟨g, 0, none⟩) 1 cap)).heap[P]? = some (.cells #[.pointer (some ⟨w.heap.size, 0, none⟩), .slice (some ⟨g1, 0, none⟩) 1 cap1, .slice none 0 0, .slice none 0 0, .slice (some ⟨g, 0, none⟩) 1 cap, .bool false, .int .i64 0, .slice none 0 0, .slice none 0 0, .slice none 0 0, .slice none 0 0] 94 (0, 0)) := setCell_row HB5.out _
  have hO6 : (w5.setCell ⟨P, 4, none⟩ (.slice (some ⟨g, 0, none⟩) 1 cap)).ownsRow 0 100 4 (.slice (some ⟨g, 0, none⟩) 1 cap) 1 [.int .i64 0, .int .i64 0, .slice (some ⟨g1, 0, none⟩) 1 cap1, .bool true] := owns_setCell HOW.out (by simp [lH]; omega) _
  have hT6 : Turn (fun b => b = P) w2 (w5.setCell ⟨P, 4, none⟩ (.slice (some ⟨g, 0, none⟩) 1 cap)) := Turn.setCell (S := fun b => b = P) (p := ⟨P, 4, none⟩) (HT3.out.trans' HT5.out (fun b _ e => by simp [lH] at e)) (fun _ => rfl) _
  have HG6l : Hid (w3.heap.size <= g) := hg5
  generalize World.setCell w5 _ _ = w6 at hB6 hO6 hT6 hHeld ⊢
  have hl6 := hT6.size
  have hgP6 : g < w6.heap.size := owns_lt hO6 rfl
  have hg1l : P <= g1 /\ g1 < w2.heap.size := World.ownsRow.lt HO2.out g1 rfl
  have hq6 : w6.heap[P + 1]? = some (.cells #[.slice none 0 0, .slice none 0 0] 98 (0, 0)) := hT6.ref HQB.out (fun e => by omega)
  have hd6 : w6.heap[w.heap.size]? = some (.cells #[.slice none 0 0, .slice none 0 0, .slice none 0 0, .bool false, .int .i64 0, .bool false] 114 (0, 0)) := hT6.ref HDB.out (fun e => by omega)
  have hx6 : w6.cell? ⟨g1, 0, none⟩ = some (.pointer (some ⟨P + 1, 0, none⟩)) := hT6.cell (owns_cell HO2.out rfl) (fun e => hg1P e)
  have hone : OneIs w6 (fun b => b = P + 1 \/ b = g1) (.slice (some ⟨g1, 0, none⟩) 1 cap1) (P + 1) := ⟨g1, cap1, rfl, .inr rfl, hx6⟩
  have hgame : GameOf w6 P w.heap.size (fun b => b = P + 1 \/ b = g1) ⟨.slice (some ⟨g1, 0, none⟩) 1 cap1, .slice none 0 0, .slice (some ⟨g, 0, none⟩) 1 cap, .slice none 0 0, .slice none 0 0, .slice none 0 0, .slice none 0 0⟩ (P + 1) [] [] [] 1 := by
   refine ⟨hB6, hone, ⟨.slice none 0 0, .slice none 0 0, [], hq6, .inl rfl, .inl ⟨rfl, rfl⟩, rfl, fun i hi => absurd hi (Nat.not_lt_zero _), .inl ⟨rfl, rfl⟩⟩, ⟨none, 0, rfl, .inl rfl⟩, ⟨1, Nat.le_refl _, [[.int .i64 0, .int .i64 0, .slice (some ⟨g1, 0, none⟩) 1 cap1, .bool true]], by simpa using hO6, rfl, fun cc hcc => ?_⟩, ⟨0, by omega, [], World.ownsRow_nil _ _ _ _, fun k hk => absurd hk (Nat.not_lt_zero _)⟩, ⟨0, by omega, [], World.ownsRow_nil _ _ _ _, fun k hk => absurd hk (Nat.not_lt_zero _)⟩, ⟨0, by omega, [], World.ownsRow_nil _ _ _ _, fun k hk => absurd hk (Nat.not_lt_zero _)⟩, ⟨0, by omega, [], World.ownsRow_nil _ _ _ _, fun k hk => absurd hk (Nat.not_lt_zero _)⟩, fun b hb => ?_, fun b hb hg => ?_⟩
   ·rw [List.mem_singleton.1 hcc]
    exact ⟨0, 0, _, true, P + 1, rfl, hone⟩
   ·rcases hb with e | e <;> omega
   ·rcases hb with e | e | e | e | e | e
    ·rcases hg with k | k <;> omega
    ·have e' : g = b := by simpa [lH] using e
     rcases hg with k | k <;> omega
    all_goals (simp [lH] at e)
  have hstore : StoreOk w6 w.heap.size (fun b => b = w.heap.size) [] [] [] := by
   refine ⟨⟨.slice none 0 0, .slice none 0 0, .slice none 0 0, 0, false, ⟨hd6, World.ownsRow_nil _ _ _ _, World.ownsRow_nil _ _ _ _, World.ownsRow_nil _ _ _ _, by simp, by simp, by simp, rfl, fun q hq => by simp [lH] at hq, fun q hq => by simp [lH] at hq, fun q hq => by simp [lH] at hq, fun b hb => ?_⟩, .inl rfl, .inl rfl, .inr ⟨rfl, rfl, rfl, rfl, rfl⟩⟩, by simp⟩
   omega
  have hown : ∀ b, GOwn P ⟨.slice (some ⟨g1, 0, none⟩) 1 cap1, .slice none 0 0, .slice (some ⟨g, 0, none⟩) 1 cap, .slice none 0 0, .slice none 0 0, .slice none 0 0, .slice none 0 0⟩ b -> b = P \/ b = g := fun b hb => by
   rcases hb with e | e | e | e | e | e
   ·exact .inl e
   ·exact .inr (by simpa [lH] using e.symm)
   all_goals (simp [lH] at e)
  have hfar : Far (fun b => b = w.heap.size) (fun b => b = P + 1 \/ b = g1) P ⟨.slice (some ⟨g1, 0, none⟩) 1 cap1, .slice none 0 0, .slice (some ⟨g, 0, none⟩) 1 cap, .slice none 0 0, .slice none 0 0, .slice none 0 0, .slice none 0 0⟩ := fun b hb => ⟨fun hg => by rcases hg with k | k <;> omega, fun ho => by rcases hown b ho with k | k <;> omega⟩
  have HD : Hid (∀ w', w6 = w' -> _) := fun w' e => by subst e; exact storeDisk_ok hgame (by omega) hstore (by simp) ⟨[], rfl⟩
  have HFin : Hid _ := And.intro hstore (And.intro hfar hown)
  have HX6 : Hid (Ext w w6) := Turn.ext ((Turn.of_ext (S := fun _ => False) HXw2.out).trans' hT6 (fun b hb e => by omega))
  have hPl6 : P < w6.heap.size := by omega
  clear hPw hB6 hO6 hT6 hHeld hq6 hd6 hx6 hone hgame hstore hfar hown y1b f1b hg5
  go_wp2_with fail
  refine (HD.out _ rfl).mono ?_
  rintro e w7 ⟨rfl, v7, G7, hg7, hs7, _, _⟩
  obtain ⟨oa, oc, o3⟩ := hg7.ops_cell
  have o3' : w7.cell? ⟨P, 3, none⟩ = some (.slice oa 0 oc) := o3
  have hPl7 := lG w7 _ o3'
  have HG7 : Hid _ := And.intro hg7 hs7
  clear hg7 hs7 o3
  go_wp2
  go_ret
  obtain ⟨hst, hfar, hown⟩ := HFin.out
  have hPw := HPW.out
  have hg5 := HG6l.out
  have hk := hst.step HG7.out.2 hfar (fun b hb hl => by omega)
  have hsz := HG7.out.2.turn.size
  refine ⟨P, w.heap.size, rfl, ⟨G7, v7, P + 1, [], [], (fun b => b = w.heap.size), [], HG7.out.1, hk.1, hk.2, invS_nil, by simp, fun b hb => by omega, fun b hb => ?_, by omega⟩, Turn.ext ((Turn.of_ext (S := fun _ => False) HX6.out).trans' HG7.out.2.turn (fun b hb hor => ?_))⟩
  ·rcases HG7.out.2.own b hb with ho | ho
   ·rcases hown b ho with k | k <;> omega
   ·omega
  ·rcases hor with ho | ho
   ·rcases hown b ho with k | k <;> omega
   ·omega
 ·skip
  (try simp only [lA, lB, lC])
  go_simp
  refine hK.out _ _ ?hs1 (fun hHeld => ?_)
  case hs1 => exact SD.out _ (Turn.of_ext (Ext.drew (Ext.alloc (Ext.refl _) _)))
  clear hK K
  try simp only [Act.put, lA, lB, lC, lD, lE, lF]
  refine wpAnyH_ready (rs := [4]) (by kernel_rfl) (by simp) ?_
  refine AllReadyH.cons (o := _) rfl (fun K hK => ?_) AllReadyH.nil
  (try simp only [lA, lB, lC])
  go_simp
  refine hK.out _ _ ?hs2 (fun hHeld => ?_)
  case hs2 => exact SD.out _ (Turn.of_ext (Ext.drew (Ext.alloc (Ext.refl _) _)))
  clear hK K
  try simp only [Act.put, lA, lB, lC, lD, lE, lF]
  refine wpAnyH_ready (rs := [11]) (by kernel_rfl) (by simp) ?_
  refine AllReadyH.cons (o := _) rfl (fun K hK => ?_) AllReadyH.nil
  refine step_append_lies _ (by rfl) _ _ 86 (by rfl) 0 100 k0 _ 4 48 Tryz.underlying86 hk0i hw0 hw1 hw2 (by rfl) (by decide) (.slice none 0 0) 0 [] (by rfl) (World.ownsRow_nil _ _ _ _) ⟨_, 0, none⟩ 1 1 [.int .i64 0, .int .i64 0, .slice (some ⟨g1, 0, none⟩) 1 cap1, .bool true] (by rfl) (by rfl) (World.news_of_block (at_drew (heap_alloc_new _ _))) (by simp [Value.oneCell']) (by decide) (by unfold maxLen; omega) (by omega) (Nat.zero_le _) _ rfl ?_
  intro g cap w5 hown5 hgrow5 hat5 hlt5
  have HT5 : Hid (Turn (fun b => lH (.slice none 0 0) = some b) w3 w5) := Turn.grown (Turn.of_ext (Ext.drew (Ext.alloc (Ext.refl _) _))) hgrow5 (fun q hq _ => hq)
  have HOW : Hid (w5.ownsRow 0 100 4 (.slice (some ⟨g, 0, none⟩) 1 cap) 1 ([] ++ [.int .i64 0, .int .i64 0, .slice (some ⟨g1, 0, none⟩) 1 cap1, .bool true])) := hown5
  have HAT : Hid (lH (.slice none 0 0) = some g \/ w3.heap.size <= g) := by
   rcases hat5 with h | h
   ·exact .inl h
   ·exact .inr (by rw [h]; exact (Turn.of_ext (Ext.drew (Ext.alloc (Ext.refl _) _)) : Turn (fun _ => False) w3 _).size)
  have HB5 : Hid (w5.heap[P]? = some (.cells #[.pointer (some ⟨w.heap.size, 0, none⟩), .slice (some ⟨g1, 0, none⟩) 1 cap1, .slice none 0 0, .slice none 0 0, .slice none 0 0, .bool false, .int .i64 0, .slice none 0 0, .slice none 0 0, .slice none 0 0, .slice none 0 0] 94 (0, 0))) := HT5.out.ref HG3.out (fun e => by simp [lH] at e)
  have y1b : w5.cell? ⟨P, 4, none⟩ = some (.slice none 0 0) := cell_at HB5.out rfl
  have f1b := frozen_row HB5.out 4
  refine hK.out _ _ ?hs3 (fun hHeld => ?_)
  case hs3 => exact SD.out _ HT5.out
  clear hK K hown5 hgrow5 hat5
  try simp only [Act.put, lA, lB, lC, lD, lE, lF]
  refine wpAnyH_take (i := 12) (oi := _) (v := ?v12) rfl (by kernel_rfl) (by kernel_rfl) (by kernel_rfl) (fun _ _ _ h => h) (Or.inl ⟨by rfl, ?hy⟩) hHeld ?_
  case hy => (intro w hSw; (try dsimp only at hSw); go_simp; try with_reducible rfl)
  try simp only [Act.put, lA, lB, lC, lD, lE, lF]
  refine wpAnyH_take (i := 13) (oi := _) (v := ?v13) rfl (by kernel_rfl) (by kernel_rfl) (by kernel_rfl) (fun _ _ _ h => h) (Or.inl ⟨by rfl, ?hy⟩) hHeld ?_
  case hy => (intro w hSw; (try dsimp only at hSw); go_simp; try with_reducible rfl)
  try simp only [Act.put, lA, lB, lC, lD, lE, lF]
  refine wpAnyH_ready (rs := [14]) (by kernel_rfl) (by simp) ?_
  refine AllReadyH.cons (o := _) rfl (fun K hK => ?_) AllReadyH.nil
  (try simp only [lA, lB, lC])
  go_simp
  refine hK.out _ _ ?hs4 (fun hHeld => ?_)
  case hs4 =>
   exact cell_at (setCell_row HB5.out _) rfl
  clear hK K
  try simp only [Act.put, lA, lB, lC, lD, lE, lF]
  refine wpAnyH_done (by kernel_rfl) ?_ _
  have hPw := HPW.out
  have hg5 : w3.heap.size <= g := by
   rcases HAT.out with h | h
   ·simp [lH] at h
   ·exact h
  have hB6 : (w5.setCell ⟨P, 4, none⟩ (.slice (some ⟨g, 0, none⟩) 1 cap)).heap[P]? = some (.cells #[.pointer (some ⟨w.heap.size, 0, none⟩), .slice (some ⟨g1, 0, none⟩) 1 cap1, .slice none 0 0, .slice none 0 0, .slice (some ⟨g, 0, none⟩) 1 cap, .bool false, .int .i64 0, .slice none 0 0, .slice none 0 0, .slice none 0 0, .slice none 0 0] 94 (0, 0)) := setCell_row HB5.out _
  have hO6 : (w5.setCell ⟨P, 4, none⟩ (.slice (some ⟨g, 0, none⟩) 1 cap)).ownsRow 0 100 4 (.slice (some ⟨g, 0, none⟩) 1 cap) 1 [.int .i64 0, .int .i64 0, .slice (some ⟨g1, 0, none⟩) 1 cap1, .bool true] := owns_setCell HOW.out (by simp [lH]; omega) _
  have hT6 : Turn (fun b => b = P) w2 (w5.setCell ⟨P, 4, none⟩ (.slice (some ⟨g, 0, none⟩) 1 cap)) := Turn.setCell (S := fun b => b = P) (p := ⟨P, 4, none⟩) (HT3.out.trans' HT5.out (fun b _ e => by simp [lH] at e)) (fun _ => rfl) _
  have HG6l : Hid (w3.heap.size <= g) := hg5
  generalize World.setCell w5 _ _ = w6 at hB6 hO6 hT6 hHeld ⊢
  have hl6 := hT6.size
  have hgP6 : g < w6.heap.size := owns_lt hO6 rfl
  have hg1l : P <= g1 /\ g1 < w2.heap.size := World.ownsRow.lt HO2.out g1 rfl
  have hq6 : w6.heap[P + 1]? = some (.cells #[.slice none 0 0, .slice none 0 0] 98 (0, 0)) := hT6.ref HQB.out (fun e => by omega)
  have hd6 : w6.heap[w.heap.size]? = some (.cells #[.slice none 0 0, .slice none 0 0, .slice none 0 0, .bool false, .int .i64 0, .bool false] 114 (0, 0)) := hT6.ref HDB.out (fun e => by omega)
  have hx6 : w6.cell? ⟨g1, 0, none⟩ = some (.pointer (some ⟨P + 1, 0, none⟩)) := hT6.cell (owns_cell HO2.out rfl) (fun e => hg1P e)
  have hone : OneIs w6 (fun b => b = P + 1 \/ b = g1) (.slice (some ⟨g1, 0, none⟩) 1 cap1) (P + 1) := ⟨g1, cap1, rfl, .inr rfl, hx6⟩
  have hgame : GameOf w6 P w.heap.size (fun b => b = P + 1 \/ b = g1) ⟨.slice (some ⟨g1, 0, none⟩) 1 cap1, .slice none 0 0, .slice (some ⟨g, 0, none⟩) 1 cap, .slice none 0 0, .slice none 0 0, .slice none 0 0, .slice none 0 0⟩ (P + 1) [] [] [] 1 := by
   refine ⟨hB6, hone, ⟨.slice none 0 0, .slice none 0 0, [], hq6, .inl rfl, .inl ⟨rfl, rfl⟩, rfl, fun i hi => absurd hi (Nat.not_lt_zero _), .inl ⟨rfl, rfl⟩⟩, ⟨none, 0, rfl, .inl rfl⟩, ⟨1, Nat.le_refl _, [[.int .i64 0, .int .i64 0, .slice (some ⟨g1, 0, none⟩) 1 cap1, .bool true]], by simpa using hO6, rfl, fun cc hcc => ?_⟩, ⟨0, by omega, [], World.ownsRow_nil _ _ _ _, fun k hk => absurd hk (Nat.not_lt_zero _)⟩, ⟨0, by omega, [], World.ownsRow_nil _ _ _ _, fun k hk => absurd hk (Nat.not_lt_zero _)⟩, ⟨0, by omega, [], World.ownsRow_nil _ _ _ _, fun k hk => absurd hk (Nat.not_lt_zero _)⟩, ⟨0, by omega, [], World.ownsRow_nil _ _ _ _, fun k hk => absurd hk (Nat.not_lt_zero _)⟩, fun b hb => ?_, fun b hb hg => ?_⟩
   ·rw [List.mem_singleton.1 hcc]
    exact ⟨0, 0, _, true, P + 1, rfl, hone⟩
   ·rcases hb with e | e <;> omega
   ·rcases hb with e | e | e | e | e | e
    ·rcases hg with k | k <;> omega
    ·have e' : g = b := by simpa [lH] using e
     rcases hg with k | k <;> omega
    all_goals (simp [lH] at e)
  have hstore : StoreOk w6 w.heap.size (fun b => b = w.heap.size) [] [] [] := by
   refine ⟨⟨.slice none 0 0, .slice none 0 0, .slice none 0 0, 0, false, ⟨hd6, World.ownsRow_nil _ _ _ _, World.ownsRow_nil _ _ _ _, World.ownsRow_nil _ _ _ _, by simp, by simp, by simp, rfl, fun q hq => by simp [lH] at hq, fun q hq => by simp [lH] at hq, fun q hq => by simp [lH] at hq, fun b hb => ?_⟩, .inl rfl, .inl rfl, .inr ⟨rfl, rfl, rfl, rfl, rfl⟩⟩, by simp⟩
   omega
  have hown : ∀ b, GOwn P ⟨.slice (some ⟨g1, 0, none⟩) 1 cap1, .slice none 0 0, .slice (some ⟨g, 0, none⟩) 1 cap, .slice none 0 0, .slice none 0 0, .slice none 0 0, .slice none 0 0⟩ b -> b = P \/ b = g := fun b hb => by
   rcases hb with e | e | e | e | e | e
   ·exact .inl e
   ·exact .inr (by simpa [lH] using e.symm)
   all_goals (simp [lH] at e)
  have hfar : Far (fun b => b = w.heap.size) (fun b => b = P + 1 \/ b = g1) P ⟨.slice (some ⟨g1, 0, none⟩) 1 cap1, .slice none 0 0, .slice (some ⟨g, 0, none⟩) 1 cap, .slice none 0 0, .slice none 0 0, .slice none 0 0, .slice none 0 0⟩ := fun b hb => ⟨fun hg => by rcases hg with k | k <;> omega, fun ho => by rcases hown b ho with k | k <;> omega⟩
  have HD : Hid (∀ w', w6 = w' -> _) := fun w' e => by subst e; exact storeDisk_ok hgame (by omega) hstore (by simp) ⟨[], rfl⟩
  have HFin : Hid _ := And.intro hstore (And.intro hfar hown)
  have HX6 : Hid (Ext w w6) := Turn.ext ((Turn.of_ext (S := fun _ => False) HXw2.out).trans' hT6 (fun b hb e => by omega))
  have hPl6 : P < w6.heap.size := by omega
  clear hPw hB6 hO6 hT6 hHeld hq6 hd6 hx6 hone hgame hstore hfar hown y1b f1b hg5
  go_wp2_with fail
  refine (HD.out _ rfl).mono ?_
  rintro e w7 ⟨rfl, v7, G7, hg7, hs7, _, _⟩
  obtain ⟨oa, oc, o3⟩ := hg7.ops_cell
  have o3' : w7.cell? ⟨P, 3, none⟩ = some (.slice oa 0 oc) := o3
  have hPl7 := lG w7 _ o3'
  have HG7 : Hid _ := And.intro hg7 hs7
  clear hg7 hs7 o3
  go_wp2
  go_ret
  obtain ⟨hst, hfar, hown⟩ := HFin.out
  have hPw := HPW.out
  have hg5 := HG6l.out
  have hk := hst.step HG7.out.2 hfar (fun b hb hl => by omega)
  have hsz := HG7.out.2.turn.size
  refine ⟨P, w.heap.size, rfl, ⟨G7, v7, P + 1, [], [], (fun b => b = w.heap.size), [], HG7.out.1, hk.1, hk.2, invS_nil, by simp, fun b hb => by omega, fun b hb => ?_, by omega⟩, Turn.ext ((Turn.of_ext (S := fun _ => False) HX6.out).trans' HG7.out.2.turn (fun b hb hor => ?_))⟩
  ·rcases HG7.out.2.own b hb with ho | ho
   ·rcases hown b ho with k | k <;> omega
   ·omega
  ·rcases hor with ho | ho
   ·rcases hown b ho with k | k <;> omega
   ·omega
end
-- JPl
section
open Go.RowKit Go.Maps
section
variable {Pr : Program}
/-- A load of a value that lies inside a row. -/
theorem run_loadVar_at (w : World) (g off : Nat) (ty : TypeId) (cs : Array Value) (d : TypeDesc) (hc : ∀ j v, cs[j]? = some v -> w.cell? ⟨g, off + j, none⟩ = some v)
  (hu : Pr.underlying ty = some d) (hd : (match d with | .struct _ | .array _ _ => true | _ => false) = true) (hi : (Pr.info? ty).map (·.size) = some cs.size) :
  (loadVar ty ⟨g, off, none⟩).run Pr w = .ok (.agg cs) w := by
 have hl : (loadCells ⟨g, off, none⟩ cs.toList.length).run Pr w = .ok cs.toList.toArray w :=
  run_loadCells_list (P := Pr) w ⟨g, off, none⟩ cs.toList (fun j v hv => by
   rw [addr_add']
   exact hc j v (by simpa using hv))
 cases hq : Pr.info? ty with
 | none => simp [hq] at hi
 | some i =>
  have hs : i.size = cs.size := by simpa [hq] using hi
  have hagg : (isAgg ty).run Pr w = .ok true w := by
   unfold isAgg
   rw [Sem.run_bind, run_underlying hu w]
   cases d <;> simp_all
  simp only [Array.length_toList, Array.toArray_toList] at hl
  simp [loadVar, Sem.run_bind, hagg, sizeOf, typeInfo, hq, hs, hl]
theorem wpList_load_at {ops : Array Oper} {rest : List Oper} {o : Oper} {a : Act} {w : World} {Q : Exit -> Act -> World -> Prop} (hgd : o.guard = none) (ty : TypeId) (x : Operand) (ho : o.op = .load ty x)
  (g off : Nat) (hx : a.eval x = .pointer (some ⟨g, off, none⟩)) (cs : Array Value) (d : TypeDesc) (hc : ∀ j v, cs[j]? = some v -> w.cell? ⟨g, off + j, none⟩ = some v)
  (hu : Pr.underlying ty = some d) (hd : (match d with | .struct _ | .array _ _ => true | _ => false) = true) (hi : (Pr.info? ty).map (·.size) = some cs.size)
  (h : wpList Pr ops Q rest (a.put o.dst (.agg cs)) w) : wpList Pr ops Q (o :: rest) a w :=
 wpList_plain hgd fun _ hK => by
  unfold Oper.wp execOp
  simp only [ho, hx, Instr.loadAt, Instr.sureAddr, Sem.run_bind, Sem.run_pure, Result.andThen_ok, run_loadVar_at w g off ty cs d hc hu hd hi]
  exact hK _ _ h
end
/-- A step of a script, as it lies. -/
def StepIs (w : World) (N0 : Nat) (cs : Array Value) : Prop := ∃ (sk sa sb kd m k n r0 r1 r2 r3 r4 r5 r6 r7 r8 r9 st : Int) (ss : ByteArray) (ca : Option Addr) (cl ccap : Nat) (a : Option Addr) (len cap : Nat) (D : List Int),
 cs = #[.int .i64 sk, .int .i64 sa, .int .i64 sb, .int .i64 kd, .int .i64 m, .int .i64 k, .int .i64 n, .slice a len cap, .int .i64 r0, .int .i64 r1, .int .i64 r2, .int .i64 r3, .int .i64 r4, .int .i64 r5, .int .i64 r6, .int .i64 r7, .int .i64 r8, .int .i64 r9, .string ss, .slice ca cl ccap, .int .i64 st] /\ D.length = len /\ inU64 D /\ len <= 100000000 /\ len <= cap /\ DrawsAt w a len D /\ ∀ b off, len ≠ 0 /\ a = some ⟨b, off, none⟩ -> b < N0
theorem StepIs.turn {w w' : World} {N0 : Nat} {cs : Array Value} (h : StepIs w N0 cs) (ht : Turn (fun b => N0 <= b) w w') : StepIs w' N0 cs := by
 obtain ⟨sk, sa, sb, kd, m, k, n, r0, r1, r2, r3, r4, r5, r6, r7, r8, r9, st, ss, ca, cl, ccap, a, len, cap, D, h1, h2, h3, h4, h5, h6, h7⟩ := h
 exact ⟨sk, sa, sb, kd, m, k, n, r0, r1, r2, r3, r4, r5, r6, r7, r8, r9, st, ss, ca, cl, ccap, a, len, cap, D, h1, h2, h3, h4, h5, h6.turn ht (fun b off e hl => by have := h7 b off e; omega), h7⟩
def ScriptAt (w : World) (N0 : Nat) (sa : Option Addr) (n : Nat) : Prop := n = 0 \/ ∃ b off, sa = some ⟨b, off, none⟩ /\ b < N0 /\ ∀ i, i < n -> ∃ cs, StepIs w N0 cs /\ ∀ j v, cs[j]? = some v -> w.cell? ⟨b, off + i * 21 + j, none⟩ = some v
theorem ScriptAt.turn {w w' : World} {N0 : Nat} {sa : Option Addr} {n : Nat} (h : ScriptAt w N0 sa n) (ht : Turn (fun b => N0 <= b) w w') : ScriptAt w' N0 sa n := by
 rcases h with h | ⟨b, off, e, hb, hc⟩
 ·exact .inl h
 ·refine .inr ⟨b, off, e, hb, fun i hi => ?_⟩
  obtain ⟨cs, h1, h2⟩ := hc i hi
  exact ⟨cs, h1.turn ht, fun j v hv => ht.cell (h2 j v hv) (fun hl => by simp only at hl; omega)⟩
/-- A step of a script is played. -/
theorem stepIs_c {w : World} {P B N0 c : Nat} (h : Live w P B N0 c) (hc : c <= 200000) {cs : Array Value} (hs : StepIs w N0 cs) {sk : Int} (h0 : cs[0]? = some (.int .i64 sk)) (hsk : sk <= 3) :
  Calls Tryz.prog 42 #[.pointer (some ⟨P, 0, none⟩), .agg cs] w fun e w' => e = .returned (.bool true) /\ Live w' P B N0 (c + 3) /\ Turn (fun b => N0 <= b) w w' := by
 obtain ⟨sk', sa, sb, kd, m, k, n, r0, r1, r2, r3, r4, r5, r6, r7, r8, r9, st, ss, ca, cl, ccap, a, len, cap, D, h1, h2, h3, h4, h5, h6, h7⟩ := hs
 subst h1
 have e : sk' = sk := by
  have h0' : some (Value.int .i64 sk') = some (Value.int .i64 sk) := h0
  injection h0' with h0'
  injection h0'
 subst e
 exact step_c h hc sk' sa sb kd m k n r0 r1 r2 r3 r4 r5 r6 r7 r8 r9 st hsk ss ca cl ccap a len cap D h2 h3 h4 h5 h6 h7
end
-- JPy
section
set_option maxRecDepth 100000
set_option maxHeartbeats 6400000
open Go.RowKit Go.Maps
theorem wpList_val {P : Program} {ops : Array Oper} {rest : List Oper} {o : Oper} {a : Act} {w : World} {Q : Exit -> Act -> World -> Prop} (hg : o.guard = none) (v : Value) (h : (execOp a.eval o).run P w = .ok (.value v) w) (hn : wpList P ops Q rest (a.put o.dst v) w) : wpList P ops Q (o :: rest) a w :=
 wpList_plain hg fun K hK => by unfold Oper.wp; rw [h]; exact hK _ _ hn
theorem plays_c {w : World} {P B N0 : Nat} (h : Live w P B N0 2) (sa : Option Addr) (n cap : Nat) (hn : n <= 60000) (hs : ScriptAt w N0 sa n) :
  Calls Tryz.prog 12 #[.pointer (some ⟨P, 0, none⟩), .pointer (some ⟨P, 0, none⟩), .slice sa n cap, .int .i64 3] w fun e w' => e = .returned (.bool true) /\ Turn (fun b => N0 <= b) w w' := by
 have HL : Hid (Live w P B N0 2) := h
 have HSc : Hid (ScriptAt w N0 sa n) := hs
 clear h hs
 go_enter Tryz.func12, Tryz.ntmps12
 go_wp2_with fail
 go_loopw [9, 10, 11, 12] (fun at_ _ _ _ wr => ∃ j : Nat, j <= n /\ at_ = .int .i64 (j : Int) /\ Live wr P B N0 (2 + 3 * j) /\ Turn (fun b => N0 <= b) w wr) (fun at_ _ _ _ _ => n - (intOf at_).toNat)
 case atStart => exact ⟨0, Nat.zero_le _, rfl, HL.out, Turn.refl _ _⟩
 case round =>
  obtain ⟨j, hj, rfl, hl, ht⟩ := hrel
  have HLj : Hid (Live wr P B N0 (2 + 3 * j)) := hl
  have HTj : Hid (Turn (fun b => N0 <= b) w wr) := ht
  by_cases hlt : j < n
  ·obtain ⟨b, off, rfl, hb, hcs⟩ := (HSc.out.turn ht).resolve_left (by omega)
   obtain ⟨cs, hsi, hcell⟩ := hcs j hlt
   obtain ⟨sk, st, h0, h20, hsz⟩ : ∃ sk st, cs[0]? = some (.int .i64 sk) /\ cs[20]? = some (.int .i64 st) /\ cs.size = 21 := by
    obtain ⟨sk, sa, sb, kd, m, k, n', r0, r1, r2, r3, r4, r5, r6, r7, r8, r9, st, ss, ca, cl, ccap, a, len, cp, D, h1, _⟩ := hsi
    subst h1
    exact ⟨sk, st, rfl, rfl, rfl⟩
   have e0 : wr.cell? ⟨b, off + j * 21, none⟩ = some (.int .i64 sk) := hcell 0 _ h0
   have e20 : wr.cell? ⟨b, off + j * 21 + 20, none⟩ = some (.int .i64 st) := hcell 20 _ h20
   have hbl := lG wr _ e0
   have hk0 : (0 : Int) <= (j : Int) := by omega
   have hk1 : (j : Int) < n := by omega
   have HCs : Hid (StepIs wr N0 cs /\ (∀ i v, cs[i]? = some v -> wr.cell? ⟨b, off + j * 21 + i, none⟩ = some v) /\ cs[0]? = some (.int .i64 sk)) := ⟨hsi, hcell, h0⟩
   have HI : Hid ((Tryz.prog.info? 103).map (·.size) = some cs.size) := by
    show _ = _
    rw [hsz]; kernel_rfl
   clear hl ht hsi hcell hcs h0 h20 hsz
   by_cases hsk : sk <= 3
   ·have hgt : ¬ 3 < sk := by omega
    have HSt : Hid (∀ w', wr = w' -> _) := fun w' e => by subst e; exact stepIs_c HLj.out (by omega) HCs.out.1 HCs.out.2.2 hsk
    refine wp_seq_k (fun K1 hK1 => ?_)
    have HK1 : Hid (∀ a w, _ -> K1 a w) := hK1
    clear hK1
    go_wp2_with fail
    refine HK1.out _ _ ?_
    refine wp_seq_k (fun K2 hK2 => ?_)
    have HK2 : Hid (∀ a w, _ -> K2 a w) := hK2
    clear hK2
    refine wp_block ?_
    refine wp_seq_k (fun K3 hK3 => ?_)
    have HK3 : Hid (∀ a w, _ -> K3 a w) := hK3
    clear hK3
    go_wp2_with fail
    refine HK3.out _ _ ?_
    refine wp_seq_k (fun K4 hK4 => ?_)
    have HK4 : Hid (∀ a w, _ -> K4 a w) := hK4
    clear hK4
    go_wp2_with fail
    refine HK4.out _ _ ?_
    refine wp_seq_k (fun K5 hK5 => ?_)
    have HK5 : Hid (∀ a w, _ -> K5 a w) := hK5
    clear hK5
    go_wp2_with fail
    all_goals
     refine HK5.out _ _ ?_
     refine wp_seq_k (fun K6 hK6 => ?_)
     have HK6 : Hid (∀ a w, _ -> K6 a w) := hK6
     clear hK6
     refine wp_region_lit ?_
     refine wpList_move rfl (.tmp 10) rfl (.pointer (some ⟨P, 0, none⟩)) rfl ?_
     refine wpList_move rfl (.tmp 2) rfl (.slice (some ⟨b, off, none⟩) n cap) rfl ?_
     refine wpList_move rfl (.tmp 9) rfl (.int .i64 (j : Int)) rfl ?_
     refine wpList_val rfl (.pointer (some ⟨b, off + j * 21, none⟩)) (by go_simp) ?_
     refine wpList_load_at rfl 103 _ rfl b (off + j * 21) rfl cs _ HCs.out.2.1 Tryz.underlying103 rfl HI.out ?_
     go_wp2_with fail
     refine (HSt.out _ rfl).mono ?_
     rintro e w2 ⟨rfl, hl2, ht2⟩
     have HL2 : Hid (Live w2 P B N0 (2 + 3 * j + 3) /\ Turn (fun b => N0 <= b) wr w2) := And.intro hl2 ht2
     have HRd : Hid (∀ w', w2 = w' -> _) := fun w' e => by subst e; exact liveReads HL2.out.1 (by omega)
     clear hl2 ht2
     go_wp2_with fail
     refine HK6.out _ _ ?_
     go_wp2_with fail
     refine (HRd.out _ rfl).mono ?_
     rintro e w3 ⟨rfl, hx3⟩
     have HX3 : Hid (Ext w2 w3) := hx3
     clear hx3
     go_wp2_with fail
     refine HK2.out _ _ ?_
     go_wp2
     go_roundw
     case rel => exact ⟨j + 1, by omega, by go_num, by rw [show 2 + 3 * (j + 1) = 2 + 3 * j + 3 by omega]; exact HL2.out.1.ext HX3.out, HTj.out.trans (HL2.out.2.trans (Turn.of_ext HX3.out))⟩
     case measure => simp [intOf]; omega
   ·have hgt : 3 < sk := by omega
    go_wp2
    go_roundw
    case rel => exact ⟨j + 1, by omega, by go_num, HLj.out.count (by omega), HTj.out⟩
    case measure => simp [intOf]; omega
  ·obtain rfl : j = n := by omega
   have HLk : Hid (∀ w', wr = w' -> _) := fun w' e => by subst e; exact liveLooks HLj.out (by omega)
   clear hl ht hlt hj
   go_wp2_with fail
   refine (HLk.out _ rfl).mono ?_
   rintro e w2 ⟨rfl, hl2, ht2⟩
   have HL2 : Hid _ := And.intro hl2 ht2
   have HLk2 : Hid (∀ w', w2 = w' -> _) := fun w' e => by subst e; exact liveLooks HL2.out.1 (by omega)
   clear hl2 ht2
   go_wp2_with fail
   refine (HLk2.out _ rfl).mono ?_
   rintro e w3 ⟨rfl, hl3, ht3⟩
   have HT3 : Hid (Turn (fun b => N0 <= b) w2 w3) := ht3
   clear hl3 ht3
   go_wp2
   go_ret
   exact ⟨ret_bool (by simp), HTj.out.trans (HL2.out.2.trans HT3.out)⟩
end
-- JTp
section
set_option maxRecDepth 100000
open Go.RowKit Go.Maps
theorem asksTop_c (w : World) (sa : Option Addr) (n cap : Nat) (hn : n <= 60000) (hs : ScriptAt w w.heap.size sa n) :
  Calls Tryz.prog 3 #[.slice sa n cap] w fun e w' => e = .returned (.bool true) /\ Ext w w' := by
 have HB : Hid (∀ w', _) := fun w' => begin_c w'
 have HS : Hid (ScriptAt w w.heap.size sa n) := hs
 clear hs
 go_enter Tryz.func3, Tryz.ntmps3
 go_wp2_with fail
 refine (HB.out _).mono ?_
 rintro e w1 ⟨P, B, rfl, hl, hx⟩
 have HP : Hid (∀ w', w1 = w' -> _) := fun w' e => by subst e; exact plays_c hl sa n cap hn (HS.out.turn (Turn.of_ext hx))
 have HX : Hid (Ext w w1) := hx
 clear hl hx
 go_wp2_with fail
 refine (HP.out _ rfl).mono ?_
 rintro e w2 ⟨rfl, ht⟩
 have HT : Hid (Turn (fun b => w.heap.size <= b) w1 w2) := ht
 clear ht
 go_wp2
 go_ret
 exact ⟨rfl, Turn.ext ((Turn.of_ext (S := fun _ => False) HX.out).trans' HT.out (fun b hb hl => by omega))⟩
end
-- JOa
section
set_option maxRecDepth 100000
open Go.ChangeShapes Go.WideShapes Go.ChangeAt Go.RowKit Go.Joins
theorem bulk_one {H : Type} (d : DataW H) : 1 <= Rows.uptoBulk d := by
 cases d with
 | lit l => cases l <;> simp [Rows.uptoBulk]
 | _ => simp [Rows.uptoBulk]
theorem bulk_length {H : Type} (l : List (DataW H)) : l.length <= Rows.uptoBulkAll l := by
 induction l with
 | nil => simp [Rows.uptoBulkAll]
 | cons x r ih => have := bulk_one x; simp only [Rows.uptoBulkAll, List.length_cons]; omega
theorem bulk_part {H : Type} {d : DataW H} {l : List (DataW H)} (h : d ∈ l) : Rows.uptoBulk d <= Rows.uptoBulkAll l := by
 induction l with
 | nil => cases h
 | cons x r ih =>
  simp only [Rows.uptoBulkAll]
  cases List.mem_cons.1 h with
  | inl e => subst e; omega
  | inr e => have := ih e; omega
/-- So many elements of so much bulk each. -/
theorem bulk_times {H : Type} (l : List (DataW H)) (k : Nat) (h : ∀ d ∈ l, k <= Rows.uptoBulk d) : k * l.length <= Rows.uptoBulkAll l := by
 induction l with
 | nil => simp
 | cons x r ih =>
  have h1 := h x (by simp)
  have h2 := ih (fun d hd => h d (by simp [hd]))
  simp only [Rows.uptoBulkAll, List.length_cons, Nat.mul_add, Nat.mul_one]
  omega
theorem list4 {cs : List Value} (h : cs.length = 4) : ∃ c0 c1 c2 c3, cs = [c0, c1, c2, c3] := by
 match cs, h with
 | [c0, c1, c2, c3], _ => exact ⟨c0, c1, c2, c3, rfl⟩
theorem list10 {cs : List Value} (h : cs.length = 10) : ∃ c0 c1 c2 c3 c4 c5 c6 c7 c8 c9, cs = [c0, c1, c2, c3, c4, c5, c6, c7, c8, c9] := by
 match cs, h with
 | [c0, c1, c2, c3, c4, c5, c6, c7, c8, c9], _ => exact ⟨c0, c1, c2, c3, c4, c5, c6, c7, c8, c9, rfl⟩
theorem list21 {cs : List Value} (h : cs.length = 21) : ∃ c0 c1 c2 c3 c4 c5 c6 c7 c8 c9 c10 c11 c12 c13 c14 c15 c16 c17 c18 c19 c20, cs = [c0, c1, c2, c3, c4, c5, c6, c7, c8, c9, c10, c11, c12, c13, c14, c15, c16, c17, c18, c19, c20] := by
 match cs, h with
 | [c0, c1, c2, c3, c4, c5, c6, c7, c8, c9, c10, c11, c12, c13, c14, c15, c16, c17, c18, c19, c20], _ => exact ⟨c0, c1, c2, c3, c4, c5, c6, c7, c8, c9, c10, c11, c12, c13, c14, c15, c16, c17, c18, c19, c20, rfl⟩
theorem list9 {α : Type} {cs : List α} (h : cs.length = 9) : ∃ c0 c1 c2 c3 c4 c5 c6 c7 c8, cs = [c0, c1, c2, c3, c4, c5, c6, c7, c8] := by
 match cs, h with
 | [c0, c1, c2, c3, c4, c5, c6, c7, c8], _ => exact ⟨c0, c1, c2, c3, c4, c5, c6, c7, c8, rfl⟩
section
variable {H : Type} {enc : TypeId × Value -> H} {W : World} {base : Nat} {spare : Nat -> Bool} {held : Bool}
theorem cellsInt : Tryz.prog.cellsOf 3 = 1 := by kernel_rfl
theorem cellsU64 : Tryz.prog.cellsOf 146 = 1 := by kernel_rfl
theorem cellsWords : Tryz.prog.cellsOf 31 = 1 := by kernel_rfl
theorem cellsStr : Tryz.prog.cellsOf 9 = 1 := by kernel_rfl
theorem cellsIntsR : Tryz.prog.cellsOf 101 = 1 := by kernel_rfl
theorem cellsCls : Tryz.prog.cellsOf 49 = 4 := by kernel_rfl
theorem cellsReq : Tryz.prog.cellsOf 51 = 10 := by kernel_rfl
theorem cellsStep : Tryz.prog.cellsOf 103 = 21 := by kernel_rfl
theorem struct_bulk {t : TypeId} {fs : Array Field} {fuel : Nat} {cs : List Value} {x : DataW H × List MemPlace} (ht : Tryz.prog.underlying t = some (.struct fs)) (h : DataW.trod enc Tryz.prog W base spare held fuel t cs = some x) : fs.size + 1 <= Rows.uptoBulk x.1 := by
 obtain ⟨xs, n, _, rfl, _, hl, _⟩ := DataW.trod_struct ht h
 have := bulk_length (xs.map (·.1))
 simp only [List.length_map] at this
 simp only [Rows.uptoBulk]
 omega
theorem open_cls {fuel : Nat} {cs : List Value} {x : DataW H × List MemPlace} (h : DataW.trod enc Tryz.prog W base spare held fuel 49 cs = some x) :
  ∃ a b c d : Int, cs = [.int .i64 a, .int .i64 b, .int .i64 c, .int .i64 d] := by
 obtain ⟨y0, y1, y2, y3, n, _, hl, h0, h1, h2, h3⟩ := trod_struct4 Tryz.underlying49 h
 rw [cellsCls] at hl
 obtain ⟨c0, c1, c2, c3, rfl⟩ := list4 hl
 clear hl h
 simp [cellsInt] at h0 h1 h2 h3
 obtain ⟨a, e0, _⟩ := DataW.trod_int Tryz.underlying3 h0
 obtain ⟨b, e1, _⟩ := DataW.trod_int Tryz.underlying3 h1
 obtain ⟨c, e2, _⟩ := DataW.trod_int Tryz.underlying3 h2
 obtain ⟨d, e3, _⟩ := DataW.trod_int Tryz.underlying3 h3
 simp at e0 e1 e2 e3
 exact ⟨a, b, c, d, by rw [e0, e1, e2, e3]⟩
theorem open_req {fuel : Nat} {cs : List Value} {x : DataW H × List MemPlace} (h : DataW.trod enc Tryz.prog W base spare held fuel 51 cs = some x) :
  ∃ k s i ck cm cl cn f c p : Int, cs = [.int .i64 k, .int .i64 s, .int .i64 i, .int .i64 ck, .int .i64 cm, .int .i64 cl, .int .i64 cn, .int .i64 f, .int .i64 c, .int .i64 p] := by
 obtain ⟨xs, n, _, _, hl, hxl, hf⟩ := DataW.trod_struct Tryz.underlying51 h
 rw [cellsReq] at hl
 obtain ⟨c0, c1, c2, c3, c4, c5, c6, c7, c8, c9, rfl⟩ := list10 hl
 clear hl h
 have h0 := hf 0 _ rfl
 have h1 := hf 1 _ rfl
 have h2 := hf 2 _ rfl
 have h3 := hf 3 _ rfl
 have h4 := hf 4 _ rfl
 have h5 := hf 5 _ rfl
 have h6 := hf 6 _ rfl
 have hx : ∀ j, j < 7 -> ∃ y, xs[j]? = some y := fun j hj => ⟨_, List.getElem?_eq_getElem (by rw [hxl]; exact hj)⟩
 obtain ⟨y0, e0⟩ := hx 0 (by decide)
 obtain ⟨y1, e1⟩ := hx 1 (by decide)
 obtain ⟨y2, e2⟩ := hx 2 (by decide)
 obtain ⟨y3, e3⟩ := hx 3 (by decide)
 obtain ⟨y4, e4⟩ := hx 4 (by decide)
 obtain ⟨y5, e5⟩ := hx 5 (by decide)
 obtain ⟨y6, e6⟩ := hx 6 (by decide)
 rw [e0] at h0
 rw [e1] at h1
 rw [e2] at h2
 rw [e3] at h3
 rw [e4] at h4
 rw [e5] at h5
 rw [e6] at h6
 simp [cellsInt, cellsCls] at h0 h1 h2 h3 h4 h5 h6
 obtain ⟨k, d0, _⟩ := DataW.trod_int Tryz.underlying3 h0
 obtain ⟨s, d1, _⟩ := DataW.trod_int Tryz.underlying3 h1
 obtain ⟨i, d2, _⟩ := DataW.trod_int Tryz.underlying3 h2
 obtain ⟨ck, cm, cl, cn, d3⟩ := open_cls h3
 obtain ⟨f, d4, _⟩ := DataW.trod_int Tryz.underlying3 h4
 obtain ⟨c, d5, _⟩ := DataW.trod_int Tryz.underlying3 h5
 obtain ⟨p, d6, _⟩ := DataW.trod_int Tryz.underlying3 h6
 simp at d0 d1 d2 d3 d4 d5 d6
 obtain ⟨d3a, d3b, d3c, d3d⟩ := d3
 exact ⟨k, s, i, ck, cm, cl, cn, f, c, p, by rw [d0, d1, d2, d3a, d3b, d3c, d3d, d4, d5, d6]⟩
theorem open_step {fuel : Nat} {cs : List Value} {x : DataW H × List MemPlace} (h : DataW.trod enc Tryz.prog W base spare held fuel 103 cs = some x) (hb : Rows.uptoBulk x.1 <= 1048576) :
  18 <= Rows.uptoBulk x.1 /\ ∃ (sk sa sb kd m k n r0 r1 r2 r3 r4 r5 r6 r7 r8 r9 st : Int) (ss : ByteArray) (ca : Option Addr) (cl ccap : Nat) (a : Option Addr) (len cap : Nat) (D : List Int),
   cs = [.int .i64 sk, .int .i64 sa, .int .i64 sb, .int .i64 kd, .int .i64 m, .int .i64 k, .int .i64 n, .slice a len cap, .int .i64 r0, .int .i64 r1, .int .i64 r2, .int .i64 r3, .int .i64 r4, .int .i64 r5, .int .i64 r6, .int .i64 r7, .int .i64 r8, .int .i64 r9, .string ss, .slice ca cl ccap, .int .i64 st] /\ D.length = len /\ inU64 D /\ len <= 100000000 /\ len <= cap /\ DrawsAt W a len D /\ ∀ b off, len ≠ 0 /\ a = some ⟨b, off, none⟩ -> b < W.heap.size := by
 obtain ⟨xs, n, _, rfl, hl, hxl, hf⟩ := DataW.trod_struct Tryz.underlying103 h
 rw [cellsStep] at hl
 obtain ⟨c0, c1, c2, c3, c4, c5, c6, c7, c8, c9, c10, c11, c12, c13, c14, c15, c16, c17, c18, c19, c20, rfl⟩ := list21 hl
 have hxl9 : xs.length = 9 := hxl
 obtain ⟨y0, y1, y2, y3, y4, y5, y6, y7, y8, rfl⟩ := list9 hxl9
 clear hl h hxl hxl9
 have h0 := hf 0 _ rfl
 have h1 := hf 1 _ rfl
 have h2 := hf 2 _ rfl
 have h3 := hf 3 _ rfl
 have h4 := hf 4 _ rfl
 have h5 := hf 5 _ rfl
 have h6 := hf 6 _ rfl
 have h7 := hf 7 _ rfl
 have h8 := hf 8 _ rfl
 clear hf
 simp [cellsInt, cellsCls, cellsWords, cellsReq, cellsStr, cellsIntsR] at h0 h1 h2 h3 h4 h5 h6 h7 h8
 have b3 : 5 <= Rows.uptoBulk y3.1 := struct_bulk Tryz.underlying49 h3
 have b5 : 8 <= Rows.uptoBulk y5.1 := struct_bulk Tryz.underlying51 h5
 have b0 := bulk_one y0.1
 have b1 := bulk_one y1.1
 have b2 := bulk_one y2.1
 have b4 := bulk_one y4.1
 have b6 := bulk_one y6.1
 have b7 := bulk_one y7.1
 have b8 := bulk_one y8.1
 simp only [List.map_cons, List.map_nil, Rows.uptoBulk, Rows.uptoBulkAll] at hb ⊢
 refine ⟨by omega, ?_⟩
 have hb4 : Rows.uptoBulk y4.1 <= 1048576 := by omega
 clear hb b0 b1 b2 b3 b4 b5 b6 b7 b8
 obtain ⟨sk, d0, _⟩ := DataW.trod_int Tryz.underlying3 h0
 obtain ⟨sa, d1, _⟩ := DataW.trod_int Tryz.underlying3 h1
 obtain ⟨sb, d2, _⟩ := DataW.trod_int Tryz.underlying3 h2
 obtain ⟨kd, m, k, n', d3⟩ := open_cls h3
 obtain ⟨r0, r1, r2, r3, r4, r5, r6, r7, r8, r9, d5⟩ := open_req h5
 obtain ⟨ss, d6, _⟩ := DataW.trod_string Tryz.underlying9 h6
 obtain ⟨ca, cl, ccap, d7⟩ : ∃ (ca : Option Addr) (cl ccap : Nat), [c19] = [Value.slice ca cl ccap] := by
  rcases open_ints Tryz.underlying101 Tryz.underlying3 cellsInt h7 with ⟨hcs, _⟩ | ⟨x, l, c, zs, hcs, _⟩
  ·exact ⟨none, 0, 0, hcs⟩
  ·exact ⟨some x, l, c, hcs⟩
 obtain ⟨st, d8, _⟩ := DataW.trod_int Tryz.underlying3 h8
 obtain ⟨a, len, cap, D, d4, e1, e2, e3, e4, e5, e6⟩ : ∃ (a : Option Addr) (len cap : Nat) (D : List Int), [c7] = [Value.slice a len cap] /\ D.length = len /\ inU64 D /\ len <= 100000000 /\ len <= cap /\ DrawsAt W a len D /\ ∀ b off, len ≠ 0 /\ a = some ⟨b, off, none⟩ -> b < W.heap.size := by
  rcases open_ints Tryz.underlying31 Tryz.underlying146 cellsU64 h4 with ⟨hcs, _⟩ | ⟨x, l, c, zs, hcs, _, hl, hm, hz, hy, hcell, hwz⟩
  ·exact ⟨none, 0, 0, [], hcs, rfl, fun z hz => by simp at hz, by omega, by omega, .inl rfl, fun b off e => by simp at e⟩
  ·have hle : l <= zs.length := by rw [hz]; split <;> omega
   rw [hy] at hb4
   have hl4 : l <= 100000000 := by
    have h1 := bulk_length (lits (H := H) .u64 (zs.take l))
    simp only [Rows.uptoBulk] at hb4
    have h2 : (lits (H := H) .u64 (zs.take l)).length = l := by simp [lits]; omega
    omega
   refine ⟨some x, l, c, zs.take l, hcs, by simp; omega, ?_, hl4, hl, ?_, ?_⟩
   ·intro z hz'
    simpa [Lit.wf, IntKind.min, IntKind.max, IntKind.signed, IntKind.bits] using hwz z (List.mem_of_mem_take hz')
   ·by_cases h0 : l = 0
    ·exact .inl h0
    ·right
     obtain ⟨b, off, spot⟩ := x
     have hc0 := hcell 0 (by omega)
     have hspot : spot = none := by simpa [Addr.add] using World.cell?_spot hc0
     subst hspot
     refine ⟨b, off, rfl, fun i hi => ?_⟩
     have hi' : i < l := by simp at hi; omega
     have hci := hcell i (by omega)
     have e : (⟨b, off, none⟩ : Addr).add i = ⟨b, off + i, none⟩ := by unfold Addr.add; split <;> simp_all
     rw [e] at hci
     rw [hci]
     simp [List.getD_eq_getElem?_getD, hi']
   ·rintro b off ⟨hne, e⟩
    have e' : x = ⟨b, off, none⟩ := by simpa using e
    have hc0 := hcell 0 (by omega)
    rw [e'] at hc0
    exact lG W _ hc0
 simp at d0 d1 d2 d3 d4 d5 d6 d7 d8
 obtain ⟨d3a, d3b, d3c, d3d⟩ := d3
 obtain ⟨d50, d51, d52, d53, d54, d55, d56, d57, d58, d59⟩ := d5
 exact ⟨sk, sa, sb, kd, m, k, n', r0, r1, r2, r3, r4, r5, r6, r7, r8, r9, st, ss, ca, cl, ccap, a, len, cap, D, by rw [d0, d1, d2, d3a, d3b, d3c, d3d, d4, d50, d51, d52, d53, d54, d55, d56, d57, d58, d59, d6, d7, d8], e1, e2, e3, e4, e5, e6⟩
end
end
-- JOp
section
open Go.ChangeShapes Go.WideShapes Go.ChangeAt Go.RowKit Go.Joins
section
variable {H : Type} {enc : TypeId × Value -> H} {W : World}
theorem add_at (b off i : Nat) : (⟨b, off, none⟩ : Addr).add i = ⟨b, off + i, none⟩ := by unfold Addr.add; split <;> simp_all
/-- A script, read: its steps lie in old memory, and there are not too many. -/
theorem open_script {fuel : Nat} {v : Value} {y : DataW H × List MemPlace} (h : DataW.trod enc Tryz.prog W 0 (fun _ => true) true fuel 22 [v] = some y) (hb : Rows.uptoBulk y.1 <= 1048576) :
  ∃ (a : Option Addr) (n cap : Nat), v = .slice a n cap /\ n <= 60000 /\ ScriptAt W W.heap.size a n := by
 rcases Go.Deep.open_slice Tryz.underlying22 h with ⟨hcs, _⟩ | ⟨a, len, cap, m, n, D, Pl, hcs, _, hl, _, hm, rfl, hx⟩
 ·exact ⟨none, 0, 0, by simpa using hcs, by omega, .inl rfl⟩
 ·simp only [if_true] at hm
  subst hm
  simp only [Rows.uptoBulk] at hb
  have hd : ∀ i, i < len -> Rows.uptoBulk (D i) <= 1048576 := fun i hi => by
   have := bulk_part (d := D i) (l := (List.range len).map D) (List.mem_map.2 ⟨i, by simpa using hi, rfl⟩)
   omega
  have h18 := bulk_times ((List.range len).map D) 18 (fun d hd' => by
   obtain ⟨i, hi, rfl⟩ := List.mem_map.1 hd'
   have hi' : i < len := by simpa using hi
   obtain ⟨cs', _, ht⟩ := hx i (by omega)
   exact (open_step ht (hd i hi')).1)
  simp only [List.length_map, List.length_range] at h18
  refine ⟨some a, len, m, by simpa using hcs, by omega, ?_⟩
  by_cases h0 : len = 0
  ·exact .inl h0
  right
  obtain ⟨b, off, spot⟩ := a
  rw [cellsStep] at hx
  have hspot : spot = none := by
   obtain ⟨cs', hc, _⟩ := hx 0 (by omega)
   obtain ⟨_, hlen, hcell⟩ := World.cells?_some hc
   have h1 := hcell 0 (by omega)
   rw [List.getElem?_eq_getElem (by omega)] at h1
   simpa [Addr.add] using World.cell?_spot h1
  subst hspot
  have each : ∀ i, i < len -> ∃ cs : Array Value, StepIs W W.heap.size cs /\ cs.size = 21 /\ ∀ j v, cs[j]? = some v -> W.cell? ⟨b, off + i * 21 + j, none⟩ = some v := fun i hi => by
   obtain ⟨cs', hc, ht⟩ := hx i (by omega)
   obtain ⟨_, hlen, hcell⟩ := World.cells?_some hc
   obtain ⟨_, sk, sa, sb, kd, m, k, n, r0, r1, r2, r3, r4, r5, r6, r7, r8, r9, st, ss, ca, cl, ccap, a, len, cap, D, h1, h2, h3, h4, h5, h6, h7⟩ := open_step ht (hd i hi)
   refine ⟨cs'.toArray, ⟨sk, sa, sb, kd, m, k, n, r0, r1, r2, r3, r4, r5, r6, r7, r8, r9, st, ss, ca, cl, ccap, a, len, cap, D, by rw [h1], h2, h3, h4, h5, h6, h7⟩, by simpa using hlen, fun j v hv => ?_⟩
   have hv' : cs'[j]? = some v := by simpa using hv
   have hj : j < 21 := by
    have := (List.getElem?_eq_some_iff.1 hv').1
    omega
   have := hcell j hj
   rw [add_at, add_at, hv'] at this
   exact this
  refine ⟨b, off, rfl, ?_, fun i hi => by obtain ⟨cs, h1, _, h3⟩ := each i hi; exact ⟨cs, h1, h3⟩⟩
  obtain ⟨cs, _, h2, h3⟩ := each 0 (by omega)
  exact lG W _ (h3 0 cs[0] (Array.getElem?_eq_getElem (by omega)))
end
end
-- AsksProof
section
set_option maxRecDepth 100000
open Go.ChangeShapes Go.WideShapes Go.ChangeAt Go.RowKit Go.Joins
theorem ownA : ownKnob Tryz.prog.godebug = none := by kernel_rfl
theorem laidOutA : laidOutB Tryz.prog = true := by kernel_rfl
theorem asks_contract (H : Type) (enc : TypeId × Value -> H) (W : World) (base : Nat) (args : Array Value) (ds gs : List (DataW H)) (before : List MemPlace)
  (hval : ∀ (j : Nat) t v, Tryz.f3.params[j]? = some t -> args[j]? = some v -> Value.okWide Tryz.prog W .any base t v)
  (hW : DataW.Whole enc Tryz.prog Tryz.f3.params.toList Rows.asksSpec.vars false W args.toList ds gs before) (hk : Rows.uptoSmall H (ds ++ gs) = true) :
  Calls Tryz.prog 3 args W fun e W' => ∃ v, e = .returned v /\ Rows.asksSpec.post enc Tryz.prog Tryz.f3 false true false false W args v W' := by
 have hW' := hW
 obtain ⟨p, q, hA0, hV, rfl, hfz, hnd⟩ := hW
 have hA : DataW.TrodAll enc Tryz.prog W 0 (fun _ => true) true Tryz.f3.params.toList args.toList ds p := hA0
 rw [Tryz.params3] at hA hval
 obtain ⟨v0, vs0, d0, ds0, p0, q0, hargs, rfl, rfl, h0, r0⟩ := trodAll_cons hA
 obtain ⟨rfl, rfl, rfl⟩ := trodAll_nil r0
 obtain rfl : args = #[v0] := by cases args; simp_all
 obtain ⟨rfl, rfl⟩ := trodVars_none hV
 have k0 := h0
 have lt0 : ∀ x ∈ p0, x.block < W.heap.size := by obtain ⟨m, hm⟩ := k0; exact DataW.trod_lt m _ _ _ hm
 have hbulk : Rows.uptoBulk d0 <= 1048576 := by
  have h : Rows.uptoBulkAll ([d0] ++ []) <= 1048576 := of_decide_eq_true hk
  simpa [Rows.uptoBulkAll] using h
 obtain ⟨a0, len0, cap0, rfl⟩ := okWide_slice Tryz.underlying22 (hval 0 22 v0 rfl rfl)
 obtain ⟨a, n, cap, hv, hn, hs⟩ : ∃ (a : Option Addr) (n cap : Nat), Value.slice a0 len0 cap0 = .slice a n cap /\ n <= 60000 /\ ScriptAt W W.heap.size a n := by
  obtain ⟨fuel, hf⟩ := h0
  exact open_script (y := (d0, p0)) hf hbulk
 injection hv with e1 e2 e3
 subst e1; subst e2; subst e3
 clear hA0 h0
 refine (asksTop_c W _ _ _ hn hs).mono fun e W' ⟨he, bel⟩ => ?_
 subst he
 exact ⟨_, rfl, _, _, _, [], _, [], hW', trodAll_mk1 (shut_bool Tryz.underlying4 _), trodAll_cons_mk (Below.trod laidOutA (by kernel_rfl) (of_decide_eq_true (by kernel_rfl)) k0 bel lt0) trodAll_mk0, rfl, bel.frame _, fun h => by cases h⟩
theorem asks_lifted (os : Os) (started : os.Started) (H : Type) (enc : TypeId × Value -> H) (F : Stop.Interp) :
  ReturnsInHanded {} Tryz.checked os 3 .any ((Rows.OpenSpec.upto Rows.asksSpec).pre6 enc Tryz.prog Tryz.f3 Rows.asksUptoRow.domain false) (((Rows.OpenSpec.upto Rows.asksSpec).at F).post enc Tryz.prog Tryz.f3 false true false false) := by
 refine returnsInHanded_of_cond (C := Tryz.checked) (s := Rows.OpenSpec.upto Rows.asksSpec) (k := Rows.uptoSmall) rfl ownA started (by kernel_rfl) Tryz.func3
  (OpenSpec.witness (enc := enc) (C := Tryz.checked) (s := Rows.OpenSpec.upto Rows.asksSpec) (k := Rows.uptoSmall) rfl false ⟨#[], #[.slice none 0 0], []⟩ 8 (by kernel_rfl) (by kernel_rfl) (by kernel_rfl)
    (x := ([.nil], [], [])) (by kernel_rfl) rfl (by kernel_rfl)) ?_
 intro W base args ds gs before hval hW _ hk _
 exact asks_contract H enc W base args ds gs before hval hW hk
theorem asks_over : Rows.asksUptoRow.holds Tryz.pinned (Rows.OpenSpec.upto Rows.asksSpec) :=
 OpenClaim.holds_of_cond 3 Tryz.f3 rfl rfl rfl rfl rfl rfl rfl ⟨rfl, rfl, rfl, rfl, rfl⟩ rfl rfl rfl rfl rfl (by kernel_rfl) Tryz.func3 (by kernel_rfl)
  (of_decide_eq_true (by kernel_rfl)) (by unfold Func.isWrapper; first | (rw [if_pos (by decide +kernel)]; kernel_rfl) | (rw [if_neg (by decide +kernel)]; exact ⟨rfl, rfl⟩))
  (fun os started H enc _ F => asks_lifted os started H enc F)
theorem asks_holds : Rows.AsksUptoSaid := asks_over
end
end Go.Proofs.YtmnjhhachdlmkaaGreat
