import Derived.Test.YtmnjhhachdlmkaaGreatK25
namespace Go.Proofs.YtmnjhhachdlmkaaGreat
open List renaming getElem_toArray -> lA, getElem_cons_succ -> lB, getElem_cons_zero -> lC, setIfInBounds_toArray -> lD, set_cons_zero -> lE, set_cons_succ -> lF
open World renaming block_lt_of_cell? -> lG
open Value renaming ownBlock -> lH
-- JRf
section
set_option maxRecDepth 100000
set_option maxHeartbeats 6400000
open Go.RowKit Go.Maps
theorem DrawsAt.turn {X : Nat -> Prop} {w w' : World} {a : Option Addr} {n : Nat} {D : List Int} (h : DrawsAt w a n D) (ht : Turn X w w') (hx : ∀ b off, n ≠ 0 /\ a = some ⟨b, off, none⟩ -> ¬ X b) : DrawsAt w' a n D := by
 by_cases hn : n = 0
 ·exact .inl hn
 ·exact h.imp id (fun ⟨b, off, e, k⟩ => ⟨b, off, e, k.turn ht (hx b off ⟨hn, e⟩)⟩)
section
variable {w : World} {P B q c : Nat} {G F : Nat -> Prop} {v : GV} {S : List Stk} {ls : List LsV} {ops0 : List OpV}
theorem refills_c {R : List StkR} (A : Ans) (_hz : A.zs = []) (h : GameOf w P B G v q (R.map StkR.abs) ls ops0 c) (hc : c <= 800000) (hst : StoreOk w B F R ls ops0) (hF : Far F G P v) (hn : ops0.length <= 900000) (hcn : A.next = none -> A.c ≠ 0) (sk sa sb kd m k n r0 r1 r2 r3 r4 r5 r6 r7 r8 r9 st : Int) (ss : ByteArray) (ca : Option Addr) (cl ccap : Nat) (a : Option Addr) (len cap : Nat) (D : List Int) (hD : D.length = len) (hlen : len <= 100000000) (hd : DrawsAt w a len D) (hda : ∀ b off, len ≠ 0 /\ a = some ⟨b, off, none⟩ -> ¬ F b /\ b < w.heap.size)
  (hP : ∀ w' gh, Ext w w' -> w.heap.size <= gh -> WordsAt w' gh 0 D -> Calls Tryz.prog 34 #[.pointer (some ⟨B, 0, none⟩), clsV kd m k n, .slice (some ⟨gh, 0, none⟩) len (len + 8)] w' fun e w'' => ∃ R' ls' F' new, e = .returned (.int .i64 A.c) /\ AskSo A w' w'' B F R ls ops0 (.slice none 0 0) R' ls' F' new)
  (hR : ∀ w', RefAt w' G q (R.map StkR.abs) ls -> (∀ b, G b -> b < w'.heap.size) -> DrawsAt w' a len D -> Calls Tryz.prog 102 #[.pointer (some ⟨q, 0, none⟩), clsV kd m k n, .slice a len cap] w' fun e w'' => ∃ pa, e = .returned (.tuple #[.pointer pa, .int .i64 A.c]) /\ RefSo G A w' w'' (.pointer pa) (.slice none 0 0)) :
  Calls Tryz.prog 69 #[.pointer (some ⟨P, 0, none⟩), .agg #[.int .i64 sk, .int .i64 sa, .int .i64 sb, .int .i64 kd, .int .i64 m, .int .i64 k, .int .i64 n, .slice a len cap, .int .i64 r0, .int .i64 r1, .int .i64 r2, .int .i64 r3, .int .i64 r4, .int .i64 r5, .int .i64 r6, .int .i64 r7, .int .i64 r8, .int .i64 r9, .string ss, .slice ca cl ccap, .int .i64 st]] w fun e w' => e = .returned (.bool true) /\ ∃ v' G' q' R' ls' F' new, GameOf w' P B G' v' q' (R'.map StkR.abs) ls' (ops0 ++ new) (c + 3) /\ StoreOk w' B F' R' ls' (ops0 ++ new) /\ Far F' G' P v' /\ new.length <= 4 /\ Old w w' F F' P v v' /\ ((A.next = none /\ R' = R /\ ls' = ls) \/ A.next = some (R'.map StkR.abs, ls')) := by
 obtain ⟨j0, hj0, hy0, hy1, hy2⟩ := info_parts infoPW
 have H : Hid (GameOf w P B G v q (R.map StkR.abs) ls ops0 c) := h
 have HST : Hid (StoreOk w B F R ls ops0 /\ Far F G P v /\ ops0.length <= 900000 /\ (A.next = none -> A.c ≠ 0) /\ c <= 800000) := ⟨hst, hF, hn, hcn, hc⟩
 have HP : Hid (∀ w' gh, Ext w w' -> _) := hP
 have HR : Hid (∀ w', RefAt w' G q (R.map StkR.abs) ls -> (∀ b, G b -> b < w'.heap.size) -> DrawsAt w' a len D -> _) := hR
 have HDa : Hid (DrawsAt w a len D /\ ∀ b off, len ≠ 0 /\ a = some ⟨b, off, none⟩ -> ¬ F b /\ b < w.heap.size) := ⟨hd, hda⟩
 have HDL : Hid (D.length = len) := hD
 obtain ⟨gl, lcap, hwv, hgl, hlc⟩ := h.wrow
 have HGL : Hid (G gl) := hgl
 have hblk := h.blk
 unfold gcells at hblk
 rw [hwv] at hblk
 have c0 : w.cell? ⟨P, 0, none⟩ = some (.pointer (some ⟨B, 0, none⟩)) := cell_at hblk rfl
 have c1 : w.cell? ⟨P, 1, none⟩ = some (.slice (some ⟨gl, 0, none⟩) 1 lcap) := cell_at hblk rfl
 have hPl := lG w _ c1
 have hgll := lG w _ hlc
 clear h hst hF hn hcn hP hR hd hda hwv hgl hblk
 unfold clsV at *
 go_enter Tryz.func69, Tryz.ntmps69
 go_wp2_with fail
 have hsb : (w.alloc (.cells #[.int .i64 sk, .int .i64 sa, .int .i64 sb, .int .i64 kd, .int .i64 m, .int .i64 k, .int .i64 n, .slice a len cap, .int .i64 r0, .int .i64 r1, .int .i64 r2, .int .i64 r3, .int .i64 r4, .int .i64 r5, .int .i64 r6, .int .i64 r7, .int .i64 r8, .int .i64 r9, .string ss, .slice ca cl ccap, .int .i64 st] 103)).heap[w.heap.size]? = some (.cells #[.int .i64 sk, .int .i64 sa, .int .i64 sb, .int .i64 kd, .int .i64 m, .int .i64 k, .int .i64 n, .slice a len cap, .int .i64 r0, .int .i64 r1, .int .i64 r2, .int .i64 r3, .int .i64 r4, .int .i64 r5, .int .i64 r6, .int .i64 r7, .int .i64 r8, .int .i64 r9, .string ss, .slice ca cl ccap, .int .i64 st] 103 (0, 0)) := heap_alloc_new _ _
 have hXW : Ext w (w.alloc (.cells #[.int .i64 sk, .int .i64 sa, .int .i64 sb, .int .i64 kd, .int .i64 m, .int .i64 k, .int .i64 n, .slice a len cap, .int .i64 r0, .int .i64 r1, .int .i64 r2, .int .i64 r3, .int .i64 r4, .int .i64 r5, .int .i64 r6, .int .i64 r7, .int .i64 r8, .int .i64 r9, .string ss, .slice ca cl ccap, .int .i64 st] 103)) := (Ext.refl w).alloc _
 have hWs : (w.alloc (.cells #[.int .i64 sk, .int .i64 sa, .int .i64 sb, .int .i64 kd, .int .i64 m, .int .i64 k, .int .i64 n, .slice a len cap, .int .i64 r0, .int .i64 r1, .int .i64 r2, .int .i64 r3, .int .i64 r4, .int .i64 r5, .int .i64 r6, .int .i64 r7, .int .i64 r8, .int .i64 r9, .string ss, .slice ca cl ccap, .int .i64 st] 103)).heap.size = w.heap.size + 1 := by simp
 generalize World.alloc w _ = W at hsb hXW hWs ⊢
 have HSB : Hid (W.heap[w.heap.size]? = some (.cells #[.int .i64 sk, .int .i64 sa, .int .i64 sb, .int .i64 kd, .int .i64 m, .int .i64 k, .int .i64 n, .slice a len cap, .int .i64 r0, .int .i64 r1, .int .i64 r2, .int .i64 r3, .int .i64 r4, .int .i64 r5, .int .i64 r6, .int .i64 r7, .int .i64 r8, .int .i64 r9, .string ss, .slice ca cl ccap, .int .i64 st] 103 (0, 0))) := hsb
 have HXW : Hid (Ext w W) := hXW
 have HWS : Hid (W.heap.size = w.heap.size + 1) := hWs
 have s7 : W.cell? ⟨w.heap.size, 7, none⟩ = some (.slice a len cap) := cell_at hsb rfl
 have hsl := lG W _ s7
 have HH : Hid (∀ w', Ext w w' -> _) := fun w' hx => handed_c D len hD hlen a cap w' (HDa.out.1.ext hx)
 clear hsb hXW hWs hD
 go_wp2_with fail
 refine (HH.out _ HXW.out).mono ?_
 rintro e w1 ⟨gh, rfl, hghW, hgo, hx1⟩
 have HGO : Hid (w1.ownsRow W.heap.size 146 1 (.slice (some ⟨gh, 0, none⟩) (len + 8) (len + 8)) (len + 8) ((spareL D 8).map (Value.int .u64))) := hgo
 have HX1 : Hid (Ext W w1) := hx1
 have HGH : Hid (W.heap.size <= gh /\ gh < w1.heap.size) := ⟨hghW, owns_lt hgo rfl⟩
 have hFs : ∀ b, F b -> b < w.heap.size := HST.out.1.lt
 have HFs : Hid _ := hFs
 have SF : Hid (∀ w', Turn (fun b => F b) w1 w' -> (fun w' => w'.cell? ⟨P, 0, none⟩ = some (.pointer (some ⟨B, 0, none⟩)) /\ w'.cell? ⟨w.heap.size, 3, none⟩ = some (.int .i64 kd) /\ w'.cell? ⟨w.heap.size, 4, none⟩ = some (.int .i64 m) /\ w'.cell? ⟨w.heap.size, 5, none⟩ = some (.int .i64 k) /\ w'.cell? ⟨w.heap.size, 6, none⟩ = some (.int .i64 n)) w') := fun w' hx => by
  have hPF : ¬ F P := fun e => (HST.out.2.1 P e).2 (.inl rfl)
  have hRF : ¬ F w.heap.size := fun e => by have := HFs.out _ e; omega
  have hb := HX1.out.block HSB.out
  exact ⟨hx.cell ((HXW.out.trans HX1.out).cell c0) hPF, cell_at (hx.ref hb hRF) rfl, cell_at (hx.ref hb hRF) rfl, cell_at (hx.ref hb hRF) rfl, cell_at (hx.ref hb hRF) rfl⟩
 have hS0 := SF.out w1 (Turn.refl _ _)
 obtain ⟨l8, hl8⟩ : ∃ l8, len + 8 = l8 := ⟨_, rfl⟩
 have HL8 : Hid (len + 8 = l8) := hl8
 rw [hl8] at HGO HP ⊢
 clear hgo hx1 hghW hFs s7 hl8
 go_wp2_with fail
 refine wp_region_held_drew (S := (fun w' => w'.cell? ⟨P, 0, none⟩ = some (.pointer (some ⟨B, 0, none⟩)) /\ w'.cell? ⟨w.heap.size, 3, none⟩ = some (.int .i64 kd) /\ w'.cell? ⟨w.heap.size, 4, none⟩ = some (.int .i64 m) /\ w'.cell? ⟨w.heap.size, 5, none⟩ = some (.int .i64 k) /\ w'.cell? ⟨w.heap.size, 6, none⟩ = some (.int .i64 n))) (by kernel_rfl) hS0 (fun hHeld => ?_)
 refine wpAnyH_take (i := 0) (oi := _) (v := ?v0) rfl (by kernel_rfl) (by kernel_rfl) (by kernel_rfl) (fun _ _ _ h => h) (Or.inl ⟨by rfl, ?hy⟩) hHeld ?_
 case hy => (intro w hSw; (try dsimp only at hSw); go_simp; try with_reducible rfl)
 try simp only [Act.put, lA, lC, lD, lE, lF]
 refine wpAnyH_take (i := 1) (oi := _) (v := ?v1) rfl (by kernel_rfl) (by kernel_rfl) (by kernel_rfl) (fun _ _ _ h => h) (Or.inl ⟨by rfl, ?hy⟩) hHeld ?_
 case hy => (intro w hSw; (try dsimp only at hSw); go_simp; try with_reducible rfl)
 try simp only [Act.put, lA, lB, lC, lD, lE, lF]
 refine wpAnyH_take (i := 2) (oi := _) (v := ?v2) rfl (by kernel_rfl) (by kernel_rfl) (by kernel_rfl) (fun _ _ _ h => h) (Or.inl ⟨by rfl, ?hy⟩) hHeld ?_
 case hy => (intro w hSw; (try dsimp only at hSw); go_simp; try with_reducible rfl)
 try simp only [Act.put, lA, lB, lC, lD, lE, lF]
 refine wpAnyH_take (i := 3) (oi := _) (v := ?v3) rfl (by kernel_rfl) (by kernel_rfl) (by kernel_rfl) (fun _ _ _ h => h) (Or.inl ⟨by rfl, ?hy⟩) hHeld ?_
 case hy => (intro w hSw; (try dsimp only at hSw); go_simp; try with_reducible rfl)
 try simp only [Act.put, lA, lB, lC, lD, lE, lF]
 refine wpAnyH_take (i := 4) (oi := _) (v := ?v4) rfl (by kernel_rfl) (by kernel_rfl) (by kernel_rfl) (fun _ _ _ h => h) (Or.inl ⟨by rfl, ?hy⟩) hHeld ?_
 case hy => (intro w hSw; (try dsimp only at hSw); go_simp; try with_reducible rfl)
 try simp only [Act.put, lA, lB, lC, lD, lE, lF]
 refine wpAnyH_take (i := 5) (oi := _) (v := ?v5) rfl (by kernel_rfl) (by kernel_rfl) (by kernel_rfl) (fun _ _ _ h => h) (Or.inl ⟨by rfl, ?hy⟩) hHeld ?_
 case hy => (intro w hSw; (try dsimp only at hSw); go_simp; try with_reducible rfl)
 try simp only [Act.put, lA, lB, lC, lD, lE, lF]
 refine wpAnyH_take (i := 6) (oi := _) (v := ?v6) rfl (by kernel_rfl) (by kernel_rfl) (by kernel_rfl) (fun _ _ _ h => h) (Or.inl ⟨by rfl, ?hy⟩) hHeld ?_
 case hy => (intro w hSw; (try dsimp only at hSw); go_simp; try with_reducible rfl)
 try simp only [Act.put, lA, lB, lC, lD, lE, lF]
 try simp only [Act.put, lA, lB, lC, lD, lE, lF]
 refine wpAnyH_ready (rs := [7]) (by kernel_rfl) (by simp) ?_
 refine AllReadyH.cons (o := _) rfl (fun K hK => ?_) AllReadyH.nil
 (try simp only [lA, lB, lC])
 go_simp
 refine (HP.out _ gh (Ext.drew (HXW.out.trans HX1.out)) (by have := HGH.out.1; have := HWS.out; omega) ?hwd).mono ?_
 case hwd =>
  have h1 : WordsAt w1 gh 0 (spareL D 8) := owns_words HGO.out
  have h2 := (h1.ext (Ext.drew (Ext.refl w1))).take len
  have e : (spareL D 8).take len = D := by rw [spareL, <- HDL.out]; exact List.take_left
  rw [e] at h2
  exact h2
 rintro e w3 ⟨R', ls', F', new, rfl, hso⟩
 have HSO : Hid (AskSo A w1.drew w3 B F R ls ops0 (.slice none 0 0) R' ls' F' new) := hso
 have HT3 : Hid (Turn (fun b => F b) w1 w3) := (Turn.of_ext (Ext.drew (Ext.refl w1))).trans hso.turn
 clear hso
 refine hK.out _ _ ?hc2 (fun hHeld => ?_)
 case hc2 => exact SF.out _ HT3.out
 clear hK K
 try simp only [Act.put, lA, lB, lC, lD, lE, lF]
 refine wpAnyH_take (i := 8) (oi := _) (v := ?v8) rfl (by kernel_rfl) (by kernel_rfl) (by kernel_rfl) (fun _ _ _ h => h) (Or.inl ⟨by rfl, ?hy⟩) hHeld ?_
 case hy => (intro w hSw; (try dsimp only at hSw); go_simp; try with_reducible rfl)
 try simp only [Act.put, lA, lB, lC, lD, lE, lF]
 refine wpAnyH_done (by kernel_rfl) ?_ _
 have hghF : ¬ F gh := fun e => by have := HFs.out gh e; have := HGH.out.1; have := HWS.out; omega
 have HSB3 : Hid (w3.heap[w.heap.size]? = some (.cells #[.int .i64 sk, .int .i64 sa, .int .i64 sb, .int .i64 kd, .int .i64 m, .int .i64 k, .int .i64 n, .slice a len cap, .int .i64 r0, .int .i64 r1, .int .i64 r2, .int .i64 r3, .int .i64 r4, .int .i64 r5, .int .i64 r6, .int .i64 r7, .int .i64 r8, .int .i64 r9, .string ss, .slice ca cl ccap, .int .i64 st] 103 (0, 0))) := HT3.out.ref (HX1.out.block HSB.out) (fun e => by have := HFs.out _ e; omega)
 have HGO3 : Hid (w3.ownsRow W.heap.size 146 1 (.slice (some ⟨gh, 0, none⟩) l8 l8) l8 ((spareL D 8).map (Value.int .u64))) := HT3.out.owns HGO.out (fun b hb e => by
  have hb' : gh = b := by simpa [lH] using hb
  subst hb'
  exact hghF e)
 have HD3 : Hid (DrawsAt w3 a len D) := ((HDa.out.1.ext (HXW.out.trans HX1.out)).turn HT3.out (fun b off e => (HDa.out.2 b off e).1))
 have s7 : w3.cell? ⟨w.heap.size, 7, none⟩ = some (.slice a len cap) := cell_at HSB3.out rfl
 have hsl3 := lG w3 _ s7
 have hu := untouched_c D len gh cap HDL.out hlen a w3 (owns_words HGO3.out) HD3.out
 rw [HL8.out] at hu
 have HU : Hid (∀ w', w3 = w' -> Calls Tryz.prog 100 #[.slice (some ⟨gh, 0, none⟩) len l8, .slice a len cap] w3 fun e w' => e = .returned (.bool true) /\ Ext w3 w') := fun _ _ => hu
 clear hu
 clear hHeld hS0 hghF
 go_wp2_with fail
 refine (HU.out _ rfl).mono ?_
 rintro e w4 ⟨rfl, hx4⟩
 have HX4 : Hid (Ext w3 w4) := hx4
 clear hx4
 have hf := owns_full (HX4.out.owns HGO3.out)
 have HBl : Hid (∀ w', w4 = w' -> Calls Tryz.prog 101 #[.slice (some ⟨gh, 0, none⟩) len l8] w4 fun e w' => e = .returned (.tuple #[]) /\ Turn (fun b => b = gh) w4 w') := fun _ _ => blot_c len l8 gh _ hlen (by simp only [List.size_toArray]; rw [hf.2.1, <- HL8.out]; omega) w4 hf.1
 clear hf
 go_wp2_with fail
 refine (HBl.out _ rfl).mono ?_
 rintro e w5 ⟨rfl, ht5⟩
 have HT5 : Hid (Turn (fun b => b = gh) w4 w5) := ht5
 have HT35 : Hid (Turn (fun b => b = gh) w3 w5) := (Turn.of_ext HX4.out).trans ht5
 clear ht5
 have hghw : w.heap.size + 1 <= gh := by have := HGH.out.1; have := HWS.out; omega
 have HTW : Hid (Turn (fun b => F b) w w5) := ((Turn.of_ext (HXW.out.trans HX1.out)).trans HT3.out).trans' HT35.out (fun b hb e => by omega)
 have HGF : Hid (¬ F' gh) := fun e => by
  rcases HSO.out.grows gh e with e | e
  ·have := HFs.out gh e; omega
  ·have h1 := HGH.out.2
   have h2 : (World.drew w1).heap.size = w1.heap.size := rfl
   omega
 have HST5 : Hid (StoreOk w5 B F' R' ls' (ops0 ++ new)) := HSO.out.store.turn HT35.out (fun b hb e => HGF.out (by rw [<- e]; exact hb))
 have HG5 : Hid (GameOf w5 P B G v q (R.map StkR.abs) ls ops0 c) := H.out.turn HTW.out (fun b hb e => (HST.out.2.1 b e).1 hb) (fun b hb e => (HST.out.2.1 b e).2 hb)
 have hw5 := HTW.out.size
 have HFar : Hid (Far F' G P v) := fun b hb => by
  rcases HSO.out.grows b hb with e | e
  ·exact HST.out.2.1 b e
  ·have h2 : (World.drew w1).heap.size = w1.heap.size := rfl
   have h3 := (HXW.out.trans HX1.out).le
   exact ⟨fun hg => by have := H.out.ltG b hg; omega, fun ho => by have := H.out.lt ho; omega⟩
 have HSB5 : Hid (w5.heap[w.heap.size]? = some (.cells #[.int .i64 sk, .int .i64 sa, .int .i64 sb, .int .i64 kd, .int .i64 m, .int .i64 k, .int .i64 n, .slice a len cap, .int .i64 r0, .int .i64 r1, .int .i64 r2, .int .i64 r3, .int .i64 r4, .int .i64 r5, .int .i64 r6, .int .i64 r7, .int .i64 r8, .int .i64 r9, .string ss, .slice ca cl ccap, .int .i64 st] 103 (0, 0))) := HT35.out.ref HSB3.out (fun e => by omega)
 have HD5 : Hid (DrawsAt w5 a len D) := HD3.out.turn HT35.out (fun b off e e2 => by have := (HDa.out.2 b off e).2; omega)
 have hGF : ∀ b, G b -> ¬ F b := fun b hb e => (HST.out.2.1 b e).1 hb
 have hPF : ¬ F P := fun e => (HST.out.2.1 P e).2 (.inl rfl)
 have k1 : w5.cell? ⟨P, 1, none⟩ = some (.slice (some ⟨gl, 0, none⟩) 1 lcap) := HTW.out.cell c1 hPF
 have k2 : w5.cell? ⟨gl, 0, none⟩ = some (.pointer (some ⟨q, 0, none⟩)) := HTW.out.cell hlc (hGF gl HGL.out)
 have SF2 : Hid (∀ w', Ext w5 w' -> (fun w' => w'.cell? ⟨P, 1, none⟩ = some (.slice (some ⟨gl, 0, none⟩) 1 lcap) /\ w'.cell? ⟨gl, 0, none⟩ = some (.pointer (some ⟨q, 0, none⟩)) /\ w'.cell? ⟨w.heap.size, 7, none⟩ = some (.slice a len cap) /\ w'.cell? ⟨w.heap.size, 3, none⟩ = some (.int .i64 kd) /\ w'.cell? ⟨w.heap.size, 4, none⟩ = some (.int .i64 m) /\ w'.cell? ⟨w.heap.size, 5, none⟩ = some (.int .i64 k) /\ w'.cell? ⟨w.heap.size, 6, none⟩ = some (.int .i64 n)) w') := fun w' hx => ⟨hx.cell k1, hx.cell k2, cell_at (hx.block HSB5.out) rfl, cell_at (hx.block HSB5.out) rfl, cell_at (hx.block HSB5.out) rfl, cell_at (hx.block HSB5.out) rfl, cell_at (hx.block HSB5.out) rfl⟩
 have hS2 := SF2.out w5 (Ext.refl _)
 have hPl5 := lG w5 _ k1
 clear hGF hPF s7 c0 c1 hlc
 go_wp2_with fail
 refine wp_loop_rounds 2 ?_
 rw [rounds_succ]
 go_wp2_with fail
 refine wp_region_held_drew (S := (fun w' => w'.cell? ⟨P, 1, none⟩ = some (.slice (some ⟨gl, 0, none⟩) 1 lcap) /\ w'.cell? ⟨gl, 0, none⟩ = some (.pointer (some ⟨q, 0, none⟩)) /\ w'.cell? ⟨w.heap.size, 7, none⟩ = some (.slice a len cap) /\ w'.cell? ⟨w.heap.size, 3, none⟩ = some (.int .i64 kd) /\ w'.cell? ⟨w.heap.size, 4, none⟩ = some (.int .i64 m) /\ w'.cell? ⟨w.heap.size, 5, none⟩ = some (.int .i64 k) /\ w'.cell? ⟨w.heap.size, 6, none⟩ = some (.int .i64 n))) (by kernel_rfl) hS2 (fun hHeld => ?_)
 refine wpAnyH_take (i := 0) (oi := _) (v := ?w0) rfl (by kernel_rfl) (by kernel_rfl) (by kernel_rfl) (fun _ _ _ h => h) (Or.inl ⟨by rfl, ?hy⟩) hHeld ?_
 case hy => (intro w hSw; (try dsimp only at hSw); go_simp; try with_reducible rfl)
 try simp only [Act.put, lA, lC, lD, lE, lF]
 refine wpAnyH_take (i := 1) (oi := _) (v := ?w1) rfl (by kernel_rfl) (by kernel_rfl) (by kernel_rfl) (fun _ _ _ h => h) (Or.inl ⟨by rfl, ?hy⟩) hHeld ?_
 case hy => (intro w hSw; (try dsimp only at hSw); go_simp; try with_reducible rfl)
 try simp only [Act.put, lA, lB, lC, lD, lE, lF]
 refine wpAnyH_take (i := 2) (oi := _) (v := ?w2) rfl (by kernel_rfl) (by kernel_rfl) (by kernel_rfl) (fun _ _ _ h => h) (Or.inl ⟨by rfl, ?hy⟩) hHeld ?_
 case hy => (intro w hSw; (try dsimp only at hSw); go_simp; try with_reducible rfl)
 try simp only [Act.put, lA, lB, lC, lD, lE, lF]
 refine wpAnyH_take (i := 3) (oi := _) (v := ?w3) rfl (by kernel_rfl) (by kernel_rfl) (by kernel_rfl) (fun _ _ _ h => h) (Or.inl ⟨by rfl, ?hy⟩) hHeld ?_
 case hy => (intro w hSw; (try dsimp only at hSw); go_simp; try with_reducible rfl)
 try simp only [Act.put, lA, lB, lC, lD, lE, lF]
 refine wpAnyH_take (i := 4) (oi := _) (v := ?w4) rfl (by kernel_rfl) (by kernel_rfl) (by kernel_rfl) (fun _ _ _ h => h) (Or.inl ⟨by rfl, ?hy⟩) hHeld ?_
 case hy => (intro w hSw; (try dsimp only at hSw); go_simp; try with_reducible rfl)
 try simp only [Act.put, lA, lB, lC, lD, lE, lF]
 refine wpAnyH_take (i := 5) (oi := _) (v := ?w5) rfl (by kernel_rfl) (by kernel_rfl) (by kernel_rfl) (fun _ _ _ h => h) (Or.inl ⟨by rfl, ?hy⟩) hHeld ?_
 case hy => (intro w hSw; (try dsimp only at hSw); go_simp; try with_reducible rfl)
 try simp only [Act.put, lA, lB, lC, lD, lE, lF]
 refine wpAnyH_take (i := 6) (oi := _) (v := ?w6) rfl (by kernel_rfl) (by kernel_rfl) (by kernel_rfl) (fun _ _ _ h => h) (Or.inl ⟨by rfl, ?hy⟩) hHeld ?_
 case hy => (intro w hSw; (try dsimp only at hSw); go_simp; try with_reducible rfl)
 try simp only [Act.put, lA, lB, lC, lD, lE, lF]
 refine wpAnyH_take (i := 7) (oi := _) (v := ?w7) rfl (by kernel_rfl) (by kernel_rfl) (by kernel_rfl) (fun _ _ _ h => h) (Or.inl ⟨by rfl, ?hy⟩) hHeld ?_
 case hy => (intro w hSw; (try dsimp only at hSw); go_simp; try with_reducible rfl)
 try simp only [Act.put, lA, lB, lC, lD, lE, lF]
 refine wpAnyH_take (i := 8) (oi := _) (v := ?w8) rfl (by kernel_rfl) (by kernel_rfl) (by kernel_rfl) (fun _ _ _ h => h) (Or.inl ⟨by rfl, ?hy⟩) hHeld ?_
 case hy => (intro w hSw; (try dsimp only at hSw); go_simp; try with_reducible rfl)
 try simp only [Act.put, lA, lB, lC, lD, lE, lF]
 refine wpAnyH_take (i := 9) (oi := _) (v := ?w9) rfl (by kernel_rfl) (by kernel_rfl) (by kernel_rfl) (fun _ _ _ h => h) (Or.inl ⟨by rfl, ?hy⟩) hHeld ?_
 case hy => (intro w hSw; (try dsimp only at hSw); go_simp; try with_reducible rfl)
 try simp only [Act.put, lA, lB, lC, lD, lE, lF]
 refine wpAnyH_take (i := 10) (oi := _) (v := ?w10) rfl (by kernel_rfl) (by kernel_rfl) (by kernel_rfl) (fun _ _ _ h => h) (Or.inl ⟨by rfl, ?hy⟩) hHeld ?_
 case hy => (intro w hSw; (try dsimp only at hSw); go_simp; try with_reducible rfl)
 try simp only [Act.put, lA, lB, lC, lD, lE, lF]
 try simp only [Act.put, lA, lB, lC, lD, lE, lF]
 refine wpAnyH_ready (rs := [11]) (by kernel_rfl) (by simp) ?_
 refine AllReadyH.cons (o := _) rfl (fun K hK => ?_) AllReadyH.nil
 (try simp only [lA, lB, lC])
 go_simp
 refine (HR.out _ (HG5.out.ref.ext (Ext.drew (Ext.refl w5))) (fun b hb => HG5.out.ltG b hb) (HD5.out.ext (Ext.drew (Ext.refl w5)))).mono ?_
 rintro e w6 ⟨pa, rfl, hso⟩
 have HRS : Hid (RefSo G A w5.drew w6 (.pointer pa) (.slice none 0 0)) := hso
 have HX6 : Hid (Ext w5 w6) := (Ext.drew (Ext.refl w5)).trans hso.ext
 clear hso
 refine hK.out _ _ ?hc5 (fun hHeld => ?_)
 case hc5 => exact SF2.out _ HX6.out
 clear hK K
 try simp only [Act.put, lA, lB, lC, lD, lE, lF]
 refine wpAnyH_take (i := 12) (oi := _) (v := ?w12) rfl (by kernel_rfl) (by kernel_rfl) (by kernel_rfl) (fun _ _ _ h => h) (Or.inl ⟨by rfl, ?hy⟩) hHeld ?_
 case hy => (intro w hSw; (try dsimp only at hSw); go_simp; try with_reducible rfl)
 try simp only [Act.put, lA, lB, lC, lD, lE, lF]
 refine wpAnyH_take (i := 13) (oi := _) (v := ?w13) rfl (by kernel_rfl) (by kernel_rfl) (by kernel_rfl) (fun _ _ _ h => h) (Or.inl ⟨by rfl, ?hy⟩) hHeld ?_
 case hy => (intro w hSw; (try dsimp only at hSw); go_simp; try with_reducible rfl)
 try simp only [Act.put, lA, lB, lC, lD, lE, lF]
 refine wpAnyH_take (i := 14) (oi := _) (v := ?w14) rfl (by kernel_rfl) (by kernel_rfl) (by kernel_rfl) (fun _ _ _ h => h) (Or.inl ⟨by rfl, ?hy⟩) hHeld ?_
 case hy => (intro w hSw; (try dsimp only at hSw); go_simp; try with_reducible rfl)
 try simp only [Act.put, lA, lB, lC, lD, lE, lF]
 refine wpAnyH_take (i := 15) (oi := _) (v := ?w15) rfl (by kernel_rfl) (by kernel_rfl) (by kernel_rfl) (fun _ _ _ h => h) (Or.inl ⟨by rfl, ?hy⟩) hHeld ?_
 case hy => (intro w hSw; (try dsimp only at hSw); go_simp; try with_reducible rfl)
 try simp only [Act.put, lA, lB, lC, lD, lE, lF]
 refine wpAnyH_take (i := 16) (oi := _) (v := ?w16) rfl (by kernel_rfl) (by kernel_rfl) (by kernel_rfl) (fun _ _ _ h => h) (Or.inl ⟨by rfl, ?hy⟩) hHeld ?_
 case hy => (intro w hSw; (try dsimp only at hSw); go_simp; try with_reducible rfl)
 try simp only [Act.put, lA, lB, lC, lD, lE, lF]
 refine wpAnyH_done (by kernel_rfl) ?_ _
 have k16 := HX6.out.cell k1
 have hPl6 := lG w6 _ k16
 have h56 := HX6.out.le
 clear hHeld hS2
 go_wp2_with (at_builtin; refine wpList_append_lies _ rfl _ _ 85 rfl w5.heap.size 95 j0 _ 1 8 Tryz.underlying85 hj0 hy0 hy1 hy2 rfl (by decide) _ 0 [] rfl (World.ownsRow_nil _ _ _ _) ⟨_, 0, none⟩ 1 1 [.pointer pa] rfl rfl (World.news_of_block (at_new (by simp))) (by simp [Value.oneCell']) (by decide) (by simp [maxLen]) (by omega) (by simp; omega) _ rfl ?_)
 intro gN capN w7 hown7 hgrow7 hat7 hlt7
 have HO7 : Hid (w7.ownsRow w5.heap.size 95 1 (.slice (some ⟨gN, 0, none⟩) 1 capN) 1 [.pointer pa] /\ Ext w6 w7) := ⟨by simpa using hown7, Ext.grown (Ext.alloc (Ext.refl _) _) hgrow7 (by simp [lH])⟩
 have HX7 : Hid (Ext w5 w7) := HX6.out.trans HO7.out.2
 have k17 := HO7.out.2.cell k16
 have hPl7 := lG w7 _ k17
 have h57 := HX7.out.le
 clear hown7 hgrow7 hat7 hlt7 k16
 go_wp2_with fail
 rw [rounds_succ]
 have HG7 : Hid (GameOf w7 P B (fun b => G b \/ w5.heap.size <= b /\ b < w7.heap.size) v q (R.map StkR.abs) ls ops0 c) := (HG5.out.ext HX7.out).more (fun b hb => .inl hb) (fun b hb => hb.elim (fun h => Nat.lt_of_lt_of_le (HG5.out.ltG b h) h57) (fun h => h.2)) (fun b hb hor => hor.elim (HG5.out.apart b hb) (fun h => by have := HG5.out.lt hb; omega))
 have HS7 : Hid (GStep (fun b => w5.heap.size <= b) w5 w7 P v v G (fun b => G b \/ w5.heap.size <= b /\ b < w7.heap.size)) := ⟨Turn.of_ext HX7.out, fun b hb => .inl hb, fun b hb => hb.imp id (fun h => h.1), fun b hb => .inl hb⟩
 have HST7 : Hid (StoreOk w7 B F' R' ls' (ops0 ++ new) /\ Far F' (fun b => G b \/ w5.heap.size <= b /\ b < w7.heap.size) P v) := HST5.out.step HS7.out HFar.out (fun b hb hl => by have := HST5.out.lt b hb; omega)
 have hnb : new.length <= 4 := by
  rcases HSO.out.next with ⟨_, h1, _⟩ | ⟨_, _, h1, _⟩
  ·rw [h1]; simp
  ·exact h1
 have HNB : Hid (new.length <= 4) := hnb
 have hol : (ops0 ++ new).length <= 1000000 := by rw [List.length_append]; have := HST.out.2.2.1; omega
 have HOL : Hid ((ops0 ++ new).length <= 1000000) := hol
 have HCC : Hid (c <= 800000) := HST.out.2.2.2.2
 have HNu : Hid (∀ w', _) := fun w' => num_c A.c w'
 clear hnb hol
 rcases HSO.out.next with ⟨h1, h2, h3, h4⟩ | ⟨h1, h2, h3, h4⟩
 ·have hcA := HST.out.2.2.2.1 h1
  have hcz : (A.c != 0) = true := by simpa using hcA
  have HN0 : Hid (A.next = none /\ new = [] /\ R' = R /\ ls' = ls) := ⟨h1, h2, h3, h4⟩
  have HStl : Hid (∀ w', w7 = w' -> _) := fun w' e => by
   subst e
   exact still_c (R := R') (ls' := ls') (F := F') HG7.out (by have := HCC.out; omega) (by have := HST7.out.1; rw [h2, List.append_nil] at this; exact this) (by have := HOL.out; rw [h2, List.append_nil] at this; exact this)
  clear h1 h2 h3 h4
  go_wp2_with fail
  refine (HStl.out _ rfl).mono ?_
  rintro e w8 ⟨rfl, v8, G8, hg8, hs8, _, _⟩
  have HF8 : Hid _ := And.intro hg8 hs8
  clear hg8 hs8
  go_wp2_with fail
  refine (HNu.out _).mono ?_
  rintro e w9 ⟨rfl, rfl⟩
  go_wp2
  go_ret
  have hfin := HST7.out.1.step HF8.out.2 HST7.out.2 (fun b hb hl => by have := HST7.out.1.lt b hb; omega)
  have hGS := HS7.out.trans HF8.out.2 (fun b hb => by omega)
  have hold : Old w w8 F F' P v v8 := by
   refine ⟨(HTW.out.mono (fun b _ hb => .inl hb)).trans' hGS.turn (fun b hb hor => hor.elim .inr (fun hl => by omega)), fun b hb => (HSO.out.grows b hb).imp id (fun hl => ?_), fun b hb => (hGS.own b hb).imp id (fun hl => by omega)⟩
   have h2 : (World.drew w1).heap.size = w1.heap.size := rfl
   have h3 := (HXW.out.trans HX1.out).le
   omega
  refine ⟨ret_bool (by simp), v8, G8, q, R', ls', F', new, ?_, hfin.1, hfin.2, HNB.out, hold, .inl ⟨HN0.out.1, HN0.out.2.2.1, HN0.out.2.2.2⟩⟩
  rw [HN0.out.2.1, List.append_nil, HN0.out.2.2.1, HN0.out.2.2.2]
  exact HF8.out.1.count (by omega)
 ·have hcz : (A.c != 0) = false := by rw [h4]; rfl
  obtain ⟨S', ls2, q', hnx, hpa, href⟩ : ∃ S' ls2 q', A.next = some (S', ls2) /\ pa = some ⟨q', 0, none⟩ /\ RefAt w6 (grow G w5.drew w6) q' S' ls2 := by
   rcases HRS.out.next with ⟨k1, _⟩ | ⟨S', ls2, q', k1, k2, k3⟩
   ·rw [h1] at k1; cases k1
   ·exact ⟨S', ls2, q', k1, by injection k2, k3⟩
  have hEq := h1
  rw [hnx] at hEq
  injection hEq with hEq
  injection hEq with hE1 hE2
  subst hE1 hE2 hpa
  have hgN := World.ownsRow.lt HO7.out.1 gN rfl
  have hone : OneIs w7 (fun b => G b \/ w5.heap.size <= b /\ b < w7.heap.size) (.slice (some ⟨gN, 0, none⟩) 1 capN) q' := ⟨gN, capN, rfl, .inr hgN, owns_cell HO7.out.1 rfl⟩
  have href7 : RefAt w7 (fun b => G b \/ w5.heap.size <= b /\ b < w7.heap.size) q' (R'.map StkR.abs) ls2 := (href.ext HO7.out.2).mono (fun b hb => hb.imp id (fun h => ⟨h.1, Nat.lt_of_lt_of_le h.2 HO7.out.2.le⟩))
  have HCh : Hid (∀ w', w7 = w' -> _) := fun w' e => by subst e; exact changes_c (R := R') (F := F') HG7.out (by have := HCC.out; omega) HST7.out.1 HOL.out new rfl h2 _ q' _ hone href7
  have HC0 : Hid (A.c = 0) := h4
  have HN1 : Hid (A.next = some (R'.map StkR.abs, ls2)) := hnx
  clear h1 h2 h3 h4 hnx hone href href7
  go_wp2_with fail
  refine (HNu.out _).mono ?_
  rintro e w9 ⟨rfl, rfl⟩
  rw [HC0.out]
  go_wp2_with fail
  refine (HCh.out _ rfl).mono ?_
  rintro e w8 ⟨rfl, v8, G8, hg8, hs8⟩
  have HF8 : Hid _ := And.intro hg8 hs8
  clear hg8 hs8
  go_wp2
  go_ret
  have hfin := HST7.out.1.step HF8.out.2 HST7.out.2 (fun b hb hl => by have := HST7.out.1.lt b hb; omega)
  have hGS := HS7.out.trans HF8.out.2 (fun b hb => by omega)
  have hold : Old w w8 F F' P v v8 := by
   refine ⟨(HTW.out.mono (fun b _ hb => .inl hb)).trans' hGS.turn (fun b hb hor => hor.elim .inr (fun hl => by omega)), fun b hb => (HSO.out.grows b hb).imp id (fun hl => ?_), fun b hb => (hGS.own b hb).imp id (fun hl => by omega)⟩
   have h2 : (World.drew w1).heap.size = w1.heap.size := rfl
   have h3 := (HXW.out.trans HX1.out).le
   omega
  exact ⟨ret_bool (by simp), v8, G8, q', R', ls2, F', new, HF8.out.1.count (by omega), hfin.1, hfin.2, HNB.out, hold, .inr HN1.out⟩
end
end
-- JLk
section
set_option maxRecDepth 100000
set_option maxHeartbeats 6400000
open Go.RowKit Go.Maps
section
variable {w : World} {P B q c : Nat} {G F : Nat -> Prop} {v : GV} {ls : List LsV} {ops0 : List OpV}
theorem storeClasses_ok {R : List StkR} (hR : R.length <= 100) (w : World) (h : StoreOk w B F R ls ops0) :
  Calls Tryz.prog 16 #[.pointer (some ⟨B, 0, none⟩)] w fun e w' => ∃ v', e = .returned v' /\ w'.ownsRow w.heap.size 116 7 v' R.length (toldAll (R.map StkR.abs)) /\ Ext w w' := by
 obtain ⟨sv, lv, dv, ah, kn, h1, h2, h3, h4⟩ := h.ex
 exact dealerClasses_c hR w h1
theorem storeLeases_ok {R : List StkR} (hls : ls.length <= 1000) (w : World) (h : StoreOk w B F R ls ops0) :
  Calls Tryz.prog 15 #[.pointer (some ⟨B, 0, none⟩)] w fun e w' => ∃ v', e = .returned v' /\ w'.ownsRow w.heap.size 56 9 v' ls.length (lsCells ls) /\ Ext w w' := by
 obtain ⟨sv, lv, dv, ah, kn, h1, h2, h3, h4⟩ := h.ex
 exact dealerLeases_c hls h2 w h1
theorem looks_c {R : List StkR} (h : GameOf w P B G v q (R.map StkR.abs) ls ops0 c) (hc : c <= 800000) (hst : StoreOk w B F R ls ops0) (hF : Far F G P v) (hn : ops0.length <= 900000) (hR : R.length <= 100) (hRm : ∀ x ∈ R, x.ts.length <= 1000) (hls : ls.length <= 1000) :
  Calls Tryz.prog 44 #[.pointer (some ⟨P, 0, none⟩)] w fun e w' => e = .returned (.bool true) /\ ∃ v' G', GameOf w' P B G' v' q (R.map StkR.abs) ls ops0 (c + 3) /\ StoreOk w' B F R ls ops0 /\ Far F G' P v' /\ Old w w' F F P v v' := by
 have H : Hid (GameOf w P B G v q (R.map StkR.abs) ls ops0 c) := h
 have HST : Hid (StoreOk w B F R ls ops0 /\ Far F G P v /\ ops0.length <= 900000 /\ c <= 800000) := ⟨hst, hF, hn, hc⟩
 obtain ⟨gl, lcap, hwv, hgl, hlc⟩ := h.wrow
 have hblk := h.blk
 unfold gcells at hblk
 rw [hwv] at hblk
 have c0 : w.cell? ⟨P, 0, none⟩ = some (.pointer (some ⟨B, 0, none⟩)) := cell_at hblk rfl
 have c1 : w.cell? ⟨P, 1, none⟩ = some (.slice (some ⟨gl, 0, none⟩) 1 lcap) := cell_at hblk rfl
 have hPl := lG w _ c1
 have HCl : Hid (∀ w', Ext w w' -> _) := fun w' hx => storeClasses_ok hR w' (hst.ext hx)
 have HLe : Hid (∀ w', Ext w w' -> _) := fun w' hx => storeLeases_ok hls w' (hst.ext hx)
 have hRS : ∀ x ∈ R.map StkR.abs, x.ts.length <= 1000 := fun x hx => by
  obtain ⟨y, hy, rfl⟩ := List.mem_map.1 hx
  exact hRm y hy
 have HRC : Hid (∀ w', Ext w w' -> _) := fun w' hx => refClasses_c q (R.map StkR.abs) ls (by simpa using hR) hRS w' (h.ref.ext hx)
 have HRL : Hid (∀ w', Ext w w' -> _) := fun w' hx => refLeases_c q (R.map StkR.abs) ls w' (h.ref.ext hx)
 obtain ⟨n, hnn⟩ : ∃ n, R.length = n := ⟨_, rfl⟩
 obtain ⟨nl, hnl⟩ : ∃ n, ls.length = n := ⟨_, rfl⟩
 have HN : Hid ((R.map StkR.abs).length = n /\ ls.length = nl) := ⟨by rw [List.length_map]; exact hnn, hnl⟩
 rw [hnn] at HCl hR
 rw [hnl] at HLe HRL hls
 rw [List.length_map, hnn] at HRC
 clear h hst hF hn hwv hgl hblk hRS hRm hnn hnl
 go_enter Tryz.func44, Tryz.ntmps44
 go_wp2_with fail
 refine (HCl.out _ (Ext.refl _)).mono ?_
 rintro e w1 ⟨av, rfl, ha, hx1⟩
 obtain ⟨aa, ac, rfl⟩ := owns_slice ha
 have HA : Hid (w1.ownsRow w.heap.size 116 7 (.slice aa n ac) n (toldAll (R.map StkR.abs))) := ha
 have HX1 : Hid (Ext w w1) := hx1
 have c01 := hx1.cell c0
 have hPl1 := lG w1 _ c01
 clear ha hx1
 go_wp2_with fail
 refine (HLe.out _ HX1.out).mono ?_
 rintro e w2 ⟨bv, rfl, hb, hx2⟩
 obtain ⟨ba, bc, rfl⟩ := owns_slice hb
 have HB : Hid (w2.ownsRow w1.heap.size 56 9 (.slice ba nl bc) nl (lsCells ls)) := hb
 have HX12 : Hid (Ext w1 w2) := hx2
 have HX2 : Hid (Ext w w2) := HX1.out.trans hx2
 have c12 := HX2.out.cell c1
 have l2 := HX2.out.cell hlc
 have hPl2 := lG w2 _ c12
 clear hb hx2 c01
 go_wp2_with fail
 refine wp_loop_rounds 2 ?_
 rw [rounds_succ]
 go_wp2_with fail
 refine (HRC.out _ HX2.out).mono ?_
 rintro e w3 ⟨cv, rfl, hcv, hx3⟩
 obtain ⟨ca, ccap, rfl⟩ := owns_slice hcv
 have HC : Hid (RdRow w3 ca n (toldAll (R.map StkR.abs))) := rd_owns hcv
 have HX23 : Hid (Ext w2 w3) := hx3
 have HX3 : Hid (Ext w w3) := HX2.out.trans hx3
 have c13 := hx3.cell c12
 have l3 := hx3.cell l2
 have hPl3 := lG w3 _ c13
 clear hcv hx3 c12 l2
 go_wp2_with fail
 refine (HRL.out _ HX3.out).mono ?_
 rintro e w4 ⟨dv, rfl, hdv, rfl⟩
 obtain ⟨da, dcap, rfl⟩ := hdv.slice
 have HD : Hid (RdRow w3 da nl (lsCells ls)) := rd_is hdv
 have HSS : Hid (∀ w', Ext w3 w' -> _) := fun w' hx => sameStocks_c (R.map StkR.abs) n HN.out.1 (by omega) aa ca ac ccap w' ((rd_owns HA.out).ext ((HX12.out.trans HX23.out).trans hx)) (HC.out.ext hx)
 have HSL : Hid (∀ w', Ext w3 w' -> _) := fun w' hx => sameLeases_c ls nl HN.out.2 (by omega) ba da bc dcap w' ((rd_owns HB.out).ext (HX23.out.trans hx)) (HD.out.ext hx)
 clear hdv
 go_wp2_with fail
 refine (HSS.out _ (Ext.refl _)).mono ?_
 rintro e w5 ⟨rfl, hx5⟩
 have HX5 : Hid (Ext w3 w5) := hx5
 clear hx5
 go_wp2_with fail
 refine (HSL.out _ HX5.out).mono ?_
 rintro e w6 ⟨rfl, hx6⟩
 have HX6 : Hid (Ext w3 w6) := HX5.out.trans hx6
 have HXw6 : Hid (Ext w w6) := HX3.out.trans HX6.out
 have c16 := HX6.out.cell c13
 have hPl6 := lG w6 _ c16
 clear hx6 c13 l3
 go_wp2_with fail
 rw [rounds_succ]
 have hl26 : w2.heap.size <= w6.heap.size := (HX23.out.trans HX6.out).le
 have hl12 : w1.heap.size <= w2.heap.size := HX12.out.le
 have hl01 : w.heap.size <= w1.heap.size := HX1.out.le
 have HG6 : Hid (GameOf w6 P B G v q (R.map StkR.abs) ls ops0 c) := H.out.ext HXw6.out
 have HA6 : Hid (w6.ownsRow w.heap.size 116 7 (.slice aa n ac) n (toldAll (R.map StkR.abs))) := (HX12.out.trans (HX23.out.trans HX6.out)).owns HA.out
 have HB6 : Hid (w6.ownsRow w1.heap.size 56 9 (.slice ba nl bc) nl (lsCells ls)) := (HX23.out.trans HX6.out).owns HB.out
 have HK1 : Hid (∀ w', w6 = w' -> Calls Tryz.prog 78 #[.pointer (some ⟨P, 7, none⟩), .slice aa n ac] w6 fun e w' => e = .returned (.tuple #[]) /\ ∃ bv' G', GameOf w' P B G' { v with bS := bv' } q (R.map StkR.abs) ls ops0 (c + 1) /\ GStep (fun b => lH (.slice aa n ac) = some b \/ w6.heap.size <= b) w6 w' P v { v with bS := bv' } G G') := fun _ _ => gkeepStocks_c HG6.out (by have := HST.out.2.2.2; omega) w.heap.size aa n ac _ (by omega) HA6.out (by omega) (fun b hb hg => by
  have h1 := (World.ownsRow.lt HA6.out b hb).1
  have h2 := H.out.ltG b hg
  omega) _ (fun b hb => hb)
 go_wp2_with fail
 refine (HK1.out _ rfl).mono ?_
 rintro e w7 ⟨rfl, bS7, G7, hg7, hs7⟩
 have HG7 : Hid (GameOf w7 P B G7 { v with bS := bS7 } q (R.map StkR.abs) ls ops0 (c + 1)) := hg7
 have HS7 : Hid (GStep (fun b => lH (.slice aa n ac) = some b \/ w6.heap.size <= b) w6 w7 P v { v with bS := bS7 } G G7) := hs7
 have hba : ∀ b, lH (.slice ba nl bc) = some b -> lH (.slice aa n ac) ≠ some b /\ ¬ GOwn P v b /\ b < w6.heap.size /\ w.heap.size <= b := fun b hb => by
  obtain ⟨cur, hcu⟩ := owns_block HB6.out hb
  have h1 := World.ownsRow.lt HB6.out b hb
  exact ⟨fun e => by
   obtain ⟨cur2, hcu2⟩ := owns_block HA6.out e
   exact type_ne hcu hcu2 (by decide) rfl, fun ho => by have := H.out.lt ho; omega, h1.2, by omega⟩
 have HBA : Hid _ := hba
 have HB7 : Hid (w7.ownsRow w1.heap.size 56 9 (.slice ba nl bc) nl (lsCells ls)) := hs7.turn.owns HB6.out (fun b hb hor => by
  have h1 := hba b hb
  rcases hor with ho | ho | ho
  ·exact h1.2.1 ho
  ·exact h1.1 ho
  ·omega)
 have hl67 := hs7.turn.size
 have hPl7 : P < w7.heap.size := (Array.getElem?_eq_some_iff.1 hg7.blk).1
 have HK2 : Hid (∀ w', w7 = w' -> Calls Tryz.prog 79 #[.pointer (some ⟨P, 7, none⟩), .slice ba nl bc] w7 fun e w' => e = .returned (.tuple #[]) /\ ∃ bv' G', GameOf w' P B G' { v with bS := bS7, bL := bv' } q (R.map StkR.abs) ls ops0 (c + 1 + 1) /\ GStep (fun b => lH (.slice ba nl bc) = some b \/ w7.heap.size <= b) w7 w' P { v with bS := bS7 } { v with bS := bS7, bL := bv' } G7 G') := fun _ _ => gkeepLeases_c HG7.out (by have := HST.out.2.2.2; omega) w1.heap.size ba nl bc _ (by omega) HB7.out (by omega) (fun b hb hg => by
  have h1 := HBA.out b hb
  rcases HS7.out.new b hg with e | e | e
  ·have := H.out.ltG b e
   omega
  ·exact h1.1 e
  ·omega) _ (fun b hb => hb)
 clear hg7 hs7 hba
 go_wp2_with fail
 refine (HK2.out _ rfl).mono ?_
 rintro e w8 ⟨rfl, bL8, G8, hg8, hs8⟩
 have HG8 : Hid (GameOf w8 P B G8 { v with bS := bS7, bL := bL8 } q (R.map StkR.abs) ls ops0 (c + 1 + 1)) := hg8
 have HS8 : Hid (GStep (fun b => w.heap.size <= b) w w8 P v { v with bS := bS7, bL := bL8 } G G8) := by
  refine ((GStep.of_ext HXw6.out).trans HS7.out (fun b hb => ?_)).trans hs8 (fun b hb => ?_)
  ·rcases hb with e | e
   ·exact (World.ownsRow.lt HA6.out b e).1
   ·omega
  ·rcases hb with e | e
   ·exact (HBA.out b e).2.2.2
   ·omega
 have HST8 : Hid (StoreOk w8 B F R ls ops0 /\ Far F G8 P { v with bS := bS7, bL := bL8 }) := HST.out.1.step HS8.out HST.out.2.1 (fun b hb hl => by have := HST.out.1.lt b hb; omega)
 have hPl8 : P < w8.heap.size := (Array.getElem?_eq_some_iff.1 hg8.blk).1
 have HStl : Hid (∀ w', w8 = w' -> _) := fun w' e => by subst e; exact still_c (R := R) (ls' := ls) (F := F) HG8.out (by have := HST.out.2.2.2; omega) HST8.out.1 (by have := HST.out.2.2.1; omega)
 clear hg8 hs8
 go_wp2_with fail
 refine (HStl.out _ rfl).mono ?_
 rintro e w9 ⟨rfl, v9, G9, hg9, hs9, _, _⟩
 have HG9 : Hid (GameOf w9 P B G9 v9 q (R.map StkR.abs) ls ops0 (c + 1 + 1 + 1)) := hg9
 have HS9 : Hid (GStep (fun b => w.heap.size <= b) w w9 P v v9 G G9) := HS8.out.trans hs9 (fun b hb => Nat.le_trans HS8.out.turn.size hb)
 have HST9 : Hid (StoreOk w9 B F R ls ops0 /\ Far F G9 P v9) := HST8.out.1.step hs9 HST8.out.2 (fun b hb hl => by have := HST8.out.1.lt b hb; omega)
 have hPl9 : P < w9.heap.size := (Array.getElem?_eq_some_iff.1 hg9.blk).1
 have HRd : Hid (∀ w', w9 = w' -> _) := fun w' e => by subst e; exact gReads_c HG9.out (by have := HST.out.2.2.2; omega)
 clear hg9 hs9
 go_wp2_with fail
 refine (HRd.out _ rfl).mono ?_
 rintro e w10 ⟨rfl, hx10⟩
 have HX10 : Hid (Ext w9 w10) := hx10
 clear hx10
 go_wp2
 go_ret
 exact ⟨ret_bool (by simp), v9, G9, HG9.out.ext HX10.out, HST9.out.1.ext HX10.out, HST9.out.2, (HS9.out.turn.mono (fun b hb h => .inr (h.resolve_right (by omega)))).trans (Turn.of_ext HX10.out), fun b hb => .inl hb, fun b hb => HS9.out.own b hb⟩
end
end
-- JPu
section
open Go.RowKit Go.Maps
/-- What is always so of what a dealer has. -/
structure InvS (S : List Stk) (ls : List LsV) : Prop where
 stocks : S.length <= 6
 cls : ∀ x ∈ S, isCls x.kd x.m x.k x.n = true
 made : ∀ x ∈ S, 1 <= x.ts.length /\ x.ts.length <= 200 /\ x.leased <= x.ts.length
 ts : ∀ x ∈ S, ∀ t ∈ x.ts, t.1.length = x.each /\ t.2 = true
 leases : ls.length <= 30
 of : ∀ l ∈ ls, 0 <= l.f /\ 1 <= l.c /\ l.c <= 40 /\ ∃ x, S.find? (fun x => x.is l.kd l.m l.k l.n) = some x /\ l.f + l.c <= x.leased
 apart : ∀ i j (hi : i < ls.length) (hj : j < ls.length), i < j -> ls[i].kd = ls[j].kd /\ ls[i].m = ls[j].m /\ ls[i].k = ls[j].k /\ ls[i].n = ls[j].n -> ls[i].f + ls[i].c <= ls[j].f \/ ls[j].f + ls[j].c <= ls[i].f
theorem idx_map {α : Type} (p : α -> Bool) (l : List α) : l.findIdx? p = (l.map p).findIdx? id := by rw [List.findIdx?_map]; rfl
theorem idx_set {α : Type} {p : α -> Bool} {l : List α} {i : Nat} (hi : i < l.length) {y : α} (h : p y = p l[i]) : (l.set i y).findIdx? p = l.findIdx? p := by
 rw [idx_map, idx_map p l, List.map_set, h]
 congr 1
 apply List.ext_getElem (by simp)
 intro j h1 h2
 by_cases e : i = j
 ·subst e; simp
 ·rw [List.getElem_set_ne e]
theorem find_set {α : Type} {p : α -> Bool} {l : List α} {i : Nat} (hi : i < l.length) {y : α} (h : p y = p l[i]) {x : α} (hf : l.find? p = some x) : (l.set i y).find? p = some x \/ (l[i] = x /\ (l.set i y).find? p = some y) := by
 cases hx : l.findIdx? p with
 | none => rw [find_none_idx hx] at hf; cases hf
 | some j =>
  obtain ⟨hj, hfj⟩ := find_idx hx
  rw [hf] at hfj
  injection hfj with hfj
  have hs : (l.set i y).findIdx? p = some j := by rw [idx_set hi h]; exact hx
  obtain ⟨hj', hfs⟩ := find_idx hs
  by_cases e : i = j
  ·subst e
   right
   refine ⟨hfj.symm, ?_⟩
   rw [hfs, List.getElem_set_self]
  ·left
   rw [hfs, List.getElem_set_ne e, hfj]
theorem mem_set_of {α : Type} {l : List α} {i : Nat} {y x : α} (h : x ∈ l.set i y) : x ∈ l \/ x = y := List.mem_or_eq_of_mem_set h
/-- A lease is made. -/
theorem InvS.lease {S : List Stk} {ls : List LsV} (h : InvS S ls) {ix c : Nat} {s i kd m k n : Int} (hix : ix < S.length) (hfx : S.findIdx? (fun x => x.is kd m k n) = some ix) (hcd : leaseCodeS S ls kd m k n c = 0) : InvS (S.set ix (S[ix].lend c)) (ls ++ [⟨s, i, kd, m, k, n, S[ix].leased, c, false⟩]) := by
 obtain ⟨_, hfi⟩ := find_idx hfx
 obtain ⟨hcc, hfew, hfull⟩ : ¬ ((c : Int) < 1 \/ 40 < (c : Int)) /\ ¬ ((S[ix].ts.length : Int) - S[ix].leased < c) /\ ¬ 30 <= ls.length := by
  unfold leaseCodeS at hcd
  rw [hfi] at hcd
  simp only at hcd
  split at hcd
  ·simp at hcd
  ·rename_i h1
   split at hcd
   ·simp at hcd
   ·rename_i h2
    split at hcd
    ·simp at hcd
    ·rename_i h3
     exact ⟨h1, h2, h3⟩
 have hmem : S[ix] ∈ S := List.getElem_mem hix
 refine ⟨by simpa using h.stocks, fun x hx => ?_, fun x hx => ?_, fun x hx => ?_, by simp; omega, fun l hl => ?_, fun a b ha hb hab hcl => ?_⟩
 ·rcases mem_set_of hx with hx | rfl
  ·exact h.cls x hx
  ·exact h.cls S[ix] hmem
 ·rcases mem_set_of hx with hx | rfl
  ·exact h.made x hx
  ·have := h.made _ hmem
   exact ⟨this.1, this.2.1, by show S[ix].leased + c <= S[ix].ts.length; omega⟩
 ·rcases mem_set_of hx with hx | rfl
  ·exact h.ts x hx
  ·exact h.ts S[ix] hmem
 ·rcases List.mem_append.1 hl with hl | hl
  ·obtain ⟨h1, h2, h3, x, h4, h5⟩ := h.of l hl
   refine ⟨h1, h2, h3, ?_⟩
   rcases find_set hix (y := S[ix].lend c) (show Stk.is _ _ _ _ _ = Stk.is _ _ _ _ _ from rfl) h4 with h6 | ⟨h6, h7⟩
   ·exact ⟨x, h6, h5⟩
   ·refine ⟨_, h7, ?_⟩
    rw [<- h6] at h5
    show l.f + l.c <= ((S[ix].leased + c : Nat) : Int)
    omega
  ·rw [List.mem_singleton.1 hl]
   refine ⟨by simp, by simp only; omega, by simp only; omega, ?_⟩
   rcases find_set hix (y := S[ix].lend c) (show Stk.is _ kd m k n = Stk.is _ kd m k n from rfl) hfi with h6 | ⟨_, h7⟩
   ·obtain ⟨hj', hfs⟩ := find_idx (show (S.set ix (S[ix].lend c)).findIdx? (fun x => x.is kd m k n) = some ix by rw [idx_set hix (y := S[ix].lend c) (show Stk.is _ kd m k n = Stk.is _ kd m k n from rfl)]; exact hfx)
    refine ⟨_, hfs, ?_⟩
    rw [List.getElem_set_self]
    show ((S[ix].leased : Nat) : Int) + c <= ((S[ix].leased + c : Nat) : Int)
    omega
   ·refine ⟨_, h7, ?_⟩
    show ((S[ix].leased : Nat) : Int) + c <= ((S[ix].leased + c : Nat) : Int)
    omega
 ·by_cases hbl : b < ls.length
  ·rw [List.getElem_append_left (show a < ls.length by omega), List.getElem_append_left hbl] at hcl ⊢
   exact h.apart a b (by omega) hbl hab hcl
  ·have hb' : b = ls.length := by simp at hb; omega
   have ha' : a < ls.length := by omega
   subst hb'
   rw [List.getElem_append_left ha'] at hcl ⊢
   rw [List.getElem_concat_length rfl] at hcl ⊢
   left
   obtain ⟨h1, h2, h3, x, h4, h5⟩ := h.of ls[a] (List.getElem_mem ha')
   rw [hcl.1, hcl.2.1, hcl.2.2.1, hcl.2.2.2] at h4
   simp only at h4
   rw [hfi] at h4
   injection h4 with h4
   rw [<- h4] at h5
   exact h5
/-- A lease is released. -/
theorem InvS.free {S : List Stk} {ls : List LsV} (h : InvS S ls) {ix : Nat} (hix : ix < ls.length) : InvS S (ls.set ix ls[ix].free) := by
 have key : ∀ j (hj : j < (ls.set ix ls[ix].free).length), ∃ hj' : j < ls.length, (ls.set ix ls[ix].free)[j].kd = ls[j].kd /\ (ls.set ix ls[ix].free)[j].m = ls[j].m /\ (ls.set ix ls[ix].free)[j].k = ls[j].k /\ (ls.set ix ls[ix].free)[j].n = ls[j].n /\ (ls.set ix ls[ix].free)[j].f = ls[j].f /\ (ls.set ix ls[ix].free)[j].c = ls[j].c := fun j hj => by
  have hj' : j < ls.length := by simpa using hj
  refine ⟨hj', ?_⟩
  by_cases e : ix = j
  ·subst e
   rw [List.getElem_set_self]
   exact ⟨rfl, rfl, rfl, rfl, rfl, rfl⟩
  ·rw [List.getElem_set_ne e]
   exact ⟨rfl, rfl, rfl, rfl, rfl, rfl⟩
 refine ⟨h.stocks, h.cls, h.made, h.ts, by simpa using h.leases, fun l hl => ?_, fun a b ha hb hab hcl => ?_⟩
 ·rcases mem_set_of hl with hl | rfl
  ·exact h.of l hl
  ·exact h.of ls[ix] (List.getElem_mem hix)
 ·obtain ⟨ha', a1, a2, a3, a4, a5, a6⟩ := key a ha
  obtain ⟨hb', b1, b2, b3, b4, b5, b6⟩ := key b hb
  rw [a5, a6, b5, b6]
  exact h.apart a b ha' hb' hab ⟨by rw [<- a1, <- b1]; exact hcl.1, by rw [<- a2, <- b2]; exact hcl.2.1, by rw [<- a3, <- b3]; exact hcl.2.2.1, by rw [<- a4, <- b4]; exact hcl.2.2.2⟩
/-- Triples are made. -/
theorem InvS.make {S : List Stk} {ls : List LsV} (h : InvS S ls) {kd m k n cnt : Nat} {us : List (List Int)} (hcls : isCls kd m k n = true) (hus : us.length = cnt) (h1 : 1 <= cnt) (hul : ∀ u ∈ us, u.length = (shOf kd m k n).x + (shOf kd m k n).y + ((shOf kd m k n).x + (shOf kd m k n).y + (shOf kd m k n).z)) (hcd : makeCode S kd m k n cnt = 0) : InvS (makeS S kd m k n us) ls := by
 unfold makeS
 unfold makeCode at hcd
 cases hfx : S.findIdx? (fun x => x.is kd m k n) with
 | none =>
  rw [find_none_idx hfx] at hcd
  simp only at hcd ⊢
  split at hcd
  ·simp at hcd
  ·rename_i hno
   refine ⟨by simp; omega, fun x hx => ?_, fun x hx => ?_, fun x hx => ?_, h.leases, fun l hl => ?_, h.apart⟩
   ·rcases List.mem_append.1 hx with hx | hx
    ·exact h.cls x hx
    ·rw [List.mem_singleton.1 hx]; exact hcls
   ·rcases List.mem_append.1 hx with hx | hx
    ·exact h.made x hx
    ·rw [List.mem_singleton.1 hx]
     simp only [List.length_map, hus]
     omega
   ·rcases List.mem_append.1 hx with hx | hx
    ·exact h.ts x hx
    ·rw [List.mem_singleton.1 hx]
     intro t ht
     obtain ⟨u, hu, rfl⟩ := List.mem_map.1 ht
     exact ⟨hul u hu, rfl⟩
   ·obtain ⟨k1, k2, k3, x, k4, k5⟩ := h.of l hl
    exact ⟨k1, k2, k3, x, by rw [List.find?_append, k4]; rfl, k5⟩
 | some ix =>
  obtain ⟨hix, hfi⟩ := find_idx hfx
  rw [hfi] at hcd
  simp only at hcd ⊢
  have hno : ¬ 200 < S[ix].ts.length + cnt := by
   intro hb
   rw [if_pos hb] at hcd
   simp at hcd
  have hmem : S[ix] ∈ S := List.getElem_mem hix
  have hisx : S[ix].is kd m k n = true := (List.findIdx?_eq_some_iff_getElem.1 hfx).2.1
  have e4 : S[ix].kd = kd /\ S[ix].m = m /\ S[ix].k = k /\ S[ix].n = n := by
   simp [Stk.is] at hisx
   omega
  have hmod : S.modify ix (fun x => x.more us) = S.set ix (S[ix].more us) := by
   apply List.ext_getElem (by simp)
   intro j a b
   rw [List.getElem_modify, List.getElem_set]
   split
   ·rename_i e; subst e; rfl
   ·rfl
  rw [hmod]
  refine ⟨by simpa using h.stocks, fun x hx => ?_, fun x hx => ?_, fun x hx => ?_, h.leases, fun l hl => ?_, h.apart⟩
  ·rcases mem_set_of hx with hx | rfl
   ·exact h.cls x hx
   ·exact h.cls S[ix] hmem
  ·rcases mem_set_of hx with hx | rfl
   ·exact h.made x hx
   ·have := h.made _ hmem
    show 1 <= (S[ix].ts ++ us.map (fun u => (u, true))).length /\ (S[ix].ts ++ us.map (fun u => (u, true))).length <= 200 /\ S[ix].leased <= (S[ix].ts ++ us.map (fun u => (u, true))).length
    simp only [List.length_append, List.length_map, hus]
    omega
  ·rcases mem_set_of hx with hx | rfl
   ·exact h.ts x hx
   ·intro t ht
    rcases List.mem_append.1 (show t ∈ S[ix].ts ++ us.map (fun u => (u, true)) from ht) with ht | ht
    ·exact h.ts _ hmem t ht
    ·obtain ⟨u, hu, rfl⟩ := List.mem_map.1 ht
     refine ⟨?_, rfl⟩
     have := hul u hu
     show u.length = (shOf S[ix].kd S[ix].m S[ix].k S[ix].n).x + (shOf S[ix].kd S[ix].m S[ix].k S[ix].n).y + ((shOf S[ix].kd S[ix].m S[ix].k S[ix].n).x + (shOf S[ix].kd S[ix].m S[ix].k S[ix].n).y + (shOf S[ix].kd S[ix].m S[ix].k S[ix].n).z)
     rw [e4.1, e4.2.1, e4.2.2.1, e4.2.2.2]; exact this
  ·obtain ⟨k1, k2, k3, x, k4, k5⟩ := h.of l hl
   refine ⟨k1, k2, k3, ?_⟩
   rcases find_set hix (y := S[ix].more us) (show Stk.is _ _ _ _ _ = Stk.is _ _ _ _ _ from rfl) k4 with k6 | ⟨k6, k7⟩
   ·exact ⟨x, k6, k5⟩
   ·refine ⟨_, k7, ?_⟩
    rw [<- k6] at k5
    exact k5
/-- Of a triple there is one lease at most. -/
theorem held_eq {S : List Stk} {ls : List LsV} (h : InvS S ls) (ss kd m k n num : Int) : heldP ls ss kd m k n num = ls.any (holdsP ss kd m k n num) := by
 have hc : ∀ l : LsV, holdsP ss kd m k n num l = (covers kd m k n num l && (l.s == ss && !l.r)) := fun l => by
  unfold holdsP covers
  cases l.s == ss <;> cases l.r <;> simp
 unfold heldP
 cases hf : ls.find? (covers kd m k n num) with
 | none =>
  symm
  rw [List.any_eq_false]
  intro l hl
  have := List.find?_eq_none.1 hf l hl
  rw [hc]
  simp at this
  simp [this]
 | some l =>
  have hl := List.mem_of_find?_eq_some hf
  have hcl := List.find?_some hf
  simp only
  cases hb : (l.s == ss && !l.r) with
  | true =>
   symm
   rw [List.any_eq_true]
   exact ⟨l, hl, by rw [hc, hcl, hb]; rfl⟩
  | false =>
   symm
   rw [List.any_eq_false]
   intro l' hl' hh
   rw [hc] at hh
   have hcl' : covers kd m k n num l' = true := by
    cases hq : covers kd m k n num l'
    ·rw [hq] at hh; simp at hh
    ·rfl
   obtain ⟨a, ha, rfl⟩ := List.getElem_of_mem hl
   obtain ⟨b, hb', rfl⟩ := List.getElem_of_mem hl'
   have hne : a ≠ b := fun e => by
    subst e
    rw [hcl, hb] at hh
    simp at hh
   simp [covers] at hcl hcl'
   rcases Nat.lt_or_gt_of_ne hne with hlt | hlt
   ·have := h.apart a b ha hb' hlt ⟨by rw [hcl.1.1, hcl'.1.1], by rw [hcl.1.2.1, hcl'.1.2.1], by rw [hcl.1.2.2.1, hcl'.1.2.2.1], by rw [hcl.1.2.2.2, hcl'.1.2.2.2]⟩
    omega
   ·have := h.apart b a hb' ha hlt ⟨by rw [hcl.1.1, hcl'.1.1], by rw [hcl.1.2.1, hcl'.1.2.1], by rw [hcl.1.2.2.1, hcl'.1.2.2.1], by rw [hcl.1.2.2.2, hcl'.1.2.2.2]⟩
    omega
/-- What is held there is. -/
theorem held_in {S : List Stk} {ls : List LsV} (h : InvS S ls) {ss kd m k n num : Int} {x : Stk} (hx : S.find? (fun x => x.is kd m k n) = some x) (hh : ls.any (holdsP ss kd m k n num) = true) : 0 <= num /\ num < x.ts.length := by
 obtain ⟨l, hl, hp⟩ := List.any_eq_true.1 hh
 simp [holdsP] at hp
 obtain ⟨h1, h2, h3, y, h4, h5⟩ := h.of l hl
 rw [hp.2.1.1, hp.2.1.2.1, hp.2.1.2.2.1, hp.2.1.2.2.2, hx] at h4
 injection h4 with h4
 subst h4
 have := h.made x (List.mem_of_find?_eq_some hx)
 omega
theorem InvS.small {R : List StkR} {ls : List LsV} (h : InvS (R.map StkR.abs) ls) : Small R ls where
 stocks := by have := h.stocks; simp at this; omega
 leases := by have := h.leases; omega
 made := fun x hx => by
  have := h.made x.abs (List.mem_map.2 ⟨x, hx, rfl⟩)
  have e1 : x.abs.ts.length = x.ts.length := rfl
  have e2 : x.abs.leased = x.leased := rfl
  omega
 fc := fun l hl => by
  obtain ⟨h1, h2, h3, x, h4, h5⟩ := h.of l hl
  have := h.made x (List.mem_of_find?_eq_some h4)
  omega
end
end Go.Proofs.YtmnjhhachdlmkaaGreat
