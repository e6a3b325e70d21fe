import Derived.Test.YtmnjhhachdlmkaaGreatK03
import Derived.Test.YtmnjhhachdlmkaaGreatK02
import Derived.Test.YtmnjhhachdlmkaaGreatK01
namespace Go.Proofs.YtmnjhhachdlmkaaGreat
open World renaming block_lt_of_cell? -> lG
-- GApl
section
set_option maxRecDepth 100000
set_option maxHeartbeats 1600000
open Go.RowKit Go.Maps Go.ChangeMaps Go.MapKept
section
variable {B : Nat} {F : Nat -> Prop} {sv lv dv : Value} {R : List StkR} {ls : List LsV} {ops : List OpV} {fl : Bool} {ah : Int} {kn : Bool}
def ForPost (w w'' : World) (B : Nat) (F : Nat -> Prop) (sv lv dv : Value) (ls : List LsV) (ops : List OpV) (fl : Bool) (ah : Int) (kn : Bool) (P : List StkR -> Nat -> Prop) (R1 : List StkR) (sv1 : Value) (ix : Nat) (F1 : Nat -> Prop) (hix : ix < R1.length) : Prop :=
 StoreOf w'' B F1 sv1 lv dv R1 ls ops fl ah kn /\ P R1 ix /\ Turn (fun b => b = B \/ sv.ownBlock = some b) w w'' /\ (∀ b, F b -> F1 b) /\ (∀ b, F1 b -> F b \/ w.heap.size <= b) /\ R1[ix].ts.length <= 1000
theorem more_step (x : StkR) (us : List (List Int × Bool)) (j : Nat) (hj : j < us.length) : { x.more (us.take j) with ts := (x.more (us.take j)).ts ++ [us[j]] } = x.more (us.take (j + 1)) := by
 unfold StkR.more
 rw [List.take_succ_eq_append_getElem hj, <- List.append_assoc]
theorem more_nil (x : StkR) : x.more [] = x := by cases x; simp [StkR.more]
theorem mem_set_self {R : List StkR} {i : Nat} (h : i < R.length) (x : StkR) : x ∈ R.set i x := by
 rw [List.mem_iff_getElem]
 exact ⟨i, by simpa using h, by simp⟩
theorem set_set {R : List StkR} {i : Nat} {x y : StkR} : (R.set i x).set i y = R.set i y := by simp
theorem makingApply_c (kd m k n : Nat) (s : Sh) (hsx : 1 <= s.x + s.y + s.z /\ s.x + s.y + s.z <= 27) (gt tcap : Nat) (us : List (List Int × Bool)) (t : Nat) (hus : us.length = t) (ht2 : t <= 1000) (P : List StkR -> Nat -> Prop) (hP : ∀ R1 ix, P R1 ix -> ∀ h : ix < R1.length, R1[ix].sh = s) (w : World) (hB0 : B < w.heap.size)
  (hsf : ∀ w', Ext w w' -> Calls Tryz.prog 208 #[.pointer (some ⟨B, 0, none⟩), clsV kd m k n] w' fun e w'' => ∃ R1 sv1 ix F1, ∃ hix : ix < R1.length, e = .returned (.pointer (some ⟨R1[ix].blk, 0, none⟩)) /\ ForPost w' w'' B F sv lv dv ls ops fl ah kn P R1 sv1 ix F1 hix)
  (htr : TriRow w F gt s us) (hgt : gt ≠ B /\ sv.ownBlock ≠ some gt) (hsvw : ∀ q, sv.ownBlock = some q -> ∃ cur, w.heap[q]? = some (.cells cur 151 (0, 0))) (hBt : ∃ s1 l1 d1 f1 a1 k1, DealAt w B s1 l1 d1 f1 a1 k1) :
  Calls Tryz.prog 207 #[.agg #[.int .i64 kd, .int .i64 m, .int .i64 k, .int .i64 n, .slice (some ⟨gt, 0, none⟩) t tcap], .pointer (some ⟨B, 0, none⟩)] w fun e w' => ∃ R1 sv1 ix F1, ∃ hix : ix < R1.length, e = .returned (.tuple #[]) /\
   StoreOf w' B F1 sv1 lv dv (R1.set ix (R1[ix].more us)) ls ops fl ah kn /\ P R1 ix /\ (∀ b, F b -> F1 b) /\ (∀ b, F1 b -> F b \/ w.heap.size <= b) /\ Turn (fun b => b = B \/ sv.ownBlock = some b \/ F1 b) w w' := by
 have HTR : Hid (TriRow w F gt s us) := htr
 have HSF : Hid (∀ w', Ext w w' -> _) := hsf
 have HU : Hid (us.length = t) := hus
 have HP : Hid _ := hP
 have HSV : Hid _ := And.intro hgt (And.intro hsvw hBt)
 unfold clsV at HSF
 clear htr hsf hus hP hgt hsvw hBt
 generalize hL : s.x + s.y + s.z = L at *
 have HL : Hid (s.x + s.y + s.z = L) := hL
 clear hL
 go_enter Tryz.func207, Tryz.ntmps207
 go_wp2_with fail
 refine (HSF.out _ ((Ext.refl w).alloc _)).mono ?_
 rintro e w1 ⟨R1, sv1, ix, F1, hix, rfl, hS1, hP1, ht1, hf1, hf2, hlen1⟩
 have m4 : w1.cell? ⟨w.heap.size, 4, none⟩ = some (.slice (some ⟨gt, 0, none⟩) t tcap) := ht1.cell (cell_in (Ext.refl _) 4 rfl) (by
  rintro (e | e)
  ·have : w.heap.size = B := e
   omega
  ·obtain ⟨cur, hc⟩ := HSV.out.2.1 _ e
   have := (Array.getElem?_eq_some_iff.1 hc).1
   simp at this)
 have HF12 : Hid ((∀ b, F b -> F1 b) /\ (∀ b, F1 b -> F b \/ w.heap.size <= b) /\ P R1 ix) := ⟨hf1, fun b hb => (hf2 b hb).imp id (fun h => by simp at h; omega), hP1⟩
 have HT1 : Hid (Turn (fun b => b = B \/ sv.ownBlock = some b) w w1) := (Turn.of_ext ((Ext.refl w).alloc _)).trans ht1
 have HTR1 : Hid (TriRow w1 F1 gt s us) := (HTR.out.turn HT1.out (fun hor => by
   rcases hor with e | e
   ·exact HSV.out.1.1 e
   ·exact HSV.out.1.2 e) (fun b cur hc hor => by
   rcases hor with e | e
   ·obtain ⟨_, _, _, _, _, _, hc'⟩ := HSV.out.2.2
    exact hc'.tne hc (by decide) e
   ·obtain ⟨cur', hc'⟩ := HSV.out.2.1 _ e
    exact type_ne hc hc' (by decide) rfl)).mono hf1
 have hwl : w.heap.size < w1.heap.size := lG w1 _ m4
 have hxi := hS1.stk R1[ix] (List.getElem_mem hix)
 have hsh : R1[ix].sh = s := HP.out R1 ix hP1 hix
 have HS1 : Hid (StoreOf w1 B F1 sv1 lv dv R1 ls ops fl ah kn) := hS1
 have hwblk : w.heap.size ≠ R1[ix].blk := fun e => by
  have h1 : w1.heap[w.heap.size]? = _ := ht1.ref (heap_alloc_new w _) (by
   rintro (e | e)
   ·have : w.heap.size = B := e
    omega
   ·obtain ⟨cur, hc⟩ := HSV.out.2.1 _ e
    have := (Array.getElem?_eq_some_iff.1 hc).1
    simp at this)
  exact type_ne h1 hxi.blk (by decide) e
 have hwmb : w.heap.size ≠ R1[ix].mb := fun e => by
  have h1 : w1.heap[w.heap.size]? = _ := ht1.ref (heap_alloc_new w _) (by
   rintro (e | e)
   ·have : w.heap.size = B := e
    omega
   ·obtain ⟨cur, hc⟩ := HSV.out.2.1 _ e
    have := (Array.getElem?_eq_some_iff.1 hc).1
    simp at this)
  obtain ⟨D, hD, _⟩ := hxi.map
  exact map_ne h1 hD e
 have HGT : Hid (gt ≠ R1[ix].blk /\ gt ≠ R1[ix].mb) := by
  obtain ⟨cur, hc⟩ := HTR1.out.2
  obtain ⟨D, hD, _⟩ := hxi.map
  exact ⟨type_ne hc hxi.blk (by decide), map_ne hc hD⟩
 have HBM : Hid (R1[ix].blk ≠ R1[ix].mb) := by
  obtain ⟨D, hD, _⟩ := hxi.map
  exact map_ne hxi.blk hD
 have HSH : Hid (R1[ix].sh = s) := hsh
 have hbl1 := (Array.getElem?_eq_some_iff.1 hxi.blk).1
 obtain ⟨D0, hD0, _⟩ := hxi.map
 have hmb1 := hD0.lt
 clear hS1 hP1 ht1 hf1 hf2 hxi hsh hD0
 obtain ⟨X, hX⟩ : ∃ X, R1[ix] = X := ⟨_, rfl⟩
 have HX : Hid (R1[ix] = X) := hX
 rw [hX] at hlen1 hwblk hwmb HGT HBM HSH hbl1 hmb1 ⊢
 clear hX
 go_wp2_with fail
 go_loopw [14] (fun i wr => ∃ j : Nat, j <= t /\ i = .int .i64 j /\ StoreOf wr B F1 sv1 lv dv (R1.set ix (X.more (us.take j))) ls ops fl ah kn /\ Turn (fun b => b = X.blk \/ b = X.mb) w1 wr) (fun i _ => t - (intOf i).toNat)
 case atStart =>
  refine ⟨0, Nat.zero_le _, rfl, ?_, Turn.refl _ _⟩
  have e : R1.set ix (X.more (us.take 0)) = R1 := by
   rw [List.take_zero, more_nil, <- HX.out, List.set_getElem_self]
  rw [e]; exact HS1.out
 case round =>
  obtain ⟨j, hj, rfl, hs, ht⟩ := hrel
  have HS : Hid (StoreOf wr B F1 sv1 lv dv (R1.set ix (X.more (us.take j))) ls ops fl ah kn) := hs
  have HT : Hid (Turn (fun b => b = X.blk \/ b = X.mb) w1 wr) := ht
  have m4 := ht.cell m4 (fun hor => by
   rcases hor with e | e
   ·exact hwblk e
   ·exact hwmb e)
  clear hs ht
  by_cases hlt : j < t
  ·have hju : j < us.length := by rw [HU.out]; exact hlt
   have hTr := HTR1.out.turn HT.out (fun hor => by
    rcases hor with e | e
    ·exact HGT.out.1 e
    ·exact HGT.out.2 e) (fun b cur hc hor => by
    have hxi := HS1.out.stk R1[ix] (List.getElem_mem hix)
    rw [HX.out] at hxi
    obtain ⟨D, hD, _⟩ := hxi.map
    rcases hor with e | e
    ·exact type_ne hc hxi.blk (by decide) e
    ·exact map_ne hc hD e)
   rcases hTr.1 j hju with ⟨hk, a0, c0, a1, c1, t0, t1, hw0, hw1, ha0, ha1⟩ | ⟨hk, t0, t1⟩
   ·have HKB2 : Hid ((us[j].1, true) = us[j]) := by show (us[j].1, true) = us[j]; rw [<- hk]
    clear hk
    rw [HL.out] at t0 t1
    have HSa : Hid (∀ W S, Turn S wr W -> (∀ b cur, wr.heap[b]? = some (.cells cur 146 (0, 0)) -> ¬ S b) -> SharesAt W F1 s us[j].1 (.agg #[.slice (some ⟨a0, 0, none⟩) L c0, .slice (some ⟨a1, 0, none⟩) L c1])) := fun W S hT hS =>
     SharesAt.turn' ⟨a0, c0, a1, c1, by rw [HL.out], hw0, hw1, ha0, ha1⟩ hT hS
    have hgl := lG wr _ t0
    have hxj := HS.out.stk _ (mem_set_self hix (X.more (us.take j)))
    have hmax : (X.more (us.take j)).ts.length = X.ts.length + j := by
     simp [StkR.more]; omega
    obtain ⟨D, hD, hK⟩ := hxj.map
    rw [show (X.more (us.take j)).mb = X.mb from rfl] at hD
    have hkb : wr.heap[X.blk]? = some (.cells #[.int .i64 X.kd, .int .i64 X.m, .int .i64 X.k, .int .i64 X.n, .int .i64 (X.ts.length + j : Nat), .int .i64 X.leased, .map (some X.mb)] 154 (0, 0)) := by
     have h := hxj.blk
     unfold StkR.row at h
     rw [hmax] at h
     exact h
    have HK : Hid (Kept wr F1 s (X.more (us.take j)).ts D) := by
     rw [show (X.more (us.take j)).sh = s from HSH.out] at hK
     exact hK
    have HD : Hid (wr.ownsMap Tryz.prog 3 heldElem X.mb (X.ts.length + j) D) := by rw [hmax] at hD; exact hD
    have HKB : Hid _ := hkb
    have HMX : Hid ((X.more (us.take j)).ts.length = X.ts.length + j) := hmax
    clear hTr hw0 hw1 ha0 ha1 hxj hK hD hmax hkb
    obtain ⟨nn, hnn⟩ : ∃ nn, X.ts.length + j = nn := ⟨_, rfl⟩
    rw [hnn] at HKB HD HMX
    have HNN : Hid (X.ts.length + j = nn) := hnn
    have hnm : nn <= 2000 := by omega
    clear hnn
    obtain ⟨blk, hbl⟩ : ∃ blk, X.blk = blk := ⟨_, rfl⟩
    obtain ⟨mb, hmbE⟩ : ∃ mb, X.mb = mb := ⟨_, rfl⟩
    have HBL : Hid (X.blk = blk /\ X.mb = mb) := ⟨hbl, hmbE⟩
    rw [hbl] at HKB HGT HBM hbl1 hwblk ⊢
    rw [hmbE] at HKB HD HGT HBM hmb1 hwmb
    clear hbl hmbE
    go_wp2_with fail
    have hone : (Value.slice (some ⟨a1, 0, none⟩) L c1).oneCell' = true := rfl
    refine (isForgotten_c (some ⟨a0, 0, none⟩) L c0 _ hone _).mono ?_
    rintro e w2 ⟨rfl, hx2⟩
    have HX2 : Hid (Ext wr w2) := ((Ext.refl wr).alloc _).trans hx2
    have v0 := cell_in hx2 0 rfl
    have v1 := cell_in hx2 1 rfl
    have hk2 := HX2.out.block HKB.out
    have k4 : w2.cell? ⟨blk, 4, none⟩ = some (.int .i64 (nn : Int)) := by rw [cell_of_row w2 _ 4 _ _ _ hk2]; rfl
    have k6 : w2.cell? ⟨blk, 6, none⟩ = some (.map (some mb)) := by rw [cell_of_row w2 _ 6 _ _ _ hk2]; rfl
    have hn0 : ((L : Int) == 0) = false := by simp; omega
    have hown2 : (w2.drew).ownsMap Tryz.prog 3 heldElem mb nn D := (map_turn (S := fun _ => False) HD.out (Turn.of_ext HX2.out) id).drew
    obtain ⟨w3, hrun, hown3, hgrow3⟩ := hown2.update (t := 152) (e := 176) keyInt Tryz.underlying152 (by unfold maxLen; omega) (keyOf_int_mk Tryz.underlying3 (a := (nn : Int)) (by simp [Lit.wf, IntKind.min, IntKind.max, IntKind.signed, IntKind.bits]; omega)) (val := .agg #[.slice (some ⟨a0, 0, none⟩) L c0, .slice (some ⟨a1, 0, none⟩) L c1]) rfl
    have HO3 : Hid _ := And.intro hown3 hgrow3
    have HTD : Hid (Tidy D) := hown2.tidy keyInt
    have hw12 := HX2.out.le
    have hwrl : blk < wr.heap.size /\ mb < wr.heap.size := by
     have h1 := HT.out.size
     omega
    have hsg : wr.heap.size ≠ mb := by omega
    have HT3 : Hid (Turn (fun b => b = mb) wr w3) := Turn.grown (Turn.of_ext HX2.out).drew hgrow3 (fun q hq _ => by simp at hq; exact hq.symm)
    clear hx2 hk2 hown2 hown3 hgrow3
    have hbm := HBM.out
    have far : ∀ p : Nat, p < wr.heap.size + 1 -> p ≠ mb -> w3.heap[p]? = w2.heap[p]? := fun p hp hne => HO3.out.2.block p (by show p < w2.heap.size; have := lG w2 _ v0; simp at this; omega) (by simpa using hne)
    have hk3 : w3.heap[blk]? = _ := (far blk (by omega) hbm).trans (HX2.out.block HKB.out)
    have k4' : w3.cell? ⟨blk, 4, none⟩ = some (.int .i64 (nn : Int)) := by rw [cell_of_row w3 _ 4 _ _ _ hk3]; rfl
    have k6' : w3.cell? ⟨blk, 6, none⟩ = some (.map (some mb)) := by rw [cell_of_row w3 _ 6 _ _ _ hk3]; rfl
    have v0' := (World.cell?_of_block (w := w2) (a := ⟨wr.heap.size, 0, none⟩) (far wr.heap.size (by omega) hsg)).trans v0
    have v1' := (World.cell?_of_block (w := w2) (a := ⟨wr.heap.size, 1, none⟩) (far wr.heap.size (by omega) hsg)).trans v1
    have f4 := frozen_row hk3 4
    have HK3 : Hid _ := hk3
    clear far hk3
    go_wp2_with fail
    go_region_held3 (fun w' => w'.cell? ⟨blk, 4, none⟩ = some (.int .i64 (nn : Int)) /\ w'.cell? ⟨blk, 6, none⟩ = some (.map (some mb)) /\ w'.cell? ⟨wr.heap.size, 0, none⟩ = some (.slice (some ⟨a0, 0, none⟩) L c0) /\ w'.cell? ⟨wr.heap.size, 1, none⟩ = some (.slice (some ⟨a1, 0, none⟩) L c1))
     (first | exact ⟨k4, k6, v0, v1⟩ | exact ⟨k4', k6', v0', v1'⟩) (fail)
    clear k4 k6 v0 v1 v0' v1' k6' hrun
    go_wp2
    go_roundw
    case rel =>
     have ht4 : Turn (fun b => b = X.blk \/ b = X.mb) wr (w3.setCell ⟨blk, 4, none⟩ (.int .i64 ((nn : Int) + 1))) := by
      rw [HBL.out.1, HBL.out.2]
      exact (HT3.out.mono (fun _ _ e => .inr e)).setCell (p := ⟨blk, 4, none⟩) (fun _ => .inl rfl) _
     have hU : ∀ b cur, wr.heap[b]? = some (.cells cur 146 (0, 0)) -> ¬ (b = X.blk \/ b = X.mb) := fun b cur hc hor => by
      rcases hor with e | e
      ·rw [HBL.out.1] at e
       exact type_ne hc HKB.out (by decide) e
      ·rw [HBL.out.2] at e
       exact map_ne hc HD.out e
     have hxj := HS.out.stk _ (mem_set_self hix (X.more (us.take j)))
     have hrow : (X.more (us.take (j + 1))).row = #[.int .i64 X.kd, .int .i64 X.m, .int .i64 X.k, .int .i64 X.n, .int .i64 ((nn : Int) + 1), .int .i64 X.leased, .map (some mb)] := by
      have e1 : (X.more (us.take (j + 1))).ts.length = nn + 1 := by
       rw [<- more_step X us j hju]
       simp [HMX.out]
      unfold StkR.row
      rw [e1]
      show #[Value.int .i64 X.kd, .int .i64 X.m, .int .i64 X.k, .int .i64 X.n, .int .i64 ((nn + 1 : Nat) : Int), .int .i64 X.leased, .map (some X.mb)] = _
      rw [HBL.out.2]
      rfl
     have hx' : StkAt (w3.setCell ⟨blk, 4, none⟩ (.int .i64 ((nn : Int) + 1))) F1 (X.more (us.take (j + 1))) := by
      refine ⟨?_, ⟨D.put (.int .i64 (nn : Int)) (.held (.agg #[.slice (some ⟨a0, 0, none⟩) L c0, .slice (some ⟨a1, 0, none⟩) L c1])), ?_, ?_⟩, hxj.fb, hxj.fm⟩
      ·rw [hrow]
       show (w3.setCell _ _).heap[X.blk]? = _
       rw [HBL.out.1]
       exact setCell_row HK3.out _
      ·have e1 : (X.more (us.take (j + 1))).ts.length = nn + 1 := by
        rw [<- more_step X us j hju]
        simp [HMX.out]
       rw [e1]
       show (w3.setCell _ _).ownsMap _ _ _ X.mb _ _
       rw [HBL.out.2]
       exact World.ownsMap.setCell HO3.out.1 (by show mb ≠ blk; exact fun e => HBM.out e.symm) _
      ·have h1 := Kept.put (HK.out.turn' ht4 hU) HTD.out (HSa.out _ _ ht4 hU)
       rw [HMX.out] at h1
       show Kept _ _ (X.more (us.take (j + 1))).sh _ _
       rw [show (X.more (us.take (j + 1))).sh = s from HSH.out, <- more_step X us j hju]
       rw [show (us[j].1, true) = us[j] from HKB2.out] at h1
       exact h1
     refine ⟨j + 1, by omega, by go_num, ?_, ?_⟩
     ·have h := HS.out.setStk ix (by simpa using hix) (X.more (us.take (j + 1))) (by simp [StkR.more]) (by simp [StkR.more]) (by simpa [StkR.more] using ht4) hx'
      rw [set_set] at h
      exact h
     ·have h := HT.out.trans ht4
      rw [HBL.out.1] at h
      exact h
    case measure => simp [intOf]; omega
   ·have HKB2 : Hid ((us[j].1, false) = us[j]) := by show (us[j].1, false) = us[j]; rw [<- hk]
    clear hk
    have hgl := lG wr _ t0
    have hxj := HS.out.stk _ (mem_set_self hix (X.more (us.take j)))
    have hmax : (X.more (us.take j)).ts.length = X.ts.length + j := by
     simp [StkR.more]; omega
    obtain ⟨D, hD, hK⟩ := hxj.map
    rw [show (X.more (us.take j)).mb = X.mb from rfl] at hD
    have hkb : wr.heap[X.blk]? = some (.cells #[.int .i64 X.kd, .int .i64 X.m, .int .i64 X.k, .int .i64 X.n, .int .i64 (X.ts.length + j : Nat), .int .i64 X.leased, .map (some X.mb)] 154 (0, 0)) := by
     have h := hxj.blk
     unfold StkR.row at h
     rw [hmax] at h
     exact h
    have HK : Hid (Kept wr F1 s (X.more (us.take j)).ts D) := by
     rw [show (X.more (us.take j)).sh = s from HSH.out] at hK
     exact hK
    have HD : Hid (wr.ownsMap Tryz.prog 3 heldElem X.mb (X.ts.length + j) D) := by rw [hmax] at hD; exact hD
    have HKB : Hid _ := hkb
    have HMX : Hid ((X.more (us.take j)).ts.length = X.ts.length + j) := hmax
    clear hTr hxj hK hD hmax hkb
    obtain ⟨nn, hnn⟩ : ∃ nn, X.ts.length + j = nn := ⟨_, rfl⟩
    rw [hnn] at HKB HD HMX
    have HNN : Hid (X.ts.length + j = nn) := hnn
    have hnm : nn <= 2000 := by omega
    clear hnn
    obtain ⟨blk, hbl⟩ : ∃ blk, X.blk = blk := ⟨_, rfl⟩
    obtain ⟨mb, hmbE⟩ : ∃ mb, X.mb = mb := ⟨_, rfl⟩
    have HBL : Hid (X.blk = blk /\ X.mb = mb) := ⟨hbl, hmbE⟩
    rw [hbl] at HKB HGT HBM hbl1 hwblk ⊢
    rw [hmbE] at HKB HD HGT HBM hmb1 hwmb
    clear hbl hmbE
    go_wp2_with fail
    have hone : (Value.slice none 0 0).oneCell' = true := rfl
    refine (isForgotten_c none 0 0 _ hone _).mono ?_
    rintro e w2 ⟨rfl, hx2⟩
    have HX2 : Hid (Ext wr w2) := ((Ext.refl wr).alloc _).trans hx2
    have hk2 := HX2.out.block HKB.out
    have k4 : w2.cell? ⟨blk, 4, none⟩ = some (.int .i64 (nn : Int)) := by rw [cell_of_row w2 _ 4 _ _ _ hk2]; rfl
    have f4 := frozen_row hk2 4
    have HK2 : Hid _ := hk2
    have hbl2 : blk < w2.heap.size := lG w2 _ k4
    clear hx2 hk2 t0 t1
    go_wp2
    go_roundw
    case rel =>
     have ht4 : Turn (fun b => b = X.blk \/ b = X.mb) wr (w2.setCell ⟨blk, 4, none⟩ (.int .i64 ((nn : Int) + 1))) := by
      rw [HBL.out.1, HBL.out.2]
      exact (Turn.of_ext HX2.out).setCell (p := ⟨blk, 4, none⟩) (fun _ => .inl rfl) _
     have hU : ∀ b cur, wr.heap[b]? = some (.cells cur 146 (0, 0)) -> ¬ (b = X.blk \/ b = X.mb) := fun b cur hc hor => by
      rcases hor with e | e
      ·rw [HBL.out.1] at e
       exact type_ne hc HKB.out (by decide) e
      ·rw [HBL.out.2] at e
       exact map_ne hc HD.out e
     have hxj := HS.out.stk _ (mem_set_self hix (X.more (us.take j)))
     have e1 : (X.more (us.take (j + 1))).ts.length = nn + 1 := by
      rw [<- more_step X us j hju]
      simp [HMX.out]
     have hrow : (X.more (us.take (j + 1))).row = #[.int .i64 X.kd, .int .i64 X.m, .int .i64 X.k, .int .i64 X.n, .int .i64 ((nn : Int) + 1), .int .i64 X.leased, .map (some mb)] := by
      unfold StkR.row
      rw [e1]
      show #[Value.int .i64 X.kd, .int .i64 X.m, .int .i64 X.k, .int .i64 X.n, .int .i64 ((nn + 1 : Nat) : Int), .int .i64 X.leased, .map (some X.mb)] = _
      rw [HBL.out.2]
      rfl
     have hx' : StkAt (w2.setCell ⟨blk, 4, none⟩ (.int .i64 ((nn : Int) + 1))) F1 (X.more (us.take (j + 1))) := by
      refine ⟨?_, ⟨D, ?_, ?_⟩, hxj.fb, hxj.fm⟩
      ·rw [hrow]
       show (w2.setCell _ _).heap[X.blk]? = _
       rw [HBL.out.1]
       exact setCell_row HK2.out _
      ·rw [e1]
       show (w2.setCell _ _).ownsMap _ _ _ X.mb _ _
       rw [HBL.out.2]
       exact World.ownsMap.setCell (map_more (map_turn (S := fun _ => False) HD.out (Turn.of_ext HX2.out) id) (Nat.le_succ _)) (by show mb ≠ blk; exact fun e => HBM.out e.symm) _
      ·have h1 := Kept.skip (U := us[j].1) (HK.out.turn' ht4 hU)
       show Kept _ _ (X.more (us.take (j + 1))).sh _ _
       rw [show (X.more (us.take (j + 1))).sh = s from HSH.out, <- more_step X us j hju]
       rw [show (us[j].1, false) = us[j] from HKB2.out] at h1
       exact h1
     refine ⟨j + 1, by omega, by go_num, ?_, ?_⟩
     ·have h := HS.out.setStk ix (by simpa using hix) (X.more (us.take (j + 1))) (by simp [StkR.more]) (by simp [StkR.more]) (by simpa [StkR.more] using ht4) hx'
      rw [set_set] at h
      exact h
     ·have h := HT.out.trans ht4
      rw [HBL.out.1] at h
      exact h
    case measure => simp [intOf]; omega
  ·obtain rfl : j = t := by omega
   have HFin : Hid (StoreOf wr B F1 sv1 lv dv (R1.set ix (R1[ix].more us)) ls ops fl ah kn) := by
    have h := HS.out
    rw [List.take_of_length_le (by rw [HU.out]; exact Nat.le_refl _), <- HX.out] at h
    exact h
   have HTf : Hid (Turn (fun b => b = B \/ sv.ownBlock = some b \/ F1 b) w wr) := by
    have hxi := HS1.out.stk R1[ix] (List.getElem_mem hix)
    rw [HX.out] at hxi
    refine (HT1.out.mono (fun b _ h => ?_)).trans (HT.out.mono (fun b _ h => ?_))
    ·rcases h with h | h
     ·exact .inl h
     ·exact .inr (.inl h)
    ·rcases h with rfl | rfl
     ·exact .inr (.inr hxi.fb)
     ·exact .inr (.inr hxi.fm)
   clear HS HT
   go_wp2
   go_end0
   exact ⟨R1, sv1, ix, F1, hix, rfl, HFin.out, HF12.out.2.2, HF12.out.1, HF12.out.2.1, HTf.out⟩
end
end
-- GRec
section
set_option maxRecDepth 100000
set_option maxHeartbeats 1600000
open Go.RowKit Go.Maps
def BytesAt (w : World) (base : Nat) (u : Value) (l : List UInt8) : Prop := w.ownsRow base 5 1 u l.length (byteV l)
theorem getD_mem (zs : List Int) (q : Nat) (h : q < zs.length) : zs.getD q 0 ∈ zs := by
 rw [List.getD_eq_getElem?_getD, List.getElem?_eq_getElem h]; exact List.getElem_mem h
theorem putX_c (base : Nat) (u : Value) (l : List UInt8) (z : Int) (h0 : 0 <= z) (h1 : z <= 18446744073709551615) (w : World) (hb : base <= w.heap.size) (ho : BytesAt w base u l) (hl : l.length <= 1000000) :
  Calls Tryz.prog 86 #[u, .int .u64 z, .int .i64 8] w fun e w' => ∃ v', e = .returned v' /\ BytesAt w' base v' (l ++ bytesI z 8) /\ Below base w w' := by
 refine (put_c base l.length u (byteV l) z 8 (by omega) h0 h1 w ho hb (by omega)).mono ?_
 rintro e w' ⟨v', rfl, ho', hbe, _⟩
 refine ⟨v', rfl, ?_, hbe⟩
 unfold BytesAt
 rw [List.length_append, len_bytesI, byteV_append, <- beV_I z 8 (by omega)]
 exact ho'
def wordsB (zs : List Int) : List UInt8 := zs.flatMap fun z => bytesI z 8
theorem len_wordsB (zs : List Int) : (wordsB zs).length = zs.length * 8 := by
 induction zs with
 | nil => rfl
 | cons z t ih => simp [wordsB, len_bytesI] at ih ⊢; omega
theorem wordsB_take (zs : List Int) (q : Nat) (h : q < zs.length) : wordsB (zs.take (q + 1)) = wordsB (zs.take q) ++ bytesI (zs.getD q 0) 8 := by
 rw [List.take_succ_eq_append_getElem h, wordsB, List.flatMap_append, List.flatMap_singleton, List.getD_eq_getElem?_getD, List.getElem?_eq_getElem h]
 rfl
def triB (s : Sh) (u : List Int × Bool) : List UInt8 := if u.2 = true then [1] ++ (wordsB (sh0 s u.1) ++ wordsB (sh1 s u.1)) else [0]
def trisB (s : Sh) (us : List (List Int × Bool)) : List UInt8 := us.flatMap (triB s)
def headB (kd m k n : Nat) : List UInt8 := [0, UInt8.ofNat kd, UInt8.ofNat m, UInt8.ofNat k, UInt8.ofNat n]
def makeB (kd m k n : Nat) (s : Sh) (us : List (List Int × Bool)) : List UInt8 := headB kd m k n ++ trisB s us
theorem trisB_take (s : Sh) (us : List (List Int × Bool)) (a : Nat) (h : a < us.length) : trisB s (us.take (a + 1)) = trisB s (us.take a) ++ triB s us[a] := by
 rw [List.take_succ_eq_append_getElem h, trisB, List.flatMap_append, List.flatMap_singleton]
 rfl
theorem len_triB {s : Sh} {u : List Int × Bool} (hs : s.x + s.y + s.z <= 27) (h : OkT s u) : (triB s u).length <= 433 := by
 unfold triB
 split
 ·rename_i hk
  obtain ⟨h0, h1, _⟩ := h hk
  simp [len_wordsB, h0, h1]
  omega
 ·simp
theorem len_trisB {s : Sh} {us : List (List Int × Bool)} (hs : s.x + s.y + s.z <= 27) (h : ∀ u ∈ us, OkT s u) : (trisB s us).length <= us.length * 433 := by
 induction us with
 | nil => simp [trisB]
 | cons u t ih =>
  have h1 := len_triB hs (h u (by simp))
  have h2 := ih (fun x hx => h x (by simp [hx]))
  simp [trisB] at h2 ⊢
  omega
def midB (z0 z1 : List Int) : Nat -> List UInt8
 | 0 => []
 | 1 => wordsB z0
 | _ => wordsB z0 ++ wordsB z1
theorem makingRecord_c (kd m k n gt tcap t : Nat) (F : Nat -> Prop) (s : Sh) (hs1 : 1 <= s.x + s.y + s.z) (hs2 : s.x + s.y + s.z <= 27) (us : List (List Int × Bool)) (hus : us.length = t) (ht : t <= 200) (hul : ∀ u ∈ us, OkT s u) (w : World) (htr : TriRow w F gt s us) :
  Calls Tryz.prog 131 #[.agg #[.int .i64 kd, .int .i64 m, .int .i64 k, .int .i64 n, .slice (some ⟨gt, 0, none⟩) t tcap]] w fun e w' => e = .returned (.string ⟨(makeB kd m k n s us).toArray⟩) /\ Ext w w' := by
 obtain ⟨i0, hi, hq0, hq1, hq2⟩ := info_parts infoU8
 have HTR : Hid (TriRow w F gt s us) := htr
 have HUL : Hid (∀ u ∈ us, OkT s u) := hul
 have HUS : Hid (us.length = t) := hus
 have HS2 : Hid (s.x + s.y + s.z <= 27) := hs2
 clear htr hul hus
 generalize hL : s.x + s.y + s.z = L at *
 have HLL : Hid (s.x + s.y + s.z = L) := hL
 have hL1 := hs1
 have hL2 := hs2
 clear hL hs1 hs2
 go_enter Tryz.func131, Tryz.ntmps131
 go_wp2_with fail
 have HR0 : Hid (BytesAt ((w.alloc (.cells #[.int .i64 kd, .int .i64 m, .int .i64 k, .int .i64 n, .slice (some ⟨gt, 0, none⟩) t tcap] 174)).alloc (.cells #[.int .u8 0, .int .u8 ((kd : Int) % 256), .int .u8 ((m : Int) % 256), .int .u8 ((k : Int) % 256), .int .u8 ((n : Int) % 256)] 5)) w.heap.size (.slice (some ⟨w.heap.size + 1, 0, none⟩) 5 5) (headB kd m k n)) := by
  have := World.ownsRow_lit (base := w.heap.size) (size := 1) (e := 5) (w.alloc (.cells #[.int .i64 kd, .int .i64 m, .int .i64 k, .int .i64 n, .slice (some ⟨gt, 0, none⟩) t tcap] 174)) #[.int .u8 0, .int .u8 ((kd : Int) % 256), .int .u8 ((m : Int) % 256), .int .u8 ((k : Int) % 256), .int .u8 ((n : Int) % 256)] 5 (by simp) (by unfold maxLen; omega) rfl
  rw [World.size_alloc] at this
  have e : ∀ x : Nat, ((UInt8.ofNat x).toNat : Int) = (x : Int) % 256 := fun x => by simp
  show World.ownsRow _ _ _ _ _ _ _
  simpa [byteV, headB, e] using this
 have HX0 : Hid (Ext w ((w.alloc (.cells #[.int .i64 kd, .int .i64 m, .int .i64 k, .int .i64 n, .slice (some ⟨gt, 0, none⟩) t tcap] 174)).alloc (.cells #[.int .u8 0, .int .u8 ((kd : Int) % 256), .int .u8 ((m : Int) % 256), .int .u8 ((k : Int) % 256), .int .u8 ((n : Int) % 256)] 5))) := ((Ext.refl w).alloc _).alloc _
 generalize World.alloc (World.alloc w _) _ = W at HR0 HX0 ⊢
 go_loopw [3, 30] (fun u i wr => ∃ a : Nat, a <= t /\ i = .int .i64 a /\ BytesAt wr w.heap.size u (headB kd m k n ++ trisB s (us.take a)) /\ Ext w wr) (fun _ i _ => t - (intOf i).toNat)
 case atStart => exact ⟨0, Nat.zero_le _, rfl, by rw [List.take_zero, show trisB s [] = [] from rfl, List.append_nil]; exact HR0.out, HX0.out⟩
 case round =>
  obtain ⟨a, ha, rfl, hob, hx⟩ := hrel
  by_cases hat : a < t
  ·have hau : a < us.length := by rw [HUS.out]; exact hat
   have HNX : Hid (headB kd m k n ++ trisB s (us.take (a + 1)) = (headB kd m k n ++ trisB s (us.take a)) ++ triB s us[a]) := by
    show headB kd m k n ++ trisB s (us.take (a + 1)) = _
    rw [trisB_take s us a hau, List.append_assoc]
   have hPl : (headB kd m k n ++ trisB s (us.take a)).length <= 5 + a * 433 := by
    have h1 := len_trisB (by rw [HLL.out]; exact hL2) (fun u (hu : u ∈ us.take a) => HUL.out u (List.mem_of_mem_take hu))
    rw [List.length_take] at h1
    have h2 : min a us.length = a := by omega
    rw [h2] at h1
    rw [List.length_append]
    show 5 + _ <= _
    omega
   generalize headB kd m k n ++ trisB s (us.take a) = P at *
   have HOB : Hid (BytesAt wr w.heap.size u3 P) := hob
   have HX : Hid (Ext w wr) := hx
   have hwx := hx.le
   have hk0 : (0 : Int) <= (a : Int) := by omega
   have hk1 : (a : Int) < t := by omega
   clear hob hx HR0 HX0
   have hlow := fun q hq => (World.ownsRow.lt HOB.out q hq).1
   have HLOW : Hid _ := hlow
   clear hlow
   rcases HTR.out.1 a hau with ⟨hkp, a0, c0, a1, c1, ht0, ht1, hw0, hw1, _, _⟩ | ⟨hkp, ht0, ht1⟩
   ·have HTB : Hid (triB s us[a] = [1] ++ (wordsB (sh0 s us[a].1) ++ wordsB (sh1 s us[a].1))) := by
     show triB s us[a] = _
     rw [triB, if_pos hkp]
    rw [HLL.out] at ht0 ht1
    have HZ : Hid ((sh0 s us[a].1).length = L /\ (sh1 s us[a].1).length = L /\ inU64 (sh0 s us[a].1) /\ inU64 (sh1 s us[a].1)) := by
     have := HUL.out us[a] (List.getElem_mem hau) hkp
     rw [HLL.out] at this
     exact this
    have HW0 : Hid (WordsAt w a0 0 (sh0 s us[a].1)) := hw0.1
    have HW1 : Hid (WordsAt w a1 0 (sh1 s us[a].1)) := hw1.1
    have t0 := HX.out.cell ht0
    have t1 := HX.out.cell ht1
    clear ht0 ht1 hw0 hw1 hkp
    generalize sh0 s us[a].1 = z0 at *
    generalize sh1 s us[a].1 = z1 at *
    have hone : (Value.slice (some ⟨a1, 0, none⟩) L c1).oneCell' = true := rfl
    have hix0 : ∀ w, (Instr.index 176 (.agg #[.slice (some ⟨a0, 0, none⟩) L c0, .slice (some ⟨a1, 0, none⟩) L c1]) (.int .i64 0)).run Tryz.prog w = .ok (.slice (some ⟨a0, 0, none⟩) L c0) w := fun w => by kernel_rfl
    have hix1 : ∀ w, (Instr.index 176 (.agg #[.slice (some ⟨a0, 0, none⟩) L c0, .slice (some ⟨a1, 0, none⟩) L c1]) (.int .i64 1)).run Tryz.prog w = .ok (.slice (some ⟨a1, 0, none⟩) L c1) w := fun w => by kernel_rfl
    have hL0 : ((L : Int) == 0) = false := by simp; omega
    go_wp2_with fail
    refine (isForgotten_c (some ⟨a0, 0, none⟩) L c0 _ hone _).mono ?_
    rintro e w2 ⟨rfl, hx2⟩
    have v0 := cell_in hx2 0 rfl
    have v1 := cell_in hx2 1 rfl
    have HX2 : Hid (Ext wr w2) := ((Ext.refl wr).alloc _).trans hx2
    have hw2 := HX2.out.le
    have hlv := lG w2 _ v0
    clear hx2
    go_wp2_with (at_builtin; refine wpList_append_own _ rfl _ _ 136 rfl w.heap.size 5 i0 (.int .u8 0) 1 1 Tryz.underlying136 hi hq0 hq1 hq2 rfl (by decide) _ _ _ rfl (World.ownsRow.alloc (Ext.owns HX2.out HOB.out) _) ⟨_, 0, none⟩ 1 1 [.int .u8 1] rfl rfl ?c1 ?c2 ?c3 ?c4 ?c5 ?_)
    case c1 => exact cell_one_new _ _ _
    case c2 => intro u hu; simp at hu; subst hu; rfl
    case c3 => unfold maxLen; omega
    case c4 => omega
    case c5 => simp; omega
    intro v3 w3 ho3 hg3 _
    have HX3 : Hid (Ext w w3) := Ext.grown (Ext.alloc (HX.out.trans HX2.out) _) hg3 (fun q hq => (World.ownsRow.lt HOB.out q hq).1)
    have HO3 : Hid (BytesAt w3 w.heap.size v3 (P ++ [1])) := by
     show World.ownsRow _ _ _ _ _ _ _
     rw [List.length_append, byteV_append]
     exact ho3
    have hne : u3.ownBlock ≠ some wr.heap.size := fun e => by have := (World.ownsRow.lt HOB.out _ e).2; omega
    have v0' : w3.cell? ⟨wr.heap.size, 0, none⟩ = some (.slice (some ⟨a0, 0, none⟩) L c0) := by
     rw [hg3.cell_far _ (by simp at hlv ⊢; omega) (fun e => hne e.symm)]
     exact (Ext.alloc (Ext.refl _) _).cell v0
    have v1' : w3.cell? ⟨wr.heap.size, 1, none⟩ = some (.slice (some ⟨a1, 0, none⟩) L c1) := by
     rw [hg3.cell_far _ (by simp at hlv ⊢; omega) (fun e => hne e.symm)]
     exact (Ext.alloc (Ext.refl _) _).cell v1
    clear ho3 hg3 v0 v1 t0 t1
    go_wp2_with fail
    go_loopw [3, 43] (fun u i ws => ∃ j : Nat, j <= 2 /\ i = .int .i64 j /\ BytesAt ws w.heap.size u ((P ++ [1]) ++ midB z0 z1 j) /\ Ext w ws) (fun _ i _ => 2 - (intOf i).toNat)
    case atStart => exact ⟨0, Nat.zero_le _, rfl, by show BytesAt _ _ _ ((P ++ [1]) ++ []); rw [List.append_nil]; exact HO3.out, HX3.out⟩
    case round =>
     obtain ⟨j, hj, rfl, hob4, hx4⟩ := hrel
     have HOB4 : Hid (BytesAt _ w.heap.size u3 ((P ++ [1]) ++ midB z0 z1 j)) := hob4
     have HX4 : Hid (Ext w _) := hx4
     clear hob4 hx4
     by_cases hlt : j < 2
     ·have hj2 : j = 0 \/ j = 1 := by omega
      have X4 : Ext w wr := HX4.out
      rcases hj2 with rfl | rfl
      ·obtain ⟨Q, hQ⟩ : ∃ Q, (P ++ [1]) ++ midB z0 z1 0 = Q := ⟨_, rfl⟩
       have hQl : Q.length <= 6 + a * 433 := by rw [<- hQ]; simp [midB]; omega
       have HQ : Hid ((P ++ [1]) ++ midB z0 z1 0 = Q) := hQ
       rw [hQ] at HOB4
       clear hQ
       go_wp2_with fail
       go_loopw [3, 48] (fun u i wt => ∃ q : Nat, q <= L /\ i = .int .i64 q /\ BytesAt wt w.heap.size u (Q ++ wordsB (z0.take q)) /\ Ext w wt) (fun _ i _ => L - (intOf i).toNat)
       case atStart => exact ⟨0, Nat.zero_le _, rfl, by rw [List.take_zero, show wordsB [] = [] from rfl, List.append_nil]; exact HOB4.out, X4⟩
       case round =>
        obtain ⟨q, hq, rfl, hob5, hx5⟩ := hrel
        have HOB5 : Hid (BytesAt wr w.heap.size u3 (Q ++ wordsB (z0.take q))) := hob5
        have HX5 : Hid (Ext w wr) := hx5
        clear hob5 hx5
        by_cases hlq : q < L
        ·have q0 := HX5.out.cell (HW0.out q (by rw [HZ.out.1]; exact hlq))
         have HB : Hid (0 <= z0.getD q 0 /\ z0.getD q 0 <= 18446744073709551615) := HZ.out.2.2.1 _ (getD_mem z0 q (by rw [HZ.out.1]; exact hlq))
         have HST : Hid (wordsB (z0.take (q + 1)) = wordsB (z0.take q) ++ bytesI (z0.getD q 0) 8) := wordsB_take z0 q (by rw [HZ.out.1]; exact hlq)
         have HLN : Hid ((Q ++ wordsB (z0.take q)).length <= 1000000) := by
          have h1 := len_wordsB (z0.take q)
          have h2 : (z0.take q).length <= q := by simp; omega
          show (Q ++ wordsB (z0.take q)).length <= 1000000
          rw [List.length_append, h1]
          omega
         rw [Nat.zero_add] at q0
         generalize z0.getD q 0 = y0 at *
         have hwl := HX5.out.le
         go_wp2_with fail
         refine (putX_c w.heap.size _ _ y0 HB.out.1 HB.out.2 _ hwl HOB5.out HLN.out).mono ?_
         rintro e w6 ⟨v6, rfl, hob6, hbe6⟩
         have HR6 : Hid _ := And.intro hob6 (Below.trans HX5.out hbe6)
         clear hob6 hbe6
         go_wp2
         go_roundw
         case rel => exact ⟨_, _, _, _, _, _, _, _, _, _, ⟨q + 1, by omega, by go_num, by rw [HST.out, <- List.append_assoc]; exact HR6.out.1, HR6.out.2⟩, rfl⟩
         case measure => simp [intOf]; omega
        ·obtain rfl : q = L := by omega
         have HR7 : Hid (BytesAt wr w.heap.size u3 (Q ++ wordsB z0)) := by
          have h := HOB5.out
          rw [List.take_of_length_le (by rw [HZ.out.1]; exact Nat.le_refl _)] at h
          exact h
         go_wp2
         go_roundw
         case rel =>
          exact ⟨1, by omega, by go_num, by have h := HR7.out; rw [<- HQ.out, List.append_assoc] at h; exact h, HX5.out⟩
         case measure => simp [intOf]
      ·obtain ⟨Q, hQ⟩ : ∃ Q, (P ++ [1]) ++ midB z0 z1 1 = Q := ⟨_, rfl⟩
       have hQl : Q.length <= 222 + a * 433 := by
        rw [<- hQ]
        have h1 := len_wordsB z0
        rw [HZ.out.1] at h1
        rw [List.length_append, List.length_append]
        show P.length + 1 + (wordsB z0).length <= _
        omega
       have HQ : Hid ((P ++ [1]) ++ midB z0 z1 1 = Q) := hQ
       rw [hQ] at HOB4
       clear hQ
       go_wp2_with fail
       go_loopw [3, 48] (fun u i wt => ∃ q : Nat, q <= L /\ i = .int .i64 q /\ BytesAt wt w.heap.size u (Q ++ wordsB (z1.take q)) /\ Ext w wt) (fun _ i _ => L - (intOf i).toNat)
       case atStart => exact ⟨0, Nat.zero_le _, rfl, by rw [List.take_zero, show wordsB [] = [] from rfl, List.append_nil]; exact HOB4.out, X4⟩
       case round =>
        obtain ⟨q, hq, rfl, hob5, hx5⟩ := hrel
        have HOB5 : Hid (BytesAt wr w.heap.size u3 (Q ++ wordsB (z1.take q))) := hob5
        have HX5 : Hid (Ext w wr) := hx5
        clear hob5 hx5
        by_cases hlq : q < L
        ·have q0 := HX5.out.cell (HW1.out q (by rw [HZ.out.2.1]; exact hlq))
         have HB : Hid (0 <= z1.getD q 0 /\ z1.getD q 0 <= 18446744073709551615) := HZ.out.2.2.2 _ (getD_mem z1 q (by rw [HZ.out.2.1]; exact hlq))
         have HST : Hid (wordsB (z1.take (q + 1)) = wordsB (z1.take q) ++ bytesI (z1.getD q 0) 8) := wordsB_take z1 q (by rw [HZ.out.2.1]; exact hlq)
         have HLN : Hid ((Q ++ wordsB (z1.take q)).length <= 1000000) := by
          have h1 := len_wordsB (z1.take q)
          have h2 : (z1.take q).length <= q := by simp; omega
          show (Q ++ wordsB (z1.take q)).length <= 1000000
          rw [List.length_append, h1]
          omega
         rw [Nat.zero_add] at q0
         generalize z1.getD q 0 = y0 at *
         have hwl := HX5.out.le
         go_wp2_with fail
         refine (putX_c w.heap.size _ _ y0 HB.out.1 HB.out.2 _ hwl HOB5.out HLN.out).mono ?_
         rintro e w6 ⟨v6, rfl, hob6, hbe6⟩
         have HR6 : Hid _ := And.intro hob6 (Below.trans HX5.out hbe6)
         clear hob6 hbe6
         go_wp2
         go_roundw
         case rel => exact ⟨_, _, _, _, _, _, _, _, _, _, ⟨q + 1, by omega, by go_num, by rw [HST.out, <- List.append_assoc]; exact HR6.out.1, HR6.out.2⟩, rfl⟩
         case measure => simp [intOf]; omega
        ·obtain rfl : q = L := by omega
         have HR7 : Hid (BytesAt wr w.heap.size u3 (Q ++ wordsB z1)) := by
          have h := HOB5.out
          rw [List.take_of_length_le (by rw [HZ.out.2.1]; exact Nat.le_refl _)] at h
          exact h
         go_wp2
         go_roundw
         case rel =>
          exact ⟨2, by omega, by go_num, by have h := HR7.out; rw [<- HQ.out, List.append_assoc] at h; exact h, HX5.out⟩
         case measure => simp [intOf]
     ·obtain rfl : j = 2 := by omega
      go_wp2
      go_roundw
      case rel =>
       refine ⟨a + 1, by omega, by go_num, ?_, HX4.out⟩
       rw [HNX.out, HTB.out, <- List.append_assoc]
       exact HOB4.out
      case measure => simp [intOf]; omega
   ·have HTB : Hid (triB s us[a] = [0]) := by
     show triB s us[a] = _
     rw [triB, if_neg (by rw [hkp]; decide)]
    have t0 := HX.out.cell ht0
    have t1 := HX.out.cell ht1
    clear ht0 ht1 hkp
    have hone : (Value.slice none 0 0).oneCell' = true := rfl
    go_wp2_with fail
    refine (isForgotten_c none 0 0 _ hone _).mono ?_
    rintro e w2 ⟨rfl, hx2⟩
    have HX2 : Hid (Ext wr w2) := ((Ext.refl wr).alloc _).trans hx2
    have hw2 := HX2.out.le
    clear hx2 t0 t1
    go_wp2_with (at_builtin; refine wpList_append_own _ rfl _ _ 136 rfl w.heap.size 5 i0 (.int .u8 0) 1 1 Tryz.underlying136 hi hq0 hq1 hq2 rfl (by decide) _ _ _ rfl (World.ownsRow.alloc (Ext.owns HX2.out HOB.out) _) ⟨_, 0, none⟩ 1 1 [.int .u8 0] rfl rfl ?c1 ?c2 ?c3 ?c4 ?c5 ?_)
    case c1 => exact cell_one_new _ _ _
    case c2 => intro u hu; simp at hu; subst hu; rfl
    case c3 => unfold maxLen; omega
    case c4 => omega
    case c5 => simp; omega
    intro v3 w3 ho3 hg3 _
    have HX3 : Hid (Ext w w3) := Ext.grown (Ext.alloc (HX.out.trans HX2.out) _) hg3 (fun q hq => (World.ownsRow.lt HOB.out q hq).1)
    have HO3 : Hid (BytesAt w3 w.heap.size v3 (P ++ [0])) := by
     show World.ownsRow _ _ _ _ _ _ _
     rw [List.length_append, byteV_append]
     exact ho3
    clear ho3 hg3
    go_wp2
    go_roundw
    case rel =>
     refine ⟨a + 1, by omega, by go_num, ?_, HX3.out⟩
     rw [HNX.out, HTB.out]
     exact HO3.out
    case measure => simp [intOf]; omega
  ·obtain rfl : a = t := by omega
   have HM : Hid (headB kd m k n ++ trisB s (us.take a) = makeB kd m k n s us) := by
    show headB kd m k n ++ trisB s (us.take a) = _
    rw [List.take_of_length_le (by rw [HUS.out]; exact Nat.le_refl _), makeB]
   rw [HM.out] at hob
   obtain ⟨MB, hMB⟩ : ∃ MB, makeB kd m k n s us = MB := ⟨_, rfl⟩
   have HMB : Hid (makeB kd m k n s us = MB) := hMB
   have hne : MB.length ≠ 0 := by rw [<- hMB]; simp [makeB, headB]
   rw [hMB] at hob
   clear hMB HM
   rcases owns_form hob with ⟨_, h2, _⟩ | ⟨g, cp, rfl, _, _, _⟩
   ·exact absurd h2 hne
   ·have hcv := conv_own rfl hob
    have HXX : Hid (Ext w wr) := hx
    clear hob hx
    go_wp2
    go_ret
    exact ⟨by rw [HMB.out]; rfl, HXX.out⟩
end
-- FieldsL
section
set_option maxRecDepth 100000
set_option maxHeartbeats 8000000
open Go.RowKit
theorem leaseFields_c (b : Nat) (w : World) : Calls Tryz.prog 210 #[.pointer (some ⟨b, 0, none⟩)] w fun e w' => Made w 7 (fl b leaseL) e w' := by
 go_enter Tryz.func210, Tryz.ntmps210
 go_wp2
 go_region_with (first
  | (go_at_call_of 212 (2 : Nat); refine (numbers_m _ 2 [⟨b, 0, none⟩, ⟨b, 1, none⟩] _ rfl (by decide) (by decide) ?_).mono ?_; exact ptrs_at _ (by repeat (first | (with_reducible refine at_drew ?_) | ((with_reducible refine at_new ?_); (simp; done)) | (with_reducible refine at_old ?_) | (with_reducible (apply Ext.block; assumption)))) (by rfl); rintro e w1 ⟨g1, cap1, rfl, ho1, hx1⟩)
  | (go_at_call 213; refine (class_m b 2 _).mono ?_; rintro e w2 ⟨g2, cap2, rfl, ho2, hx2⟩)
  | (go_at_call_of 212 (1 : Nat); refine (numbers_m _ 1 [⟨b, 6, none⟩] _ rfl (by decide) (by decide) ?_).mono ?_; exact ptrs_at _ (by repeat (first | (with_reducible refine at_drew ?_) | ((with_reducible refine at_new ?_); (simp; done)) | (with_reducible refine at_old ?_) | (with_reducible (apply Ext.block; assumption)))) (by rfl); rintro e w3 ⟨g3, cap3, rfl, ho3, hx3⟩)
  | (go_at_call 211; refine (concat_m _ 3 [⟨g1, 2, cap1, _⟩, ⟨g2, 4, cap2, _⟩, ⟨g3, 1, cap3, _⟩] _ 7 (fl b leaseL) rfl (by decide) (by decide) rfl (by decide) ?_ (three_ok (ok_of ho1 (by decide) (by decide) (by repeat (first | (with_reducible exact Ext.refl _) | (with_reducible assumption) | (with_reducible refine Ext.drew ?_) | (with_reducible refine Ext.alloc ?_ _) | (with_reducible (apply Ext.chain; assumption))))) (ok_of ho2 (by decide) (by decide) (by repeat (first | (with_reducible exact Ext.refl _) | (with_reducible assumption) | (with_reducible refine Ext.drew ?_) | (with_reducible refine Ext.alloc ?_ _) | (with_reducible (apply Ext.chain; assumption))))) (ok_of ho3 (by decide) (by decide) (by repeat (first | (with_reducible exact Ext.refl _) | (with_reducible assumption) | (with_reducible refine Ext.drew ?_) | (with_reducible refine Ext.alloc ?_ _) | (with_reducible (apply Ext.chain; assumption)))))) ?_).mono ?_; rfl; exact vals_at _ (by with_reducible exact at_new (by simp)) (by rfl); rintro e w4 ⟨g4, cap4, rfl, ho4, hx4⟩))
 all_goals go_wp2
 all_goals go_ret
 all_goals exact ⟨g4, cap4, rfl, owns_base ho4 (Ext.le (by repeat (first | (with_reducible exact Ext.refl _) | (with_reducible assumption) | (with_reducible refine Ext.drew ?_) | (with_reducible refine Ext.alloc ?_ _) | (with_reducible (apply Ext.chain; assumption))))), Ext.trans (by repeat (first | (with_reducible exact Ext.refl _) | (with_reducible assumption) | (with_reducible refine Ext.drew ?_) | (with_reducible refine Ext.alloc ?_ _) | (with_reducible (apply Ext.chain; assumption)))) hx4⟩
end
-- WW1
section
set_option maxRecDepth 100000
set_option maxHeartbeats 3200000
open Go.RowKit
theorem sizes_lease : sizes8 leaseL := by intro x hx; simp only [leaseL, List.mem_cons, List.not_mem_nil, or_false] at hx; rcases hx with rfl | rfl | rfl | rfl | rfl | rfl | rfl <;> decide
theorem nvals_lease {W : World} {b : Nat} {s i ck cm cl cn c : Nat} {vals : Nat -> Nat} (hW : W.heap[b]? = some (.cells #[.int .i64 (s : Int), .int .i64 (i : Int), .int .i64 (ck : Int), .int .i64 (cm : Int), .int .i64 (cl : Int), .int .i64 (cn : Int), .int .i64 (c : Int)] 210 (0, 0))) (hv : vals 0 = s /\ vals 1 = i /\ vals 2 = ck /\ vals 3 = cm /\ vals 4 = cl /\ vals 5 = cn /\ vals 6 = c) : ∀ x ∈ leaseL, W.cell? ⟨b, x.1, none⟩ = some (.int .i64 (vals x.1 : Int)) := by
 obtain ⟨v0, v1, v2, v3, v4, v5, v6⟩ := hv
 intro x hx
 simp only [leaseL, List.mem_cons, List.not_mem_nil, or_false] at hx
 rcases hx with rfl | rfl | rfl | rfl | rfl | rfl | rfl
 ·show W.cell? ⟨b, 0, none⟩ = some (.int .i64 (vals 0 : Int)); rw [v0]; exact cell_at hW rfl
 ·show W.cell? ⟨b, 1, none⟩ = some (.int .i64 (vals 1 : Int)); rw [v1]; exact cell_at hW rfl
 ·show W.cell? ⟨b, 2, none⟩ = some (.int .i64 (vals 2 : Int)); rw [v2]; exact cell_at hW rfl
 ·show W.cell? ⟨b, 3, none⟩ = some (.int .i64 (vals 3 : Int)); rw [v3]; exact cell_at hW rfl
 ·show W.cell? ⟨b, 4, none⟩ = some (.int .i64 (vals 4 : Int)); rw [v4]; exact cell_at hW rfl
 ·show W.cell? ⟨b, 5, none⟩ = some (.int .i64 (vals 5 : Int)); rw [v5]; exact cell_at hW rfl
 ·show W.cell? ⟨b, 6, none⟩ = some (.int .i64 (vals 6 : Int)); rw [v6]; exact cell_at hW rfl
theorem wireWrite_1 (b : Nat) (s i ck cm cl cn c : Nat) (vals : Nat -> Nat) (hv : vals 0 = s /\ vals 1 = i /\ vals 2 = ck /\ vals 3 = cm /\ vals 4 = cl /\ vals 5 = cn /\ vals 6 = c) (hmax : ∀ j, vals j <= 2147483647) (w : World) (hb : w.heap[b]? = some (.cells #[.int .i64 (s : Int), .int .i64 (i : Int), .int .i64 (ck : Int), .int .i64 (cm : Int), .int .i64 (cl : Int), .int .i64 (cn : Int), .int .i64 (c : Int)] 210 (0, 0))) :
  Calls Tryz.prog 57 #[.iface 201 (.pointer (some ⟨b, 0, none⟩))] w fun e w' => e = .returned (.string ⟨([1] ++ flatB vals leaseL).toArray⟩) /\ Ext w w' := by
 have HV : Hid (vals 0 = s /\ vals 1 = i /\ vals 2 = ck /\ vals 3 = cm /\ vals 4 = cl /\ vals 5 = cn /\ vals 6 = c) := hv
 have HB : Hid _ := hb
 have HMX : Hid (∀ j, vals j <= 2147483647) := hmax
 have hm1 := m_leasePlain
 have hm2 := m_leaseFields
 have hfk := field_kind
 clear hv hb hmax
 go_enter Tryz.func57, Tryz.ntmps57
 go_wp2_with (first
  | (go_at_call 209; refine (leasePlain_c b s i ck cm cl cn c _ (by exact HB.out)).mono ?_; rintro e w1 ⟨rfl, hx1⟩)
  | (go_at_call 210; refine (leaseFields_c b _).mono ?_; rintro e w2 ⟨g, cap, rfl, ho, hx2⟩))
 obtain ⟨g0, hg0⟩ : ∃ g0, g0 = w1.heap.size := ⟨_, rfl⟩
 have HO0 : Hid (w2.ownsRow w.heap.size 5 1 (.slice (some ⟨w1.heap.size, 0, none⟩) 1 1) 1 (byteV [1])) := (hx2.owns (World.ownsRow_lit w1 #[.int .u8 1] 1 hx1.le (by unfold maxLen; omega) rfl) : _)
 have HX2 : Ext w w2 := (hx1.alloc _).trans hx2
 have HB2 : Hid (w2.heap[b]? = some (.cells #[.int .i64 (s : Int), .int .i64 (i : Int), .int .i64 (ck : Int), .int .i64 (cm : Int), .int .i64 (cl : Int), .int .i64 (cn : Int), .int .i64 (c : Int)] 210 (0, 0))) := HX2.block (by exact HB.out)
 have HF2 : Hid (∃ cur : Array Value, w2.heap[g]? = some (.cells cur 162 (0, 0)) /\ ∀ j, j < 7 * 3 -> cur[j]? = (fl b leaseL)[j]?) := by
  rcases ho.2 with ⟨h0, _⟩ | ⟨g1, cap1, cur, h0, _, hh, _, _, _, ht⟩
  ·simp at h0
  ·simp only [Value.slice.injEq, Option.some.injEq, Addr.mk.injEq, and_true, true_and] at h0
   obtain ⟨rfl, rfl⟩ := h0
   exact ⟨cur, hh, fun j hj => by rw [<- ht, List.getElem?_take, if_pos hj]; simp⟩
 clear ho hx1 hx2 hg0 g0
 go_loopw [3, 5, 14] (fun u _ i wr => ∃ (k n g' cap' : Nat), k <= 7 /\ u = .slice (some ⟨g', 0, none⟩) n cap' /\ i = .int .i64 k /\ ([(1 : UInt8)] ++ flatB vals (leaseL.take k)).length = n /\ wr.ownsRow w.heap.size 5 1 (.slice (some ⟨g', 0, none⟩) n cap') n (byteV ([1] ++ flatB vals (leaseL.take k))) /\ Below w.heap.size w2 wr /\ Keeps w2 wr) (fun _ _ i _ => 7 - (intOf i).toNat)
 case atStart => exact ⟨0, 1, _, _, Nat.zero_le _, rfl, rfl, rfl, HO0.out, Below.refl _ _, Keeps.refl _⟩
 case round =>
  obtain ⟨k, n, g', cap', hk, rfl, rfl, hn, hor, hbel, hkp⟩ := hrel
  have HN : Hid (([(1 : UInt8)] ++ flatB vals (leaseL.take k)).length = n) := hn
  have hn1 : 1 <= n := by rw [<- hn]; simp
  have hn2 : n <= 65 := by
   have h1 := len_flatB vals (leaseL.take k) (fun x hx => sizes_lease x (List.mem_of_mem_take hx))
   have h2 : (leaseL.take k).length <= 8 := Nat.le_trans (List.length_take_le' _ _) (by decide)
   rw [<- hn]; simp; omega
  clear hn
  by_cases hlt : k < 7
  ·have hkl : k < leaseL.length := hlt
   have HX : Hid (leaseL.take (k + 1) = leaseL.take k ++ [leaseL[k]]) := List.take_succ_eq_append_getElem hkl
   obtain ⟨cur, hg2, hcur⟩ := HF2.out
   have hgr := hkp.block g _ _ _ hg2 (by decide)
   have hbr := hkp.block b _ _ _ HB2.out (by decide)
   obtain ⟨f0, f1, f2⟩ := fl_at b leaseL k hkl
   have e0 : wr.cell? ⟨g, k * 3, none⟩ = some (.pointer (some ⟨b, leaseL[k].1, none⟩)) := cell_at hgr ((hcur _ (by omega)).trans f0)
   have e1 : wr.cell? ⟨g, k * 3 + 1, none⟩ = some (.int .i64 leaseL[k].2.1) := cell_at hgr ((hcur _ (by omega)).trans f1)
   have e2 : wr.cell? ⟨g, k * 3 + 2, none⟩ = some (.int .i64 leaseL[k].2.2) := cell_at hgr ((hcur _ (by omega)).trans f2)
   have e3 := nvals_lease hbr HV.out leaseL[k] (List.getElem_mem hkl)
   have hmx := HMX.out leaseL[k].1
   have hs8 := sizes_lease leaseL[k] (List.getElem_mem hkl)
   have HFB : Hid (flatB vals (leaseL.take (k + 1)) = flatB vals (leaseL.take k) ++ bytesOf (vals leaseL[k].1) leaseL[k].2.1.toNat) := by
    show flatB vals (leaseL.take (k + 1)) = _
    rw [HX.out, flatB_snoc]
   have hgl : g < wr.heap.size := lG wr _ e0
   have hbl : b < wr.heap.size := lG wr _ e3
   obtain ⟨sz, hsz⟩ : ∃ sz : Nat, leaseL[k].2.1 = (sz : Int) := ⟨leaseL[k].2.1.toNat, by omega⟩
   rw [hsz] at e1 hs8 HFB
   rw [Int.toNat_natCast] at HFB
   clear hsz f0 f1 f2 hcur hg2 HX hgr hbr
   generalize vals leaseL[k].1 = x at *
   generalize leaseL[k].2.2 = mo at *
   generalize leaseL[k].1 = o at *
   have hwr : IntKind.u64.wrap (x : Int) = (x : Int) := by rw [IntKind.wrap_u64]; omega
   have hszr := hbel.size
   have hszw := HX2.le
   go_wp2
   go_region_with (go_at_call 86; refine (put_s w.heap.size n g' cap' ([1] ++ flatB vals (leaseL.take k)) x sz (by omega) (by omega) (by omega) _ (by exact hor.alloc _) (by simp; omega) (by omega)).mono ?_; rintro e w3 ⟨g3, cap3, rfl, ho3, hb3, hk3⟩)
   all_goals
    have R1 : w3.ownsRow w.heap.size 5 1 (.slice (some ⟨g3, 0, none⟩) (n + sz) cap3) (n + sz) (byteV ([1] ++ flatB vals (leaseL.take (k + 1)))) := by
     rw [HFB.out, <- List.append_assoc]; exact ho3
    have R2 : Below w.heap.size w2 w3 := (hbel.alloc (by omega) _).drew.trans hb3
    have R3 : Keeps w2 w3 := ((hkp.alloc _).drew).trans hk3
    have R4 : ([(1 : UInt8)] ++ flatB vals (leaseL.take (k + 1))).length = n + sz := by
     rw [HFB.out, <- List.append_assoc, List.length_append, HN.out, len_bytesOf]
    have HR4 : Hid _ := R4
    clear R4 ho3 hb3 hk3 hor hbel hkp
    go_wp2
    go_roundw
    case rel => exact ⟨k + 1, n + sz, g3, cap3, by omega, rfl, by go_num, HR4.out, R1, R2, R3⟩
    case measure => simp [intOf]; omega
  ·obtain rfl : k = 7 := by omega
   have hcv := conv_own HN.out hor
   have HE : Ext w wr := Below.trans HX2 hbel
   rw [show leaseL.take 7 = leaseL from rfl] at hcv
   clear hor hbel hkp
   go_wp2
   go_ret
   exact ⟨rfl, HE⟩
end
-- GLs
section
set_option maxRecDepth 100000
set_option maxHeartbeats 1600000
open Go.RowKit Go.Maps
theorem isCount_c (n : Int) (w : World) : Calls Tryz.prog 185 #[.int .i64 n] w fun e w' => e = .returned (.bool (decide (1 <= n) && decide (n <= 40))) /\ w = w' := by
 go_enter Tryz.func185, Tryz.ntmps185
 go_wp2
 all_goals go_ret
 all_goals (refine ⟨ret_bool ?_, rfl⟩; simp [*]; try omega)
theorem and_c4 {a b : World} {p1 p2 p3 p4 : Addr} {v1 v2 v3 v4 : Value} (h1 : a.cell? p1 = some v1) (h2 : a.cell? p2 = some v2) (h3 : a.cell? p3 = some v3) (h4 : a.cell? p4 = some v4) (h : Ext a b) :
  (b.cell? p1 = some v1 /\ b.cell? p2 = some v2 /\ b.cell? p3 = some v3 /\ b.cell? p4 = some v4) /\ Ext a b := ⟨⟨h.cell h1, h.cell h2, h.cell h3, h.cell h4⟩, h⟩
def LeaseReq (w : World) (rb : Nat) (ss ii kd m k n c : Int) : Prop := w.heap[rb]? = some (.cells #[.int .i64 ss, .int .i64 ii, .int .i64 kd, .int .i64 m, .int .i64 k, .int .i64 n, .int .i64 c] 210 (0, 0))
def leaseCode (R : List StkR) (ls : List LsV) (kd m k n c : Int) : Int := match R.find? (fun x => x.is kd m k n) with
 | none => 2
 | some x => if c < 1 \/ 40 < c then 5 else if (x.ts.length : Int) - x.leased < c then 7 else if 30 <= ls.length then 4 else 0
section
variable {B : Nat} {F : Nat -> Prop} {sv lv dv : Value} {R : List StkR} {ls : List LsV} {ops : List OpV} {fl : Bool} {ah : Int} {kn : Bool}
theorem leasingAgainst_c (rb : Nat) (kd m k n ss ii c : Int) (hR : R.length <= 100) (hls : ls.length <= 1000) (hRm : ∀ x ∈ R, x.ts.length <= 1000 /\ x.leased <= 1000) (hno : ls.findIdx? (isNamed ss ii) = none) (w : World) (h : StoreOf w B F sv lv dv R ls ops fl ah kn) (hr : LeaseReq w rb ss ii kd m k n c) :
  Calls Tryz.prog 223 #[.agg #[.pointer (some ⟨rb, 0, none⟩)], .pointer (some ⟨B, 0, none⟩)] w fun e w' => e = .returned (.int .i64 (leaseCode R ls kd m k n c)) /\ Ext w w' := by
 have H : Hid _ := h
 have HR : Hid (LeaseReq w rb ss ii kd m k n c) := hr
 have r0 := cell_at hr (i := 0) rfl
 have r1 := cell_at hr (i := 1) rfl
 have r2 := cell_at hr (i := 2) rfl
 have r3 := cell_at hr (i := 3) rfl
 have r4 := cell_at hr (i := 4) rfl
 have r5 := cell_at hr (i := 5) rfl
 have r6 := cell_at hr (i := 6) rfl
 have hrl := lG w _ r0
 have HN : Hid (∀ w', Ext w w' -> Calls Tryz.prog 165 #[.pointer (some ⟨B, 0, none⟩), .int .i64 ss, .int .i64 ii] w' fun e w'' => e = .returned (.pointer none) /\ Ext w' w'') := fun w' hx => by
  have := named_c B ls ss ii sv lv dv fl ah kn w' (h.deal.ext hx) (h.lrow.ext hx) hls
  rwa [hno] at this
 have HF : Hid (∀ w', Ext w w' -> _) := fun w' hx => findR_c kd m k n hR w' (h.ext hx)
 unfold clsV at HF
 obtain ⟨la, lcap, hlv⟩ := owns_slice h.lrow
 subst hlv
 clear h hr hno
 have HCd : Hid (leaseCode R ls kd m k n c = match R.find? (fun x => x.is kd m k n) with
  | none => 2
  | some x => if c < 1 \/ 40 < c then 5 else if (x.ts.length : Int) - x.leased < c then 7 else if 30 <= ls.length then 4 else 0) := rfl
 generalize leaseCode R ls kd m k n c = cd at *
 cases hf : R.find? (fun x => x.is kd m k n) with
 | none =>
  have hp : stkPtr R kd m k n = .pointer none := by rw [stkPtr, hf]
  rw [hp] at HF
  rw [hf] at HCd
  clear hp hf
  go_enter Tryz.func223, Tryz.ntmps223
  go_wp2_with fail
  refine (HF.out _ ((Ext.refl w).alloc _)).mono ?_
  rintro e w1 ⟨rfl, hx1⟩
  have q0 := cell_in hx1 0 rfl
  have HX1 : Hid (Ext w w1) := ((Ext.refl w).alloc _).trans hx1
  have r0 := HX1.out.cell r0
  have r1 := HX1.out.cell r1
  have r6 := HX1.out.cell r6
  clear hx1 r2 r3 r4 r5
  go_wp2_with fail
  go_region_held3 (fun w' => (w'.cell? ⟨w.heap.size, 0, none⟩ = some (.pointer (some ⟨rb, 0, none⟩)) /\ w'.cell? ⟨rb, 0, none⟩ = some (.int .i64 ss) /\ w'.cell? ⟨rb, 1, none⟩ = some (.int .i64 ii) /\ w'.cell? ⟨rb, 6, none⟩ = some (.int .i64 c)) /\ Ext w1 w')
   ((refine and_c4 q0 r0 r1 r6 ?_; (repeat (first | with_reducible exact Ext.refl _ | with_reducible assumption | with_reducible refine Ext.drew ?_ | with_reducible refine Ext.alloc ?_ _ | with_reducible (apply Ext.chain; assumption))); done))
   (first | (go_at_call 165; refine (HN.out _ (HX1.out.trans (Ext.drew (Ext.refl w1)))).mono ?_; rintro e w1' ⟨rfl, hx2⟩))
  rename_i hh
  have HX2 : Hid (Ext w w1') := HX1.out.trans hh.2
  clear hh hx2
  go_wp2
  go_ret
  exact ⟨by rw [HCd.out]; rfl, HX2.out⟩
 | some x =>
  have hp : stkPtr R kd m k n = .pointer (some ⟨x.blk, 0, none⟩) := by rw [stkPtr, hf]
  rw [hp] at HF
  rw [hf] at HCd
  have hxR : x ∈ R := List.mem_of_find?_eq_some hf
  have hb := (H.out.stk x hxR).blk
  have k4 : w.cell? ⟨x.blk, 4, none⟩ = some (.int .i64 x.ts.length) := (cell_of_row w x.blk 4 _ _ _ hb).trans rfl
  have k5 : w.cell? ⟨x.blk, 5, none⟩ = some (.int .i64 x.leased) := (cell_of_row w x.blk 5 _ _ _ hb).trans rfl
  obtain ⟨_, c1, _⟩ := H.out.deal.cells
  have hmx := hRm x hxR
  have HCd2 : Hid (cd = if c < 1 \/ 40 < c then 5 else if (x.ts.length : Int) - x.leased < c then 7 else if 30 <= ls.length then 4 else 0) := HCd.out
  have HWr : Hid (IntKind.i64.wrap ((x.ts.length : Int) - (x.leased : Int)) = (x.ts.length : Int) - x.leased) := by
   show IntKind.i64.wrap ((x.ts.length : Int) - (x.leased : Int)) = (x.ts.length : Int) - x.leased
   rw [IntKind.wrap_i64]; omega
  clear hp hf hb HCd
  generalize x.ts.length = tl at *
  generalize x.leased = le at *
  generalize x.blk = blk at *
  clear hxR H HR hRm
  go_enter Tryz.func223, Tryz.ntmps223
  go_wp2_with fail
  refine (HF.out _ ((Ext.refl w).alloc _)).mono ?_
  rintro e w1 ⟨rfl, hx1⟩
  have q0 := cell_in hx1 0 rfl
  have HX1 : Hid (Ext w w1) := ((Ext.refl w).alloc _).trans hx1
  have r0 := HX1.out.cell r0
  have r1 := HX1.out.cell r1
  have r6 := HX1.out.cell r6
  have k4 := HX1.out.cell k4
  have k5 := HX1.out.cell k5
  have c1 := HX1.out.cell c1
  clear hx1 r2 r3 r4 r5
  go_wp2_with fail
  go_region_held3 (fun w' => (w'.cell? ⟨w.heap.size, 0, none⟩ = some (.pointer (some ⟨rb, 0, none⟩)) /\ w'.cell? ⟨rb, 0, none⟩ = some (.int .i64 ss) /\ w'.cell? ⟨rb, 1, none⟩ = some (.int .i64 ii) /\ w'.cell? ⟨rb, 6, none⟩ = some (.int .i64 c)) /\ Ext w1 w')
   ((refine and_c4 q0 r0 r1 r6 ?_; (repeat (first | with_reducible exact Ext.refl _ | with_reducible assumption | with_reducible refine Ext.drew ?_ | with_reducible refine Ext.alloc ?_ _ | with_reducible (apply Ext.chain; assumption))); done))
   (first | (go_at_call 165; refine (HN.out _ (HX1.out.trans (Ext.drew (Ext.refl w1)))).mono ?_; rintro e w2 ⟨rfl, hx2⟩))
  rename_i hh
  have hD : Ext w1 w2 := hh.2
  clear hh hx2
  have HX2 : Hid (Ext w w2) := HX1.out.trans hD
  have q0 := hD.cell q0
  have r6 := hD.cell r6
  have k4 := hD.cell k4
  have k5 := hD.cell k5
  have c1 := hD.cell c1
  clear hD r0 r1
  go_wp2_with fail
  refine (isCount_c c w2).mono ?_
  rintro e w1' ⟨rfl, rfl⟩
  by_cases hc : c < 1 \/ 40 < c
  ·have hb : (decide (1 <= c) && decide (c <= 40)) = false := by simp; omega
   rw [hb]
   go_wp2
   go_ret
   exact ⟨by rw [HCd2.out]; simp [hc], HX2.out⟩
  ·have hb : (decide (1 <= c) && decide (c <= 40)) = true := by simp; omega
   rw [hb]
   go_wp2
   go_region_held3 (fun w' => (w'.cell? ⟨w.heap.size, 0, none⟩ = some (.pointer (some ⟨rb, 0, none⟩)) /\ w'.cell? ⟨blk, 4, none⟩ = some (.int .i64 tl) /\ w'.cell? ⟨blk, 5, none⟩ = some (.int .i64 le) /\ w'.cell? ⟨rb, 6, none⟩ = some (.int .i64 c)) /\ Ext w2 w')
    ((refine and_c4 q0 k4 k5 r6 ?_; (repeat (first | with_reducible exact Ext.refl _ | with_reducible assumption | with_reducible refine Ext.drew ?_ | with_reducible refine Ext.alloc ?_ _ | with_reducible (apply Ext.chain; assumption))); done))
    (fail)
   rename_i hh
   have hD : Ext w2 w2.drew := hh.2
   clear hh
   generalize w2.drew = w3 at hD ⊢
   have HX3 : Hid (Ext w w3) := HX2.out.trans hD
   have c1 := hD.cell c1
   clear hD
   go_wp2
   all_goals go_ret
   all_goals refine ⟨?_, HX3.out⟩
   all_goals rw [HCd2.out]
   all_goals have hwr := HWr.out
   all_goals simp only [if_neg hc]
   all_goals split
   all_goals first | rfl | (exfalso; omega) | (split <;> first | rfl | (exfalso; omega))
end
end
end Go.Proofs.YtmnjhhachdlmkaaGreat
