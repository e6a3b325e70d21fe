import Derived.Test.YtmnjhhachdlmkaaGreatK10
import Derived.Test.YtmnjhhachdlmkaaGreatK01
import Derived.Test.YtmnjhhachdlmkaaGreatK09
import Derived.Test.YtmnjhhachdlmkaaGreatK08
import Derived.Test.YtmnjhhachdlmkaaGreatK04
import Derived.Test.YtmnjhhachdlmkaaGreatK07
namespace Go.Proofs.YtmnjhhachdlmkaaGreat
set_option linter.unusedVariables false
set_option linter.unusedSimpArgs false
open List renaming getElem_toArray -> lA, getElem_cons_succ -> lB, getElem_cons_zero -> lC, setIfInBounds_toArray -> lD, set_cons_zero -> lE, set_cons_succ -> lF
open World renaming block_lt_of_cell? -> lG
open Value renaming ownBlock -> lH
-- VRm
section
set_option maxRecDepth 100000
set_option maxHeartbeats 3200000
open Go.RowKit Go.Maps
theorem share_pos {L : Nat} {l : List UInt8} {u : List Int × Bool} {n : Nat} (h : shareP L l = some (u, n)) : 1 <= n := by
 unfold shareP at h
 split at h
 ·injection h with h; injection h with h1 h2; omega
 ·split at h
  ·cases h
  ·injection h with h; injection h with h1 h2; omega
theorem share_len2 {L : Nat} {s : ByteArray} {u : List Int × Bool} {n : Nat} (h : shareP L s.data.toList = some (u, n)) : n <= s.size \/ s.size = 0 := by
 have hl : s.data.toList.length = s.size := by simp
 unfold shareP at h
 split at h
 ·injection h with h; injection h with h1 h2; omega
 ·split at h
  ·cases h
  ·rename_i hn
   injection h with h; injection h with h1 h2
   rw [hl] at hn
   omega
def makingF (L : Nat) : Nat -> List UInt8 -> Option (List (List Int × Bool))
 | 0, _ => none
 | q + 1, l => if l = [] then some [] else match shareP L l with
  | none => none
  | some p => (makingF L q (l.drop p.2)).map (p.1 :: ·)
def makingP (L : Nat) (l : List UInt8) : Option (List (List Int × Bool)) := makingF L (l.length + 1) l
theorem makingF_any (L : Nat) : ∀ (q q' : Nat) (l : List UInt8), l.length < q -> l.length < q' -> makingF L q l = makingF L q' l
 | 0, _, _, h, _ => absurd h (Nat.not_lt_zero _)
 | _ + 1, 0, _, _, h => absurd h (Nat.not_lt_zero _)
 | q + 1, q' + 1, l, h, h' => by
  unfold makingF
  by_cases hl : l = []
  ·rw [if_pos hl, if_pos hl]
  ·rw [if_neg hl, if_neg hl]
   cases hu : shareP L l with
   | none => rfl
   | some p =>
    have h1 := share_pos (u := p.1) (n := p.2) hu
    have h2 : 0 < l.length := List.length_pos_iff.2 hl
    simp only
    rw [makingF_any L q q' _ (by rw [List.length_drop]; omega) (by rw [List.length_drop]; omega)]
theorem makingP_nil (L : Nat) : makingP L [] = some [] := by unfold makingP makingF; simp
theorem makingP_none {L : Nat} {l : List UInt8} (hl : l ≠ []) (h : shareP L l = none) : makingP L l = none := by
 unfold makingP makingF
 rw [if_neg hl, h]
theorem makingP_some {L : Nat} {l : List UInt8} {u : List Int × Bool} {n : Nat} (hl : l ≠ []) (h : shareP L l = some (u, n)) : makingP L l = (makingP L (l.drop n)).map (u :: ·) := by
 have h1 := share_pos h
 have h2 : 0 < l.length := List.length_pos_iff.2 hl
 have e : makingP L l = (makingF L l.length (l.drop n)).map (u :: ·) := by
  unfold makingP
  rw [makingF, if_neg hl, h]
 rw [e]
 unfold makingP
 rw [makingF_any L l.length _ _ (by rw [List.length_drop]; omega) (Nat.lt_succ_self _)]
theorem LookAs.turn {S F : Nat -> Prop} {w w' : World} {s : Sh} {u : List Int × Bool} {v0 v1 : Value} (h : LookAs w F s u v0 v1) (ht : Turn S w w') (hs : ∀ b cur, w.heap[b]? = some (.cells cur 146 (0, 0)) -> ¬ S b) : LookAs w' F s u v0 v1 := by
 rcases h with ⟨hk, a0, c0, a1, c1, h1, h2, h3, h4, h5, h6⟩ | h
 ·exact .inl ⟨hk, a0, c0, a1, c1, h1, h2, h3.turn ht (let ⟨_, hc⟩ := h3.2; hs _ _ hc), h4.turn ht (let ⟨_, hc⟩ := h4.2; hs _ _ hc), h5, h6⟩
 ·exact .inr h
theorem LookAs.mono {F F' : Nat -> Prop} {w : World} {s : Sh} {u : List Int × Bool} {v0 v1 : Value} (h : LookAs w F s u v0 v1) (hf : ∀ b, F b -> F' b) : LookAs w F' s u v0 v1 := by
 rcases h with ⟨hk, a0, c0, a1, c1, h1, h2, h3, h4, h5, h6⟩ | h
 ·exact .inl ⟨hk, a0, c0, a1, c1, h1, h2, h3, h4, hf _ h5, hf _ h6⟩
 ·exact .inr h
theorem head_byte (s : ByteArray) (h : 0 < s.size) : s.data.toList.getD 0 0 = s[0] := by
 rw [List.getD_eq_getElem?_getD, List.getElem?_eq_getElem (by simpa using h)]
 rfl
theorem readShares_c (s : ByteArray) (h1 : 0 < s.size) (hs : s.size <= 1000000000) (L : Nat) (hL : 1 <= L /\ L <= 27) (sh : Sh) (hsh : sh.x + sh.y + sh.z = L) (w : World) :
  Calls Tryz.prog 186 #[.string s, .int .i64 (L : Int)] w fun e w' => ∃ (x0 : Option Addr) (l0 d0 : Nat) (x1 : Option Addr) (l1 d1 sz : Nat), e = .returned (.tuple #[.agg #[.slice x0 l0 d0, .slice x1 l1 d1], .int .i64 (sz : Int)]) /\ Ext w w' /\ ((shareP L s.data.toList = none /\ sz = 0) \/ (∃ u, shareP L s.data.toList = some (u, sz) /\ LookAs w' (fun b => w.heap.size <= b) sh u (.slice x0 l0 d0) (.slice x1 l1 d1))) := by
 have hb := head_byte s h1
 have hl : s.data.toList.length = s.size := by simp
 by_cases h0 : s[0].toNat = 0
 ·refine (readSharesGone_c s h1 h0 L w).mono ?_
  rintro e w' ⟨rfl, hx⟩
  exact ⟨_, _, _, _, _, _, 1, rfl, hx, .inr ⟨([], false), by unfold shareP; rw [hb, if_pos h0], .inr ⟨rfl, rfl, rfl⟩⟩⟩
 ·by_cases hn : s[0].toNat ≠ 1 \/ s.size < 1 + 16 * L
  ·refine (readSharesNo_c s h1 h0 hs L hL hn w).mono ?_
   rintro e w' ⟨rfl, hx⟩
   exact ⟨_, _, _, _, _, _, 0, rfl, hx, .inl ⟨by unfold shareP; rw [hb, if_neg h0, if_pos (by rw [hl]; exact hn)], rfl⟩⟩
  ·have hk : s[0].toNat = 1 := by omega
   refine (readSharesYes_c s h1 hk hs L hL (by omega) w).mono ?_
   rintro e w' ⟨a0, c0, a1, c1, rfl, k0, k1, hx⟩
   refine ⟨_, _, _, _, _, _, 1 + 16 * L, by rw [show (1 : Int) + 2 * (L : Int) * 8 = ((1 + 16 * L : Nat) : Int) by omega], hx, .inr ⟨(rawW s.data.toList (2 * L), true), by unfold shareP; rw [hb, if_neg h0, if_neg (by rw [hl]; exact hn)], .inl ⟨rfl, a0, c0, a1, c1, by rw [hsh], by rw [hsh], ?_, ?_, (World.ownsRow.lt k0 a0 rfl).1, (World.ownsRow.lt k1 a1 rfl).1⟩⟩⟩
   ·have e : sh0 sh (rawW s.data.toList (2 * L)) = (rawW s.data.toList (2 * L)).take L := by
     unfold sh0
     rw [hsh, if_pos (by rw [rawW_len])]
    rw [e]
    exact owns_wordsU k0
   ·have e : sh1 sh (rawW s.data.toList (2 * L)) = (rawW s.data.toList (2 * L)).drop L := by
     unfold sh1
     rw [hsh, if_pos (by rw [rawW_len])]
    rw [e]
    exact owns_wordsU k1
def flat2 (ps : List (Value × Value)) : List Value := ps.flatMap fun p => [p.1, p.2]
theorem flat2_snoc (ps : List (Value × Value)) (p : Value × Value) : flat2 (ps ++ [p]) = flat2 ps ++ [p.1, p.2] := by simp [flat2]
theorem flat2_at : ∀ (ps : List (Value × Value)) (i : Nat) (h : i < ps.length), (flat2 ps)[i * 2]? = some ps[i].1 /\ (flat2 ps)[i * 2 + 1]? = some ps[i].2
 | p :: ps, 0, _ => by simp [flat2]
 | p :: ps, i + 1, h => by
  have := flat2_at ps i (by simpa using h)
  have e : flat2 (p :: ps) = p.1 :: p.2 :: flat2 ps := by simp [flat2]
  rw [e, show (i + 1) * 2 = i * 2 + 1 + 1 by omega]
  simpa using this
structure ReadAs (w : World) (base : Nat) (sh : Sh) (us : List (List Int × Bool)) (ps : List (Value × Value)) : Prop where
 len : ps.length = us.length
 at_ : ∀ i (h : i < us.length) (h' : i < ps.length), LookAs w (fun b => base <= b) sh us[i] ps[i].1 ps[i].2
theorem ReadAs.snoc {w : World} {base : Nat} {sh : Sh} {us : List (List Int × Bool)} {ps : List (Value × Value)} (h : ReadAs w base sh us ps) {u : List Int × Bool} {v0 v1 : Value} (hu : LookAs w (fun b => base <= b) sh u v0 v1) : ReadAs w base sh (us ++ [u]) (ps ++ [(v0, v1)]) := by
 refine ⟨by simp [h.len], fun i h1 h2 => ?_⟩
 by_cases hlt : i < us.length
 ·rw [List.getElem_append_left hlt, List.getElem_append_left (by rw [h.len]; exact hlt)]
  exact h.at_ i hlt _
 ·have e : i = us.length := by simp at h1; omega
  have e2 : i = ps.length := by rw [h.len]; exact e
  rw [List.getElem_append_right (by omega), List.getElem_append_right (by omega)]
  simp only [e, h.len, Nat.sub_self, lC]
  exact hu
theorem ReadAs.turn {S : Nat -> Prop} {w w' : World} {base : Nat} {sh : Sh} {us : List (List Int × Bool)} {ps : List (Value × Value)} (h : ReadAs w base sh us ps) (ht : Turn S w w') (hs : ∀ b cur, w.heap[b]? = some (.cells cur 146 (0, 0)) -> ¬ S b) : ReadAs w' base sh us ps :=
 ⟨h.len, fun i h1 h2 => (h.at_ i h1 h2).turn ht hs⟩
theorem ReadAs.row {w : World} {base g cap b0 : Nat} {sh : Sh} {us : List (List Int × Bool)} {ps : List (Value × Value)} (h : ReadAs w base sh us ps) (ho : w.ownsRow b0 176 2 (.slice (some ⟨g, 0, none⟩) us.length cap) us.length (flat2 ps)) : TriRow w (fun b => base <= b) g sh us := by
 obtain ⟨cur, hc⟩ := owns_block ho (g := g) rfl
 refine ⟨fun i hi => ?_, cur, hc⟩
 have hi' : i < ps.length := by rw [h.len]; exact hi
 obtain ⟨p0, p1⟩ := flat2_at ps i hi'
 have c0 := owns_cell ho p0
 have c1 := owns_cell ho p1
 rcases h.at_ i hi hi' with ⟨hk, a0, d0, a1, d1, e0, e1, q0, q1, q2, q3⟩ | ⟨hk, e0, e1⟩
 ·exact .inl ⟨hk, a0, d0, a1, d1, by rw [<- e0]; exact c0, by rw [<- e1]; exact c1, q0, q1, q2, q3⟩
 ·exact .inr ⟨hk, by rw [<- e0]; exact c0, by rw [<- e1]; exact c1⟩
theorem readMakingBad_c (s : ByteArray) (hs : s.size <= 1000000000) (h4 : 4 < s.size) (kd m k n : Nat) (e0 : s[0].toNat = kd) (e1 : s[1].toNat = m) (e2 : s[2].toNat = k) (e3 : s[3].toNat = n) (hc : isCls kd m k n = false) (w : World) :
  Calls Tryz.prog 170 #[.string s] w fun e w' => e = .returned .nilIface /\ Ext w w' := by
 have HI : Hid (∀ w, Calls Tryz.prog 95 #[clsV kd m k n] w fun e w' => e = .returned (.bool false) /\ Ext w w') := fun w => by
  have := isClass_c kd m k n w
  rw [hc] at this
  exact this
 unfold clsV at HI
 have hk1 : kd < 256 := by rw [<- e0]; exact UInt8.toNat_lt _
 have hk2 : m < 256 := by rw [<- e1]; exact UInt8.toNat_lt _
 have hk3 : k < 256 := by rw [<- e2]; exact UInt8.toNat_lt _
 have hk4 : n < 256 := by rw [<- e3]; exact UInt8.toNat_lt _
 have q0 : 0 < s.size := by omega
 have q1 : (1 : Int) < (s.size : Int) := by omega
 have q2 : (2 : Int) < (s.size : Int) := by omega
 have q3 : (3 : Int) < (s.size : Int) := by omega
 go_enter Tryz.func170, Tryz.ntmps170
 go_wp2_with fail
 refine wp_region_held_drew (S := (fun _ => True)) (by kernel_rfl) trivial (fun hHeld => ?_)
 refine zT 0 hHeld ?_
 refine zT 1 hHeld ?_
 refine zT 2 hHeld ?_
 refine zT 3 hHeld ?_
 refine zT 4 hHeld ?_
 refine zT 5 hHeld ?_
 refine zT 6 hHeld ?_
 refine zT 7 hHeld ?_
 refine zT 8 hHeld ?_
 refine zT 9 hHeld ?_
 refine zT 10 hHeld ?_
 refine zT 11 hHeld ?_
 refine zT 12 hHeld ?_
 refine zT 13 hHeld ?_
 refine wpAnyH_ready (rs := [14]) (by kernel_rfl) (by simp) ?_
 refine AllReadyH.cons (o := _) rfl (fun K hK => ?_) AllReadyH.nil
 (try simp only [lA, lB, lC])
 go_simp
 refine hK.out _ _ trivial (fun hHeld => ?_)
 clear hK K
 try simp only [Act.put, lA, lB, lC, lD, lE, lF]
 refine wpAnyH_ready (rs := [15]) (by kernel_rfl) (by simp) ?_
 refine AllReadyH.cons (o := _) rfl (fun K hK => ?_) AllReadyH.nil
 (try simp only [lA, lB, lC])
 go_simp
 refine hK.out _ _ trivial (fun hHeld => ?_)
 clear hK K
 try simp only [Act.put, lA, lB, lC, lD, lE, lF]
 refine wpAnyH_done (by kernel_rfl) ?_ _
 go_wp2_with fail
 refine (HI.out _).mono ?_
 rintro e w1 ⟨rfl, hx1⟩
 have HX1 : Hid (Ext w w1) := ((Ext.refl w).alloc _).drew.trans hx1
 clear hx1
 go_wp2
 go_ret
 exact ⟨rfl, HX1.out⟩
structure MakeSo (w w' : World) (kd m k n sz : Nat) (o : Option (List (List Int × Bool))) (e : Ending) : Prop where
 ex : (e = .returned .nilIface /\ o = none /\ Ext w w') \/ ∃ (us : List (List Int × Bool)) (gt cap : Nat), e = (.returned (.iface 174 (.agg #[.int .i64 kd, .int .i64 m, .int .i64 k, .int .i64 n, .slice (some ⟨gt, 0, none⟩) us.length cap]))) /\ o = some us /\ 1 <= us.length /\ us.length <= sz /\ TriRow w' (fun b => w.heap.size <= b) gt (shOf kd m k n) us /\ w.heap.size <= gt /\ Ext w w'
theorem MakeSo.no {w w' : World} {kd m k n sz : Nat} {o : Option (List (List Int × Bool))} (h1 : o = none) (h2 : Ext w w') : MakeSo w w' kd m k n sz o (.returned .nilIface) := ⟨.inl ⟨rfl, h1, h2⟩⟩
theorem MakeSo.yes {w w' : World} {kd m k n sz : Nat} {o : Option (List (List Int × Bool))} {us : List (List Int × Bool)} {gt cap : Nat} (h1 : o = some us) (h2 : 1 <= us.length) (h3 : us.length <= sz) (h4 : TriRow w' (fun b => w.heap.size <= b) gt (shOf kd m k n) us) (h5 : w.heap.size <= gt) (h6 : Ext w w') : MakeSo w w' kd m k n sz o (.returned (.iface 174 (.agg #[.int .i64 kd, .int .i64 m, .int .i64 k, .int .i64 n, .slice (some ⟨gt, 0, none⟩) us.length cap]))) := ⟨.inr ⟨us, gt, cap, rfl, h1, h2, h3, h4, h5, h6⟩⟩
theorem readMaking_c (s : ByteArray) (hs : s.size <= 1000000000) (h4 : 4 < s.size) (kd m k n : Nat) (e0 : s[0].toNat = kd) (e1 : s[1].toNat = m) (e2 : s[2].toNat = k) (e3 : s[3].toNat = n) (hc : isCls kd m k n = true) (w : World) :
  Calls Tryz.prog 170 #[.string s] w fun e w' => MakeSo w w' kd m k n s.size (makingP ((shOf kd m k n).x + (shOf kd m k n).y + (shOf kd m k n).z) (s.data.toList.drop 4)) e := by
 obtain ⟨i0, hi, hz0, hz1, hz2⟩ := info_parts infoSh
 have HI : Hid (∀ w, Calls Tryz.prog 95 #[clsV kd m k n] w fun e w' => e = .returned (.bool true) /\ Ext w w') := fun w => by
  have := isClass_c kd m k n w
  rw [hc] at this
  exact this
 obtain ⟨hofc, hok⟩ := shOf_of hc
 have hle := Sh.le hok
 obtain ⟨sh, hsh⟩ : ∃ sh, shOf kd m k n = sh := ⟨_, rfl⟩
 rw [hsh] at hofc hok hle ⊢
 have HSH : Hid (shOf kd m k n = sh) := hsh
 obtain ⟨L, hL⟩ : ∃ L, sh.x + sh.y + sh.z = L := ⟨_, rfl⟩
 have hLb : 1 <= L /\ L <= 27 := by omega
 have HWd : Hid (∀ w, Calls Tryz.prog 138 #[clsV kd m k n] w fun e w' => e = .returned (.int .i64 (L : Int)) /\ Ext w w') := fun w => by
  have := wordsOf_c hofc hok w
  rw [hL] at this
  exact this
 have HL : Hid (sh.x + sh.y + sh.z = L) := hL
 rw [hL]
 unfold clsV at HI HWd
 have hk1 : kd < 256 := by rw [<- e0]; exact UInt8.toNat_lt _
 have hk2 : m < 256 := by rw [<- e1]; exact UInt8.toNat_lt _
 have hk3 : k < 256 := by rw [<- e2]; exact UInt8.toNat_lt _
 have hk4 : n < 256 := by rw [<- e3]; exact UInt8.toNat_lt _
 have q0 : 0 < s.size := by omega
 have q1 : (1 : Int) < (s.size : Int) := by omega
 have q2 : (2 : Int) < (s.size : Int) := by omega
 have q3 : (3 : Int) < (s.size : Int) := by omega
 obtain ⟨L0, hL0⟩ : ∃ L0, makingP L (s.data.toList.drop 4) = L0 := ⟨_, rfl⟩
 have HL0 : Hid (makingP L (s.data.toList.drop 4) = L0) := hL0
 rw [hL0]
 clear hL0 hofc hok hle hsh hL hc
 go_enter Tryz.func170, Tryz.ntmps170
 go_wp2_with fail
 refine wp_region_held_drew (S := (fun _ => True)) (by kernel_rfl) trivial (fun hHeld => ?_)
 refine zT 0 hHeld ?_
 refine zT 1 hHeld ?_
 refine zT 2 hHeld ?_
 refine zT 3 hHeld ?_
 refine zT 4 hHeld ?_
 refine zT 5 hHeld ?_
 refine zT 6 hHeld ?_
 refine zT 7 hHeld ?_
 refine zT 8 hHeld ?_
 refine zT 9 hHeld ?_
 refine zT 10 hHeld ?_
 refine zT 11 hHeld ?_
 refine zT 12 hHeld ?_
 refine zT 13 hHeld ?_
 refine wpAnyH_ready (rs := [14]) (by kernel_rfl) (by simp) ?_
 refine AllReadyH.cons (o := _) rfl (fun K hK => ?_) AllReadyH.nil
 (try simp only [lA, lB, lC])
 go_simp
 refine hK.out _ _ trivial (fun hHeld => ?_)
 clear hK K
 try simp only [Act.put, lA, lB, lC, lD, lE, lF]
 refine wpAnyH_ready (rs := [15]) (by kernel_rfl) (by simp) ?_
 refine AllReadyH.cons (o := _) rfl (fun K hK => ?_) AllReadyH.nil
 (try simp only [lA, lB, lC])
 go_simp
 refine hK.out _ _ trivial (fun hHeld => ?_)
 clear hK K
 try simp only [Act.put, lA, lB, lC, lD, lE, lF]
 refine wpAnyH_done (by kernel_rfl) ?_ _
 go_wp2_with fail
 refine (HI.out _).mono ?_
 rintro e w1 ⟨rfl, hx1⟩
 have hmv0 : w1.heap[w.heap.size]? = some (.cells #[.int .i64 kd, .int .i64 m, .int .i64 k, .int .i64 n, .slice none 0 0] 174 (0, 0)) := hx1.block (at_drew (heap_alloc_new _ _))
 have HM0 : Hid _ := hmv0
 have HX1 : Hid (Ext w w1) := ((Ext.refl w).alloc _).drew.trans hx1
 obtain ⟨mv, hmv⟩ : ∃ mv, w.heap.size = mv := ⟨_, rfl⟩
 have HMV : Hid (w.heap.size = mv) := hmv
 simp only [hmv] at HM0 ⊢
 clear hx1 hmv0 hmv e0 e1 e2 e3 q1 q2 q3
 go_wp2_with fail
 go_loopw [0, 4, 5] (fun rest _ _ wr => ∃ (cs : ByteArray) (us : List (List Int × Bool)) (ps : List (Value × Value)) (tv : Value), rest = .string cs /\ (makingP L cs.data.toList).map (us ++ ·) = L0 /\ us.length + cs.size <= s.size /\ 1 <= us.length + cs.size /\ wr.heap[mv]? = some (.cells #[.int .i64 kd, .int .i64 m, .int .i64 k, .int .i64 n, tv] 174 (0, 0)) /\ wr.ownsRow w.heap.size 176 2 tv us.length (flat2 ps) /\ ReadAs wr w.heap.size sh us ps /\ Ext w wr) (fun rest _ _ _ => match rest with | .string rb => rb.size | _ => 0)
 case atStart => exact ⟨s.extract 4 s.size, [], [], _, rfl, by rw [ext_hi, HL0.out]; simp, by simp, by simp; omega, HM0.out, World.ownsRow_nil _ _ _ _, ⟨rfl, fun i h => by simp at h⟩, HX1.out⟩
 case round =>
  obtain ⟨cs, us, ps, tv, rfl, hmk, hlen, hone1, hm, ho, hra, hx⟩ := hrel
  have HMK : Hid ((makingP L cs.data.toList).map (us ++ ·) = L0) := hmk
  have HM : Hid _ := hm
  have HO : Hid (wr.ownsRow w.heap.size 176 2 tv us.length (flat2 ps)) := ho
  have HRA : Hid (ReadAs wr w.heap.size sh us ps) := hra
  have HX : Hid (Ext w wr) := hx
  have hwl := hx.le
  have c4 : wr.cell? ⟨mv, 4, none⟩ = some tv := cell_at hm rfl
  have c0 : wr.cell? ⟨mv, 0, none⟩ = some (.int .i64 kd) := cell_at hm rfl
  have c1 : wr.cell? ⟨mv, 1, none⟩ = some (.int .i64 m) := cell_at hm rfl
  have c2 : wr.cell? ⟨mv, 2, none⟩ = some (.int .i64 k) := cell_at hm rfl
  have c3 : wr.cell? ⟨mv, 3, none⟩ = some (.int .i64 n) := cell_at hm rfl
  have hmvl := lG wr _ c4
  obtain ⟨ta, tc, htv⟩ := owns_slice ho
  subst htv
  have hcsl : cs.data.toList.length = cs.size := by simp
  obtain ⟨j, hj⟩ : ∃ j, us.length = j := ⟨_, rfl⟩
  have HJ : Hid (us.length = j) := hj
  rw [hj] at hlen hone1 c4
  simp only [hj] at HO HM ho
  by_cases hcs : cs.size = 0
  ·have hem : cs.toList.isEmpty = true := by
    rw [ByteArray.toList_eq, List.isEmpty_iff, <- List.length_eq_zero_iff]; simpa using hcs
   have hnil : cs.data.toList = [] := List.length_eq_zero_iff.1 (by rw [hcsl]; exact hcs)
   have HLS : Hid (L0 = some us) := by
    show _ = _
    rw [<- HMK.out, hnil, makingP_nil]
    simp
   rcases owns_form ho with ⟨_, h0, _⟩ | ⟨g, cap, hg, hgl, _, _⟩
   ·omega
   ·injection hg with hg1 hg2 hg3
    subst hg1
    have HGL : Hid (w.heap.size <= g) := hgl
    clear hmk hm ho hra hx hj hcsl hnil
    go_wp2
    go_ret
    rw [<- HJ.out]
    exact .yes HLS.out (by rw [HJ.out]; omega) (by rw [HJ.out]; omega) (by rw [HSH.out]; exact HRA.out.row (by rw [HJ.out]; exact HO.out)) HGL.out HX.out
  ·have hem : cs.toList.isEmpty = false := by
    rw [ByteArray.toList_eq, List.isEmpty_eq_false_iff]; intro h; apply hcs; rw [<- hcsl, h]; rfl
   have hne : cs.data.toList ≠ [] := fun h => hcs (by rw [<- hcsl, h]; rfl)
   have HNE : Hid (cs.data.toList ≠ []) := hne
   have hcp : 0 < cs.size := by omega
   have HRd : Hid (∀ w', _) := fun w' => readShares_c cs hcp (by omega) L hLb sh HL.out w'
   have HTM : Hid (lH (.slice ta j tc) ≠ some mv) := row_ne (B := mv) HM.out HO.out (by decide)
   clear hmk hm ho hra hx hj hne
   go_wp2_with fail
   refine (HWd.out _).mono ?_
   rintro e w2 ⟨rfl, hx2⟩
   have HX2 : Hid (Ext wr w2) := hx2
   clear hx2
   go_wp2_with fail
   refine (HRd.out _).mono ?_
   rintro e w3 ⟨x0, l0, d0, x1, l1, d1, sz, rfl, hx3, hor⟩
   have HX3 : Hid (Ext wr w3) := HX2.out.trans hx3
   have hw23 := HX2.out.le
   rcases hor with ⟨hno, hsz⟩ | ⟨u, hu, hla⟩
   ·have hsz0 : ((sz : Int) == 0) = true := by simp; omega
    have HN : Hid (L0 = none) := by
     show _ = _
     rw [<- HMK.out, makingP_none HNE.out hno]
     rfl
    clear hno hx3 hsz
    go_wp2
    go_ret
    exact .no HN.out (HX.out.trans (HX3.out.alloc _))
   ·have hsz1 := share_pos hu
    have hsz0 : ((sz : Int) == 0) = false := by simp; omega
    have hszb : sz <= cs.size := by
     have := share_len2 hu
     omega
    have HSX : Hid ((cs.extract sz cs.size).size = cs.size - sz) := by
     show _ = _
     simp
    have HMK2 : Hid ((makingP L (cs.extract sz cs.size).data.toList).map ((us ++ [u]) ++ ·) = L0) := by
     show _ = _
     rw [<- HMK.out, makingP_some HNE.out hu, ext_hi, Option.map_map]
     congr 1
     funext l
     simp
    have hone := hla.one
    have HLA : Hid (LookAs w3 (fun b => w2.heap.size <= b) sh u (.slice x0 l0 d0) (.slice x1 l1 d1)) := hla
    have HM3 : Hid (w3.heap[mv]? = some (.cells #[.int .i64 kd, .int .i64 m, .int .i64 k, .int .i64 n, .slice ta j tc] 174 (0, 0))) := HX3.out.block HM.out
    have c4b : w3.cell? ⟨mv, 4, none⟩ = some (.slice ta j tc) := cell_at HM3.out rfl
    have hmv3 := lG w3 _ c4b
    have hwr3 := HX3.out.le
    clear hx3 hla hu c0 c1 c2 c3 c4 hem
    go_wp2_with (at_builtin; refine wpList_append_lies _ rfl _ _ 172 rfl w.heap.size 176 i0 _ 2 48 Tryz.underlying172 hi hz0 hz1 hz2 rfl (by decide) (.slice ta j tc) j _ rfl (Ext.owns ((HX3.out.alloc _).alloc _) HO.out) ⟨_, 0, none⟩ 1 1 [.slice x0 l0 d0, .slice x1 l1 d1] rfl rfl (World.news_of_block (at_new (by simp))) (by simp [hone.1, hone.2]) (by decide) (by unfold maxLen; omega) (by omega) ?cb _ rfl ?_)
    case cb => simp; omega
    intro g1 cap1 w5 hown1 hgrow hat hlt1
    have HT5 : Hid (Turn (fun b => lH (.slice ta j tc) = some b) wr w5) := Turn.grown (Turn.of_ext ((HX3.out.alloc _).alloc _)) hgrow (fun q hq _ => hq)
    have HT35 : Hid (Turn (fun b => lH (.slice ta j tc) = some b) w3 w5) := Turn.grown (Turn.of_ext (((Ext.refl w3).alloc _).alloc _)) hgrow (fun q hq _ => hq)
    have hm5 : w5.heap[mv]? = some (.cells #[.int .i64 kd, .int .i64 m, .int .i64 k, .int .i64 n, .slice ta j tc] 174 (0, 0)) := HT5.out.ref HM.out (fun e => HTM.out e)
    have hg1 : g1 ≠ mv := by
     obtain ⟨cur, hc⟩ := owns_block hown1 (g := g1) rfl
     exact type_ne hc hm5 (by decide)
    have c45 : w5.cell? ⟨mv, 4, none⟩ = some (.slice ta j tc) := cell_at hm5 rfl
    have f45 := frozen_row hm5 4
    have R0 : (w5.setCell ⟨mv, 4, none⟩ (.slice (some ⟨g1, 0, none⟩) (j + 1) cap1)).heap[mv]? = some (.cells #[.int .i64 (kd : Int), .int .i64 m, .int .i64 k, .int .i64 n, .slice (some ⟨g1, 0, none⟩) (j + 1) cap1] 174 (0, 0)) := setCell_row hm5 _
    have R1 : (w5.setCell ⟨mv, 4, none⟩ (.slice (some ⟨g1, 0, none⟩) (j + 1) cap1)).ownsRow w.heap.size 176 2 (.slice (some ⟨g1, 0, none⟩) (j + 1) cap1) (j + 1) (flat2 (ps ++ [(.slice x0 l0 d0, .slice x1 l1 d1)])) := by
     rw [flat2_snoc]
     exact owns_setCell hown1 (by simpa [lH] using hg1) _
    have R2 : Ext w (w5.setCell ⟨mv, 4, none⟩ (.slice (some ⟨g1, 0, none⟩) (j + 1) cap1)) := Ext.setCell (Ext.grown (Ext.alloc (Ext.alloc (HX.out.trans HX3.out) _) _) hgrow (fun q hq => (World.ownsRow.lt HO.out q hq).1)) (by show w.heap.size <= mv; have := HMV.out; omega) _
    have hno : ∀ (W : World) (b : Nat) (cur : Array Value), Ext wr W -> W.heap[b]? = some (.cells cur 146 (0, 0)) -> ¬ (b = mv \/ lH (.slice ta j tc) = some b) := fun W b cur hxW hb hor => by
     rcases hor with e | e
     ·exact type_ne hb (hxW.block HM.out) (by decide) e
     ·obtain ⟨cur2, hc2⟩ := owns_block HO.out e
      exact type_ne hb (hxW.block hc2) (by decide) rfl
    have hTa : Turn (fun b => b = mv \/ lH (.slice ta j tc) = some b) wr (w5.setCell ⟨mv, 4, none⟩ (.slice (some ⟨g1, 0, none⟩) (j + 1) cap1)) := Turn.setCell (p := ⟨mv, 4, none⟩) (HT5.out.mono (fun _ _ e => .inr e)) (fun _ => .inl rfl) _
    have hTb : Turn (fun b => b = mv \/ lH (.slice ta j tc) = some b) w3 (w5.setCell ⟨mv, 4, none⟩ (.slice (some ⟨g1, 0, none⟩) (j + 1) cap1)) := Turn.setCell (p := ⟨mv, 4, none⟩) (HT35.out.mono (fun _ _ e => .inr e)) (fun _ => .inl rfl) _
    have R3 : ReadAs (w5.setCell ⟨mv, 4, none⟩ (.slice (some ⟨g1, 0, none⟩) (j + 1) cap1)) w.heap.size sh (us ++ [u]) (ps ++ [(.slice x0 l0 d0, .slice x1 l1 d1)]) := (HRA.out.turn hTa (fun b cur hb => hno wr b cur (Ext.refl _) hb)).snoc ((HLA.out.turn hTb (fun b cur hb => hno w3 b cur HX3.out hb)).mono (fun b hb => by omega))
    have HRR : Hid _ := And.intro R0 (And.intro R1 (And.intro R3 R2))
    have hmv5 := lG w5 _ c45
    clear R0 R1 R2 R3 hTa hTb hno hown1 hgrow hat hg1 hm5 c4b
    go_wp2
    go_roundw
    case rel =>
     obtain ⟨R0, R1, R3, R2⟩ := HRR.out
     have hj := HJ.out
     refine ⟨cs.extract sz cs.size, us ++ [u], ps ++ [(.slice x0 l0 d0, .slice x1 l1 d1)], _, rfl, HMK2.out, by rw [HSX.out]; simp; omega, by rw [HSX.out]; simp; omega, R0, ?_, R3, R2⟩
     rw [List.length_append, hj]
     exact R1
    case measure => simp; omega
end
-- Fill
section
set_option maxRecDepth 100000
set_option maxHeartbeats 3200000
open Go.RowKit
def step1 (x : Nat × Int × Int) (r : List UInt8) : Option (Nat × List UInt8) :=
 if r.length < x.2.1.toNat then none else if x.2.2 < (be (r.take x.2.1.toNat) : Int) then none else some (be (r.take x.2.1.toNat), r.drop x.2.1.toNat)
def decTo : List (Nat × Int × Int) -> List UInt8 -> Option (List Nat × List UInt8)
 | [], r => some ([], r)
 | x :: t, r => (step1 x r).bind fun p => (decTo t p.2).map fun q => (p.1 :: q.1, q.2)
theorem decTo_snoc (l : List (Nat × Int × Int)) (x : Nat × Int × Int) (r : List UInt8) : decTo (l ++ [x]) r = (decTo l r).bind fun q => (step1 x q.2).map fun p => (q.1 ++ [p.1], p.2) := by
 induction l generalizing r with
 | nil => simp only [List.nil_append, decTo, Option.bind_some]; cases hs : step1 x r <;> simp
 | cons y t ih =>
  simp only [List.cons_append, decTo]
  cases step1 y r with
  | none => simp
  | some p => simp only [Option.bind_some, ih]; cases decTo t p.2 with
   | none => simp
   | some q => simp; cases step1 x q.2 <;> simp
theorem decTo_none (l : List (Nat × Int × Int)) (k : Nat) (hk : k <= l.length) (r : List UInt8) (h : decTo (l.take k) r = none) : decTo l r = none := by
 induction l generalizing k r with
 | nil => simp at hk; subst hk; simpa using h
 | cons y t ih =>
  cases k with
  | zero => simp [decTo] at h
  | succ k =>
   simp only [List.take_succ_cons, decTo] at h ⊢
   cases hs : step1 y r with
   | none => simp
   | some p =>
    rw [hs] at h
    simp only [Option.bind_some, Option.map_eq_none_iff] at h ⊢
    exact ih k (by simpa using hk) p.2 h
theorem decTo_len (l : List (Nat × Int × Int)) (r : List UInt8) (vs : List Nat) (r' : List UInt8) (h : decTo l r = some (vs, r')) : vs.length = l.length := by
 induction l generalizing r vs r' with
 | nil => simp [decTo] at h; simp [h.1]
 | cons y t ih =>
  simp only [decTo] at h
  cases hs : step1 y r with
  | none => rw [hs] at h; simp at h
  | some p =>
   rw [hs] at h
   simp only [Option.bind_some, Option.map_eq_some_iff] at h
   obtain ⟨q, hq, he⟩ := h
   simp at he
   rw [<- he.1]
   simp [ih p.2 q.1 q.2 hq]
def intV (vs : List Nat) : List Value := vs.map fun (n : Nat) => Value.int .i64 (n : Int)
def cellsTo (vs : List Nat) (m : Nat) : Array Value := (intV vs ++ List.replicate (m - vs.length) (Value.int .i64 0)).toArray
theorem cellsTo_set (vs : List Nat) (m : Nat) (v : Nat) (h : vs.length < m) : (cellsTo vs m).setIfInBounds vs.length (.int .i64 (v : Int)) = cellsTo (vs ++ [v]) m := by
 have e : m - vs.length = (m - (vs.length + 1)) + 1 := by omega
 have hl : (intV vs).length = vs.length := by simp [intV]
 apply Array.ext'
 simp only [cellsTo, Array.toList_setIfInBounds]
 rw [e, List.replicate_succ, List.set_append, hl, if_neg (by omega), Nat.sub_self, lE]
 simp [intV]
theorem step1_no {x : Nat × Int × Int} {r : List UInt8} (h : r.length < x.2.1.toNat \/ x.2.2 < (be (r.take x.2.1.toNat) : Int)) : step1 x r = none := by
 unfold step1
 rcases h with h | h
 ·rw [if_pos h]
 ·by_cases h' : r.length < x.2.1.toNat
  ·rw [if_pos h']
  ·rw [if_neg h', if_pos h]
theorem step1_yes {x : Nat × Int × Int} {r : List UInt8} (h : ¬ r.length < x.2.1.toNat) (h' : ¬ x.2.2 < (be (r.take x.2.1.toNat) : Int)) : step1 x r = some (be (r.take x.2.1.toNat), r.drop x.2.1.toNat) := by
 unfold step1; rw [if_neg h, if_neg h']
theorem extract_lo (t : ByteArray) (n : Nat) : (t.extract 0 n).data.toList = t.data.toList.take n := by
 simp [ByteArray.data_extract]
theorem extract_hi (t : ByteArray) (n : Nat) : (t.extract n t.size).data.toList = t.data.toList.drop n := by
 rw [ByteArray.data_extract, Array.toList_extract, List.extract_eq_drop_take', <- ByteArray.size_data, <- Array.length_toList]
 simp only [List.take_length]
theorem fill_c (b g cap m base B : Nat) (tt : TypeId) (l : List (Nat × Int × Int)) (s : ByteArray) (w : World) (hm : l.length = m) (hm2 : m <= 100) (htt : tt ≠ 162)
  (hl : ∀ (k : Nat) (h : k < l.length), l[k].1 = k /\ 1 <= l[k].2.1 /\ l[k].2.1 <= 4 /\ 0 <= l[k].2.2 /\ l[k].2.2 <= 2147483647) (hs : s.size <= maxLen)
  (ho : w.ownsRow base 162 3 (.slice (some ⟨g, 0, none⟩) m cap) m (fl b l)) (hb : w.heap[b]? = some (.cells (cellsTo [] m) tt (0, 0))) (hBb : B <= b) (_hBw : B <= w.heap.size) :
  Calls Tryz.prog 87 #[.slice (some ⟨g, 0, none⟩) m cap, .string s] w fun e w' =>
   (∃ vs, decTo l s.data.toList = some (vs, []) /\ e = .returned (.bool true) /\ w'.heap[b]? = some (.cells (cellsTo vs m) tt (0, 0)) /\ Below B w w') \/
   ((∀ vs, decTo l s.data.toList ≠ some (vs, [])) /\ e = .returned (.bool false) /\ Below B w w') := by
 obtain ⟨cur, hg, hcur⟩ : ∃ cur : Array Value, w.heap[g]? = some (.cells cur 162 (0, 0)) /\ ∀ j, j < m * 3 -> cur[j]? = (fl b l)[j]? := by
  rcases ho.2 with ⟨h0, _⟩ | ⟨g1, cap1, cur, h0, _, hh, _, _, _, ht⟩
  ·simp at h0
  ·simp only [Value.slice.injEq, Option.some.injEq, Addr.mk.injEq, and_true, true_and] at h0
   obtain ⟨rfl, rfl⟩ := h0
   exact ⟨cur, hh, fun j hj => by rw [<- ht, List.getElem?_take, if_pos hj]; simp⟩
 have hne : g ≠ b := by
  intro e
  rw [e, hb] at hg
  simp at hg
  exact htt hg.2
 have HG : Hid (w.heap[g]? = some (.cells cur 162 (0, 0))) := hg
 have HC : Hid (∀ j, j < m * 3 -> cur[j]? = (fl b l)[j]?) := hcur
 have HL : Hid (∀ (k : Nat) (h : k < l.length), l[k].1 = k /\ 1 <= l[k].2.1 /\ l[k].2.1 <= 4 /\ 0 <= l[k].2.2 /\ l[k].2.2 <= 2147483647) := hl
 have HM : Hid (l.length = m) := hm
 have HB0 : Hid (w.heap[b]? = some (.cells (cellsTo [] m) tt (0, 0))) := hb
 clear ho hb hg hcur hl hm htt
 go_enter Tryz.func87, Tryz.ntmps87
 go_wp2
 go_loopw [1, 4, 6, 7, 10] (fun ss _ _ _ i wr => ∃ (k : Nat) (t : ByteArray) (vs : List Nat), k <= m /\ i = .int .i64 k /\ ss = .string t /\ t.size <= maxLen /\ decTo (l.take k) s.data.toList = some (vs, t.data.toList) /\ wr.heap[b]? = some (.cells (cellsTo vs m) tt (0, 0)) /\ wr.heap[g]? = some (.cells cur 162 (0, 0)) /\ Below B w wr) (fun _ _ _ _ i _ => m - (intOf i).toNat)
 case atStart => exact ⟨0, s, [], Nat.zero_le _, rfl, rfl, hs, rfl, HB0.out, HG.out, Below.refl _ _⟩
 case round =>
  obtain ⟨k, t, vs, hk, rfl, rfl, ht, hd, hbr, hgr, hbel⟩ := hrel
  have HD : Hid (decTo (l.take k) s.data.toList = some (vs, t.data.toList)) := hd
  have HBR : Hid (wr.heap[b]? = some (.cells (cellsTo vs m) tt (0, 0))) := hbr
  have HGR : Hid (wr.heap[g]? = some (.cells cur 162 (0, 0))) := hgr
  unfold maxLen at ht
  clear hd hbr hgr
  by_cases hlt : k < m
  ·have hkl : k < l.length := by have := HM.out; omega
   obtain ⟨f0, f1, f2⟩ := fl_at b l k hkl
   have e0 : wr.cell? ⟨g, k * 3, none⟩ = some (.pointer (some ⟨b, l[k].1, none⟩)) := cell_at HGR.out ((HC.out _ (by omega)).trans f0)
   have e1 : wr.cell? ⟨g, k * 3 + 1, none⟩ = some (.int .i64 l[k].2.1) := cell_at HGR.out ((HC.out _ (by omega)).trans f1)
   have e2 : wr.cell? ⟨g, k * 3 + 2, none⟩ = some (.int .i64 l[k].2.2) := cell_at HGR.out ((HC.out _ (by omega)).trans f2)
   obtain ⟨hl0, hl1, hl2, hl3, hl4⟩ := HL.out k hkl
   have HX : Hid (decTo (l.take (k + 1)) s.data.toList = (step1 l[k] t.data.toList).map fun p => (vs ++ [p.1], p.2)) := by
    show decTo (l.take (k + 1)) s.data.toList = _
    rw [List.take_succ_eq_append_getElem hkl, decTo_snoc, HD.out]; rfl
   have HN : Hid (decTo (l.take (k + 1)) s.data.toList = none -> ∀ vs, decTo l s.data.toList ≠ some (vs, [])) := fun h vs h' => by
    rw [decTo_none l (k + 1) (by omega) _ h] at h'; simp at h'
   have HS1 : Hid (t.data.toList.length < l[k].2.1.toNat \/ l[k].2.2 < (be (t.data.toList.take l[k].2.1.toNat) : Int) -> step1 l[k] t.data.toList = none) := step1_no
   have HS2 : Hid (¬ t.data.toList.length < l[k].2.1.toNat -> ¬ l[k].2.2 < (be (t.data.toList.take l[k].2.1.toNat) : Int) -> step1 l[k] t.data.toList = some (be (t.data.toList.take l[k].2.1.toNat), t.data.toList.drop l[k].2.1.toNat)) := step1_yes
   have hgl : g < wr.heap.size := lG wr _ e0
   have hbl : b < wr.heap.size := (Array.getElem?_eq_some_iff.1 HBR.out).1
   have hvl : vs.length = k := by have := decTo_len _ _ _ _ HD.out; rw [this, List.length_take]; omega
   have HVL : Hid (vs.length = k) := hvl
   have efz : wr.frozen? ⟨b, k, none⟩ = false := frozen_of_row wr b k _ tt HBR.out
   obtain ⟨old, eold⟩ : ∃ old, wr.cell? ⟨b, k, none⟩ = some old := by
    refine ⟨_, cell_at HBR.out (Array.getElem?_eq_getElem ?_)⟩
    simp [cellsTo, intV]; omega
   obtain ⟨sz, hsz⟩ : ∃ sz : Nat, l[k].2.1 = (sz : Int) := ⟨l[k].2.1.toNat, by omega⟩
   rw [hl0] at e0
   rw [hsz] at e1 hl1 hl2 HS1 HS2
   rw [Int.toNat_natCast] at HS1 HS2
   clear hsz f0 f1 f2 hl0 hvl
   generalize l[k].2.2 = mo at *
   have hwr : IntKind.u64.wrap mo = mo := by rw [IntKind.wrap_u64]; omega
   have hts : t.data.toList.length = t.size := by simp
   by_cases hsh : t.size < sz
   ·go_wp2
    go_ret
    refine .inr ⟨HN.out ?_, rfl, hbel.alloc (by have := hbel.size; omega) _⟩
    rw [HX.out, HS1.out (.inl (by omega))]; rfl
   ·have HTK := extract_lo t sz
    have hext : (t.extract 0 sz).size <= 4 := by rw [ByteArray.size_extract]; omega
    by_cases hbig : mo < (be (t.data.toList.take sz) : Int)
    ·go_wp2_with (go_at_call 123; refine (take_c (t.extract 0 sz) hext _).mono ?_; rw [HTK]; rintro e w3 ⟨rfl, rfl⟩)
     go_ret
     refine .inr ⟨HN.out ?_, rfl, hbel.alloc (by have := hbel.size; omega) _⟩
     rw [HX.out, HS1.out (.inr hbig)]; rfl
    ·have hw3 : wrap64 (be (t.data.toList.take sz) : Int) = (be (t.data.toList.take sz) : Int) := w64 (by omega) (by omega)
     have HHI := extract_hi t sz
     have hhs : (t.extract sz t.size).size <= 9223372036854775807 := by rw [ByteArray.size_extract]; omega
     have HY : Hid (decTo (l.take (k + 1)) s.data.toList = some (vs ++ [be (t.data.toList.take sz)], t.data.toList.drop sz)) := by
      show decTo (l.take (k + 1)) s.data.toList = _
      rw [HX.out, HS2.out (by omega) hbig]; rfl
     have HW : Hid _ := HTK
     clear HTK
     have HW2 : Hid _ := HHI
     clear HHI
     generalize hv : be (t.data.toList.take sz) = v at *
     have HBE : Hid (be (t.data.toList.take sz) = v) := hv
     clear hv
     go_wp2_with (go_at_call 123; refine (take_c (t.extract 0 sz) hext _).mono ?_; rw [HW.out, HBE.out]; rintro e w3 ⟨rfl, rfl⟩)
     go_roundw
     case rel =>
      refine ⟨k + 1, t.extract sz t.size, vs ++ [v], by omega, by go_num, rfl, by unfold maxLen; exact hhs, ?_, ?_, ?_, ?_⟩
      ·rw [HY.out, HW2.out]
      ·have h1 := heap_setCell_same wr b k (cellsTo vs m) tt (.int .i64 (v : Int)) HBR.out
       have h2 := cellsTo_set vs m v (by have := HVL.out; omega)
       rw [HVL.out] at h2
       rw [h2] at h1
       exact at_old h1
      ·exact at_old ((Below.heap_setCell wr ⟨b, k, none⟩ _ g hne).trans HGR.out)
      ·exact (hbel.setCell hBb _).alloc (by have := hbel.size; simp [World.setCell]; omega) _
     case measure => simp [intOf]; omega
  ·obtain rfl : m = k := by omega
   have HT : Hid (l.take m = l) := List.take_of_length_le (by have := HM.out; omega)
   go_wp2
   go_ret
   have hD := HD.out
   rw [HT.out] at hD
   by_cases he : t.data.toList = []
   ·refine .inl ⟨vs, by rw [hD, he], ?_, HBR.out, hbel⟩
    show Ending.returned (.bool t.toList.isEmpty) = _
    rw [ByteArray.toList_eq, he]; rfl
   ·refine .inr ⟨fun vs' h => ?_, ?_, hbel⟩
    ·rw [hD] at h; simp at h; exact he (by simpa using h.2)
    ·show Ending.returned (.bool t.toList.isEmpty) = _
     rw [ByteArray.toList_eq]
     cases hx : t.data.toList with
     | nil => exact absurd hx he
     | cons _ _ => rfl
theorem fill_yes (b g cap m base B : Nat) (tt : TypeId) (l : List (Nat × Int × Int)) (s : ByteArray) (w : World) (hm : l.length = m) (hm2 : m <= 100) (htt : tt ≠ 162)
  (hl : ∀ (k : Nat) (h : k < l.length), l[k].1 = k /\ 1 <= l[k].2.1 /\ l[k].2.1 <= 4 /\ 0 <= l[k].2.2 /\ l[k].2.2 <= 2147483647) (hs : s.size <= maxLen)
  (ho : w.ownsRow base 162 3 (.slice (some ⟨g, 0, none⟩) m cap) m (fl b l)) (hb : w.heap[b]? = some (.cells (cellsTo [] m) tt (0, 0))) (hBb : B <= b) (hBw : B <= w.heap.size) (vs : List Nat) (h : decTo l s.data.toList = some (vs, [])) :
  Calls Tryz.prog 87 #[.slice (some ⟨g, 0, none⟩) m cap, .string s] w fun e w' =>
   e = .returned (.bool true) /\ w'.heap[b]? = some (.cells (cellsTo vs m) tt (0, 0)) /\ Below B w w' :=
 (fill_c b g cap m base B tt l s w hm hm2 htt hl hs ho hb hBb hBw).mono fun e w' hh => by
  rcases hh with ⟨vs', h1, h2, h3, h4⟩ | ⟨h1, _, _⟩
  ·rw [h] at h1; simp at h1; subst h1; exact ⟨h2, h3, h4⟩
  ·exact absurd h (h1 vs)
theorem fill_no (b g cap m base B : Nat) (tt : TypeId) (l : List (Nat × Int × Int)) (s : ByteArray) (w : World) (hm : l.length = m) (hm2 : m <= 100) (htt : tt ≠ 162)
  (hl : ∀ (k : Nat) (h : k < l.length), l[k].1 = k /\ 1 <= l[k].2.1 /\ l[k].2.1 <= 4 /\ 0 <= l[k].2.2 /\ l[k].2.2 <= 2147483647) (hs : s.size <= maxLen)
  (ho : w.ownsRow base 162 3 (.slice (some ⟨g, 0, none⟩) m cap) m (fl b l)) (hb : w.heap[b]? = some (.cells (cellsTo [] m) tt (0, 0))) (hBb : B <= b) (hBw : B <= w.heap.size) (h : ∀ vs, decTo l s.data.toList ≠ some (vs, [])) :
  Calls Tryz.prog 87 #[.slice (some ⟨g, 0, none⟩) m cap, .string s] w fun e w' => e = .returned (.bool false) /\ Below B w w' :=
 (fill_c b g cap m base B tt l s w hm hm2 htt hl hs ho hb hBb hBw).mono fun e w' hh => by
  rcases hh with ⟨vs', h1, h2, h3, h4⟩ | ⟨_, h2, h3⟩
  ·exact absurd h1 (h vs')
  ·exact ⟨h2, h3⟩
end
-- Dec
section
open Go.RowKit
def szs : List (Nat × Int × Int) -> Nat
 | [] => 0
 | x :: t => x.2.1.toNat + szs t
def valsOf : List (Nat × Int × Int) -> List UInt8 -> List Nat
 | [], _ => []
 | x :: t, r => be (r.take x.2.1.toNat) :: valsOf t (r.drop x.2.1.toNat)
def bounded : List (Nat × Int × Int) -> List UInt8 -> Prop
 | [], _ => True
 | x :: t, r => (be (r.take x.2.1.toNat) : Int) <= x.2.2 /\ bounded t (r.drop x.2.1.toNat)
theorem decTo_iff (l : List (Nat × Int × Int)) (r : List UInt8) (vs : List Nat) : decTo l r = some (vs, []) ↔ r.length = szs l /\ vs = valsOf l r /\ bounded l r := by
 induction l generalizing r vs with
 | nil => simp [decTo, szs, valsOf, bounded]; constructor <;> rintro ⟨h1, h2⟩ <;> simp_all
 | cons x t ih =>
  simp only [decTo, szs, valsOf, bounded]
  by_cases h1 : r.length < x.2.1.toNat
  ·rw [step1_no (.inl h1)]
   simp; intro h; omega
  ·by_cases h2 : x.2.2 < (be (r.take x.2.1.toNat) : Int)
   ·rw [step1_no (.inr h2)]
    simp; intro _ _ h; omega
   ·rw [step1_yes h1 h2]
    simp only [Option.bind_some, Option.map_eq_some_iff]
    constructor
    ·rintro ⟨q, hq, he⟩
     simp at he
     obtain ⟨he1, he2⟩ := he
     have := (ih (r.drop x.2.1.toNat) q.1).1 (by rw [hq]; rw [<- he2])
     simp at this
     refine ⟨by omega, by rw [<- he1, this.2.1], by omega, this.2.2⟩
    ·rintro ⟨h3, h4, h5, h6⟩
     refine ⟨(valsOf t (r.drop x.2.1.toNat), []), (ih _ _).2 ⟨by simp; omega, rfl, h6⟩, by simp [h4]⟩
end
-- VBd
section
set_option maxRecDepth 100000
set_option maxHeartbeats 800000
open Go.RowKit
theorem wireRead_empty (s : ByteArray) (h : s.toList.isEmpty = true) (w : World) : Calls Tryz.prog 58 #[.string s] w fun e w' => e = .returned (.tuple #[.nilIface, .int .i64 1]) /\ Ext w w' := by
 go_enter Tryz.func58, Tryz.ntmps58
 go_wp2
 go_ret2
 exact ⟨rfl, Ext.refl w⟩
theorem wireRead_no (s : ByteArray) (_hs : s.size <= maxLen) (h1 : 0 < s.size) (hne : s.toList.isEmpty = false) (k : Nat) (hk : (s[0]).toNat = k) (hk2 : k < 256) (k1 : ((k : Int) == 1) = false) (k2 : ((k : Int) == 2) = false) (k3 : ((k : Int) == 3) = false) (k4 : ((k : Int) == 4) = false) (w : World) :
  Calls Tryz.prog 58 #[.string s] w fun e w' => e = .returned (.tuple #[.nilIface, .int .i64 1]) /\ Ext w w' := by
 unfold maxLen at _hs
 go_enter Tryz.func58, Tryz.ntmps58
 go_wp2_with (go_at_call 84; refine (ofKind_no k 0 0 0 0 0 0 0 0 0 k1 k2 k3 k4 _).mono ?_; rintro e w1 ⟨rfl, hx⟩)
 go_quiet (fail)
 go_wp2
 go_ret2
 exact ⟨rfl, hx.drewN _⟩
end
-- WR1
section
set_option maxRecDepth 100000
set_option maxHeartbeats 3200000
open Go.RowKit
theorem lok_lease : ∀ (k : Nat) (h : k < leaseL.length), leaseL[k].1 = k /\ 1 <= leaseL[k].2.1 /\ leaseL[k].2.1 <= 4 /\ 0 <= leaseL[k].2.2 /\ leaseL[k].2.2 <= 2147483647 := by decide
theorem wireRead_1 (s : ByteArray) (hs : s.size <= maxLen) (h1 : 0 < s.size) (hk : (s[0]).toNat = 1) (w : World) :
  Calls Tryz.prog 58 #[.string s] w fun e w' =>
   (∃ vs b, decTo leaseL (s.extract 1 s.size).data.toList = some (vs, []) /\ e = .returned (.tuple #[.iface 201 (.pointer (some ⟨b, 0, none⟩)), .int .i64 0]) /\ w'.heap[b]? = some (.cells (cellsTo vs 7) 210 (0, 0)) /\ Ext w w' /\ w.heap.size <= b) \/
   ((∀ vs, decTo leaseL (s.extract 1 s.size).data.toList ≠ some (vs, [])) /\ e = .returned (.tuple #[.nilIface, .int .i64 1]) /\ Ext w w') := by
 have hne : s.toList.isEmpty = false := by
  rw [ByteArray.toList_eq]
  cases hx : s.data.toList with
  | nil => have : s.size = 0 := (by rw [<- ByteArray.size_data, <- Array.length_toList, hx]; rfl); omega
  | cons _ _ => rfl
 have hse : (s.extract 1 s.size).size <= maxLen := by rw [ByteArray.size_extract]; omega
 have HS : Hid ((s.extract 1 s.size).size <= maxLen) := hse
 unfold maxLen at hs
 clear hse
 have hm2 := m_leaseFields
 go_enter Tryz.func58, Tryz.ntmps58
 go_wp2_with (go_at_call 84; refine (ofKind_1 0 0 0 0 0 0 0 0 0 _).mono ?_; rintro e w1 ⟨b, rfl, hb, hlt, hx⟩)
 have HB : Hid _ := hb
 have hltw : w.heap.size <= b := hlt
 clear hb hlt
 by_cases HD : ∃ vs, decTo leaseL (s.extract 1 s.size).data.toList = some (vs, [])
 ·obtain ⟨vs, hd⟩ := HD
  have HDD : Hid _ := hd
  clear hd
  go_region_with (first
   | (go_at_call 210; refine (leaseFields_c b _).mono ?_; rintro e w2 ⟨g, cap, rfl, ho, hx2⟩)
   | (go_at_call 87; refine (fill_yes b g cap 7 _ w.heap.size 210 leaseL (s.extract 1 s.size) _ rfl (by decide) (by decide) lok_lease HS.out ho (by exact hx2.block (by exact HB.out)) hltw (by exact Nat.le_trans hx.le hx2.le) vs HDD.out).mono ?_; rintro e w3 ⟨rfl, hb3, hbel⟩))
  all_goals go_wp2
  all_goals go_ret2
  all_goals exact .inl ⟨vs, b, HDD.out, rfl, hb3, Below.trans ((hx.drew).trans hx2) hbel, hltw⟩
 ·have HDD : Hid (∀ vs, decTo leaseL (s.extract 1 s.size).data.toList ≠ some (vs, [])) := fun vs h => HD ⟨vs, h⟩
  clear HD
  go_region_with (first
   | (go_at_call 210; refine (leaseFields_c b _).mono ?_; rintro e w2 ⟨g, cap, rfl, ho, hx2⟩)
   | (go_at_call 87; refine (fill_no b g cap 7 _ w.heap.size 210 leaseL (s.extract 1 s.size) _ rfl (by decide) (by decide) lok_lease HS.out ho (by exact hx2.block (by exact HB.out)) hltw (by exact Nat.le_trans hx.le hx2.le) HDD.out).mono ?_; rintro e w3 ⟨rfl, hbel⟩))
  all_goals go_wp2
  all_goals go_ret2
  all_goals exact .inr ⟨HDD.out, rfl, Below.trans ((hx.drew).trans hx2) hbel⟩
end
-- WR2
section
set_option maxRecDepth 100000
set_option maxHeartbeats 3200000
open Go.RowKit
theorem lok_fetch : ∀ (k : Nat) (h : k < fetchL.length), fetchL[k].1 = k /\ 1 <= fetchL[k].2.1 /\ fetchL[k].2.1 <= 4 /\ 0 <= fetchL[k].2.2 /\ fetchL[k].2.2 <= 2147483647 := by decide
theorem wireRead_2 (s : ByteArray) (hs : s.size <= maxLen) (h1 : 0 < s.size) (hk : (s[0]).toNat = 2) (w : World) :
  Calls Tryz.prog 58 #[.string s] w fun e w' =>
   (∃ vs b, decTo fetchL (s.extract 1 s.size).data.toList = some (vs, []) /\ e = .returned (.tuple #[.iface 203 (.pointer (some ⟨b, 0, none⟩)), .int .i64 0]) /\ w'.heap[b]? = some (.cells (cellsTo vs 8) 212 (0, 0)) /\ Ext w w' /\ w.heap.size <= b) \/
   ((∀ vs, decTo fetchL (s.extract 1 s.size).data.toList ≠ some (vs, [])) /\ e = .returned (.tuple #[.nilIface, .int .i64 1]) /\ Ext w w') := by
 have hne : s.toList.isEmpty = false := by
  rw [ByteArray.toList_eq]
  cases hx : s.data.toList with
  | nil => have : s.size = 0 := (by rw [<- ByteArray.size_data, <- Array.length_toList, hx]; rfl); omega
  | cons _ _ => rfl
 have hse : (s.extract 1 s.size).size <= maxLen := by rw [ByteArray.size_extract]; omega
 have HS : Hid ((s.extract 1 s.size).size <= maxLen) := hse
 unfold maxLen at hs
 clear hse
 have hm2 := m_fetchFields
 go_enter Tryz.func58, Tryz.ntmps58
 go_wp2_with (go_at_call 84; refine (ofKind_2 0 0 0 0 0 0 0 0 0 _).mono ?_; rintro e w1 ⟨b, rfl, hb, hlt, hx⟩)
 have HB : Hid _ := hb
 have hltw : w.heap.size <= b := hlt
 clear hb hlt
 by_cases HD : ∃ vs, decTo fetchL (s.extract 1 s.size).data.toList = some (vs, [])
 ·obtain ⟨vs, hd⟩ := HD
  have HDD : Hid _ := hd
  clear hd
  go_region_with (first
   | (go_at_call 218; refine (fetchFields_c b _).mono ?_; rintro e w2 ⟨g, cap, rfl, ho, hx2⟩)
   | (go_at_call 87; refine (fill_yes b g cap 8 _ w.heap.size 212 fetchL (s.extract 1 s.size) _ rfl (by decide) (by decide) lok_fetch HS.out ho (by exact hx2.block (by exact HB.out)) hltw (by exact Nat.le_trans hx.le hx2.le) vs HDD.out).mono ?_; rintro e w3 ⟨rfl, hb3, hbel⟩))
  all_goals go_wp2
  all_goals go_ret2
  all_goals exact .inl ⟨vs, b, HDD.out, rfl, hb3, Below.trans ((hx.drew).trans hx2) hbel, hltw⟩
 ·have HDD : Hid (∀ vs, decTo fetchL (s.extract 1 s.size).data.toList ≠ some (vs, [])) := fun vs h => HD ⟨vs, h⟩
  clear HD
  go_region_with (first
   | (go_at_call 218; refine (fetchFields_c b _).mono ?_; rintro e w2 ⟨g, cap, rfl, ho, hx2⟩)
   | (go_at_call 87; refine (fill_no b g cap 8 _ w.heap.size 212 fetchL (s.extract 1 s.size) _ rfl (by decide) (by decide) lok_fetch HS.out ho (by exact hx2.block (by exact HB.out)) hltw (by exact Nat.le_trans hx.le hx2.le) HDD.out).mono ?_; rintro e w3 ⟨rfl, hbel⟩))
  all_goals go_wp2
  all_goals go_ret2
  all_goals exact .inr ⟨HDD.out, rfl, Below.trans ((hx.drew).trans hx2) hbel⟩
end
-- WR3
section
set_option maxRecDepth 100000
set_option maxHeartbeats 3200000
open Go.RowKit
theorem lok_release : ∀ (k : Nat) (h : k < releaseL.length), releaseL[k].1 = k /\ 1 <= releaseL[k].2.1 /\ releaseL[k].2.1 <= 4 /\ 0 <= releaseL[k].2.2 /\ releaseL[k].2.2 <= 2147483647 := by decide
theorem wireRead_3 (s : ByteArray) (hs : s.size <= maxLen) (h1 : 0 < s.size) (hk : (s[0]).toNat = 3) (w : World) :
  Calls Tryz.prog 58 #[.string s] w fun e w' =>
   (∃ vs b, decTo releaseL (s.extract 1 s.size).data.toList = some (vs, []) /\ e = .returned (.tuple #[.iface 205 (.pointer (some ⟨b, 0, none⟩)), .int .i64 0]) /\ w'.heap[b]? = some (.cells (cellsTo vs 2) 214 (0, 0)) /\ Ext w w' /\ w.heap.size <= b) \/
   ((∀ vs, decTo releaseL (s.extract 1 s.size).data.toList ≠ some (vs, [])) /\ e = .returned (.tuple #[.nilIface, .int .i64 1]) /\ Ext w w') := by
 have hne : s.toList.isEmpty = false := by
  rw [ByteArray.toList_eq]
  cases hx : s.data.toList with
  | nil => have : s.size = 0 := (by rw [<- ByteArray.size_data, <- Array.length_toList, hx]; rfl); omega
  | cons _ _ => rfl
 have hse : (s.extract 1 s.size).size <= maxLen := by rw [ByteArray.size_extract]; omega
 have HS : Hid ((s.extract 1 s.size).size <= maxLen) := hse
 unfold maxLen at hs
 clear hse
 have hm2 := m_releaseFields
 go_enter Tryz.func58, Tryz.ntmps58
 go_wp2_with (go_at_call 84; refine (ofKind_3 0 0 0 0 0 0 0 0 0 _).mono ?_; rintro e w1 ⟨b, rfl, hb, hlt, hx⟩)
 have HB : Hid _ := hb
 have hltw : w.heap.size <= b := hlt
 clear hb hlt
 by_cases HD : ∃ vs, decTo releaseL (s.extract 1 s.size).data.toList = some (vs, [])
 ·obtain ⟨vs, hd⟩ := HD
  have HDD : Hid _ := hd
  clear hd
  go_region_with (first
   | (go_at_call 220; refine (releaseFields_c b _).mono ?_; rintro e w2 ⟨g, cap, rfl, ho, hx2⟩)
   | (go_at_call 87; refine (fill_yes b g cap 2 _ w.heap.size 214 releaseL (s.extract 1 s.size) _ rfl (by decide) (by decide) lok_release HS.out ho (by exact hx2.block (by exact HB.out)) hltw (by exact Nat.le_trans hx.le hx2.le) vs HDD.out).mono ?_; rintro e w3 ⟨rfl, hb3, hbel⟩))
  all_goals go_wp2
  all_goals go_ret2
  all_goals exact .inl ⟨vs, b, HDD.out, rfl, hb3, Below.trans ((hx.drew).trans hx2) hbel, hltw⟩
 ·have HDD : Hid (∀ vs, decTo releaseL (s.extract 1 s.size).data.toList ≠ some (vs, [])) := fun vs h => HD ⟨vs, h⟩
  clear HD
  go_region_with (first
   | (go_at_call 220; refine (releaseFields_c b _).mono ?_; rintro e w2 ⟨g, cap, rfl, ho, hx2⟩)
   | (go_at_call 87; refine (fill_no b g cap 2 _ w.heap.size 214 releaseL (s.extract 1 s.size) _ rfl (by decide) (by decide) lok_release HS.out ho (by exact hx2.block (by exact HB.out)) hltw (by exact Nat.le_trans hx.le hx2.le) HDD.out).mono ?_; rintro e w3 ⟨rfl, hbel⟩))
  all_goals go_wp2
  all_goals go_ret2
  all_goals exact .inr ⟨HDD.out, rfl, Below.trans ((hx.drew).trans hx2) hbel⟩
end
-- WR4
section
set_option maxRecDepth 100000
set_option maxHeartbeats 3200000
open Go.RowKit
theorem lok_status : ∀ (k : Nat) (h : k < statusL.length), statusL[k].1 = k /\ 1 <= statusL[k].2.1 /\ statusL[k].2.1 <= 4 /\ 0 <= statusL[k].2.2 /\ statusL[k].2.2 <= 2147483647 := by decide
theorem wireRead_4 (s : ByteArray) (hs : s.size <= maxLen) (h1 : 0 < s.size) (hk : (s[0]).toNat = 4) (w : World) :
  Calls Tryz.prog 58 #[.string s] w fun e w' =>
   (∃ vs b, decTo statusL (s.extract 1 s.size).data.toList = some (vs, []) /\ e = .returned (.tuple #[.iface 207 (.pointer (some ⟨b, 0, none⟩)), .int .i64 0]) /\ w'.heap[b]? = some (.cells (cellsTo vs 4) 216 (0, 0)) /\ Ext w w' /\ w.heap.size <= b) \/
   ((∀ vs, decTo statusL (s.extract 1 s.size).data.toList ≠ some (vs, [])) /\ e = .returned (.tuple #[.nilIface, .int .i64 1]) /\ Ext w w') := by
 have hne : s.toList.isEmpty = false := by
  rw [ByteArray.toList_eq]
  cases hx : s.data.toList with
  | nil => have : s.size = 0 := (by rw [<- ByteArray.size_data, <- Array.length_toList, hx]; rfl); omega
  | cons _ _ => rfl
 have hse : (s.extract 1 s.size).size <= maxLen := by rw [ByteArray.size_extract]; omega
 have HS : Hid ((s.extract 1 s.size).size <= maxLen) := hse
 unfold maxLen at hs
 clear hse
 have hm2 := m_statusFields
 go_enter Tryz.func58, Tryz.ntmps58
 go_wp2_with (go_at_call 84; refine (ofKind_4 0 0 0 0 0 0 0 0 0 _).mono ?_; rintro e w1 ⟨b, rfl, hb, hlt, hx⟩)
 have HB : Hid _ := hb
 have hltw : w.heap.size <= b := hlt
 clear hb hlt
 by_cases HD : ∃ vs, decTo statusL (s.extract 1 s.size).data.toList = some (vs, [])
 ·obtain ⟨vs, hd⟩ := HD
  have HDD : Hid _ := hd
  clear hd
  go_region_with (first
   | (go_at_call 222; refine (statusFields_c b _).mono ?_; rintro e w2 ⟨g, cap, rfl, ho, hx2⟩)
   | (go_at_call 87; refine (fill_yes b g cap 4 _ w.heap.size 216 statusL (s.extract 1 s.size) _ rfl (by decide) (by decide) lok_status HS.out ho (by exact hx2.block (by exact HB.out)) hltw (by exact Nat.le_trans hx.le hx2.le) vs HDD.out).mono ?_; rintro e w3 ⟨rfl, hb3, hbel⟩))
  all_goals go_wp2
  all_goals go_ret2
  all_goals exact .inl ⟨vs, b, HDD.out, rfl, hb3, Below.trans ((hx.drew).trans hx2) hbel, hltw⟩
 ·have HDD : Hid (∀ vs, decTo statusL (s.extract 1 s.size).data.toList ≠ some (vs, [])) := fun vs h => HD ⟨vs, h⟩
  clear HD
  go_region_with (first
   | (go_at_call 222; refine (statusFields_c b _).mono ?_; rintro e w2 ⟨g, cap, rfl, ho, hx2⟩)
   | (go_at_call 87; refine (fill_no b g cap 4 _ w.heap.size 216 statusL (s.extract 1 s.size) _ rfl (by decide) (by decide) lok_status HS.out ho (by exact hx2.block (by exact HB.out)) hltw (by exact Nat.le_trans hx.le hx2.le) HDD.out).mono ?_; rintro e w3 ⟨rfl, hbel⟩))
  all_goals go_wp2
  all_goals go_ret2
  all_goals exact .inr ⟨HDD.out, rfl, Below.trans ((hx.drew).trans hx2) hbel⟩
end
-- VRe
section
set_option maxRecDepth 100000
set_option maxHeartbeats 1600000
open Go.RowKit Go.Maps
theorem readMakingNo_c (s : ByteArray) (hs : s.size <= 1000000000) (h4 : s.size <= 4) (w : World) :
  Calls Tryz.prog 170 #[.string s] w fun e w' => e = .returned .nilIface /\ Ext w w' := by
 have h4i : (s.size : Int) <= 4 := by omega
 go_enter Tryz.func170, Tryz.ntmps170
 go_wp2
 go_ret
 exact ⟨rfl, Ext.refl w⟩
abbrev Chg := (Nat × Nat × Nat × Nat × List (List Int × Bool)) ⊕ (Nat × Nat × Nat × Nat × Nat × Nat × Nat) ⊕ (Nat × Nat)
abbrev Chg.making (kd m k n : Nat) (us : List (List Int × Bool)) : Chg := .inl (kd, m, k, n, us)
abbrev Chg.leasing (s i kd m k n c : Nat) : Chg := .inr (.inl (s, i, kd, m, k, n, c))
abbrev Chg.releasing (s i : Nat) : Chg := .inr (.inr (s, i))
def changeP (l : List UInt8) : Option Chg :=
 if l.length = 0 then none
 else if (l.getD 0 0).toNat = 0 then
  (if l.length <= 5 then none
  else if isCls (l.getD 1 0).toNat (l.getD 2 0).toNat (l.getD 3 0).toNat (l.getD 4 0).toNat then (makingP ((shOf (l.getD 1 0).toNat (l.getD 2 0).toNat (l.getD 3 0).toNat (l.getD 4 0).toNat).x + (shOf (l.getD 1 0).toNat (l.getD 2 0).toNat (l.getD 3 0).toNat (l.getD 4 0).toNat).y + (shOf (l.getD 1 0).toNat (l.getD 2 0).toNat (l.getD 3 0).toNat (l.getD 4 0).toNat).z) (l.drop 5)).map (Chg.making (l.getD 1 0).toNat (l.getD 2 0).toNat (l.getD 3 0).toNat (l.getD 4 0).toNat) else none)
 else if (l.getD 0 0).toNat = 1 then (match decTo leaseL (l.drop 1) with | some ([s, i, kd, m, k, n, c], []) => some (.leasing s i kd m k n c) | _ => none)
 else if (l.getD 0 0).toNat = 3 then (match decTo releaseL (l.drop 1) with | some ([s, i], []) => some (.releasing s i) | _ => none)
 else none
structure ChgSo (w w' : World) (sz : Nat) (o : Option Chg) (e : Ending) : Prop where
 ex : (o = none /\ e = .returned .nilIface /\ Ext w w') \/ (∃ (kd m k n : Nat) (us : List (List Int × Bool)) (gt cap : Nat), o = some (Chg.making kd m k n us) /\ e = (.returned (.iface 174 (.agg #[.int .i64 kd, .int .i64 m, .int .i64 k, .int .i64 n, .slice (some ⟨gt, 0, none⟩) us.length cap]))) /\ isCls kd m k n = true /\ 1 <= us.length /\ us.length <= sz /\ TriRow w' (fun b => w.heap.size <= b) gt (shOf kd m k n) us /\ w.heap.size <= gt /\ Ext w w') \/ (∃ (s i kd m k n c rb : Nat), o = some (Chg.leasing s i kd m k n c) /\ e = (.returned (.iface 233 (.agg #[.pointer (some ⟨rb, 0, none⟩)]))) /\ LeaseReq w' rb s i kd m k n c /\ w.heap.size <= rb /\ Ext w w') \/ ∃ (s i rb : Nat), o = some (Chg.releasing s i) /\ e = (.returned (.iface 235 (.agg #[.pointer (some ⟨rb, 0, none⟩)]))) /\ ReleaseReq w' rb s i /\ w.heap.size <= rb /\ Ext w w'
theorem ChgSo.no {w w' : World} {sz : Nat} (h : Ext w w') : ChgSo w w' sz none (.returned .nilIface) := ⟨.inl ⟨rfl, rfl, h⟩⟩
theorem ChgSo.making {w w' : World} {sz kd m k n : Nat} {us : List (List Int × Bool)} {gt cap : Nat} (h1 : isCls kd m k n = true) (h2 : 1 <= us.length) (h3 : us.length <= sz) (h4 : TriRow w' (fun b => w.heap.size <= b) gt (shOf kd m k n) us) (h5 : w.heap.size <= gt) (h6 : Ext w w') : ChgSo w w' sz (some (Chg.making kd m k n us)) (.returned (.iface 174 (.agg #[.int .i64 kd, .int .i64 m, .int .i64 k, .int .i64 n, .slice (some ⟨gt, 0, none⟩) us.length cap]))) := ⟨.inr (.inl ⟨kd, m, k, n, us, gt, cap, rfl, rfl, h1, h2, h3, h4, h5, h6⟩)⟩
theorem ChgSo.leasing {w w' : World} {sz s i kd m k n c rb : Nat} (h1 : LeaseReq w' rb s i kd m k n c) (h2 : w.heap.size <= rb) (h3 : Ext w w') : ChgSo w w' sz (some (Chg.leasing s i kd m k n c)) (.returned (.iface 233 (.agg #[.pointer (some ⟨rb, 0, none⟩)]))) := ⟨.inr (.inr (.inl ⟨s, i, kd, m, k, n, c, rb, rfl, rfl, h1, h2, h3⟩))⟩
theorem ChgSo.releasing {w w' : World} {sz s i rb : Nat} (h1 : ReleaseReq w' rb s i) (h2 : w.heap.size <= rb) (h3 : Ext w w') : ChgSo w w' sz (some (Chg.releasing s i)) (.returned (.iface 235 (.agg #[.pointer (some ⟨rb, 0, none⟩)]))) := ⟨.inr (.inr (.inr ⟨s, i, rb, rfl, rfl, h1, h2, h3⟩))⟩
theorem tr_Lease (a : Addr) (w : World) : (Instr.typeAssert (.iface 201 (.pointer (some a))) 122 201 true).run Tryz.prog w = .ok (.tuple #[.pointer (some a), .bool true]) w := by kernel_rfl
theorem tr_Fetch0 (a : Addr) (w : World) : (Instr.typeAssert (.iface 203 (.pointer (some a))) 122 201 true).run Tryz.prog w = .ok (.tuple #[.pointer none, .bool false]) w := by kernel_rfl
theorem tr_Fetch1 (a : Addr) (w : World) : (Instr.typeAssert (.iface 203 (.pointer (some a))) 122 205 true).run Tryz.prog w = .ok (.tuple #[.pointer none, .bool false]) w := by kernel_rfl
theorem tr_Release0 (a : Addr) (w : World) : (Instr.typeAssert (.iface 205 (.pointer (some a))) 122 201 true).run Tryz.prog w = .ok (.tuple #[.pointer none, .bool false]) w := by kernel_rfl
theorem tr_Release1 (a : Addr) (w : World) : (Instr.typeAssert (.iface 205 (.pointer (some a))) 122 205 true).run Tryz.prog w = .ok (.tuple #[.pointer (some a), .bool true]) w := by kernel_rfl
theorem tr_Status0 (a : Addr) (w : World) : (Instr.typeAssert (.iface 207 (.pointer (some a))) 122 201 true).run Tryz.prog w = .ok (.tuple #[.pointer none, .bool false]) w := by kernel_rfl
theorem tr_Status1 (a : Addr) (w : World) : (Instr.typeAssert (.iface 207 (.pointer (some a))) 122 205 true).run Tryz.prog w = .ok (.tuple #[.pointer none, .bool false]) w := by kernel_rfl
section
theorem ne_of_size {s : ByteArray} (h1 : 0 < s.size) : s.toList.isEmpty = false := by
 rw [ByteArray.toList_eq, List.isEmpty_eq_false_iff]
 intro h
 have : s.size = 0 := by rw [<- ByteArray.size_data, <- Array.length_toList, h]; rfl
 omega
theorem readLease_w (s : ByteArray) (h1 : 0 < s.size) (h0 : s[0].toNat ≠ 0) (w : World) {Q : World -> Nat -> Prop} (hr : Calls Tryz.prog 58 #[.string s] w fun e w' => ∃ b, e = .returned (.tuple #[.iface 201 (.pointer (some ⟨b, 0, none⟩)), .int .i64 0]) /\ Q w' b) :
  Calls Tryz.prog 124 #[.string s] w fun e w' => ∃ b, e = .returned (.iface 233 (.agg #[.pointer (some ⟨b, 0, none⟩)])) /\ Q w' b := by
 have hne := ne_of_size h1
 have HR : Hid (∀ w', w = w' -> _) := fun w' e => by subst e; exact hr
 have hb0 : (((s[0]).toNat : Int) == 0) = false := by simp; omega
 clear hr
 go_enter Tryz.func124, Tryz.ntmps124
 go_wp2_with fail
 refine (HR.out _ rfl).mono ?_
 rintro e w1 ⟨b, rfl, hq⟩
 have HQ : Hid (Q w1 b) := hq
 clear hq
 have t0 := tr_Lease ⟨b, 0, none⟩
 go_wp2
 go_ret
 exact ⟨b, rfl, HQ.out⟩
theorem readFetch_w (s : ByteArray) (h1 : 0 < s.size) (h0 : s[0].toNat ≠ 0) (w : World) {Q : World -> Nat -> Prop} (hr : Calls Tryz.prog 58 #[.string s] w fun e w' => ∃ b, e = .returned (.tuple #[.iface 203 (.pointer (some ⟨b, 0, none⟩)), .int .i64 0]) /\ Q w' b) :
  Calls Tryz.prog 124 #[.string s] w fun e w' => ∃ b, e = .returned (.nilIface) /\ Q w' b := by
 have hne := ne_of_size h1
 have HR : Hid (∀ w', w = w' -> _) := fun w' e => by subst e; exact hr
 have hb0 : (((s[0]).toNat : Int) == 0) = false := by simp; omega
 clear hr
 go_enter Tryz.func124, Tryz.ntmps124
 go_wp2_with fail
 refine (HR.out _ rfl).mono ?_
 rintro e w1 ⟨b, rfl, hq⟩
 have HQ : Hid (Q w1 b) := hq
 clear hq
 have t0 := tr_Fetch0 ⟨b, 0, none⟩
 have t1 := tr_Fetch1 ⟨b, 0, none⟩
 go_wp2
 go_ret
 exact ⟨b, rfl, HQ.out⟩
theorem readRelease_w (s : ByteArray) (h1 : 0 < s.size) (h0 : s[0].toNat ≠ 0) (w : World) {Q : World -> Nat -> Prop} (hr : Calls Tryz.prog 58 #[.string s] w fun e w' => ∃ b, e = .returned (.tuple #[.iface 205 (.pointer (some ⟨b, 0, none⟩)), .int .i64 0]) /\ Q w' b) :
  Calls Tryz.prog 124 #[.string s] w fun e w' => ∃ b, e = .returned (.iface 235 (.agg #[.pointer (some ⟨b, 0, none⟩)])) /\ Q w' b := by
 have hne := ne_of_size h1
 have HR : Hid (∀ w', w = w' -> _) := fun w' e => by subst e; exact hr
 have hb0 : (((s[0]).toNat : Int) == 0) = false := by simp; omega
 clear hr
 go_enter Tryz.func124, Tryz.ntmps124
 go_wp2_with fail
 refine (HR.out _ rfl).mono ?_
 rintro e w1 ⟨b, rfl, hq⟩
 have HQ : Hid (Q w1 b) := hq
 clear hq
 have t0 := tr_Release0 ⟨b, 0, none⟩
 have t1 := tr_Release1 ⟨b, 0, none⟩
 go_wp2
 go_ret
 exact ⟨b, rfl, HQ.out⟩
theorem readStatus_w (s : ByteArray) (h1 : 0 < s.size) (h0 : s[0].toNat ≠ 0) (w : World) {Q : World -> Nat -> Prop} (hr : Calls Tryz.prog 58 #[.string s] w fun e w' => ∃ b, e = .returned (.tuple #[.iface 207 (.pointer (some ⟨b, 0, none⟩)), .int .i64 0]) /\ Q w' b) :
  Calls Tryz.prog 124 #[.string s] w fun e w' => ∃ b, e = .returned (.nilIface) /\ Q w' b := by
 have hne := ne_of_size h1
 have HR : Hid (∀ w', w = w' -> _) := fun w' e => by subst e; exact hr
 have hb0 : (((s[0]).toNat : Int) == 0) = false := by simp; omega
 clear hr
 go_enter Tryz.func124, Tryz.ntmps124
 go_wp2_with fail
 refine (HR.out _ rfl).mono ?_
 rintro e w1 ⟨b, rfl, hq⟩
 have HQ : Hid (Q w1 b) := hq
 clear hq
 have t0 := tr_Status0 ⟨b, 0, none⟩
 have t1 := tr_Status1 ⟨b, 0, none⟩
 go_wp2
 go_ret
 exact ⟨b, rfl, HQ.out⟩
theorem readNil_w (s : ByteArray) (h1 : 0 < s.size) (h0 : s[0].toNat ≠ 0) (w : World) (hr : Calls Tryz.prog 58 #[.string s] w fun e w' => e = .returned (.tuple #[.nilIface, .int .i64 1]) /\ Ext w w') :
  Calls Tryz.prog 124 #[.string s] w fun e w' => e = .returned .nilIface /\ Ext w w' := by
 have hne := ne_of_size h1
 have HR : Hid (∀ w', w = w' -> _) := fun w' e => by subst e; exact hr
 have hb0 : (((s[0]).toNat : Int) == 0) = false := by simp; omega
 clear hr
 go_enter Tryz.func124, Tryz.ntmps124
 go_wp2_with fail
 refine (HR.out _ rfl).mono ?_
 rintro e w1 ⟨rfl, hx⟩
 go_wp2
 go_ret
 exact ⟨rfl, hx⟩
end
theorem readEmpty_w (s : ByteArray) (h : s.size = 0) (w : World) : Calls Tryz.prog 124 #[.string s] w fun e w' => e = .returned .nilIface /\ Ext w w' := by
 have hem : s.toList.isEmpty = true := by
  rw [ByteArray.toList_eq, List.isEmpty_iff, <- List.length_eq_zero_iff]; simpa using h
 have HR : Hid (∀ w', _) := fun w' => wireRead_empty s hem w'
 go_enter Tryz.func124, Tryz.ntmps124
 go_wp2_with fail
 refine (HR.out _).mono ?_
 rintro e w1 ⟨rfl, hx⟩
 go_wp2
 go_ret
 exact ⟨rfl, hx⟩
theorem readMaking_w (s : ByteArray) (h1 : 0 < s.size) (h0 : s[0].toNat = 0) {Q : World -> World -> Ending -> Prop} (w : World) (hr : Calls Tryz.prog 170 #[.string (s.extract 1 s.size)] w fun e w' => ∃ v, e = .returned v /\ Q w w' e) :
  Calls Tryz.prog 124 #[.string s] w fun e w' => Q w w' e := by
 have hne := ne_of_size h1
 have HR : Hid (∀ w', w = w' -> _) := fun w' e => by subst e; exact hr
 clear hr
 go_enter Tryz.func124, Tryz.ntmps124
 go_wp2_with fail
 refine (HR.out _ rfl).mono ?_
 rintro e w1 ⟨v, rfl, hq⟩
 have HQ : Hid (Q w w1 (.returned v)) := hq
 clear hq
 go_wp2
 exact HQ.out
theorem byte_at (t : ByteArray) (i : Nat) (h : i < t.size) : t[i] = t.data.toList.getD i 0 := by
 rw [List.getD_eq_getElem?_getD, List.getElem?_eq_getElem (by simpa using h)]
 rfl
theorem lease_none {l : List UInt8} (h : ∀ vs, decTo leaseL l ≠ some (vs, [])) : (match decTo leaseL l with | some ([s, i, kd, m, k, n, c], []) => some (Chg.leasing s i kd m k n c) | _ => none) = none := by
 split
 ·rename_i hd
  exact absurd hd (h _)
 ·rfl
theorem release_none {l : List UInt8} (h : ∀ vs, decTo releaseL l ≠ some (vs, [])) : (match decTo releaseL l with | some ([s, i], []) => some (Chg.releasing s i) | _ => none) = none := by
 split
 ·rename_i hd
  exact absurd hd (h _)
 ·rfl
theorem read_c (s : ByteArray) (hs : s.size <= 1000000000) (w : World) : Calls Tryz.prog 124 #[.string s] w fun e w' => ChgSo w w' s.size (changeP s.data.toList) e := by
 have hl : s.data.toList.length = s.size := by simp
 have hm : s.size <= maxLen := by unfold maxLen; omega
 have hno : changeP s.data.toList = none -> (Calls Tryz.prog 124 #[.string s] w fun e w' => e = .returned .nilIface /\ Ext w w') -> Calls Tryz.prog 124 #[.string s] w fun e w' => ChgSo w w' s.size (changeP s.data.toList) e := fun h1 h2 => by
  rw [h1]
  refine h2.mono ?_
  rintro e w' ⟨rfl, hx⟩
  exact .no hx
 by_cases h : s.size = 0
 ·exact hno (by unfold changeP; rw [hl, if_pos h]) (readEmpty_w s h w)
 have h1 : 0 < s.size := by omega
 have hb := head_byte s h1
 by_cases k0 : s[0].toNat = 0
 ·have hte : (s.extract 1 s.size).data.toList = s.data.toList.drop 1 := ext_hi s 1
  have hts : (s.extract 1 s.size).size = s.size - 1 := by simp
  by_cases h5 : s.size <= 5
  ·refine hno (by unfold changeP; rw [hl, if_neg h, hb, if_pos k0, if_pos h5]) (readMaking_w s h1 k0 (Q := fun w w' e => e = .returned .nilIface /\ Ext w w') w ((readMakingNo_c _ (by omega) (by omega) w).mono ?_))
   rintro e w' ⟨rfl, hx⟩
   exact ⟨_, rfl, rfl, hx⟩
  ·have hg : ∀ i (hi : i < (s.extract 1 s.size).size), ((s.extract 1 s.size)[i]).toNat = (s.data.toList.getD (1 + i) 0).toNat := fun i hi => by
    rw [byte_at, hte, List.getD_eq_getElem?_getD, List.getElem?_drop, <- List.getD_eq_getElem?_getD]
   have hc : changeP s.data.toList = if isCls (s.data.toList.getD 1 0).toNat (s.data.toList.getD 2 0).toNat (s.data.toList.getD 3 0).toNat (s.data.toList.getD 4 0).toNat then (makingP ((shOf (s.data.toList.getD 1 0).toNat (s.data.toList.getD 2 0).toNat (s.data.toList.getD 3 0).toNat (s.data.toList.getD 4 0).toNat).x + (shOf (s.data.toList.getD 1 0).toNat (s.data.toList.getD 2 0).toNat (s.data.toList.getD 3 0).toNat (s.data.toList.getD 4 0).toNat).y + (shOf (s.data.toList.getD 1 0).toNat (s.data.toList.getD 2 0).toNat (s.data.toList.getD 3 0).toNat (s.data.toList.getD 4 0).toNat).z) (s.data.toList.drop 5)).map (Chg.making (s.data.toList.getD 1 0).toNat (s.data.toList.getD 2 0).toNat (s.data.toList.getD 3 0).toNat (s.data.toList.getD 4 0).toNat) else none := by
    unfold changeP
    rw [hl, if_neg h, hb, if_pos k0, if_neg h5]
   have g0 := hg 0 (by omega)
   have g1 := hg 1 (by omega)
   have g2 := hg 2 (by omega)
   have g3 := hg 3 (by omega)
   have hd5 : (s.extract 1 s.size).data.toList.drop 4 = s.data.toList.drop 5 := by rw [hte, List.drop_drop]
   cases hcl : isCls (s.data.toList.getD 1 0).toNat (s.data.toList.getD 2 0).toNat (s.data.toList.getD 3 0).toNat (s.data.toList.getD 4 0).toNat with
   | false =>
    rw [hcl, if_neg (by decide)] at hc
    refine hno hc (readMaking_w s h1 k0 (Q := fun w w' e => e = .returned .nilIface /\ Ext w w') w ((readMakingBad_c _ (by omega) (by omega) _ _ _ _ g0 g1 g2 g3 hcl w).mono ?_))
    rintro e w' ⟨rfl, hx⟩
    exact ⟨_, rfl, rfl, hx⟩
   | true =>
    rw [hcl, if_pos rfl] at hc
    rw [hc]
    refine readMaking_w s h1 k0 (Q := fun w w' e => ChgSo w w' s.size _ e) w ((readMaking_c _ (by omega) (by omega) _ _ _ _ g0 g1 g2 g3 hcl w).mono ?_)
    intro e w' hso
    rw [hd5] at hso
    rcases hso.ex with ⟨rfl, ho, hx⟩ | ⟨us, gt, cap, rfl, ho, h6, h7, h8, h9, hx⟩
    ·exact ⟨_, rfl, by rw [ho]; exact .no hx⟩
    ·exact ⟨_, rfl, by rw [ho]; exact .making hcl h6 (by omega) h8 h9 hx⟩
 ·by_cases k1 : s[0].toNat = 1
  ·by_cases H : ∃ vs, decTo leaseL (s.extract 1 s.size).data.toList = some (vs, [])
   ·obtain ⟨vs, hd⟩ := H
    have hvl := decTo_len _ _ _ _ hd
    match vs, hvl, hd with
    | [ss, i, ck, cm, cl, cn, c], _, hd =>
     have hc : changeP s.data.toList = some (.leasing ss i ck cm cl cn c) := by
      unfold changeP
      rw [hl, if_neg h, hb, if_neg k0, if_pos k1, <- ext_hi s 1, hd]
     rw [hc]
     refine (readLease_w s h1 k0 w (Q := fun w' b => LeaseReq w' b ss i ck cm cl cn c /\ Ext w w' /\ w.heap.size <= b) ((wireRead_1 s hm h1 k1 w).mono ?_)).mono ?_
     ·rintro e w' (⟨vs', b, h1, h2, h3, h4, h5⟩ | ⟨h, _⟩)
      ·rw [hd] at h1
       simp at h1
       subst h1
       exact ⟨b, h2, h3, h4, h5⟩
      ·exact absurd hd (h _)
     ·rintro e w' ⟨b, rfl, h3, h4, h5⟩
      exact .leasing h3 h5 h4
   ·refine hno (by unfold changeP; rw [hl, if_neg h, hb, if_neg k0, if_pos k1, <- ext_hi s 1]; exact lease_none (fun vs hv => H ⟨vs, hv⟩)) (readNil_w s h1 k0 w ((wireRead_1 s hm h1 k1 w).mono ?_))
    rintro e w' (⟨vs', b, h1, _⟩ | ⟨_, h⟩)
    ·exact absurd ⟨vs', h1⟩ H
    ·exact h
  ·by_cases k3 : s[0].toNat = 3
   ·by_cases H : ∃ vs, decTo releaseL (s.extract 1 s.size).data.toList = some (vs, [])
    ·obtain ⟨vs, hd⟩ := H
     have hvl := decTo_len _ _ _ _ hd
     match vs, hvl, hd with
     | [ss, i], _, hd =>
      have hc : changeP s.data.toList = some (.releasing ss i) := by
       unfold changeP
       rw [hl, if_neg h, hb, if_neg k0, if_neg k1, if_pos k3, <- ext_hi s 1, hd]
      rw [hc]
      refine (readRelease_w s h1 k0 w (Q := fun w' b => ReleaseReq w' b ss i /\ Ext w w' /\ w.heap.size <= b) ((wireRead_3 s hm h1 k3 w).mono ?_)).mono ?_
      ·rintro e w' (⟨vs', b, h1, h2, h3, h4, h5⟩ | ⟨h, _⟩)
       ·rw [hd] at h1
        simp at h1
        subst h1
        exact ⟨b, h2, h3, h4, h5⟩
       ·exact absurd hd (h _)
      ·rintro e w' ⟨b, rfl, h3, h4, h5⟩
       exact .releasing h3 h5 h4
    ·refine hno (by unfold changeP; rw [hl, if_neg h, hb, if_neg k0, if_neg k1, if_pos k3, <- ext_hi s 1]; exact release_none (fun vs hv => H ⟨vs, hv⟩)) (readNil_w s h1 k0 w ((wireRead_3 s hm h1 k3 w).mono ?_))
     rintro e w' (⟨vs', b, h1, _⟩ | ⟨_, h⟩)
     ·exact absurd ⟨vs', h1⟩ H
     ·exact h
   ·have hc : changeP s.data.toList = none := by
     unfold changeP
     rw [hl, if_neg h, hb, if_neg k0, if_neg k1, if_neg k3]
    by_cases k2 : s[0].toNat = 2
    ·by_cases H : ∃ vs, decTo fetchL (s.extract 1 s.size).data.toList = some (vs, [])
     ·obtain ⟨vs, hd⟩ := H
      refine hno hc ((readFetch_w s h1 k0 w (Q := fun w' _ => Ext w w') ((wireRead_2 s hm h1 k2 w).mono ?_)).mono ?_)
      ·rintro e w' (⟨vs', b, h1, h2, h3, h4, h5⟩ | ⟨h, _⟩)
       ·exact ⟨b, h2, h4⟩
       ·exact absurd hd (h _)
      ·rintro e w' ⟨b, rfl, hx⟩
       exact ⟨rfl, hx⟩
     ·refine hno hc (readNil_w s h1 k0 w ((wireRead_2 s hm h1 k2 w).mono ?_))
      rintro e w' (⟨vs', b, h1, _⟩ | ⟨_, h⟩)
      ·exact absurd ⟨vs', h1⟩ H
      ·exact h
    ·by_cases k4 : s[0].toNat = 4
     ·by_cases H : ∃ vs, decTo statusL (s.extract 1 s.size).data.toList = some (vs, [])
      ·obtain ⟨vs, hd⟩ := H
       refine hno hc ((readStatus_w s h1 k0 w (Q := fun w' _ => Ext w w') ((wireRead_4 s hm h1 k4 w).mono ?_)).mono ?_)
       ·rintro e w' (⟨vs', b, h1, h2, h3, h4, h5⟩ | ⟨h, _⟩)
        ·exact ⟨b, h2, h4⟩
        ·exact absurd hd (h _)
       ·rintro e w' ⟨b, rfl, hx⟩
        exact ⟨rfl, hx⟩
      ·refine hno hc (readNil_w s h1 k0 w ((wireRead_4 s hm h1 k4 w).mono ?_))
       rintro e w' (⟨vs', b, h1, _⟩ | ⟨_, h⟩)
       ·exact absurd ⟨vs', h1⟩ H
       ·exact h
     ·exact hno hc (readNil_w s h1 k0 w (wireRead_no s hm h1 (ne_of_size h1) _ rfl (UInt8.toNat_lt _) (by simp; omega) (by simp; omega) (by simp; omega) (by simp; omega) w))
end
end Go.Proofs.YtmnjhhachdlmkaaGreat
