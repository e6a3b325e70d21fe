import Derived.Test.YtmnjhhachdlmkaaGreatK01
import Derived.Test.YtmnjhhachdlmkaaGreatK11
import Derived.Test.YtmnjhhachdlmkaaGreatK17
import Derived.Test.YtmnjhhachdlmkaaGreatK08
import Derived.Test.YtmnjhhachdlmkaaGreatK04
import Derived.Test.YtmnjhhachdlmkaaGreatK05
import Derived.Test.YtmnjhhachdlmkaaGreatK14
import Derived.Test.YtmnjhhachdlmkaaGreatK03
namespace Go.Proofs.YtmnjhhachdlmkaaGreat
set_option linter.unusedVariables false
set_option linter.unusedSimpArgs false
open List renaming getElem_cons_succ -> lB
open World renaming block_lt_of_cell? -> lG
-- VWa
section
set_option maxRecDepth 100000
set_option maxHeartbeats 800000
open Go.RowKit
theorem dealerWrite_bad (k s i ck cm cl cn f c p : Int)
  (hc : ∀ w, Calls Tryz.prog 55 #[.agg #[.int .i64 k, .int .i64 s, .int .i64 i, .int .i64 ck, .int .i64 cm, .int .i64 cl, .int .i64 cn, .int .i64 f, .int .i64 c, .int .i64 p]] w fun e w' => e = .returned (.tuple #[.nilIface, .int .i64 1]) /\ Ext w w') (w : World) :
  Calls Tryz.prog 23 #[.agg #[.int .i64 k, .int .i64 s, .int .i64 i, .int .i64 ck, .int .i64 cm, .int .i64 cl, .int .i64 cn, .int .i64 f, .int .i64 c, .int .i64 p]] w fun e w' => e = .returned (.tuple #[.string ⟨#[]⟩, .int .i64 1]) /\ Ext w w' := by
 have HC : Hid (∀ w, Calls _ _ _ w _) := hc
 clear hc
 go_enter Tryz.func23, Tryz.ntmps23
 go_wp2_with (go_at_call 55; refine (HC.out _).mono ?_; rintro e w1 ⟨rfl, hx⟩)
 go_ret2
 exact ⟨rfl, (Ext.refl w).alloc _ |>.trans hx⟩
end
-- VTo
section
open Go.RowKit Go.Maps
section
variable {S : List Stk} {ls : List LsV}
theorem same_lease (hI : InvQ S ls) {l l' : LsV} (hl : l ∈ ls) (hl' : l' ∈ ls) (hc : l'.kd = l.kd /\ l'.m = l.m /\ l'.k = l.k /\ l'.n = l.n) {num : Int} (h1 : l.f <= num /\ num < l.f + l.c) (h2 : l'.f <= num /\ num < l'.f + l'.c) : l' = l := by
 obtain ⟨a, ha, rfl⟩ := List.getElem_of_mem hl
 obtain ⟨b, hb, rfl⟩ := List.getElem_of_mem hl'
 rcases Nat.lt_trichotomy a b with h | h | h
 ·have := hI.toInvK.apart a b ha hb h ⟨hc.1.symm, hc.2.1.symm, hc.2.2.1.symm, hc.2.2.2.symm⟩
  omega
 ·subst h; rfl
 ·have := hI.toInvK.apart b a hb ha h hc
  omega
end
end
-- VTc
section
open Go.RowKit Go.Maps
def Asked (w w' : World) (B : Nat) (F : Nat -> Prop) (d : DS) : Prop := ∃ F', DealX w' B F' d /\ Turn F w w' /\ ∀ b, F' b -> F b \/ w.heap.size <= b
end
-- VAp
section
open Go.RowKit Go.Maps
end
-- VAq
section
open Go.RowKit Go.Maps
theorem sumK_snoc {kd m k n : Int} {ls : List LsV} (i : Nat) (hi : i < ls.length) : sumK kd m k n (ls.take (i + 1)) = sumK kd m k n (ls.take i) + if sameC ls[i] kd m k n then ls[i].c else 0 := by
 rw [List.take_succ_eq_append_getElem hi, sumK_append]
 simp [sumK]
end
-- VOa
section
open Go.RowKit Go.Maps
theorem be_cons' (c : UInt8) (l : List UInt8) : be (c :: l) = c.toNat * 256 ^ l.length + be l := by
 have key : ∀ (l : List UInt8) (a : Nat), l.foldl (fun n c => n * 256 + c.toNat) a = a * 256 ^ l.length + l.foldl (fun n c => n * 256 + c.toNat) 0 := by
  intro l
  induction l with
  | nil => intro a; simp
  | cons c t ih =>
   intro a
   simp only [List.foldl_cons, List.length_cons]
   rw [ih (a * 256 + c.toNat), ih (0 * 256 + c.toNat), Nat.pow_succ, Nat.add_mul, Nat.zero_mul, Nat.zero_add]
   have : a * 256 * 256 ^ t.length = a * (256 ^ t.length * 256) := by rw [Nat.mul_assoc, Nat.mul_comm 256]
   omega
 have := key l c.toNat
 simpa [be] using this
theorem be_bytesOf (n k : Nat) : be (bytesOf n k) = n % 256 ^ k := by
 induction k with
 | zero => simp [bytesOf, be, Nat.mod_one]
 | succ k ih =>
  rw [bytesOf, be_cons', len_bytesOf, ih]
  have e : 2 ^ (8 * k) = 256 ^ k := by rw [Nat.pow_mul]
  have e2 : (UInt8.ofNat (n / 2 ^ (8 * k))).toNat = n / 256 ^ k % 256 := by rw [e]; simp
  rw [e2, Nat.pow_succ, Nat.mod_mul, Nat.mul_comm]
  omega
theorem be_bytes {n k : Nat} (h : n < 256 ^ k) : be (bytesOf n k) = n := by rw [be_bytesOf, Nat.mod_eq_of_lt h]
theorem be_word {z : Int} (h0 : 0 <= z) (h1 : z <= 18446744073709551615) : (be (bytesI z 8) : Int) = z := by
 unfold bytesI
 rw [be_bytes (by have : z % 18446744073709551616 = z := Int.emod_eq_of_lt h0 (by omega); rw [this]; show z.toNat < 18446744073709551616; omega)]
 omega
theorem wordsB_drop (zs : List Int) (i : Nat) (h : i < zs.length) : (wordsB zs).drop (8 * i) = bytesI zs[i] 8 ++ wordsB (zs.drop (i + 1)) := by
 induction zs generalizing i with
 | nil => simp at h
 | cons z t ih =>
  cases i with
  | zero => simp [wordsB]
  | succ i =>
   have e : wordsB (z :: t) = bytesI z 8 ++ wordsB t := by simp [wordsB]
   rw [e, List.drop_append, len_bytesI, List.drop_eq_nil_of_le (by rw [len_bytesI]; omega), List.nil_append, show 8 * (i + 1) - 8 = 8 * i by omega, ih i (by simpa using h)]
   simp
theorem rawW_words (c : UInt8) (zs : List Int) (rest : List UInt8) (hz : inU64 zs) : rawW (c :: (wordsB zs ++ rest)) zs.length = zs := by
 refine List.ext_getElem (by simp [rawW]) (fun i h1 h2 => ?_)
 simp only [rawW, List.getElem_map, List.getElem_range]
 rw [show 1 + 8 * i = 8 * i + 1 by omega, List.drop_succ_cons, List.drop_append_of_le_length (by rw [len_wordsB]; omega), wordsB_drop zs i h2, List.append_assoc, List.take_append_of_le_length (by rw [len_bytesI]; omega), List.take_of_length_le (by rw [len_bytesI]; omega)]
 have := hz _ (List.getElem_mem h2)
 exact be_word this.1 this.2
def normU (s : Sh) (u : List Int × Bool) : List Int × Bool := if u.2 = true then (sh0 s u.1 ++ sh1 s u.1, true) else ([], false)
theorem normU_2 (s : Sh) (u : List Int × Bool) : (normU s u).2 = u.2 := by unfold normU; cases h : u.2 <;> simp
theorem wordsB_append (a b : List Int) : wordsB (a ++ b) = wordsB a ++ wordsB b := by simp [wordsB]
theorem shareP_tri {s : Sh} {u : List Int × Bool} (h : OkT s u) (L : Nat) (hL : s.x + s.y + s.z = L) (rest : List UInt8) : shareP L (triB s u ++ rest) = some (normU s u, (triB s u).length) := by
 unfold triB normU
 cases hk : u.2 with
 | false => simp [shareP]
 | true =>
  obtain ⟨h1, h2, h3, h4⟩ := h hk
  rw [if_pos rfl, if_pos rfl]
  have hlen : (sh0 s u.1 ++ sh1 s u.1).length = 2 * L := by rw [List.length_append]; omega
  have e : [1] ++ (wordsB (sh0 s u.1) ++ wordsB (sh1 s u.1)) ++ rest = 1 :: (wordsB (sh0 s u.1 ++ sh1 s u.1) ++ rest) := by rw [wordsB_append]; simp
  have hr := rawW_words 1 (sh0 s u.1 ++ sh1 s u.1) rest (fun z hz => by rcases List.mem_append.1 hz with hz | hz; exact h3 z hz; exact h4 z hz)
  rw [hlen] at hr
  rw [e]
  unfold shareP
  rw [if_neg (by simp), if_neg (by simp [len_wordsB]; omega), hr]
  simp [len_wordsB]
  omega
theorem triB_ne (s : Sh) (u : List Int × Bool) : triB s u ≠ [] := by unfold triB; split <;> simp
theorem makingP_tris {s : Sh} {us : List (List Int × Bool)} (h : ∀ u ∈ us, OkT s u) (L : Nat) (hL : s.x + s.y + s.z = L) : makingP L (trisB s us) = some (us.map (normU s)) := by
 induction us with
 | nil => exact makingP_nil L
 | cons u t ih =>
  have e : trisB s (u :: t) = triB s u ++ trisB s t := by simp [trisB]
  rw [e, makingP_some (by simp [triB_ne]) (shareP_tri (h u (by simp)) L hL _)]
  rw [List.drop_left', ih (fun v hv => h v (by simp [hv]))]
  ·rfl
  ·rfl
theorem changeP_make {kd m k n : Nat} {us : List (List Int × Bool)} (hc : isCls kd m k n = true) (h1 : us ≠ []) (hok : ∀ u ∈ us, OkT (shOf kd m k n) u) : changeP (makeB kd m k n (shOf kd m k n) us) = some (.making kd m k n (us.map (normU (shOf kd m k n)))) := by
 have hb : kd < 256 /\ m < 256 /\ k < 256 /\ n < 256 := by
  unfold isCls at hc
  split at hc
  ·simp at hc; omega
  ·split at hc
   ·simp at hc; omega
   ·split at hc
    ·simp at hc; omega
    ·simp at hc
 obtain ⟨b1, b2, b3, b4⟩ := hb
 have ht : trisB (shOf kd m k n) us ≠ [] := by
  cases us with
  | nil => exact absurd rfl h1
  | cons u t => simp [trisB, triB_ne]
 have e1 : (UInt8.ofNat kd).toNat = kd := by simp; omega
 have e2 : (UInt8.ofNat m).toNat = m := by simp; omega
 have e3 : (UInt8.ofNat k).toNat = k := by simp; omega
 have e4 : (UInt8.ofNat n).toNat = n := by simp; omega
 have hp : 0 < (trisB (shOf kd m k n) us).length := List.length_pos_iff.2 ht
 unfold makeB headB changeP
 rw [if_neg (by simp), if_pos (by simp), if_neg (by simp; omega)]
 simp only [List.cons_append, List.nil_append, List.getD_cons_succ, List.getD_cons_zero, List.drop_succ_cons, List.drop_zero, e1, e2, e3, e4]
 rw [if_pos hc, makingP_tris hok _ rfl]
 rfl
theorem step1_enc (x : Nat × Int × Int) (v : Nat) (rest : List UInt8) (h1 : v < 256 ^ x.2.1.toNat) (h2 : (v : Int) <= x.2.2) : step1 x (bytesOf v x.2.1.toNat ++ rest) = some (v, rest) := by
 unfold step1
 rw [List.take_left' (len_bytesOf _ _), List.drop_left' (len_bytesOf _ _), be_bytes h1, if_neg (by rw [List.length_append, len_bytesOf]; omega), if_neg (by omega)]
theorem decTo_enc (vals : Nat -> Nat) : ∀ (L : List (Nat × Int × Int)), (∀ x ∈ L, vals x.1 < 256 ^ x.2.1.toNat /\ (vals x.1 : Int) <= x.2.2) -> decTo L (flatB vals L) = some (L.map (fun x => vals x.1), []) := by
 intro L
 induction L with
 | nil => intro _; rfl
 | cons x t ih =>
  intro h
  have e : flatB vals (x :: t) = bytesOf (vals x.1) x.2.1.toNat ++ flatB vals t := by simp [flatB]
  have hx := h x (by simp)
  rw [e, decTo, step1_enc x _ _ hx.1 hx.2]
  simp only [Option.bind_some]
  rw [ih (fun y hy => h y (by simp [hy]))]
  rfl
theorem changeP_lease {s i kd m k n c : Nat} (h1 : s <= 2147483647) (h2 : i <= 2147483647) (h3 : kd <= 255) (h4 : m <= 255) (h5 : k <= 255) (h6 : n <= 255) (h7 : c <= 2147483647) : changeP (leaseRec s i kd m k n c).data.toList = some (.leasing s i kd m k n c) := by
 have hd := decTo_enc (leaseVals s i kd m k n c) leaseL (by
  intro x hx
  simp only [leaseL, List.mem_cons, List.not_mem_nil, or_false] at hx
  rcases hx with rfl | rfl | rfl | rfl | rfl | rfl | rfl <;> simp [leaseVals] <;> omega)
 unfold leaseRec
 simp only
 unfold changeP
 rw [if_neg (by simp), if_neg (by simp), if_pos (by simp)]
 simp only [List.cons_append, List.nil_append, List.drop_succ_cons, List.drop_zero, hd]
 rfl
theorem changeP_release {s i : Nat} (h1 : s <= 2147483647) (h2 : i <= 2147483647) : changeP (relRec s i).data.toList = some (.releasing s i) := by
 have hd := decTo_enc (releaseVals s i) releaseL (by
  intro x hx
  simp only [releaseL, List.mem_cons, List.not_mem_nil, or_false] at hx
  rcases hx with rfl | rfl <;> simp [releaseVals] <;> omega)
 unfold relRec
 simp only
 unfold changeP
 rw [if_neg (by simp), if_neg (by simp), if_neg (by simp), if_pos (by simp)]
 simp only [List.cons_append, List.nil_append, List.drop_succ_cons, List.drop_zero, hd]
 rfl
theorem unframe_frame (r rest : List UInt8) (h : r.length < 4294967296) : unframeP (frameB r ++ rest) = some r := by
 have hn : be (bytesOf r.length 4) = r.length := be_bytes (by show _ < 4294967296; exact h)
 have hf := fnvI_range r
 have hs : be (bytesOf (fnvI r).toNat 8) = (fnvI r).toNat := be_bytes (by show _ < 18446744073709551616; omega)
 have e1 : (frameB r ++ rest).take 4 = bytesOf r.length 4 := by
  unfold frameB
  rw [List.append_assoc, List.append_assoc, List.take_left' (len_bytesOf _ _)]
 have e2 : ((frameB r ++ rest).take 12).drop 4 = bytesOf (fnvI r).toNat 8 := by
  unfold frameB
  rw [List.append_assoc, List.take_left' (by simp [len_bytesOf]), List.drop_left' (len_bytesOf _ _)]
 have e3 : (frameB r ++ rest).drop 12 = r ++ rest := by
  unfold frameB
  rw [List.append_assoc, List.drop_left' (by simp [len_bytesOf])]
 unfold unframeP
 rw [e1, e2, e3, hn, hs, List.take_left' rfl, if_neg (by rw [List.length_append, len_frameB]; omega), if_neg (by rw [List.length_append, len_frameB]; omega), if_pos (by omega)]
theorem readP_flat (rs : List ByteArray) (h : ∀ r ∈ rs, r.size <= 100000) : strL (readP (flatF rs)) = rs := by
 induction rs with
 | nil =>
  have : readP (flatF []) = [] := readP_none (by simp [flatF, unframeP])
  rw [this]; rfl
 | cons r t ih =>
  have e : flatF (r :: t) = frameB r.data.toList ++ flatF t := by simp [flatF]
  have hr := h r (by simp)
  have hl : r.data.toList.length = r.size := by simp
  rw [e, readP_some (unframe_frame _ _ (by rw [hl]; omega)), List.drop_left' (by rw [len_frameB])]
  show (⟨r.data.toList.toArray⟩ : ByteArray) :: strL (readP (flatF t)) = r :: t
  rw [ih (fun x hx => h x (by simp [hx]))]
def Stk.norm (x : Stk) : Stk := { x with ts := x.ts.map (normU x.sh) }
def normS (S : List Stk) : List Stk := S.map Stk.norm
def Plays (rs : List ByteArray) (st st' : List Stk × List LsV) : Prop := ∀ rest, replayS (rs ++ rest) st = replayS rest st'
theorem Plays.nil (st : List Stk × List LsV) : Plays [] st st := fun _ => rfl
theorem Plays.trans {a b : List ByteArray} {x y z : List Stk × List LsV} (h : Plays a x y) (k : Plays b y z) : Plays (a ++ b) x z := fun rest => by rw [List.append_assoc, h, k]
theorem Plays.one {r : ByteArray} {x y : List Stk × List LsV} {c : Chg} (h : changeP r.data.toList = some c) (k : applyS x.1 x.2 c = some y) : Plays [r] x y := fun rest => by
 simp only [List.cons_append, List.nil_append, replayS, h, k]
theorem Plays.all {a : List ByteArray} {x y : List Stk × List LsV} (h : Plays a x y) : replayS a x = y := by
 have := h []
 rw [List.append_nil] at this
 rw [this]
 rfl
theorem is_iff {x : Stk} {kd m k n : Int} : x.is kd m k n = true ↔ (x.kd : Int) = kd /\ (x.m : Int) = m /\ (x.k : Int) = k /\ (x.n : Int) = n := by simp [Stk.is]
def Stk.lent (x : Stk) (c : Nat) : Stk := { x with leased := c }
def lentS (S : List Stk) (ls : List LsV) : List Stk := S.map fun x => x.norm.lent (sumK x.kd x.m x.k x.n ls).toNat
theorem plays_stocks {S : List Stk} {ls : List LsV} (hI : InvK S ls) : ∀ j, j <= S.length -> Plays ((S.take j).map stkRec) ([], []) (lentS (S.take j) [], []) := by
 intro j
 induction j with
 | zero => intro _; exact Plays.nil _
 | succ j ih =>
  intro hj
  have hjl : j < S.length := by omega
  rw [List.take_succ_eq_append_getElem hjl, List.map_append]
  refine (ih (by omega)).trans (Plays.one (c := .making S[j].kd S[j].m S[j].k S[j].n (S[j].ts.map (normU S[j].sh))) ?_ ?_)
  ·have hc := hI.cls _ (List.getElem_mem hjl)
   have hm := hI.made _ (List.getElem_mem hjl)
   have hok := hI.ok _ (List.getElem_mem hjl)
   exact changeP_make hc (fun h => by rw [h] at hm; simp at hm) hok
  ·have hm := hI.made _ (List.getElem_mem hjl)
   have hno : ∀ x ∈ lentS (S.take j) [], x.is S[j].kd S[j].m S[j].k S[j].n = false := by
    intro x hx
    obtain ⟨y, hy, rfl⟩ := List.mem_map.1 hx
    obtain ⟨i, hi, rfl⟩ := List.getElem_of_mem hy
    rw [List.length_take] at hi
    cases hq : ((S.take j)[i].norm.lent _).is S[j].kd S[j].m S[j].k S[j].n with
    | false => rfl
    | true =>
     have := hI.uniq i j (by omega) hjl (by rw [List.getElem_take] at hq; exact hq)
     omega
   have hidx := findIdx_no hno
   have hst := hI.stocks
   have hlen : (lentS (S.take j) []).length = j := by simp [lentS]; omega
   simp only [applyS]
   have hcode : makeCode (lentS (S.take j) []) S[j].kd S[j].m S[j].k S[j].n (S[j].ts.map (normU S[j].sh)).length = 0 := by
    unfold makeCode
    rw [find_none_idx hidx]
    simp only [List.length_map]
    rw [if_neg (by omega)]
   rw [if_pos hcode]
   unfold makeS
   rw [hidx]
   simp only [lentS, List.map_append, List.map_cons, List.map_nil]
   rfl
def LsV.held (l : LsV) : LsV := { l with r := false }
theorem sumK_nonneg' {kd m k n : Int} {ls : List LsV} (h : ∀ l ∈ ls, 0 <= l.c) : 0 <= sumK kd m k n ls := by
 induction ls with
 | nil => simp [sumK]
 | cons l t ih =>
  have h1 := h l (by simp)
  have h2 := ih (fun x hx => h x (by simp [hx]))
  simp only [sumK]
  split <;> omega
theorem lentS_at {S : List Stk} {ls : List LsV} (i : Nat) (hi : i < S.length) : (lentS S ls)[i]'(by simp [lentS]; exact hi) = S[i].norm.lent (sumK S[i].kd S[i].m S[i].k S[i].n ls).toNat := by simp [lentS]
theorem plays_leases {S : List Stk} {ls : List LsV} (hI : InvK S ls) : ∀ j, j <= ls.length -> Plays ((ls.take j).map lsRec) (lentS S [], []) (lentS S (ls.take j), (ls.take j).map LsV.held) := by
 intro j
 induction j with
 | zero => intro _; exact Plays.nil _
 | succ j ih =>
  intro hj
  have hjl : j < ls.length := by omega
  have hlok := hI.lok _ (List.getElem_mem hjl)
  have hcnt := hI.cnt _ (List.getElem_mem hjl)
  have hnn := hI.nonneg
  obtain ⟨x, hx⟩ := hI.has _ (List.getElem_mem hjl)
  obtain ⟨ix, hix, hxe⟩ := List.getElem_of_mem (List.mem_of_find?_eq_some hx)
  have hxi : x.is ls[j].kd ls[j].m ls[j].k ls[j].n = true := by simpa using List.find?_some hx
  obtain ⟨e1, e2, e3, e4⟩ := is_iff.1 hxi
  obtain ⟨p1, p2, p3, p4, p5, p6, p7⟩ := hlok
  have hsame : sameC ls[j] x.kd x.m x.k x.n = true := sameC_iff.2 ⟨e1.symm, e2.symm, e3.symm, e4.symm⟩
  have hsum := sumK_take hnn j hjl hsame
  have hsx := hI.sum ix hix
  rw [hxe] at hsx
  have hmx := hI.made x (List.mem_of_find?_eq_some hx)
  have hs0 : 0 <= sumK x.kd x.m x.k x.n (ls.take j) := sumK_nonneg' (fun l hl => hnn l (List.mem_of_mem_take hl))
  have hseq := hI.seq j hjl
  rw [<- e1, <- e2, <- e3, <- e4] at hseq
  rw [List.take_succ_eq_append_getElem hjl, List.map_append, <- List.take_succ_eq_append_getElem hjl]
  refine (ih (by omega)).trans (Plays.one (c := .leasing ls[j].s.toNat ls[j].i.toNat ls[j].kd.toNat ls[j].m.toNat ls[j].k.toNat ls[j].n.toNat ls[j].c.toNat) ?_ ?_)
  ·exact changeP_lease (by omega) (by omega) (by omega) (by omega) (by omega) (by omega) (by omega)
  ·have c1 : ((ls[j].s.toNat : Nat) : Int) = ls[j].s := by omega
   have c2 : ((ls[j].i.toNat : Nat) : Int) = ls[j].i := by omega
   have c3 : ((ls[j].kd.toNat : Nat) : Int) = ls[j].kd := by omega
   have c4 : ((ls[j].m.toNat : Nat) : Int) = ls[j].m := by omega
   have c5 : ((ls[j].k.toNat : Nat) : Int) = ls[j].k := by omega
   have c6 : ((ls[j].n.toNat : Nat) : Int) = ls[j].n := by omega
   have c7 : ((ls[j].c.toNat : Nat) : Int) = ls[j].c := by omega
   simp only [applyS, c1, c2, c3, c4, c5, c6, c7]
   have hnon : ((ls.take j).map LsV.held).findIdx? (isNamed ls[j].s ls[j].i) = none := findIdx_no (by
    intro l hl
    obtain ⟨y, hy, rfl⟩ := List.mem_map.1 hl
    obtain ⟨i, hi, rfl⟩ := List.getElem_of_mem hy
    rw [List.length_take] at hi
    cases hq : isNamed ls[j].s ls[j].i ((ls.take j)[i].held) with
    | false => rfl
    | true =>
     rw [List.getElem_take] at hq
     have hq' : ls[i].s = ls[j].s /\ ls[i].i = ls[j].i := by simpa [isNamed, LsV.held] using hq
     have := hI.names i j (by omega) hjl hq'.1 hq'.2
     omega)
   have hixl : ix < (lentS S (ls.take j)).length := by simp [lentS]; exact hix
   have hat : (lentS S (ls.take j))[ix] = x.norm.lent (sumK x.kd x.m x.k x.n (ls.take j)).toNat := by rw [lentS_at ix hix, hxe]
   have hidx : (lentS S (ls.take j)).findIdx? (fun x => x.is ls[j].kd ls[j].m ls[j].k ls[j].n) = some ix := by
    refine findIdx_at hixl (fun y hy => ?_) ?_
    ·obtain ⟨i, hi, rfl⟩ := List.getElem_of_mem hy
     rw [List.length_take] at hi
     rw [List.getElem_take, lentS_at i (by omega)]
     cases hq : (S[i].norm.lent (sumK S[i].kd S[i].m S[i].k S[i].n (ls.take j)).toNat).is ls[j].kd ls[j].m ls[j].k ls[j].n with
     | false => rfl
     | true =>
      rw [<- e1, <- e2, <- e3, <- e4] at hq
      have := hI.uniq i ix (by omega) hix (by rw [hxe]; exact hq)
      omega
    ·rw [hat]; exact hxi
   obtain ⟨_, hfind⟩ := find_idx hidx
   rw [hat] at hfind
   have hcode : leaseCodeS (lentS S (ls.take j)) ((ls.take j).map LsV.held) ls[j].kd ls[j].m ls[j].k ls[j].n ls[j].c = 0 := by
    unfold leaseCodeS
    rw [hfind]
    have hl30 := hI.leases
    have ht : ((x.norm.lent (sumK x.kd x.m x.k x.n (ls.take j)).toNat).ts.length : Int) = x.ts.length := by simp [Stk.norm, Stk.lent]
    have hl : (((x.norm.lent (sumK x.kd x.m x.k x.n (ls.take j)).toNat).leased : Nat) : Int) = sumK x.kd x.m x.k x.n (ls.take j) := by simp [Stk.lent]; omega
    simp only [ht, hl, List.length_map, List.length_take]
    rw [if_neg (by omega), if_neg (by omega), if_neg (by omega)]
   have hat2 : leasedAt (lentS S (ls.take j)) ls[j].kd ls[j].m ls[j].k ls[j].n = ls[j].f := by
    unfold leasedAt
    rw [hfind, hseq]
    simp [Stk.lent]; omega
   rw [hnon, hcode, hat2]
   simp only [Option.isSome_none, Bool.false_eq_true, if_false, if_true]
   have hlend : lendS (lentS S (ls.take j)) ls[j].kd ls[j].m ls[j].k ls[j].n ls[j].c.toNat = lentS S (ls.take (j + 1)) := by
    unfold lendS
    rw [hidx]
    refine List.ext_getElem (by simp [lentS]) (fun i h1 h2 => ?_)
    have hi : i < S.length := by simpa [lentS] using h2
    rw [List.getElem_modify, lentS_at i hi, lentS_at i hi, sumK_snoc j hjl]
    by_cases hq : ix = i
    ·subst hq
     rw [if_pos rfl, hxe, if_pos hsame]
     simp only [Stk.lend, Stk.lent]
     congr 1
     omega
    ·rw [if_neg hq]
     have : sameC ls[j] S[i].kd S[i].m S[i].k S[i].n = false := by
      cases hs : sameC ls[j] S[i].kd S[i].m S[i].k S[i].n with
      | false => rfl
      | true =>
       obtain ⟨q1, q2, q3, q4⟩ := sameC_iff.1 hs
       exact absurd (hI.uniq ix i hix hi (by rw [hxe]; exact is_iff.2 ⟨by omega, by omega, by omega, by omega⟩)) hq
     rw [this]
     simp
   rw [hlend, List.take_succ_eq_append_getElem hjl, List.map_append]
   simp [LsV.held, hseq]
def freedL (ls : List LsV) (j : Nat) : List LsV := ls.take j ++ (ls.drop j).map LsV.held
theorem freedL_at {ls : List LsV} {j i : Nat} (hi : i < ls.length) : (freedL ls j)[i]'(by simp [freedL]; omega) = if i < j then ls[i] else ls[i].held := by
 unfold freedL
 by_cases h : i < j
 ·rw [if_pos h, List.getElem_append_left (by simp; omega), List.getElem_take]
 ·rw [if_neg h, List.getElem_append_right (by simp; omega)]
  simp only [List.length_take, List.getElem_map, List.getElem_drop]
  congr 2
  omega
theorem len_freedL (ls : List LsV) (j : Nat) : (freedL ls j).length = ls.length := by simp [freedL]; omega
theorem plays_frees {S : List Stk} {ls : List LsV} (S' : List Stk) (hI : InvK S ls) : ∀ j, j <= ls.length -> Plays (((ls.take j).filter (·.r)).map frRec) (S', freedL ls 0) (S', freedL ls j) := by
 intro j
 induction j with
 | zero => intro _; exact Plays.nil _
 | succ j ih =>
  intro hj
  have hjl : j < ls.length := by omega
  rw [List.take_succ_eq_append_getElem hjl, List.filter_append, List.map_append]
  refine (ih (by omega)).trans ?_
  cases hr : ls[j].r with
  | false =>
   have e : freedL ls (j + 1) = freedL ls j := by
    refine List.ext_getElem (by simp [len_freedL]) (fun i h1 h2 => ?_)
    rw [len_freedL] at h1
    rw [freedL_at h1, freedL_at h1]
    by_cases h : i < j
    ·rw [if_pos h, if_pos (by omega)]
    ·rw [if_neg h]
     by_cases h' : i = j
     ·subst h'
      rw [if_pos (by omega)]
      unfold LsV.held
      rw [<- hr]
     ·rw [if_neg (by omega)]
   rw [e]
   simp [hr]
   exact Plays.nil _
  | true =>
   have hlok := hI.lok _ (List.getElem_mem hjl)
   obtain ⟨p1, p2, _⟩ := hlok
   simp only [List.filter_cons, hr, if_true, List.filter_nil, List.map_cons, List.map_nil]
   refine Plays.one (c := .releasing ls[j].s.toNat ls[j].i.toNat) (changeP_release (by omega) (by omega)) ?_
   have c1 : ((ls[j].s.toNat : Nat) : Int) = ls[j].s := by omega
   have c2 : ((ls[j].i.toNat : Nat) : Int) = ls[j].i := by omega
   simp only [applyS, c1, c2]
   have hjf : j < (freedL ls j).length := by rw [len_freedL]; exact hjl
   have hat : (freedL ls j)[j] = ls[j].held := by rw [freedL_at hjl, if_neg (by omega)]
   have hidx : (freedL ls j).findIdx? (isNamed ls[j].s ls[j].i) = some j := by
    refine findIdx_at hjf (fun y hy => ?_) ?_
    ·obtain ⟨i, hi, rfl⟩ := List.getElem_of_mem hy
     rw [List.length_take, len_freedL] at hi
     rw [List.getElem_take, freedL_at (by omega), if_pos (by omega)]
     cases hq : isNamed ls[j].s ls[j].i ls[i] with
     | false => rfl
     | true =>
      have hq' : ls[i].s = ls[j].s /\ ls[i].i = ls[j].i := by simpa [isNamed] using hq
      have := hI.names i j (by omega) hjl hq'.1 hq'.2
      omega
    ·rw [hat]; simp [isNamed, LsV.held]
   obtain ⟨_, hfind⟩ := find_idx hidx
   rw [hat] at hfind
   have hcode : releaseCode (freedL ls j) ls[j].s ls[j].i = 0 := by
    unfold releaseCode
    rw [hfind]
    simp [LsV.held]
   rw [if_pos hcode]
   unfold freeS
   rw [hidx]
   simp only
   congr 2
   refine List.ext_getElem (by simp [len_freedL]) (fun i h1 h2 => ?_)
   rw [len_freedL] at h2
   rw [List.getElem_modify, freedL_at h2, freedL_at h2]
   by_cases h : j = i
   ·subst h
    rw [if_pos rfl, if_neg (by omega), if_pos (by omega)]
    unfold LsV.held LsV.free
    simp only
    rw [<- hr]
   ·rw [if_neg h]
    by_cases h' : i < j
    ·rw [if_pos h', if_pos (by omega)]
    ·rw [if_neg h', if_neg (by omega)]
theorem plays_recs {S : List Stk} {ls : List LsV} (hI : InvK S ls) : Plays (recsP S ls) ([], []) (normS S, ls) := by
 have h1 := plays_stocks hI S.length (Nat.le_refl _)
 have h2 := plays_leases hI ls.length (Nat.le_refl _)
 have h3 := plays_frees (lentS S ls) hI ls.length (Nat.le_refl _)
 rw [List.take_length] at h1 h2 h3
 have e0 : freedL ls 0 = ls.map LsV.held := by simp [freedL]
 have e1 : freedL ls ls.length = ls := by simp [freedL]
 have e2 : lentS S ls = normS S := by
  refine List.ext_getElem (by simp [lentS, normS]) (fun i hi h2 => ?_)
  have hi : i < S.length := by simpa [normS] using h2
  rw [lentS_at i hi]
  simp only [normS, List.getElem_map]
  have := hI.sum i hi
  unfold Stk.lent Stk.norm
  simp only
  congr 1
  omega
 rw [e0, e1] at h3
 rw [<- e2]
 exact (h1.trans h2).trans h3
end
end Go.Proofs.YtmnjhhachdlmkaaGreat
