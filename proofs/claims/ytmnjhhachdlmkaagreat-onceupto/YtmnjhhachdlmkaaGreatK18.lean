import Derived.Test.YtmnjhhachdlmkaaGreatK17
import Derived.Test.YtmnjhhachdlmkaaGreatK10
namespace Go.Proofs.YtmnjhhachdlmkaaGreat
set_option linter.unusedVariables false
set_option linter.unusedSimpArgs false
-- VOa
section
open Go.RowKit Go.Maps
theorem be_cons' (c : UInt8) (l : List UInt8) : be (c :: l) = c.toNat * 256 ^ l.length + be l := by
 have key : ∀ (l : List UInt8) (a : Nat), l.foldl (fun n c => n * 256 + c.toNat) a = a * 256 ^ l.length + l.foldl (fun n c => n * 256 + c.toNat) 0 := by
  intro l
  induction l with
  | nil => intro a; simp
  | cons c t ih =>
   intro a
   simp only [List.foldl_cons, List.length_cons]
   rw [ih (a * 256 + c.toNat), ih (0 * 256 + c.toNat), Nat.pow_succ, Nat.add_mul, Nat.zero_mul, Nat.zero_add]
   have : a * 256 * 256 ^ t.length = a * (256 ^ t.length * 256) := by rw [Nat.mul_assoc, Nat.mul_comm 256]
   omega
 have := key l c.toNat
 simpa [be] using this
theorem be_bytesOf (n k : Nat) : be (bytesOf n k) = n % 256 ^ k := by
 induction k with
 | zero => simp [bytesOf, be, Nat.mod_one]
 | succ k ih =>
  rw [bytesOf, be_cons', len_bytesOf, ih]
  have e : 2 ^ (8 * k) = 256 ^ k := by rw [Nat.pow_mul]
  have e2 : (UInt8.ofNat (n / 2 ^ (8 * k))).toNat = n / 256 ^ k % 256 := by rw [e]; simp
  rw [e2, Nat.pow_succ, Nat.mod_mul, Nat.mul_comm]
  omega
theorem be_bytes {n k : Nat} (h : n < 256 ^ k) : be (bytesOf n k) = n := by rw [be_bytesOf, Nat.mod_eq_of_lt h]
theorem be_word {z : Int} (h0 : 0 <= z) (h1 : z <= 18446744073709551615) : (be (bytesI z 8) : Int) = z := by
 unfold bytesI
 rw [be_bytes (by have : z % 18446744073709551616 = z := Int.emod_eq_of_lt h0 (by omega); rw [this]; show z.toNat < 18446744073709551616; omega)]
 omega
theorem wordsB_drop (zs : List Int) (i : Nat) (h : i < zs.length) : (wordsB zs).drop (8 * i) = bytesI zs[i] 8 ++ wordsB (zs.drop (i + 1)) := by
 induction zs generalizing i with
 | nil => simp at h
 | cons z t ih =>
  cases i with
  | zero => simp [wordsB]
  | succ i =>
   have e : wordsB (z :: t) = bytesI z 8 ++ wordsB t := by simp [wordsB]
   rw [e, List.drop_append, len_bytesI, List.drop_eq_nil_of_le (by rw [len_bytesI]; omega), List.nil_append, show 8 * (i + 1) - 8 = 8 * i by omega, ih i (by simpa using h)]
   simp
theorem rawW_words (c : UInt8) (zs : List Int) (rest : List UInt8) (hz : inU64 zs) : rawW (c :: (wordsB zs ++ rest)) zs.length = zs := by
 refine List.ext_getElem (by simp [rawW]) (fun i h1 h2 => ?_)
 simp only [rawW, List.getElem_map, List.getElem_range]
 rw [show 1 + 8 * i = 8 * i + 1 by omega, List.drop_succ_cons, List.drop_append_of_le_length (by rw [len_wordsB]; omega), wordsB_drop zs i h2, List.append_assoc, List.take_append_of_le_length (by rw [len_bytesI]; omega), List.take_of_length_le (by rw [len_bytesI]; omega)]
 have := hz _ (List.getElem_mem h2)
 exact be_word this.1 this.2
def normU (s : Sh) (u : List Int × Bool) : List Int × Bool := if u.2 = true then (sh0 s u.1 ++ sh1 s u.1, true) else ([], false)
theorem normU_2 (s : Sh) (u : List Int × Bool) : (normU s u).2 = u.2 := by unfold normU; cases h : u.2 <;> simp
theorem normU_sh {s : Sh} {u : List Int × Bool} (h : OkT s u) (hk : u.2 = true) : sh0 s (normU s u).1 = sh0 s u.1 /\ sh1 s (normU s u).1 = sh1 s u.1 := by
 obtain ⟨h1, h2, _, _⟩ := h hk
 have e : (normU s u).1 = sh0 s u.1 ++ sh1 s u.1 := by unfold normU; rw [if_pos hk]
 have hl : (sh0 s u.1 ++ sh1 s u.1).length = 2 * (s.x + s.y + s.z) := by rw [List.length_append]; omega
 rw [e]
 refine ⟨?_, ?_⟩
 ·conv => lhs; rw [sh0, if_pos hl]
  rw [<- h1, List.take_left']
  rfl
 ·conv => lhs; rw [sh1, if_pos hl]
  rw [<- h1, List.drop_left']
  rfl
theorem wordsB_append (a b : List Int) : wordsB (a ++ b) = wordsB a ++ wordsB b := by simp [wordsB]
theorem shareP_tri {s : Sh} {u : List Int × Bool} (h : OkT s u) (L : Nat) (hL : s.x + s.y + s.z = L) (rest : List UInt8) : shareP L (triB s u ++ rest) = some (normU s u, (triB s u).length) := by
 unfold triB normU
 cases hk : u.2 with
 | false => simp [shareP]
 | true =>
  obtain ⟨h1, h2, h3, h4⟩ := h hk
  rw [if_pos rfl, if_pos rfl]
  have hlen : (sh0 s u.1 ++ sh1 s u.1).length = 2 * L := by rw [List.length_append]; omega
  have e : [1] ++ (wordsB (sh0 s u.1) ++ wordsB (sh1 s u.1)) ++ rest = 1 :: (wordsB (sh0 s u.1 ++ sh1 s u.1) ++ rest) := by rw [wordsB_append]; simp
  have hr := rawW_words 1 (sh0 s u.1 ++ sh1 s u.1) rest (fun z hz => by rcases List.mem_append.1 hz with hz | hz; exact h3 z hz; exact h4 z hz)
  rw [hlen] at hr
  rw [e]
  unfold shareP
  rw [if_neg (by simp), if_neg (by simp [len_wordsB]; omega), hr]
  simp [len_wordsB]
  omega
theorem triB_ne (s : Sh) (u : List Int × Bool) : triB s u ≠ [] := by unfold triB; split <;> simp
theorem makingP_tris {s : Sh} {us : List (List Int × Bool)} (h : ∀ u ∈ us, OkT s u) (L : Nat) (hL : s.x + s.y + s.z = L) : makingP L (trisB s us) = some (us.map (normU s)) := by
 induction us with
 | nil => exact makingP_nil L
 | cons u t ih =>
  have e : trisB s (u :: t) = triB s u ++ trisB s t := by simp [trisB]
  rw [e, makingP_some (by simp [triB_ne]) (shareP_tri (h u (by simp)) L hL _)]
  rw [List.drop_left', ih (fun v hv => h v (by simp [hv]))]
  ·rfl
  ·rfl
theorem changeP_make {kd m k n : Nat} {us : List (List Int × Bool)} (hc : isCls kd m k n = true) (h1 : us ≠ []) (hok : ∀ u ∈ us, OkT (shOf kd m k n) u) : changeP (makeB kd m k n (shOf kd m k n) us) = some (.making kd m k n (us.map (normU (shOf kd m k n)))) := by
 have hb : kd < 256 /\ m < 256 /\ k < 256 /\ n < 256 := by
  unfold isCls at hc
  split at hc
  ·simp at hc; omega
  ·split at hc
   ·simp at hc; omega
   ·split at hc
    ·simp at hc; omega
    ·simp at hc
 obtain ⟨b1, b2, b3, b4⟩ := hb
 have ht : trisB (shOf kd m k n) us ≠ [] := by
  cases us with
  | nil => exact absurd rfl h1
  | cons u t => simp [trisB, triB_ne]
 have e1 : (UInt8.ofNat kd).toNat = kd := by simp; omega
 have e2 : (UInt8.ofNat m).toNat = m := by simp; omega
 have e3 : (UInt8.ofNat k).toNat = k := by simp; omega
 have e4 : (UInt8.ofNat n).toNat = n := by simp; omega
 have hp : 0 < (trisB (shOf kd m k n) us).length := List.length_pos_iff.2 ht
 unfold makeB headB changeP
 rw [if_neg (by simp), if_pos (by simp), if_neg (by simp; omega)]
 simp only [List.cons_append, List.nil_append, List.getD_cons_succ, List.getD_cons_zero, List.drop_succ_cons, List.drop_zero, e1, e2, e3, e4]
 rw [if_pos hc, makingP_tris hok _ rfl]
 rfl
theorem step1_enc (x : Nat × Int × Int) (v : Nat) (rest : List UInt8) (h1 : v < 256 ^ x.2.1.toNat) (h2 : (v : Int) <= x.2.2) : step1 x (bytesOf v x.2.1.toNat ++ rest) = some (v, rest) := by
 unfold step1
 rw [List.take_left' (len_bytesOf _ _), List.drop_left' (len_bytesOf _ _), be_bytes h1, if_neg (by rw [List.length_append, len_bytesOf]; omega), if_neg (by omega)]
theorem decTo_enc (vals : Nat -> Nat) : ∀ (L : List (Nat × Int × Int)), (∀ x ∈ L, vals x.1 < 256 ^ x.2.1.toNat /\ (vals x.1 : Int) <= x.2.2) -> decTo L (flatB vals L) = some (L.map (fun x => vals x.1), []) := by
 intro L
 induction L with
 | nil => intro _; rfl
 | cons x t ih =>
  intro h
  have e : flatB vals (x :: t) = bytesOf (vals x.1) x.2.1.toNat ++ flatB vals t := by simp [flatB]
  have hx := h x (by simp)
  rw [e, decTo, step1_enc x _ _ hx.1 hx.2]
  simp only [Option.bind_some]
  rw [ih (fun y hy => h y (by simp [hy]))]
  rfl
theorem changeP_lease {s i kd m k n c : Nat} (h1 : s <= 2147483647) (h2 : i <= 2147483647) (h3 : kd <= 255) (h4 : m <= 255) (h5 : k <= 255) (h6 : n <= 255) (h7 : c <= 2147483647) : changeP (leaseRec s i kd m k n c).data.toList = some (.leasing s i kd m k n c) := by
 have hd := decTo_enc (leaseVals s i kd m k n c) leaseL (by
  intro x hx
  simp only [leaseL, List.mem_cons, List.not_mem_nil, or_false] at hx
  rcases hx with rfl | rfl | rfl | rfl | rfl | rfl | rfl <;> simp [leaseVals] <;> omega)
 unfold leaseRec
 simp only
 unfold changeP
 rw [if_neg (by simp), if_neg (by simp), if_pos (by simp)]
 simp only [List.cons_append, List.nil_append, List.drop_succ_cons, List.drop_zero, hd]
 rfl
theorem changeP_release {s i : Nat} (h1 : s <= 2147483647) (h2 : i <= 2147483647) : changeP (relRec s i).data.toList = some (.releasing s i) := by
 have hd := decTo_enc (releaseVals s i) releaseL (by
  intro x hx
  simp only [releaseL, List.mem_cons, List.not_mem_nil, or_false] at hx
  rcases hx with rfl | rfl <;> simp [releaseVals] <;> omega)
 unfold relRec
 simp only
 unfold changeP
 rw [if_neg (by simp), if_neg (by simp), if_neg (by simp), if_pos (by simp)]
 simp only [List.cons_append, List.nil_append, List.drop_succ_cons, List.drop_zero, hd]
 rfl
theorem unframe_frame (r rest : List UInt8) (h : r.length < 4294967296) : unframeP (frameB r ++ rest) = some r := by
 have hn : be (bytesOf r.length 4) = r.length := be_bytes (by show _ < 4294967296; exact h)
 have hf := fnvI_range r
 have hs : be (bytesOf (fnvI r).toNat 8) = (fnvI r).toNat := be_bytes (by show _ < 18446744073709551616; omega)
 have e1 : (frameB r ++ rest).take 4 = bytesOf r.length 4 := by
  unfold frameB
  rw [List.append_assoc, List.append_assoc, List.take_left' (len_bytesOf _ _)]
 have e2 : ((frameB r ++ rest).take 12).drop 4 = bytesOf (fnvI r).toNat 8 := by
  unfold frameB
  rw [List.append_assoc, List.take_left' (by simp [len_bytesOf]), List.drop_left' (len_bytesOf _ _)]
 have e3 : (frameB r ++ rest).drop 12 = r ++ rest := by
  unfold frameB
  rw [List.append_assoc, List.drop_left' (by simp [len_bytesOf])]
 unfold unframeP
 rw [e1, e2, e3, hn, hs, List.take_left' rfl, if_neg (by rw [List.length_append, len_frameB]; omega), if_neg (by rw [List.length_append, len_frameB]; omega), if_pos (by omega)]
theorem readP_flat (rs : List ByteArray) (h : ∀ r ∈ rs, r.size <= 100000) : strL (readP (flatF rs)) = rs := by
 induction rs with
 | nil =>
  have : readP (flatF []) = [] := readP_none (by simp [flatF, unframeP])
  rw [this]; rfl
 | cons r t ih =>
  have e : flatF (r :: t) = frameB r.data.toList ++ flatF t := by simp [flatF]
  have hr := h r (by simp)
  have hl : r.data.toList.length = r.size := by simp
  rw [e, readP_some (unframe_frame _ _ (by rw [hl]; omega)), List.drop_left' (by rw [len_frameB])]
  show (⟨r.data.toList.toArray⟩ : ByteArray) :: strL (readP (flatF t)) = r :: t
  rw [ih (fun x hx => h x (by simp [hx]))]
def Stk.norm (x : Stk) : Stk := { x with ts := x.ts.map (normU x.sh) }
def normS (S : List Stk) : List Stk := S.map Stk.norm
def Plays (rs : List ByteArray) (st st' : List Stk × List LsV) : Prop := ∀ rest, replayS (rs ++ rest) st = replayS rest st'
theorem Plays.nil (st : List Stk × List LsV) : Plays [] st st := fun _ => rfl
theorem Plays.trans {a b : List ByteArray} {x y z : List Stk × List LsV} (h : Plays a x y) (k : Plays b y z) : Plays (a ++ b) x z := fun rest => by rw [List.append_assoc, h, k]
theorem Plays.one {r : ByteArray} {x y : List Stk × List LsV} {c : Chg} (h : changeP r.data.toList = some c) (k : applyS x.1 x.2 c = some y) : Plays [r] x y := fun rest => by
 simp only [List.cons_append, List.nil_append, replayS, h, k]
theorem Plays.all {a : List ByteArray} {x y : List Stk × List LsV} (h : Plays a x y) : replayS a x = y := by
 have := h []
 rw [List.append_nil] at this
 rw [this]
 rfl
theorem is_iff {x : Stk} {kd m k n : Int} : x.is kd m k n = true ↔ (x.kd : Int) = kd /\ (x.m : Int) = m /\ (x.k : Int) = k /\ (x.n : Int) = n := by simp [Stk.is]
def Stk.lent (x : Stk) (c : Nat) : Stk := { x with leased := c }
def lentS (S : List Stk) (ls : List LsV) : List Stk := S.map fun x => x.norm.lent (sumK x.kd x.m x.k x.n ls).toNat
theorem plays_stocks {S : List Stk} {ls : List LsV} (hI : InvK S ls) : ∀ j, j <= S.length -> Plays ((S.take j).map stkRec) ([], []) (lentS (S.take j) [], []) := by
 intro j
 induction j with
 | zero => intro _; exact Plays.nil _
 | succ j ih =>
  intro hj
  have hjl : j < S.length := by omega
  rw [List.take_succ_eq_append_getElem hjl, List.map_append]
  refine (ih (by omega)).trans (Plays.one (c := .making S[j].kd S[j].m S[j].k S[j].n (S[j].ts.map (normU S[j].sh))) ?_ ?_)
  ·have hc := hI.cls _ (List.getElem_mem hjl)
   have hm := hI.made _ (List.getElem_mem hjl)
   have hok := hI.ok _ (List.getElem_mem hjl)
   exact changeP_make hc (fun h => by rw [h] at hm; simp at hm) hok
  ·have hm := hI.made _ (List.getElem_mem hjl)
   have hno : ∀ x ∈ lentS (S.take j) [], x.is S[j].kd S[j].m S[j].k S[j].n = false := by
    intro x hx
    obtain ⟨y, hy, rfl⟩ := List.mem_map.1 hx
    obtain ⟨i, hi, rfl⟩ := List.getElem_of_mem hy
    rw [List.length_take] at hi
    cases hq : ((S.take j)[i].norm.lent _).is S[j].kd S[j].m S[j].k S[j].n with
    | false => rfl
    | true =>
     have := hI.uniq i j (by omega) hjl (by rw [List.getElem_take] at hq; exact hq)
     omega
   have hidx := findIdx_no hno
   have hst := hI.stocks
   have hlen : (lentS (S.take j) []).length = j := by simp [lentS]; omega
   simp only [applyS]
   have hcode : makeCode (lentS (S.take j) []) S[j].kd S[j].m S[j].k S[j].n (S[j].ts.map (normU S[j].sh)).length = 0 := by
    unfold makeCode
    rw [find_none_idx hidx]
    simp only [List.length_map]
    rw [if_neg (by omega)]
   rw [if_pos hcode]
   unfold makeS
   rw [hidx]
   simp only [lentS, List.map_append, List.map_cons, List.map_nil]
   rfl
def LsV.held (l : LsV) : LsV := { l with r := false }
theorem sumK_nonneg' {kd m k n : Int} {ls : List LsV} (h : ∀ l ∈ ls, 0 <= l.c) : 0 <= sumK kd m k n ls := by
 induction ls with
 | nil => simp [sumK]
 | cons l t ih =>
  have h1 := h l (by simp)
  have h2 := ih (fun x hx => h x (by simp [hx]))
  simp only [sumK]
  split <;> omega
theorem lentS_at {S : List Stk} {ls : List LsV} (i : Nat) (hi : i < S.length) : (lentS S ls)[i]'(by simp [lentS]; exact hi) = S[i].norm.lent (sumK S[i].kd S[i].m S[i].k S[i].n ls).toNat := by simp [lentS]
theorem plays_leases {S : List Stk} {ls : List LsV} (hI : InvK S ls) : ∀ j, j <= ls.length -> Plays ((ls.take j).map lsRec) (lentS S [], []) (lentS S (ls.take j), (ls.take j).map LsV.held) := by
 intro j
 induction j with
 | zero => intro _; exact Plays.nil _
 | succ j ih =>
  intro hj
  have hjl : j < ls.length := by omega
  have hlok := hI.lok _ (List.getElem_mem hjl)
  have hcnt := hI.cnt _ (List.getElem_mem hjl)
  have hnn := hI.nonneg
  obtain ⟨x, hx⟩ := hI.has _ (List.getElem_mem hjl)
  obtain ⟨ix, hix, hxe⟩ := List.getElem_of_mem (List.mem_of_find?_eq_some hx)
  have hxi : x.is ls[j].kd ls[j].m ls[j].k ls[j].n = true := by simpa using List.find?_some hx
  obtain ⟨e1, e2, e3, e4⟩ := is_iff.1 hxi
  obtain ⟨p1, p2, p3, p4, p5, p6, p7⟩ := hlok
  have hsame : sameC ls[j] x.kd x.m x.k x.n = true := sameC_iff.2 ⟨e1.symm, e2.symm, e3.symm, e4.symm⟩
  have hsum := sumK_take hnn j hjl hsame
  have hsx := hI.sum ix hix
  rw [hxe] at hsx
  have hmx := hI.made x (List.mem_of_find?_eq_some hx)
  have hs0 : 0 <= sumK x.kd x.m x.k x.n (ls.take j) := sumK_nonneg' (fun l hl => hnn l (List.mem_of_mem_take hl))
  have hseq := hI.seq j hjl
  rw [<- e1, <- e2, <- e3, <- e4] at hseq
  rw [List.take_succ_eq_append_getElem hjl, List.map_append, <- List.take_succ_eq_append_getElem hjl]
  refine (ih (by omega)).trans (Plays.one (c := .leasing ls[j].s.toNat ls[j].i.toNat ls[j].kd.toNat ls[j].m.toNat ls[j].k.toNat ls[j].n.toNat ls[j].c.toNat) ?_ ?_)
  ·exact changeP_lease (by omega) (by omega) (by omega) (by omega) (by omega) (by omega) (by omega)
  ·have c1 : ((ls[j].s.toNat : Nat) : Int) = ls[j].s := by omega
   have c2 : ((ls[j].i.toNat : Nat) : Int) = ls[j].i := by omega
   have c3 : ((ls[j].kd.toNat : Nat) : Int) = ls[j].kd := by omega
   have c4 : ((ls[j].m.toNat : Nat) : Int) = ls[j].m := by omega
   have c5 : ((ls[j].k.toNat : Nat) : Int) = ls[j].k := by omega
   have c6 : ((ls[j].n.toNat : Nat) : Int) = ls[j].n := by omega
   have c7 : ((ls[j].c.toNat : Nat) : Int) = ls[j].c := by omega
   simp only [applyS, c1, c2, c3, c4, c5, c6, c7]
   have hnon : ((ls.take j).map LsV.held).findIdx? (isNamed ls[j].s ls[j].i) = none := findIdx_no (by
    intro l hl
    obtain ⟨y, hy, rfl⟩ := List.mem_map.1 hl
    obtain ⟨i, hi, rfl⟩ := List.getElem_of_mem hy
    rw [List.length_take] at hi
    cases hq : isNamed ls[j].s ls[j].i ((ls.take j)[i].held) with
    | false => rfl
    | true =>
     rw [List.getElem_take] at hq
     have hq' : ls[i].s = ls[j].s /\ ls[i].i = ls[j].i := by simpa [isNamed, LsV.held] using hq
     have := hI.names i j (by omega) hjl hq'.1 hq'.2
     omega)
   have hixl : ix < (lentS S (ls.take j)).length := by simp [lentS]; exact hix
   have hat : (lentS S (ls.take j))[ix] = x.norm.lent (sumK x.kd x.m x.k x.n (ls.take j)).toNat := by rw [lentS_at ix hix, hxe]
   have hidx : (lentS S (ls.take j)).findIdx? (fun x => x.is ls[j].kd ls[j].m ls[j].k ls[j].n) = some ix := by
    refine findIdx_at hixl (fun y hy => ?_) ?_
    ·obtain ⟨i, hi, rfl⟩ := List.getElem_of_mem hy
     rw [List.length_take] at hi
     rw [List.getElem_take, lentS_at i (by omega)]
     cases hq : (S[i].norm.lent (sumK S[i].kd S[i].m S[i].k S[i].n (ls.take j)).toNat).is ls[j].kd ls[j].m ls[j].k ls[j].n with
     | false => rfl
     | true =>
      rw [<- e1, <- e2, <- e3, <- e4] at hq
      have := hI.uniq i ix (by omega) hix (by rw [hxe]; exact hq)
      omega
    ·rw [hat]; exact hxi
   obtain ⟨_, hfind⟩ := find_idx hidx
   rw [hat] at hfind
   have hcode : leaseCodeS (lentS S (ls.take j)) ((ls.take j).map LsV.held) ls[j].kd ls[j].m ls[j].k ls[j].n ls[j].c = 0 := by
    unfold leaseCodeS
    rw [hfind]
    have hl30 := hI.leases
    have ht : ((x.norm.lent (sumK x.kd x.m x.k x.n (ls.take j)).toNat).ts.length : Int) = x.ts.length := by simp [Stk.norm, Stk.lent]
    have hl : (((x.norm.lent (sumK x.kd x.m x.k x.n (ls.take j)).toNat).leased : Nat) : Int) = sumK x.kd x.m x.k x.n (ls.take j) := by simp [Stk.lent]; omega
    simp only [ht, hl, List.length_map, List.length_take]
    rw [if_neg (by omega), if_neg (by omega), if_neg (by omega)]
   have hat2 : leasedAt (lentS S (ls.take j)) ls[j].kd ls[j].m ls[j].k ls[j].n = ls[j].f := by
    unfold leasedAt
    rw [hfind, hseq]
    simp [Stk.lent]; omega
   rw [hnon, hcode, hat2]
   simp only [Option.isSome_none, Bool.false_eq_true, if_false, if_true]
   have hlend : lendS (lentS S (ls.take j)) ls[j].kd ls[j].m ls[j].k ls[j].n ls[j].c.toNat = lentS S (ls.take (j + 1)) := by
    unfold lendS
    rw [hidx]
    refine List.ext_getElem (by simp [lentS]) (fun i h1 h2 => ?_)
    have hi : i < S.length := by simpa [lentS] using h2
    rw [List.getElem_modify, lentS_at i hi, lentS_at i hi, sumK_snoc j hjl]
    by_cases hq : ix = i
    ·subst hq
     rw [if_pos rfl, hxe, if_pos hsame]
     simp only [Stk.lend, Stk.lent]
     congr 1
     omega
    ·rw [if_neg hq]
     have : sameC ls[j] S[i].kd S[i].m S[i].k S[i].n = false := by
      cases hs : sameC ls[j] S[i].kd S[i].m S[i].k S[i].n with
      | false => rfl
      | true =>
       obtain ⟨q1, q2, q3, q4⟩ := sameC_iff.1 hs
       exact absurd (hI.uniq ix i hix hi (by rw [hxe]; exact is_iff.2 ⟨by omega, by omega, by omega, by omega⟩)) hq
     rw [this]
     simp
   rw [hlend, List.take_succ_eq_append_getElem hjl, List.map_append]
   simp [LsV.held, hseq]
def freedL (ls : List LsV) (j : Nat) : List LsV := ls.take j ++ (ls.drop j).map LsV.held
theorem freedL_at {ls : List LsV} {j i : Nat} (hi : i < ls.length) : (freedL ls j)[i]'(by simp [freedL]; omega) = if i < j then ls[i] else ls[i].held := by
 unfold freedL
 by_cases h : i < j
 ·rw [if_pos h, List.getElem_append_left (by simp; omega), List.getElem_take]
 ·rw [if_neg h, List.getElem_append_right (by simp; omega)]
  simp only [List.length_take, List.getElem_map, List.getElem_drop]
  congr 2
  omega
theorem len_freedL (ls : List LsV) (j : Nat) : (freedL ls j).length = ls.length := by simp [freedL]; omega
theorem plays_frees {S : List Stk} {ls : List LsV} (S' : List Stk) (hI : InvK S ls) : ∀ j, j <= ls.length -> Plays (((ls.take j).filter (·.r)).map frRec) (S', freedL ls 0) (S', freedL ls j) := by
 intro j
 induction j with
 | zero => intro _; exact Plays.nil _
 | succ j ih =>
  intro hj
  have hjl : j < ls.length := by omega
  rw [List.take_succ_eq_append_getElem hjl, List.filter_append, List.map_append]
  refine (ih (by omega)).trans ?_
  cases hr : ls[j].r with
  | false =>
   have e : freedL ls (j + 1) = freedL ls j := by
    refine List.ext_getElem (by simp [len_freedL]) (fun i h1 h2 => ?_)
    rw [len_freedL] at h1
    rw [freedL_at h1, freedL_at h1]
    by_cases h : i < j
    ·rw [if_pos h, if_pos (by omega)]
    ·rw [if_neg h]
     by_cases h' : i = j
     ·subst h'
      rw [if_pos (by omega)]
      unfold LsV.held
      rw [<- hr]
     ·rw [if_neg (by omega)]
   rw [e]
   simp [hr]
   exact Plays.nil _
  | true =>
   have hlok := hI.lok _ (List.getElem_mem hjl)
   obtain ⟨p1, p2, _⟩ := hlok
   simp only [List.filter_cons, hr, if_true, List.filter_nil, List.map_cons, List.map_nil]
   refine Plays.one (c := .releasing ls[j].s.toNat ls[j].i.toNat) (changeP_release (by omega) (by omega)) ?_
   have c1 : ((ls[j].s.toNat : Nat) : Int) = ls[j].s := by omega
   have c2 : ((ls[j].i.toNat : Nat) : Int) = ls[j].i := by omega
   simp only [applyS, c1, c2]
   have hjf : j < (freedL ls j).length := by rw [len_freedL]; exact hjl
   have hat : (freedL ls j)[j] = ls[j].held := by rw [freedL_at hjl, if_neg (by omega)]
   have hidx : (freedL ls j).findIdx? (isNamed ls[j].s ls[j].i) = some j := by
    refine findIdx_at hjf (fun y hy => ?_) ?_
    ·obtain ⟨i, hi, rfl⟩ := List.getElem_of_mem hy
     rw [List.length_take, len_freedL] at hi
     rw [List.getElem_take, freedL_at (by omega), if_pos (by omega)]
     cases hq : isNamed ls[j].s ls[j].i ls[i] with
     | false => rfl
     | true =>
      have hq' : ls[i].s = ls[j].s /\ ls[i].i = ls[j].i := by simpa [isNamed] using hq
      have := hI.names i j (by omega) hjl hq'.1 hq'.2
      omega
    ·rw [hat]; simp [isNamed, LsV.held]
   obtain ⟨_, hfind⟩ := find_idx hidx
   rw [hat] at hfind
   have hcode : releaseCode (freedL ls j) ls[j].s ls[j].i = 0 := by
    unfold releaseCode
    rw [hfind]
    simp [LsV.held]
   rw [if_pos hcode]
   unfold freeS
   rw [hidx]
   simp only
   congr 2
   refine List.ext_getElem (by simp [len_freedL]) (fun i h1 h2 => ?_)
   rw [len_freedL] at h2
   rw [List.getElem_modify, freedL_at h2, freedL_at h2]
   by_cases h : j = i
   ·subst h
    rw [if_pos rfl, if_neg (by omega), if_pos (by omega)]
    unfold LsV.held LsV.free
    simp only
    rw [<- hr]
   ·rw [if_neg h]
    by_cases h' : i < j
    ·rw [if_pos h', if_pos (by omega)]
    ·rw [if_neg h', if_neg (by omega)]
theorem plays_recs {S : List Stk} {ls : List LsV} (hI : InvK S ls) : Plays (recsP S ls) ([], []) (normS S, ls) := by
 have h1 := plays_stocks hI S.length (Nat.le_refl _)
 have h2 := plays_leases hI ls.length (Nat.le_refl _)
 have h3 := plays_frees (lentS S ls) hI ls.length (Nat.le_refl _)
 rw [List.take_length] at h1 h2 h3
 have e0 : freedL ls 0 = ls.map LsV.held := by simp [freedL]
 have e1 : freedL ls ls.length = ls := by simp [freedL]
 have e2 : lentS S ls = normS S := by
  refine List.ext_getElem (by simp [lentS, normS]) (fun i hi h2 => ?_)
  have hi : i < S.length := by simpa [normS] using h2
  rw [lentS_at i hi]
  simp only [normS, List.getElem_map]
  have := hI.sum i hi
  unfold Stk.lent Stk.norm
  simp only
  congr 1
  omega
 rw [e0, e1] at h3
 rw [<- e2]
 exact (h1.trans h2).trans h3
end
-- VDp
section
open Go.RowKit Go.Maps
abbrev FileV := ByteArray × ByteArray
def atK (fs : List FileV) (a : ByteArray) : Nat -> Int
 | 0 => -1
 | k + 1 => if (fs.getD k (sNone, sNone)).1 = a then (k : Int) else atK fs a k
def dropN (fs : List FileV) (a : ByteArray) : List FileV := fs.filter fun f => !decide (f.1 = a)
def putF (o : OpV) (f : FileV) : FileV := (f.1, if o.k = 0 then o.c else f.2 ++ o.c)
def opS (fs : List FileV) (o : OpV) : List FileV :=
 if o.k = 0 \/ o.k = 1 then
  if atK fs o.a fs.length < 0 then fs ++ [(o.a, o.c)] else fs.modify (atK fs o.a fs.length).toNat (putF o)
 else if o.k = 3 then
  if 0 <= atK fs o.a fs.length /\ o.a ≠ o.b then dropN (dropN fs o.a) o.b ++ [(o.b, (fs.getD (atK fs o.a fs.length).toNat (sNone, sNone)).2)] else fs
 else if o.k = 5 then dropN fs o.a
 else fs
def doneS (fs : List FileV) (ops : List OpV) : List FileV := ops.foldl opS fs
theorem doneS_append (fs : List FileV) (a b : List OpV) : doneS fs (a ++ b) = doneS (doneS fs a) b := by simp [doneS]
theorem atK_range (fs : List FileV) (a : ByteArray) (k : Nat) : atK fs a k = -1 \/ 0 <= atK fs a k /\ atK fs a k < k /\ (fs.getD (atK fs a k).toNat (sNone, sNone)).1 = a := by
 induction k with
 | zero => exact .inl rfl
 | succ k ih =>
  unfold atK
  split
  ·rename_i h
   exact .inr ⟨by omega, by omega, by simpa using h⟩
  ·rcases ih with h | ⟨h1, h2, h3⟩
   ·exact .inl h
   ·exact .inr ⟨h1, by omega, h3⟩
theorem atK_names {fs gs : List FileV} (a : ByteArray) (k : Nat) (h : ∀ i, i < k -> (fs.getD i (sNone, sNone)).1 = (gs.getD i (sNone, sNone)).1) : atK fs a k = atK gs a k := by
 induction k with
 | zero => rfl
 | succ k ih =>
  unfold atK
  rw [h k (by omega), ih (fun i hi => h i (by omega))]
theorem modify_names (fs : List FileV) (o : OpV) (j i : Nat) : ((fs.modify j (putF o)).getD i (sNone, sNone)).1 = (fs.getD i (sNone, sNone)).1 := by
 simp only [List.getD_eq_getElem?_getD, List.getElem?_modify]
 cases fs[i]? with
 | none => rfl
 | some f =>
  show (if j = i then putF o f else f).1 = f.1
  split <;> rfl
theorem getD_modify {fs : List FileV} {o : OpV} {j : Nat} (h : j < fs.length) : (fs.modify j (putF o)).getD j (sNone, sNone) = putF o (fs.getD j (sNone, sNone)) := by
 simp only [List.getD_eq_getElem?_getD, List.getElem?_modify, List.getElem?_eq_getElem h, if_pos]
 rfl
theorem fileB_snoc (fs : List FileV) (f : FileV) : fileB (fs ++ [f]) = if f.1 = sFile then f.2 else fileB fs := by simp [fileB]
theorem fileB_at (fs : List FileV) : ∀ k, k <= fs.length -> fileB (fs.take k) = if atK fs sFile k < 0 then ⟨#[]⟩ else (fs.getD (atK fs sFile k).toNat (sNone, sNone)).2 := by
 intro k
 induction k with
 | zero => intro _; rfl
 | succ k ih =>
  intro hk
  have hkl : k < fs.length := by omega
  have e : fs.getD k (sNone, sNone) = fs[k] := by simp [List.getD_eq_getElem?_getD, List.getElem?_eq_getElem hkl]
  rw [List.take_succ_eq_append_getElem hkl, fileB_snoc, ih (by omega)]
  conv => rhs; unfold atK
  rw [e]
  by_cases h : fs[k].1 = sFile
  ·rw [if_pos h, if_pos h, if_neg (by omega)]
   simp [List.getD_eq_getElem?_getD, List.getElem?_eq_getElem hkl]
  ·rw [if_neg h, if_neg h]
theorem fileB_all (fs : List FileV) : fileB fs = if atK fs sFile fs.length < 0 then ⟨#[]⟩ else (fs.getD (atK fs sFile fs.length).toNat (sNone, sNone)).2 := by
 have := fileB_at fs fs.length (Nat.le_refl _)
 rw [List.take_length] at this
 exact this
theorem atK_snoc (fs : List FileV) (a c : ByteArray) : atK (fs ++ [(a, c)]) a (fs ++ [(a, c)]).length = fs.length := by
 rw [List.length_append, List.length_singleton]
 unfold atK
 rw [if_pos (by simp)]
theorem opS_write (fs : List FileV) (a b c : ByteArray) : 0 <= atK (opS fs ⟨0, a, b, c⟩) a (opS fs ⟨0, a, b, c⟩).length /\ ((opS fs ⟨0, a, b, c⟩).getD (atK (opS fs ⟨0, a, b, c⟩) a (opS fs ⟨0, a, b, c⟩).length).toNat (sNone, sNone)).2 = c := by
 have e : opS fs ⟨0, a, b, c⟩ = if atK fs a fs.length < 0 then fs ++ [(a, c)] else fs.modify (atK fs a fs.length).toNat (putF ⟨0, a, b, c⟩) := by unfold opS; rw [if_pos (.inl rfl)]
 rw [e]
 by_cases h : atK fs a fs.length < 0
 ·rw [if_pos h, atK_snoc]
  exact ⟨by omega, by simp⟩
 ·rw [if_neg h]
  have hn : atK (fs.modify (atK fs a fs.length).toNat (putF ⟨0, a, b, c⟩)) a (fs.modify (atK fs a fs.length).toNat (putF ⟨0, a, b, c⟩)).length = atK fs a fs.length := by
   rw [List.length_modify]
   exact atK_names a _ (fun i _ => modify_names fs _ _ i)
  rw [hn]
  have hr := atK_range fs a fs.length
  refine ⟨by omega, ?_⟩
  rw [getD_modify (by omega)]
  rfl
theorem fileB_new (fs : List FileV) (b : List UInt8) : fileB (doneS fs (opsNew b)) = ⟨b.toArray⟩ := by
 have hne : sDraft ≠ sFile := by decide
 obtain ⟨h1, h2⟩ := opS_write fs sDraft sNone ⟨b.toArray⟩
 have e : doneS fs (opsNew b) = dropN (dropN (opS fs ⟨0, sDraft, sNone, ⟨b.toArray⟩⟩) sDraft) sFile ++ [(sFile, ⟨b.toArray⟩)] := by
  have e1 : doneS fs (opsNew b) = opS (opS (opS (opS fs ⟨0, sDraft, sNone, ⟨b.toArray⟩⟩) ⟨2, sDraft, sNone, sNone⟩) ⟨3, sDraft, sFile, sNone⟩) ⟨4, sNone, sNone, sNone⟩ := rfl
  have e2 : ∀ gs : List FileV, opS gs ⟨2, sDraft, sNone, sNone⟩ = gs := fun gs => by simp [opS]
  have e4 : ∀ gs : List FileV, opS gs ⟨4, sNone, sNone, sNone⟩ = gs := fun gs => by simp [opS]
  rw [e1, e4, e2]
  generalize opS fs ⟨0, sDraft, sNone, ⟨b.toArray⟩⟩ = gs at *
  unfold opS
  rw [if_neg (by simp), if_pos rfl, if_pos ⟨h1, hne⟩]
  simp only [h2]
 rw [e, fileB_snoc, if_pos rfl]
theorem fileB_add (fs : List FileV) (b : List UInt8) : fileB (doneS fs (opsAdd b)) = fileB fs ++ ⟨b.toArray⟩ := by
 have e1 : doneS fs (opsAdd b) = opS fs ⟨1, sFile, sNone, ⟨b.toArray⟩⟩ := by
  show opS (opS fs ⟨1, sFile, sNone, ⟨b.toArray⟩⟩) ⟨2, sFile, sNone, sNone⟩ = _
  have e2 : ∀ gs : List FileV, opS gs ⟨2, sFile, sNone, sNone⟩ = gs := fun gs => by simp [opS]
  rw [e2]
 rw [e1]
 have e : opS fs ⟨1, sFile, sNone, ⟨b.toArray⟩⟩ = if atK fs sFile fs.length < 0 then fs ++ [(sFile, ⟨b.toArray⟩)] else fs.modify (atK fs sFile fs.length).toNat (putF ⟨1, sFile, sNone, ⟨b.toArray⟩⟩) := by unfold opS; rw [if_pos (.inr rfl)]
 rw [e]
 by_cases h : atK fs sFile fs.length < 0
 ·rw [if_pos h, fileB_snoc, if_pos rfl, fileB_all fs, if_pos h]
  exact (ByteArray.empty_append).symm
 ·rw [if_neg h, fileB_all, fileB_all fs, if_neg h]
  have hn : atK (fs.modify (atK fs sFile fs.length).toNat (putF ⟨1, sFile, sNone, ⟨b.toArray⟩⟩)) sFile (fs.modify (atK fs sFile fs.length).toNat (putF ⟨1, sFile, sNone, ⟨b.toArray⟩⟩)).length = atK fs sFile fs.length := by
   rw [List.length_modify]
   exact atK_names sFile _ (fun i _ => modify_names fs _ _ i)
  have hr := atK_range fs sFile fs.length
  rw [hn, if_neg h, getD_modify (by omega)]
  rfl
theorem flat_add (rs : List ByteArray) (r : ByteArray) : (⟨(flatF rs).toArray⟩ : ByteArray) ++ ⟨(frameB r.data.toList).toArray⟩ = ⟨(flatF (rs ++ [r])).toArray⟩ := by
 rw [flatF_snoc]
 apply ByteArray.ext
 simp [ByteArray.data_append]
def capO (M : Nat) (o : OpV) : Nat := if o.k = 1 then M + o.c.size else max M o.c.size
def capN (M : Nat) (ops : List OpV) : Nat := ops.foldl capO M
theorem capN_append (M : Nat) (a b : List OpV) : capN M (a ++ b) = capN (capN M a) b := by simp [capN]
theorem capO_le (M : Nat) (o : OpV) : M <= capO M o := by unfold capO; split <;> omega
theorem capN_le (M : Nat) (ops : List OpV) : M <= capN M ops := by
 induction ops generalizing M with
 | nil => exact Nat.le_refl _
 | cons o t ih => exact Nat.le_trans (capO_le M o) (ih (capO M o))
theorem opS_size {fs : List FileV} {M : Nat} (h : ∀ f ∈ fs, f.2.size <= M) (o : OpV) : ∀ f ∈ opS fs o, f.2.size <= capO M o := by
 have hM := capO_le M o
 have hat : ∀ i, (fs.getD i (sNone, sNone)).2.size <= M := fun i => by
  rw [List.getD_eq_getElem?_getD]
  cases hq : fs[i]? with
  | none => exact Nat.zero_le _
  | some f => exact h f (List.mem_of_getElem? hq)
 have hdrop : ∀ (gs : List FileV) a, (∀ f ∈ gs, f.2.size <= capO M o) -> ∀ f ∈ dropN gs a, f.2.size <= capO M o := fun gs a hg f hf => hg f (List.mem_filter.1 hf).1
 have h' : ∀ f ∈ fs, f.2.size <= capO M o := fun f hf => Nat.le_trans (h f hf) hM
 unfold opS
 split
 ·rename_i hk
  split
  ·intro f hf
   rcases List.mem_append.1 hf with hf | hf
   ·exact h' f hf
   ·simp at hf
    subst hf
    unfold capO
    split <;> simp <;> omega
  ·intro f hf
   obtain ⟨i, hi, rfl⟩ := List.getElem_of_mem hf
   rw [List.length_modify] at hi
   rw [List.getElem_modify]
   have := h _ (List.getElem_mem hi)
   split
   ·unfold putF capO
    simp only
    rcases hk with hk | hk
    ·rw [if_pos hk, if_neg (by omega)]; omega
    ·rw [if_neg (by omega), if_pos hk, ByteArray.size_append]; omega
   ·omega
 ·split
  ·split
   ·intro f hf
    rcases List.mem_append.1 hf with hf | hf
    ·exact hdrop _ _ (hdrop _ _ h') f hf
    ·simp at hf
     subst hf
     exact Nat.le_trans (hat _) hM
   ·exact h'
  ·split
   ·exact hdrop _ _ h'
   ·exact h'
theorem doneS_size {fs : List FileV} {M : Nat} (h : ∀ f ∈ fs, f.2.size <= M) (ops : List OpV) : ∀ f ∈ doneS fs ops, f.2.size <= capN M ops := by
 induction ops generalizing fs M with
 | nil => exact h
 | cons o t ih => exact ih (opS_size h o)
theorem dropN_len (fs : List FileV) (a : ByteArray) : (dropN fs a).length <= fs.length := List.length_filter_le _ _
theorem opS_len (fs : List FileV) (o : OpV) : (opS fs o).length <= fs.length + 1 := by
 unfold opS
 split
 ·split
  ·simp
  ·simp
 ·split
  ·split
   ·have h1 := dropN_len fs o.a
    have h2 := dropN_len (dropN fs o.a) o.b
    simp
    omega
   ·omega
  ·split
   ·have h1 := dropN_len fs o.a
    omega
   ·omega
theorem doneS_len (fs : List FileV) (ops : List OpV) : (doneS fs ops).length <= fs.length + ops.length := by
 induction ops generalizing fs with
 | nil => simp [doneS]
 | cons o t ih =>
  have h1 := opS_len fs o
  have h2 := ih (opS fs o)
  show (doneS (opS fs o) t).length <= _
  simp only [List.length_cons]
  omega
end
-- VOb
section
open Go.RowKit Go.Maps
theorem norm_idx (S : List Stk) (kd m k n : Int) : (normS S).findIdx? (fun x => x.is kd m k n) = S.findIdx? (fun x => x.is kd m k n) := by
 unfold normS
 rw [List.findIdx?_map]
 rfl
theorem norm_find (S : List Stk) (kd m k n : Int) : (normS S).find? (fun x => x.is kd m k n) = (S.find? (fun x => x.is kd m k n)).map Stk.norm := by
 unfold normS
 rw [List.find?_map]
 rfl
theorem norm_len (S : List Stk) : (normS S).length = S.length := by simp [normS]
theorem norm_makeCode (S : List Stk) (kd m k n : Int) (t : Nat) : makeCode (normS S) kd m k n t = makeCode S kd m k n t := by
 unfold makeCode
 rw [norm_find, norm_len]
 cases S.find? (fun x => x.is kd m k n) with
 | none => rfl
 | some x => simp [Stk.norm]
theorem norm_leaseCode (S : List Stk) (ls : List LsV) (kd m k n c : Int) : leaseCodeS (normS S) ls kd m k n c = leaseCodeS S ls kd m k n c := by
 unfold leaseCodeS
 rw [norm_find]
 cases S.find? (fun x => x.is kd m k n) with
 | none => rfl
 | some x => simp [Stk.norm]
theorem norm_leasedAt (S : List Stk) (kd m k n : Int) : leasedAt (normS S) kd m k n = leasedAt S kd m k n := by
 unfold leasedAt
 rw [norm_find]
 cases S.find? (fun x => x.is kd m k n) with
 | none => rfl
 | some x => rfl
theorem norm_at (S : List Stk) (i : Nat) (h : i < S.length) : (normS S)[i]'(by rw [norm_len]; exact h) = S[i].norm := by simp [normS]
theorem norm_makeS (S : List Stk) (kd m k n : Nat) (us : List (List Int × Bool)) : makeS (normS S) kd m k n (us.map (normU (shOf kd m k n))) = normS (makeS S kd m k n us) := by
 unfold makeS
 rw [norm_idx]
 cases hq : S.findIdx? (fun x => x.is kd m k n) with
 | none =>
  simp only [normS, List.map_append, List.map_cons, List.map_nil]
  rfl
 | some ix =>
  obtain ⟨hix, hf⟩ := find_idx hq
  simp only
  refine List.ext_getElem (by simp [norm_len]) (fun i h1 h2 => ?_)
  have hi : i < S.length := by simpa [norm_len] using h2
  rw [List.getElem_modify, norm_at S i hi]
  rw [norm_at _ i (by simpa using hi), List.getElem_modify]
  by_cases he : ix = i
  ·subst he
   rw [if_pos rfl, if_pos rfl]
   have hx : S[ix].is kd m k n = true := by simpa using List.find?_some hf
   obtain ⟨e1, e2, e3, e4⟩ := is_iff.1 hx
   have hs : S[ix].sh = shOf kd m k n := by unfold Stk.sh; rw [show S[ix].kd = kd by omega, show S[ix].m = m by omega, show S[ix].k = k by omega, show S[ix].n = n by omega]
   unfold Stk.norm Stk.more
   simp only [List.map_append]
   rw [<- hs]
   rfl
  ·rw [if_neg he, if_neg he]
theorem norm_lendS (S : List Stk) (kd m k n : Int) (c : Nat) : lendS (normS S) kd m k n c = normS (lendS S kd m k n c) := by
 unfold lendS
 rw [norm_idx]
 cases hq : S.findIdx? (fun x => x.is kd m k n) with
 | none => rfl
 | some ix =>
  simp only
  refine List.ext_getElem (by simp [norm_len]) (fun i h1 h2 => ?_)
  have hi : i < S.length := by simpa [norm_len] using h2
  rw [List.getElem_modify, norm_at S i hi, norm_at _ i (by simpa using hi), List.getElem_modify]
  by_cases he : ix = i
  ·rw [if_pos he, if_pos he]; rfl
  ·rw [if_neg he, if_neg he]
def Backs (d : DS) (fs : List FileV) : Prop := d.kn = true -> ∃ rs, (∀ r ∈ rs, r.size <= 100000) /\ fileB (doneS fs d.ops) = ⟨(flatF rs).toArray⟩ /\ Plays rs ([], []) (normS d.S, d.ls)
theorem did_whole {fl : Bool} {ah : Int} {l : List OpV} (h : diskOk fl ah l.length = true) : didOps fl ah l = l := by
 unfold didOps diskN
 unfold diskOk at h
 rw [if_neg (by
  rintro ⟨h1, h2⟩
  rw [h1] at h
  simp at h
  omega), List.take_length]
theorem backs_add {d : DS} {fs : List FileV} {rec : ByteArray} {c : Chg} {S' : List Stk} {ls' : List LsV} (h : Backs d fs) (hI : InvK d.S d.ls) (hr : rec.size <= 100000) (hc : changeP rec.data.toList = some c) (ha : applyS (normS d.S) d.ls c = some (normS S', ls')) : Backs (d.add rec S' ls') fs := by
 intro hk
 have hok : d.ok rec = true := hk
 have hall := did_whole hok
 unfold DS.add
 simp only [hok, if_true]
 rw [hall, doneS_append]
 cases hkn : d.kn with
 | true =>
  obtain ⟨rs, h1, h2, h3⟩ := h hkn
  refine ⟨rs ++ [rec], fun r hm => ?_, ?_, h3.trans (Plays.one hc ha)⟩
  ·rcases List.mem_append.1 hm with hm | hm
   ·exact h1 r hm
   ·simp at hm; subst hm; exact hr
  ·unfold addOps
   rw [if_pos rfl, fileB_add, h2, flat_add]
 | false =>
  refine ⟨recsP d.S d.ls ++ [rec], fun r hm => ?_, ?_, (plays_recs hI).trans (Plays.one hc ha)⟩
  ·rcases List.mem_append.1 hm with hm | hm
   ·exact recs_size (fun x hx => hI.stkOk hx) r hm
   ·simp at hm; subst hm; exact hr
  ·unfold addOps
   rw [if_neg (by simp), fileB_new]
theorem backs_failAt {d : DS} {fs : List FileV} (h : Backs d fs) (n : Int) : Backs (d.failAt n) fs := h
theorem backs_opened (fs : List FileV) : Backs DS.opened fs := fun h => by cases h
theorem backs_restart (fb : ByteArray) (fs : List FileV) : Backs (DS.restart fb) fs := fun _ =>
 ⟨recsP (DS.restart fb).S (DS.restart fb).ls, recs_size (fun x hx => (restart_good fb).inv.toInvK.stkOk hx), fileB_new _ _, plays_recs (restart_good fb).inv.toInvK⟩
theorem backs_compact {d : DS} {fs : List FileV} (h : Backs d fs) (hg : d.Good) : Backs d.compact.2 fs := by
 unfold DS.compact
 split
 ·exact h
 ·intro hk
  have hok : diskOk d.fl d.ah 4 = true := hk
  have hc := hg.inv.compact
  have hl : (opsNew (flatF (recsP (compactS d.S d.ls) d.ls))).length = 4 := rfl
  have hall : didOps d.fl d.ah (opsNew (flatF (recsP (compactS d.S d.ls) d.ls))) = _ := did_whole (by rw [hl]; exact hok)
  simp only [hok, if_true]
  rw [hall, doneS_append]
  exact ⟨recsP (compactS d.S d.ls) d.ls, recs_size (fun x hx => hc.toInvK.stkOk hx), fileB_new _ _, plays_recs hc.toInvK⟩
theorem len_fillU (kd m k n : Int) (D : List Int) : (fillU kd m k n D).length = D.length / drawsN kd m k n := by simp [fillU, keptU, chunks]
theorem isCls_nats {kd m k n : Int} (h : isCls kd m k n = true) : isCls (kd.toNat : Nat) (m.toNat : Nat) (k.toNat : Nat) (n.toNat : Nat) = true /\ ((kd.toNat : Nat) : Int) = kd /\ ((m.toNat : Nat) : Int) = m /\ ((k.toNat : Nat) : Int) = k /\ ((n.toNat : Nat) : Int) = n := by
 obtain ⟨p1, p2, p3, p4⟩ := cls_nat h
 have e1 : ((kd.toNat : Nat) : Int) = kd := by omega
 have e2 : ((m.toNat : Nat) : Int) = m := by omega
 have e3 : ((k.toNat : Nat) : Int) = k := by omega
 have e4 : ((n.toNat : Nat) : Int) = n := by omega
 refine ⟨?_, e1, e2, e3, e4⟩
 rw [e1, e2, e3, e4]
 exact h
theorem fill_parts {d : DS} {kd m k n : Int} {D : List Int} (hg : d.Good) (hu : inU64 D) (hc : fillCode d.S kd m k n D = 0) :
  isCls (kd.toNat : Nat) (m.toNat : Nat) (k.toNat : Nat) (n.toNat : Nat) = true /\ fillU kd m k n D ≠ [] /\ (fillU kd m k n D).length <= 12 /\ (∀ u ∈ fillU kd m k n D, OkT (shOf kd.toNat m.toNat k.toNat n.toNat) u) /\ makeCode d.S (kd.toNat : Nat) (m.toNat : Nat) (k.toNat : Nat) (n.toNat : Nat) (fillU kd m k n D).length = 0 := by
 have hinv := fill_inv hg hu hc
 unfold fillCode at hc
 split at hc
 ·rename_i hcls
  obtain ⟨hN, e1, e2, e3, e4⟩ := isCls_nats hcls
  split at hc
  ·simp at hc
  ·rename_i hno
   have hl := len_fillU kd m k n D
   refine ⟨hN, fun h => ?_, by omega, fun u hmu => ?_, ?_⟩
   ·rw [h] at hl; simp at hl; omega
   ·have hix : ∃ x ∈ makeS d.S kd.toNat m.toNat k.toNat n.toNat (fillU kd m k n D), x.sh = shOf kd.toNat m.toNat k.toNat n.toNat /\ u ∈ x.ts := by
     unfold makeS
     cases hq : d.S.findIdx? (fun x => x.is kd.toNat m.toNat k.toNat n.toNat) with
     | none => exact ⟨_, List.mem_append_right _ (List.mem_singleton.2 rfl), rfl, hmu⟩
     | some ix =>
      obtain ⟨hix, hf⟩ := find_idx hq
      have hx : d.S[ix].is kd.toNat m.toNat k.toNat n.toNat = true := by simpa using List.find?_some hf
      obtain ⟨q1, q2, q3, q4⟩ := is_iff.1 hx
      refine ⟨d.S[ix].more (fillU kd m k n D), ?_, ?_, List.mem_append_right _ hmu⟩
      ·have : (d.S.modify ix (fun x => x.more (fillU kd m k n D)))[ix]'(by simpa using hix) = d.S[ix].more (fillU kd m k n D) := by rw [List.getElem_modify, if_pos rfl]
       simp only
       rw [<- this]
       exact List.getElem_mem _
      ·show shOf d.S[ix].kd d.S[ix].m d.S[ix].k d.S[ix].n = _
       rw [show d.S[ix].kd = kd.toNat by omega, show d.S[ix].m = m.toNat by omega, show d.S[ix].k = k.toNat by omega, show d.S[ix].n = n.toNat by omega]
    obtain ⟨x, hx, hs, hux⟩ := hix
    have := hinv.ok x hx u hux
    rw [hs] at this
    exact this
   ·rw [hl, e1, e2, e3, e4]
    exact hc
 ·simp at hc
theorem fillRec_size {d : DS} {kd m k n : Int} {D : List Int} (hg : d.Good) (hu : inU64 D) (hc : fillCode d.S kd m k n D = 0) : (fillRec kd m k n D).size <= 6000 := by
 obtain ⟨h1, h2, h3, h4, h5⟩ := fill_parts hg hu hc
 have hle := Sh.le (shOf_of h1).2
 have ht := len_trisB (s := shOf kd.toNat m.toNat k.toNat n.toNat) (by omega) h4
 have hm := Nat.mul_le_mul_right 433 h3
 show (makeB kd.toNat m.toNat k.toNat n.toNat (shOf kd.toNat m.toNat k.toNat n.toNat) (fillU kd m k n D)).toArray.size <= 6000
 rw [List.size_toArray]
 unfold makeB
 rw [List.length_append]
 have hh : (headB kd.toNat m.toNat k.toNat n.toNat).length = 5 := rfl
 omega
theorem backs_refill {d : DS} {fs : List FileV} {kd m k n : Int} {D : List Int} (h : Backs d fs) (hg : d.Good) (hu : inU64 D) : Backs (d.refill kd m k n D).2 fs := by
 unfold DS.refill
 split
 ·rename_i hc
  obtain ⟨h1, h2, h3, h4, h5⟩ := fill_parts hg hu hc
  have hs := fillRec_size hg hu hc
  refine backs_add h hg.inv.toInvK (by omega) (c := .making kd.toNat m.toNat k.toNat n.toNat ((fillU kd m k n D).map (normU (shOf kd.toNat m.toNat k.toNat n.toNat)))) ?_ ?_
  ·exact changeP_make h1 h2 h4
  ·simp only [applyS]
   rw [norm_makeCode, List.length_map, if_pos h5, norm_makeS]
 ·exact h
theorem inB_nums {s i kd m k n f c p : Int} {z : Bool} (h : inB s i kd m k n f c p z = true) : (0 <= s /\ s <= 2147483647) /\ (0 <= i /\ i <= 2147483647) /\ (0 <= c /\ c <= 2147483647) /\ (0 <= kd /\ kd <= 255) /\ (0 <= m /\ m <= 255) /\ (0 <= k /\ k <= 255) /\ (0 <= n /\ n <= 255) /\ z = true := by
 simp only [inB, isNum, isByt, Bool.and_eq_true, decide_eq_true_eq] at h
 obtain ⟨h1, h2, h3, h4, h5, h6, h7, h8, h9, h10⟩ := h
 exact ⟨by omega, by omega, by omega, by omega, by omega, by omega, by omega, h10⟩
theorem lease_cast {s i kd m k n c : Int} (h1 : 0 <= s) (h2 : 0 <= i) (h3 : 0 <= kd) (h4 : 0 <= m) (h5 : 0 <= k) (h6 : 0 <= n) (h7 : 0 <= c) : ((s.toNat : Nat) : Int) = s /\ ((i.toNat : Nat) : Int) = i /\ ((kd.toNat : Nat) : Int) = kd /\ ((m.toNat : Nat) : Int) = m /\ ((k.toNat : Nat) : Int) = k /\ ((n.toNat : Nat) : Int) = n /\ ((c.toNat : Nat) : Int) = c := by omega
theorem leaseRec_len (s i kd m k n c : Nat) : (leaseRec s i kd m k n c).size <= 6000 := by
 show ([1] ++ flatB (leaseVals s i kd m k n c) leaseL).toArray.size <= 6000
 simp [flatB, leaseL, len_bytesOf]
theorem relRec_len (s i : Nat) : (relRec s i).size <= 6000 := by
 show ([3] ++ flatB (releaseVals s i) releaseL).toArray.size <= 6000
 simp [flatB, releaseL, len_bytesOf]
theorem recOf_size (kk s i kd m k n c : Int) : (recOf kk s i kd m k n c).size <= 6000 := by
 unfold recOf
 split
 ·exact leaseRec_len ..
 ·exact relRec_len ..
theorem find_of_idx_none {ls : List LsV} {p : LsV -> Bool} (h : ls.find? p = none) : ls.findIdx? p = none := by
 cases hq : ls.findIdx? p with
 | none => rfl
 | some i =>
  obtain ⟨hi, h2⟩ := find_idx hq
  rw [h] at h2
  cases h2
theorem backs_ask {d : DS} {fs : List FileV} (h : Backs d fs) (hg : d.Good) (kk s i kd m k n f c p : Int) : Backs (d.ask kk s i kd m k n f c p).2 fs := by
 unfold DS.ask
 have hsz : (recOf kk s i kd m k n c).size <= 100000 := by have := recOf_size kk s i kd m k n c; omega
 by_cases h1 : kk = 1
 ·subst h1
  unfold ansS
  rw [if_pos rfl]
  split
  ·rename_i hin
   obtain ⟨n1, n2, n3, n4, n5, n6, n7, _⟩ := inB_nums hin
   obtain ⟨e1, e2, e3, e4, e5, e6, e7⟩ := lease_cast n1.1 n2.1 n4.1 n5.1 n6.1 n7.1 n3.1
   split
   ·split
    ·exact h
    ·exact h
   ·rename_i hf
    split
    ·rename_i hcd
     refine backs_add h hg.inv.toInvK hsz (c := .leasing s.toNat i.toNat kd.toNat m.toNat k.toNat n.toNat c.toNat) (changeP_lease (by omega) (by omega) (by omega) (by omega) (by omega) (by omega) (by omega)) ?_
     simp only [applyS, e1, e2, e3, e4, e5, e6, e7]
     rw [find_of_idx_none hf, norm_leaseCode, hcd, norm_leasedAt, norm_lendS]
     rfl
    ·exact h
  ·exact h
 ·by_cases h3 : kk = 3
  ·subst h3
   unfold ansS
   rw [if_neg h1, if_neg (by decide), if_pos rfl]
   split
   ·rename_i hin
    obtain ⟨n1, n2, _⟩ := inB_nums hin
    split
    ·rename_i l hf
     split
     ·exact h
     ·rename_i hr
      refine backs_add h hg.inv.toInvK hsz (c := .releasing s.toNat i.toNat) (changeP_release (by omega) (by omega)) ?_
      have e1 : ((s.toNat : Nat) : Int) = s := by omega
      have e2 : ((i.toNat : Nat) : Int) = i := by omega
      simp only [applyS, e1, e2]
      have hcd : releaseCode d.ls s i = 0 := by unfold releaseCode; rw [hf]; simp only [if_neg hr]
      rw [if_pos hcd]
    ·exact h
   ·exact h
  ·unfold ansS
   rw [if_neg h1]
   by_cases h2 : kk = 2
   ·rw [if_pos h2]
    split
    ·split
     ·exact h
     ·split
      ·exact h
      ·split
       ·exact h
       ·split
        ·exact h
        ·exact h
    ·exact h
   ·rw [if_neg h2, if_neg h3]
    split
    ·split
     ·split
      ·exact h
      ·exact h
     ·exact h
    ·exact h
theorem cap_take (M : Nat) (l : List OpV) (q : Nat) : capN M (l.take q) <= capN M l := by
 conv => rhs; rw [<- List.take_append_drop q l, capN_append]
 exact capN_le _ _
theorem cap_new (M : Nat) (b : List UInt8) : capN M (opsNew b) <= max M b.length := by
 simp only [capN, opsNew, List.foldl_cons, List.foldl_nil, capO]
 have e1 : (⟨b.toArray⟩ : ByteArray).size = b.length := by show b.toArray.size = _; simp
 have e2 : sNone.size = 0 := rfl
 simp only [e1, e2]
 simp
theorem cap_opsAdd (M : Nat) (b : List UInt8) : capN M (opsAdd b) <= M + b.length := by
 simp only [capN, opsAdd, List.foldl_cons, List.foldl_nil, capO]
 have e1 : (⟨b.toArray⟩ : ByteArray).size = b.length := by show b.toArray.size = _; simp
 have e2 : sNone.size = 0 := rfl
 simp only [e1, e2]
 simp
theorem recs_count (S : List Stk) (ls : List LsV) : (recsP S ls).length <= S.length + 2 * ls.length := by
 have := List.length_filter_le (fun l : LsV => l.r) ls
 simp only [recsP, List.length_append, List.length_map]
 omega
theorem recs_flat {S : List Stk} {ls : List LsV} (hI : InvK S ls) : (flatF (recsP S ls)).length <= 7000000 := by
 have h1 := len_flatF (recsP S ls) (recs_size (fun x hx => hI.stkOk hx))
 have h2 := recs_count S ls
 have := hI.stocks
 have := hI.leases
 have h3 := Nat.mul_le_mul_right 100012 (show (recsP S ls).length <= 66 by omega)
 omega
theorem recs_flat1 {S : List Stk} {ls : List LsV} (hI : InvK S ls) {r : ByteArray} (hr : r.size <= 100000) : (flatF (recsP S ls ++ [r])).length <= 7000000 := by
 have h1 := len_flatF (recsP S ls ++ [r]) (fun x hx => by
  rcases List.mem_append.1 hx with hx | hx
  ·exact recs_size (fun x hx => hI.stkOk hx) x hx
  ·simp at hx; subst hx; exact hr)
 have h2 := recs_count S ls
 have := hI.stocks
 have := hI.leases
 rw [List.length_append, List.length_singleton] at h1
 have h3 := Nat.mul_le_mul_right 100012 (show (recsP S ls).length + 1 <= 67 by omega)
 omega
theorem cap_add {d : DS} {rec : ByteArray} {S' : List Stk} {ls' : List LsV} (M : Nat) (hI : InvK d.S d.ls) (hr : rec.size <= 6000) : capN M (d.add rec S' ls').ops <= max (capN M d.ops) 7000000 + 6012 := by
 unfold DS.add
 simp only
 rw [capN_append]
 refine Nat.le_trans (cap_take _ _ _) ?_
 unfold addOps
 have hl : rec.data.toList.length = rec.size := by simp
 split
 ·have := cap_opsAdd (capN M d.ops) (frameB rec.data.toList)
  rw [len_frameB] at this
  omega
 ·have := cap_new (capN M d.ops) (flatF (recsP d.S d.ls ++ [rec]))
  have := recs_flat1 hI (show rec.size <= 100000 by omega)
  omega
theorem cap_after {d : DS} {A : Ans} {rec : ByteArray} (M : Nat) (hI : InvK d.S d.ls) (hr : rec.size <= 6000) : capN M (d.after A rec).2.ops <= max (capN M d.ops) 7000000 + 6012 := by
 unfold DS.after
 split
 ·simp only; omega
 ·exact cap_add M hI hr
theorem cap_refill {d : DS} {kd m k n : Int} {D : List Int} (M : Nat) (hg : d.Good) (hu : inU64 D) : capN M (d.refill kd m k n D).2.ops <= max (capN M d.ops) 7000000 + 6012 := by
 unfold DS.refill
 split
 ·rename_i hc
  exact cap_add M hg.inv.toInvK (fillRec_size hg hu hc)
 ·simp only; omega
theorem cap_compact {d : DS} (M : Nat) (hg : d.Good) : capN M d.compact.2.ops <= max (capN M d.ops) 7000000 + 6012 := by
 unfold DS.compact
 split
 ·simp only; omega
 ·simp only
  rw [capN_append]
  refine Nat.le_trans (cap_take _ _ _) ?_
  have := cap_new (capN M d.ops) (flatF (recsP (compactS d.S d.ls) d.ls))
  have := recs_flat hg.inv.compact.toInvK
  omega
def Sz (d : DS) (fs : List FileV) (N : Nat) : Prop := ∃ M, (∀ f ∈ fs, f.2.size <= M) /\ capN M d.ops <= 7000000 + 6012 * N
theorem Sz.next {d d' : DS} {fs : List FileV} {N : Nat} (h : Sz d fs N) (k : ∀ M, capN M d'.ops <= max (capN M d.ops) 7000000 + 6012) : Sz d' fs (N + 1) := by
 obtain ⟨M, h1, h2⟩ := h
 refine ⟨M, h1, Nat.le_trans (k M) ?_⟩
 generalize capN M d.ops = X at *
 omega
theorem Sz.files {d : DS} {fs : List FileV} {N : Nat} (h : Sz d fs N) : ∀ f ∈ doneS fs d.ops, f.2.size <= 7000000 + 6012 * N := by
 obtain ⟨M, h1, h2⟩ := h
 intro f hf
 have := doneS_size h1 d.ops f hf
 omega
theorem Sz.restart {d : DS} {fs : List FileV} {N : Nat} (h : Sz d fs N) (fb : ByteArray) : Sz (DS.restart fb) (doneS fs d.ops) N := by
 obtain ⟨X, hX⟩ : ∃ X, X = 7000000 + 6012 * N := ⟨_, rfl⟩
 have h1 := cap_new X (flatF (recsP (DS.restart fb).S (DS.restart fb).ls))
 have h2 := recs_flat (restart_good fb).inv.toInvK
 have e : (DS.restart fb).ops = opsNew (flatF (recsP (DS.restart fb).S (DS.restart fb).ls)) := rfl
 rw [<- e] at h1
 exact ⟨X, by rw [hX]; exact h.files, by omega⟩
end
-- VOc
section
open Go.RowKit Go.Maps
theorem ask_good {d : DS} (hg : d.Good) (ho : d.ops.length <= 1000000) (kk s i kd m k n f c p : Int) : (d.ask kk s i kd m k n f c p).2.Good := by
 have hI := hg.inv
 have e : (d.S.map (fun x : Stk => (⟨0, 0, x.kd, x.m, x.k, x.n, x.ts, x.leased⟩ : StkR))).map StkR.abs = d.S := by
  rw [List.map_map]
  exact (List.map_congr_left (fun x _ => rfl)).trans (List.map_id _)
 rw [<- e] at hI
 have hx := ask_x hI ho kk s i kd m k n f c p
 rw [e] at hx
 unfold DS.ask
 exact hg.after hx.2.2
theorem covers_iff {kd m k n num : Int} {l : LsV} : covers kd m k n num l = true ↔ (l.kd = kd /\ l.m = m /\ l.k = k /\ l.n = n) /\ l.f <= num /\ num < l.f + l.c := by
 simp only [covers, Bool.and_eq_true, beq_iff_eq, decide_eq_true_eq]
theorem sound_norm {S : List Stk} {ls : List LsV} (hI : InvQ S ls) : soundS (normS S) ls = true := by
 refine List.all_eq_true.2 (fun y hy => ?_)
 obtain ⟨x, hx, rfl⟩ := List.mem_map.1 hy
 refine List.all_eq_true.2 (fun j hj => ?_)
 have hjl : j < x.ts.length := by simpa [Stk.norm] using hj
 unfold soundT
 have e : (x.norm.ts.getD j ([], false)).2 = x.ts[j].2 := by
  simp only [Stk.norm, List.getD_eq_getElem?_getD, List.getElem?_map, List.getElem?_eq_getElem hjl, Option.map_some, Option.getD_some, normU_2]
 rw [e]
 cases hk : x.ts[j].2 with
 | true => rfl
 | false =>
  obtain ⟨l, hl, h1, h2, h3, h4⟩ := hI.kept x hx j hjl hk
  obtain ⟨e1, e2, e3, e4⟩ := is_iff.1 h2
  have hcov : covers x.kd x.m x.k x.n j l = true := covers_iff.2 ⟨⟨e1.symm, e2.symm, e3.symm, e4.symm⟩, h3, h4⟩
  unfold coverR
  show (false || match ls.find? (covers x.kd x.m x.k x.n j) with | some l => l.r | none => false) = true
  rw [Bool.false_or]
  cases hf : ls.find? (covers x.kd x.m x.k x.n j) with
  | none => exact absurd hcov (by simpa using List.find?_eq_none.1 hf l hl)
  | some l' =>
   obtain ⟨⟨q1, q2, q3, q4⟩, q5, q6⟩ := covers_iff.1 (List.find?_some hf)
   have := same_lease hI hl (List.mem_of_find?_eq_some hf) ⟨by omega, by omega, by omega, by omega⟩ ⟨h3, h4⟩ ⟨q5, q6⟩
   rw [this]
   exact h1
theorem restart_backs {d : DS} {fs : List FileV} (h : Backs d fs) (hk : d.kn = true) (hg : d.Good) : (DS.restart (fileB (doneS fs d.ops))).S = normS d.S /\ (DS.restart (fileB (doneS fs d.ops))).ls = d.ls := by
 obtain ⟨rs, h1, h2, h3⟩ := h hk
 have hr : replayS (strL (readP (fileB (doneS fs d.ops)).data.toList)) ([], []) = (normS d.S, d.ls) := by
  rw [h2]
  show replayS (strL (readP (flatF rs).toArray.toList)) ([], []) = _
  rw [List.toList_toArray, readP_flat rs h1]
  exact h3.all
 unfold DS.restart restartS
 rw [hr]
 simp only [sound_norm hg.inv, if_true]
 exact ⟨trivial, trivial⟩
theorem fetched_norm {S : List Stk} {ls : List LsV} (hI : InvQ S ls) {ss kd m k n f c p : Int} {x : Stk} (hx : S.find? (fun x => x.is kd m k n) = some x) (hh : ∀ i : Nat, i < c.toNat -> heldP ls ss kd m k n (f + i) = true) (hf : 0 <= f) : fetched x.norm p f.toNat c.toNat = fetched x p f.toNat c.toNat := by
 have key : ∀ q, q <= c.toNat -> fetched x.norm p f.toNat q = fetched x p f.toNat q := by
  intro q
  induction q with
  | zero => intro _; rfl
  | succ q ih =>
   intro hq
   have e1 : ∀ y : Stk, fetched y p f.toNat (q + 1) = fetched y p f.toNat q ++ sharesW y p (f.toNat + q) := fun y => by simp [fetched, List.range_succ]
   rw [e1, e1, ih (by omega)]
   congr 1
   have h1 := hh q (by omega)
   rw [heldQ_eq hI] at h1
   have h2 := heldQ_in hI hx h1
   have hj : f.toNat + q < x.ts.length := by omega
   have h3 := heldQ_kept (j := f.toNat + q) hI hx hj (by rw [show ((f.toNat + q : Nat) : Int) = f + q by omega]; exact h1)
   have hok := hI.ok x (List.mem_of_find?_eq_some hx) _ (List.getElem_mem hj)
   obtain ⟨s0, s1⟩ := normU_sh hok h3
   unfold sharesW
   have e2 : x.norm.ts.getD (f.toNat + q) ([], false) = normU x.sh x.ts[f.toNat + q] := by
    simp only [Stk.norm, List.getD_eq_getElem?_getD, List.getElem?_map, List.getElem?_eq_getElem hj, Option.map_some, Option.getD_some]
   have e3 : x.ts.getD (f.toNat + q) ([], false) = x.ts[f.toNat + q] := by
    simp only [List.getD_eq_getElem?_getD, List.getElem?_eq_getElem hj, Option.getD_some]
   have e4 : x.norm.sh = x.sh := rfl
   rw [e2, e3, e4, s0, s1]
 exact key _ (Nat.le_refl _)
theorem ans_norm {S : List Stk} {ls : List LsV} (hI : InvQ S ls) (s i kd m k n f c p : Int) : ansS (normS S) ls 2 s i kd m k n f c p = ansS S ls 2 s i kd m k n f c p := by
 have e : ∀ T : List Stk, ansS T ls 2 s i kd m k n f c p = if inB s i kd m k n f c p (i == 0) = true then
   match T.find? (fun x => x.is kd m k n) with
   | none => .code 2
   | some x => if c < 1 \/ 40 < c then .code 5 else if 1 < p then .code 9 else if fetchCode ls s kd m k n f c p = 0 then ⟨0, f, c, fetched x p f.toNat c.toNat, none⟩ else .code 8
  else .code 1 := fun T => by
  unfold ansS
  rw [if_neg (by decide), if_pos rfl]
  rfl
 rw [e, e]
 split
 ·rename_i hin
  rw [norm_find]
  cases hx : S.find? (fun x => x.is kd m k n) with
  | none => rfl
  | some x =>
   simp only [Option.map_some]
   split
   ·rfl
   ·split
    ·rfl
    ·split
     ·rename_i h1 h2 hfc
      have hf : 0 <= f := by
       simp only [inB, isNum, isByt, Bool.and_eq_true, decide_eq_true_eq] at hin
       omega
      have hh : ∀ i : Nat, i < c.toNat -> heldP ls s kd m k n (f + i) = true := by
       unfold fetchCode at hfc
       split at hfc
       ·simp at hfc
       ·split at hfc
        ·simp at hfc
        ·split at hfc
         ·assumption
         ·simp at hfc
      rw [fetched_norm hI hx hh hf]
     ·rfl
 ·rfl
theorem fetch_again {d d2 : DS} (hg : d.Good) (h1 : d2.S = normS d.S) (h2 : d2.ls = d.ls) (s i kd m k n f c p : Int) : (d2.ask 2 s i kd m k n f c p).1 = (d.ask 2 s i kd m k n f c p).1 := by
 unfold DS.ask
 rw [h1, h2, ans_norm hg.inv]
 have hn : (ansS d.S d.ls 2 s i kd m k n f c p).next = none := by
  unfold ansS
  rw [if_neg (by decide), if_pos rfl]
  split
  ·split
   ·rfl
   ·split
    ·rfl
    ·split
     ·rfl
     ·split <;> rfl
  ·rfl
 unfold DS.after
 rw [hn]
def DS.settle (d : DS) : Bool × DS := match d.ls.find? (fun l => !l.r) with
 | some l => (true, ((d.failAt (-1)).ask 3 l.s l.i 0 0 0 0 0 0 0).2)
 | none => (((d.failAt (-1)).refill 0 1 1 1 (fillS [] 5)).1 == 0, ((d.failAt (-1)).refill 0 1 1 1 (fillS [] 5)).2)
theorem ok_free {d : DS} (h : d.fl = false) (rec : ByteArray) : d.ok rec = true := by unfold DS.ok diskOk; rw [h]; rfl
theorem ask_free {d : DS} (hg : d.Good) (hf : d.fl = false) {l : LsV} (hl : l ∈ d.ls) : d.ask 3 l.s l.i 0 0 0 0 0 0 0 = if l.r = true then (⟨8, 0, 0, []⟩, d) else (⟨0, l.f, l.c, []⟩, d.add (relRec l.s.toNat l.i.toNat) d.S (freeS d.ls l.s l.i)) := by
 obtain ⟨p1, p2, _⟩ := hg.inv.lok l hl
 have hin : inB l.s l.i 0 0 0 0 0 0 0 (((0 : Int) == 0 && ((0 : Int) == 0 && ((0 : Int) == 0 && (0 : Int) == 0))) && ((0 : Int) == 0 && ((0 : Int) == 0 && (0 : Int) == 0))) = true := by
  simp [inB, isNum, isByt]
  omega
 have hfind : d.ls.find? (isNamed l.s l.i) = some l := by
  cases hq : d.ls.find? (isNamed l.s l.i) with
  | none =>
   have := List.find?_eq_none.1 hq l hl
   simp [isNamed] at this
  | some l' =>
   obtain ⟨i, hi, rfl⟩ := List.getElem_of_mem hl
   obtain ⟨j, hj, hje⟩ := List.getElem_of_mem (List.mem_of_find?_eq_some hq)
   have hn := List.find?_some hq
   simp only [isNamed, Bool.and_eq_true, beq_iff_eq] at hn
   rw [<- hje] at hn ⊢
   have := hg.inv.names j i hj hi hn.1 hn.2
   subst this
   rfl
 unfold DS.ask ansS
 rw [if_neg (by decide), if_neg (by decide), if_pos rfl, if_pos hin, hfind]
 simp only
 cases hr : l.r with
 | true => rfl
 | false =>
  simp only [DS.after, Bool.false_eq_true, if_false]
  rw [ok_free hf]
  rfl
theorem settle_kn {d : DS} (hg : d.Good) (h : d.settle.1 = true) : d.settle.2.kn = true := by
 unfold DS.settle at h ⊢
 cases hq : d.ls.find? (fun l => !l.r) with
 | some l =>
  rw [hq] at h
  simp only
  have hl : l ∈ (d.failAt (-1)).ls := List.mem_of_find?_eq_some hq
  have hr : l.r = false := by simpa using List.find?_some hq
  rw [ask_free (failAt_good hg (by decide)) rfl hl, if_neg (by rw [hr]; simp)]
  exact ok_free (d := d.failAt (-1)) rfl (relRec l.s.toNat l.i.toNat)
 | none =>
  rw [hq] at h
  simp only at h ⊢
  unfold DS.refill at h ⊢
  split at h
  ·rename_i hc
   rw [if_pos hc]
   exact ok_free (d := d.failAt (-1)) rfl (fillRec 0 1 1 1 (fillS [] 5))
  ·rename_i hc
   simp at h
   exact absurd h hc
def stepR (d : DS) (fs : List FileV) (kd a b c n : Int) (D : List Int) : Rep × DS × List FileV :=
 if pickN kd 7 = 6 then
  (⟨0, 0, 0, []⟩, if d.settle.1 = true then (DS.restart (fileB (doneS fs d.settle.2.ops)), doneS fs d.settle.2.ops) else (d.settle.2, fs))
 else ((stepS d kd a b c n D).1, (stepS d kd a b c n D).2, fs)
structure RunOk (d : DS) (fs : List FileV) (N : Nat) : Prop where
 good : d.Good
 backs : Backs d fs
 sz : Sz d fs N
 len : fs.length + d.ops.length <= 8 * N
 ops : d.ops.length <= 4 * N + 4
theorem runOk_opened : RunOk DS.opened [] 0 where
 good := ⟨⟨⟨by simp [DS.opened], by simp [DS.opened], by simp [DS.opened], by simp [DS.opened], fun i j hi => by simp [DS.opened] at hi, by simp [DS.opened], by simp [DS.opened], by simp [DS.opened], by simp [DS.opened], fun i hi => by simp [DS.opened] at hi, fun i hi => by simp [DS.opened] at hi, fun i j hi => by simp [DS.opened] at hi⟩, by simp [DS.opened]⟩, fun h => by cases h⟩
 backs := backs_opened []
 sz := ⟨0, by simp, by simp [DS.opened, capN]⟩
 len := by simp [DS.opened]
 ops := by simp [DS.opened]
theorem fill5 : inU64 (fillS [] 5) := fillS_u64 [] (by decide)
theorem settle_ok {d : DS} {fs : List FileV} {N : Nat} (h : RunOk d fs N) (hN : N <= 200000) : d.settle.2.Good /\ Backs d.settle.2 fs /\ Sz d.settle.2 fs (N + 1) /\ (fs.length + d.settle.2.ops.length <= 8 * N + 4 /\ d.settle.2.ops.length <= 4 * N + 8) := by
 have hg := failAt_good h.good (n := -1) (by decide)
 have hb := backs_failAt h.backs (-1)
 have hs : Sz (d.failAt (-1)) fs N := h.sz
 have hl : fs.length + (d.failAt (-1)).ops.length <= 8 * N := h.len
 have hl2 : (d.failAt (-1)).ops.length <= 4 * N + 4 := h.ops
 have hops : (d.failAt (-1)).ops.length <= 1000000 := by omega
 unfold DS.settle
 split
 ·rename_i l _
  refine ⟨ask_good hg hops _ _ _ _ _ _ _ _ _ _, backs_ask hb hg _ _ _ _ _ _ _ _ _ _, hs.next (fun M => cap_after M hg.inv.toInvK (recOf_size _ _ _ _ _ _ _ _)), ?_⟩
  have := after_ops (ansS (d.failAt (-1)).S (d.failAt (-1)).ls 3 l.s l.i 0 0 0 0 0 0 0) (recOf 3 l.s l.i 0 0 0 0 0) hg.ah
  show fs.length + ((d.failAt (-1)).after _ _).2.ops.length <= _ /\ ((d.failAt (-1)).after _ _).2.ops.length <= _
  omega
 ·refine ⟨refill_good hg fill5, backs_refill hb hg fill5, hs.next (fun M => cap_refill M hg fill5), ?_⟩
  have := refill_ops (d := d.failAt (-1)) 0 1 1 1 (fillS [] 5) hg.ah
  simp only
  omega
theorem draws_small (a b : Int) : (1 + pickN b 4) * (shOf (clsK (pickN a 4)).1 (clsK (pickN a 4)).2.1 (clsK (pickN a 4)).2.2.1 (clsK (pickN a 4)).2.2.2).dr <= 400 := by
 have hcls := clsK_cls (pickN a 4)
 obtain ⟨hofc, hok⟩ := shOf_of hcls
 have hle := Sh.le hok
 have hdrs : (shOf (clsK (pickN a 4)).1 (clsK (pickN a 4)).2.1 (clsK (pickN a 4)).2.2.1 (clsK (pickN a 4)).2.2.2).dr <= 100 := by unfold Sh.dr; omega
 have lb := pickN_lt b (show 0 < 4 by decide)
 have := Nat.mul_le_mul (show 1 + pickN b 4 <= 4 by omega) hdrs
 omega
theorem stepS_run {d : DS} {fs : List FileV} {N : Nat} (h : RunOk d fs N) (hN : N <= 200000) (kd a b c n : Int) (D : List Int) : RunOk (stepS d kd a b c n D).2 fs (N + 1) := by
 have hl := stepS_ops (d := d) kd a b c n D h.good.ah
 have hlen := h.len
 have hlo := h.ops
 have hops : d.ops.length <= 1000000 := by omega
 suffices hm : (stepS d kd a b c n D).2.Good /\ Backs (stepS d kd a b c n D).2 fs /\ Sz (stepS d kd a b c n D).2 fs (N + 1) from ⟨hm.1, hm.2.1, hm.2.2, by omega, by omega⟩
 have hask : ∀ kk s i kd m k n f c p : Int, (d.ask kk s i kd m k n f c p).2.Good /\ Backs (d.ask kk s i kd m k n f c p).2 fs /\ Sz (d.ask kk s i kd m k n f c p).2 fs (N + 1) := fun kk s i kd m k n f c p =>
  ⟨ask_good h.good hops _ _ _ _ _ _ _ _ _ _, backs_ask h.backs h.good _ _ _ _ _ _ _ _ _ _, h.sz.next (fun M => cap_after M h.good.inv.toInvK (recOf_size _ _ _ _ _ _ _ _))⟩
 unfold stepS
 simp only
 split
 ·have hu := fillS_u64 D (Nat.le_trans (draws_small a b) (by decide))
  exact ⟨refill_good h.good hu, backs_refill h.backs h.good hu, h.sz.next (fun M => cap_refill M h.good hu)⟩
 ·exact hask _ _ _ _ _ _ _ _ _ _
 ·exact hask _ _ _ _ _ _ _ _ _ _
 ·exact ⟨compact_good h.good, backs_compact h.backs h.good, h.sz.next (fun M => cap_compact M h.good)⟩
 ·have := pickN_lt a (show 0 < 10 by decide)
  refine ⟨failAt_good h.good (by omega), backs_failAt h.backs _, h.sz.next (fun M => ?_)⟩
  show capN M d.ops <= _
  omega
 ·exact hask _ _ _ _ _ _ _ _ _ _
theorem restart_run {d : DS} {fs : List FileV} {N : Nat} (hs : Sz d fs N) (fb : ByteArray) (hl : fs.length + d.ops.length <= 8 * N - 4) (hN : 1 <= N) : RunOk (DS.restart fb) (doneS fs d.ops) N where
 good := restart_good fb
 backs := backs_restart fb _
 sz := hs.restart fb
 len := by
  have h1 := doneS_len fs d.ops
  have h2 : (DS.restart fb).ops.length = 4 := rfl
  omega
 ops := by
  have h2 : (DS.restart fb).ops.length = 4 := rfl
  omega
theorem stepR_run {d : DS} {fs : List FileV} {N : Nat} (h : RunOk d fs N) (hN : N <= 200000) (kd a b c n : Int) (D : List Int) : RunOk (stepR d fs kd a b c n D).2.1 (stepR d fs kd a b c n D).2.2 (N + 1) := by
 unfold stepR
 split
 ·obtain ⟨h1, h2, h3, h4⟩ := settle_ok h hN
  simp only
  split
  ·exact restart_run h3 _ (by omega) (by omega)
  ·exact ⟨h1, h2, h3, by simp only; omega, by simp only; omega⟩
 ·exact stepS_run h hN kd a b c n D
theorem lease_again {d : DS} (s i kd m k n c : Int) (h : (d.ask 1 s i kd m k n 0 c 0).1.c = 0) : ∃ l ∈ (d.ask 1 s i kd m k n 0 c 0).2.ls, l.s = s /\ l.i = i /\ l.f = (d.ask 1 s i kd m k n 0 c 0).1.f /\ l.c = c /\ l.kd = kd /\ l.m = m /\ l.k = k /\ l.n = n /\ (d.ask 1 s i kd m k n 0 c 0).2.ask 1 s i kd m k n 0 c 0 = ((d.ask 1 s i kd m k n 0 c 0).1, (d.ask 1 s i kd m k n 0 c 0).2) := by
 unfold DS.ask at h
 unfold ansS at h
 rw [if_pos rfl] at h
 split at h
 ·rename_i hin
  split at h
  ·rename_i l hf
   split at h
   ·rename_i hb
    have hq : d.ask 1 s i kd m k n 0 c 0 = (⟨0, l.f, l.c, []⟩, d) := by
     unfold DS.ask ansS
     rw [if_pos rfl, if_pos hin, hf]
     simp only [if_pos hb]
     rfl
    rw [hq]
    have hn := List.find?_some hf
    simp only [isNamed, Bool.and_eq_true, beq_iff_eq] at hn
    simp only [beforeCode, Bool.and_eq_true, beq_iff_eq] at hb
    exact ⟨l, List.mem_of_find?_eq_some hf, hn.1, hn.2, rfl, hb.2, hb.1.1, hb.1.2.1, hb.1.2.2.1, hb.1.2.2.2, hq⟩
   ·simp [DS.after, Ans.code] at h
  ·rename_i hf
   split at h
   ·rename_i hcd
    simp only [DS.after] at h
    cases hok : d.ok (recOf 1 s i kd m k n c) with
    | false =>
     rw [hok] at h
     simp at h
    | true =>
     have hq : d.ask 1 s i kd m k n 0 c 0 = (⟨0, leasedAt d.S kd m k n, c, []⟩, d.add (recOf 1 s i kd m k n c) (lendS d.S kd m k n c.toNat) (d.ls ++ [⟨s, i, kd, m, k, n, leasedAt d.S kd m k n, c, false⟩])) := by
      unfold DS.ask ansS
      rw [if_pos rfl, if_pos hin, hf]
      simp only [if_pos hcd, DS.after, hok, if_true]
     rw [hq]
     have hls : (d.add (recOf 1 s i kd m k n c) (lendS d.S kd m k n c.toNat) (d.ls ++ [⟨s, i, kd, m, k, n, leasedAt d.S kd m k n, c, false⟩])).ls = d.ls ++ [⟨s, i, kd, m, k, n, leasedAt d.S kd m k n, c, false⟩] := by
      unfold DS.add
      simp only [hok, if_true]
     have hfind : (d.ls ++ [(⟨s, i, kd, m, k, n, leasedAt d.S kd m k n, c, false⟩ : LsV)]).find? (isNamed s i) = some ⟨s, i, kd, m, k, n, leasedAt d.S kd m k n, c, false⟩ := by
      rw [List.find?_append, hf]
      simp [isNamed]
     refine ⟨⟨s, i, kd, m, k, n, leasedAt d.S kd m k n, c, false⟩, by rw [hls]; simp, rfl, rfl, rfl, rfl, rfl, rfl, rfl, rfl, ?_⟩
     unfold DS.ask ansS
     rw [if_pos rfl, if_pos hin, hls, hfind]
     simp [beforeCode, DS.after]
   ·rename_i hcd
    simp [DS.after, Ans.code] at h
    exact absurd h hcd
 ·simp [DS.after, Ans.code] at h
end
-- VOd
section
open Go.RowKit Go.Maps
structure Keep4 (d : DS) : Prop where
 cls : ∀ x ∈ d.S, ∃ q : Nat, q < 4 /\ (x.kd, x.m, x.k, x.n) = clsK q
 ses : ∀ l ∈ d.ls, 1 <= l.s /\ l.s <= 3
def Cls4 (S : List Stk) : Prop := ∀ x ∈ S, ∃ q : Nat, q < 4 /\ (x.kd, x.m, x.k, x.n) = clsK q
theorem cls4_modify {S : List Stk} (h : Cls4 S) (i : Nat) (f : Stk -> Stk) (hf : ∀ x, ((f x).kd, (f x).m, (f x).k, (f x).n) = (x.kd, x.m, x.k, x.n)) : Cls4 (S.modify i f) := by
 intro x hx
 obtain ⟨j, hj, rfl⟩ := List.getElem_of_mem hx
 rw [List.length_modify] at hj
 rw [List.getElem_modify]
 split
 ·rw [hf]; exact h _ (List.getElem_mem hj)
 ·exact h _ (List.getElem_mem hj)
theorem cls4_norm {S : List Stk} (h : Cls4 S) : Cls4 (normS S) := by
 intro x hx
 obtain ⟨y, hy, rfl⟩ := List.mem_map.1 hx
 exact h y hy
theorem cls4_make {S : List Stk} (h : Cls4 S) (q : Nat) (hq : q < 4) (us : List (List Int × Bool)) : Cls4 (makeS S (clsK q).1 (clsK q).2.1 (clsK q).2.2.1 (clsK q).2.2.2 us) := by
 unfold makeS
 split
 ·exact cls4_modify h _ _ (fun x => rfl)
 ·intro x hx
  rcases List.mem_append.1 hx with hx | hx
  ·exact h x hx
  ·simp at hx; subst hx; exact ⟨q, hq, rfl⟩
theorem cls4_lend {S : List Stk} (h : Cls4 S) (kd m k n : Int) (c : Nat) : Cls4 (lendS S kd m k n c) := by
 unfold lendS
 split
 ·exact cls4_modify h _ _ (fun x => rfl)
 ·exact h
theorem cls4_forget {S : List Stk} (h : Cls4 S) (l : LsV) : Cls4 (forgetL S l) := by
 unfold forgetL
 split
 ·exact cls4_modify h _ _ (fun x => rfl)
 ·exact h
theorem cls4_compact {S : List Stk} (h : Cls4 S) (ls : List LsV) : Cls4 (compactS S ls) := by
 unfold compactS
 induction ls generalizing S with
 | nil => exact h
 | cons l t ih =>
  simp only [List.foldl_cons]
  apply ih
  split
  ·exact cls4_forget h l
  ·exact h
theorem ses_free {ls : List LsV} (h : ∀ l ∈ ls, 1 <= l.s /\ l.s <= 3) (s i : Int) : ∀ l ∈ freeS ls s i, 1 <= l.s /\ l.s <= 3 := by
 unfold freeS
 split
 ·intro l hl
  obtain ⟨j, hj, rfl⟩ := List.getElem_of_mem hl
  rw [List.length_modify] at hj
  rw [List.getElem_modify]
  split
  ·show 1 <= ls[j].s /\ ls[j].s <= 3
   exact h _ (List.getElem_mem hj)
  ·exact h _ (List.getElem_mem hj)
 ·exact h
theorem keep4_add {d : DS} (h : Keep4 d) (rec : ByteArray) {S' : List Stk} {ls' : List LsV} (h1 : Cls4 S') (h2 : ∀ l ∈ ls', 1 <= l.s /\ l.s <= 3) : Keep4 (d.add rec S' ls') := by
 unfold DS.add
 refine ⟨?_, ?_⟩
 ·show ∀ x ∈ (if d.ok rec then S' else d.S), _
  split
  ·exact h1
  ·exact h.cls
 ·show ∀ x ∈ (if d.ok rec then ls' else d.ls), _
  split
  ·exact h2
  ·exact h.ses
theorem keep4_refill {d : DS} (h : Keep4 d) (q : Nat) (hq : q < 4) (D : List Int) : Keep4 (d.refill (clsK q).1 (clsK q).2.1 (clsK q).2.2.1 (clsK q).2.2.2 D).2 := by
 unfold DS.refill
 split
 ·exact keep4_add h _ (cls4_make h.cls q hq _) h.ses
 ·exact h
theorem keep4_compact {d : DS} (h : Keep4 d) : Keep4 d.compact.2 := by
 unfold DS.compact
 split
 ·exact h
 ·refine ⟨?_, h.ses⟩
  show ∀ x ∈ (if diskOk d.fl d.ah 4 then compactS d.S d.ls else d.S), _
  split
  ·exact cls4_compact h.cls _
  ·exact h.cls
theorem keep4_ask {d : DS} (h : Keep4 d) (kk s i kd m k n f c p : Int) (hs : 1 <= s /\ s <= 3) : Keep4 (d.ask kk s i kd m k n f c p).2 := by
 unfold DS.ask DS.after
 split
 ·exact h
 ·rename_i S' ls' hn
  unfold ansS at hn
  split at hn
  ·split at hn
   ·split at hn
    ·split at hn
     ·cases hn
     ·cases hn
    ·split at hn
     ·injection hn with hn
      injection hn with h1 h2
      subst h1 h2
      refine keep4_add h _ (cls4_lend h.cls _ _ _ _ _) (fun l hl => ?_)
      rcases List.mem_append.1 hl with hl | hl
      ·exact h.ses l hl
      ·simp at hl; subst hl; exact hs
     ·cases hn
   ·cases hn
  ·split at hn
   ·split at hn
    ·split at hn
     ·cases hn
     ·split at hn
      ·cases hn
      ·split at hn
       ·cases hn
       ·split at hn
        ·cases hn
        ·cases hn
    ·cases hn
   ·split at hn
    ·split at hn
     ·split at hn
      ·split at hn
       ·cases hn
       ·injection hn with hn
        injection hn with h1 h2
        subst h1 h2
        exact keep4_add h _ h.cls (ses_free h.ses _ _)
      ·cases hn
     ·cases hn
    ·split at hn
     ·split at hn
      ·split at hn
       ·cases hn
       ·cases hn
      ·cases hn
     ·cases hn
theorem keep4_settle {d : DS} (h : Keep4 d) : Keep4 d.settle.2 := by
 have h0 : Keep4 (d.failAt (-1)) := ⟨h.cls, h.ses⟩
 unfold DS.settle
 split
 ·rename_i l hl
  exact keep4_ask h0 _ _ _ _ _ _ _ _ _ _ (h.ses l (List.mem_of_find?_eq_some hl))
 ·exact keep4_refill h0 0 (by decide) _
theorem keep4_step {d : DS} {fs : List FileV} {N : Nat} (h : Keep4 d) (hr : RunOk d fs N) (hN : N <= 200000) (kd a b c n : Int) (D : List Int) : Keep4 (stepR d fs kd a b c n D).2.1 := by
 unfold stepR
 split
 ·simp only
  have h1 := keep4_settle h
  obtain ⟨g1, g2, _⟩ := settle_ok hr hN
  split
  ·rename_i ht
   obtain ⟨e1, e2⟩ := restart_backs g2 (settle_kn hr.good ht) g1
   refine ⟨?_, ?_⟩
   ·show ∀ x ∈ (DS.restart (fileB (doneS fs d.settle.2.ops))).S, _
    rw [e1]
    exact cls4_norm h1.cls
   ·show ∀ x ∈ (DS.restart (fileB (doneS fs d.settle.2.ops))).ls, _
    rw [e2]
    exact h1.ses
  ·exact h1
 ·unfold stepS
  simp only
  have la := pickN_lt a (show 0 < 4 by decide)
  have l3 := pickN_lt a (show 0 < 3 by decide)
  have hs : 1 <= (((1 + pickN a 3 : Nat)) : Int) /\ (((1 + pickN a 3 : Nat)) : Int) <= 3 := by omega
  split
  ·exact keep4_refill h (pickN a 4) la _
  ·exact keep4_ask h _ _ _ _ _ _ _ _ _ _ hs
  ·exact keep4_ask h _ _ _ _ _ _ _ _ _ _ hs
  ·exact keep4_compact h
  ·exact ⟨h.cls, h.ses⟩
  ·exact keep4_ask h _ _ _ _ _ _ _ _ _ _ hs
end
end Go.Proofs.YtmnjhhachdlmkaaGreat
