import Derived.Test.YtmnjhhachdlmkaaGreatK09
namespace Go.Proofs.YtmnjhhachdlmkaaGreat
set_option linter.unusedVariables false
set_option linter.unusedSimpArgs false
open List renaming getElem_toArray -> lA, getElem_cons_succ -> lB, getElem_cons_zero -> lC, setIfInBounds_toArray -> lD, set_cons_zero -> lE, set_cons_succ -> lF
open World renaming block_lt_of_cell? -> lG
open Value renaming ownBlock -> lH
-- VRd
section
set_option maxRecDepth 100000
set_option maxHeartbeats 3200000
open Go.RowKit Go.Maps
def FilesAt (w : World) (fa : Option Addr) (fs : List (ByteArray × ByteArray)) : Prop :=
 fs = [] \/ ∃ b off, fa = some ⟨b, off, none⟩ /\ ∀ i (h : i < fs.length), w.cell? ⟨b, off + i * 2, none⟩ = some (.string fs[i].1) /\ w.cell? ⟨b, off + i * 2 + 1, none⟩ = some (.string fs[i].2)
theorem FilesAt.ext {w w' : World} {fa : Option Addr} {fs : List (ByteArray × ByteArray)} (h : FilesAt w fa fs) (hx : Ext w w') : FilesAt w' fa fs := by
 rcases h with h | ⟨b, off, h1, h2⟩
 ·exact .inl h
 ·exact .inr ⟨b, off, h1, fun i hi => ⟨hx.cell (h2 i hi).1, hx.cell (h2 i hi).2⟩⟩
def fileB (fs : List (ByteArray × ByteArray)) : ByteArray := fs.foldl (fun acc f => if f.1 = sFile then f.2 else acc) ⟨#[]⟩
theorem fileB_take (fs : List (ByteArray × ByteArray)) (j : Nat) (h : j < fs.length) : fileB (fs.take (j + 1)) = if fs[j].1 = sFile then fs[j].2 else fileB (fs.take j) := by
 rw [List.take_succ_eq_append_getElem h]
 simp only [fileB, List.foldl_append]
 rfl
theorem fileB_size (fs : List (ByteArray × ByteArray)) (n : Nat) (h : ∀ f ∈ fs, f.2.size <= n) : (fileB fs).size <= n := by
 have key : ∀ (fs : List (ByteArray × ByteArray)) (a : ByteArray), a.size <= n -> (∀ f ∈ fs, f.2.size <= n) -> (fs.foldl (fun acc f => if f.1 = sFile then f.2 else acc) a).size <= n := by
  intro fs
  induction fs with
  | nil => intro a ha _; exact ha
  | cons f t ih =>
   intro a ha hf
   refine ih _ ?_ (fun x hx => hf x (by simp [hx]))
   show (if f.1 = sFile then f.2 else a).size <= n
   split
   ·exact hf f (by simp)
   ·exact ha
 exact key fs ⟨#[]⟩ (by show 0 <= n; omega) h
theorem unframe_len {l r : List UInt8} (h : unframeP l = some r) : 12 + r.length <= l.length := by
 unfold unframeP at h
 split at h
 ·cases h
 ·rename_i h1
  split at h
  ·cases h
  ·rename_i h2
   split at h
   ·injection h with h
    rw [<- h, List.length_take, List.length_drop]
    omega
   ·cases h
def readF : Nat -> List UInt8 -> List (List UInt8)
 | 0, _ => []
 | q + 1, l => match unframeP l with
  | none => []
  | some r => r :: readF q (l.drop (12 + r.length))
def readP (l : List UInt8) : List (List UInt8) := readF (l.length + 1) l
theorem readF_any : ∀ (q q' : Nat) (l : List UInt8), l.length < q -> l.length < q' -> readF q l = readF q' l
 | 0, _, _, h, _ => absurd h (Nat.not_lt_zero _)
 | _ + 1, 0, _, _, h => absurd h (Nat.not_lt_zero _)
 | q + 1, q' + 1, l, h, h' => by
  unfold readF
  cases hu : unframeP l with
  | none => rfl
  | some r =>
   have hl := unframe_len hu
   simp only
   rw [readF_any q q' _ (by rw [List.length_drop]; omega) (by rw [List.length_drop]; omega)]
theorem readP_none {l : List UInt8} (h : unframeP l = none) : readP l = [] := by
 unfold readP readF
 rw [h]
theorem readP_some {l r : List UInt8} (h : unframeP l = some r) : readP l = r :: readP (l.drop (12 + r.length)) := by
 have hl := unframe_len h
 have e : readP l = r :: readF l.length (l.drop (12 + r.length)) := by
  unfold readP
  rw [readF, h]
 rw [e]
 unfold readP
 rw [readF_any l.length _ _ (by rw [List.length_drop]; omega) (Nat.lt_succ_self _)]
def strL (ls : List (List UInt8)) : List ByteArray := ls.map fun l => ⟨l.toArray⟩
theorem journalRead_c (fa : Option Addr) (n cap : Nat) (fs : List (ByteArray × ByteArray)) (hn : fs.length = n) (hnb : n <= 4611686018427387904) (hsz : ∀ f ∈ fs, f.2.size <= 1000000000) (w : World) (h : FilesAt w fa fs) :
  Calls Tryz.prog 89 #[.slice fa n cap] w fun e w' => ∃ v, e = .returned v /\ StrsAt w' w.heap.size v (strL (readP (fileB fs).data.toList)) /\ Ext w w' := by
 obtain ⟨i0, hi, hz0, hz1, hz2⟩ := info_parts infoStr
 have HN : Hid (fs.length = n) := hn
 have HF : Hid (FilesAt w fa fs) := h
 have HB : Hid ((fileB fs).size <= 1000000000) := fileB_size fs _ hsz
 clear hn h hsz
 go_enter Tryz.func89, Tryz.ntmps89
 go_wp2
 go_loopw [3, 11] (fun u i wr => ∃ j : Nat, j <= n /\ i = .int .i64 j /\ u = .string (fileB (fs.take j)) /\ Ext w wr) (fun _ i _ => n - (intOf i).toNat)
 case atStart => exact ⟨0, Nat.zero_le _, rfl, rfl, Ext.refl _⟩
 case round =>
  obtain ⟨j, hj, rfl, rfl, hx⟩ := hrel
  have HX : Hid (Ext w wr) := hx
  by_cases hlt : j < n
  ·have hjl : j < fs.length := by rw [HN.out]; exact hlt
   rcases HF.out with h0 | ⟨b, off, hfa, hc⟩
   ·rw [h0] at hjl; simp at hjl
   ·subst hfa
    obtain ⟨k0, k1⟩ := hc j hjl
    have k0 := hx.cell k0
    have k1 := hx.cell k1
    have hbl := lG wr _ k0
    have HT : Hid (fileB (fs.take (j + 1)) = if fs[j].1 = sFile then fs[j].2 else fileB (fs.take j)) := fileB_take fs j hjl
    clear hx hc
    by_cases he : fs[j].1 = sFile
    ·have HTT : Hid (fileB (fs.take (j + 1)) = fs[j].2) := by
      show _ = _
      rw [HT.out, if_pos he]
     rw [he] at k0
     unfold sFile at k0
     clear he
     generalize fs[j].2 = by1 at *
     go_wp2
     go_roundw
     case rel => exact ⟨j + 1, by omega, by go_num, by rw [HTT.out], HX.out.alloc _⟩
     case measure => simp [intOf]; omega
    ·have HTT : Hid (fileB (fs.take (j + 1)) = fileB (fs.take j)) := by
      show _ = _
      rw [HT.out, if_neg he]
     have he3 : (fs[j].1.toList == [115, 116, 111, 114, 101]) = false := by
      rw [Bool.eq_false_iff]
      intro hq
      apply he
      have hq2 : fs[j].1.toList = [115, 116, 111, 114, 101] := by simpa using hq
      rw [ByteArray.toList_eq] at hq2
      cases hb : fs[j].1 with
      | mk d =>
       rw [hb] at hq2
       show ByteArray.mk d = sFile
       unfold sFile
       congr 1
       exact Array.toList_inj.1 hq2
     clear he
     generalize fs[j].2 = by1 at *
     generalize fs[j].1 = by0 at *
     go_wp2
     go_roundw
     case rel => exact ⟨j + 1, by omega, by go_num, by rw [HTT.out], HX.out.alloc _⟩
     case measure => simp [intOf]; omega
  ·obtain rfl : j = n := by omega
   have hfb : fileB (fs.take j) = fileB fs := by rw [List.take_of_length_le (by rw [HN.out]; exact Nat.le_refl _)]
   rw [hfb]
   clear hfb hx
   have hwl := HX.out.le
   obtain ⟨fb, hfb⟩ : ∃ fb, fileB fs = fb := ⟨_, rfl⟩
   obtain ⟨L0, hL0⟩ : ∃ L0, readP fb.data.toList = L0 := ⟨_, rfl⟩
   have HL0 : Hid (readP fb.data.toList = L0) := hL0
   have HS0 : Hid (fb.size <= 1000000000) := by
    show _
    rw [<- hfb]
    exact HB.out
   have HFB : Hid (fileB fs = fb) := hfb
   rw [hfb]
   clear hL0 hfb
   go_wp2
   go_loopw [3, 6] (fun rest u wr => ∃ (rb : ByteArray) (rs : List (List UInt8)), rest = .string rb /\ rs ++ readP rb.data.toList = L0 /\ rs.length * 12 + rb.size <= 1000000000 /\ StrsAt wr w.heap.size u (strL rs) /\ Ext w wr) (fun rest _ _ => match rest with | .string rb => rb.size | _ => 0)
   case atStart => exact ⟨fb, [], rfl, HL0.out, by have := HS0.out; simpa using this, World.ownsRow_nil _ _ _ _, HX.out⟩
   case round =>
    clear hwl
    obtain ⟨rb, rs, rfl, hrs, hbd, ho, hx2⟩ := hrel
    have HRS : Hid (rs ++ readP rb.data.toList = L0) := hrs
    have HBD : Hid (rs.length * 12 + rb.size <= 1000000000) := hbd
    have HO : Hid (StrsAt wr w.heap.size u6 (strL rs)) := ho
    have HX2 : Hid (Ext w wr) := hx2
    have hwl := hx2.le
    have HUf : Hid (∀ w, _) := fun w => unframe_c rb (by omega) w
    have hrb : rb.size <= 1000000000 := by omega
    clear hrs ho hx2
    cases hu : unframeP rb.data.toList with
    | none =>
     rw [hu] at HUf
     unfold unfV at HUf
     have HE : Hid (L0 = rs) := by
      show L0 = rs
      rw [<- HRS.out, readP_none hu, List.append_nil]
     clear hu hbd
     go_wp2_with fail
     refine (HUf.out _).mono ?_
     rintro e w2 ⟨rfl, hx3⟩
     have HX3 : Hid (Ext wr w2) := hx3
     clear hx3
     go_wp2
     go_ret
     exact ⟨_, rfl, by rw [HFB.out, HL0.out, HE.out]; exact Ext.owns HX3.out HO.out, HX2.out.trans HX3.out⟩
    | some r =>
     rw [hu] at HUf
     simp only [unfV] at HUf
     have hul := unframe_len hu
     have hrl : rb.data.toList.length = rb.size := by simp
     have HE : Hid ((rs ++ [r]) ++ readP (rb.extract (12 + r.length) rb.size).data.toList = L0) := by
      show _ = _
      rw [<- HRS.out, readP_some hu, ext_hi]
      simp
     obtain ⟨sz, hsz⟩ : ∃ sz, 12 + r.length = sz := ⟨_, rfl⟩
     rw [hsz] at HUf HE hul
     have hsz1 : 12 <= sz := by omega
     have hle : sz <= rb.size := by omega
     have HEs : Hid ((rb.extract sz rb.size).size = rb.size - sz) := by
      show _ = _
      simp
     have hrn : (strL rs).length = rs.length := by simp [strL]
     have HRN : Hid ((strL rs).length = rs.length) := hrn
     have hbd2 : (strL rs).length * 12 <= 1000000000 := by omega
     clear hu hul hrl hsz hrn
     go_wp2_with fail
     refine (HUf.out _).mono ?_
     rintro e w2 ⟨rfl, hx3⟩
     have HX3 : Hid (Ext wr w2) := hx3
     have hw3 := hx3.le
     clear hx3
     have hz12 : ((sz : Int) == 0) = false := by simp; omega
     have hszI : (sz : Int) <= (rb.size : Int) := by omega
     go_wp2_with (at_builtin; refine wpList_append_own _ rfl _ _ 166 rfl w.heap.size 9 i0 (.string ⟨#[]⟩) 1 16 Tryz.underlying166 hi hz0 hz1 hz2 rfl (by decide) _ _ _ rfl (World.ownsRow.alloc (Ext.owns HX3.out HO.out) _) ⟨_, 0, none⟩ 1 1 [.string ⟨r.toArray⟩] rfl rfl ?c1 ?c2 ?c3 ?c4 ?c5 ?_)
     case c1 => exact cell_one_new _ _ _
     case c2 => intro u hu; simp at hu; subst hu; rfl
     case c3 => unfold maxLen; omega
     case c4 => omega
     case c5 => simp; omega
     intro v4 w4 ho4 hg4 _
     have HX4 : Hid (Ext w w4) := Ext.grown (Ext.alloc (HX2.out.trans HX3.out) _) hg4 (fun q hq => (World.ownsRow.lt HO.out q hq).1)
     have HO4 : Hid (StrsAt w4 w.heap.size v4 (strL (rs ++ [r]))) := by
      show World.ownsRow _ _ _ _ _ _ _
      rw [strL, List.map_append, List.length_append, strVs, List.map_append]
      exact ho4
     clear ho4 hg4
     go_wp2
     go_roundw
     case rel => exact ⟨rb.extract sz rb.size, rs ++ [r], rfl, HE.out, by rw [HEs.out, List.length_append]; simp; omega, HO4.out, HX4.out⟩
     case measure => simp; omega
end
-- VRs
section
set_option maxRecDepth 100000
set_option maxHeartbeats 6400000
open Go.RowKit Go.Maps
def rawW (l : List UInt8) (n : Nat) : List Int := (List.range n).map fun i => (be ((l.drop (1 + 8 * i)).take 8) : Int)
def shareP (L : Nat) (l : List UInt8) : Option ((List Int × Bool) × Nat) :=
 if (l.getD 0 0).toNat = 0 then some (([], false), 1) else if (l.getD 0 0).toNat ≠ 1 \/ l.length < 1 + 16 * L then none else some ((rawW l (2 * L), true), 1 + 16 * L)
theorem readSharesGone_c (s : ByteArray) (h1 : 0 < s.size) (h0 : s[0].toNat = 0) (L : Nat) (w : World) :
  Calls Tryz.prog 186 #[.string s, .int .i64 (L : Int)] w fun e w' => e = .returned (.tuple #[.agg #[.slice none 0 0, .slice none 0 0], .int .i64 1]) /\ Ext w w' := by
 go_enter Tryz.func186, Tryz.ntmps186
 go_wp2
 refine bodyPost_ret (v := .tuple #[.agg #[.slice none 0 0, .slice none 0 0], .int .i64 1]) (by simp [results, Tryz.results186, go_sem]) rfl ⟨rfl, (Ext.refl w).alloc _⟩
theorem readSharesNo_c (s : ByteArray) (h1 : 0 < s.size) (h0 : s[0].toNat ≠ 0) (hs : s.size <= 1000000000) (L : Nat) (hL : 1 <= L /\ L <= 27) (hn : s[0].toNat ≠ 1 \/ s.size < 1 + 16 * L) (w : World) :
  Calls Tryz.prog 186 #[.string s, .int .i64 (L : Int)] w fun e w' => e = .returned (.tuple #[.agg #[.slice none 0 0, .slice none 0 0], .int .i64 0]) /\ Ext w w' := by
 by_cases hk : s[0].toNat = 1
 ·have hlt : (s.size : Int) < 1 + 2 * (L : Int) * 8 := by omega
  clear hn h0
  go_enter Tryz.func186, Tryz.ntmps186
  go_wp2
  refine bodyPost_ret (v := .tuple #[.agg #[.slice none 0 0, .slice none 0 0], .int .i64 0]) (by simp [results, Tryz.results186, go_sem]) rfl ⟨rfl, (Ext.refl w).alloc _⟩
 ·obtain ⟨x, hx⟩ : ∃ x : Int, (s[0].toNat : Int) = x := ⟨_, rfl⟩
  have hx0 : (x == 0) = false := by simp; omega
  have hx1 : (x == 1) = false := by simp; omega
  have hx2 : (x != 1) = true := by simp; omega
  clear hn h0 hk
  go_enter Tryz.func186, Tryz.ntmps186
  go_wp2
  refine bodyPost_ret (v := .tuple #[.agg #[.slice none 0 0, .slice none 0 0], .int .i64 0]) (by simp [results, Tryz.results186, go_sem]) rfl ⟨rfl, (Ext.refl w).alloc _⟩
-- LOOP
theorem rawW_succ (D : List UInt8) (j : Nat) : rawW D (j + 1) = rawW D j ++ [(be ((D.drop (1 + 8 * j)).take 8) : Int)] := by simp [rawW, List.range_succ]
theorem rawW_len (D : List UInt8) (j : Nat) : (rawW D j).length = j := by simp [rawW]
theorem rawW_take (D : List UInt8) (L : Nat) : (rawW D (2 * L)).take L = rawW D L := by
 rw [rawW, <- List.map_take, List.take_range, Nat.min_eq_left (by omega)]; rfl
theorem ext_mid (t : ByteArray) (a b : Nat) : (t.extract a b).data.toList = (t.data.toList.drop a).take (b - a) := by
 rw [ByteArray.data_extract, Array.toList_extract, List.extract_eq_drop_take', List.drop_take]
theorem readSharesYes_c (s : ByteArray) (h1 : 0 < s.size) (h0 : s[0].toNat = 1) (hs : s.size <= 1000000000) (L : Nat) (hL : 1 <= L /\ L <= 27) (hn : 1 + 16 * L <= s.size) (w : World) :
  Calls Tryz.prog 186 #[.string s, .int .i64 (L : Int)] w fun e w' => ∃ a0 c0 a1 c1, e = .returned (.tuple #[.agg #[.slice (some ⟨a0, 0, none⟩) L c0, .slice (some ⟨a1, 0, none⟩) L c1], .int .i64 (1 + 2 * (L : Int) * 8)]) /\
   w'.ownsRow w.heap.size 146 1 (.slice (some ⟨a0, 0, none⟩) L c0) L (((rawW s.data.toList (2 * L)).take L).map (Value.int .u64)) /\ w'.ownsRow w.heap.size 146 1 (.slice (some ⟨a1, 0, none⟩) L c1) L (((rawW s.data.toList (2 * L)).drop L).map (Value.int .u64)) /\ Ext w w' := by
 obtain ⟨i0, hi, hz0, hz1, hz2⟩ := info_parts infoU64
 obtain ⟨D, hD⟩ : ∃ D, s.data.toList = D := ⟨_, rfl⟩
 have HD : Hid (s.data.toList = D) := hD
 rw [hD]
 have HS : Hid (1 + 16 * L <= s.size) := hn
 have hlt : ¬ (s.size : Int) < 1 + 2 * (L : Int) * 8 := by omega
 clear hD hn
 go_enter Tryz.func186, Tryz.ntmps186
 go_wp2
 have hres : (w.alloc (.cells #[.slice none 0 0, .slice none 0 0] 176)).heap[w.heap.size]? = some (.cells #[.slice none 0 0, .slice none 0 0] 176 (0, 0)) := heap_alloc_new _ _
 have hXW : Ext w (w.alloc (.cells #[.slice none 0 0, .slice none 0 0] 176)) := (Ext.refl w).alloc _
 obtain ⟨rb, hrb⟩ : ∃ rb, w.heap.size = rb := ⟨_, rfl⟩
 have HRB : Hid (w.heap.size = rb) := hrb
 simp only [hrb] at hres ⊢
 generalize World.alloc w _ = W at hres hXW ⊢
 have HRS : Hid _ := hres
 have HXW : Hid (Ext w W) := hXW
 have hWl : rb < W.heap.size := (Array.getElem?_eq_some_iff.1 hres).1
 clear hres hXW hlt hrb
 go_loopw [6, 7, 28] (fun _ _ iv wr => ∃ (j : Nat) (v0 v1 : Value), j <= 2 * L /\ iv = .int .i64 (j : Int) /\ wr.heap[rb]? = some (.cells #[v0, v1] 176 (0, 0)) /\ wr.ownsRow W.heap.size 146 1 v0 (min j L) ((rawW D (min j L)).map (Value.int .u64)) /\ wr.ownsRow W.heap.size 146 1 v1 (j - L) (((rawW D j).drop L).map (Value.int .u64)) /\ (∀ b, v0.ownBlock = some b -> v1.ownBlock = some b -> False) /\ Turn (fun b => b = rb) W wr) (fun _ _ iv _ => 2 * L - (intOf iv).toNat)
 case atStart => exact ⟨0, _, _, Nat.zero_le _, rfl, HRS.out, by simpa [rawW] using World.ownsRow_nil _ _ _ _, by simpa [rawW] using World.ownsRow_nil _ _ _ _, fun b h => by simp [lH] at h, Turn.refl _ _⟩
 case round =>
  obtain ⟨j, v0, v1, hj, rfl, hb, ho0, ho1, hap, ht⟩ := hrel
  have HB : Hid _ := hb
  have HTW : Hid (Turn (fun b => b = rb) W wr) := ht
  have hbl : rb < wr.heap.size := (Array.getElem?_eq_some_iff.1 hb).1
  have HNR0 : Hid (v0.ownBlock ≠ some rb) := row_ne hb ho0 (by decide)
  have HNR1 : Hid (v1.ownBlock ≠ some rb) := row_ne hb ho1 (by decide)
  have hwr := ht.size
  clear ht
  by_cases hlt2 : j < 2 * L
  ·have hin : (j : Int) < 2 * (L : Int) := by omega
   have hLz : ¬ L = 0 := by omega
   have hw0 : IntKind.i64.wrap 0 = 0 := by decide
   have hw1 : IntKind.i64.wrap 1 = 1 := by decide
   obtain ⟨at_, hat⟩ : ∃ at_ : Nat, 1 + 8 * j = at_ := ⟨_, rfl⟩
   obtain ⟨bt, hbt⟩ : ∃ bt : Nat, at_ + 8 = bt := ⟨_, rfl⟩
   obtain ⟨z, hz⟩ : ∃ z : Nat, be ((D.drop (1 + 8 * j)).take 8) = z := ⟨_, rfl⟩
   have HA : Hid (1 + (j : Int) * 8 = (at_ : Int)) := by show _ = _; omega
   have hB8 : IntKind.i64.wrap ((at_ : Int) + 8) = (bt : Int) := by rw [IntKind.wrap_i64]; omega
   have hbs : bt <= s.size := by have := HS.out; omega
   have hab : at_ <= bt := by omega
   have HES : Hid ((s.extract at_ bt).size = 8) := by
    show _ = _
    rw [ByteArray.size_extract]
    omega
   have HBE : Hid (be (s.extract at_ bt).data.toList = z) := by
    show _ = _
    rw [ext_mid, HD.out, <- hz, hat, show bt - at_ = 8 by omega]
   have HRW : Hid (rawW D (j + 1) = rawW D j ++ [(z : Int)]) := by
    show _ = _
    rw [rawW_succ, hz]
   have HAt : Hid (1 + 8 * j = at_ /\ at_ + 8 = bt) := ⟨hat, hbt⟩
   clear hz hat hbt
   by_cases hjl : j < L
   ·have hq : Int.tdiv (j : Int) (L : Int) = 0 := by
     rw [Int.tdiv_eq_ediv_of_nonneg (by omega)]
     exact Int.ediv_eq_zero_of_lt (by omega) (by omega)
    rw [Nat.min_eq_left (by omega)] at ho0
    rw [show j - L = 0 by omega] at ho1
    obtain ⟨va, vc, rfl⟩ := owns_slice ho0
    obtain ⟨vb, vd, rfl⟩ := owns_slice ho1
    have HO0 : Hid (wr.ownsRow W.heap.size 146 1 (.slice va j vc) j ((rawW D j).map (Value.int .u64))) := ho0
    have HO1 : Hid (wr.ownsRow W.heap.size 146 1 (.slice vb 0 vd) 0 (((rawW D j).drop L).map (Value.int .u64))) := ho1
    have HAP : Hid (∀ b, lH (.slice va j vc) = some b -> lH (.slice vb 0 vd) = some b -> False) := hap
    have HRel0 : Hid (∀ (w6 : World) (g cap : Nat), w6.ownsRow W.heap.size 146 1 (.slice (some ⟨g, 0, none⟩) (j + 1) cap) (j + 1) ((rawW D j).map (Value.int .u64) ++ [.int .u64 (z : Int)]) -> w6.ownsRow W.heap.size 146 1 (.slice vb 0 vd) 0 (((rawW D j).drop L).map (Value.int .u64)) -> (g ≠ rb /\ ∀ b, lH (.slice vb 0 vd) = some b -> b ≠ g) -> w6.ownsRow W.heap.size 146 1 (.slice (some ⟨g, 0, none⟩) (j + 1) cap) (min (j + 1) L) ((rawW D (min (j + 1) L)).map (Value.int .u64)) /\ w6.ownsRow W.heap.size 146 1 (.slice vb 0 vd) (j + 1 - L) (((rawW D (j + 1)).drop L).map (Value.int .u64)) /\ ∀ b, lH (.slice (some ⟨g, 0, none⟩) (j + 1) cap) = some b -> lH (.slice vb 0 vd) = some b -> False) := fun w6 g cap k1 k2 k3 => by
     refine ⟨?_, ?_, fun b e1 e2 => k3.2 b e2 (by simpa [lH] using e1.symm)⟩
     ·rw [Nat.min_eq_left (by omega), HRW.out, List.map_append]; exact k1
     ·rw [show j + 1 - L = 0 by omega, List.drop_of_length_le (by rw [rawW_len]; omega)]
      rw [List.drop_of_length_le (by rw [rawW_len]; omega)] at k2
      exact k2
    clear ho0 ho1 hap
    go_wp2_with fail
    simp only [HA.out]
    have y0 : wr.cell? ⟨rb, 0, none⟩ = some (.slice va j vc) := cell_at HB.out rfl
    refine wp_region_held_drew (S := (fun _ => True)) (by kernel_rfl) trivial (fun hHeld => ?_)
    refine zT 0 hHeld ?_
    refine zT 1 hHeld ?_
    refine zT 2 hHeld ?_
    refine zT 3 hHeld ?_
    refine zT 4 hHeld ?_
    refine zT 5 hHeld ?_
    refine zT 6 hHeld ?_
    refine zT 8 hHeld ?_
    refine zT 9 hHeld ?_
    refine zT 10 hHeld ?_
    refine zT 11 hHeld ?_
    refine zT 12 hHeld ?_
    refine wpAnyH_ready (rs := [7, 13]) (by kernel_rfl) (by simp) ?_
    refine AllReadyH.cons (o := _) rfl (fun K hK => ?_) (AllReadyH.cons (o := _) rfl (fun K hK => ?_) AllReadyH.nil)
    ·skip
     (try simp only [lA, lB, lC])
     go_simp
     refine hK.out _ _ trivial (fun hHeld => ?_)
     clear hK K
     try simp only [Act.put, lA, lB, lC, lD, lE, lF]
     refine wpAnyH_ready (rs := [13]) (by kernel_rfl) (by simp) ?_
     refine AllReadyH.cons (o := _) rfl (fun K hK => ?_) AllReadyH.nil
     (try simp only [lA, lB, lC])
     go_simp
     refine (take8_c (s.extract at_ bt) (by have := HES.out; omega) _).mono ?_
     rintro e w4 ⟨rfl, rfl⟩
     simp only [HBE.out]
     refine hK.out _ _ trivial (fun hHeld => ?_)
     clear hK K
     try simp only [Act.put, lA, lB, lC, lD, lE, lF]
     refine wpAnyH_ready (rs := [14]) (by kernel_rfl) (by simp) ?_
     refine AllReadyH.cons (o := _) rfl (fun K hK => ?_) AllReadyH.nil
     (try simp only [lA, lB, lC])
     go_simp
     refine hK.out _ _ trivial (fun hHeld => ?_)
     clear hK K
     try simp only [Act.put, lA, lB, lC, lD, lE, lF]
     refine wpAnyH_ready (rs := [15]) (by kernel_rfl) (by simp) ?_
     refine AllReadyH.cons (o := _) rfl (fun K hK => ?_) AllReadyH.nil
     refine step_append_lies _ (by rfl) _ _ 31 (by rfl) W.heap.size 146 i0 _ 1 8 Tryz.underlying31 hi hz0 hz1 hz2 (by rfl) (by decide) (.slice va j vc) j _ (by rfl) (Ext.owns (by repeat (first | with_reducible exact Ext.refl _ | with_reducible refine Ext.drew ?_ | with_reducible refine Ext.alloc ?_ _)) HO0.out) ⟨_, 0, none⟩ 1 1 [.int .u64 (z : Int)] (by rfl) (by rfl) (World.news_of_block (by first | exact heap_alloc_new _ _ | exact at_drew (heap_alloc_new _ _))) (by simp [Value.oneCell']) (by decide) (by unfold maxLen; omega) (by omega) (by simp; omega) _ rfl ?_
     intro g cap w5 hown5 hgrow5 hat5 hlt5
     have HT5 : Hid (Turn (fun b => lH (.slice va j vc) = some b) wr w5) := Turn.grown (Turn.of_ext (by repeat (first | with_reducible exact Ext.refl _ | with_reducible refine Ext.drew ?_ | with_reducible refine Ext.alloc ?_ _))) hgrow5 (fun q hq _ => hq)
     have HOW : Hid (w5.ownsRow W.heap.size 146 1 (.slice (some ⟨g, 0, none⟩) (j + 1) cap) (j + 1) (_ ++ [.int .u64 (z : Int)])) := hown5
     have HAT : Hid (lH (.slice va j vc) = some g \/ wr.heap.size <= g) := by
      rcases hat5 with h | h
      ·exact .inl h
      ·exact .inr (by rw [h]; exact (Turn.of_ext (by repeat (first | with_reducible exact Ext.refl _ | with_reducible refine Ext.drew ?_ | with_reducible refine Ext.alloc ?_ _)) : Turn (fun _ => False) wr _).size)
     have HB5 : Hid _ := HT5.out.ref HB.out (fun e => HNR0.out e)
     have y1b : w5.cell? ⟨rb, 0, none⟩ = some (.slice va j vc) := cell_at HB5.out rfl
     have f1b := frozen_row HB5.out 0
     refine hK.out _ _ trivial (fun hHeld => ?_)
     clear hK K hown5 hgrow5 hat5
     try simp only [Act.put, lA, lB, lC, lD, lE, lF]
     refine zT 16 hHeld ?_
     refine wpAnyH_ready (rs := [17]) (by kernel_rfl) (by simp) ?_
     refine AllReadyH.cons (o := _) rfl (fun K hK => ?_) AllReadyH.nil
     (try simp only [lA, lB, lC])
     go_simp
     have hB6 : (w5.setCell ⟨rb, 0, none⟩ (.slice (some ⟨g, 0, none⟩) (j + 1) cap)).heap[rb]? = some (.cells #[.slice (some ⟨g, 0, none⟩) (j + 1) cap, .slice vb 0 vd] 176 (0, 0)) := setCell_row HB5.out _
     have hgP : g ≠ rb := by
      rcases HAT.out with h | h
      ·exact fun e => HNR0.out (by rw [<- e]; exact h)
      ·have := (Array.getElem?_eq_some_iff.1 HB.out).1
       omega
     have hO6 := owns_setCell HOW.out (a := ⟨rb, 0, none⟩) (by simpa [lH] using hgP) (.slice (some ⟨g, 0, none⟩) (j + 1) cap)
     have hO7 := owns_setCell (HT5.out.owns HO1.out (fun b hb e => HAP.out b e hb)) (a := ⟨rb, 0, none⟩) (fun e => HNR1.out e) (.slice (some ⟨g, 0, none⟩) (j + 1) cap)
     have hT6 : Turn (fun b => b = rb) W (w5.setCell ⟨rb, 0, none⟩ (.slice (some ⟨g, 0, none⟩) (j + 1) cap)) := Turn.setCell (S := fun b => b = rb) (p := ⟨rb, 0, none⟩) (HTW.out.trans' HT5.out (fun b hb e => by have := (World.ownsRow.lt HO0.out b e).1; omega)) (fun _ => rfl) _
     have hap6 : g ≠ rb /\ ∀ b, lH (.slice vb 0 vd) = some b -> b ≠ g := ⟨hgP, fun b hb e => by
      subst e
      rcases HAT.out with h | h
      ·exact HAP.out b h hb
      ·have := (World.ownsRow.lt HO1.out b hb).2
       omega⟩
     have HF6 : Hid _ := And.intro hB6 (And.intro hO6 (And.intro hO7 (And.intro hT6 hap6)))
     refine hK.out _ _ trivial (fun hHeld => ?_)
     clear hK K hB6 hgP hO6 hO7 hT6 hap6 y1b f1b hHeld
     try simp only [Act.put, lA, lB, lC, lD, lE, lF]
     refine wpAnyH_done (by kernel_rfl) ?_ _
     generalize World.setCell w5 _ _ = w6 at HF6 ⊢
     go_wp2
     go_roundw
     case rel =>
      have hr := HRel0.out w6 g cap HF6.out.2.1 HF6.out.2.2.1 HF6.out.2.2.2.2
      exact ⟨j + 1, _, _, by omega, by go_num, HF6.out.1, hr.1, hr.2.1, hr.2.2, HF6.out.2.2.2.1⟩
     case measure => simp [intOf]; omega
    ·skip
     (try simp only [lA, lB, lC])
     go_simp
     refine (take8_c (s.extract at_ bt) (by have := HES.out; omega) _).mono ?_
     rintro e w4 ⟨rfl, rfl⟩
     simp only [HBE.out]
     refine hK.out _ _ trivial (fun hHeld => ?_)
     clear hK K
     try simp only [Act.put, lA, lB, lC, lD, lE, lF]
     refine wpAnyH_ready (rs := [7, 14]) (by kernel_rfl) (by simp) ?_
     refine AllReadyH.cons (o := _) rfl (fun K hK => ?_) (AllReadyH.cons (o := _) rfl (fun K hK => ?_) AllReadyH.nil)
     ·skip
      (try simp only [lA, lB, lC])
      go_simp
      refine hK.out _ _ trivial (fun hHeld => ?_)
      clear hK K
      try simp only [Act.put, lA, lB, lC, lD, lE, lF]
      refine wpAnyH_ready (rs := [14]) (by kernel_rfl) (by simp) ?_
      refine AllReadyH.cons (o := _) rfl (fun K hK => ?_) AllReadyH.nil
      (try simp only [lA, lB, lC])
      go_simp
      refine hK.out _ _ trivial (fun hHeld => ?_)
      clear hK K
      try simp only [Act.put, lA, lB, lC, lD, lE, lF]
      refine wpAnyH_ready (rs := [15]) (by kernel_rfl) (by simp) ?_
      refine AllReadyH.cons (o := _) rfl (fun K hK => ?_) AllReadyH.nil
      refine step_append_lies _ (by rfl) _ _ 31 (by rfl) W.heap.size 146 i0 _ 1 8 Tryz.underlying31 hi hz0 hz1 hz2 (by rfl) (by decide) (.slice va j vc) j _ (by rfl) (Ext.owns (by repeat (first | with_reducible exact Ext.refl _ | with_reducible refine Ext.drew ?_ | with_reducible refine Ext.alloc ?_ _)) HO0.out) ⟨_, 0, none⟩ 1 1 [.int .u64 (z : Int)] (by rfl) (by rfl) (World.news_of_block (by first | exact heap_alloc_new _ _ | exact at_drew (heap_alloc_new _ _))) (by simp [Value.oneCell']) (by decide) (by unfold maxLen; omega) (by omega) (by simp; omega) _ rfl ?_
      intro g cap w5 hown5 hgrow5 hat5 hlt5
      have HT5 : Hid (Turn (fun b => lH (.slice va j vc) = some b) wr w5) := Turn.grown (Turn.of_ext (by repeat (first | with_reducible exact Ext.refl _ | with_reducible refine Ext.drew ?_ | with_reducible refine Ext.alloc ?_ _))) hgrow5 (fun q hq _ => hq)
      have HOW : Hid (w5.ownsRow W.heap.size 146 1 (.slice (some ⟨g, 0, none⟩) (j + 1) cap) (j + 1) (_ ++ [.int .u64 (z : Int)])) := hown5
      have HAT : Hid (lH (.slice va j vc) = some g \/ wr.heap.size <= g) := by
       rcases hat5 with h | h
       ·exact .inl h
       ·exact .inr (by rw [h]; exact (Turn.of_ext (by repeat (first | with_reducible exact Ext.refl _ | with_reducible refine Ext.drew ?_ | with_reducible refine Ext.alloc ?_ _)) : Turn (fun _ => False) wr _).size)
      have HB5 : Hid _ := HT5.out.ref HB.out (fun e => HNR0.out e)
      have y1b : w5.cell? ⟨rb, 0, none⟩ = some (.slice va j vc) := cell_at HB5.out rfl
      have f1b := frozen_row HB5.out 0
      refine hK.out _ _ trivial (fun hHeld => ?_)
      clear hK K hown5 hgrow5 hat5
      try simp only [Act.put, lA, lB, lC, lD, lE, lF]
      refine zT 16 hHeld ?_
      refine wpAnyH_ready (rs := [17]) (by kernel_rfl) (by simp) ?_
      refine AllReadyH.cons (o := _) rfl (fun K hK => ?_) AllReadyH.nil
      (try simp only [lA, lB, lC])
      go_simp
      have hB6 : (w5.setCell ⟨rb, 0, none⟩ (.slice (some ⟨g, 0, none⟩) (j + 1) cap)).heap[rb]? = some (.cells #[.slice (some ⟨g, 0, none⟩) (j + 1) cap, .slice vb 0 vd] 176 (0, 0)) := setCell_row HB5.out _
      have hgP : g ≠ rb := by
       rcases HAT.out with h | h
       ·exact fun e => HNR0.out (by rw [<- e]; exact h)
       ·have := (Array.getElem?_eq_some_iff.1 HB.out).1
        omega
      have hO6 := owns_setCell HOW.out (a := ⟨rb, 0, none⟩) (by simpa [lH] using hgP) (.slice (some ⟨g, 0, none⟩) (j + 1) cap)
      have hO7 := owns_setCell (HT5.out.owns HO1.out (fun b hb e => HAP.out b e hb)) (a := ⟨rb, 0, none⟩) (fun e => HNR1.out e) (.slice (some ⟨g, 0, none⟩) (j + 1) cap)
      have hT6 : Turn (fun b => b = rb) W (w5.setCell ⟨rb, 0, none⟩ (.slice (some ⟨g, 0, none⟩) (j + 1) cap)) := Turn.setCell (S := fun b => b = rb) (p := ⟨rb, 0, none⟩) (HTW.out.trans' HT5.out (fun b hb e => by have := (World.ownsRow.lt HO0.out b e).1; omega)) (fun _ => rfl) _
      have hap6 : g ≠ rb /\ ∀ b, lH (.slice vb 0 vd) = some b -> b ≠ g := ⟨hgP, fun b hb e => by
       subst e
       rcases HAT.out with h | h
       ·exact HAP.out b h hb
       ·have := (World.ownsRow.lt HO1.out b hb).2
        omega⟩
      have HF6 : Hid _ := And.intro hB6 (And.intro hO6 (And.intro hO7 (And.intro hT6 hap6)))
      refine hK.out _ _ trivial (fun hHeld => ?_)
      clear hK K hB6 hgP hO6 hO7 hT6 hap6 y1b f1b hHeld
      try simp only [Act.put, lA, lB, lC, lD, lE, lF]
      refine wpAnyH_done (by kernel_rfl) ?_ _
      generalize World.setCell w5 _ _ = w6 at HF6 ⊢
      go_wp2
      go_roundw
      case rel =>
       have hr := HRel0.out w6 g cap HF6.out.2.1 HF6.out.2.2.1 HF6.out.2.2.2.2
       exact ⟨j + 1, _, _, by omega, by go_num, HF6.out.1, hr.1, hr.2.1, hr.2.2, HF6.out.2.2.2.1⟩
      case measure => simp [intOf]; omega
     ·skip
      (try simp only [lA, lB, lC])
      go_simp
      refine hK.out _ _ trivial (fun hHeld => ?_)
      clear hK K
      try simp only [Act.put, lA, lB, lC, lD, lE, lF]
      refine wpAnyH_ready (rs := [7]) (by kernel_rfl) (by simp) ?_
      refine AllReadyH.cons (o := _) rfl (fun K hK => ?_) AllReadyH.nil
      (try simp only [lA, lB, lC])
      go_simp
      refine hK.out _ _ trivial (fun hHeld => ?_)
      clear hK K
      try simp only [Act.put, lA, lB, lC, lD, lE, lF]
      refine wpAnyH_ready (rs := [15]) (by kernel_rfl) (by simp) ?_
      refine AllReadyH.cons (o := _) rfl (fun K hK => ?_) AllReadyH.nil
      refine step_append_lies _ (by rfl) _ _ 31 (by rfl) W.heap.size 146 i0 _ 1 8 Tryz.underlying31 hi hz0 hz1 hz2 (by rfl) (by decide) (.slice va j vc) j _ (by rfl) (Ext.owns (by repeat (first | with_reducible exact Ext.refl _ | with_reducible refine Ext.drew ?_ | with_reducible refine Ext.alloc ?_ _)) HO0.out) ⟨_, 0, none⟩ 1 1 [.int .u64 (z : Int)] (by rfl) (by rfl) (World.news_of_block (by first | exact heap_alloc_new _ _ | exact at_drew (heap_alloc_new _ _))) (by simp [Value.oneCell']) (by decide) (by unfold maxLen; omega) (by omega) (by simp; omega) _ rfl ?_
      intro g cap w5 hown5 hgrow5 hat5 hlt5
      have HT5 : Hid (Turn (fun b => lH (.slice va j vc) = some b) wr w5) := Turn.grown (Turn.of_ext (by repeat (first | with_reducible exact Ext.refl _ | with_reducible refine Ext.drew ?_ | with_reducible refine Ext.alloc ?_ _))) hgrow5 (fun q hq _ => hq)
      have HOW : Hid (w5.ownsRow W.heap.size 146 1 (.slice (some ⟨g, 0, none⟩) (j + 1) cap) (j + 1) (_ ++ [.int .u64 (z : Int)])) := hown5
      have HAT : Hid (lH (.slice va j vc) = some g \/ wr.heap.size <= g) := by
       rcases hat5 with h | h
       ·exact .inl h
       ·exact .inr (by rw [h]; exact (Turn.of_ext (by repeat (first | with_reducible exact Ext.refl _ | with_reducible refine Ext.drew ?_ | with_reducible refine Ext.alloc ?_ _)) : Turn (fun _ => False) wr _).size)
      have HB5 : Hid _ := HT5.out.ref HB.out (fun e => HNR0.out e)
      have y1b : w5.cell? ⟨rb, 0, none⟩ = some (.slice va j vc) := cell_at HB5.out rfl
      have f1b := frozen_row HB5.out 0
      refine hK.out _ _ trivial (fun hHeld => ?_)
      clear hK K hown5 hgrow5 hat5
      try simp only [Act.put, lA, lB, lC, lD, lE, lF]
      refine zT 16 hHeld ?_
      refine wpAnyH_ready (rs := [17]) (by kernel_rfl) (by simp) ?_
      refine AllReadyH.cons (o := _) rfl (fun K hK => ?_) AllReadyH.nil
      (try simp only [lA, lB, lC])
      go_simp
      have hB6 : (w5.setCell ⟨rb, 0, none⟩ (.slice (some ⟨g, 0, none⟩) (j + 1) cap)).heap[rb]? = some (.cells #[.slice (some ⟨g, 0, none⟩) (j + 1) cap, .slice vb 0 vd] 176 (0, 0)) := setCell_row HB5.out _
      have hgP : g ≠ rb := by
       rcases HAT.out with h | h
       ·exact fun e => HNR0.out (by rw [<- e]; exact h)
       ·have := (Array.getElem?_eq_some_iff.1 HB.out).1
        omega
      have hO6 := owns_setCell HOW.out (a := ⟨rb, 0, none⟩) (by simpa [lH] using hgP) (.slice (some ⟨g, 0, none⟩) (j + 1) cap)
      have hO7 := owns_setCell (HT5.out.owns HO1.out (fun b hb e => HAP.out b e hb)) (a := ⟨rb, 0, none⟩) (fun e => HNR1.out e) (.slice (some ⟨g, 0, none⟩) (j + 1) cap)
      have hT6 : Turn (fun b => b = rb) W (w5.setCell ⟨rb, 0, none⟩ (.slice (some ⟨g, 0, none⟩) (j + 1) cap)) := Turn.setCell (S := fun b => b = rb) (p := ⟨rb, 0, none⟩) (HTW.out.trans' HT5.out (fun b hb e => by have := (World.ownsRow.lt HO0.out b e).1; omega)) (fun _ => rfl) _
      have hap6 : g ≠ rb /\ ∀ b, lH (.slice vb 0 vd) = some b -> b ≠ g := ⟨hgP, fun b hb e => by
       subst e
       rcases HAT.out with h | h
       ·exact HAP.out b h hb
       ·have := (World.ownsRow.lt HO1.out b hb).2
        omega⟩
      have HF6 : Hid _ := And.intro hB6 (And.intro hO6 (And.intro hO7 (And.intro hT6 hap6)))
      refine hK.out _ _ trivial (fun hHeld => ?_)
      clear hK K hB6 hgP hO6 hO7 hT6 hap6 y1b f1b hHeld
      try simp only [Act.put, lA, lB, lC, lD, lE, lF]
      refine wpAnyH_done (by kernel_rfl) ?_ _
      generalize World.setCell w5 _ _ = w6 at HF6 ⊢
      go_wp2
      go_roundw
      case rel =>
       have hr := HRel0.out w6 g cap HF6.out.2.1 HF6.out.2.2.1 HF6.out.2.2.2.2
       exact ⟨j + 1, _, _, by omega, by go_num, HF6.out.1, hr.1, hr.2.1, hr.2.2, HF6.out.2.2.2.1⟩
      case measure => simp [intOf]; omega
   ·have hq : Int.tdiv (j : Int) (L : Int) = 1 := by
     rw [Int.tdiv_eq_ediv_of_nonneg (by omega)]
     have h1 : (L : Int) <= j := by omega
     have : (j : Int) / (L : Int) = 1 := by
      rw [Int.ediv_eq_iff_of_pos (by omega)]
      omega
     exact this
    obtain ⟨t, ht⟩ : ∃ t, j - L = t := ⟨_, rfl⟩
    rw [Nat.min_eq_right (by omega)] at ho0
    rw [ht] at ho1
    have htl : t < L := by omega
    have HTJ : Hid (j = L + t) := by show _ = _; omega
    clear ht
    obtain ⟨va, vc, rfl⟩ := owns_slice ho0
    obtain ⟨vb, vd, rfl⟩ := owns_slice ho1
    have HO0 : Hid (wr.ownsRow W.heap.size 146 1 (.slice va L vc) L ((rawW D L).map (Value.int .u64))) := ho0
    have HO1 : Hid (wr.ownsRow W.heap.size 146 1 (.slice vb t vd) t (((rawW D j).drop L).map (Value.int .u64))) := ho1
    have HAP : Hid (∀ b, lH (.slice va L vc) = some b -> lH (.slice vb t vd) = some b -> False) := hap
    have HRel1 : Hid (∀ (w6 : World) (g cap : Nat), w6.ownsRow W.heap.size 146 1 (.slice (some ⟨g, 0, none⟩) (t + 1) cap) (t + 1) (((rawW D j).drop L).map (Value.int .u64) ++ [.int .u64 (z : Int)]) -> w6.ownsRow W.heap.size 146 1 (.slice va L vc) L ((rawW D L).map (Value.int .u64)) -> (g ≠ rb /\ ∀ b, lH (.slice va L vc) = some b -> b ≠ g) -> w6.ownsRow W.heap.size 146 1 (.slice va L vc) (min (j + 1) L) ((rawW D (min (j + 1) L)).map (Value.int .u64)) /\ w6.ownsRow W.heap.size 146 1 (.slice (some ⟨g, 0, none⟩) (t + 1) cap) (j + 1 - L) (((rawW D (j + 1)).drop L).map (Value.int .u64)) /\ ∀ b, lH (.slice va L vc) = some b -> lH (.slice (some ⟨g, 0, none⟩) (t + 1) cap) = some b -> False) := fun w6 g cap k1 k2 k3 => by
     have htj := HTJ.out
     refine ⟨?_, ?_, fun b e1 e2 => k3.2 b e1 (by simpa [lH] using e2.symm)⟩
     ·rw [Nat.min_eq_right (by omega)]; exact k2
     ·rw [show j + 1 - L = t + 1 by omega, HRW.out, List.drop_append_of_le_length (by rw [rawW_len]; omega), List.map_append]; exact k1
    clear ho0 ho1 hap
    go_wp2_with fail
    simp only [HA.out]
    have y0 : wr.cell? ⟨rb, 1, none⟩ = some (.slice vb t vd) := cell_at HB.out rfl
    refine wp_region_held_drew (S := (fun _ => True)) (by kernel_rfl) trivial (fun hHeld => ?_)
    refine zT 0 hHeld ?_
    refine zT 1 hHeld ?_
    refine zT 2 hHeld ?_
    refine zT 3 hHeld ?_
    refine zT 4 hHeld ?_
    refine zT 5 hHeld ?_
    refine zT 6 hHeld ?_
    refine zT 8 hHeld ?_
    refine zT 9 hHeld ?_
    refine zT 10 hHeld ?_
    refine zT 11 hHeld ?_
    refine zT 12 hHeld ?_
    refine wpAnyH_ready (rs := [7, 13]) (by kernel_rfl) (by simp) ?_
    refine AllReadyH.cons (o := _) rfl (fun K hK => ?_) (AllReadyH.cons (o := _) rfl (fun K hK => ?_) AllReadyH.nil)
    ·skip
     (try simp only [lA, lB, lC])
     go_simp
     refine hK.out _ _ trivial (fun hHeld => ?_)
     clear hK K
     try simp only [Act.put, lA, lB, lC, lD, lE, lF]
     refine wpAnyH_ready (rs := [13]) (by kernel_rfl) (by simp) ?_
     refine AllReadyH.cons (o := _) rfl (fun K hK => ?_) AllReadyH.nil
     (try simp only [lA, lB, lC])
     go_simp
     refine (take8_c (s.extract at_ bt) (by have := HES.out; omega) _).mono ?_
     rintro e w4 ⟨rfl, rfl⟩
     simp only [HBE.out]
     refine hK.out _ _ trivial (fun hHeld => ?_)
     clear hK K
     try simp only [Act.put, lA, lB, lC, lD, lE, lF]
     refine wpAnyH_ready (rs := [14]) (by kernel_rfl) (by simp) ?_
     refine AllReadyH.cons (o := _) rfl (fun K hK => ?_) AllReadyH.nil
     (try simp only [lA, lB, lC])
     go_simp
     refine hK.out _ _ trivial (fun hHeld => ?_)
     clear hK K
     try simp only [Act.put, lA, lB, lC, lD, lE, lF]
     refine wpAnyH_ready (rs := [15]) (by kernel_rfl) (by simp) ?_
     refine AllReadyH.cons (o := _) rfl (fun K hK => ?_) AllReadyH.nil
     refine step_append_lies _ (by rfl) _ _ 31 (by rfl) W.heap.size 146 i0 _ 1 8 Tryz.underlying31 hi hz0 hz1 hz2 (by rfl) (by decide) (.slice vb t vd) t _ (by rfl) (Ext.owns (by repeat (first | with_reducible exact Ext.refl _ | with_reducible refine Ext.drew ?_ | with_reducible refine Ext.alloc ?_ _)) HO1.out) ⟨_, 0, none⟩ 1 1 [.int .u64 (z : Int)] (by rfl) (by rfl) (World.news_of_block (by first | exact heap_alloc_new _ _ | exact at_drew (heap_alloc_new _ _))) (by simp [Value.oneCell']) (by decide) (by unfold maxLen; omega) (by omega) (by simp; omega) _ rfl ?_
     intro g cap w5 hown5 hgrow5 hat5 hlt5
     have HT5 : Hid (Turn (fun b => lH (.slice vb t vd) = some b) wr w5) := Turn.grown (Turn.of_ext (by repeat (first | with_reducible exact Ext.refl _ | with_reducible refine Ext.drew ?_ | with_reducible refine Ext.alloc ?_ _))) hgrow5 (fun q hq _ => hq)
     have HOW : Hid (w5.ownsRow W.heap.size 146 1 (.slice (some ⟨g, 0, none⟩) (t + 1) cap) (t + 1) (_ ++ [.int .u64 (z : Int)])) := hown5
     have HAT : Hid (lH (.slice vb t vd) = some g \/ wr.heap.size <= g) := by
      rcases hat5 with h | h
      ·exact .inl h
      ·exact .inr (by rw [h]; exact (Turn.of_ext (by repeat (first | with_reducible exact Ext.refl _ | with_reducible refine Ext.drew ?_ | with_reducible refine Ext.alloc ?_ _)) : Turn (fun _ => False) wr _).size)
     have HB5 : Hid _ := HT5.out.ref HB.out (fun e => HNR1.out e)
     have y1b : w5.cell? ⟨rb, 1, none⟩ = some (.slice vb t vd) := cell_at HB5.out rfl
     have f1b := frozen_row HB5.out 1
     refine hK.out _ _ trivial (fun hHeld => ?_)
     clear hK K hown5 hgrow5 hat5
     try simp only [Act.put, lA, lB, lC, lD, lE, lF]
     refine zT 16 hHeld ?_
     refine wpAnyH_ready (rs := [17]) (by kernel_rfl) (by simp) ?_
     refine AllReadyH.cons (o := _) rfl (fun K hK => ?_) AllReadyH.nil
     (try simp only [lA, lB, lC])
     go_simp
     have hB6 : (w5.setCell ⟨rb, 1, none⟩ (.slice (some ⟨g, 0, none⟩) (t + 1) cap)).heap[rb]? = some (.cells #[.slice va L vc, .slice (some ⟨g, 0, none⟩) (t + 1) cap] 176 (0, 0)) := setCell_row HB5.out _
     have hgP : g ≠ rb := by
      rcases HAT.out with h | h
      ·exact fun e => HNR1.out (by rw [<- e]; exact h)
      ·have := (Array.getElem?_eq_some_iff.1 HB.out).1
       omega
     have hO6 := owns_setCell HOW.out (a := ⟨rb, 1, none⟩) (by simpa [lH] using hgP) (.slice (some ⟨g, 0, none⟩) (t + 1) cap)
     have hO7 := owns_setCell (HT5.out.owns HO0.out (fun b hb e => HAP.out b hb e)) (a := ⟨rb, 1, none⟩) (fun e => HNR0.out e) (.slice (some ⟨g, 0, none⟩) (t + 1) cap)
     have hT6 : Turn (fun b => b = rb) W (w5.setCell ⟨rb, 1, none⟩ (.slice (some ⟨g, 0, none⟩) (t + 1) cap)) := Turn.setCell (S := fun b => b = rb) (p := ⟨rb, 1, none⟩) (HTW.out.trans' HT5.out (fun b hb e => by have := (World.ownsRow.lt HO1.out b e).1; omega)) (fun _ => rfl) _
     have hap6 : g ≠ rb /\ ∀ b, lH (.slice va L vc) = some b -> b ≠ g := ⟨hgP, fun b hb e => by
      subst e
      rcases HAT.out with h | h
      ·exact HAP.out b hb h
      ·have := (World.ownsRow.lt HO0.out b hb).2
       omega⟩
     have HF6 : Hid _ := And.intro hB6 (And.intro hO6 (And.intro hO7 (And.intro hT6 hap6)))
     refine hK.out _ _ trivial (fun hHeld => ?_)
     clear hK K hB6 hgP hO6 hO7 hT6 hap6 y1b f1b hHeld
     try simp only [Act.put, lA, lB, lC, lD, lE, lF]
     refine wpAnyH_done (by kernel_rfl) ?_ _
     generalize World.setCell w5 _ _ = w6 at HF6 ⊢
     go_wp2
     go_roundw
     case rel =>
      have hr := HRel1.out w6 g cap HF6.out.2.1 HF6.out.2.2.1 HF6.out.2.2.2.2
      exact ⟨j + 1, _, _, by omega, by go_num, HF6.out.1, hr.1, hr.2.1, hr.2.2, HF6.out.2.2.2.1⟩
     case measure => simp [intOf]; omega
    ·skip
     (try simp only [lA, lB, lC])
     go_simp
     refine (take8_c (s.extract at_ bt) (by have := HES.out; omega) _).mono ?_
     rintro e w4 ⟨rfl, rfl⟩
     simp only [HBE.out]
     refine hK.out _ _ trivial (fun hHeld => ?_)
     clear hK K
     try simp only [Act.put, lA, lB, lC, lD, lE, lF]
     refine wpAnyH_ready (rs := [7, 14]) (by kernel_rfl) (by simp) ?_
     refine AllReadyH.cons (o := _) rfl (fun K hK => ?_) (AllReadyH.cons (o := _) rfl (fun K hK => ?_) AllReadyH.nil)
     ·skip
      (try simp only [lA, lB, lC])
      go_simp
      refine hK.out _ _ trivial (fun hHeld => ?_)
      clear hK K
      try simp only [Act.put, lA, lB, lC, lD, lE, lF]
      refine wpAnyH_ready (rs := [14]) (by kernel_rfl) (by simp) ?_
      refine AllReadyH.cons (o := _) rfl (fun K hK => ?_) AllReadyH.nil
      (try simp only [lA, lB, lC])
      go_simp
      refine hK.out _ _ trivial (fun hHeld => ?_)
      clear hK K
      try simp only [Act.put, lA, lB, lC, lD, lE, lF]
      refine wpAnyH_ready (rs := [15]) (by kernel_rfl) (by simp) ?_
      refine AllReadyH.cons (o := _) rfl (fun K hK => ?_) AllReadyH.nil
      refine step_append_lies _ (by rfl) _ _ 31 (by rfl) W.heap.size 146 i0 _ 1 8 Tryz.underlying31 hi hz0 hz1 hz2 (by rfl) (by decide) (.slice vb t vd) t _ (by rfl) (Ext.owns (by repeat (first | with_reducible exact Ext.refl _ | with_reducible refine Ext.drew ?_ | with_reducible refine Ext.alloc ?_ _)) HO1.out) ⟨_, 0, none⟩ 1 1 [.int .u64 (z : Int)] (by rfl) (by rfl) (World.news_of_block (by first | exact heap_alloc_new _ _ | exact at_drew (heap_alloc_new _ _))) (by simp [Value.oneCell']) (by decide) (by unfold maxLen; omega) (by omega) (by simp; omega) _ rfl ?_
      intro g cap w5 hown5 hgrow5 hat5 hlt5
      have HT5 : Hid (Turn (fun b => lH (.slice vb t vd) = some b) wr w5) := Turn.grown (Turn.of_ext (by repeat (first | with_reducible exact Ext.refl _ | with_reducible refine Ext.drew ?_ | with_reducible refine Ext.alloc ?_ _))) hgrow5 (fun q hq _ => hq)
      have HOW : Hid (w5.ownsRow W.heap.size 146 1 (.slice (some ⟨g, 0, none⟩) (t + 1) cap) (t + 1) (_ ++ [.int .u64 (z : Int)])) := hown5
      have HAT : Hid (lH (.slice vb t vd) = some g \/ wr.heap.size <= g) := by
       rcases hat5 with h | h
       ·exact .inl h
       ·exact .inr (by rw [h]; exact (Turn.of_ext (by repeat (first | with_reducible exact Ext.refl _ | with_reducible refine Ext.drew ?_ | with_reducible refine Ext.alloc ?_ _)) : Turn (fun _ => False) wr _).size)
      have HB5 : Hid _ := HT5.out.ref HB.out (fun e => HNR1.out e)
      have y1b : w5.cell? ⟨rb, 1, none⟩ = some (.slice vb t vd) := cell_at HB5.out rfl
      have f1b := frozen_row HB5.out 1
      refine hK.out _ _ trivial (fun hHeld => ?_)
      clear hK K hown5 hgrow5 hat5
      try simp only [Act.put, lA, lB, lC, lD, lE, lF]
      refine zT 16 hHeld ?_
      refine wpAnyH_ready (rs := [17]) (by kernel_rfl) (by simp) ?_
      refine AllReadyH.cons (o := _) rfl (fun K hK => ?_) AllReadyH.nil
      (try simp only [lA, lB, lC])
      go_simp
      have hB6 : (w5.setCell ⟨rb, 1, none⟩ (.slice (some ⟨g, 0, none⟩) (t + 1) cap)).heap[rb]? = some (.cells #[.slice va L vc, .slice (some ⟨g, 0, none⟩) (t + 1) cap] 176 (0, 0)) := setCell_row HB5.out _
      have hgP : g ≠ rb := by
       rcases HAT.out with h | h
       ·exact fun e => HNR1.out (by rw [<- e]; exact h)
       ·have := (Array.getElem?_eq_some_iff.1 HB.out).1
        omega
      have hO6 := owns_setCell HOW.out (a := ⟨rb, 1, none⟩) (by simpa [lH] using hgP) (.slice (some ⟨g, 0, none⟩) (t + 1) cap)
      have hO7 := owns_setCell (HT5.out.owns HO0.out (fun b hb e => HAP.out b hb e)) (a := ⟨rb, 1, none⟩) (fun e => HNR0.out e) (.slice (some ⟨g, 0, none⟩) (t + 1) cap)
      have hT6 : Turn (fun b => b = rb) W (w5.setCell ⟨rb, 1, none⟩ (.slice (some ⟨g, 0, none⟩) (t + 1) cap)) := Turn.setCell (S := fun b => b = rb) (p := ⟨rb, 1, none⟩) (HTW.out.trans' HT5.out (fun b hb e => by have := (World.ownsRow.lt HO1.out b e).1; omega)) (fun _ => rfl) _
      have hap6 : g ≠ rb /\ ∀ b, lH (.slice va L vc) = some b -> b ≠ g := ⟨hgP, fun b hb e => by
       subst e
       rcases HAT.out with h | h
       ·exact HAP.out b hb h
       ·have := (World.ownsRow.lt HO0.out b hb).2
        omega⟩
      have HF6 : Hid _ := And.intro hB6 (And.intro hO6 (And.intro hO7 (And.intro hT6 hap6)))
      refine hK.out _ _ trivial (fun hHeld => ?_)
      clear hK K hB6 hgP hO6 hO7 hT6 hap6 y1b f1b hHeld
      try simp only [Act.put, lA, lB, lC, lD, lE, lF]
      refine wpAnyH_done (by kernel_rfl) ?_ _
      generalize World.setCell w5 _ _ = w6 at HF6 ⊢
      go_wp2
      go_roundw
      case rel =>
       have hr := HRel1.out w6 g cap HF6.out.2.1 HF6.out.2.2.1 HF6.out.2.2.2.2
       exact ⟨j + 1, _, _, by omega, by go_num, HF6.out.1, hr.1, hr.2.1, hr.2.2, HF6.out.2.2.2.1⟩
      case measure => simp [intOf]; omega
     ·skip
      (try simp only [lA, lB, lC])
      go_simp
      refine hK.out _ _ trivial (fun hHeld => ?_)
      clear hK K
      try simp only [Act.put, lA, lB, lC, lD, lE, lF]
      refine wpAnyH_ready (rs := [7]) (by kernel_rfl) (by simp) ?_
      refine AllReadyH.cons (o := _) rfl (fun K hK => ?_) AllReadyH.nil
      (try simp only [lA, lB, lC])
      go_simp
      refine hK.out _ _ trivial (fun hHeld => ?_)
      clear hK K
      try simp only [Act.put, lA, lB, lC, lD, lE, lF]
      refine wpAnyH_ready (rs := [15]) (by kernel_rfl) (by simp) ?_
      refine AllReadyH.cons (o := _) rfl (fun K hK => ?_) AllReadyH.nil
      refine step_append_lies _ (by rfl) _ _ 31 (by rfl) W.heap.size 146 i0 _ 1 8 Tryz.underlying31 hi hz0 hz1 hz2 (by rfl) (by decide) (.slice vb t vd) t _ (by rfl) (Ext.owns (by repeat (first | with_reducible exact Ext.refl _ | with_reducible refine Ext.drew ?_ | with_reducible refine Ext.alloc ?_ _)) HO1.out) ⟨_, 0, none⟩ 1 1 [.int .u64 (z : Int)] (by rfl) (by rfl) (World.news_of_block (by first | exact heap_alloc_new _ _ | exact at_drew (heap_alloc_new _ _))) (by simp [Value.oneCell']) (by decide) (by unfold maxLen; omega) (by omega) (by simp; omega) _ rfl ?_
      intro g cap w5 hown5 hgrow5 hat5 hlt5
      have HT5 : Hid (Turn (fun b => lH (.slice vb t vd) = some b) wr w5) := Turn.grown (Turn.of_ext (by repeat (first | with_reducible exact Ext.refl _ | with_reducible refine Ext.drew ?_ | with_reducible refine Ext.alloc ?_ _))) hgrow5 (fun q hq _ => hq)
      have HOW : Hid (w5.ownsRow W.heap.size 146 1 (.slice (some ⟨g, 0, none⟩) (t + 1) cap) (t + 1) (_ ++ [.int .u64 (z : Int)])) := hown5
      have HAT : Hid (lH (.slice vb t vd) = some g \/ wr.heap.size <= g) := by
       rcases hat5 with h | h
       ·exact .inl h
       ·exact .inr (by rw [h]; exact (Turn.of_ext (by repeat (first | with_reducible exact Ext.refl _ | with_reducible refine Ext.drew ?_ | with_reducible refine Ext.alloc ?_ _)) : Turn (fun _ => False) wr _).size)
      have HB5 : Hid _ := HT5.out.ref HB.out (fun e => HNR1.out e)
      have y1b : w5.cell? ⟨rb, 1, none⟩ = some (.slice vb t vd) := cell_at HB5.out rfl
      have f1b := frozen_row HB5.out 1
      refine hK.out _ _ trivial (fun hHeld => ?_)
      clear hK K hown5 hgrow5 hat5
      try simp only [Act.put, lA, lB, lC, lD, lE, lF]
      refine zT 16 hHeld ?_
      refine wpAnyH_ready (rs := [17]) (by kernel_rfl) (by simp) ?_
      refine AllReadyH.cons (o := _) rfl (fun K hK => ?_) AllReadyH.nil
      (try simp only [lA, lB, lC])
      go_simp
      have hB6 : (w5.setCell ⟨rb, 1, none⟩ (.slice (some ⟨g, 0, none⟩) (t + 1) cap)).heap[rb]? = some (.cells #[.slice va L vc, .slice (some ⟨g, 0, none⟩) (t + 1) cap] 176 (0, 0)) := setCell_row HB5.out _
      have hgP : g ≠ rb := by
       rcases HAT.out with h | h
       ·exact fun e => HNR1.out (by rw [<- e]; exact h)
       ·have := (Array.getElem?_eq_some_iff.1 HB.out).1
        omega
      have hO6 := owns_setCell HOW.out (a := ⟨rb, 1, none⟩) (by simpa [lH] using hgP) (.slice (some ⟨g, 0, none⟩) (t + 1) cap)
      have hO7 := owns_setCell (HT5.out.owns HO0.out (fun b hb e => HAP.out b hb e)) (a := ⟨rb, 1, none⟩) (fun e => HNR0.out e) (.slice (some ⟨g, 0, none⟩) (t + 1) cap)
      have hT6 : Turn (fun b => b = rb) W (w5.setCell ⟨rb, 1, none⟩ (.slice (some ⟨g, 0, none⟩) (t + 1) cap)) := Turn.setCell (S := fun b => b = rb) (p := ⟨rb, 1, none⟩) (HTW.out.trans' HT5.out (fun b hb e => by have := (World.ownsRow.lt HO1.out b e).1; omega)) (fun _ => rfl) _
      have hap6 : g ≠ rb /\ ∀ b, lH (.slice va L vc) = some b -> b ≠ g := ⟨hgP, fun b hb e => by
       subst e
       rcases HAT.out with h | h
       ·exact HAP.out b hb h
       ·have := (World.ownsRow.lt HO0.out b hb).2
        omega⟩
      have HF6 : Hid _ := And.intro hB6 (And.intro hO6 (And.intro hO7 (And.intro hT6 hap6)))
      refine hK.out _ _ trivial (fun hHeld => ?_)
      clear hK K hB6 hgP hO6 hO7 hT6 hap6 y1b f1b hHeld
      try simp only [Act.put, lA, lB, lC, lD, lE, lF]
      refine wpAnyH_done (by kernel_rfl) ?_ _
      generalize World.setCell w5 _ _ = w6 at HF6 ⊢
      go_wp2
      go_roundw
      case rel =>
       have hr := HRel1.out w6 g cap HF6.out.2.1 HF6.out.2.2.1 HF6.out.2.2.2.2
       exact ⟨j + 1, _, _, by omega, by go_num, HF6.out.1, hr.1, hr.2.1, hr.2.2, HF6.out.2.2.2.1⟩
      case measure => simp [intOf]; omega
  ·have hin : ¬ (j : Int) < 2 * (L : Int) := by omega
   have hjj : j = 2 * L := by omega
   rw [hjj, Nat.min_eq_right (by omega)] at ho0
   rw [hjj, show 2 * L - L = L by omega] at ho1
   obtain ⟨a0, c0, rfl⟩ : ∃ a0 c0, v0 = .slice (some ⟨a0, 0, none⟩) L c0 := by
    rcases owns_form ho0 with ⟨_, h, _⟩ | ⟨g, cap, h, _⟩
    ·omega
    ·exact ⟨g, cap, h⟩
   obtain ⟨a1, c1, rfl⟩ : ∃ a1 c1, v1 = .slice (some ⟨a1, 0, none⟩) L c1 := by
    rcases owns_form ho1 with ⟨_, h, _⟩ | ⟨g, cap, h, _⟩
    ·omega
    ·exact ⟨g, cap, h⟩
   have HO0 : Hid (wr.ownsRow W.heap.size 146 1 (.slice (some ⟨a0, 0, none⟩) L c0) L ((rawW D L).map (Value.int .u64))) := ho0
   have HO1 : Hid (wr.ownsRow W.heap.size 146 1 (.slice (some ⟨a1, 0, none⟩) L c1) L (((rawW D (2 * L)).drop L).map (Value.int .u64))) := ho1
   have b0 : wr.cell? ⟨rb, 0, none⟩ = some (.slice (some ⟨a0, 0, none⟩) L c0) := cell_at HB.out rfl
   have b1 : wr.cell? ⟨rb, 1, none⟩ = some (.slice (some ⟨a1, 0, none⟩) L c1) := cell_at HB.out rfl
   have f0 := frozen_row HB.out 0
   have f1 := frozen_row HB.out 1
   clear ho0 ho1 hap hb hjj hlt2 hj
   go_wp2
   have hb1 : ((wr.setCell ⟨rb, 0, none⟩ (.slice (some ⟨a0, 0, none⟩) L c0)).setCell ⟨rb, 1, none⟩ (.slice (some ⟨a1, 0, none⟩) L c1)).heap[rb]? = some (.cells #[.slice (some ⟨a0, 0, none⟩) L c0, .slice (some ⟨a1, 0, none⟩) L c1] 176 (0, 0)) := setCell_row (setCell_row HB.out _) _
   have k0 := cell_at hb1 (i := 0) rfl
   have k1 := cell_at hb1 (i := 1) rfl
   have hT6 : Turn (fun b => b = rb) W ((wr.setCell ⟨rb, 0, none⟩ (.slice (some ⟨a0, 0, none⟩) L c0)).setCell ⟨rb, 1, none⟩ (.slice (some ⟨a1, 0, none⟩) L c1)) := Turn.setCell (S := fun b => b = rb) (p := ⟨rb, 1, none⟩) (Turn.setCell (S := fun b => b = rb) (p := ⟨rb, 0, none⟩) HTW.out (fun _ => rfl) _) (fun _ => rfl) _
   have hO0 := owns_setCell (owns_setCell HO0.out (a := ⟨rb, 0, none⟩) (fun e => HNR0.out e) (.slice (some ⟨a0, 0, none⟩) L c0)) (a := ⟨rb, 1, none⟩) (fun e => HNR0.out e) (.slice (some ⟨a1, 0, none⟩) L c1)
   have hO1 := owns_setCell (owns_setCell HO1.out (a := ⟨rb, 0, none⟩) (fun e => HNR1.out e) (.slice (some ⟨a0, 0, none⟩) L c0)) (a := ⟨rb, 1, none⟩) (fun e => HNR1.out e) (.slice (some ⟨a1, 0, none⟩) L c1)
   generalize World.setCell (World.setCell wr _ _) _ _ = w6 at hb1 k0 k1 hT6 hO0 hO1 ⊢
   refine bodyPost_ret (v := .tuple #[.agg #[.slice (some ⟨a0, 0, none⟩) L c0, .slice (some ⟨a1, 0, none⟩) L c1], .int .i64 (1 + 2 * (L : Int) * 8)]) (by simp [results, Tryz.results186, go_sem, k0, k1]) rfl ⟨a0, c0, a1, c1, rfl, ?_, ?_, ?_⟩
   ·rw [<- List.map_take, rawW_take]
    exact owns_base hO0 HXW.out.le
   ·rw [<- List.map_drop]
    exact owns_base hO1 HXW.out.le
   ·exact Turn.ext ((Turn.of_ext (S := fun _ => False) HXW.out).trans' hT6 (fun b hb e => by have := HRB.out; omega))
end
end Go.Proofs.YtmnjhhachdlmkaaGreat
