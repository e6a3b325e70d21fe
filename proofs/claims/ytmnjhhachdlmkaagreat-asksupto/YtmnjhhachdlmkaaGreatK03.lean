import Derived.Maps.OwnSet
import Derived.Test.YtmnjhhachdlmkaaGreatK01
import Derived.Test.YtmnjhhachdlmkaaGreatK02
namespace Go.Proofs.YtmnjhhachdlmkaaGreat
-- Against
section
set_option maxRecDepth 100000
set_option maxHeartbeats 1600000
section
open Go.RowKit
def flatF (rs : List ByteArray) : List UInt8 := rs.flatMap fun r => frameB r.data.toList
theorem flatF_snoc (rs : List ByteArray) (r : ByteArray) : flatF (rs ++ [r]) = flatF rs ++ frameB r.data.toList := by simp [flatF]
theorem len_flatF (rs : List ByteArray) (h : ∀ r ∈ rs, r.size <= 100000) : (flatF rs).length <= rs.length * 100012 := by
 induction rs with
 | nil => simp [flatF]
 | cons r t ih =>
  have h1 := h r (by simp)
  have h2 := ih (fun x hx => h x (by simp [hx]))
  have h3 := len_frameB r.data.toList
  have h4 : r.data.toList.length = r.size := by simp
  simp only [flatF, List.flatMap_cons, List.length_append, List.length_cons] at h2 ⊢
  omega
def sDraft : ByteArray := ⟨#[115, 116, 111, 114, 101, 46, 110, 101, 119]⟩
def sFile : ByteArray := ⟨#[115, 116, 111, 114, 101]⟩
def sNone : ByteArray := ⟨#[]⟩
def opsNew (b : List UInt8) : List OpV := [⟨0, sDraft, sNone, ⟨b.toArray⟩⟩, ⟨2, sDraft, sNone, sNone⟩, ⟨3, sDraft, sFile, sNone⟩, ⟨4, sNone, sNone, sNone⟩]
def opsAdd (b : List UInt8) : List OpV := [⟨1, sFile, sNone, ⟨b.toArray⟩⟩, ⟨2, sFile, sNone, sNone⟩]
theorem replace_c (B rb rcap m k : Nat) (rs : List ByteArray) (sv lv dv : Value) (ah : Int) (kn : Bool) (xs : List Value) (w : World) (h : DealAt w B sv lv dv false ah kn) (ho : w.ownsRow 0 134 4 dv k xs)
  (hm : rs.length = m) (hm1 : 1 <= m) (hm2 : m <= 2000) (hr : ∀ r ∈ rs, r.size <= 100000) (hc : ∀ i (hi : i < rs.length), w.cell? ⟨rb, i, none⟩ = some (.string rs[i])) (hk : k <= 1000000) :
  Calls Tryz.prog 91 #[.pointer (some ⟨B, 2, none⟩), .slice (some ⟨rb, 0, none⟩) m rcap] w fun e w' =>
   ∃ dv', e = .returned (.bool true) /\ DealAt w' B sv lv dv' false ah true /\ w'.ownsRow 0 134 4 dv' (k + 4) (xs ++ opCells (opsNew (flatF rs))) /\ Turn (fun b => b = B \/ dv.ownBlock = some b) w w' /\ (∀ q, dv'.ownBlock = some q -> q < w.heap.size -> dv.ownBlock = some q) := by
 obtain ⟨i0, hi, hz0, hz1, hz2⟩ := info_parts infoU8
 have HD : Hid (DealAt w B sv lv dv false ah kn) := h
 have HO : Hid (w.ownsRow 0 134 4 dv k xs) := ho
 have HM : Hid (rs.length = m) := hm
 have HR : Hid (∀ r ∈ rs, r.size <= 100000) := hr
 have HC : Hid (∀ i (hi : i < rs.length), w.cell? ⟨rb, i, none⟩ = some (.string rs[i])) := hc
 clear h ho hm hr hc
 go_enter Tryz.func91, Tryz.ntmps91
 go_wp2
 go_loopw [5, 10] (fun u i wr => ∃ (j n : Nat), j <= m /\ i = .int .i64 j /\ (flatF (rs.take j)).length = n /\ wr.ownsRow w.heap.size 5 1 u n (byteV (flatF (rs.take j))) /\ Ext w wr) (fun _ i _ => m - (intOf i).toNat)
 case atStart => exact ⟨0, 0, Nat.zero_le _, rfl, rfl, World.ownsRow_nil _ _ _ _, Ext.refl _⟩
 case round =>
  obtain ⟨j, n, hj, rfl, hn, hor, hx⟩ := hrel
  have hn2 : n <= 2000 * 100012 := by
   rw [<- hn]
   have h1 := len_flatF (rs.take j) (fun r hr => HR.out r (List.mem_of_mem_take hr))
   have h2 : (rs.take j).length <= 2000 := by rw [List.length_take, HM.out]; omega
   exact Nat.le_trans h1 (Nat.mul_le_mul h2 (Nat.le_refl _))
  have HN : Hid ((flatF (rs.take j)).length = n) := hn
  have HOR : Hid (wr.ownsRow w.heap.size 5 1 u5 n (byteV (flatF (rs.take j)))) := hor
  have hlow := fun q hq => (World.ownsRow.lt hor q hq).1
  clear hn hor
  by_cases hlt : j < m
  ·have hjl : j < rs.length := by rw [HM.out]; exact hlt
   have k0 : wr.cell? ⟨rb, j, none⟩ = some (.string rs[j]) := hx.cell (HC.out j hjl)
   have hrs : rs[j].size <= 100000 := HR.out _ (List.getElem_mem hjl)
   have HF : Hid (flatF (rs.take (j + 1)) = flatF (rs.take j) ++ frameB rs[j].data.toList) := by
    show flatF (rs.take (j + 1)) = _
    rw [List.take_succ_eq_append_getElem hjl, flatF_snoc]
   have HFr : Hid _ := frame_c rs[j] (by omega)
   have hls : (frameB rs[j].data.toList).length = 12 + rs[j].size := by rw [len_frameB]; simp
   have HLS : Hid _ := hls
   generalize rs[j] = r at *
   have hsz : (⟨(frameB r.data.toList).toArray⟩ : ByteArray).size = 12 + r.size := by show (frameB r.data.toList).toArray.size = _; rw [List.size_toArray]; exact hls
   have HST : Hid (Lib.strCells ⟨(frameB r.data.toList).toArray⟩ = byteV (frameB r.data.toList)) := by
    show Lib.strCells ⟨(frameB r.data.toList).toArray⟩ = byteV (frameB r.data.toList)
    rw [strCells_eq]
   generalize hfr : (⟨(frameB r.data.toList).toArray⟩ : ByteArray) = fr at *
   clear hls hfr
   go_wp2_with fail
   refine (HFr.out _).mono ?_
   rintro e w1 ⟨rfl, hx1⟩
   have hw1 := (hx.trans hx1).le
   go_wp2_with (at_builtin; refine Lib.wpList_append_own_string _ rfl _ _ 136 9 rfl w.heap.size 5 i0 Tryz.underlying136 Tryz.underlying9 hi hz0 hz1 hz2 _ _ _ rfl (Ext.owns hx1 HOR.out) _ rfl ?c1 ?c2 ?c3 ?_)
   case c1 => rw [hsz]; unfold maxLen; omega
   case c2 => rw [hsz]; omega
   case c3 => exact hw1
   intro v3 w3 ho3 hg3 _
   have R2 : Ext w w3 := Ext.grown (hx.trans hx1) hg3 hlow
   have R1 : w3.ownsRow w.heap.size 5 1 v3 (n + (12 + r.size)) (byteV (flatF (rs.take (j + 1)))) := by
    rw [HF.out, byteV_append, <- HST.out]; exact ho3
   have R3 : (flatF (rs.take (j + 1))).length = n + (12 + r.size) := by rw [HF.out, List.length_append, HN.out, HLS.out]
   have HRR : Hid _ := And.intro R1 (And.intro R2 R3)
   clear R1 R2 R3 ho3 hg3
   go_wp2
   go_roundw
   case rel =>
    obtain ⟨R1, R2, R3⟩ := HRR.out
    exact ⟨j + 1, _, by omega, by go_num, R3, R1, R2⟩
   case measure => simp [intOf]; omega
  ·obtain rfl : m = j := by omega
   have hall : rs.take m = rs := List.take_of_length_le (by rw [HM.out]; exact Nat.le_refl _)
   rw [hall] at HOR HN
   have hn0 : 1 <= n := by
    rw [<- HN.out]
    match rs, HM.out, hm1 with
    | r :: t, _, _ =>
     have := len_frameB r.data.toList
     simp [flatF]; omega
    | [], h, h' => simp at h; omega
   obtain ⟨gb, cb, rfl, _, _⟩ := HOR.out.form (by omega)
   have hcv := conv_own HN.out (World.ownsRow.drew HOR.out)
   have HDr : Hid (DealAt wr B sv lv dv false ah kn) := hx.block HD.out
   have HOr : Hid (wr.ownsRow 0 134 4 dv k xs) := Ext.owns hx HO.out
   have HLT : Hid (∀ q, dv.ownBlock = some q -> q < wr.heap.size) := fun q hq => (World.ownsRow.lt HOr.out q hq).2
   have HX : Hid (Ext w wr) := hx
   generalize hFB : flatF rs = FB at *
   have HFB : Hid (flatF rs = FB) := hFB
   clear hFB
   clear HOR HN HC HR hall hx
   go_wp2_with fail
   go_region_with (first
    | (go_at_call 129
       refine (doOps_c B _ k 4 sv lv dv ah kn xs (opsNew FB) _ ?ca ?cb ?cc ?cd rfl (by omega) hk).mono ?_
       case ca => exact Ext.block (Ext.alloc (Ext.drew (Ext.refl _)) _) HDr.out
       case cb => exact Ext.owns (Ext.alloc (Ext.drew (Ext.refl _)) _) HOr.out
       case cc => exact heap_alloc_new _ _
       case cd => exact fun hq => absurd (HLT.out _ hq) (Nat.lt_irrefl _)
       rintro e w1 ⟨dv', rfl, hd1, ho1, ht1, hq1⟩
       have f5 := frozen_row hd1 5
       have c5 := (DealAt.cells hd1).2.2.2.2.2))
   have R0 : DealAt (w1.setCell ⟨B, 5, none⟩ (.bool true)) B sv lv dv' false ah true := setCell_row hd1 _
   have R1 : (w1.setCell ⟨B, 5, none⟩ (.bool true)).ownsRow 0 134 4 dv' (k + 4) (xs ++ opCells (opsNew FB)) := owns_setCell ho1 (row_ne (B := B) (t := 114) hd1 ho1 (by decide)) _
   have R2 : Turn (fun b => b = B \/ dv.ownBlock = some b) w (w1.setCell ⟨B, 5, none⟩ (.bool true)) :=
    Turn.setCell ((Turn.of_ext (Ext.alloc (Ext.drew HX.out) _)).trans ht1) (fun _ => .inl rfl) _
   have R3 : ∀ q, dv'.ownBlock = some q -> q < w.heap.size -> dv.ownBlock = some q := fun q hq hl => hq1 q hq (Nat.lt_of_lt_of_le hl (Ext.le (Ext.alloc (Ext.drew HX.out) _)))
   have HRR : Hid _ := And.intro R0 (And.intro R1 (And.intro R2 R3))
   clear R0 R1 R2 R3 hd1 ho1 ht1 hq1
   go_wp2
   go_ret
   obtain ⟨R0, R1, R2, R3⟩ := HRR.out
   rw [<- HFB.out] at R1
   exact ⟨dv', rfl, R0, R1, R2, R3⟩
end
section
open Go.RowKit
/-- Add where the file is known: the record is put behind the others. -/
theorem addKnown_c (B k : Nat) (r : ByteArray) (fv sv lv dv : Value) (ah : Int) (xs : List Value) (w : World) (h : DealAt w B sv lv dv false ah true) (ho : w.ownsRow 0 134 4 dv k xs) (hr : r.size <= 100000) (hk : k <= 1000000) :
  Calls Tryz.prog 144 #[.pointer (some ⟨B, 2, none⟩), .string r, fv] w fun e w' =>
   ∃ dv', e = .returned (.bool true) /\ DealAt w' B sv lv dv' false ah true /\ w'.ownsRow 0 134 4 dv' (k + 2) (xs ++ opCells (opsAdd (frameB r.data.toList))) /\ Turn (fun b => b = B \/ dv.ownBlock = some b) w w' /\ (∀ q, dv'.ownBlock = some q -> q < w.heap.size -> dv.ownBlock = some q) := by
 have HD : Hid (DealAt w B sv lv dv false ah true) := h
 have HO : Hid (w.ownsRow 0 134 4 dv k xs) := ho
 obtain ⟨c0, c1, c2, c3, c4, c5⟩ := h.cells
 have HF : Hid _ := frame_c r (by omega)
 clear h ho c0 c1 c2 c3 c4
 go_enter Tryz.func144, Tryz.ntmps144
 go_wp2_with fail
 have HLT : Hid (∀ q, dv.ownBlock = some q -> q < w.heap.size) := fun q hq => (World.ownsRow.lt HO.out q hq).2
 generalize hFB : frameB r.data.toList = FB at *
 have HFB : Hid (frameB r.data.toList = FB) := hFB
 clear hFB
 go_region_with (first
  | (go_at_call 128; refine (HF.out _).mono ?_; rintro e w1 ⟨rfl, hx1⟩)
  | (go_at_call 129
     refine (doOps_c B _ k 2 sv lv dv ah true xs (opsAdd FB) _ ?ca ?cb ?cc ?cd rfl (by omega) hk).mono ?_
     case ca => exact Ext.block (Ext.alloc (Ext.chain hx1 (Ext.drew (Ext.refl _))) _) HD.out
     case cb => exact Ext.owns (Ext.alloc (Ext.chain hx1 (Ext.drew (Ext.refl _))) _) HO.out
     case cc => exact heap_alloc_new _ _
     case cd => exact fun hq => absurd (Nat.lt_of_lt_of_le (HLT.out _ hq) (Ext.le (Ext.chain hx1 (Ext.drew (Ext.refl _))))) (Nat.lt_irrefl _)
     rintro e w2 ⟨dv', rfl, hd1, ho1, ht1, hq1⟩
     have f5 := frozen_row hd1 5
     have c5 := (DealAt.cells hd1).2.2.2.2.2))
 have hx2 : Ext w _ := Ext.alloc (Ext.chain hx1 (Ext.drew (Ext.refl _))) (.cells (opCells (opsAdd FB)).toArray 134)
 have R0 : DealAt (w2.setCell ⟨B, 5, none⟩ (.bool true)) B sv lv dv' false ah true := setCell_row hd1 _
 have R1 : (w2.setCell ⟨B, 5, none⟩ (.bool true)).ownsRow 0 134 4 dv' (k + 2) (xs ++ opCells (opsAdd FB)) := owns_setCell ho1 (row_ne (B := B) (t := 114) hd1 ho1 (by decide)) _
 have R2 : Turn (fun b => b = B \/ dv.ownBlock = some b) w (w2.setCell ⟨B, 5, none⟩ (.bool true)) :=
  Turn.setCell ((Turn.of_ext hx2).trans ht1) (fun _ => .inl rfl) _
 have R3 : ∀ q, dv'.ownBlock = some q -> q < w.heap.size -> dv.ownBlock = some q := fun q hq hl => hq1 q hq (Nat.lt_of_lt_of_le hl hx2.le)
 have HRR : Hid _ := And.intro R0 (And.intro R1 (And.intro R2 R3))
 clear R0 R1 R2 R3 hd1 ho1 ht1 hq1 hx2
 go_wp2
 go_ret
 obtain ⟨R0, R1, R2, R3⟩ := HRR.out
 rw [<- HFB.out] at R1
 exact ⟨dv', rfl, R0, R1, R2, R3⟩
theorem recordsNone_c (B : Nat) (dv : Value) (fl : Bool) (ah : Int) (kn : Bool) (w : World) (h : DealAt w B (.slice none 0 0) (.slice none 0 0) dv fl ah kn) :
  Calls Tryz.prog 92 #[.pointer (some ⟨B, 0, none⟩)] w fun e w' => e = .returned (.slice none 0 0) /\ w = w' := by
 obtain ⟨c0, c1, c2, c3, c4, c5⟩ := h.cells
 clear h
 go_enter Tryz.func92, Tryz.ntmps92
 go_wp2
 go_loopw [3, 15] (fun u i wr => u = .slice none 0 0 /\ i = .int .i64 0 /\ wr = w) (fun _ _ _ => 0)
 case atStart => exact ⟨rfl, rfl, rfl⟩
 case round =>
  obtain ⟨rfl, rfl, rfl⟩ := hrel
  go_wp2
  rename World => w
  go_loopw [3, 31] (fun u i wr => u = .slice none 0 0 /\ i = .int .i64 0 /\ wr = w) (fun _ _ _ => 0)
  case atStart => exact ⟨rfl, rfl, rfl⟩
  case round =>
   obtain ⟨rfl, rfl, rfl⟩ := hrel
   go_wp2
   rename World => w
   go_loopw [3, 56] (fun u i wr => u = .slice none 0 0 /\ i = .int .i64 0 /\ wr = w) (fun _ _ _ => 0)
   case atStart => exact ⟨rfl, rfl, rfl⟩
   case round =>
    obtain ⟨rfl, rfl, rfl⟩ := hrel
    go_wp2
    go_ret
    exact ⟨rfl, rfl⟩
end
section
open Go.RowKit
/-- A stock as it is found: its block, its class. -/
structure StkV where
 blk : Nat
 kd : Int
 m : Int
 k : Int
 n : Int
def StkV.is (s : StkV) (kd m k n : Int) : Bool := s.kd == kd && (s.m == m && (s.k == k && s.n == n))
def StkV.clsAt (s : StkV) (w : World) : Prop := w.cell? ⟨s.blk, 0, none⟩ = some (.int .i64 s.kd) /\ w.cell? ⟨s.blk, 1, none⟩ = some (.int .i64 s.m) /\ w.cell? ⟨s.blk, 2, none⟩ = some (.int .i64 s.k) /\ w.cell? ⟨s.blk, 3, none⟩ = some (.int .i64 s.n)
def foundV (l : List StkV) (kd m k n : Int) : Value := match l.find? (fun s => s.is kd m k n) with | some s => .pointer (some ⟨s.blk, 0, none⟩) | none => .pointer none
/-- The stocks of a dealer: a slice, and what lies in it. -/
def StocksAt (w : World) (sv : Value) (l : List StkV) : Prop :=
 (sv = .slice none 0 0 /\ l = [] \/ ∃ g cap, sv = .slice (some ⟨g, 0, none⟩) l.length cap /\ ∀ i (h : i < l.length), w.cell? ⟨g, i, none⟩ = some (.pointer (some ⟨l[i].blk, 0, none⟩))) /\ ∀ s ∈ l, s.clsAt w
theorem StocksAt.ext {w w' : World} {sv : Value} {l : List StkV} (h : StocksAt w sv l) (hx : Ext w w') : StocksAt w' sv l := by
 refine ⟨?_, fun s hs => ?_⟩
 ·rcases h.1 with h1 | ⟨g, cap, h1, h2⟩
  ·exact .inl h1
  ·exact .inr ⟨g, cap, h1, fun i hi => hx.cell (h2 i hi)⟩
 ·obtain ⟨a, b, c, d⟩ := h.2 s hs
  exact ⟨hx.cell a, hx.cell b, hx.cell c, hx.cell d⟩
theorem found_at (l : List StkV) {kd m k n : Int} (j : Nat) (hj : j < l.length) (hno : ∀ s ∈ l.take j, s.is kd m k n = false) (h : l[j].is kd m k n = true) : foundV l kd m k n = .pointer (some ⟨l[j].blk, 0, none⟩) := by
 have e : l = l.take j ++ (l[j] :: l.drop (j + 1)) := by simp
 have : l.find? (fun s => s.is kd m k n) = some l[j] := by
  have h1 : (l.take j ++ (l[j] :: l.drop (j + 1))).find? (fun s => s.is kd m k n) = some l[j] := by
   rw [List.find?_append, List.find?_eq_none.2 (fun s hs => by rw [hno s hs]; simp), List.find?_cons, h]
   rfl
  rw [<- e] at h1
  exact h1
 unfold foundV
 rw [this]
theorem found_none (l : List StkV) {kd m k n : Int} (hno : ∀ s ∈ l, s.is kd m k n = false) : foundV l kd m k n = .pointer none := by
 unfold foundV
 rw [List.find?_eq_none.2 (fun s hs => by rw [hno s hs]; simp)]
theorem find_c (B : Nat) (l : List StkV) (kd m k n : Int) (sv lv dv : Value) (fl : Bool) (ah : Int) (kn : Bool) (w : World) (h : DealAt w B sv lv dv fl ah kn) (hs : StocksAt w sv l) (hl : l.length <= 100) :
  Calls Tryz.prog 168 #[.pointer (some ⟨B, 0, none⟩), clsV kd m k n] w fun e w' => e = .returned (foundV l kd m k n) /\ Ext w w' := by
 unfold clsV
 rcases hs with ⟨⟨rfl, rfl⟩ | ⟨g, cap, rfl, hc⟩, hcl⟩
 ·obtain ⟨c0, _⟩ := h.cells
  have hB := h.lt
  clear h hcl
  go_enter Tryz.func168, Tryz.ntmps168
  go_wp2
  go_loop [12] (fun i => i = .int .i64 0) (fun _ => 0)
  case atStart => rfl
  case round =>
   obtain rfl := hrel
   go_wp2
   go_ret
   exact ⟨rfl, (Ext.refl w).alloc _⟩
 ·have HC : Hid (∀ i (h : i < l.length), w.cell? ⟨g, i, none⟩ = some (.pointer (some ⟨l[i].blk, 0, none⟩))) := hc
  have HCL : Hid (∀ s ∈ l, s.clsAt w) := hcl
  have heq := fun (a b c e a' b' c' e' : Int) (w : World) => eqClass 9998 a b c e a' b' c' e' w
  obtain ⟨c0, _⟩ := h.cells
  have hB := h.lt
  clear h hc hcl
  obtain ⟨len, hlen⟩ : ∃ len, l.length = len := ⟨_, rfl⟩
  have HLEN : Hid (l.length = len) := hlen
  rw [hlen] at c0 hl
  clear hlen
  go_enter Tryz.func168, Tryz.ntmps168
  go_wp2
  have hf := four_in (Ext.refl (w.alloc (.cells #[.int .i64 kd, .int .i64 m, .int .i64 k, .int .i64 n] 49)))
  have HXV : Hid (Ext w (w.alloc (.cells #[.int .i64 kd, .int .i64 m, .int .i64 k, .int .i64 n] 49))) := (Ext.refl w).alloc _
  generalize World.alloc w _ = V at hf HXV ⊢
  obtain ⟨d0, d1, d2, d3⟩ := hf
  go_loopw [12] (fun i wr => ∃ j : Nat, j <= len /\ i = .int .i64 j /\ (∀ s ∈ l.take j, s.is kd m k n = false) /\ Ext V wr) (fun i _ => len - (intOf i).toNat)
  case atStart => exact ⟨0, Nat.zero_le _, rfl, by simp, Ext.refl _⟩
  case round =>
   obtain ⟨j, hj, rfl, hno, hxr⟩ := hrel
   have d0 := hxr.cell d0
   have d1 := hxr.cell d1
   have d2 := hxr.cell d2
   have d3 := hxr.cell d3
   have HXR : Hid (Ext w wr) := HXV.out.trans hxr
   have HXR2 : Hid (Ext V wr) := hxr
   clear hxr
   have HNO : Hid (∀ s ∈ l.take j, s.is kd m k n = false) := hno
   clear hno
   by_cases hlt : j < len
   ·have hjl : j < l.length := by rw [HLEN.out]; exact hlt
    have e0 := HXR.out.cell (HC.out j hjl)
    obtain ⟨b0, b1, b2, b3⟩ := HCL.out l[j] (List.getElem_mem hjl)
    have b0 := HXR.out.cell b0
    have b1 := HXR.out.cell b1
    have b2 := HXR.out.cell b2
    have b3 := HXR.out.cell b3
    have HIS : Hid (l[j].is kd m k n = (l[j].kd == kd && (l[j].m == m && (l[j].k == k && l[j].n == n)))) := rfl
    have HT : Hid (l.take (j + 1) = l.take j ++ [l[j]]) := List.take_succ_eq_append_getElem hjl
    by_cases his : l[j].is kd m k n = true
    ·have HFV : Hid (foundV l kd m k n = .pointer (some ⟨l[j].blk, 0, none⟩)) := found_at l j hjl HNO.out his
     rw [HIS.out] at his
     generalize l[j] = s at *
     obtain ⟨blk, skd, sm, sk, sn⟩ := s
     simp only at *
     go_wp2
     go_region
     all_goals go_wp2
     all_goals go_ret
     all_goals exact ⟨by rw [HFV.out]; rfl, HXR.out.drew⟩
    ·have HN2 : Hid (∀ s ∈ l.take (j + 1), s.is kd m k n = false) := fun s hs => by
      rw [HT.out] at hs
      rcases List.mem_append.1 hs with h | h
      ·exact HNO.out s h
      ·rw [List.mem_singleton.1 h]; simpa using his
     rw [HIS.out] at his
     generalize l[j] = s at *
     obtain ⟨blk, skd, sm, sk, sn⟩ := s
     simp only at *
     have his2 : (skd == kd && (sm == m && (sk == k && sn == n))) = false := by simpa using his
     clear his
     go_wp2
     go_region
     all_goals go_wp2
     all_goals go_roundw
     all_goals first
      | exact ⟨j + 1, by omega, by go_num, HN2.out, HXR2.out.drew⟩
      | (simp [intOf]; omega)
   ·obtain rfl : j = len := by omega
    have hall : l.take j = l := List.take_of_length_le (by rw [HLEN.out]; exact Nat.le_refl _)
    have HNO2 := HNO.out
    rw [hall] at HNO2
    have HFV : Hid (foundV l kd m k n = .pointer none) := found_none l HNO2
    clear HNO2 hall HNO
    go_wp2
    go_ret
    exact ⟨by rw [HFV.out]; rfl, HXR.out⟩
end
section
open Go.RowKit Go.Maps
theorem cell_in {w w' : World} {cs : Array Value} {t : TypeId} (h : Ext (w.alloc (.cells cs t)) w') (i : Nat) {v : Value} (hv : cs[i]? = some v) : w'.cell? ⟨w.heap.size, i, none⟩ = some v := by
 have hb : (w.alloc (.cells cs t)).heap[w.heap.size]? = some (.cells cs t (0, 0)) := heap_alloc_new w _
 exact h.cell (by rw [cell_of_row _ _ i _ _ _ hb]; exact hv)
theorem infoPStock : (Tryz.prog.info? 151).map (fun i => (i.zero, i.size, i.bytes)) = some (some (.pointer none), 1, 8) := by kernel_rfl
end
end
-- Named
section
set_option maxRecDepth 100000
set_option maxHeartbeats 1600000
open Go.RowKit
/-- A lease as its cells. -/
structure LsV where
 s : Int
 i : Int
 kd : Int
 m : Int
 k : Int
 n : Int
 f : Int
 c : Int
 r : Bool
def LsV.cells (l : LsV) : List Value := [.int .i64 l.s, .int .i64 l.i, .int .i64 l.kd, .int .i64 l.m, .int .i64 l.k, .int .i64 l.n, .int .i64 l.f, .int .i64 l.c, .bool l.r]
theorem named0_c (B : Nat) (ss ii : Int) (sv dv : Value) (fl : Bool) (ah : Int) (kn : Bool) (w : World) (h : DealAt w B sv (.slice none 0 0) dv fl ah kn) :
  Calls Tryz.prog 165 #[.pointer (some ⟨B, 0, none⟩), .int .i64 ss, .int .i64 ii] w fun e w' => e = .returned (.pointer none) /\ w = w' := by
 obtain ⟨c0, c1, _⟩ := h.cells
 have hB := h.lt
 clear h
 go_enter Tryz.func165, Tryz.ntmps165
 go_wp2
 go_loopw [14] (fun i wr => i = .int .i64 0 /\ wr = w) (fun _ _ => 0)
 case atStart => exact ⟨rfl, rfl⟩
 case round =>
  obtain ⟨rfl, rfl⟩ := hrel
  go_wp2
  go_ret
  exact ⟨rfl, rfl⟩
end
-- Tri3B
section
set_option maxRecDepth 100000
set_option maxHeartbeats 1600000
open Go.RowKit
theorem nb_plus (w : World) : (nilAhead 417 283 (.agg #[]) "dealer/triple.plus").run Tryz.prog w = .ok (some false) w := by kernel_rfl
theorem nb_times (w : World) : (nilAhead 417 283 (.agg #[]) "dealer/triple.times").run Tryz.prog w = .ok (some false) w := by kernel_rfl
theorem matB_c (b off cap b2 off2 cap2 p m k n la lb : Nat) (zs ys : List Int) (hla : la = m * k) (hlb : lb = k * n) (hn : zs.length = la) (hn2 : ys.length = lb) (hm : m <= 3) (hk : k <= 3) (hnn : n <= 3) (w : World) (hz : WordsAt w b off zs) (hy : WordsAt w b2 off2 ys) :
  Calls Tryz.prog 174 #[.iface 283 (.agg #[]), .agg #[.int .i64 p, .int .i64 m, .int .i64 k, .int .i64 n], .slice (some ⟨b, off, none⟩) la cap, .slice (some ⟨b2, off2, none⟩) lb cap2] w fun e w' =>
   ∃ v, e = .returned v /\ w'.ownsRow w.heap.size 146 1 v (m * n) ((matN true zs ys k n m).map (Value.int .u64)) /\ Ext w w' := by
 obtain ⟨i0, hi, hz0, hz1, hz2⟩ := info_parts infoU64
 have HZ : Hid (WordsAt w b off zs) := hz
 have HY : Hid (WordsAt w b2 off2 ys) := hy
 have HN : Hid (zs.length = la) := hn
 have HN2 : Hid (ys.length = lb) := hn2
 have HLA : Hid (la = m * k) := hla
 have HLB : Hid (lb = k * n) := hlb
 have hm1 := mb_plus
 have hm2 := mb_times
 have hnw := nb_plus
 have hnt := nb_times
 clear hz hy hn hn2 hla hlb
 go_enter Tryz.func174, Tryz.ntmps174
 go_wp2
 generalize hW : World.alloc w _ = W
 have hxW : Ext w W := hW ▸ (Ext.refl w).alloc _
 have hb : W.heap[w.heap.size]? = some (.cells #[.int .i64 p, .int .i64 m, .int .i64 k, .int .i64 n] 240) := by rw [<- hW]; exact heap_alloc_new w _
 have hs1 : W.cell? ⟨w.heap.size, 1, none⟩ = some (.int .i64 m) := by rw [cell_of_row W _ 1 _ _ _ hb]; rfl
 have hs2 : W.cell? ⟨w.heap.size, 2, none⟩ = some (.int .i64 k) := by rw [cell_of_row W _ 2 _ _ _ hb]; rfl
 have hs3 : W.cell? ⟨w.heap.size, 3, none⟩ = some (.int .i64 n) := by rw [cell_of_row W _ 3 _ _ _ hb]; rfl
 clear hb
 have HXW : Hid (Ext w W) := hxW
 clear hxW hW
 go_loopw [9, 16] (fun u i wr => ∃ r : Nat, r <= m /\ i = .int .i64 r /\ wr.ownsRow W.heap.size 146 1 u (r * n) ((matN true zs ys k n r).map (Value.int .u64)) /\ Ext W wr) (fun _ i _ => m - (intOf i).toNat)
 case atStart => exact ⟨0, Nat.zero_le _, rfl, by rw [Nat.zero_mul]; exact World.ownsRow_nil _ _ _ _, Ext.refl _⟩
 case round =>
  obtain ⟨r, hr, rfl, ho, hx⟩ := hrel
  have HO : Hid _ := ho
  clear ho
  by_cases hlt : r < m
  ·have f1 := hx.cell hs1
   have f2 := hx.cell hs2
   have f3 := hx.cell hs3
   have g1 := Nat.mul_le_mul hr (Nat.le_refl n)
   have hrk := Nat.mul_le_mul (show r <= 2 by omega) hk
   go_wp2
   go_loopw [9, 21] (fun u i ws => ∃ c : Nat, c <= n /\ i = .int .i64 c /\ ws.ownsRow W.heap.size 146 1 u (r * n + c) ((matN true zs ys k n r ++ rowN true zs ys k n r c).map (Value.int .u64)) /\ Ext W ws) (fun _ i _ => n - (intOf i).toNat)
   case atStart => exact ⟨0, Nat.zero_le _, rfl, by rw [show rowN true zs ys k n r 0 = [] from rfl, List.append_nil]; exact HO.out, hx⟩
   case round =>
    clear f1 f2 f3 HO hx
    obtain ⟨c, hc, rfl, ho, hx⟩ := hrel
    rename World => W2
    have hlow := fun q hq => (World.ownsRow.lt ho q hq).1
    have HO : Hid _ := ho
    clear ho
    by_cases hlc : c < n
    ·have f2 := hx.cell hs2
     have f3 := hx.cell hs3
     go_wp2
     go_loopw [12, 26] (fun u i wt => ∃ q : Nat, q <= k /\ i = .int .i64 q /\ u = .int .u64 (dotN true zs ys k n r c q) /\ Ext W2 wt) (fun _ i _ => k - (intOf i).toNat)
     case atStart => exact ⟨0, Nat.zero_le _, rfl, rfl, Ext.refl _⟩
     case round =>
      obtain ⟨q, hq, rfl, rfl, hx3⟩ := hrel
      by_cases hlq : q < k
      ·have e0w := (HXW.out.trans hx).cell (HZ.out (r * k + q) (by rw [HN.out, HLA.out]; exact mul_add_lt hlt hlq))
       have e1w := (HXW.out.trans hx).cell (HY.out (q * n + c) (by rw [HN2.out, HLB.out]; exact mul_add_lt hlq hlc))
       have b0 : r * k + q < la := by rw [HLA.out]; exact mul_add_lt hlt hlq
       have b1 : q * n + c < lb := by rw [HLB.out]; exact mul_add_lt hlq hlc
       have hqn := Nat.mul_le_mul (show q <= 2 by omega) hnn
       have v1 : IntKind.i64.wrap ((r : Int) * (k : Int)) = ((r * k : Nat) : Int) := by rw [<- Int.natCast_mul]; exact wrap_small (by omega)
       have v2 : IntKind.i64.wrap ((q : Int) * (n : Int)) = ((q * n : Nat) : Int) := by rw [<- Int.natCast_mul]; exact wrap_small (by omega)
       have hD : dotN true zs ys k n r c (q + 1) = plusN true (dotN true zs ys k n r c q) (timesN true (zs.getD (r * k + q) 0) (ys.getD (q * n + c) 0)) := rfl
       generalize hzk : zs.getD (r * k + q) 0 = z at *
       generalize hyk : ys.getD (q * n + c) 0 = y at *
       generalize hdd : dotN true zs ys k n r c q = dd at *
       generalize r * k = rk at *
       generalize q * n = qn at *
       have s1 : (rk : Int) + (q : Int) = ((rk + q : Nat) : Int) := by omega
       have s2 : (qn : Int) + (c : Int) = ((qn + c : Nat) : Int) := by omega
       have v3 : IntKind.i64.wrap ((rk : Int) + (q : Int)) = ((rk + q : Nat) : Int) := by rw [s1]; exact wrap_small (by omega)
       have v4 : IntKind.i64.wrap ((qn : Int) + (c : Int)) = ((qn + c : Nat) : Int) := by rw [s2]; exact wrap_small (by omega)
       generalize hx1 : rk + q = x1 at *
       generalize hx2 : qn + c = x2 at *
       clear s1 s2 hx1 hx2 hrk hqn g1
       have d0 : (0 : Int) <= (x1 : Int) := by omega
       have d1 : (x1 : Int) < la := by omega
       have d2 : (0 : Int) <= (x2 : Int) := by omega
       have d3 : (x2 : Int) < lb := by omega
       have j1 := hx3.cell f2
       have j2 := hx3.cell f3
       have j3 := hx3.cell e0w
       have j4 := hx3.cell e1w
       go_wp2
       go_region_held3 (fun w' => (w'.cell? ⟨w.heap.size, 2, none⟩ = some (.int .i64 k) /\ w'.cell? ⟨w.heap.size, 3, none⟩ = some (.int .i64 n) /\ w'.cell? ⟨b, off + x1, none⟩ = some (.int .u64 z) /\ w'.cell? ⟨b2, off2 + x2, none⟩ = some (.int .u64 y)) /\ Ext W2 w')
        ((refine and_cell4 f2 f3 e0w e1w ?_; (repeat (first | with_reducible exact Ext.refl _ | with_reducible assumption | with_reducible refine Ext.drew ?_ | with_reducible refine Ext.alloc ?_ _ | with_reducible (apply Ext.chain; assumption))); done))
        (first
          | (go_at_call 229; refine (bitsTimes_c _ _ _).mono ?_; rintro e w1 ⟨rfl, hx4⟩)
          | (go_at_call 228; refine (bitsPlus_c _ _ _).mono ?_; rintro e w2 ⟨rfl, hx5⟩))
       all_goals (go_wp2; go_roundw)
       all_goals first
        | (refine ⟨q + 1, by omega, by go_num, by rw [hD], ?_⟩; (repeat (first | with_reducible exact Ext.refl _ | with_reducible assumption | with_reducible refine Ext.drew ?_ | with_reducible refine Ext.alloc ?_ _ | with_reducible (apply Ext.chain; assumption))); done)
        | (simp [intOf]; omega)
      ·obtain rfl : q = k := by omega
       have hxx : Ext W _ := hx.trans hx3
       have ho2 := Ext.owns hx3 HO.out
       have hbase := hxx.le
       go_wp2_with (at_builtin; refine wpList_append_own _ rfl _ _ 31 rfl W.heap.size 146 i0 (.int .u64 0) 1 8 Tryz.underlying31 hi hz0 hz1 hz2 rfl (by decide) _ _ _ rfl (World.ownsRow.alloc ho2 _) ⟨_, 0, none⟩ 1 1 [.int .u64 (dotN true zs ys q n r c q)] rfl rfl ?c1 ?c2 ?c3 ?c4 ?c5 ?_)
       case c1 => exact cell_one_new _ _ _
       case c2 => intro u hu; simp at hu; subst hu; rfl
       case c3 => have := Nat.mul_le_mul (show r <= 3 by omega) hnn; unfold maxLen; omega
       case c4 => have := Nat.mul_le_mul (show r <= 3 by omega) hnn; omega
       case c5 => simp; omega
       ·intro v' w1 hown' hgrow _
        have R : w1.ownsRow W.heap.size 146 1 v' (r * n + (c + 1)) ((matN true zs ys q n r ++ rowN true zs ys q n r (c + 1)).map (Value.int .u64)) := by
         rw [rowN_succ, List.map_append, List.map_append, <- Nat.add_assoc]; exact hown'
        have R2 : Ext W w1 := Ext.grown (hxx.alloc _) hgrow hlow
        clear hown' hgrow
        go_wp2
        go_roundw
        case rel => exact ⟨c + 1, by omega, by go_num, R, R2⟩
        case measure => simp [intOf]; omega
    ·obtain rfl : c = n := by omega
     have R : World.ownsRow W2 W.heap.size 146 1 u9 ((r + 1) * c) ((matN true zs ys k c (r + 1)).map (Value.int .u64)) := by
      rw [matN_succ, Nat.add_mul, Nat.one_mul]; exact HO.out
     go_wp2
     go_roundw
     case rel => exact ⟨r + 1, by omega, by go_num, R, hx⟩
     case measure => simp [intOf]; omega
  ·obtain rfl : r = m := by omega
   go_wp2
   go_ret
   exact ⟨_, rfl, owns_base HO.out HXW.out.le, HXW.out.trans hx⟩
end
-- Mk
section
set_option maxRecDepth 100000
set_option maxHeartbeats 1600000
open Go.RowKit
theorem sizeU64 (w : World) : (Go.sizeOf 146).run Tryz.prog w = .ok 1 w := by kernel_rfl
theorem elemW : Tryz.prog.underlying 31 = some (.slice (Tryz.prog.elem 31)) /\ Tryz.prog.elem 31 = 146 := by
 constructor
 ·simp [Program.elem, Tryz.underlying31]
 ·simp [Program.elem, Tryz.underlying31]
theorem slice_lh (b o len cap l h : Nat) (hlh : l < h) (hh : h <= cap) (W : World) :
  (Instr.slice 31 (.slice (some ⟨b, o, none⟩) len cap) (some (.int .i64 (l : Int))) (some (.int .i64 (h : Int))) none).run Tryz.prog W = .ok (.slice (some ⟨b, o + l, none⟩) (h - l) (cap - l)) W := by
 rw [run_slice_lh W 31 _ _ _ elemW.1 .i64 .i64 _ _ (by omega) (by omega) (by omega), elemW.2, sizeU64]
 have hne : ¬ cap = l := by omega
 by_cases h0 : l = 0
 ·subst h0
  simp [Result.andThen, sliced, Addr.add, hne]
 ·simp [Result.andThen, sliced, Addr.add, hne, h0]
theorem slice_h (b o len cap h : Nat) (hlh : 0 < h) (hh : h <= cap) (W : World) :
  (Instr.slice 31 (.slice (some ⟨b, o, none⟩) len cap) none (some (.int .i64 (h : Int))) none).run Tryz.prog W = .ok (.slice (some ⟨b, o, none⟩) h cap) W := by
 rw [run_slice_h W 31 _ _ _ elemW.1 .i64 _ (by omega) (by omega), elemW.2, sizeU64]
 have hne : ¬ cap = 0 := by omega
 simp [Result.andThen, sliced, Addr.add, hne]
theorem slice_l (b o len cap l : Nat) (hlh : l < len) (hh : len <= cap) (W : World) :
  (Instr.slice 31 (.slice (some ⟨b, o, none⟩) len cap) (some (.int .i64 (l : Int))) none none).run Tryz.prog W = .ok (.slice (some ⟨b, o + l, none⟩) (len - l) (cap - l)) W := by
 rw [run_slice_l W 31 _ _ _ elemW.1 .i64 _ (by omega) (by omega), elemW.2, sizeU64]
 have hne : ¬ cap = l := by omega
 by_cases h0 : l = 0
 ·subst h0
  simp [Result.andThen, sliced, Addr.add, hne]
 ·simp [Result.andThen, sliced, Addr.add, hne, h0]
/-- What lies in a block of four cells that was laid down. -/
theorem four_at {w w' : World} {v0 v1 v2 v3 : Value} {t : TypeId} (h : Ext (w.alloc (.cells #[v0, v1, v2, v3] t)) w') :
  w'.cell? ⟨w.heap.size, 0, none⟩ = some v0 /\ w'.cell? ⟨w.heap.size, 1, none⟩ = some v1 /\ w'.cell? ⟨w.heap.size, 2, none⟩ = some v2 /\ w'.cell? ⟨w.heap.size, 3, none⟩ = some v3 := by
 have hb : (w.alloc (.cells #[v0, v1, v2, v3] t)).heap[w.heap.size]? = some (.cells #[v0, v1, v2, v3] t (0, 0)) := heap_alloc_new w _
 refine ⟨h.cell ?_, h.cell ?_, h.cell ?_, h.cell ?_⟩
 ·rw [cell_of_row _ _ 0 _ _ _ hb]; rfl
 ·rw [cell_of_row _ _ 1 _ _ _ hb]; rfl
 ·rw [cell_of_row _ _ 2 _ _ _ hb]; rfl
 ·rw [cell_of_row _ _ 3 _ _ _ hb]; rfl
theorem drawsOf_c {kd m k n : Nat} {s : Sh} (h : ofCls kd m k n s) (hs : s.ok) (w : World) : Calls Tryz.prog 96 #[clsV kd m k n] w fun e w' => e = .returned (.int .i64 (s.x + s.y + (s.x + s.y + s.z) : Nat)) /\ Ext w w' := by
 have hle := Sh.le hs
 have HS : Hid _ := shapeS_c h
 have HL : Hid _ := lengthsS_c hs
 have HW : Hid _ := wordsOf_c h hs
 generalize s.x = x at *
 generalize s.y = y at *
 generalize s.z = z at *
 generalize s.val = sv at *
 clear h hs
 unfold clsV
 go_enter Tryz.func96, Tryz.ntmps96
 go_wp2_with fail
 refine (HS.out _).mono ?_; rintro e w1 ⟨rfl, hx1⟩
 go_wp2_with fail
 refine (HL.out _).mono ?_; rintro e w2 ⟨rfl, hx2⟩
 obtain ⟨c0, c1, c2, c3⟩ := four_at (hx1.trans hx2)
 go_wp2_with fail
 refine (HW.out _).mono ?_; rintro e w3 ⟨rfl, hx3⟩
 go_wp2
 go_ret
 exact ⟨ret_int (by go_num), (((Ext.refl w).alloc _).trans hx1).trans (hx2.trans hx3)⟩
theorem matS_c {s : Sh} (hs : s.ok) (b off cap b2 off2 cap2 la lb : Nat) (zs ys : List Int) (hla : la = s.m * s.k) (hlb : lb = s.k * s.n) (hn : zs.length = la) (hn2 : ys.length = lb) (w : World) (hz : WordsAt w b off zs) (hy : WordsAt w b2 off2 ys) :
  Calls Tryz.prog 174 #[s.num, s.val, .slice (some ⟨b, off, none⟩) la cap, .slice (some ⟨b2, off2, none⟩) lb cap2] w fun e w' =>
   ∃ v, e = .returned v /\ w'.ownsRow w.heap.size 146 1 v (s.m * s.n) ((matN s.bt zs ys s.k s.n s.m).map (Value.int .u64)) /\ Ext w w' := by
 obtain ⟨h1, h2, h3, h4, h5, h6, h7, h8, h9⟩ := hs
 match s with
 | ⟨false, p, m, k, n⟩ => exact matW_c b off cap b2 off2 cap2 p m k n la lb zs ys hla hlb hn hn2 h4 h6 h8 w hz hy
 | ⟨true, p, m, k, n⟩ => exact matB_c b off cap b2 off2 cap2 p m k n la lb zs ys hla hlb hn hn2 h4 h6 h8 w hz hy
def subL (A : List Int) (j L : Nat) : List Int := (A.drop (j * L)).take L
def mulN (s : Sh) (A B : List Int) (i : Nat) : List Int := (List.range i).flatMap fun j => matN s.bt (subL A j (s.m * s.k)) (subL B j (s.k * s.n)) s.k s.n s.m
theorem mulN_succ (s : Sh) (A B : List Int) (i : Nat) : mulN s A B (i + 1) = mulN s A B i ++ matN s.bt (subL A i (s.m * s.k)) (subL B i (s.k * s.n)) s.k s.n s.m := by simp [mulN, List.range_succ]
theorem WordsAt.sub {w : World} {b off : Nat} {A : List Int} (h : WordsAt w b off A) (j L : Nat) : WordsAt w b (off + j * L) (subL A j L) := by
 intro i hi
 simp only [subL, List.length_take, List.length_drop] at hi
 have := h (j * L + i) (by omega)
 rw [Nat.add_assoc, this]
 simp [subL, List.getD_eq_getElem?_getD, List.getElem?_drop, show i < L by omega]
theorem subL_len {A : List Int} {j p L : Nat} (h : A.length = p * L) (hj : j < p) : (subL A j L).length = L := by
 have := Nat.mul_le_mul (show j + 1 <= p by omega) (Nat.le_refl L)
 rw [Nat.add_mul] at this
 simp only [subL, List.length_take, List.length_drop]; omega
theorem multiply_c {s : Sh} (hs : s.ok) (b off cap b2 off2 cap2 la lb : Nat) (A B : List Int) (hla : la = s.p * (s.m * s.k)) (hlb : lb = s.p * (s.k * s.n)) (hn : A.length = la) (hn2 : B.length = lb) (hc1 : la <= cap) (hc2 : lb <= cap2) (w : World) (hz : WordsAt w b off A) (hy : WordsAt w b2 off2 B) :
  Calls Tryz.prog 142 #[s.num, s.val, .slice (some ⟨b, off, none⟩) la cap, .slice (some ⟨b2, off2, none⟩) lb cap2] w fun e w' =>
   ∃ v, e = .returned v /\ w'.ownsRow w.heap.size 146 1 v (s.p * (s.m * s.n)) ((mulN s A B s.p).map (Value.int .u64)) /\ Ext w w' := by
 obtain ⟨i0, hi, hz0, hz1, hz2⟩ := info_parts infoU64
 have HM : Hid _ := @matS_c s hs
 have HS : Hid _ := mulN_succ s A B
 have HZ : Hid (WordsAt w b off A) := hz
 have HY : Hid (WordsAt w b2 off2 B) := hy
 have HN : Hid (A.length = s.p * (s.m * s.k)) := hn.trans hla
 have HN2 : Hid (B.length = s.p * (s.k * s.n)) := hn2.trans hlb
 have HLA : Hid (la = s.p * (s.m * s.k)) := hla
 have HLB : Hid (lb = s.p * (s.k * s.n)) := hlb
 have hx9 := Sh.le hs
 clear hz hy hn hn2 hla hlb
 obtain ⟨h1, h2, h3, h4, h5, h6, h7, h8, h9⟩ := hs
 unfold Sh.val at *
 generalize s.num = nm at *
 unfold Sh.x Sh.y Sh.z at hx9
 rw [Nat.mul_assoc, Nat.mul_assoc, Nat.mul_assoc] at hx9
 have v1 : IntKind.i64.wrap ((s.m : Int) * (s.k : Int)) = ((s.m * s.k : Nat) : Int) := by rw [<- Int.natCast_mul]; exact wrap_small (by have := mul_le9 h4 h6; omega)
 have v2 : IntKind.i64.wrap ((s.k : Int) * (s.n : Int)) = ((s.k * s.n : Nat) : Int) := by rw [<- Int.natCast_mul]; exact wrap_small (by have := mul_le9 h6 h8; omega)
 have mn9 := mul_le9 h4 h8
 have mk9 := mul_le9 h4 h6
 have kn9 := mul_le9 h6 h8
 have mn1 := Nat.mul_le_mul h3 h7
 have mk1 := Nat.mul_le_mul h3 h5
 have kn1 := Nat.mul_le_mul h5 h7
 generalize hp : s.p = p at *
 generalize hm : s.m = m at *
 generalize hk : s.k = k at *
 generalize hnn : s.n = n at *
 clear hp hm hk hnn h3 h4 h5 h6 h7 h8 h9
 generalize m * k = L at *
 generalize k * n = R at *
 generalize m * n = MN at *
 go_enter Tryz.func142, Tryz.ntmps142
 go_wp2
 have hf := four_at (Ext.refl (w.alloc (.cells #[.int .i64 p, .int .i64 m, .int .i64 k, .int .i64 n] 240)))
 have HXW : Hid (Ext w (w.alloc (.cells #[.int .i64 p, .int .i64 m, .int .i64 k, .int .i64 n] 240))) := (Ext.refl w).alloc _
 generalize World.alloc w _ = W at hf HXW ⊢
 obtain ⟨s0, s1, s2, s3⟩ := hf
 go_region_held3 (fun w' => (w'.cell? ⟨w.heap.size, 0, none⟩ = some (.int .i64 p) /\ w'.cell? ⟨w.heap.size, 1, none⟩ = some (.int .i64 m) /\ w'.cell? ⟨w.heap.size, 2, none⟩ = some (.int .i64 k) /\ w'.cell? ⟨w.heap.size, 3, none⟩ = some (.int .i64 n)) /\ Ext W w')
  ((refine and_cell4 s0 s1 s2 s3 ?_; (repeat (first | with_reducible exact Ext.refl _ | with_reducible assumption | with_reducible refine Ext.drew ?_ | with_reducible refine Ext.alloc ?_ _ | with_reducible (apply Ext.chain; assumption))); done))
  (fail)
 rename_i hHeld
 clear hHeld
 have hD := (Ext.refl W).drew
 generalize W.drew = V at hD ⊢
 have s0 := hD.cell s0
 have s1 := hD.cell s1
 have s2 := hD.cell s2
 have s3 := hD.cell s3
 have HXV : Hid (Ext w V) := HXW.out.trans hD
 clear hD HXW
 go_wp2
 go_loopw [9, 25] (fun u i wr => ∃ j : Nat, j <= p /\ i = .int .i64 j /\ wr.ownsRow V.heap.size 146 1 u (j * MN) ((mulN s A B j).map (Value.int .u64)) /\ Ext V wr) (fun _ i _ => p - (intOf i).toNat)
 case atStart => exact ⟨0, Nat.zero_le _, rfl, by rw [Nat.zero_mul]; exact World.ownsRow_nil _ _ _ _, Ext.refl _⟩
 case round =>
  obtain ⟨j, hj, rfl, ho, hx⟩ := hrel
  have HO : Hid _ := ho
  clear ho
  by_cases hlt : j < p
  ·have f0 := hx.cell s0
   have f1 := hx.cell s1
   have f2 := hx.cell s2
   have f3 := hx.cell s3
   have jL := Nat.mul_le_mul (show j + 1 <= p by omega) (Nat.le_refl L)
   have jR := Nat.mul_le_mul (show j + 1 <= p by omega) (Nat.le_refl R)
   have HJ : Hid ((j + 1) * L = j * L + L /\ (j + 1) * R = j * R + R) := ⟨by rw [Nat.add_mul, Nat.one_mul], by rw [Nat.add_mul, Nat.one_mul]⟩
   have bL : (j + 1) * L <= la := by rw [HLA.out]; exact jL
   have bR : (j + 1) * R <= lb := by rw [HLB.out]; exact jR
   have u0 : IntKind.i64.wrap ((j : Int) + 1) = ((j + 1 : Nat) : Int) := by rw [show (j : Int) + 1 = ((j + 1 : Nat) : Int) by omega]; exact wrap_small (by omega)
   have u1 : IntKind.i64.wrap ((j : Int) * (L : Int)) = ((j * L : Nat) : Int) := by rw [<- Int.natCast_mul]; exact wrap_small (by have := HJ.out.1; omega)
   have u2 : IntKind.i64.wrap (((j + 1 : Nat) : Int) * (L : Int)) = (((j + 1) * L : Nat) : Int) := by rw [<- Int.natCast_mul]; exact wrap_small (by omega)
   have u3 : IntKind.i64.wrap ((j : Int) * (R : Int)) = ((j * R : Nat) : Int) := by rw [<- Int.natCast_mul]; exact wrap_small (by have := HJ.out.2; omega)
   have u4 : IntKind.i64.wrap (((j + 1 : Nat) : Int) * (R : Int)) = (((j + 1) * R : Nat) : Int) := by rw [<- Int.natCast_mul]; exact wrap_small (by omega)
   have HZ2 : Hid (WordsAt V b (off + j * L) (subL A j L)) := (HZ.out.sub j L).ext HXV.out
   have HY2 : Hid (WordsAt V b2 (off2 + j * R) (subL B j R)) := (HY.out.sub j R).ext HXV.out
   have HLn : Hid ((subL A j L).length = L) := subL_len HN.out hlt
   have HRn : Hid ((subL B j R).length = R) := subL_len HN2.out hlt
   have HG : Hid (mulN s A B (j + 1) = mulN s A B j ++ matN s.bt (subL A j L) (subL B j R) k n m) := HS.out j
   have HMN : Hid ((j + 1) * MN = j * MN + MN /\ j * MN <= 27) := ⟨by rw [Nat.add_mul, Nat.one_mul], by have := Nat.mul_le_mul (show j <= 3 by omega) mn9; omega⟩
   have hlow := fun q hq => (World.ownsRow.lt HO.out q hq).1
   generalize hj1 : j + 1 = j1 at *
   generalize subL A j L = zs at *
   generalize subL B j R = ys at *
   generalize j * L = jl at *
   generalize j * R = jr at *
   generalize j1 * L = jl1 at *
   generalize j1 * R = jr1 at *
   generalize j * MN = jm at *
   clear jL jR
   have hsl1 : ∀ W, (Instr.slice 31 (.slice (some ⟨b, off, none⟩) la cap) (some (.int .i64 (jl : Int))) (some (.int .i64 (jl1 : Int))) none).run Tryz.prog W = .ok (.slice (some ⟨b, off + jl, none⟩) L (cap - jl)) W := fun W => by
    rw [slice_lh b off la cap jl jl1 (by have := HJ.out.1; omega) (by omega), show jl1 - jl = L by have := HJ.out.1; omega]
   have hsl2 : ∀ W, (Instr.slice 31 (.slice (some ⟨b2, off2, none⟩) lb cap2) (some (.int .i64 (jr : Int))) (some (.int .i64 (jr1 : Int))) none).run Tryz.prog W = .ok (.slice (some ⟨b2, off2 + jr, none⟩) R (cap2 - jr)) W := fun W => by
    rw [slice_lh b2 off2 lb cap2 jr jr1 (by have := HJ.out.2; omega) (by omega), show jr1 - jr = R by have := HJ.out.2; omega]
   have HJ1 : Hid (j + 1 = j1) := hj1
   clear hj1 bL bR hc1 hc2
   go_wp2_with fail
   go_region_held3 (fun w' => (w'.cell? ⟨w.heap.size, 0, none⟩ = some (.int .i64 p) /\ w'.cell? ⟨w.heap.size, 1, none⟩ = some (.int .i64 m) /\ w'.cell? ⟨w.heap.size, 2, none⟩ = some (.int .i64 k) /\ w'.cell? ⟨w.heap.size, 3, none⟩ = some (.int .i64 n)) /\ Ext V w')
    (first
      | (refine and_cell4 s0 s1 s2 s3 ?_; (repeat (first | with_reducible exact Ext.refl _ | with_reducible assumption | with_reducible refine Ext.drew ?_ | with_reducible refine Ext.alloc ?_ _ | with_reducible (apply Ext.chain; assumption))); done)
      | exact and_cell4 s0 s1 s2 s3 (Ext.grown (Ext.chain hx2 (Ext.drew hx)) hgrow hlow))
    (first
      | (go_at_call 174; refine (HM.out b (off + jl) (cap - jl) b2 (off2 + jr) (cap2 - jr) L R zs ys rfl rfl HLn.out HRn.out _ (HZ2.out.ext (Ext.drew hx)) (HY2.out.ext (Ext.drew hx))).mono ?_; rintro e w2 ⟨v, rfl, hov, hx2⟩; obtain ⟨g2, cp2, rfl, hg2, hg3⟩ := hov.form (by omega))
      | (refine step_append_lies _ (by rfl) _ _ 31 (by rfl) V.heap.size 146 i0 (.int .u64 0) 1 8 Tryz.underlying31 hi hz0 hz1 hz2 (by rfl) (by decide) u9 jm _ (by rfl) (Ext.owns (Ext.chain hx2 (Ext.drew (Ext.refl _))) HO.out) ⟨_, 0, none⟩ MN cp2 _ (by rfl) hov.1 (hov.cells rfl) (words_one _) (by omega) (by have := HMN.out.2; simp [maxLen]; omega) (by have := HMN.out.2; omega) (Nat.le_trans hx.le (Ext.le (Ext.chain hx2 (Ext.drew (Ext.refl _))))) _ rfl ?_; intro g cap3 w1 hown1 hgrow hat hlt1))
   have R1 : w1.ownsRow V.heap.size 146 1 (.slice (some ⟨g, 0, none⟩) (jm + MN) cap3) (j1 * MN) ((mulN s A B j1).map (Value.int .u64)) := by
    rw [HG.out, HMN.out.1, List.map_append]; exact hown1
   have R2 : Ext V w1 := Ext.grown (Ext.chain hx2 (Ext.drew hx)) hgrow hlow
   clear hown1 hgrow
   go_wp2
   go_roundw
   case rel => exact ⟨j1, by have := HJ1.out; omega, by have := HJ1.out; subst this; go_num, R1, R2⟩
   case measure => have := HJ1.out; simp [intOf]; omega
  ·obtain rfl : j = p := by omega
   go_wp2
   go_ret
   exact ⟨_, rfl, owns_base HO.out HXV.out.le, HXV.out.trans hx⟩
end
end Go.Proofs.YtmnjhhachdlmkaaGreat
