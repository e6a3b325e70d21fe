import Derived.Test.YtmnjhhachdlmkaaDisk
import Derived.Test.YtmnjhhachdlmkaaFrame
import Derived.Test.YtmnjhhachdlmkaaEqs
import Derived.Test.YtmnjhhachdlmkaaLen
import Derived.Maps.OwnSet
namespace Go.Proofs.Ytmnjhhachdlmkaa

section
open Go.RowKit

def flatF (rs : List ByteArray) : List UInt8 := rs.flatMap fun r => frameB r.data.toList
theorem flatF_snoc (rs : List ByteArray) (r : ByteArray) : flatF (rs ++ [r]) = flatF rs ++ frameB r.data.toList := by simp [flatF]
theorem len_flatF (rs : List ByteArray) (h : ∀ r ∈ rs, r.size ≤ 100000) : (flatF rs).length ≤ rs.length * 100012 := by
  induction rs with
  | nil => simp [flatF]
  | cons r t ih =>
    have h1 := h r (by simp)
    have h2 := ih (fun x hx => h x (by simp [hx]))
    have h3 := len_frameB r.data.toList
    have h4 : r.data.toList.length = r.size := by simp
    simp only [flatF, List.flatMap_cons, List.length_append, List.length_cons] at h2 ⊢
    omega
def sDraft : ByteArray := ⟨#[115, 116, 111, 114, 101, 46, 110, 101, 119]⟩
def sFile : ByteArray := ⟨#[115, 116, 111, 114, 101]⟩
def sNone : ByteArray := ⟨#[]⟩
def opsNew (b : List UInt8) : List OpV := [⟨0, sDraft, sNone, ⟨b.toArray⟩⟩, ⟨2, sDraft, sNone, sNone⟩, ⟨3, sDraft, sFile, sNone⟩, ⟨4, sNone, sNone, sNone⟩]
def opsAdd (b : List UInt8) : List OpV := [⟨1, sFile, sNone, ⟨b.toArray⟩⟩, ⟨2, sFile, sNone, sNone⟩]

set_option maxRecDepth 100000 in
set_option maxHeartbeats 1600000 in
theorem replace_c (B rb rcap m k : Nat) (rs : List ByteArray) (sv lv dv : Value) (ah : Int) (kn : Bool) (xs : List Value) (w : World) (h : DealAt w B sv lv dv false ah kn) (ho : w.ownsRow 0 154 4 dv k xs)
    (hm : rs.length = m) (hm1 : 1 ≤ m) (hm2 : m ≤ 2000) (hr : ∀ r ∈ rs, r.size ≤ 100000) (hc : ∀ i (hi : i < rs.length), w.cell? ⟨rb, i, none⟩ = some (.string rs[i])) (hk : k ≤ 1000000) :
    Calls Try.prog 68 #[.pointer (some ⟨B, 2, none⟩), .slice (some ⟨rb, 0, none⟩) m rcap] w fun e w' =>
      ∃ dv', e = .returned (.bool true) ∧ DealAt w' B sv lv dv' false ah true ∧ w'.ownsRow 0 154 4 dv' (k + 4) (xs ++ opCells (opsNew (flatF rs))) ∧ Turn (fun b => b = B ∨ dv.ownBlock = some b) w w' ∧ (∀ q, dv'.ownBlock = some q → q < w.heap.size → dv.ownBlock = some q) := by
  obtain ⟨i0, hi, hz0, hz1, hz2⟩ := info_parts infoU8
  have HD : Hid (DealAt w B sv lv dv false ah kn) := h
  have HO : Hid (w.ownsRow 0 154 4 dv k xs) := ho
  have HM : Hid (rs.length = m) := hm
  have HR : Hid (∀ r ∈ rs, r.size ≤ 100000) := hr
  have HC : Hid (∀ i (hi : i < rs.length), w.cell? ⟨rb, i, none⟩ = some (.string rs[i])) := hc
  clear h ho hm hr hc
  go_enter Try.func68, Try.ntmps68
  go_wp2
  go_loopw [5, 10] (fun u i wr => ∃ (j n : Nat), j ≤ m ∧ i = .int .i64 j ∧ (flatF (rs.take j)).length = n ∧ wr.ownsRow w.heap.size 5 1 u n (byteV (flatF (rs.take j))) ∧ Ext w wr) (fun _ i _ => m - (intOf i).toNat)
  case atStart => exact ⟨0, 0, Nat.zero_le _, rfl, rfl, World.ownsRow_nil _ _ _ _, Ext.refl _⟩
  case round =>
    obtain ⟨j, n, hj, rfl, hn, hor, hx⟩ := hrel
    have hn2 : n ≤ 2000 * 100012 := by
      rw [← hn]
      have h1 := len_flatF (rs.take j) (fun r hr => HR.out r (List.mem_of_mem_take hr))
      have h2 : (rs.take j).length ≤ 2000 := by rw [List.length_take, HM.out]; omega
      exact Nat.le_trans h1 (Nat.mul_le_mul h2 (Nat.le_refl _))
    have HN : Hid ((flatF (rs.take j)).length = n) := hn
    have HOR : Hid (wr.ownsRow w.heap.size 5 1 u5 n (byteV (flatF (rs.take j)))) := hor
    have hlow := fun q hq => (World.ownsRow.lt hor q hq).1
    clear hn hor
    by_cases hlt : j < m
    · have hjl : j < rs.length := by rw [HM.out]; exact hlt
      have k0 : wr.cell? ⟨rb, j, none⟩ = some (.string rs[j]) := hx.cell (HC.out j hjl)
      have hrs : rs[j].size ≤ 100000 := HR.out _ (List.getElem_mem hjl)
      have HF : Hid (flatF (rs.take (j + 1)) = flatF (rs.take j) ++ frameB rs[j].data.toList) := by
        show flatF (rs.take (j + 1)) = _
        rw [List.take_succ_eq_append_getElem hjl, flatF_snoc]
      have HFr : Hid _ := frame_c rs[j] (by omega)
      have hls : (frameB rs[j].data.toList).length = 12 + rs[j].size := by rw [len_frameB]; simp
      have HLS : Hid _ := hls
      generalize rs[j] = r at *
      have hsz : (⟨(frameB r.data.toList).toArray⟩ : ByteArray).size = 12 + r.size := by show (frameB r.data.toList).toArray.size = _; rw [List.size_toArray]; exact hls
      have HST : Hid (Lib.strCells ⟨(frameB r.data.toList).toArray⟩ = byteV (frameB r.data.toList)) := by
        show Lib.strCells ⟨(frameB r.data.toList).toArray⟩ = byteV (frameB r.data.toList)
        rw [strCells_eq]
      generalize hfr : (⟨(frameB r.data.toList).toArray⟩ : ByteArray) = fr at *
      clear hls hfr
      go_wp2_with fail
      refine (HFr.out _).mono ?_
      rintro e w1 ⟨rfl, hx1⟩
      have hw1 := (hx.trans hx1).le
      go_wp2_with (at_builtin; refine Lib.wpList_append_own_string _ rfl _ _ 62 9 rfl w.heap.size 5 i0 Try.underlying62 Try.underlying9 hi hz0 hz1 hz2 _ _ _ rfl (Ext.owns hx1 HOR.out) _ rfl ?c1 ?c2 ?c3 ?_)
      case c1 => rw [hsz]; unfold maxLen; omega
      case c2 => rw [hsz]; omega
      case c3 => exact hw1
      intro v3 w3 ho3 hg3 _
      have R2 : Ext w w3 := Ext.grown (hx.trans hx1) hg3 hlow
      have R1 : w3.ownsRow w.heap.size 5 1 v3 (n + (12 + r.size)) (byteV (flatF (rs.take (j + 1)))) := by
        rw [HF.out, byteV_append, ← HST.out]; exact ho3
      have R3 : (flatF (rs.take (j + 1))).length = n + (12 + r.size) := by rw [HF.out, List.length_append, HN.out, HLS.out]
      have HRR : Hid _ := And.intro R1 (And.intro R2 R3)
      clear R1 R2 R3 ho3 hg3
      go_wp2
      go_roundw
      case rel =>
        obtain ⟨R1, R2, R3⟩ := HRR.out
        exact ⟨j + 1, _, by omega, by go_num, R3, R1, R2⟩
      case measure => simp [intOf]; omega
    · obtain rfl : m = j := by omega
      have hall : rs.take m = rs := List.take_of_length_le (by rw [HM.out]; exact Nat.le_refl _)
      rw [hall] at HOR HN
      have hn0 : 1 ≤ n := by
        rw [← HN.out]
        match rs, HM.out, hm1 with
        | r :: t, _, _ =>
          have := len_frameB r.data.toList
          simp [flatF]; omega
        | [], h, h' => simp at h; omega
      obtain ⟨gb, cb, rfl, _, _⟩ := HOR.out.form (by omega)
      have hcv := conv_own HN.out (World.ownsRow.drew HOR.out)
      have HDr : Hid (DealAt wr B sv lv dv false ah kn) := hx.block HD.out
      have HOr : Hid (wr.ownsRow 0 154 4 dv k xs) := Ext.owns hx HO.out
      have HLT : Hid (∀ q, dv.ownBlock = some q → q < wr.heap.size) := fun q hq => (World.ownsRow.lt HOr.out q hq).2
      have HX : Hid (Ext w wr) := hx
      generalize hFB : flatF rs = FB at *
      have HFB : Hid (flatF rs = FB) := hFB
      clear hFB
      clear HOR HN HC HR hall hx
      go_wp2_with fail
      go_region_with (first
        | (go_at_call 69
           refine (doOps_c B _ k 4 sv lv dv ah kn xs (opsNew FB) _ ?ca ?cb ?cc ?cd rfl (by omega) hk).mono ?_
           case ca => exact Ext.block (Ext.alloc (Ext.drew (Ext.refl _)) _) HDr.out
           case cb => exact Ext.owns (Ext.alloc (Ext.drew (Ext.refl _)) _) HOr.out
           case cc => exact heap_alloc_new _ _
           case cd => exact fun hq => absurd (HLT.out _ hq) (Nat.lt_irrefl _)
           rintro e w1 ⟨dv', rfl, hd1, ho1, ht1, hq1⟩
           have f5 := frozen_row hd1 5
           have c5 := (DealAt.cells hd1).2.2.2.2.2))
      have R0 : DealAt (w1.setCell ⟨B, 5, none⟩ (.bool true)) B sv lv dv' false ah true := setCell_row hd1 _
      have R1 : (w1.setCell ⟨B, 5, none⟩ (.bool true)).ownsRow 0 154 4 dv' (k + 4) (xs ++ opCells (opsNew FB)) := owns_setCell ho1 (row_ne (B := B) (t := 94) hd1 ho1 (by decide)) _
      have R2 : Turn (fun b => b = B ∨ dv.ownBlock = some b) w (w1.setCell ⟨B, 5, none⟩ (.bool true)) :=
        Turn.setCell ((Turn.of_ext (Ext.alloc (Ext.drew HX.out) _)).trans ht1) (fun _ => .inl rfl) _
      have R3 : ∀ q, dv'.ownBlock = some q → q < w.heap.size → dv.ownBlock = some q := fun q hq hl => hq1 q hq (Nat.lt_of_lt_of_le hl (Ext.le (Ext.alloc (Ext.drew HX.out) _)))
      have HRR : Hid _ := And.intro R0 (And.intro R1 (And.intro R2 R3))
      clear R0 R1 R2 R3 hd1 ho1 ht1 hq1
      go_wp2
      go_ret
      obtain ⟨R0, R1, R2, R3⟩ := HRR.out
      rw [← HFB.out] at R1
      exact ⟨dv', rfl, R0, R1, R2, R3⟩
end

section
open Go.RowKit

set_option maxRecDepth 100000 in
set_option maxHeartbeats 1600000 in
/-- Add where the file is known: the record is put behind the others. -/
theorem addKnown_c (B k : Nat) (r : ByteArray) (fv sv lv dv : Value) (ah : Int) (xs : List Value) (w : World) (h : DealAt w B sv lv dv false ah true) (ho : w.ownsRow 0 154 4 dv k xs) (hr : r.size ≤ 100000) (hk : k ≤ 1000000) :
    Calls Try.prog 60 #[.pointer (some ⟨B, 2, none⟩), .string r, fv] w fun e w' =>
      ∃ dv', e = .returned (.bool true) ∧ DealAt w' B sv lv dv' false ah true ∧ w'.ownsRow 0 154 4 dv' (k + 2) (xs ++ opCells (opsAdd (frameB r.data.toList))) ∧ Turn (fun b => b = B ∨ dv.ownBlock = some b) w w' ∧ (∀ q, dv'.ownBlock = some q → q < w.heap.size → dv.ownBlock = some q) := by
  have HD : Hid (DealAt w B sv lv dv false ah true) := h
  have HO : Hid (w.ownsRow 0 154 4 dv k xs) := ho
  obtain ⟨c0, c1, c2, c3, c4, c5⟩ := h.cells
  have HF : Hid _ := frame_c r (by omega)
  clear h ho c0 c1 c2 c3 c4
  go_enter Try.func60, Try.ntmps60
  go_wp2_with fail
  have HLT : Hid (∀ q, dv.ownBlock = some q → q < w.heap.size) := fun q hq => (World.ownsRow.lt HO.out q hq).2
  generalize hFB : frameB r.data.toList = FB at *
  have HFB : Hid (frameB r.data.toList = FB) := hFB
  clear hFB
  go_region_with (first
    | (go_at_call 70; refine (HF.out _).mono ?_; rintro e w1 ⟨rfl, hx1⟩)
    | (go_at_call 69
       refine (doOps_c B _ k 2 sv lv dv ah true xs (opsAdd FB) _ ?ca ?cb ?cc ?cd rfl (by omega) hk).mono ?_
       case ca => exact Ext.block (Ext.alloc (Ext.chain hx1 (Ext.drew (Ext.refl _))) _) HD.out
       case cb => exact Ext.owns (Ext.alloc (Ext.chain hx1 (Ext.drew (Ext.refl _))) _) HO.out
       case cc => exact heap_alloc_new _ _
       case cd => exact fun hq => absurd (Nat.lt_of_lt_of_le (HLT.out _ hq) (Ext.le (Ext.chain hx1 (Ext.drew (Ext.refl _))))) (Nat.lt_irrefl _)
       rintro e w2 ⟨dv', rfl, hd1, ho1, ht1, hq1⟩
       have f5 := frozen_row hd1 5
       have c5 := (DealAt.cells hd1).2.2.2.2.2))
  have hx2 : Ext w _ := Ext.alloc (Ext.chain hx1 (Ext.drew (Ext.refl _))) (.cells (opCells (opsAdd FB)).toArray 154)
  have R0 : DealAt (w2.setCell ⟨B, 5, none⟩ (.bool true)) B sv lv dv' false ah true := setCell_row hd1 _
  have R1 : (w2.setCell ⟨B, 5, none⟩ (.bool true)).ownsRow 0 154 4 dv' (k + 2) (xs ++ opCells (opsAdd FB)) := owns_setCell ho1 (row_ne (B := B) (t := 94) hd1 ho1 (by decide)) _
  have R2 : Turn (fun b => b = B ∨ dv.ownBlock = some b) w (w2.setCell ⟨B, 5, none⟩ (.bool true)) :=
    Turn.setCell ((Turn.of_ext hx2).trans ht1) (fun _ => .inl rfl) _
  have R3 : ∀ q, dv'.ownBlock = some q → q < w.heap.size → dv.ownBlock = some q := fun q hq hl => hq1 q hq (Nat.lt_of_lt_of_le hl hx2.le)
  have HRR : Hid _ := And.intro R0 (And.intro R1 (And.intro R2 R3))
  clear R0 R1 R2 R3 hd1 ho1 ht1 hq1 hx2
  go_wp2
  go_ret
  obtain ⟨R0, R1, R2, R3⟩ := HRR.out
  rw [← HFB.out] at R1
  exact ⟨dv', rfl, R0, R1, R2, R3⟩

set_option maxRecDepth 100000 in
set_option maxHeartbeats 1600000 in
theorem recordsNone_c (B : Nat) (dv : Value) (fl : Bool) (ah : Int) (kn : Bool) (w : World) (h : DealAt w B (.slice none 0 0) (.slice none 0 0) dv fl ah kn) :
    Calls Try.prog 61 #[.pointer (some ⟨B, 0, none⟩)] w fun e w' => e = .returned (.slice none 0 0) ∧ w = w' := by
  obtain ⟨c0, c1, c2, c3, c4, c5⟩ := h.cells
  clear h
  go_enter Try.func61, Try.ntmps61
  go_wp2
  go_loopw [3, 15] (fun u i wr => u = .slice none 0 0 ∧ i = .int .i64 0 ∧ wr = w) (fun _ _ _ => 0)
  case atStart => exact ⟨rfl, rfl, rfl⟩
  case round =>
    obtain ⟨rfl, rfl, rfl⟩ := hrel
    go_wp2
    rename World => w
    go_loopw [3, 31] (fun u i wr => u = .slice none 0 0 ∧ i = .int .i64 0 ∧ wr = w) (fun _ _ _ => 0)
    case atStart => exact ⟨rfl, rfl, rfl⟩
    case round =>
      obtain ⟨rfl, rfl, rfl⟩ := hrel
      go_wp2
      rename World => w
      go_loopw [3, 56] (fun u i wr => u = .slice none 0 0 ∧ i = .int .i64 0 ∧ wr = w) (fun _ _ _ => 0)
      case atStart => exact ⟨rfl, rfl, rfl⟩
      case round =>
        obtain ⟨rfl, rfl, rfl⟩ := hrel
        go_wp2
        go_ret
        exact ⟨rfl, rfl⟩
end

section
open Go.RowKit

/-- A stock as it is found: its block, its class. -/
structure StkV where
  blk : Nat
  kd : Int
  m : Int
  k : Int
  n : Int
def StkV.is (s : StkV) (kd m k n : Int) : Bool := s.kd == kd && (s.m == m && (s.k == k && s.n == n))
def StkV.clsAt (s : StkV) (w : World) : Prop := w.cell? ⟨s.blk, 0, none⟩ = some (.int .i64 s.kd) ∧ w.cell? ⟨s.blk, 1, none⟩ = some (.int .i64 s.m) ∧ w.cell? ⟨s.blk, 2, none⟩ = some (.int .i64 s.k) ∧ w.cell? ⟨s.blk, 3, none⟩ = some (.int .i64 s.n)
def foundV (l : List StkV) (kd m k n : Int) : Value := match l.find? (fun s => s.is kd m k n) with | some s => .pointer (some ⟨s.blk, 0, none⟩) | none => .pointer none
/-- The stocks of a dealer: a slice, and what lies in it. -/
def StocksAt (w : World) (sv : Value) (l : List StkV) : Prop :=
  (sv = .slice none 0 0 ∧ l = [] ∨ ∃ g cap, sv = .slice (some ⟨g, 0, none⟩) l.length cap ∧ ∀ i (h : i < l.length), w.cell? ⟨g, i, none⟩ = some (.pointer (some ⟨l[i].blk, 0, none⟩))) ∧ ∀ s ∈ l, s.clsAt w
theorem StocksAt.ext {w w' : World} {sv : Value} {l : List StkV} (h : StocksAt w sv l) (hx : Ext w w') : StocksAt w' sv l := by
  refine ⟨?_, fun s hs => ?_⟩
  · rcases h.1 with h1 | ⟨g, cap, h1, h2⟩
    · exact .inl h1
    · exact .inr ⟨g, cap, h1, fun i hi => hx.cell (h2 i hi)⟩
  · obtain ⟨a, b, c, d⟩ := h.2 s hs
    exact ⟨hx.cell a, hx.cell b, hx.cell c, hx.cell d⟩

theorem found_at (l : List StkV) {kd m k n : Int} (j : Nat) (hj : j < l.length) (hno : ∀ s ∈ l.take j, s.is kd m k n = false) (h : l[j].is kd m k n = true) : foundV l kd m k n = .pointer (some ⟨l[j].blk, 0, none⟩) := by
  have e : l = l.take j ++ (l[j] :: l.drop (j + 1)) := by simp
  have : l.find? (fun s => s.is kd m k n) = some l[j] := by
    have h1 : (l.take j ++ (l[j] :: l.drop (j + 1))).find? (fun s => s.is kd m k n) = some l[j] := by
      rw [List.find?_append, List.find?_eq_none.2 (fun s hs => by rw [hno s hs]; simp), List.find?_cons, h]
      rfl
    rw [← e] at h1
    exact h1
  unfold foundV
  rw [this]
theorem found_none (l : List StkV) {kd m k n : Int} (hno : ∀ s ∈ l, s.is kd m k n = false) : foundV l kd m k n = .pointer none := by
  unfold foundV
  rw [List.find?_eq_none.2 (fun s hs => by rw [hno s hs]; simp)]

set_option maxRecDepth 100000 in
set_option maxHeartbeats 1600000 in
theorem find_c (B : Nat) (l : List StkV) (kd m k n : Int) (sv lv dv : Value) (fl : Bool) (ah : Int) (kn : Bool) (w : World) (h : DealAt w B sv lv dv fl ah kn) (hs : StocksAt w sv l) (hl : l.length ≤ 100) :
    Calls Try.prog 78 #[.pointer (some ⟨B, 0, none⟩), clsV kd m k n] w fun e w' => e = .returned (foundV l kd m k n) ∧ Ext w w' := by
  unfold clsV
  rcases hs with ⟨⟨rfl, rfl⟩ | ⟨g, cap, rfl, hc⟩, hcl⟩
  · obtain ⟨c0, _⟩ := h.cells
    have hB := h.lt
    clear h hcl
    go_enter Try.func78, Try.ntmps78
    go_wp2
    go_loop [12] (fun i => i = .int .i64 0) (fun _ => 0)
    case atStart => rfl
    case round =>
      obtain rfl := hrel
      go_wp2
      go_ret
      exact ⟨rfl, (Ext.refl w).alloc _⟩
  · have HC : Hid (∀ i (h : i < l.length), w.cell? ⟨g, i, none⟩ = some (.pointer (some ⟨l[i].blk, 0, none⟩))) := hc
    have HCL : Hid (∀ s ∈ l, s.clsAt w) := hcl
    have heq := fun (a b c e a' b' c' e' : Int) (w : World) => eqClass 9998 a b c e a' b' c' e' w
    obtain ⟨c0, _⟩ := h.cells
    have hB := h.lt
    clear h hc hcl
    obtain ⟨len, hlen⟩ : ∃ len, l.length = len := ⟨_, rfl⟩
    have HLEN : Hid (l.length = len) := hlen
    rw [hlen] at c0 hl
    clear hlen
    go_enter Try.func78, Try.ntmps78
    go_wp2
    have hf := four_in (Ext.refl (w.alloc (.cells #[.int .i64 kd, .int .i64 m, .int .i64 k, .int .i64 n] 23)))
    have HXV : Hid (Ext w (w.alloc (.cells #[.int .i64 kd, .int .i64 m, .int .i64 k, .int .i64 n] 23))) := (Ext.refl w).alloc _
    generalize World.alloc w _ = V at hf HXV ⊢
    obtain ⟨d0, d1, d2, d3⟩ := hf
    go_loopw [12] (fun i wr => ∃ j : Nat, j ≤ len ∧ i = .int .i64 j ∧ (∀ s ∈ l.take j, s.is kd m k n = false) ∧ Ext V wr) (fun i _ => len - (intOf i).toNat)
    case atStart => exact ⟨0, Nat.zero_le _, rfl, by simp, Ext.refl _⟩
    case round =>
      obtain ⟨j, hj, rfl, hno, hxr⟩ := hrel
      have d0 := hxr.cell d0
      have d1 := hxr.cell d1
      have d2 := hxr.cell d2
      have d3 := hxr.cell d3
      have HXR : Hid (Ext w wr) := HXV.out.trans hxr
      have HXR2 : Hid (Ext V wr) := hxr
      clear hxr
      have HNO : Hid (∀ s ∈ l.take j, s.is kd m k n = false) := hno
      clear hno
      by_cases hlt : j < len
      · have hjl : j < l.length := by rw [HLEN.out]; exact hlt
        have e0 := HXR.out.cell (HC.out j hjl)
        obtain ⟨b0, b1, b2, b3⟩ := HCL.out l[j] (List.getElem_mem hjl)
        have b0 := HXR.out.cell b0
        have b1 := HXR.out.cell b1
        have b2 := HXR.out.cell b2
        have b3 := HXR.out.cell b3
        have HIS : Hid (l[j].is kd m k n = (l[j].kd == kd && (l[j].m == m && (l[j].k == k && l[j].n == n)))) := rfl
        have HT : Hid (l.take (j + 1) = l.take j ++ [l[j]]) := List.take_succ_eq_append_getElem hjl
        by_cases his : l[j].is kd m k n = true
        · have HFV : Hid (foundV l kd m k n = .pointer (some ⟨l[j].blk, 0, none⟩)) := found_at l j hjl HNO.out his
          rw [HIS.out] at his
          generalize l[j] = s at *
          obtain ⟨blk, skd, sm, sk, sn⟩ := s
          simp only at *
          go_wp2
          go_region
          all_goals go_wp2
          all_goals go_ret
          all_goals exact ⟨by rw [HFV.out]; rfl, HXR.out.drew⟩
        · have HN2 : Hid (∀ s ∈ l.take (j + 1), s.is kd m k n = false) := fun s hs => by
            rw [HT.out] at hs
            rcases List.mem_append.1 hs with h | h
            · exact HNO.out s h
            · rw [List.mem_singleton.1 h]; simpa using his
          rw [HIS.out] at his
          generalize l[j] = s at *
          obtain ⟨blk, skd, sm, sk, sn⟩ := s
          simp only at *
          have his2 : (skd == kd && (sm == m && (sk == k && sn == n))) = false := by simpa using his
          clear his
          go_wp2
          go_region
          all_goals go_wp2
          all_goals go_roundw
          all_goals first
            | exact ⟨j + 1, by omega, by go_num, HN2.out, HXR2.out.drew⟩
            | (simp [intOf]; omega)
      · obtain rfl : j = len := by omega
        have hall : l.take j = l := List.take_of_length_le (by rw [HLEN.out]; exact Nat.le_refl _)
        have HNO2 := HNO.out
        rw [hall] at HNO2
        have HFV : Hid (foundV l kd m k n = .pointer none) := found_none l HNO2
        clear HNO2 hall HNO
        go_wp2
        go_ret
        exact ⟨by rw [HFV.out]; rfl, HXR.out⟩
end

section
open Go.RowKit Go.Maps

theorem cell_in {w w' : World} {cs : Array Value} {t : TypeId} (h : Ext (w.alloc (.cells cs t)) w') (i : Nat) {v : Value} (hv : cs[i]? = some v) : w'.cell? ⟨w.heap.size, i, none⟩ = some v := by
  have hb : (w.alloc (.cells cs t)).heap[w.heap.size]? = some (.cells cs t (0, 0)) := heap_alloc_new w _
  exact h.cell (by rw [cell_of_row _ _ i _ _ _ hb]; exact hv)

set_option maxRecDepth 100000 in
set_option maxHeartbeats 1600000 in
theorem against0_c (B : Nat) (kd m k n : Int) (tv : Option Addr) (t tcap : Nat) (ht : t ≤ 200) (dv : Value) (fl : Bool) (ah : Int) (kn : Bool) (w : World) (h : DealAt w B (.slice none 0 0) (.slice none 0 0) dv fl ah kn) :
    Calls Try.prog 116 #[.agg #[.int .i64 kd, .int .i64 m, .int .i64 k, .int .i64 n, .slice tv t tcap], .pointer (some ⟨B, 0, none⟩)] w fun e w' => e = .returned (.int .i64 0) ∧ Ext w w' := by
  have HD : Hid (DealAt w B (.slice none 0 0) (.slice none 0 0) dv fl ah kn) := h
  have HF : Hid (∀ w', Ext w w' → Calls Try.prog 78 #[.pointer (some ⟨B, 0, none⟩), .agg #[.int .i64 kd, .int .i64 m, .int .i64 k, .int .i64 n]] w' fun e w'' => e = .returned (.pointer none) ∧ Ext w' w'') := fun w' hx =>
    find_c B [] kd m k n _ _ dv fl ah kn w' (hx.block h) ⟨.inl ⟨rfl, rfl⟩, by simp⟩ (by simp)
  obtain ⟨c0, _⟩ := h.cells
  have hB := h.lt
  clear h
  go_enter Try.func116, Try.ntmps116
  go_wp2_with fail
  refine (HF.out _ ((Ext.refl w).alloc _)).mono ?_
  rintro e w1 ⟨rfl, hx1⟩
  have HX1 : Hid (Ext w w1) := ((Ext.refl w).alloc _).trans hx1
  have c0' := HX1.out.cell c0
  have m4 := cell_in hx1 4 rfl
  clear hx1 c0
  go_wp2
  all_goals go_ret
  all_goals exact ⟨rfl, HX1.out⟩

theorem infoPStock : (Try.prog.info? 155).map (fun i => (i.zero, i.size, i.bytes)) = some (some (.pointer none), 1, 8) := by kernel_rfl

set_option maxRecDepth 100000 in
set_option maxHeartbeats 1600000 in
theorem stockFor0_c (B : Nat) (kd m k n : Int) (dv : Value) (fl : Bool) (ah : Int) (kn : Bool) (w : World) (h : DealAt w B (.slice none 0 0) (.slice none 0 0) dv fl ah kn) :
    Calls Try.prog 118 #[.pointer (some ⟨B, 0, none⟩), clsV kd m k n] w fun e w' => ∃ gk gs cs mb, e = .returned (.pointer (some ⟨gk, 0, none⟩)) ∧ DealAt w' B (.slice (some ⟨gs, 0, none⟩) 1 cs) (.slice none 0 0) dv fl ah kn ∧
      w'.heap[gk]? = some (.cells #[.int .i64 kd, .int .i64 m, .int .i64 k, .int .i64 n, .int .i64 0, .int .i64 0, .map (some mb)] 171 (0, 0)) ∧ w'.heap[mb]? = some (.map #[] 0) ∧ w'.cell? ⟨gs, 0, none⟩ = some (.pointer (some ⟨gk, 0, none⟩)) ∧ w'.ownsRow w.heap.size 155 1 (.slice (some ⟨gs, 0, none⟩) 1 cs) 1 [.pointer (some ⟨gk, 0, none⟩)] ∧ Turn (fun b => b = B) w w' ∧ w.heap.size ≤ gk ∧ w.heap.size ≤ mb ∧ w.heap.size ≤ gs := by
  unfold clsV
  have HD : Hid (DealAt w B (.slice none 0 0) (.slice none 0 0) dv fl ah kn) := h
  have HF : Hid (∀ w', Ext w w' → Calls Try.prog 78 #[.pointer (some ⟨B, 0, none⟩), .agg #[.int .i64 kd, .int .i64 m, .int .i64 k, .int .i64 n]] w' fun e w'' => e = .returned (.pointer none) ∧ Ext w' w'') := fun w' hx =>
    find_c B [] kd m k n _ _ dv fl ah kn w' (hx.block h) ⟨.inl ⟨rfl, rfl⟩, by simp⟩ (by simp)
  obtain ⟨c0, _⟩ := h.cells
  have hB := h.lt
  clear h
  obtain ⟨i0, hi, hz0, hz1, hz2⟩ := info_parts infoPStock
  go_enter Try.func118, Try.ntmps118
  go_wp2_with fail
  refine (HF.out _ ((Ext.refl w).alloc _)).mono ?_
  rintro e w1 ⟨rfl, hx1⟩
  obtain ⟨d0, d1, d2, d3⟩ := four_in hx1
  have HD1 : Hid (DealAt w1 B (.slice none 0 0) (.slice none 0 0) dv fl ah kn) := (((Ext.refl w).alloc _).trans hx1).block HD.out
  have HX1 : Hid (Ext w w1) := ((Ext.refl w).alloc _).trans hx1
  obtain ⟨c0', _⟩ := DealAt.cells HD1.out
  have hB1 := DealAt.lt HD1.out
  have f0 := frozen_row HD1.out 0
  clear hx1
  have hmm := @run_makeMap Try.prog
  have hw1 := HX1.out.le
  go_wp2_with (at_builtin; refine wpList_append_lies _ rfl _ _ 84 rfl w.heap.size 155 i0 _ 1 8 Try.underlying84 hi hz0 hz1 hz2 rfl (by decide) _ 0 [] rfl (World.ownsRow_nil _ _ _ _) ⟨_, 0, none⟩ 1 1 [.pointer (some ⟨w1.heap.size + 1, 0, none⟩)] rfl rfl (World.news_of_block (at_new (by simp))) (by simp [Value.oneCell']) (by decide) (by simp [maxLen]) (by omega) ?c1 _ rfl ?_)
  case c1 => simp; omega
  intro gs cs w2 ho2 hg2 hat hlt2
  have hX : Ext w1 _ := Ext.alloc (Ext.alloc (Ext.alloc (Ext.refl w1) (.map #[] 0)) (.cells #[.int .i64 kd, .int .i64 m, .int .i64 k, .int .i64 n, .int .i64 0, .int .i64 0, .map (some w1.heap.size)] 171)) (.cells #[.pointer (some ⟨w1.heap.size + 1, 0, none⟩)] 155)
  have hX2 : Ext w1 w2 := Ext.grown hX hg2 (fun q hq => by simp [Value.ownBlock] at hq)
  have HD2 : Hid (DealAt w2 B (.slice none 0 0) (.slice none 0 0) dv fl ah kn) := hX2.block HD1.out
  have hmb : w2.heap[w1.heap.size]? = some (.map #[] 0) := (hg2.block _ (by simp; omega) (by simp [Value.ownBlock])).trans (at_old (at_old (heap_alloc_new _ _)))
  have hgk : w2.heap[w1.heap.size + 1]? = some (.cells #[.int .i64 kd, .int .i64 m, .int .i64 k, .int .i64 n, .int .i64 0, .int .i64 0, .map (some w1.heap.size)] 171 (0, 0)) := (hg2.block _ (by simp) (by simp [Value.ownBlock])).trans (at_old (at_new (by simp)))
  have hgs : w1.heap.size + 3 ≤ gs := by
    rcases hat with h | h
    · simp [Value.ownBlock] at h
    · rw [h]; simp
  obtain ⟨c0'', _⟩ := DealAt.cells HD2.out
  have f0'' := frozen_row HD2.out 0
  have HR : Hid _ := And.intro ho2 (And.intro hmb hgk)
  have HX2 : Hid (Ext w w2) := HX1.out.trans hX2
  clear ho2 hmb hgk hg2 hat hX hX2 c0 c0' d0 d1 d2 d3 hmm
  go_wp2
  go_ret
  obtain ⟨ho2, hmb, hgk⟩ := HR.out
  have hB2 : B < w2.heap.size := DealAt.lt HD2.out
  have hcell := ho2.cellAt 0 (by simp)
  refine ⟨w1.heap.size + 1, gs, cs, w1.heap.size, rfl, setCell_row HD2.out _, ?_, ?_, ?_, owns_setCell ho2 (by simp [Value.ownBlock]; omega) _, Turn.setCell (S := fun b => b = B) (p := ⟨B, 0, none⟩) (Turn.of_ext HX2.out) (fun _ => rfl) _, by omega, by omega, by omega⟩
  · rw [Below.heap_setCell _ _ _ _ (by show w1.heap.size + 1 ≠ B; omega)]; exact hgk
  · rw [Below.heap_setCell _ _ _ _ (by show w1.heap.size ≠ B; omega)]; exact hmb
  · rw [World.cell?_of_block (w := w2) (Below.heap_setCell _ _ _ _ (by show gs ≠ B; omega))]; exact hcell
end
end Go.Proofs.Ytmnjhhachdlmkaa
