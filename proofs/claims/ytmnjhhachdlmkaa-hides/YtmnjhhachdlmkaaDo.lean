import Derived.Test.YtmnjhhachdlmkaaApply
import Derived.Test.YtmnjhhachdlmkaaTri2
namespace Go.Proofs.Ytmnjhhachdlmkaa

section
open Go.RowKit

/-- Words of the size that words have. -/
def inU64 (zs : List Int) : Prop := ∀ z ∈ zs, 0 ≤ z ∧ z ≤ 18446744073709551615

/-- A row of at most so many bytes. -/
def OB (w : World) (base : Nat) (u : Value) (b : Nat) : Prop := ∃ (l : List UInt8) (n : Nat), l.length = n ∧ n ≤ b ∧ w.ownsRow base 5 1 u n (byteV l)

theorem getD_mem (zs : List Int) (q : Nat) (h : q < zs.length) : zs.getD q 0 ∈ zs := by
  rw [List.getD_eq_getElem?_getD, List.getElem?_eq_getElem h]; exact List.getElem_mem h
theorem putO_c (base _n b : Nat) (u : Value) (z : Int) (h0 : 0 ≤ z) (h1 : z ≤ 18446744073709551615) (w : World) (hb : base ≤ w.heap.size) (ho : OB w base u b) (hbb : b ≤ 1000000) :
    Calls Try.prog 38 #[u, .int .u64 z, .int .i64 8] w fun e w' => ∃ v', e = .returned v' ∧ OB w' base v' (b + 8) ∧ Below base w w' := by
  obtain ⟨l, n, hl, hn, ho⟩ := ho
  refine (put_c base n u (byteV l) z 8 (by omega) h0 h1 w ho hb (by omega)).mono ?_
  rintro e w' ⟨v', rfl, ho', hbe, _⟩
  refine ⟨v', rfl, ⟨l ++ bytesI z 8, n + 8, ?_, by omega, ?_⟩, hbe⟩
  · have := ho'.1
    rw [beV_I z 8 (by omega), ← byteV_append, len_byteV] at this
    simpa using this
  · rw [byteV_append, ← beV_I z 8 (by omega)]; exact ho'

set_option maxRecDepth 100000 in
set_option maxHeartbeats 1600000 in
theorem record1_c (kd m k n gt tcap a0 a1 L c0 c1 : Nat) (z0 z1 : List Int) (_hkd : kd ≤ 2) (_hm : m ≤ 3) (_hk : k ≤ 3) (_hn : n ≤ 3) (hL1 : 1 ≤ L) (hL2 : L ≤ 27) (hz0 : z0.length = L) (hz1 : z1.length = L) (hu0 : inU64 z0) (hu1 : inU64 z1) (w : World)
    (ht0 : w.cell? ⟨gt, 0, none⟩ = some (.slice (some ⟨a0, 0, none⟩) L c0)) (ht1 : w.cell? ⟨gt, 1, none⟩ = some (.slice (some ⟨a1, 0, none⟩) L c1)) (hw0 : WordsAt w a0 0 z0) (hw1 : WordsAt w a1 0 z1) :
    Calls Try.prog 72 #[.agg #[.int .i64 kd, .int .i64 m, .int .i64 k, .int .i64 n, .slice (some ⟨gt, 0, none⟩) 1 tcap]] w fun e w' => ∃ s : ByteArray, e = .returned (.string s) ∧ s.size ≤ 100000 ∧ Ext w w' := by
  obtain ⟨i0, hi, hq0, hq1, hq2⟩ := info_parts infoU8
  have HW0 : Hid (WordsAt w a0 0 z0) := hw0
  have HW1 : Hid (WordsAt w a1 0 z1) := hw1
  have HZ : Hid (z0.length = L ∧ z1.length = L ∧ inU64 z0 ∧ inU64 z1) := ⟨hz0, hz1, hu0, hu1⟩
  have HT : Hid _ := And.intro ht0 ht1
  clear _hkd _hm _hk _hn hw0 hw1 hz0 hz1 hu0 hu1 ht0 ht1
  go_enter Try.func72, Try.ntmps72
  go_wp2_with fail
  have HR0 : Hid (OB ((w.alloc (.cells #[.int .i64 kd, .int .i64 m, .int .i64 k, .int .i64 n, .slice (some ⟨gt, 0, none⟩) 1 tcap] 114)).alloc (.cells #[.int .u8 0, .int .u8 ((kd : Int) % 256), .int .u8 ((m : Int) % 256), .int .u8 ((k : Int) % 256), .int .u8 ((n : Int) % 256)] 5)) w.heap.size (.slice (some ⟨w.heap.size + 1, 0, none⟩) 5 5) 5) :=
    ⟨[0, UInt8.ofNat kd, UInt8.ofNat m, UInt8.ofNat k, UInt8.ofNat n], 5, rfl, Nat.le_refl _, by
      have := World.ownsRow_lit (base := w.heap.size) (size := 1) (e := 5) (w.alloc (.cells #[.int .i64 kd, .int .i64 m, .int .i64 k, .int .i64 n, .slice (some ⟨gt, 0, none⟩) 1 tcap] 114)) #[.int .u8 0, .int .u8 ((kd : Int) % 256), .int .u8 ((m : Int) % 256), .int .u8 ((k : Int) % 256), .int .u8 ((n : Int) % 256)] 5 (by simp) (by unfold maxLen; omega) rfl
      rw [World.size_alloc] at this
      have e : ∀ x : Nat, ((UInt8.ofNat x).toNat : Int) = (x : Int) % 256 := fun x => by simp
      simpa [byteV, e] using this⟩
  have HX0 : Hid (Ext w ((w.alloc (.cells #[.int .i64 kd, .int .i64 m, .int .i64 k, .int .i64 n, .slice (some ⟨gt, 0, none⟩) 1 tcap] 114)).alloc (.cells #[.int .u8 0, .int .u8 ((kd : Int) % 256), .int .u8 ((m : Int) % 256), .int .u8 ((k : Int) % 256), .int .u8 ((n : Int) % 256)] 5))) := ((Ext.refl w).alloc _).alloc _
  generalize World.alloc (World.alloc w _) _ = W at HR0 HX0 ⊢
  go_loopw [3, 30] (fun u i wr => (i = .int .i64 0 ∧ OB wr w.heap.size u 5 ∧ Ext w wr) ∨ (i = .int .i64 1 ∧ OB wr w.heap.size u 438 ∧ Ext w wr)) (fun _ i _ => 1 - (intOf i).toNat)
  case atStart => exact .inl ⟨rfl, HR0.out, HX0.out⟩
  case round =>
    rcases hrel with ⟨rfl, hob, hx⟩ | ⟨rfl, hob, hx⟩
    · obtain ⟨l, nn, hl, hnn, ho⟩ := hob
      have HO : Hid (wr.ownsRow w.heap.size 5 1 u3 nn (byteV l)) := ho
      have HL : Hid (l.length = nn) := hl
      have t0 := hx.cell HT.out.1
      have t1 := hx.cell HT.out.2
      have HX : Hid (Ext w wr) := hx
      have hwx := hx.le
      clear ho hl hx HR0 HX0
      have hone : (Value.slice (some ⟨a1, 0, none⟩) L c1).oneCell' = true := rfl
      have hix0 : ∀ w, (Instr.index 116 (.agg #[.slice (some ⟨a0, 0, none⟩) L c0, .slice (some ⟨a1, 0, none⟩) L c1]) (.int .i64 0)).run Try.prog w = .ok (.slice (some ⟨a0, 0, none⟩) L c0) w := fun w => by kernel_rfl
      have hix1 : ∀ w, (Instr.index 116 (.agg #[.slice (some ⟨a0, 0, none⟩) L c0, .slice (some ⟨a1, 0, none⟩) L c1]) (.int .i64 1)).run Try.prog w = .ok (.slice (some ⟨a1, 0, none⟩) L c1) w := fun w => by kernel_rfl
      have hL0 : ((L : Int) == 0) = false := by simp; omega
      go_wp2_with fail
      refine (isForgotten_c (some ⟨a0, 0, none⟩) L c0 _ hone _).mono ?_
      rintro e w2 ⟨rfl, hx2⟩
      have v0 := cell_in hx2 0 rfl
      have v1 := cell_in hx2 1 rfl
      have HX2 : Hid (Ext wr w2) := ((Ext.refl wr).alloc _).trans hx2
      have hw2 := HX2.out.le
      have hlv := World.block_lt_of_cell? w2 _ v0
      clear hx2
      go_wp2_with (at_builtin; refine wpList_append_own _ rfl _ _ 62 rfl w.heap.size 5 i0 (.int .u8 0) 1 1 Try.underlying62 hi hq0 hq1 hq2 rfl (by decide) _ _ _ rfl (World.ownsRow.alloc (Ext.owns HX2.out HO.out) _) ⟨_, 0, none⟩ 1 1 [.int .u8 1] rfl rfl ?c1 ?c2 ?c3 ?c4 ?c5 ?_)
      case c1 => exact cell_one_new _ _ _
      case c2 => intro u hu; simp at hu; subst hu; rfl
      case c3 => unfold maxLen; omega
      case c4 => omega
      case c5 => simp; omega
      intro v3 w3 ho3 hg3 _
      have HX3 : Hid (Ext w w3) := Ext.grown (Ext.alloc (HX.out.trans HX2.out) _) hg3 (fun q hq => (World.ownsRow.lt HO.out q hq).1)
      have HO3 : Hid (OB w3 w.heap.size v3 6) := ⟨l ++ [1], nn + 1, by simp [HL.out], by omega, by rw [byteV_append]; exact ho3⟩
      have hne : u3.ownBlock ≠ some wr.heap.size := fun e => by have := (World.ownsRow.lt HO.out _ e).2; omega
      have v0' : w3.cell? ⟨wr.heap.size, 0, none⟩ = some (.slice (some ⟨a0, 0, none⟩) L c0) := by
        rw [hg3.cell_far _ (by simp at hlv ⊢; omega) (fun e => hne e.symm)]
        exact (Ext.alloc (Ext.refl _) _).cell v0
      have v1' : w3.cell? ⟨wr.heap.size, 1, none⟩ = some (.slice (some ⟨a1, 0, none⟩) L c1) := by
        rw [hg3.cell_far _ (by simp at hlv ⊢; omega) (fun e => hne e.symm)]
        exact (Ext.alloc (Ext.refl _) _).cell v1
      clear ho3 hg3 v0 v1 t0 t1
      go_wp2_with fail
      go_loopw [3, 43] (fun u i ws => ∃ j : Nat, j ≤ 2 ∧ i = .int .i64 j ∧ OB ws w.heap.size u (6 + j * 216) ∧ Ext w ws) (fun _ i _ => 2 - (intOf i).toNat)
      case atStart => exact ⟨0, Nat.zero_le _, rfl, HO3.out, HX3.out⟩
      case round =>
        obtain ⟨j, hj, rfl, hob4, hx4⟩ := hrel
        have HOB4 : Hid (OB _ w.heap.size u3 (6 + j * 216)) := hob4
        have HX4 : Hid (Ext w _) := hx4
        clear hob4 hx4
        by_cases hlt : j < 2
        · have hj2 : j = 0 ∨ j = 1 := by omega
          obtain ⟨l4, n4, hl4, hn4, ho4⟩ := HOB4.out
          have HO4 : Hid _ := And.intro hl4 ho4
          clear hl4 ho4
          have X4 : Ext w wr := HX4.out
          rcases hj2 with rfl | rfl
          · go_wp2_with fail
            go_loopw [3, 48] (fun u i wt => ∃ q : Nat, q ≤ L ∧ i = .int .i64 q ∧ OB wt w.heap.size u (n4 + q * 8) ∧ Ext w wt) (fun _ i _ => L - (intOf i).toNat)
            case atStart => exact ⟨0, Nat.zero_le _, rfl, ⟨l4, n4, HO4.out.1, by omega, HO4.out.2⟩, X4⟩
            case round =>
              obtain ⟨q, hq, rfl, hob5, hx5⟩ := hrel
              have HOB5 : Hid (OB wr w.heap.size u3 (n4 + q * 8)) := hob5
              have HX5 : Hid (Ext w wr) := hx5
              clear hob5 hx5
              by_cases hlq : q < L
              · have q0 := HX5.out.cell (HW0.out q (by rw [HZ.out.1]; exact hlq))
                have q1 := HX5.out.cell (HW1.out q (by rw [HZ.out.2.1]; exact hlq))
                have b0 : 0 ≤ z0.getD q 0 ∧ z0.getD q 0 ≤ 18446744073709551615 := HZ.out.2.2.1 _ (getD_mem z0 q (by rw [HZ.out.1]; exact hlq))
                have b1 : 0 ≤ z1.getD q 0 ∧ z1.getD q 0 ≤ 18446744073709551615 := HZ.out.2.2.2 _ (getD_mem z1 q (by rw [HZ.out.2.1]; exact hlq))
                have HB : Hid _ := And.intro b0 b1
                rw [Nat.zero_add] at q0 q1
                generalize z0.getD q 0 = y0 at *
                generalize z1.getD q 0 = y1 at *
                clear b0 b1
                have hwl := HX5.out.le
                go_wp2_with fail
                refine (putO_c w.heap.size 0 (n4 + q * 8) _ y0 HB.out.1.1 HB.out.1.2 _ hwl HOB5.out (by omega)).mono ?_
                rintro e w6 ⟨v6, rfl, hob6, hbe6⟩
                have HR6 : Hid _ := And.intro hob6 (Below.trans HX5.out hbe6)
                clear hob6 hbe6
                go_wp2
                go_roundw
                case rel => exact ⟨_, _, _, _, _, _, _, _, _, _, ⟨q + 1, by omega, by go_num, by rw [Nat.add_mul, Nat.one_mul, ← Nat.add_assoc]; exact HR6.out.1, HR6.out.2⟩, rfl⟩
                case measure => simp [intOf]; omega
              · obtain rfl : q = L := by omega
                have HR7 : Hid (OB wr w.heap.size u3 (n4 + q * 8)) := HOB5.out
                go_wp2
                go_roundw
                case rel =>
                  obtain ⟨l7, n7, e7, h7, o7⟩ := HR7.out
                  exact ⟨1, by omega, by go_num, ⟨l7, n7, e7, by omega, o7⟩, HX5.out⟩
                case measure => simp [intOf]
          · go_wp2_with fail
            go_loopw [3, 48] (fun u i wt => ∃ q : Nat, q ≤ L ∧ i = .int .i64 q ∧ OB wt w.heap.size u (n4 + q * 8) ∧ Ext w wt) (fun _ i _ => L - (intOf i).toNat)
            case atStart => exact ⟨0, Nat.zero_le _, rfl, ⟨l4, n4, HO4.out.1, by omega, HO4.out.2⟩, X4⟩
            case round =>
              obtain ⟨q, hq, rfl, hob5, hx5⟩ := hrel
              have HOB5 : Hid (OB wr w.heap.size u3 (n4 + q * 8)) := hob5
              have HX5 : Hid (Ext w wr) := hx5
              clear hob5 hx5
              by_cases hlq : q < L
              · have q0 := HX5.out.cell (HW0.out q (by rw [HZ.out.1]; exact hlq))
                have q1 := HX5.out.cell (HW1.out q (by rw [HZ.out.2.1]; exact hlq))
                have b0 : 0 ≤ z0.getD q 0 ∧ z0.getD q 0 ≤ 18446744073709551615 := HZ.out.2.2.1 _ (getD_mem z0 q (by rw [HZ.out.1]; exact hlq))
                have b1 : 0 ≤ z1.getD q 0 ∧ z1.getD q 0 ≤ 18446744073709551615 := HZ.out.2.2.2 _ (getD_mem z1 q (by rw [HZ.out.2.1]; exact hlq))
                have HB : Hid _ := And.intro b0 b1
                rw [Nat.zero_add] at q0 q1
                generalize z0.getD q 0 = y0 at *
                generalize z1.getD q 0 = y1 at *
                clear b0 b1
                have hwl := HX5.out.le
                go_wp2_with fail
                refine (putO_c w.heap.size 0 (n4 + q * 8) _ y1 HB.out.2.1 HB.out.2.2 _ hwl HOB5.out (by omega)).mono ?_
                rintro e w6 ⟨v6, rfl, hob6, hbe6⟩
                have HR6 : Hid _ := And.intro hob6 (Below.trans HX5.out hbe6)
                clear hob6 hbe6
                go_wp2
                go_roundw
                case rel => exact ⟨_, _, _, _, _, _, _, _, _, _, ⟨q + 1, by omega, by go_num, by rw [Nat.add_mul, Nat.one_mul, ← Nat.add_assoc]; exact HR6.out.1, HR6.out.2⟩, rfl⟩
                case measure => simp [intOf]; omega
              · obtain rfl : q = L := by omega
                have HR7 : Hid (OB wr w.heap.size u3 (n4 + q * 8)) := HOB5.out
                go_wp2
                go_roundw
                case rel =>
                  obtain ⟨l7, n7, e7, h7, o7⟩ := HR7.out
                  exact ⟨2, by omega, by go_num, ⟨l7, n7, e7, by omega, o7⟩, HX5.out⟩
                case measure => simp [intOf]
        · obtain rfl : j = 2 := by omega
          go_wp2
          go_roundw
          case rel => exact .inr ⟨by go_num, HOB4.out, HX4.out⟩
          case measure => simp [intOf]
    · obtain ⟨l, nn, hl, hnn, ho⟩ := hob
      have hf := owns_form ho
      rcases hf with ⟨rfl, rfl, hb⟩ | ⟨g, cp, rfl, _, _, _⟩
      · have hcv : (convert 62 9 (.slice none 0 0)).run Try.prog wr = .ok (.string ⟨#[]⟩) wr := by kernel_rfl
        go_wp2
        go_ret
        exact ⟨_, rfl, by decide, hx⟩
      · have hcv := conv_own hl ho
        have HS : Hid ((⟨l.toArray⟩ : ByteArray).size ≤ 100000) := by
          show l.toArray.size ≤ 100000
          rw [List.size_toArray]; omega
        have HXX : Hid (Ext w wr) := hx
        clear ho hl hx
        go_wp2
        go_ret
        exact ⟨_, rfl, HS.out, HXX.out⟩
end

section
open Go.RowKit Go.Maps

theorem mm_against (a b c d e : Value) (w : World) : (method 301 114 (.agg #[a, b, c, d, e]) "dealer/store.against").run Try.prog w = .ok (116, .agg #[a, b, c, d, e]) w := by kernel_rfl
theorem mm_record (a b c d e : Value) (w : World) : (method 301 114 (.agg #[a, b, c, d, e]) "dealer/store.record").run Try.prog w = .ok (72, .agg #[a, b, c, d, e]) w := by kernel_rfl
theorem mm_apply (a b c d e : Value) (w : World) : (method 301 114 (.agg #[a, b, c, d, e]) "dealer/store.apply").run Try.prog w = .ok (117, .agg #[a, b, c, d, e]) w := by kernel_rfl
theorem mn_record (a b c d e : Value) (w : World) : (nilAhead 301 114 (.agg #[a, b, c, d, e]) "dealer/store.record").run Try.prog w = .ok (some false) w := by kernel_rfl

theorem infoStr : (Try.prog.info? 9).map (fun i => (i.zero, i.size, i.bytes)) = some (some (.string ⟨#[]⟩), 1, 16) := by kernel_rfl

set_option maxRecDepth 100000 in
set_option maxHeartbeats 1600000 in
/-- Add where the file is not known, of a store of nothing. -/
theorem addNew0_c (B k : Nat) (r : ByteArray) (dv : Value) (ah : Int) (xs : List Value) (w : World) (h : DealAt w B (.slice none 0 0) (.slice none 0 0) dv false ah false) (ho : w.ownsRow 0 154 4 dv k xs) (hr : r.size ≤ 100000) (hk : k ≤ 1000000) :
    Calls Try.prog 60 #[.pointer (some ⟨B, 2, none⟩), .string r, .func (.func 61) #[.pointer (some ⟨B, 0, none⟩)] #[]] w fun e w' =>
      ∃ dv', e = .returned (.bool true) ∧ DealAt w' B (.slice none 0 0) (.slice none 0 0) dv' false ah true ∧ w'.ownsRow 0 154 4 dv' (k + 4) (xs ++ opCells (opsNew (flatF [r]))) ∧ Turn (fun b => b = B ∨ dv.ownBlock = some b) w w' ∧ (∀ q, dv'.ownBlock = some q → q < w.heap.size → dv.ownBlock = some q) := by
  obtain ⟨i0, hi, hz0, hz1, hz2⟩ := info_parts infoStr
  have HD : Hid (DealAt w B (.slice none 0 0) (.slice none 0 0) dv false ah false) := h
  have HO : Hid (w.ownsRow 0 154 4 dv k xs) := ho
  obtain ⟨_, _, _, _, _, c5⟩ := h.cells
  clear h ho
  go_enter Try.func60, Try.ntmps60
  go_wp2_with fail
  refine (recordsNone_c B dv false ah false _ HD.out).mono ?_
  rintro e w1 ⟨rfl, rfl⟩
  go_wp2_with (at_builtin; refine wpList_append_lies _ rfl _ _ 150 rfl 0 9 i0 _ 1 16 Try.underlying150 hi hz0 hz1 hz2 rfl (by decide) _ 0 [] rfl (World.ownsRow_nil _ _ _ _) ⟨_, 0, none⟩ 1 1 [.string r] rfl rfl (World.news_of_block (heap_alloc_new _ _)) (by simp [Value.oneCell']) (by decide) (by simp [maxLen]) (by omega) (Nat.zero_le _) _ rfl ?_)
  intro g cap3 w2 hown2 hgrow hat hlt1
  have hX : Ext w w2 := Ext.grown (Ext.alloc (Ext.refl _) _) hgrow (by simp [Value.ownBlock])
  have HOW : Hid _ := hown2
  have HX : Hid (Ext w w2) := hX
  clear hown2 hgrow hat hX
  go_wp2_with fail
  refine (replace_c B g cap3 1 k [r] _ _ dv ah false xs w2 (HX.out.block HD.out) (HX.out.owns HO.out) rfl (by omega) (by omega) (by simpa using hr) ?dc hk).mono ?_
  case dc =>
    intro i hi'
    simp at hi'
    subst hi'
    exact World.ownsRow.cellAt HOW.out 0 (by simp)
  rintro e w3 ⟨dv', rfl, hd3, ho3, ht3, hq3⟩
  have HRR : Hid _ := And.intro hd3 (And.intro ho3 (And.intro ht3 hq3))
  clear hd3 ho3 ht3 hq3
  go_wp2
  go_ret
  obtain ⟨hd3, ho3, ht3, hq3⟩ := HRR.out
  exact ⟨dv', rfl, hd3, ho3, (Turn.of_ext HX.out).trans ht3, fun q hq hl => hq3 q hq (Nat.lt_of_lt_of_le hl HX.out.le)⟩

set_option maxRecDepth 100000 in
set_option maxHeartbeats 1600000 in
theorem do1_c (B kd m k n gt tcap a0 a1 L c0 c1 : Nat) (z0 z1 : List Int) (hkd : kd ≤ 2) (hm : m ≤ 3) (hk : k ≤ 3) (hn : n ≤ 3) (hL1 : 1 ≤ L) (hL2 : L ≤ 27) (hz0 : z0.length = L) (hz1 : z1.length = L) (hu0 : inU64 z0) (hu1 : inU64 z1) (w : World)
    (h : DealAt w B (.slice none 0 0) (.slice none 0 0) (.slice none 0 0) false 0 false) (hgtB : gt ≠ B)
    (ht0 : w.cell? ⟨gt, 0, none⟩ = some (.slice (some ⟨a0, 0, none⟩) L c0)) (ht1 : w.cell? ⟨gt, 1, none⟩ = some (.slice (some ⟨a1, 0, none⟩) L c1)) (hw0 : WordsAt w a0 0 z0) (hw1 : WordsAt w a1 0 z1) :
    Calls Try.prog 49 #[.pointer (some ⟨B, 0, none⟩), .iface 114 (.agg #[.int .i64 kd, .int .i64 m, .int .i64 k, .int .i64 n, .slice (some ⟨gt, 0, none⟩) 1 tcap])] w fun e w' => ∃ gk gs cs mb D dv kk xs, e = .returned (.int .i64 0) ∧ DealAt w' B (.slice (some ⟨gs, 0, none⟩) 1 cs) (.slice none 0 0) dv false 0 true ∧
      w'.ownsRow 0 154 4 dv kk xs ∧ kk ≤ 100 ∧ (∀ q, dv.ownBlock = some q → w.heap.size ≤ q) ∧
      w'.heap[gk]? = some (.cells #[.int .i64 kd, .int .i64 m, .int .i64 k, .int .i64 n, .int .i64 1, .int .i64 0, .map (some mb)] 171 (0, 0)) ∧ w'.ownsMap Try.prog 3 heldElem mb 1 D ∧ D.atKey (.int .i64 0) (.held (.agg #[.slice none 0 0, .slice none 0 0])) = .held (.agg #[.slice (some ⟨a0, 0, none⟩) L c0, .slice (some ⟨a1, 0, none⟩) L c1]) ∧
      w'.cell? ⟨gs, 0, none⟩ = some (.pointer (some ⟨gk, 0, none⟩)) ∧ (∃ cur, w'.heap[gs]? = some (.cells cur 155 (0, 0))) ∧ Turn (fun b => b = B) w w' ∧ w.heap.size ≤ gk ∧ w.heap.size ≤ mb ∧ w.heap.size ≤ gs := by
  have h1 := mm_against
  have h2 := mm_record
  have h3 := mm_apply
  have h4 := mn_record
  have HD : Hid _ := h
  have HA : Hid (∀ w', Ext w w' → _) := fun w' hx => against0_c B kd m k n (some ⟨gt, 0, none⟩) 1 tcap (by omega) _ _ _ _ w' (hx.block h)
  have HRc : Hid (∀ w', Ext w w' → _) := fun w' hx => record1_c kd m k n gt tcap a0 a1 L c0 c1 z0 z1 hkd hm hk hn hL1 hL2 hz0 hz1 hu0 hu1 w' (hx.cell ht0) (hx.cell ht1) (hw0.ext hx) (hw1.ext hx)
  have HT : Hid _ := And.intro ht0 ht1
  have hB := h.lt
  clear h hkd hm hk hn hz0 hz1 hu0 hu1 ht0 ht1 hw0 hw1
  go_enter Try.func49, Try.ntmps49
  go_wp2_with fail
  refine (HA.out _ (Ext.refl _)).mono ?_
  rintro e w1 ⟨rfl, hx1⟩
  have HX1 : Hid (Ext w w1) := hx1
  have hB1 := Nat.lt_of_lt_of_le hB hx1.le
  clear hx1
  go_wp2_with fail
  go_region_held3 (fun _ => True) (trivial) (first
    | (go_at_call 72; refine (HRc.out _ (Ext.chain HX1.out (Ext.refl _)).drew).mono ?_; rintro e w2 ⟨rs, rfl, hrs, hx2⟩)
    | (go_at_call 60; refine (addNew0_c B 0 rs (.slice none 0 0) 0 [] _ (Ext.block (Ext.chain hx2 (Ext.drew HX1.out)) HD.out) (World.ownsRow_nil _ _ _ _) hrs (by omega)).mono ?_; rintro e w3 ⟨dv', rfl, hd3, ho3, ht3, hq3⟩))
  all_goals
    have HX2 : Hid (Ext w w2) := Ext.chain hx2 (Ext.drew HX1.out)
    have HTT : Hid (Turn (fun b => b = B) w w3) := ((Turn.of_ext HX2.out).trans' ht3 (fun q _ hq => by simpa [Value.ownBlock] using hq))
    have HR3 : Hid _ := And.intro hd3 ho3
    have HQ3 : Hid (∀ q, dv'.ownBlock = some q → w.heap.size ≤ q) := fun q hq => by
      rcases Nat.lt_or_ge q w2.heap.size with h | h
      · have := hq3 q hq h; simp [Value.ownBlock] at this
      · exact Nat.le_trans HX2.out.le h
    have f0 : w3.cell? ⟨gt, 0, none⟩ = some (.slice (some ⟨a0, 0, none⟩) L c0) := HTT.out.cell HT.out.1 hgtB
    have f1 : w3.cell? ⟨gt, 1, none⟩ = some (.slice (some ⟨a1, 0, none⟩) L c1) := HTT.out.cell HT.out.2 hgtB
    have HFF : Hid _ := And.intro f0 f1
    clear hx2 hd3 ho3 ht3 hq3 f0 f1
    go_wp2_with fail
    refine (apply1_c B kd m k n gt tcap a0 a1 L L c0 c1 hL1 dv' false 0 true w3 HR3.out.1 HFF.out.1 HFF.out.2 hgtB).mono ?_
    rintro e w4 ⟨gk, gs, cs, mb, D, rfl, q1, q2, q3, q4, q5, qr, q6, q7, q8, q9⟩
    have HQ : Hid _ := And.intro q1 (And.intro q2 (And.intro q3 (And.intro q4 (And.intro q5 (And.intro qr (And.intro q6 (And.intro q7 (And.intro q8 q9))))))))
    clear q1 q2 q3 q4 q5 qr q6 q7 q8 q9
    go_wp2
    go_ret
    obtain ⟨q1, q2, q3, q4, q5, qr, q6, q7, q8, q9⟩ := HQ.out
    have hsz := HTT.out.size
    exact ⟨gk, gs, cs, mb, D, dv', _, _, rfl, q1, q6.owns HR3.out.2 (fun q hq e => row_ne (B := B) HR3.out.1 HR3.out.2 (by decide) (by rw [← e]; exact hq)), by omega, HQ3.out, q2, q3, q4, q5, qr, HTT.out.trans q6, by omega, by omega, by omega⟩
end
end Go.Proofs.Ytmnjhhachdlmkaa
