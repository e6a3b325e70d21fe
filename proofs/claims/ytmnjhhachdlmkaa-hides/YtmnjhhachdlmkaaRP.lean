import Derived.Test.YtmnjhhachdlmkaaWP
namespace Go.Proofs.Ytmnjhhachdlmkaa
open Go.RowKit

/-- What an append of one byte leaves. -/
theorem app_step {w wr w1 : World} {base n : Nat} {v : Value} {xs : List Value} {o : Obj} {c0 c1 c2 c3 : Value} (hb : base ≤ w.heap.size) (hx : Below base w wr)
    (ho : wr.ownsRow base 5 1 v n xs) (hg : (wr.alloc o).grownBy w1 v.ownBlock) (g : Nat)
    (hr : wr.heap[g]? = some (.cells #[c0, c1, c2, c3] 29 (0, 0))) : Below base w w1 ∧ w1.heap[g]? = some (.cells #[c0, c1, c2, c3] 29 (0, 0)) := by
  have hs := hx.size
  refine ⟨(hx.alloc (by omega) o).grown hg (by simp; omega) (fun k hk => (ho.lt k hk).1), ?_⟩
  exact ((Keeps.refl wr).alloc o |>.trans (Keeps.grown (ho.alloc o) hg)).block _ _ _ _ hr (by decide)

theorem owns_n {w : World} {base : Nat} {e : TypeId} {size : Nat} {v : Value} {n n' : Nat} {xs : List Value} (he : n = n') (h : w.ownsRow base e size v n xs) : w.ownsRow base e size v n' xs := he ▸ h

theorem u64_and255 (x : Int) (h0 : 0 ≤ x) (h1 : x ≤ 18446744073709551615) : bits .and .u64 x 255 = x % 256 := by
  rw [u64_and x 255 h0 (by omega) (by omega) (by omega)]
  have e : (255 : Int).toNat = 2 ^ 8 - 1 := rfl
  rw [e, Nat.and_two_pow_sub_one_eq_mod]
  omega

set_option maxRecDepth 100000 in
set_option maxHeartbeats 6400000 in
theorem refPrint_some (code frm cnt : Int) (b off len cap : Nat) (zs : List Nat) (hl : len = zs.length) (hcap : len ≤ cap) (hreach : cap * 8 ≤ 140737488351232) (w : World)
    (hz : ∀ i, i < len → w.cell? ⟨b, off + i, none⟩ = some (.int .u64 (zs.getD i 0 : Nat))) (hzb : ∀ z ∈ zs, z ≤ 18446744073709551615) :
    Calls Try.prog 11 #[.agg #[.int .i64 code, .int .i64 frm, .int .i64 cnt, .slice (some ⟨b, off, none⟩) len cap]] w fun e w' => e = .returned (.string ⟨(headB code frm cnt zs).toArray⟩) ∧ Ext w w' := by
  obtain ⟨i0, hi, hz0, hz1, hz2⟩ := info_parts infoU8
  have HZ : Hid (∀ i, i < len → w.cell? ⟨b, off + i, none⟩ = some (.int .u64 (zs.getD i 0 : Nat))) := hz
  have HZB : Hid (∀ z ∈ zs, z ≤ 18446744073709551615) := hzb
  have HL : Hid (len = zs.length) := hl
  have hlen : len * 8 ≤ 140737488351232 := by omega
  clear hz hzb hl
  have HC1 : Hid ([Value.int .u8 (code % 256)] = byteV (bytesI code 1)) := by
    show [Value.int .u8 (code % 256)] = byteV (bytesI code 1)
    rw [← beV_I code 1 (by decide)]; simp [beV]
  go_enter Try.func11, Try.ntmps11
  go_wp2_with (go_at_call 30; refine (low_c _ _).mono ?_; rintro e w1 ⟨rfl, rfl⟩)
  go_loopw [3, 4] (fun u i wr => ∃ (k : Nat) (pre : List Value), k ≤ 4 ∧ i = .int .i64 ((k : Int) - 1) ∧ pre ++ beV frm k = beV frm 4 ∧ wr.ownsRow w.heap.size 5 1 u (1 + (4 - k)) (byteV (bytesI code 1) ++ pre) ∧ Below w.heap.size w wr ∧ wr.heap[w.heap.size]? = some (.cells #[.int .i64 code, .int .i64 frm, .int .i64 cnt, .slice (some ⟨b, off, none⟩) len cap] 29 (0, 0))) (fun _ i _ => (intOf i + 1).toNat)
  case atStart =>
    refine ⟨4, [], Nat.le_refl _, by go_num, rfl, ?_, (Ext.refl w).alloc _ |>.alloc _, at_old (at_new rfl)⟩
    rw [List.append_nil, ← HC1.out]
    have h := World.ownsRow_lit (base := w.heap.size) (e := 5) (size := 1) (w.alloc (.cells #[.int .i64 code, .int .i64 frm, .int .i64 cnt, .slice (some ⟨b, off, none⟩) len cap] 29)) #[.int .u8 (code % 256)] 1 (by simp) (by unfold maxLen; omega) rfl
    simpa using h
  case round =>
    obtain ⟨k, pre, hk, rfl, hpre, ho, hbel, hr⟩ := hrel
    have HP : Hid (pre ++ beV frm k = beV frm 4) := hpre
    have HO : Hid (wr.ownsRow w.heap.size 5 1 _ (1 + (4 - k)) (byteV (bytesI code 1) ++ pre)) := ho
    have HR : Hid (wr.heap[w.heap.size]? = some (.cells #[.int .i64 code, .int .i64 frm, .int .i64 cnt, .slice (some ⟨b, off, none⟩) len cap] 29 (0, 0))) := hr
    obtain ⟨q0, q1, q2, q3, q4⟩ := reply_cells hr
    clear hpre hr ho
    by_cases hlt : 1 ≤ k
    · obtain ⟨j, rfl⟩ : ∃ j, k = j + 1 := ⟨k - 1, by omega⟩
      have hb' : w.heap.size ≤ wr.heap.size := hbel.size
      go_wp2_with (first | (go_at_call 30; refine (low_c _ _).mono ?_; rintro e w1 ⟨rfl, rfl⟩) | (at_builtin; refine wpList_append_own _ rfl _ _ 62 rfl w.heap.size 5 i0 (.int .u8 0) 1 1 Try.underlying62 hi hz0 hz1 hz2 rfl (by decide) _ _ _ rfl (HO.out.alloc _) ⟨wr.heap.size, 0, none⟩ 1 1 [.int .u8 (frm / 2 ^ (8 * j) % 256)] rfl rfl ?c1 ?c2 ?c3 ?c4 ?c5 ?_))
      case c1 => exact cell_one_new _ _ _
      case c2 => intro u hu; simp at hu; subst hu; rfl
      case c3 => unfold maxLen; omega
      case c4 => omega
      case c5 => simp; omega
      · intro v' w1 hown' hgrow _
        have R := app_step (Nat.le_refl _) hbel HO.out hgrow _ HR.out
        have R1 : w1.ownsRow w.heap.size 5 1 v' (1 + (4 - j)) (byteV (bytesI code 1) ++ (pre ++ [.int .u8 (frm / 2 ^ (8 * j) % 256)])) := by
          first | exact owns_n (by omega) hown' | exact owns_n (by omega) (by rw [← List.append_assoc]; exact hown')
        obtain ⟨R2, R3⟩ := R
        have HR3 : Hid _ := R3
        clear hown' hgrow hbel R3
        go_wp2
        go_roundw
        case rel => first | exact ⟨j, _, by omega, by go_num, by rw [List.append_assoc]; exact HP.out, R1, R2, HR3.out⟩ | ((repeat apply Exists.intro); exact ⟨⟨j, _, by omega, by go_num, by rw [List.append_assoc]; exact HP.out, R1, R2, HR3.out⟩, rfl⟩)
        case measure => simp [intOf]
    · obtain rfl : k = 0 := by omega
      have hHO1 := HP.out
      rw [show beV frm 0 = [] from rfl, List.append_nil] at hHO1
      have HO1 : Hid (wr.ownsRow w.heap.size 5 1 u3 5 (byteV (bytesI code 1 ++ bytesI frm 4))) := by
        have h2 := HO.out
        rw [hHO1, beV_I frm 4 (by decide), ← byteV_append] at h2
        exact h2
      clear hHO1
      clear HO HP
      go_wp2
      go_loopw [3, 5] (fun u i wr => ∃ (k : Nat) (pre : List Value), k ≤ 4 ∧ i = .int .i64 ((k : Int) - 1) ∧ pre ++ beV cnt k = beV cnt 4 ∧ wr.ownsRow w.heap.size 5 1 u (5 + (4 - k)) (byteV (bytesI code 1 ++ bytesI frm 4) ++ pre) ∧ Below w.heap.size w wr ∧ wr.heap[w.heap.size]? = some (.cells #[.int .i64 code, .int .i64 frm, .int .i64 cnt, .slice (some ⟨b, off, none⟩) len cap] 29 (0, 0))) (fun _ i _ => (intOf i + 1).toNat)
      case atStart =>
        exact ⟨4, [], Nat.le_refl _, by go_num, rfl, by rw [List.append_nil]; exact HO1.out, hbel, HR.out⟩
      case round =>
        obtain ⟨k, pre, hk, rfl, hpre, ho, hbel, hr⟩ := hrel
        have HP : Hid (pre ++ beV cnt k = beV cnt 4) := hpre
        have HO : Hid (wr.ownsRow w.heap.size 5 1 _ (5 + (4 - k)) (byteV (bytesI code 1 ++ bytesI frm 4) ++ pre)) := ho
        have HR : Hid (wr.heap[w.heap.size]? = some (.cells #[.int .i64 code, .int .i64 frm, .int .i64 cnt, .slice (some ⟨b, off, none⟩) len cap] 29 (0, 0))) := hr
        obtain ⟨q0, q1, q2, q3, q4⟩ := reply_cells hr
        clear hpre hr ho
        by_cases hlt : 1 ≤ k
        · obtain ⟨j, rfl⟩ : ∃ j, k = j + 1 := ⟨k - 1, by omega⟩
          have hb' : w.heap.size ≤ wr.heap.size := hbel.size
          go_wp2_with (first | (go_at_call 30; refine (low_c _ _).mono ?_; rintro e w1 ⟨rfl, rfl⟩) | (at_builtin; refine wpList_append_own _ rfl _ _ 62 rfl w.heap.size 5 i0 (.int .u8 0) 1 1 Try.underlying62 hi hz0 hz1 hz2 rfl (by decide) _ _ _ rfl (HO.out.alloc _) ⟨wr.heap.size, 0, none⟩ 1 1 [.int .u8 (cnt / 2 ^ (8 * j) % 256)] rfl rfl ?c1 ?c2 ?c3 ?c4 ?c5 ?_))
          case c1 => exact cell_one_new _ _ _
          case c2 => intro u hu; simp at hu; subst hu; rfl
          case c3 => unfold maxLen; omega
          case c4 => omega
          case c5 => simp; omega
          · intro v' w1 hown' hgrow _
            have R := app_step (Nat.le_refl _) hbel HO.out hgrow _ HR.out
            have R1 : w1.ownsRow w.heap.size 5 1 v' (5 + (4 - j)) (byteV (bytesI code 1 ++ bytesI frm 4) ++ (pre ++ [.int .u8 (cnt / 2 ^ (8 * j) % 256)])) := by
              first | exact owns_n (by omega) hown' | exact owns_n (by omega) (by rw [← List.append_assoc]; exact hown')
            obtain ⟨R2, R3⟩ := R
            have HR3 : Hid _ := R3
            clear hown' hgrow hbel R3
            go_wp2
            go_roundw
            case rel => first | exact ⟨j, _, by omega, by go_num, by rw [List.append_assoc]; exact HP.out, R1, R2, HR3.out⟩ | ((repeat apply Exists.intro); exact ⟨⟨j, _, by omega, by go_num, by rw [List.append_assoc]; exact HP.out, R1, R2, HR3.out⟩, rfl⟩)
            case measure => simp [intOf]
        · obtain rfl : k = 0 := by omega
          have hHO2 := HP.out
          rw [show beV cnt 0 = [] from rfl, List.append_nil] at hHO2
          have HO2 : Hid (wr.ownsRow w.heap.size 5 1 u3 9 (byteV (bytesI code 1 ++ bytesI frm 4 ++ bytesI cnt 4))) := by
            have h2 := HO.out
            rw [hHO2, beV_I cnt 4 (by decide), ← byteV_append] at h2
            exact h2
          clear hHO2
          clear HO HP
          go_wp2
          go_loopw [3, 6, 7] (fun u i _ wr => ∃ (m : Nat), m ≤ len ∧ i = .int .i64 m ∧ wr.ownsRow w.heap.size 5 1 u (9 + 8 * m) (byteV (headB code frm cnt (zs.take m))) ∧ Below w.heap.size w wr ∧ wr.heap[w.heap.size]? = some (.cells #[.int .i64 code, .int .i64 frm, .int .i64 cnt, .slice (some ⟨b, off, none⟩) len cap] 29 (0, 0))) (fun _ i _ _ => len - (intOf i).toNat)
          case atStart => exact ⟨0, Nat.zero_le _, rfl, by have h := HO2.out; rw [show headB code frm cnt (zs.take 0) = bytesI code 1 ++ bytesI frm 4 ++ bytesI cnt 4 by simp [headB]]; exact h, hbel, HR.out⟩
          case round =>
            obtain ⟨m, hm, rfl, hom, hbel, hr⟩ := hrel
            have HOM : Hid (wr.ownsRow w.heap.size 5 1 _ (9 + 8 * m) (byteV (headB code frm cnt (zs.take m)))) := hom
            have HR : Hid (wr.heap[w.heap.size]? = some (.cells #[.int .i64 code, .int .i64 frm, .int .i64 cnt, .slice (some ⟨b, off, none⟩) len cap] 29 (0, 0))) := hr
            obtain ⟨q0, q1, q2, q3, q4⟩ := reply_cells hr
            clear hom hr
            by_cases hlt : m < len
            · have hkl : m < zs.length := by have := HL.out; omega
              have HT : Hid (headB code frm cnt (zs.take (m + 1)) = headB code frm cnt (zs.take m) ++ bytesOf zs[m] 8) := by
                show headB code frm cnt (zs.take (m + 1)) = _
                rw [List.take_succ_eq_append_getElem hkl]
                simp only [headB, List.flatMap_append, List.flatMap_cons, List.flatMap_nil, List.append_nil, List.append_assoc]
              have HE0 : Hid (w.cell? ⟨b, off + m, none⟩ = some (.int .u64 ((zs[m] : Nat) : Int))) := by
                have h := HZ.out m hlt
                rw [List.getD_eq_getElem?_getD, List.getElem?_eq_getElem hkl] at h
                exact h
              have HZK : Hid (zs[m] ≤ 18446744073709551615) := HZB.out zs[m] (List.getElem_mem hkl)
              have hbw : b < w.heap.size := World.block_lt_of_cell? w _ HE0.out
              generalize zs[m] = z at *
              go_wp2
              go_loopw [3, 7] (fun u i wr => ∃ (k : Nat) (pre : List Value), k ≤ 8 ∧ i = .int .i64 ((k : Int) - 1) ∧ pre ++ beV (z : Int) k = beV (z : Int) 8 ∧ wr.ownsRow w.heap.size 5 1 u (9 + 8 * m + (8 - k)) (byteV (headB code frm cnt (zs.take m)) ++ pre) ∧ Below w.heap.size w wr ∧ wr.heap[w.heap.size]? = some (.cells #[.int .i64 code, .int .i64 frm, .int .i64 cnt, .slice (some ⟨b, off, none⟩) len cap] 29 (0, 0))) (fun _ i _ => (intOf i + 1).toNat)
              case atStart =>
                exact ⟨8, [], Nat.le_refl _, by go_num, rfl, by rw [List.append_nil]; exact HOM.out, hbel, HR.out⟩
              case round =>
                obtain ⟨k, pre, hk, rfl, hpre, ho, hbel, hr⟩ := hrel
                have HP : Hid (pre ++ beV (z : Int) k = beV (z : Int) 8) := hpre
                have HO : Hid (wr.ownsRow w.heap.size 5 1 _ (9 + 8 * m + (8 - k)) (byteV (headB code frm cnt (zs.take m)) ++ pre)) := ho
                have HR : Hid (wr.heap[w.heap.size]? = some (.cells #[.int .i64 code, .int .i64 frm, .int .i64 cnt, .slice (some ⟨b, off, none⟩) len cap] 29 (0, 0))) := hr
                obtain ⟨q0, q1, q2, q3, q4⟩ := reply_cells hr
                clear hpre hr ho
                by_cases hlt : 1 ≤ k
                · obtain ⟨j, rfl⟩ : ∃ j, k = j + 1 := ⟨k - 1, by omega⟩
                  have hb' : w.heap.size ≤ wr.heap.size := hbel.size
                  have e0 : wr.cell? ⟨b, off + m, none⟩ = some (.int .u64 (z : Int)) := (hbel.cell (p := ⟨b, off + m, none⟩) hbw).trans HE0.out
                  have ha : bits .and .u64 ((z : Int) / 2 ^ (8 * j)) 255 = (z : Int) / 2 ^ (8 * j) % 256 := u64_and255 _ (Int.ediv_nonneg (by omega) (by exact Int.le_of_lt (Int.pow_pos (by decide)))) (by have h1 := HZK.out; have h2 := Int.ediv_le_self (2 ^ (8 * j)) (show (0 : Int) ≤ z by omega); omega)
                  go_wp2_with (at_builtin; refine wpList_append_own _ rfl _ _ 62 rfl w.heap.size 5 i0 (.int .u8 0) 1 1 Try.underlying62 hi hz0 hz1 hz2 rfl (by decide) _ _ _ rfl (HO.out.alloc _) ⟨wr.heap.size, 0, none⟩ 1 1 [.int .u8 ((z : Int) / 2 ^ (8 * j) % 256)] rfl rfl ?c1 ?c2 ?c3 ?c4 ?c5 ?_)
                  case c1 => exact cell_one_new _ _ _
                  case c2 => intro u hu; simp at hu; subst hu; rfl
                  case c3 => unfold maxLen; omega
                  case c4 => omega
                  case c5 => simp; omega
                  · intro v' w1 hown' hgrow _
                    have R := app_step (Nat.le_refl _) hbel HO.out hgrow _ HR.out
                    have R1 : w1.ownsRow w.heap.size 5 1 v' (9 + 8 * m + (8 - j)) (byteV (headB code frm cnt (zs.take m)) ++ (pre ++ [.int .u8 ((z : Int) / 2 ^ (8 * j) % 256)])) := by
                      first | exact owns_n (by omega) hown' | exact owns_n (by omega) (by rw [← List.append_assoc]; exact hown')
                    obtain ⟨R2, R3⟩ := R
                    have HR3 : Hid _ := R3
                    clear hown' hgrow hbel R3
                    go_wp2
                    go_roundw
                    case rel => first | exact ⟨j, _, by omega, by go_num, by rw [List.append_assoc]; exact HP.out, R1, R2, HR3.out⟩ | ((repeat apply Exists.intro); exact ⟨⟨j, _, by omega, by go_num, by rw [List.append_assoc]; exact HP.out, R1, R2, HR3.out⟩, rfl⟩)
                    case measure => simp [intOf]
                · obtain rfl : k = 0 := by omega
                  have hh := HP.out
                  rw [show beV (z : Int) 0 = [] from rfl, List.append_nil] at hh
                  have R1 : wr.ownsRow w.heap.size 5 1 u3 (9 + 8 * (m + 1)) (byteV (headB code frm cnt (zs.take (m + 1)))) := by
                    have h2 := HO.out
                    rw [hh, beV_eq, ← byteV_append, ← HT.out] at h2
                    exact h2
                  have HR1 : Hid _ := R1
                  clear R1 hh
                  go_wp2
                  go_roundw
                  case rel => first | exact ⟨m + 1, by omega, by go_num, HR1.out, hbel, HR.out⟩ | ((repeat apply Exists.intro); exact ⟨⟨m + 1, by omega, by go_num, HR1.out, hbel, HR.out⟩, rfl⟩)
                  case measure => simp [intOf]; omega
            · skip
              obtain rfl : len = m := by omega
              have eT : zs.take len = zs := List.take_of_length_le (by have := HL.out; omega)
              have HO3 : Hid (wr.ownsRow w.heap.size 5 1 _ (9 + 8 * len) (byteV (headB code frm cnt (zs.take len)))) := HOM.out
              obtain ⟨g9, cap9, hv9, ho9⟩ := row_form HO3.out (by omega)
              have hcv := conv_own (l := headB code frm cnt (zs.take len)) (by rw [eT]; simp only [headB, List.length_append, len_bytesI, len_flat8]; have := HL.out; omega) ho9
              rw [eT] at hcv
              rw [hv9]
              clear eT HO3 HOM hv9 ho9
              go_wp2
              go_ret
              exact ⟨rfl, hbel⟩
end Go.Proofs.Ytmnjhhachdlmkaa
