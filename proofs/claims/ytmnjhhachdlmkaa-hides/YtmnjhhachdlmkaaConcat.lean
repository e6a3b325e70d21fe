import Derived.Test.YtmnjhhachdlmkaaAlike
namespace Go.Proofs.Ytmnjhhachdlmkaa
open Go.RowKit

set_option maxRecDepth 100000 in
set_option maxHeartbeats 400000 in
/-- slices.Grow of the nil slice. -/
theorem growF_c (n : Nat) (hn : 1 ≤ n) (hn2 : n ≤ 1000) (w : World) :
    Calls Try.prog 106 #[.slice none 0 0, .int .i64 n] w fun e w' => ∃ v, e = .returned v ∧ w'.ownsRow w.heap.size 80 3 v 0 [] ∧ Ext w w' := by
  obtain ⟨i0, hi, hz0, hz1, hz2⟩ := info_parts infoField
  obtain ⟨G, cur, hG1, hG2, hcs, hrz⟩ : ∃ (G : Nat) (cur : Array Value), n ≤ G ∧ G ≤ maxLen ∧ cur.size = G * 3 ∧ ∀ ty, (Builtin.append_ #[76, 3] ty #[.slice none 0 0, .int .i64 n]).run Try.prog w =
      .ok (.slice (some ⟨w.heap.size, 0, none⟩) n G) (w.drew.alloc (.cells cur 80)) := by
    have h := fun ty => Lib.run_append_grow_zeros (P := Try.prog) w 76 3 ty 80 i0 _ .i64 .i64 Try.underlying76 Try.underlying3 hi hz0 none 0 0 [] (by rw [hz1]; exact run_firstCells_none w.drew 3 0 0 0) n (by omega) (by omega) (by omega) (by omega) (by rw [hz2]; omega)
        (by rw [hz2]; exact growslice_fits (by omega) (by omega))
    simp only [Nat.zero_add] at h
    refine ⟨_, _, ?_, ?_, ?_, h⟩
    · exact grownCap_ge w _ _ _
    · exact grownCap_le_maxLen w _ _ _ (by unfold maxLen; omega)
    · have := grownCap_ge w n 0 80
      simp [size_zeroCells, Value.cells]
      omega
  have HC : Hid (cur.size = G * 3) := hcs
  have HG : Hid (n ≤ G ∧ G ≤ maxLen) := ⟨hG1, hG2⟩
  unfold maxLen at hG2
  clear hcs
  go_enter Try.func106, Try.ntmps106
  go_wp2_with (at_builtin; refine Lib.wpList_append_run _ rfl _ _ _ _ rfl _ _ rfl rfl _ _ (hrz _) ?_)
  go_ret
  refine ⟨_, rfl, World.ownsRow_made w.drew cur G (Nat.le_refl _) HG.out.2 HC.out, (Ext.refl w).drew.alloc _⟩

/-- A row of fields that a function has made. -/
structure FRow where
  g : Nat
  n : Nat
  cap : Nat
  xs : List Value
def FRow.val (r : FRow) : Value := .slice (some ⟨r.g, 0, none⟩) r.n r.cap
def FRow.ok (r : FRow) (w : World) : Prop := w.ownsRow 0 80 3 r.val r.n r.xs ∧ 1 ≤ r.n ∧ r.n ≤ 10 ∧ ∀ u ∈ r.xs, u.oneCell' = true
def sumN (rs : List FRow) : Nat := (rs.map (·.n)).sum
def flatX (rs : List FRow) : List Value := rs.flatMap (·.xs)
theorem sumN_snoc (rs : List FRow) (r : FRow) : sumN (rs ++ [r]) = sumN rs + r.n := by simp [sumN]
theorem flatX_snoc (rs : List FRow) (r : FRow) : flatX (rs ++ [r]) = flatX rs ++ r.xs := by simp [flatX]
theorem sumN_le (rs : List FRow) (w : World) (h : ∀ r ∈ rs, r.ok w) : sumN rs ≤ rs.length * 10 := by
  induction rs with
  | nil => simp [sumN]
  | cons r t ih =>
    have h1 := (h r (by simp)).2.2.1
    have h2 := ih (fun x hx => h x (by simp [hx]))
    simp [sumN] at h2 ⊢
    omega

set_option maxRecDepth 100000 in
set_option maxHeartbeats 800000 in
theorem concatF_c (g m : Nat) (rs : List FRow) (w : World) (hM : rs.length = m) (hm1 : 1 ≤ m) (hm2 : m ≤ 10) (hrs : ∀ r ∈ rs, r.ok w) (hc : ∀ (i : Nat) (h : i < rs.length), w.cell? ⟨g, i, none⟩ = some rs[i].val) :
    Calls Try.prog 103 #[.slice (some ⟨g, 0, none⟩) m m] w fun e w' =>
      ∃ v, e = .returned v ∧ w'.ownsRow w.heap.size 80 3 v (sumN rs) (flatX rs) ∧ Ext w w' := by
  obtain ⟨i0, hi, hz0, hz1, hz2⟩ := info_parts infoField
  have HL : Hid (∀ k, sumN (rs.take k) ≤ 100) := fun k => by
    have h1 := sumN_le (rs.take k) w (fun r hr => hrs r (List.mem_of_mem_take hr))
    have h2 := List.length_take_le k rs
    have h3 := List.length_take_le' k rs
    omega
  have HR : Hid (∀ r ∈ rs, r.ok w) := hrs
  have HC : Hid (∀ (i : Nat) (h : i < rs.length), w.cell? ⟨g, i, none⟩ = some rs[i].val) := hc
  have H1 : Hid (1 ≤ sumN rs) := by
    match rs, (show 1 ≤ rs.length by omega), hrs with
    | r :: t, _, hrs =>
      have := (hrs r (by simp)).2.1
      show 1 ≤ sumN (r :: t)
      simp [sumN]; omega
  have hT : ∀ k (h : k < rs.length), rs.take (k + 1) = rs.take k ++ [rs[k]] := fun k h => List.take_succ_eq_append_getElem h
  have HT : Hid _ := hT
  clear hrs hc hT
  have HM : Hid (rs.length = m) := hM
  clear hM
  go_enter Try.func103, Try.ntmps103
  go_wp2
  go_loop [3, 5, 11] (fun t _ i => ∃ k : Nat, k ≤ m ∧ i = .int .i64 k ∧ t = .int .i64 (sumN (rs.take k))) (fun _ _ i => m - (intOf i).toNat)
  case atStart => exact ⟨0, Nat.zero_le _, rfl, rfl⟩
  case round =>
    obtain ⟨k, hk, rfl, rfl⟩ := hrel
    have hL := HL.out k
    by_cases hlt : k < m
    · have hlt' : k < rs.length := by have := HM.out; omega
      have hcx : w.cell? ⟨g, k, none⟩ = some (.slice (some ⟨rs[k].g, 0, none⟩) rs[k].n rs[k].cap) := HC.out k (by have := HM.out; omega)
      have hn1 := (HR.out rs[k] (List.getElem_mem hlt')).2.1
      have hn2 := (HR.out rs[k] (List.getElem_mem hlt')).2.2.1
      have HS : Hid (sumN (rs.take (k + 1)) = sumN (rs.take k) + rs[k].n) := by
        show sumN (rs.take (k + 1)) = sumN (rs.take k) + rs[k].n
        rw [HT.out k hlt', sumN_snoc]
      generalize rs[k] = r at *
      generalize sumN (rs.take k) = S at *
      go_wp2
      go_round
      case rel => exact ⟨k + 1, by omega, by go_num, by rw [HS.out]; go_num⟩
      case measure => simp [intOf]; omega
    · obtain rfl : m = k := by omega
      have eS : rs.take m = rs := List.take_of_length_le (by have := HM.out; omega)
      rw [eS] at hL ⊢
      have h1 := H1.out
      clear eS
      go_wp2_with fail
      refine (growF_c _ h1 (by omega) _).mono ?_
      rintro e w1 ⟨v, rfl, ho0, hx0⟩
      go_wp2
      go_loopw [6, 8, 27] (fun u _ i wr => ∃ k : Nat, k ≤ m ∧ i = .int .i64 k ∧ wr.ownsRow w.heap.size 80 3 u (sumN (rs.take k)) (flatX (rs.take k)) ∧ Ext w wr) (fun _ _ i _ => m - (intOf i).toNat)
      case atStart => exact ⟨0, Nat.zero_le _, rfl, ho0, hx0⟩
      case round =>
        obtain ⟨j, hj, rfl, ho, hx⟩ := hrel
        have hLj := HL.out j
        clear ho0 hx0
        by_cases hlt : j < m
        · have hlt' : j < rs.length := by have := HM.out; omega
          have hcx : wr.cell? ⟨g, j, none⟩ = some (.slice (some ⟨rs[j].g, 0, none⟩) rs[j].n rs[j].cap) := hx.cell (HC.out j hlt')
          obtain ⟨hro, hn1, hn2, hone⟩ := HR.out rs[j] (List.getElem_mem hlt')
          have HRO : Hid (wr.ownsRow 0 80 3 (.slice (some ⟨rs[j].g, 0, none⟩) rs[j].n rs[j].cap) rs[j].n rs[j].xs) := hx.owns hro
          have HONE : Hid (∀ u ∈ rs[j].xs, u.oneCell' = true) := hone
          have HS : Hid (sumN (rs.take (j + 1)) = sumN (rs.take j) + rs[j].n) := by
            show sumN (rs.take (j + 1)) = sumN (rs.take j) + rs[j].n
            rw [HT.out j hlt', sumN_snoc]
          have HF : Hid (flatX (rs.take (j + 1)) = flatX (rs.take j) ++ rs[j].xs) := by
            show flatX (rs.take (j + 1)) = flatX (rs.take j) ++ rs[j].xs
            rw [HT.out j hlt', flatX_snoc]
          clear hro hone
          generalize rs[j] = r at *
          generalize sumN (rs.take j) = S at *
          generalize flatX (rs.take j) = X at *
          have hsz := hx.le
          go_wp2_with (at_builtin; refine wpList_append_own _ rfl _ _ 76 rfl w.heap.size 80 i0 _ 3 24 Try.underlying76 hi hz0 hz1 hz2 rfl (by decide) _ _ _ rfl ho ⟨r.g, 0, none⟩ r.n r.cap r.xs rfl HRO.out.1 ?c1 ?c2 ?c3 ?c4 ?c5 ?_)
          case c1 => exact HRO.out.cells rfl
          case c2 => exact HONE.out
          case c3 => unfold maxLen; omega
          case c4 => omega
          case c5 => omega
          · intro v' w2 hown' hgrow _
            have R2 : Ext w w2 := Ext.grown hx hgrow (fun k hk => (ho.lt k hk).1)
            have R : w2.ownsRow w.heap.size 80 3 v' (sumN (rs.take (j + 1))) (flatX (rs.take (j + 1))) := by
              rw [HS.out, HF.out]; exact hown'
            clear hown' hgrow ho hx
            go_wp2
            go_roundw
            case rel => exact ⟨j + 1, by omega, by go_num, R, R2⟩
            case measure => simp [intOf]; omega
        · obtain rfl : m = j := by omega
          have eS : rs.take m = rs := List.take_of_length_le (by have := HM.out; omega)
          rw [eS] at ho
          clear eS
          go_wp2
          go_ret
          exact ⟨_, rfl, ho, hx⟩
end Go.Proofs.Ytmnjhhachdlmkaa
