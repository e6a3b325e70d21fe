import Derived.Test.YtmnjhhachdlmkaaTri2
import Derived.Lib.AppendZerosOnto
namespace Go.Proofs.Ytmnjhhachdlmkaa
open Go.RowKit

set_option maxRecDepth 100000 in
set_option maxHeartbeats 400000 in
/-- slices.Grow of the nil slice. -/
theorem growW_c (n : Nat) (hn : 1 ≤ n) (hn2 : n ≤ 1000) (w : World) :
    Calls Try.prog 66 #[.slice none 0 0, .int .i64 n] w fun e w' => ∃ v, e = .returned v ∧ w'.ownsRow w.heap.size 47 1 v 0 [] ∧ Ext w w' := by
  obtain ⟨i0, hi, hz0, hz1, hz2⟩ := info_parts infoU64
  obtain ⟨G, cur, hG1, hG2, hcs, hrz⟩ : ∃ (G : Nat) (cur : Array Value), n ≤ G ∧ G ≤ maxLen ∧ cur.size = G ∧ ∀ ty, (Builtin.append_ #[27, 3] ty #[.slice none 0 0, .int .i64 n]).run Try.prog w =
      .ok (.slice (some ⟨w.heap.size, 0, none⟩) n G) (w.drew.alloc (.cells cur 47)) := by
    have h := fun ty => Lib.run_append_grow_zeros (P := Try.prog) w 27 3 ty 47 i0 _ .i64 .i64 Try.underlying27 Try.underlying3 hi hz0 none 0 0 [] (by rw [hz1]; exact run_firstCells_none w.drew 1 0 0 0) n (by omega) (by omega) (by omega) (by omega) (by rw [hz2]; omega)
        (by rw [hz2]; exact growslice_fits (by omega) (by omega))
    simp only [Nat.zero_add] at h
    refine ⟨_, _, ?_, ?_, ?_, h⟩
    · exact grownCap_ge w _ _ _
    · exact grownCap_le_maxLen w _ _ _ (by unfold maxLen; omega)
    · have := grownCap_ge w n 0 47
      simp [size_zeroCells, Value.cells]
      omega
  have HC : Hid (cur.size = G) := hcs
  have HG : Hid (n ≤ G ∧ G ≤ maxLen) := ⟨hG1, hG2⟩
  unfold maxLen at hG2
  clear hcs
  go_enter Try.func66, Try.ntmps66
  go_wp2_with (at_builtin; refine Lib.wpList_append_run _ rfl _ _ _ _ rfl _ _ rfl rfl _ _ (hrz _) ?_)
  go_ret
  refine ⟨_, rfl, World.ownsRow_made w.drew cur G (Nat.le_refl _) HG.out.2 (by rw [Nat.mul_one]; exact HC.out), (Ext.refl w).drew.alloc _⟩

/-- Words that lie somewhere. -/
structure URow where
  b : Nat
  off : Nat
  n : Nat
  cap : Nat
  zs : List Int
def URow.val (r : URow) : Value := .slice (some ⟨r.b, r.off, none⟩) r.n r.cap
def URow.ok (r : URow) (w : World) : Prop := WordsAt w r.b r.off r.zs ∧ 1 ≤ r.n ∧ r.n ≤ 30 ∧ r.zs.length = r.n
def sumU (rs : List URow) : Nat := (rs.map (·.n)).sum
def flatU (rs : List URow) : List Value := rs.flatMap fun r => r.zs.map (Value.int .u64)
theorem sumU_snoc (rs : List URow) (r : URow) : sumU (rs ++ [r]) = sumU rs + r.n := by simp [sumU]
theorem flatU_snoc (rs : List URow) (r : URow) : flatU (rs ++ [r]) = flatU rs ++ r.zs.map (Value.int .u64) := by simp [flatU]
theorem sumU_le (rs : List URow) (w : World) (h : ∀ r ∈ rs, r.ok w) : sumU rs ≤ rs.length * 30 := by
  induction rs with
  | nil => simp [sumU]
  | cons r t ih =>
    have h1 := (h r (by simp)).2.2.1
    have h2 := ih (fun x hx => h x (by simp [hx]))
    simp [sumU] at h2 ⊢
    omega
theorem words_one (zs : List Int) : ∀ u ∈ zs.map (Value.int .u64), u.oneCell' = true := by
  intro u hu
  obtain ⟨x, _, rfl⟩ := List.mem_map.1 hu
  rfl
theorem WordsAt.cells {w : World} {b off : Nat} {zs : List Int} (h : WordsAt w b off zs) : ∀ j u, (zs.map (Value.int .u64))[j]? = some u → w.cell? ((⟨b, off, none⟩ : Addr).add j) = some u := by
  intro j u hu
  rw [List.getElem?_map] at hu
  obtain ⟨x, hx, rfl⟩ := Option.map_eq_some_iff.1 hu
  have hj := (List.getElem?_eq_some_iff.1 hx).1
  have := h j hj
  rw [List.getD_eq_getElem?_getD, hx] at this
  rw [show (⟨b, off, none⟩ : Addr).add j = ⟨b, off + j, none⟩ by simp [Addr.add]]
  simpa using this

set_option maxRecDepth 100000 in
set_option maxHeartbeats 800000 in
theorem concatW_c (g m : Nat) (rs : List URow) (w : World) (hM : rs.length = m) (hm1 : 1 ≤ m) (hm2 : m ≤ 10) (hrs : ∀ r ∈ rs, r.ok w) (hc : ∀ (i : Nat) (h : i < rs.length), w.cell? ⟨g, i, none⟩ = some rs[i].val) :
    Calls Try.prog 57 #[.slice (some ⟨g, 0, none⟩) m m] w fun e w' =>
      ∃ v, e = .returned v ∧ w'.ownsRow w.heap.size 47 1 v (sumU rs) (flatU rs) ∧ Ext w w' := by
  obtain ⟨i0, hi, hz0, hz1, hz2⟩ := info_parts infoU64
  have HL : Hid (∀ k, sumU (rs.take k) ≤ 300) := fun k => by
    have h1 := sumU_le (rs.take k) w (fun r hr => hrs r (List.mem_of_mem_take hr))
    have h2 := List.length_take_le k rs
    have h3 := List.length_take_le' k rs
    omega
  have HR : Hid (∀ r ∈ rs, r.ok w) := hrs
  have HC : Hid (∀ (i : Nat) (h : i < rs.length), w.cell? ⟨g, i, none⟩ = some rs[i].val) := hc
  have H1 : Hid (1 ≤ sumU rs) := by
    match rs, (show 1 ≤ rs.length by omega), hrs with
    | r :: t, _, hrs =>
      have := (hrs r (by simp)).2.1
      show 1 ≤ sumU (r :: t)
      simp [sumU]; omega
  have hT : ∀ k (h : k < rs.length), rs.take (k + 1) = rs.take k ++ [rs[k]] := fun k h => List.take_succ_eq_append_getElem h
  have HT : Hid _ := hT
  clear hrs hc hT
  have HM : Hid (rs.length = m) := hM
  clear hM
  go_enter Try.func57, Try.ntmps57
  go_wp2
  go_loop [3, 5, 11] (fun t _ i => ∃ k : Nat, k ≤ m ∧ i = .int .i64 k ∧ t = .int .i64 (sumU (rs.take k))) (fun _ _ i => m - (intOf i).toNat)
  case atStart => exact ⟨0, Nat.zero_le _, rfl, rfl⟩
  case round =>
    obtain ⟨k, hk, rfl, rfl⟩ := hrel
    have hL := HL.out k
    by_cases hlt : k < m
    · have hlt' : k < rs.length := by have := HM.out; omega
      have hcx : w.cell? ⟨g, k, none⟩ = some (.slice (some ⟨rs[k].b, rs[k].off, none⟩) rs[k].n rs[k].cap) := HC.out k (by have := HM.out; omega)
      have hn1 := (HR.out rs[k] (List.getElem_mem hlt')).2.1
      have hn2 := (HR.out rs[k] (List.getElem_mem hlt')).2.2.1
      have HS : Hid (sumU (rs.take (k + 1)) = sumU (rs.take k) + rs[k].n) := by
        show sumU (rs.take (k + 1)) = sumU (rs.take k) + rs[k].n
        rw [HT.out k hlt', sumU_snoc]
      generalize rs[k] = r at *
      generalize sumU (rs.take k) = S at *
      go_wp2
      go_round
      case rel => exact ⟨k + 1, by omega, by go_num, by rw [HS.out]; go_num⟩
      case measure => simp [intOf]; omega
    · obtain rfl : m = k := by omega
      have eS : rs.take m = rs := List.take_of_length_le (by have := HM.out; omega)
      rw [eS] at hL ⊢
      have h1 := H1.out
      clear eS
      go_wp2_with fail
      refine (growW_c _ h1 (by omega) _).mono ?_
      rintro e w1 ⟨v, rfl, ho0, hx0⟩
      go_wp2
      go_loopw [6, 8, 27] (fun u _ i wr => ∃ k : Nat, k ≤ m ∧ i = .int .i64 k ∧ wr.ownsRow w.heap.size 47 1 u (sumU (rs.take k)) (flatU (rs.take k)) ∧ Ext w wr) (fun _ _ i _ => m - (intOf i).toNat)
      case atStart => exact ⟨0, Nat.zero_le _, rfl, ho0, hx0⟩
      case round =>
        obtain ⟨j, hj, rfl, ho, hx⟩ := hrel
        have hLj := HL.out j
        clear ho0 hx0
        by_cases hlt : j < m
        · have hlt' : j < rs.length := by have := HM.out; omega
          have hcx : wr.cell? ⟨g, j, none⟩ = some (.slice (some ⟨rs[j].b, rs[j].off, none⟩) rs[j].n rs[j].cap) := hx.cell (HC.out j hlt')
          obtain ⟨hro, hn1, hn2, hzl⟩ := HR.out rs[j] (List.getElem_mem hlt')
          have HRO : Hid (WordsAt wr rs[j].b rs[j].off rs[j].zs) := hro.ext hx
          have HZL : Hid (rs[j].zs.length = rs[j].n) := hzl
          have HS : Hid (sumU (rs.take (j + 1)) = sumU (rs.take j) + rs[j].n) := by
            show sumU (rs.take (j + 1)) = sumU (rs.take j) + rs[j].n
            rw [HT.out j hlt', sumU_snoc]
          have HF : Hid (flatU (rs.take (j + 1)) = flatU (rs.take j) ++ rs[j].zs.map (Value.int .u64)) := by
            show flatU (rs.take (j + 1)) = flatU (rs.take j) ++ rs[j].zs.map (Value.int .u64)
            rw [HT.out j hlt', flatU_snoc]
          clear hro hzl
          generalize rs[j] = r at *
          generalize sumU (rs.take j) = S at *
          generalize flatU (rs.take j) = X at *
          have hsz := hx.le
          go_wp2_with (at_builtin; refine wpList_append_own _ rfl _ _ 27 rfl w.heap.size 47 i0 _ 1 8 Try.underlying27 hi hz0 hz1 hz2 rfl (by decide) _ _ _ rfl ho ⟨r.b, r.off, none⟩ r.n r.cap (r.zs.map (Value.int .u64)) rfl (by simp [HZL.out]) ?c1 ?c2 ?c3 ?c4 ?c5 ?_)
          case c1 => exact HRO.out.cells
          case c2 => exact words_one _
          case c3 => unfold maxLen; omega
          case c4 => omega
          case c5 => omega
          · intro v' w2 hown' hgrow _
            have R2 : Ext w w2 := Ext.grown hx hgrow (fun k hk => (ho.lt k hk).1)
            have R : w2.ownsRow w.heap.size 47 1 v' (sumU (rs.take (j + 1))) (flatU (rs.take (j + 1))) := by
              rw [HS.out, HF.out]; exact hown'
            clear hown' hgrow ho hx
            go_wp2
            go_roundw
            case rel => exact ⟨j + 1, by omega, by go_num, R, R2⟩
            case measure => simp [intOf]; omega
        · obtain rfl : m = j := by omega
          have eS : rs.take m = rs := List.take_of_length_le (by have := HM.out; omega)
          rw [eS] at ho
          clear eS
          go_wp2
          go_ret
          exact ⟨_, rfl, ho, hx⟩

theorem eql_slice_nil (b off n cap : Nat) (w : World) : (binOp BinOp.eql 27 (.slice (some ⟨b, off, none⟩) n cap) (.slice none 0 0)).run Try.prog w = .ok (.bool false) w := by kernel_rfl

set_option maxRecDepth 100000 in
set_option maxHeartbeats 400000 in
theorem cloneW_c (b off n cap : Nat) (zs : List Int) (hn : zs.length = n) (h1 : 1 ≤ n) (h2 : n ≤ 100) (w : World) (hz : WordsAt w b off zs) :
    Calls Try.prog 56 #[.slice (some ⟨b, off, none⟩) n cap] w fun e w' =>
      ∃ v, e = .returned v ∧ w'.ownsRow w.heap.size 47 1 v n (zs.map (Value.int .u64)) ∧ Ext w w' := by
  obtain ⟨i0, hi, hz0, hz1, hz2⟩ := info_parts infoU64
  have HZ : Hid (WordsAt w b off zs) := hz
  have HN : Hid (zs.length = n) := hn
  clear hz hn
  have hq := eql_slice_nil b off n cap w
  go_enter Try.func56, Try.ntmps56
  go_wp2_with (at_builtin; refine wpList_append_own _ rfl _ _ 27 rfl w.heap.size 47 i0 _ 1 8 Try.underlying27 hi hz0 hz1 hz2 rfl (by decide) _ _ _ rfl (World.ownsRow_lit (base := w.heap.size) w #[] 0 (Nat.le_refl _) (by decide) rfl) ⟨b, off, none⟩ n cap (zs.map (Value.int .u64)) rfl (by simp [HN.out]) ?c1 ?c2 ?c3 ?c4 ?c5 ?_)
  case c1 => exact (HZ.out.ext ((Ext.refl w).alloc _)).cells
  case c2 => exact words_one _
  case c3 => unfold maxLen; omega
  case c4 => omega
  case c5 => simp
  intro v' w1 hown hgrow _
  go_wp2
  go_ret
  refine ⟨_, rfl, by simpa using hown, Ext.grown ((Ext.refl w).alloc _) hgrow (fun k hk => ?_)⟩
  simp [Value.ownBlock] at hk
  omega
end Go.Proofs.Ytmnjhhachdlmkaa
