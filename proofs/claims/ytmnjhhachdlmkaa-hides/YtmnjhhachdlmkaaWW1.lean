import Derived.Test.YtmnjhhachdlmkaaWW
import Derived.Test.YtmnjhhachdlmkaaFieldsL
namespace Go.Proofs.Ytmnjhhachdlmkaa
open Go.RowKit

theorem sizes_lease : sizes8 leaseL := by intro x hx; simp only [leaseL, List.mem_cons, List.not_mem_nil, or_false] at hx; rcases hx with rfl | rfl | rfl | rfl | rfl | rfl | rfl <;> decide
theorem nvals_lease {W : World} {b : Nat} {s i ck cm cl cn c : Nat} {vals : Nat → Nat} (hW : W.heap[b]? = some (.cells #[.int .i64 (s : Int), .int .i64 (i : Int), .int .i64 (ck : Int), .int .i64 (cm : Int), .int .i64 (cl : Int), .int .i64 (cn : Int), .int .i64 (c : Int)] 98 (0, 0))) (hv : vals 0 = s ∧ vals 1 = i ∧ vals 2 = ck ∧ vals 3 = cm ∧ vals 4 = cl ∧ vals 5 = cn ∧ vals 6 = c) : ∀ x ∈ leaseL, W.cell? ⟨b, x.1, none⟩ = some (.int .i64 (vals x.1 : Int)) := by
  obtain ⟨v0, v1, v2, v3, v4, v5, v6⟩ := hv
  intro x hx
  simp only [leaseL, List.mem_cons, List.not_mem_nil, or_false] at hx
  rcases hx with rfl | rfl | rfl | rfl | rfl | rfl | rfl
  · show W.cell? ⟨b, 0, none⟩ = some (.int .i64 (vals 0 : Int)); rw [v0]; exact cell_at hW rfl
  · show W.cell? ⟨b, 1, none⟩ = some (.int .i64 (vals 1 : Int)); rw [v1]; exact cell_at hW rfl
  · show W.cell? ⟨b, 2, none⟩ = some (.int .i64 (vals 2 : Int)); rw [v2]; exact cell_at hW rfl
  · show W.cell? ⟨b, 3, none⟩ = some (.int .i64 (vals 3 : Int)); rw [v3]; exact cell_at hW rfl
  · show W.cell? ⟨b, 4, none⟩ = some (.int .i64 (vals 4 : Int)); rw [v4]; exact cell_at hW rfl
  · show W.cell? ⟨b, 5, none⟩ = some (.int .i64 (vals 5 : Int)); rw [v5]; exact cell_at hW rfl
  · show W.cell? ⟨b, 6, none⟩ = some (.int .i64 (vals 6 : Int)); rw [v6]; exact cell_at hW rfl

set_option maxRecDepth 100000 in
set_option maxHeartbeats 3200000 in
theorem wireWrite_1 (b : Nat) (s i ck cm cl cn c : Nat) (vals : Nat → Nat) (hv : vals 0 = s ∧ vals 1 = i ∧ vals 2 = ck ∧ vals 3 = cm ∧ vals 4 = cl ∧ vals 5 = cn ∧ vals 6 = c) (hmax : ∀ j, vals j ≤ 2147483647) (w : World) (hb : w.heap[b]? = some (.cells #[.int .i64 (s : Int), .int .i64 (i : Int), .int .i64 (ck : Int), .int .i64 (cm : Int), .int .i64 (cl : Int), .int .i64 (cn : Int), .int .i64 (c : Int)] 98 (0, 0))) :
    Calls Try.prog 23 #[.iface 96 (.pointer (some ⟨b, 0, none⟩))] w fun e w' => e = .returned (.string ⟨([1] ++ flatB vals leaseL).toArray⟩) ∧ Ext w w' := by
  have HV : Hid (vals 0 = s ∧ vals 1 = i ∧ vals 2 = ck ∧ vals 3 = cm ∧ vals 4 = cl ∧ vals 5 = cn ∧ vals 6 = c) := hv
  have HB : Hid _ := hb
  have HMX : Hid (∀ j, vals j ≤ 2147483647) := hmax
  have hm1 := m_leasePlain
  have hm2 := m_leaseFields
  have hfk := field_kind
  clear hv hb hmax
  go_enter Try.func23, Try.ntmps23
  go_wp2_with (first
    | (go_at_call 101; refine (leasePlain_c b s i ck cm cl cn c _ (by exact HB.out)).mono ?_; rintro e w1 ⟨rfl, hx1⟩)
    | (go_at_call 102; refine (leaseFields_c b _).mono ?_; rintro e w2 ⟨g, cap, rfl, ho, hx2⟩))
  obtain ⟨g0, hg0⟩ : ∃ g0, g0 = w1.heap.size := ⟨_, rfl⟩
  have HO0 : Hid (w2.ownsRow w.heap.size 5 1 (.slice (some ⟨w1.heap.size, 0, none⟩) 1 1) 1 (byteV [1])) := (hx2.owns (World.ownsRow_lit w1 #[.int .u8 1] 1 hx1.le (by unfold maxLen; omega) rfl) : _)
  have HX2 : Ext w w2 := (hx1.alloc _).trans hx2
  have HB2 : Hid (w2.heap[b]? = some (.cells #[.int .i64 (s : Int), .int .i64 (i : Int), .int .i64 (ck : Int), .int .i64 (cm : Int), .int .i64 (cl : Int), .int .i64 (cn : Int), .int .i64 (c : Int)] 98 (0, 0))) := HX2.block (by exact HB.out)
  have HF2 : Hid (∃ cur : Array Value, w2.heap[g]? = some (.cells cur 80 (0, 0)) ∧ ∀ j, j < 7 * 3 → cur[j]? = (fl b leaseL)[j]?) := by
    rcases ho.2 with ⟨h0, _⟩ | ⟨g1, cap1, cur, h0, _, hh, _, _, _, ht⟩
    · simp at h0
    · simp only [Value.slice.injEq, Option.some.injEq, Addr.mk.injEq, and_true, true_and] at h0
      obtain ⟨rfl, rfl⟩ := h0
      exact ⟨cur, hh, fun j hj => by rw [← ht, List.getElem?_take, if_pos hj]; simp⟩
  clear ho hx1 hx2 hg0 g0
  go_loopw [3, 5, 14] (fun u _ i wr => ∃ (k n g' cap' : Nat), k ≤ 7 ∧ u = .slice (some ⟨g', 0, none⟩) n cap' ∧ i = .int .i64 k ∧ ([(1 : UInt8)] ++ flatB vals (leaseL.take k)).length = n ∧ wr.ownsRow w.heap.size 5 1 (.slice (some ⟨g', 0, none⟩) n cap') n (byteV ([1] ++ flatB vals (leaseL.take k))) ∧ Below w.heap.size w2 wr ∧ Keeps w2 wr) (fun _ _ i _ => 7 - (intOf i).toNat)
  case atStart => exact ⟨0, 1, _, _, Nat.zero_le _, rfl, rfl, rfl, HO0.out, Below.refl _ _, Keeps.refl _⟩
  case round =>
    obtain ⟨k, n, g', cap', hk, rfl, rfl, hn, hor, hbel, hkp⟩ := hrel
    have HN : Hid (([(1 : UInt8)] ++ flatB vals (leaseL.take k)).length = n) := hn
    have hn1 : 1 ≤ n := by rw [← hn]; simp
    have hn2 : n ≤ 65 := by
      have h1 := len_flatB vals (leaseL.take k) (fun x hx => sizes_lease x (List.mem_of_mem_take hx))
      have h2 : (leaseL.take k).length ≤ 8 := Nat.le_trans (List.length_take_le' _ _) (by decide)
      rw [← hn]; simp; omega
    clear hn
    by_cases hlt : k < 7
    · have hkl : k < leaseL.length := hlt
      have HX : Hid (leaseL.take (k + 1) = leaseL.take k ++ [leaseL[k]]) := List.take_succ_eq_append_getElem hkl
      obtain ⟨cur, hg2, hcur⟩ := HF2.out
      have hgr := hkp.block g _ _ _ hg2 (by decide)
      have hbr := hkp.block b _ _ _ HB2.out (by decide)
      obtain ⟨f0, f1, f2⟩ := fl_at b leaseL k hkl
      have e0 : wr.cell? ⟨g, k * 3, none⟩ = some (.pointer (some ⟨b, leaseL[k].1, none⟩)) := cell_at hgr ((hcur _ (by omega)).trans f0)
      have e1 : wr.cell? ⟨g, k * 3 + 1, none⟩ = some (.int .i64 leaseL[k].2.1) := cell_at hgr ((hcur _ (by omega)).trans f1)
      have e2 : wr.cell? ⟨g, k * 3 + 2, none⟩ = some (.int .i64 leaseL[k].2.2) := cell_at hgr ((hcur _ (by omega)).trans f2)
      have e3 := nvals_lease hbr HV.out leaseL[k] (List.getElem_mem hkl)
      have hmx := HMX.out leaseL[k].1
      have hs8 := sizes_lease leaseL[k] (List.getElem_mem hkl)
      have HFB : Hid (flatB vals (leaseL.take (k + 1)) = flatB vals (leaseL.take k) ++ bytesOf (vals leaseL[k].1) leaseL[k].2.1.toNat) := by
        show flatB vals (leaseL.take (k + 1)) = _
        rw [HX.out, flatB_snoc]
      have hgl : g < wr.heap.size := World.block_lt_of_cell? wr _ e0
      have hbl : b < wr.heap.size := World.block_lt_of_cell? wr _ e3
      obtain ⟨sz, hsz⟩ : ∃ sz : Nat, leaseL[k].2.1 = (sz : Int) := ⟨leaseL[k].2.1.toNat, by omega⟩
      rw [hsz] at e1 hs8 HFB
      rw [Int.toNat_natCast] at HFB
      clear hsz f0 f1 f2 hcur hg2 HX hgr hbr
      generalize vals leaseL[k].1 = x at *
      generalize leaseL[k].2.2 = mo at *
      generalize leaseL[k].1 = o at *
      have hwr : IntKind.u64.wrap (x : Int) = (x : Int) := by rw [IntKind.wrap_u64]; omega
      have hszr := hbel.size
      have hszw := HX2.le
      go_wp2
      go_region_with (go_at_call 38; refine (put_s w.heap.size n g' cap' ([1] ++ flatB vals (leaseL.take k)) x sz (by omega) (by omega) (by omega) _ (by exact hor.alloc _) (by simp; omega) (by omega)).mono ?_; rintro e w3 ⟨g3, cap3, rfl, ho3, hb3, hk3⟩)
      all_goals
        have R1 : w3.ownsRow w.heap.size 5 1 (.slice (some ⟨g3, 0, none⟩) (n + sz) cap3) (n + sz) (byteV ([1] ++ flatB vals (leaseL.take (k + 1)))) := by
          rw [HFB.out, ← List.append_assoc]; exact ho3
        have R2 : Below w.heap.size w2 w3 := (hbel.alloc (by omega) _).drew.trans hb3
        have R3 : Keeps w2 w3 := ((hkp.alloc _).drew).trans hk3
        have R4 : ([(1 : UInt8)] ++ flatB vals (leaseL.take (k + 1))).length = n + sz := by
          rw [HFB.out, ← List.append_assoc, List.length_append, HN.out, len_bytesOf]
        have HR4 : Hid _ := R4
        clear R4 ho3 hb3 hk3 hor hbel hkp
        go_wp2
        go_roundw
        case rel => exact ⟨k + 1, n + sz, g3, cap3, by omega, rfl, by go_num, HR4.out, R1, R2, R3⟩
        case measure => simp [intOf]; omega
    · obtain rfl : k = 7 := by omega
      have hcv := conv_own HN.out hor
      have HE : Ext w wr := Below.trans HX2 hbel
      rw [show leaseL.take 7 = leaseL from rfl] at hcv
      clear hor hbel hkp
      go_wp2
      go_ret
      exact ⟨rfl, HE⟩
end Go.Proofs.Ytmnjhhachdlmkaa
