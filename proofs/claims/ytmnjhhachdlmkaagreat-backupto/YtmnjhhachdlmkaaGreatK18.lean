import Derived.Test.YtmnjhhachdlmkaaGreatK01
import Derived.Test.YtmnjhhachdlmkaaGreatK11
import Derived.Test.YtmnjhhachdlmkaaGreatK17
import Derived.Test.YtmnjhhachdlmkaaGreatK08
import Derived.Test.YtmnjhhachdlmkaaGreatK04
import Derived.Test.YtmnjhhachdlmkaaGreatK05
import Derived.Test.YtmnjhhachdlmkaaGreatK14
import Derived.Test.YtmnjhhachdlmkaaGreatK03
namespace Go.Proofs.YtmnjhhachdlmkaaGreat
set_option linter.unusedVariables false
set_option linter.unusedSimpArgs false
open List renaming getElem_cons_succ -> lB
open World renaming block_lt_of_cell? -> lG
-- WW4
section
set_option maxRecDepth 100000
set_option maxHeartbeats 3200000
open Go.RowKit
theorem sizes_status : sizes8 statusL := by intro x hx; simp only [statusL, List.mem_cons, List.not_mem_nil, or_false] at hx; rcases hx with rfl | rfl | rfl | rfl <;> decide
theorem nvals_status {W : World} {b : Nat} {ck cm cl cn : Nat} {vals : Nat -> Nat} (hW : W.heap[b]? = some (.cells #[.int .i64 (ck : Int), .int .i64 (cm : Int), .int .i64 (cl : Int), .int .i64 (cn : Int)] 216 (0, 0))) (hv : vals 0 = ck /\ vals 1 = cm /\ vals 2 = cl /\ vals 3 = cn) : ∀ x ∈ statusL, W.cell? ⟨b, x.1, none⟩ = some (.int .i64 (vals x.1 : Int)) := by
 obtain ⟨v0, v1, v2, v3⟩ := hv
 intro x hx
 simp only [statusL, List.mem_cons, List.not_mem_nil, or_false] at hx
 rcases hx with rfl | rfl | rfl | rfl
 ·show W.cell? ⟨b, 0, none⟩ = some (.int .i64 (vals 0 : Int)); rw [v0]; exact cell_at hW rfl
 ·show W.cell? ⟨b, 1, none⟩ = some (.int .i64 (vals 1 : Int)); rw [v1]; exact cell_at hW rfl
 ·show W.cell? ⟨b, 2, none⟩ = some (.int .i64 (vals 2 : Int)); rw [v2]; exact cell_at hW rfl
 ·show W.cell? ⟨b, 3, none⟩ = some (.int .i64 (vals 3 : Int)); rw [v3]; exact cell_at hW rfl
theorem wireWrite_4 (b : Nat) (ck cm cl cn : Nat) (vals : Nat -> Nat) (hv : vals 0 = ck /\ vals 1 = cm /\ vals 2 = cl /\ vals 3 = cn) (hmax : ∀ j, vals j <= 2147483647) (w : World) (hb : w.heap[b]? = some (.cells #[.int .i64 (ck : Int), .int .i64 (cm : Int), .int .i64 (cl : Int), .int .i64 (cn : Int)] 216 (0, 0))) :
  Calls Tryz.prog 57 #[.iface 207 (.pointer (some ⟨b, 0, none⟩))] w fun e w' => e = .returned (.string ⟨([4] ++ flatB vals statusL).toArray⟩) /\ Ext w w' := by
 have HV : Hid (vals 0 = ck /\ vals 1 = cm /\ vals 2 = cl /\ vals 3 = cn) := hv
 have HB : Hid _ := hb
 have HMX : Hid (∀ j, vals j <= 2147483647) := hmax
 have hm1 := m_statusPlain
 have hm2 := m_statusFields
 have hfk := field_kind
 clear hv hb hmax
 go_enter Tryz.func57, Tryz.ntmps57
 go_wp2_with (first
  | (go_at_call 221; refine (statusPlain_c b ck cm cl cn _ (by exact HB.out)).mono ?_; rintro e w1 ⟨rfl, hx1⟩)
  | (go_at_call 222; refine (statusFields_c b _).mono ?_; rintro e w2 ⟨g, cap, rfl, ho, hx2⟩))
 obtain ⟨g0, hg0⟩ : ∃ g0, g0 = w1.heap.size := ⟨_, rfl⟩
 have HO0 : Hid (w2.ownsRow w.heap.size 5 1 (.slice (some ⟨w1.heap.size, 0, none⟩) 1 1) 1 (byteV [4])) := (hx2.owns (World.ownsRow_lit w1 #[.int .u8 4] 1 hx1.le (by unfold maxLen; omega) rfl) : _)
 have HX2 : Ext w w2 := (hx1.alloc _).trans hx2
 have HB2 : Hid (w2.heap[b]? = some (.cells #[.int .i64 (ck : Int), .int .i64 (cm : Int), .int .i64 (cl : Int), .int .i64 (cn : Int)] 216 (0, 0))) := HX2.block (by exact HB.out)
 have HF2 : Hid (∃ cur : Array Value, w2.heap[g]? = some (.cells cur 162 (0, 0)) /\ ∀ j, j < 4 * 3 -> cur[j]? = (fl b statusL)[j]?) := by
  rcases ho.2 with ⟨h0, _⟩ | ⟨g1, cap1, cur, h0, _, hh, _, _, _, ht⟩
  ·simp at h0
  ·simp only [Value.slice.injEq, Option.some.injEq, Addr.mk.injEq, and_true, true_and] at h0
   obtain ⟨rfl, rfl⟩ := h0
   exact ⟨cur, hh, fun j hj => by rw [<- ht, List.getElem?_take, if_pos hj]; simp⟩
 clear ho hx1 hx2 hg0 g0
 go_loopw [3, 5, 14] (fun u _ i wr => ∃ (k n g' cap' : Nat), k <= 4 /\ u = .slice (some ⟨g', 0, none⟩) n cap' /\ i = .int .i64 k /\ ([(4 : UInt8)] ++ flatB vals (statusL.take k)).length = n /\ wr.ownsRow w.heap.size 5 1 (.slice (some ⟨g', 0, none⟩) n cap') n (byteV ([4] ++ flatB vals (statusL.take k))) /\ Below w.heap.size w2 wr /\ Keeps w2 wr) (fun _ _ i _ => 4 - (intOf i).toNat)
 case atStart => exact ⟨0, 1, _, _, Nat.zero_le _, rfl, rfl, rfl, HO0.out, Below.refl _ _, Keeps.refl _⟩
 case round =>
  obtain ⟨k, n, g', cap', hk, rfl, rfl, hn, hor, hbel, hkp⟩ := hrel
  have HN : Hid (([(4 : UInt8)] ++ flatB vals (statusL.take k)).length = n) := hn
  have hn1 : 1 <= n := by rw [<- hn]; simp
  have hn2 : n <= 65 := by
   have h1 := len_flatB vals (statusL.take k) (fun x hx => sizes_status x (List.mem_of_mem_take hx))
   have h2 : (statusL.take k).length <= 8 := Nat.le_trans (List.length_take_le' _ _) (by decide)
   rw [<- hn]; simp; omega
  clear hn
  by_cases hlt : k < 4
  ·have hkl : k < statusL.length := hlt
   have HX : Hid (statusL.take (k + 1) = statusL.take k ++ [statusL[k]]) := List.take_succ_eq_append_getElem hkl
   obtain ⟨cur, hg2, hcur⟩ := HF2.out
   have hgr := hkp.block g _ _ _ hg2 (by decide)
   have hbr := hkp.block b _ _ _ HB2.out (by decide)
   obtain ⟨f0, f1, f2⟩ := fl_at b statusL k hkl
   have e0 : wr.cell? ⟨g, k * 3, none⟩ = some (.pointer (some ⟨b, statusL[k].1, none⟩)) := cell_at hgr ((hcur _ (by omega)).trans f0)
   have e1 : wr.cell? ⟨g, k * 3 + 1, none⟩ = some (.int .i64 statusL[k].2.1) := cell_at hgr ((hcur _ (by omega)).trans f1)
   have e2 : wr.cell? ⟨g, k * 3 + 2, none⟩ = some (.int .i64 statusL[k].2.2) := cell_at hgr ((hcur _ (by omega)).trans f2)
   have e3 := nvals_status hbr HV.out statusL[k] (List.getElem_mem hkl)
   have hmx := HMX.out statusL[k].1
   have hs8 := sizes_status statusL[k] (List.getElem_mem hkl)
   have HFB : Hid (flatB vals (statusL.take (k + 1)) = flatB vals (statusL.take k) ++ bytesOf (vals statusL[k].1) statusL[k].2.1.toNat) := by
    show flatB vals (statusL.take (k + 1)) = _
    rw [HX.out, flatB_snoc]
   have hgl : g < wr.heap.size := lG wr _ e0
   have hbl : b < wr.heap.size := lG wr _ e3
   obtain ⟨sz, hsz⟩ : ∃ sz : Nat, statusL[k].2.1 = (sz : Int) := ⟨statusL[k].2.1.toNat, by omega⟩
   rw [hsz] at e1 hs8 HFB
   rw [Int.toNat_natCast] at HFB
   clear hsz f0 f1 f2 hcur hg2 HX hgr hbr
   generalize vals statusL[k].1 = x at *
   generalize statusL[k].2.2 = mo at *
   generalize statusL[k].1 = o at *
   have hwr : IntKind.u64.wrap (x : Int) = (x : Int) := by rw [IntKind.wrap_u64]; omega
   have hszr := hbel.size
   have hszw := HX2.le
   go_wp2
   go_region_with (go_at_call 86; refine (put_s w.heap.size n g' cap' ([4] ++ flatB vals (statusL.take k)) x sz (by omega) (by omega) (by omega) _ (by exact hor.alloc _) (by simp; omega) (by omega)).mono ?_; rintro e w3 ⟨g3, cap3, rfl, ho3, hb3, hk3⟩)
   all_goals
    have R1 : w3.ownsRow w.heap.size 5 1 (.slice (some ⟨g3, 0, none⟩) (n + sz) cap3) (n + sz) (byteV ([4] ++ flatB vals (statusL.take (k + 1)))) := by
     rw [HFB.out, <- List.append_assoc]; exact ho3
    have R2 : Below w.heap.size w2 w3 := (hbel.alloc (by omega) _).drew.trans hb3
    have R3 : Keeps w2 w3 := ((hkp.alloc _).drew).trans hk3
    have R4 : ([(4 : UInt8)] ++ flatB vals (statusL.take (k + 1))).length = n + sz := by
     rw [HFB.out, <- List.append_assoc, List.length_append, HN.out, len_bytesOf]
    have HR4 : Hid _ := R4
    clear R4 ho3 hb3 hk3 hor hbel hkp
    go_wp2
    go_roundw
    case rel => exact ⟨k + 1, n + sz, g3, cap3, by omega, rfl, by go_num, HR4.out, R1, R2, R3⟩
    case measure => simp [intOf]; omega
  ·obtain rfl : k = 4 := by omega
   have hcv := conv_own HN.out hor
   have HE : Ext w wr := Below.trans HX2 hbel
   rw [show statusL.take 4 = statusL from rfl] at hcv
   clear hor hbel hkp
   go_wp2
   go_ret
   exact ⟨rfl, HE⟩
end
-- VWa
section
set_option maxRecDepth 100000
set_option maxHeartbeats 800000
open Go.RowKit
theorem dealerWrite_bad (k s i ck cm cl cn f c p : Int)
  (hc : ∀ w, Calls Tryz.prog 55 #[.agg #[.int .i64 k, .int .i64 s, .int .i64 i, .int .i64 ck, .int .i64 cm, .int .i64 cl, .int .i64 cn, .int .i64 f, .int .i64 c, .int .i64 p]] w fun e w' => e = .returned (.tuple #[.nilIface, .int .i64 1]) /\ Ext w w') (w : World) :
  Calls Tryz.prog 23 #[.agg #[.int .i64 k, .int .i64 s, .int .i64 i, .int .i64 ck, .int .i64 cm, .int .i64 cl, .int .i64 cn, .int .i64 f, .int .i64 c, .int .i64 p]] w fun e w' => e = .returned (.tuple #[.string ⟨#[]⟩, .int .i64 1]) /\ Ext w w' := by
 have HC : Hid (∀ w, Calls _ _ _ w _) := hc
 clear hc
 go_enter Tryz.func23, Tryz.ntmps23
 go_wp2_with (go_at_call 55; refine (HC.out _).mono ?_; rintro e w1 ⟨rfl, hx⟩)
 go_ret2
 exact ⟨rfl, (Ext.refl w).alloc _ |>.trans hx⟩
theorem dealerWrite_1 (s i ck cm cl cn c : Nat) (h_s : s <= 2147483647) (h_i : i <= 2147483647) (h_c : c <= 2147483647) (h_ck : ck <= 255) (h_cm : cm <= 255) (h_cl : cl <= 255) (h_cn : cn <= 255) (w : World) :
  Calls Tryz.prog 23 #[.agg #[.int .i64 1, .int .i64 (s : Int), .int .i64 (i : Int), .int .i64 (ck : Int), .int .i64 (cm : Int), .int .i64 (cl : Int), .int .i64 (cn : Int), .int .i64 0, .int .i64 (c : Int), .int .i64 0]] w fun e w' => e = .returned (.tuple #[.string ⟨([1] ++ (bytesOf s 4 ++ (bytesOf i 4 ++ ([UInt8.ofNat ck, UInt8.ofNat cm, UInt8.ofNat cl, UInt8.ofNat cn] ++ (bytesOf c 4))))).toArray⟩, .int .i64 0]) /\ Ext w w' := by
 have hfit : fitB (fun j => (([s, i, ck, cm, cl, cn, c] : List Nat).getD j 0 : Int)) leaseL = true := by simp [fitB, leaseL]; omega
 have HC : Hid (∀ w, Calls Tryz.prog 55 #[.agg #[.int .i64 1, .int .i64 (s : Int), .int .i64 (i : Int), .int .i64 (ck : Int), .int .i64 (cm : Int), .int .i64 (cl : Int), .int .i64 (cn : Int), .int .i64 0, .int .i64 (c : Int), .int .i64 0]] w fun e w' => ∃ b, e = .returned (.tuple #[.iface 201 (.pointer (some ⟨b, 0, none⟩)), .int .i64 0]) /\ w'.heap[b]? = some (.cells #[.int .i64 (s : Int), .int .i64 (i : Int), .int .i64 (ck : Int), .int .i64 (cm : Int), .int .i64 (cl : Int), .int .i64 (cn : Int), .int .i64 (c : Int)] 210 (0, 0)) /\ Ext w w') := fun w =>
  (check_1b s i ck cm cl cn c (fun j => (([s, i, ck, cm, cl, cn, c] : List Nat).getD j 0 : Int)) (by simp) w).mono fun e w' h => by
   rcases h with ⟨_, h⟩ | ⟨h, _⟩
   ·obtain ⟨b, h1, _, h2, h3⟩ := h
    exact ⟨b, h1, h2, h3⟩
   ·rw [hfit] at h; simp at h
 have hby : [1] ++ flatB (fun j => ([s, i, ck, cm, cl, cn, c] : List Nat).getD j 0) leaseL = [1] ++ (bytesOf s 4 ++ (bytesOf i 4 ++ ([UInt8.ofNat ck, UInt8.ofNat cm, UInt8.ofNat cl, UInt8.ofNat cn] ++ (bytesOf c 4)))) := by simp [flatB, leaseL, bytesOf]
 have HW : Hid (∀ b w, w.heap[b]? = some (.cells #[.int .i64 (s : Int), .int .i64 (i : Int), .int .i64 (ck : Int), .int .i64 (cm : Int), .int .i64 (cl : Int), .int .i64 (cn : Int), .int .i64 (c : Int)] 210 (0, 0)) -> Calls Tryz.prog 57 #[.iface 201 (.pointer (some ⟨b, 0, none⟩))] w fun e w' => e = .returned (.string ⟨([1] ++ (bytesOf s 4 ++ (bytesOf i 4 ++ ([UInt8.ofNat ck, UInt8.ofNat cm, UInt8.ofNat cl, UInt8.ofNat cn] ++ (bytesOf c 4))))).toArray⟩) /\ Ext w w') := fun b w hb => by
  have h := wireWrite_1 b s i ck cm cl cn c (fun j => ([s, i, ck, cm, cl, cn, c] : List Nat).getD j 0) (by simp) (fun j => by
   show ([s, i, ck, cm, cl, cn, c] : List Nat).getD j 0 <= 2147483647
   match j with
   | 0 => simp; omega
   | 1 => simp; omega
   | 2 => simp; omega
   | 3 => simp; omega
   | 4 => simp; omega
   | 5 => simp; omega
   | 6 => simp; omega
   | j + 7 => simp) w hb
  rw [hby] at h
  exact h
 clear hfit hby
 generalize hS : (⟨([1] ++ (bytesOf s 4 ++ (bytesOf i 4 ++ ([UInt8.ofNat ck, UInt8.ofNat cm, UInt8.ofNat cl, UInt8.ofNat cn] ++ (bytesOf c 4))))).toArray⟩ : ByteArray) = S at *
 clear hS
 go_enter Tryz.func23, Tryz.ntmps23
 go_wp2_with (first
  | (go_at_call 55; refine (HC.out _).mono ?_; rintro e w1 ⟨b, rfl, hb, hx⟩; have HB : Hid _ := hb; clear hb)
  | (go_at_call 57; refine (HW.out b _ HB.out).mono ?_; rintro e w2 ⟨rfl, hx2⟩))
 go_ret2
 exact ⟨rfl, ((Ext.refl w).alloc _).trans (hx.trans hx2)⟩
theorem dealerWrite_2 (s ck cm cl cn f c p : Nat) (h_s : s <= 2147483647) (h_f : f <= 2147483647) (h_c : c <= 2147483647) (h_ck : ck <= 255) (h_cm : cm <= 255) (h_cl : cl <= 255) (h_cn : cn <= 255) (h_p : p <= 255) (w : World) :
  Calls Tryz.prog 23 #[.agg #[.int .i64 2, .int .i64 (s : Int), .int .i64 0, .int .i64 (ck : Int), .int .i64 (cm : Int), .int .i64 (cl : Int), .int .i64 (cn : Int), .int .i64 (f : Int), .int .i64 (c : Int), .int .i64 (p : Int)]] w fun e w' => e = .returned (.tuple #[.string ⟨([2] ++ (bytesOf s 4 ++ ([UInt8.ofNat ck, UInt8.ofNat cm, UInt8.ofNat cl, UInt8.ofNat cn] ++ (bytesOf f 4 ++ (bytesOf c 4 ++ ([UInt8.ofNat p])))))).toArray⟩, .int .i64 0]) /\ Ext w w' := by
 have hfit : fitB (fun j => (([s, ck, cm, cl, cn, f, c, p] : List Nat).getD j 0 : Int)) fetchL = true := by simp [fitB, fetchL]; omega
 have HC : Hid (∀ w, Calls Tryz.prog 55 #[.agg #[.int .i64 2, .int .i64 (s : Int), .int .i64 0, .int .i64 (ck : Int), .int .i64 (cm : Int), .int .i64 (cl : Int), .int .i64 (cn : Int), .int .i64 (f : Int), .int .i64 (c : Int), .int .i64 (p : Int)]] w fun e w' => ∃ b, e = .returned (.tuple #[.iface 203 (.pointer (some ⟨b, 0, none⟩)), .int .i64 0]) /\ w'.heap[b]? = some (.cells #[.int .i64 (s : Int), .int .i64 (ck : Int), .int .i64 (cm : Int), .int .i64 (cl : Int), .int .i64 (cn : Int), .int .i64 (f : Int), .int .i64 (c : Int), .int .i64 (p : Int)] 212 (0, 0)) /\ Ext w w') := fun w =>
  (check_2b s ck cm cl cn f c p (fun j => (([s, ck, cm, cl, cn, f, c, p] : List Nat).getD j 0 : Int)) (by simp) w).mono fun e w' h => by
   rcases h with ⟨_, h⟩ | ⟨h, _⟩
   ·obtain ⟨b, h1, _, h2, h3⟩ := h
    exact ⟨b, h1, h2, h3⟩
   ·rw [hfit] at h; simp at h
 have hby : [2] ++ flatB (fun j => ([s, ck, cm, cl, cn, f, c, p] : List Nat).getD j 0) fetchL = [2] ++ (bytesOf s 4 ++ ([UInt8.ofNat ck, UInt8.ofNat cm, UInt8.ofNat cl, UInt8.ofNat cn] ++ (bytesOf f 4 ++ (bytesOf c 4 ++ ([UInt8.ofNat p]))))) := by simp [flatB, fetchL, bytesOf]
 have HW : Hid (∀ b w, w.heap[b]? = some (.cells #[.int .i64 (s : Int), .int .i64 (ck : Int), .int .i64 (cm : Int), .int .i64 (cl : Int), .int .i64 (cn : Int), .int .i64 (f : Int), .int .i64 (c : Int), .int .i64 (p : Int)] 212 (0, 0)) -> Calls Tryz.prog 57 #[.iface 203 (.pointer (some ⟨b, 0, none⟩))] w fun e w' => e = .returned (.string ⟨([2] ++ (bytesOf s 4 ++ ([UInt8.ofNat ck, UInt8.ofNat cm, UInt8.ofNat cl, UInt8.ofNat cn] ++ (bytesOf f 4 ++ (bytesOf c 4 ++ ([UInt8.ofNat p])))))).toArray⟩) /\ Ext w w') := fun b w hb => by
  have h := wireWrite_2 b s ck cm cl cn f c p (fun j => ([s, ck, cm, cl, cn, f, c, p] : List Nat).getD j 0) (by simp) (fun j => by
   show ([s, ck, cm, cl, cn, f, c, p] : List Nat).getD j 0 <= 2147483647
   match j with
   | 0 => simp; omega
   | 1 => simp; omega
   | 2 => simp; omega
   | 3 => simp; omega
   | 4 => simp; omega
   | 5 => simp; omega
   | 6 => simp; omega
   | 7 => simp; omega
   | j + 8 => simp) w hb
  rw [hby] at h
  exact h
 clear hfit hby
 generalize hS : (⟨([2] ++ (bytesOf s 4 ++ ([UInt8.ofNat ck, UInt8.ofNat cm, UInt8.ofNat cl, UInt8.ofNat cn] ++ (bytesOf f 4 ++ (bytesOf c 4 ++ ([UInt8.ofNat p])))))).toArray⟩ : ByteArray) = S at *
 clear hS
 go_enter Tryz.func23, Tryz.ntmps23
 go_wp2_with (first
  | (go_at_call 55; refine (HC.out _).mono ?_; rintro e w1 ⟨b, rfl, hb, hx⟩; have HB : Hid _ := hb; clear hb)
  | (go_at_call 57; refine (HW.out b _ HB.out).mono ?_; rintro e w2 ⟨rfl, hx2⟩))
 go_ret2
 exact ⟨rfl, ((Ext.refl w).alloc _).trans (hx.trans hx2)⟩
theorem dealerWrite_3 (s i : Nat) (h_s : s <= 2147483647) (h_i : i <= 2147483647)  (w : World) :
  Calls Tryz.prog 23 #[.agg #[.int .i64 3, .int .i64 (s : Int), .int .i64 (i : Int), .int .i64 0, .int .i64 0, .int .i64 0, .int .i64 0, .int .i64 0, .int .i64 0, .int .i64 0]] w fun e w' => e = .returned (.tuple #[.string ⟨([3] ++ (bytesOf s 4 ++ (bytesOf i 4))).toArray⟩, .int .i64 0]) /\ Ext w w' := by
 have hfit : fitB (fun j => (([s, i] : List Nat).getD j 0 : Int)) releaseL = true := by simp [fitB, releaseL]; omega
 have HC : Hid (∀ w, Calls Tryz.prog 55 #[.agg #[.int .i64 3, .int .i64 (s : Int), .int .i64 (i : Int), .int .i64 0, .int .i64 0, .int .i64 0, .int .i64 0, .int .i64 0, .int .i64 0, .int .i64 0]] w fun e w' => ∃ b, e = .returned (.tuple #[.iface 205 (.pointer (some ⟨b, 0, none⟩)), .int .i64 0]) /\ w'.heap[b]? = some (.cells #[.int .i64 (s : Int), .int .i64 (i : Int)] 214 (0, 0)) /\ Ext w w') := fun w =>
  (check_3b s i (fun j => (([s, i] : List Nat).getD j 0 : Int)) (by simp) w).mono fun e w' h => by
   rcases h with ⟨_, h⟩ | ⟨h, _⟩
   ·obtain ⟨b, h1, _, h2, h3⟩ := h
    exact ⟨b, h1, h2, h3⟩
   ·rw [hfit] at h; simp at h
 have hby : [3] ++ flatB (fun j => ([s, i] : List Nat).getD j 0) releaseL = [3] ++ (bytesOf s 4 ++ (bytesOf i 4)) := by simp [flatB, releaseL, bytesOf]
 have HW : Hid (∀ b w, w.heap[b]? = some (.cells #[.int .i64 (s : Int), .int .i64 (i : Int)] 214 (0, 0)) -> Calls Tryz.prog 57 #[.iface 205 (.pointer (some ⟨b, 0, none⟩))] w fun e w' => e = .returned (.string ⟨([3] ++ (bytesOf s 4 ++ (bytesOf i 4))).toArray⟩) /\ Ext w w') := fun b w hb => by
  have h := wireWrite_3 b s i (fun j => ([s, i] : List Nat).getD j 0) (by simp) (fun j => by
   show ([s, i] : List Nat).getD j 0 <= 2147483647
   match j with
   | 0 => simp; omega
   | 1 => simp; omega
   | j + 2 => simp) w hb
  rw [hby] at h
  exact h
 clear hfit hby
 generalize hS : (⟨([3] ++ (bytesOf s 4 ++ (bytesOf i 4))).toArray⟩ : ByteArray) = S at *
 clear hS
 go_enter Tryz.func23, Tryz.ntmps23
 go_wp2_with (first
  | (go_at_call 55; refine (HC.out _).mono ?_; rintro e w1 ⟨b, rfl, hb, hx⟩; have HB : Hid _ := hb; clear hb)
  | (go_at_call 57; refine (HW.out b _ HB.out).mono ?_; rintro e w2 ⟨rfl, hx2⟩))
 go_ret2
 exact ⟨rfl, ((Ext.refl w).alloc _).trans (hx.trans hx2)⟩
theorem dealerWrite_4 (ck cm cl cn : Nat)  (h_ck : ck <= 255) (h_cm : cm <= 255) (h_cl : cl <= 255) (h_cn : cn <= 255) (w : World) :
  Calls Tryz.prog 23 #[.agg #[.int .i64 4, .int .i64 0, .int .i64 0, .int .i64 (ck : Int), .int .i64 (cm : Int), .int .i64 (cl : Int), .int .i64 (cn : Int), .int .i64 0, .int .i64 0, .int .i64 0]] w fun e w' => e = .returned (.tuple #[.string ⟨([4] ++ [UInt8.ofNat ck, UInt8.ofNat cm, UInt8.ofNat cl, UInt8.ofNat cn]).toArray⟩, .int .i64 0]) /\ Ext w w' := by
 have hfit : fitB (fun j => (([ck, cm, cl, cn] : List Nat).getD j 0 : Int)) statusL = true := by simp [fitB, statusL]; omega
 have HC : Hid (∀ w, Calls Tryz.prog 55 #[.agg #[.int .i64 4, .int .i64 0, .int .i64 0, .int .i64 (ck : Int), .int .i64 (cm : Int), .int .i64 (cl : Int), .int .i64 (cn : Int), .int .i64 0, .int .i64 0, .int .i64 0]] w fun e w' => ∃ b, e = .returned (.tuple #[.iface 207 (.pointer (some ⟨b, 0, none⟩)), .int .i64 0]) /\ w'.heap[b]? = some (.cells #[.int .i64 (ck : Int), .int .i64 (cm : Int), .int .i64 (cl : Int), .int .i64 (cn : Int)] 216 (0, 0)) /\ Ext w w') := fun w =>
  (check_4b ck cm cl cn (fun j => (([ck, cm, cl, cn] : List Nat).getD j 0 : Int)) (by simp) w).mono fun e w' h => by
   rcases h with ⟨_, h⟩ | ⟨h, _⟩
   ·obtain ⟨b, h1, _, h2, h3⟩ := h
    exact ⟨b, h1, h2, h3⟩
   ·rw [hfit] at h; simp at h
 have hby : [4] ++ flatB (fun j => ([ck, cm, cl, cn] : List Nat).getD j 0) statusL = [4] ++ [UInt8.ofNat ck, UInt8.ofNat cm, UInt8.ofNat cl, UInt8.ofNat cn] := by simp [flatB, statusL, bytesOf]
 have HW : Hid (∀ b w, w.heap[b]? = some (.cells #[.int .i64 (ck : Int), .int .i64 (cm : Int), .int .i64 (cl : Int), .int .i64 (cn : Int)] 216 (0, 0)) -> Calls Tryz.prog 57 #[.iface 207 (.pointer (some ⟨b, 0, none⟩))] w fun e w' => e = .returned (.string ⟨([4] ++ [UInt8.ofNat ck, UInt8.ofNat cm, UInt8.ofNat cl, UInt8.ofNat cn]).toArray⟩) /\ Ext w w') := fun b w hb => by
  have h := wireWrite_4 b ck cm cl cn (fun j => ([ck, cm, cl, cn] : List Nat).getD j 0) (by simp) (fun j => by
   show ([ck, cm, cl, cn] : List Nat).getD j 0 <= 2147483647
   match j with
   | 0 => simp; omega
   | 1 => simp; omega
   | 2 => simp; omega
   | 3 => simp; omega
   | j + 4 => simp) w hb
  rw [hby] at h
  exact h
 clear hfit hby
 generalize hS : (⟨([4] ++ [UInt8.ofNat ck, UInt8.ofNat cm, UInt8.ofNat cl, UInt8.ofNat cn]).toArray⟩ : ByteArray) = S at *
 clear hS
 go_enter Tryz.func23, Tryz.ntmps23
 go_wp2_with (first
  | (go_at_call 55; refine (HC.out _).mono ?_; rintro e w1 ⟨b, rfl, hb, hx⟩; have HB : Hid _ := hb; clear hb)
  | (go_at_call 57; refine (HW.out b _ HB.out).mono ?_; rintro e w2 ⟨rfl, hx2⟩))
 go_ret2
 exact ⟨rfl, ((Ext.refl w).alloc _).trans (hx.trans hx2)⟩
theorem dealerRead_bad (s : ByteArray) (hr : ∀ w, Calls Tryz.prog 58 #[.string s] w fun e w' => e = .returned (.tuple #[.nilIface, .int .i64 1]) /\ Ext w w') (w : World) :
  Calls Tryz.prog 24 #[.string s] w fun e w' => e = .returned (.tuple #[.agg #[.int .i64 0, .int .i64 0, .int .i64 0, .int .i64 0, .int .i64 0, .int .i64 0, .int .i64 0, .int .i64 0, .int .i64 0, .int .i64 0], .int .i64 1]) /\ Ext w w' := by
 have HC : Hid (∀ w, Calls _ _ _ w _) := hr
 clear hr
 go_enter Tryz.func24, Tryz.ntmps24
 go_wp2_with (go_at_call 58; refine (HC.out _).mono ?_; rintro e w1 ⟨rfl, hx⟩; obtain ⟨la, ca0, ca1, ca2, ca3, ca4, ca5, ca6, ca7, ca8, ca9, fa0, fa1, fa2, fa3, fa4, fa5, fa6, fa7, fa8, fa9⟩ := req_all (W := w1) (g := w.heap.size) (t := 51) (v0 := .int .i64 0) (v1 := .int .i64 0) (v2 := .int .i64 0) (v3 := .int .i64 0) (v4 := .int .i64 0) (v5 := .int .i64 0) (v6 := .int .i64 0) (v7 := .int .i64 0) (v8 := .int .i64 0) (v9 := .int .i64 0) (by repeat (first | (with_reducible refine at_drew ?_) | ((with_reducible refine at_new ?_); (simp; done)) | (with_reducible refine at_old ?_) | (with_reducible (apply Ext.block; assumption)))))
 refine bodyPost_ret (v := .tuple #[.agg #[.int .i64 0, .int .i64 0, .int .i64 0, .int .i64 0, .int .i64 0, .int .i64 0, .int .i64 0, .int .i64 0, .int .i64 0, .int .i64 0], .int .i64 1]) (by simp [results, Tryz.results24, go_sem, *]) rfl ⟨rfl, ?_⟩
 repeat (first | (with_reducible exact Ext.refl _) | (with_reducible assumption) | (with_reducible refine Ext.drew ?_) | (with_reducible refine Ext.alloc ?_ _) | (with_reducible refine Ext.setCell ?_ (by simp) _) | (with_reducible (apply Ext.chain; assumption)))
theorem dealerRead_1 (str : ByteArray) (s i ck cm cl cn c : Nat)
  (hr : ∀ w, Calls Tryz.prog 58 #[.string str] w fun e w' => ∃ b, e = .returned (.tuple #[.iface 201 (.pointer (some ⟨b, 0, none⟩)), .int .i64 0]) /\ w'.heap[b]? = some (.cells #[.int .i64 (s : Int), .int .i64 (i : Int), .int .i64 (ck : Int), .int .i64 (cm : Int), .int .i64 (cl : Int), .int .i64 (cn : Int), .int .i64 (c : Int)] 210 (0, 0)) /\ Ext w w') (w : World) :
  Calls Tryz.prog 24 #[.string str] w fun e w' => e = .returned (.tuple #[.agg #[.int .i64 1, .int .i64 (s : Int), .int .i64 (i : Int), .int .i64 (ck : Int), .int .i64 (cm : Int), .int .i64 (cl : Int), .int .i64 (cn : Int), .int .i64 0, .int .i64 (c : Int), .int .i64 0], .int .i64 0]) /\ Ext w w' := by
 have HC : Hid (∀ w, Calls _ _ _ w _) := hr
 clear hr
 have hm1 := m_leasePlain
 go_enter Tryz.func24, Tryz.ntmps24
 go_wp2_with (first
  | (go_at_call 58; refine (HC.out _).mono ?_; rintro e w1 ⟨b, rfl, hb, hx⟩; have HB : Hid _ := hb; clear hb)
  | (go_at_call 209; refine (leasePlain_c b s i ck cm cl cn c _ HB.out).mono ?_; rintro e w2 ⟨rfl, hx2⟩; obtain ⟨la, ca0, ca1, ca2, ca3, ca4, ca5, ca6, ca7, ca8, ca9, fa0, fa1, fa2, fa3, fa4, fa5, fa6, fa7, fa8, fa9⟩ := req_all (W := w2) (g := w.heap.size) (t := 51) (v0 := .int .i64 0) (v1 := .int .i64 0) (v2 := .int .i64 0) (v3 := .int .i64 0) (v4 := .int .i64 0) (v5 := .int .i64 0) (v6 := .int .i64 0) (v7 := .int .i64 0) (v8 := .int .i64 0) (v9 := .int .i64 0) (by repeat (first | (with_reducible refine at_drew ?_) | ((with_reducible refine at_new ?_); (simp; done)) | (with_reducible refine at_old ?_) | (with_reducible (apply Ext.block; assumption))))))
 refine bodyPost_ret (v := .tuple #[.agg #[.int .i64 1, .int .i64 (s : Int), .int .i64 (i : Int), .int .i64 (ck : Int), .int .i64 (cm : Int), .int .i64 (cl : Int), .int .i64 (cn : Int), .int .i64 0, .int .i64 (c : Int), .int .i64 0], .int .i64 0]) (by simp [results, Tryz.results24, go_sem, *]) rfl ⟨rfl, ?_⟩
 repeat (first | (with_reducible exact Ext.refl _) | (with_reducible assumption) | (with_reducible refine Ext.drew ?_) | (with_reducible refine Ext.alloc ?_ _) | (with_reducible refine Ext.setCell ?_ (by simp) _) | (with_reducible (apply Ext.chain; assumption)))
theorem dealerRead_2 (str : ByteArray) (s ck cm cl cn f c p : Nat)
  (hr : ∀ w, Calls Tryz.prog 58 #[.string str] w fun e w' => ∃ b, e = .returned (.tuple #[.iface 203 (.pointer (some ⟨b, 0, none⟩)), .int .i64 0]) /\ w'.heap[b]? = some (.cells #[.int .i64 (s : Int), .int .i64 (ck : Int), .int .i64 (cm : Int), .int .i64 (cl : Int), .int .i64 (cn : Int), .int .i64 (f : Int), .int .i64 (c : Int), .int .i64 (p : Int)] 212 (0, 0)) /\ Ext w w') (w : World) :
  Calls Tryz.prog 24 #[.string str] w fun e w' => e = .returned (.tuple #[.agg #[.int .i64 2, .int .i64 (s : Int), .int .i64 0, .int .i64 (ck : Int), .int .i64 (cm : Int), .int .i64 (cl : Int), .int .i64 (cn : Int), .int .i64 (f : Int), .int .i64 (c : Int), .int .i64 (p : Int)], .int .i64 0]) /\ Ext w w' := by
 have HC : Hid (∀ w, Calls _ _ _ w _) := hr
 clear hr
 have hm1 := m_fetchPlain
 go_enter Tryz.func24, Tryz.ntmps24
 go_wp2_with (first
  | (go_at_call 58; refine (HC.out _).mono ?_; rintro e w1 ⟨b, rfl, hb, hx⟩; have HB : Hid _ := hb; clear hb)
  | (go_at_call 217; refine (fetchPlain_c b s ck cm cl cn f c p _ HB.out).mono ?_; rintro e w2 ⟨rfl, hx2⟩; obtain ⟨la, ca0, ca1, ca2, ca3, ca4, ca5, ca6, ca7, ca8, ca9, fa0, fa1, fa2, fa3, fa4, fa5, fa6, fa7, fa8, fa9⟩ := req_all (W := w2) (g := w.heap.size) (t := 51) (v0 := .int .i64 0) (v1 := .int .i64 0) (v2 := .int .i64 0) (v3 := .int .i64 0) (v4 := .int .i64 0) (v5 := .int .i64 0) (v6 := .int .i64 0) (v7 := .int .i64 0) (v8 := .int .i64 0) (v9 := .int .i64 0) (by repeat (first | (with_reducible refine at_drew ?_) | ((with_reducible refine at_new ?_); (simp; done)) | (with_reducible refine at_old ?_) | (with_reducible (apply Ext.block; assumption))))))
 refine bodyPost_ret (v := .tuple #[.agg #[.int .i64 2, .int .i64 (s : Int), .int .i64 0, .int .i64 (ck : Int), .int .i64 (cm : Int), .int .i64 (cl : Int), .int .i64 (cn : Int), .int .i64 (f : Int), .int .i64 (c : Int), .int .i64 (p : Int)], .int .i64 0]) (by simp [results, Tryz.results24, go_sem, *]) rfl ⟨rfl, ?_⟩
 repeat (first | (with_reducible exact Ext.refl _) | (with_reducible assumption) | (with_reducible refine Ext.drew ?_) | (with_reducible refine Ext.alloc ?_ _) | (with_reducible refine Ext.setCell ?_ (by simp) _) | (with_reducible (apply Ext.chain; assumption)))
theorem dealerRead_3 (str : ByteArray) (s i : Nat)
  (hr : ∀ w, Calls Tryz.prog 58 #[.string str] w fun e w' => ∃ b, e = .returned (.tuple #[.iface 205 (.pointer (some ⟨b, 0, none⟩)), .int .i64 0]) /\ w'.heap[b]? = some (.cells #[.int .i64 (s : Int), .int .i64 (i : Int)] 214 (0, 0)) /\ Ext w w') (w : World) :
  Calls Tryz.prog 24 #[.string str] w fun e w' => e = .returned (.tuple #[.agg #[.int .i64 3, .int .i64 (s : Int), .int .i64 (i : Int), .int .i64 0, .int .i64 0, .int .i64 0, .int .i64 0, .int .i64 0, .int .i64 0, .int .i64 0], .int .i64 0]) /\ Ext w w' := by
 have HC : Hid (∀ w, Calls _ _ _ w _) := hr
 clear hr
 have hm1 := m_releasePlain
 go_enter Tryz.func24, Tryz.ntmps24
 go_wp2_with (first
  | (go_at_call 58; refine (HC.out _).mono ?_; rintro e w1 ⟨b, rfl, hb, hx⟩; have HB : Hid _ := hb; clear hb)
  | (go_at_call 219; refine (releasePlain_c b s i _ HB.out).mono ?_; rintro e w2 ⟨rfl, hx2⟩; obtain ⟨la, ca0, ca1, ca2, ca3, ca4, ca5, ca6, ca7, ca8, ca9, fa0, fa1, fa2, fa3, fa4, fa5, fa6, fa7, fa8, fa9⟩ := req_all (W := w2) (g := w.heap.size) (t := 51) (v0 := .int .i64 0) (v1 := .int .i64 0) (v2 := .int .i64 0) (v3 := .int .i64 0) (v4 := .int .i64 0) (v5 := .int .i64 0) (v6 := .int .i64 0) (v7 := .int .i64 0) (v8 := .int .i64 0) (v9 := .int .i64 0) (by repeat (first | (with_reducible refine at_drew ?_) | ((with_reducible refine at_new ?_); (simp; done)) | (with_reducible refine at_old ?_) | (with_reducible (apply Ext.block; assumption))))))
 refine bodyPost_ret (v := .tuple #[.agg #[.int .i64 3, .int .i64 (s : Int), .int .i64 (i : Int), .int .i64 0, .int .i64 0, .int .i64 0, .int .i64 0, .int .i64 0, .int .i64 0, .int .i64 0], .int .i64 0]) (by simp [results, Tryz.results24, go_sem, *]) rfl ⟨rfl, ?_⟩
 repeat (first | (with_reducible exact Ext.refl _) | (with_reducible assumption) | (with_reducible refine Ext.drew ?_) | (with_reducible refine Ext.alloc ?_ _) | (with_reducible refine Ext.setCell ?_ (by simp) _) | (with_reducible (apply Ext.chain; assumption)))
theorem dealerRead_4 (str : ByteArray) (ck cm cl cn : Nat)
  (hr : ∀ w, Calls Tryz.prog 58 #[.string str] w fun e w' => ∃ b, e = .returned (.tuple #[.iface 207 (.pointer (some ⟨b, 0, none⟩)), .int .i64 0]) /\ w'.heap[b]? = some (.cells #[.int .i64 (ck : Int), .int .i64 (cm : Int), .int .i64 (cl : Int), .int .i64 (cn : Int)] 216 (0, 0)) /\ Ext w w') (w : World) :
  Calls Tryz.prog 24 #[.string str] w fun e w' => e = .returned (.tuple #[.agg #[.int .i64 4, .int .i64 0, .int .i64 0, .int .i64 (ck : Int), .int .i64 (cm : Int), .int .i64 (cl : Int), .int .i64 (cn : Int), .int .i64 0, .int .i64 0, .int .i64 0], .int .i64 0]) /\ Ext w w' := by
 have HC : Hid (∀ w, Calls _ _ _ w _) := hr
 clear hr
 have hm1 := m_statusPlain
 go_enter Tryz.func24, Tryz.ntmps24
 go_wp2_with (first
  | (go_at_call 58; refine (HC.out _).mono ?_; rintro e w1 ⟨b, rfl, hb, hx⟩; have HB : Hid _ := hb; clear hb)
  | (go_at_call 221; refine (statusPlain_c b ck cm cl cn _ HB.out).mono ?_; rintro e w2 ⟨rfl, hx2⟩; obtain ⟨la, ca0, ca1, ca2, ca3, ca4, ca5, ca6, ca7, ca8, ca9, fa0, fa1, fa2, fa3, fa4, fa5, fa6, fa7, fa8, fa9⟩ := req_all (W := w2) (g := w.heap.size) (t := 51) (v0 := .int .i64 0) (v1 := .int .i64 0) (v2 := .int .i64 0) (v3 := .int .i64 0) (v4 := .int .i64 0) (v5 := .int .i64 0) (v6 := .int .i64 0) (v7 := .int .i64 0) (v8 := .int .i64 0) (v9 := .int .i64 0) (by repeat (first | (with_reducible refine at_drew ?_) | ((with_reducible refine at_new ?_); (simp; done)) | (with_reducible refine at_old ?_) | (with_reducible (apply Ext.block; assumption))))))
 refine bodyPost_ret (v := .tuple #[.agg #[.int .i64 4, .int .i64 0, .int .i64 0, .int .i64 (ck : Int), .int .i64 (cm : Int), .int .i64 (cl : Int), .int .i64 (cn : Int), .int .i64 0, .int .i64 0, .int .i64 0], .int .i64 0]) (by simp [results, Tryz.results24, go_sem, *]) rfl ⟨rfl, ?_⟩
 repeat (first | (with_reducible exact Ext.refl _) | (with_reducible assumption) | (with_reducible refine Ext.drew ?_) | (with_reducible refine Ext.alloc ?_ _) | (with_reducible refine Ext.setCell ?_ (by simp) _) | (with_reducible (apply Ext.chain; assumption)))
theorem dealerPrint_c (code frm cnt : Int) (a : Option Addr) (len cap : Nat) (zs : List Nat) (w : World) (h : WordsIn w a len zs) :
  Calls Tryz.prog 26 #[.agg #[.int .i64 code, .int .i64 frm, .int .i64 cnt, .slice a len cap]] w fun e w' => e = .returned (.string ⟨(replyB code frm cnt zs).toArray⟩) /\ Ext w w' := by
 have HH : Hid (WordsIn w a len zs) := h
 clear h
 generalize hS : (⟨(replyB code frm cnt zs).toArray⟩ : ByteArray) = S
 have HS : Hid _ := hS
 clear hS
 go_enter Tryz.func26, Tryz.ntmps26
 go_wp2_with fail
 refine (wirePrint_c code frm cnt a len cap zs _ (HH.out.ext ((Ext.refl w).alloc _))).mono ?_
 rw [HS.out]
 rintro e w1 ⟨rfl, hx⟩
 go_wp2
 go_ret
 exact ⟨rfl, ((Ext.refl w).alloc _).trans hx⟩
end
-- VTo
section
open Go.RowKit Go.Maps
section
variable {S : List Stk} {ls : List LsV}
theorem same_lease (hI : InvQ S ls) {l l' : LsV} (hl : l ∈ ls) (hl' : l' ∈ ls) (hc : l'.kd = l.kd /\ l'.m = l.m /\ l'.k = l.k /\ l'.n = l.n) {num : Int} (h1 : l.f <= num /\ num < l.f + l.c) (h2 : l'.f <= num /\ num < l'.f + l'.c) : l' = l := by
 obtain ⟨a, ha, rfl⟩ := List.getElem_of_mem hl
 obtain ⟨b, hb, rfl⟩ := List.getElem_of_mem hl'
 rcases Nat.lt_trichotomy a b with h | h | h
 ·have := hI.toInvK.apart a b ha hb h ⟨hc.1.symm, hc.2.1.symm, hc.2.2.1.symm, hc.2.2.2.symm⟩
  omega
 ·subst h; rfl
 ·have := hI.toInvK.apart b a hb ha h hc
  omega
end
end
-- VTc
section
open Go.RowKit Go.Maps
def Asked (w w' : World) (B : Nat) (F : Nat -> Prop) (d : DS) : Prop := ∃ F', DealX w' B F' d /\ Turn F w w' /\ ∀ b, F' b -> F b \/ w.heap.size <= b
end
-- VAp
section
open Go.RowKit Go.Maps
end
-- VAq
section
open Go.RowKit Go.Maps
theorem sumK_snoc {kd m k n : Int} {ls : List LsV} (i : Nat) (hi : i < ls.length) : sumK kd m k n (ls.take (i + 1)) = sumK kd m k n (ls.take i) + if sameC ls[i] kd m k n then ls[i].c else 0 := by
 rw [List.take_succ_eq_append_getElem hi, sumK_append]
 simp [sumK]
end
-- VOa
section
open Go.RowKit Go.Maps
theorem be_cons' (c : UInt8) (l : List UInt8) : be (c :: l) = c.toNat * 256 ^ l.length + be l := by
 have key : ∀ (l : List UInt8) (a : Nat), l.foldl (fun n c => n * 256 + c.toNat) a = a * 256 ^ l.length + l.foldl (fun n c => n * 256 + c.toNat) 0 := by
  intro l
  induction l with
  | nil => intro a; simp
  | cons c t ih =>
   intro a
   simp only [List.foldl_cons, List.length_cons]
   rw [ih (a * 256 + c.toNat), ih (0 * 256 + c.toNat), Nat.pow_succ, Nat.add_mul, Nat.zero_mul, Nat.zero_add]
   have : a * 256 * 256 ^ t.length = a * (256 ^ t.length * 256) := by rw [Nat.mul_assoc, Nat.mul_comm 256]
   omega
 have := key l c.toNat
 simpa [be] using this
theorem be_bytesOf (n k : Nat) : be (bytesOf n k) = n % 256 ^ k := by
 induction k with
 | zero => simp [bytesOf, be, Nat.mod_one]
 | succ k ih =>
  rw [bytesOf, be_cons', len_bytesOf, ih]
  have e : 2 ^ (8 * k) = 256 ^ k := by rw [Nat.pow_mul]
  have e2 : (UInt8.ofNat (n / 2 ^ (8 * k))).toNat = n / 256 ^ k % 256 := by rw [e]; simp
  rw [e2, Nat.pow_succ, Nat.mod_mul, Nat.mul_comm]
  omega
theorem be_bytes {n k : Nat} (h : n < 256 ^ k) : be (bytesOf n k) = n := by rw [be_bytesOf, Nat.mod_eq_of_lt h]
theorem be_word {z : Int} (h0 : 0 <= z) (h1 : z <= 18446744073709551615) : (be (bytesI z 8) : Int) = z := by
 unfold bytesI
 rw [be_bytes (by have : z % 18446744073709551616 = z := Int.emod_eq_of_lt h0 (by omega); rw [this]; show z.toNat < 18446744073709551616; omega)]
 omega
theorem wordsB_drop (zs : List Int) (i : Nat) (h : i < zs.length) : (wordsB zs).drop (8 * i) = bytesI zs[i] 8 ++ wordsB (zs.drop (i + 1)) := by
 induction zs generalizing i with
 | nil => simp at h
 | cons z t ih =>
  cases i with
  | zero => simp [wordsB]
  | succ i =>
   have e : wordsB (z :: t) = bytesI z 8 ++ wordsB t := by simp [wordsB]
   rw [e, List.drop_append, len_bytesI, List.drop_eq_nil_of_le (by rw [len_bytesI]; omega), List.nil_append, show 8 * (i + 1) - 8 = 8 * i by omega, ih i (by simpa using h)]
   simp
theorem rawW_words (c : UInt8) (zs : List Int) (rest : List UInt8) (hz : inU64 zs) : rawW (c :: (wordsB zs ++ rest)) zs.length = zs := by
 refine List.ext_getElem (by simp [rawW]) (fun i h1 h2 => ?_)
 simp only [rawW, List.getElem_map, List.getElem_range]
 rw [show 1 + 8 * i = 8 * i + 1 by omega, List.drop_succ_cons, List.drop_append_of_le_length (by rw [len_wordsB]; omega), wordsB_drop zs i h2, List.append_assoc, List.take_append_of_le_length (by rw [len_bytesI]; omega), List.take_of_length_le (by rw [len_bytesI]; omega)]
 have := hz _ (List.getElem_mem h2)
 exact be_word this.1 this.2
def normU (s : Sh) (u : List Int × Bool) : List Int × Bool := if u.2 = true then (sh0 s u.1 ++ sh1 s u.1, true) else ([], false)
theorem normU_2 (s : Sh) (u : List Int × Bool) : (normU s u).2 = u.2 := by unfold normU; cases h : u.2 <;> simp
theorem wordsB_append (a b : List Int) : wordsB (a ++ b) = wordsB a ++ wordsB b := by simp [wordsB]
theorem shareP_tri {s : Sh} {u : List Int × Bool} (h : OkT s u) (L : Nat) (hL : s.x + s.y + s.z = L) (rest : List UInt8) : shareP L (triB s u ++ rest) = some (normU s u, (triB s u).length) := by
 unfold triB normU
 cases hk : u.2 with
 | false => simp [shareP]
 | true =>
  obtain ⟨h1, h2, h3, h4⟩ := h hk
  rw [if_pos rfl, if_pos rfl]
  have hlen : (sh0 s u.1 ++ sh1 s u.1).length = 2 * L := by rw [List.length_append]; omega
  have e : [1] ++ (wordsB (sh0 s u.1) ++ wordsB (sh1 s u.1)) ++ rest = 1 :: (wordsB (sh0 s u.1 ++ sh1 s u.1) ++ rest) := by rw [wordsB_append]; simp
  have hr := rawW_words 1 (sh0 s u.1 ++ sh1 s u.1) rest (fun z hz => by rcases List.mem_append.1 hz with hz | hz; exact h3 z hz; exact h4 z hz)
  rw [hlen] at hr
  rw [e]
  unfold shareP
  rw [if_neg (by simp), if_neg (by simp [len_wordsB]; omega), hr]
  simp [len_wordsB]
  omega
theorem triB_ne (s : Sh) (u : List Int × Bool) : triB s u ≠ [] := by unfold triB; split <;> simp
theorem makingP_tris {s : Sh} {us : List (List Int × Bool)} (h : ∀ u ∈ us, OkT s u) (L : Nat) (hL : s.x + s.y + s.z = L) : makingP L (trisB s us) = some (us.map (normU s)) := by
 induction us with
 | nil => exact makingP_nil L
 | cons u t ih =>
  have e : trisB s (u :: t) = triB s u ++ trisB s t := by simp [trisB]
  rw [e, makingP_some (by simp [triB_ne]) (shareP_tri (h u (by simp)) L hL _)]
  rw [List.drop_left', ih (fun v hv => h v (by simp [hv]))]
  ·rfl
  ·rfl
theorem changeP_make {kd m k n : Nat} {us : List (List Int × Bool)} (hc : isCls kd m k n = true) (h1 : us ≠ []) (hok : ∀ u ∈ us, OkT (shOf kd m k n) u) : changeP (makeB kd m k n (shOf kd m k n) us) = some (.making kd m k n (us.map (normU (shOf kd m k n)))) := by
 have hb : kd < 256 /\ m < 256 /\ k < 256 /\ n < 256 := by
  unfold isCls at hc
  split at hc
  ·simp at hc; omega
  ·split at hc
   ·simp at hc; omega
   ·split at hc
    ·simp at hc; omega
    ·simp at hc
 obtain ⟨b1, b2, b3, b4⟩ := hb
 have ht : trisB (shOf kd m k n) us ≠ [] := by
  cases us with
  | nil => exact absurd rfl h1
  | cons u t => simp [trisB, triB_ne]
 have e1 : (UInt8.ofNat kd).toNat = kd := by simp; omega
 have e2 : (UInt8.ofNat m).toNat = m := by simp; omega
 have e3 : (UInt8.ofNat k).toNat = k := by simp; omega
 have e4 : (UInt8.ofNat n).toNat = n := by simp; omega
 have hp : 0 < (trisB (shOf kd m k n) us).length := List.length_pos_iff.2 ht
 unfold makeB headB changeP
 rw [if_neg (by simp), if_pos (by simp), if_neg (by simp; omega)]
 simp only [List.cons_append, List.nil_append, List.getD_cons_succ, List.getD_cons_zero, List.drop_succ_cons, List.drop_zero, e1, e2, e3, e4]
 rw [if_pos hc, makingP_tris hok _ rfl]
 rfl
theorem step1_enc (x : Nat × Int × Int) (v : Nat) (rest : List UInt8) (h1 : v < 256 ^ x.2.1.toNat) (h2 : (v : Int) <= x.2.2) : step1 x (bytesOf v x.2.1.toNat ++ rest) = some (v, rest) := by
 unfold step1
 rw [List.take_left' (len_bytesOf _ _), List.drop_left' (len_bytesOf _ _), be_bytes h1, if_neg (by rw [List.length_append, len_bytesOf]; omega), if_neg (by omega)]
theorem decTo_enc (vals : Nat -> Nat) : ∀ (L : List (Nat × Int × Int)), (∀ x ∈ L, vals x.1 < 256 ^ x.2.1.toNat /\ (vals x.1 : Int) <= x.2.2) -> decTo L (flatB vals L) = some (L.map (fun x => vals x.1), []) := by
 intro L
 induction L with
 | nil => intro _; rfl
 | cons x t ih =>
  intro h
  have e : flatB vals (x :: t) = bytesOf (vals x.1) x.2.1.toNat ++ flatB vals t := by simp [flatB]
  have hx := h x (by simp)
  rw [e, decTo, step1_enc x _ _ hx.1 hx.2]
  simp only [Option.bind_some]
  rw [ih (fun y hy => h y (by simp [hy]))]
  rfl
theorem changeP_lease {s i kd m k n c : Nat} (h1 : s <= 2147483647) (h2 : i <= 2147483647) (h3 : kd <= 255) (h4 : m <= 255) (h5 : k <= 255) (h6 : n <= 255) (h7 : c <= 2147483647) : changeP (leaseRec s i kd m k n c).data.toList = some (.leasing s i kd m k n c) := by
 have hd := decTo_enc (leaseVals s i kd m k n c) leaseL (by
  intro x hx
  simp only [leaseL, List.mem_cons, List.not_mem_nil, or_false] at hx
  rcases hx with rfl | rfl | rfl | rfl | rfl | rfl | rfl <;> simp [leaseVals] <;> omega)
 unfold leaseRec
 simp only
 unfold changeP
 rw [if_neg (by simp), if_neg (by simp), if_pos (by simp)]
 simp only [List.cons_append, List.nil_append, List.drop_succ_cons, List.drop_zero, hd]
 rfl
theorem changeP_release {s i : Nat} (h1 : s <= 2147483647) (h2 : i <= 2147483647) : changeP (relRec s i).data.toList = some (.releasing s i) := by
 have hd := decTo_enc (releaseVals s i) releaseL (by
  intro x hx
  simp only [releaseL, List.mem_cons, List.not_mem_nil, or_false] at hx
  rcases hx with rfl | rfl <;> simp [releaseVals] <;> omega)
 unfold relRec
 simp only
 unfold changeP
 rw [if_neg (by simp), if_neg (by simp), if_neg (by simp), if_pos (by simp)]
 simp only [List.cons_append, List.nil_append, List.drop_succ_cons, List.drop_zero, hd]
 rfl
theorem unframe_frame (r rest : List UInt8) (h : r.length < 4294967296) : unframeP (frameB r ++ rest) = some r := by
 have hn : be (bytesOf r.length 4) = r.length := be_bytes (by show _ < 4294967296; exact h)
 have hf := fnvI_range r
 have hs : be (bytesOf (fnvI r).toNat 8) = (fnvI r).toNat := be_bytes (by show _ < 18446744073709551616; omega)
 have e1 : (frameB r ++ rest).take 4 = bytesOf r.length 4 := by
  unfold frameB
  rw [List.append_assoc, List.append_assoc, List.take_left' (len_bytesOf _ _)]
 have e2 : ((frameB r ++ rest).take 12).drop 4 = bytesOf (fnvI r).toNat 8 := by
  unfold frameB
  rw [List.append_assoc, List.take_left' (by simp [len_bytesOf]), List.drop_left' (len_bytesOf _ _)]
 have e3 : (frameB r ++ rest).drop 12 = r ++ rest := by
  unfold frameB
  rw [List.append_assoc, List.drop_left' (by simp [len_bytesOf])]
 unfold unframeP
 rw [e1, e2, e3, hn, hs, List.take_left' rfl, if_neg (by rw [List.length_append, len_frameB]; omega), if_neg (by rw [List.length_append, len_frameB]; omega), if_pos (by omega)]
theorem readP_flat (rs : List ByteArray) (h : ∀ r ∈ rs, r.size <= 100000) : strL (readP (flatF rs)) = rs := by
 induction rs with
 | nil =>
  have : readP (flatF []) = [] := readP_none (by simp [flatF, unframeP])
  rw [this]; rfl
 | cons r t ih =>
  have e : flatF (r :: t) = frameB r.data.toList ++ flatF t := by simp [flatF]
  have hr := h r (by simp)
  have hl : r.data.toList.length = r.size := by simp
  rw [e, readP_some (unframe_frame _ _ (by rw [hl]; omega)), List.drop_left' (by rw [len_frameB])]
  show (⟨r.data.toList.toArray⟩ : ByteArray) :: strL (readP (flatF t)) = r :: t
  rw [ih (fun x hx => h x (by simp [hx]))]
def Stk.norm (x : Stk) : Stk := { x with ts := x.ts.map (normU x.sh) }
def normS (S : List Stk) : List Stk := S.map Stk.norm
def Plays (rs : List ByteArray) (st st' : List Stk × List LsV) : Prop := ∀ rest, replayS (rs ++ rest) st = replayS rest st'
theorem Plays.nil (st : List Stk × List LsV) : Plays [] st st := fun _ => rfl
theorem Plays.trans {a b : List ByteArray} {x y z : List Stk × List LsV} (h : Plays a x y) (k : Plays b y z) : Plays (a ++ b) x z := fun rest => by rw [List.append_assoc, h, k]
theorem Plays.one {r : ByteArray} {x y : List Stk × List LsV} {c : Chg} (h : changeP r.data.toList = some c) (k : applyS x.1 x.2 c = some y) : Plays [r] x y := fun rest => by
 simp only [List.cons_append, List.nil_append, replayS, h, k]
theorem Plays.all {a : List ByteArray} {x y : List Stk × List LsV} (h : Plays a x y) : replayS a x = y := by
 have := h []
 rw [List.append_nil] at this
 rw [this]
 rfl
theorem is_iff {x : Stk} {kd m k n : Int} : x.is kd m k n = true ↔ (x.kd : Int) = kd /\ (x.m : Int) = m /\ (x.k : Int) = k /\ (x.n : Int) = n := by simp [Stk.is]
def Stk.lent (x : Stk) (c : Nat) : Stk := { x with leased := c }
def lentS (S : List Stk) (ls : List LsV) : List Stk := S.map fun x => x.norm.lent (sumK x.kd x.m x.k x.n ls).toNat
theorem plays_stocks {S : List Stk} {ls : List LsV} (hI : InvK S ls) : ∀ j, j <= S.length -> Plays ((S.take j).map stkRec) ([], []) (lentS (S.take j) [], []) := by
 intro j
 induction j with
 | zero => intro _; exact Plays.nil _
 | succ j ih =>
  intro hj
  have hjl : j < S.length := by omega
  rw [List.take_succ_eq_append_getElem hjl, List.map_append]
  refine (ih (by omega)).trans (Plays.one (c := .making S[j].kd S[j].m S[j].k S[j].n (S[j].ts.map (normU S[j].sh))) ?_ ?_)
  ·have hc := hI.cls _ (List.getElem_mem hjl)
   have hm := hI.made _ (List.getElem_mem hjl)
   have hok := hI.ok _ (List.getElem_mem hjl)
   exact changeP_make hc (fun h => by rw [h] at hm; simp at hm) hok
  ·have hm := hI.made _ (List.getElem_mem hjl)
   have hno : ∀ x ∈ lentS (S.take j) [], x.is S[j].kd S[j].m S[j].k S[j].n = false := by
    intro x hx
    obtain ⟨y, hy, rfl⟩ := List.mem_map.1 hx
    obtain ⟨i, hi, rfl⟩ := List.getElem_of_mem hy
    rw [List.length_take] at hi
    cases hq : ((S.take j)[i].norm.lent _).is S[j].kd S[j].m S[j].k S[j].n with
    | false => rfl
    | true =>
     have := hI.uniq i j (by omega) hjl (by rw [List.getElem_take] at hq; exact hq)
     omega
   have hidx := findIdx_no hno
   have hst := hI.stocks
   have hlen : (lentS (S.take j) []).length = j := by simp [lentS]; omega
   simp only [applyS]
   have hcode : makeCode (lentS (S.take j) []) S[j].kd S[j].m S[j].k S[j].n (S[j].ts.map (normU S[j].sh)).length = 0 := by
    unfold makeCode
    rw [find_none_idx hidx]
    simp only [List.length_map]
    rw [if_neg (by omega)]
   rw [if_pos hcode]
   unfold makeS
   rw [hidx]
   simp only [lentS, List.map_append, List.map_cons, List.map_nil]
   rfl
def LsV.held (l : LsV) : LsV := { l with r := false }
theorem sumK_nonneg' {kd m k n : Int} {ls : List LsV} (h : ∀ l ∈ ls, 0 <= l.c) : 0 <= sumK kd m k n ls := by
 induction ls with
 | nil => simp [sumK]
 | cons l t ih =>
  have h1 := h l (by simp)
  have h2 := ih (fun x hx => h x (by simp [hx]))
  simp only [sumK]
  split <;> omega
theorem lentS_at {S : List Stk} {ls : List LsV} (i : Nat) (hi : i < S.length) : (lentS S ls)[i]'(by simp [lentS]; exact hi) = S[i].norm.lent (sumK S[i].kd S[i].m S[i].k S[i].n ls).toNat := by simp [lentS]
theorem plays_leases {S : List Stk} {ls : List LsV} (hI : InvK S ls) : ∀ j, j <= ls.length -> Plays ((ls.take j).map lsRec) (lentS S [], []) (lentS S (ls.take j), (ls.take j).map LsV.held) := by
 intro j
 induction j with
 | zero => intro _; exact Plays.nil _
 | succ j ih =>
  intro hj
  have hjl : j < ls.length := by omega
  have hlok := hI.lok _ (List.getElem_mem hjl)
  have hcnt := hI.cnt _ (List.getElem_mem hjl)
  have hnn := hI.nonneg
  obtain ⟨x, hx⟩ := hI.has _ (List.getElem_mem hjl)
  obtain ⟨ix, hix, hxe⟩ := List.getElem_of_mem (List.mem_of_find?_eq_some hx)
  have hxi : x.is ls[j].kd ls[j].m ls[j].k ls[j].n = true := by simpa using List.find?_some hx
  obtain ⟨e1, e2, e3, e4⟩ := is_iff.1 hxi
  obtain ⟨p1, p2, p3, p4, p5, p6, p7⟩ := hlok
  have hsame : sameC ls[j] x.kd x.m x.k x.n = true := sameC_iff.2 ⟨e1.symm, e2.symm, e3.symm, e4.symm⟩
  have hsum := sumK_take hnn j hjl hsame
  have hsx := hI.sum ix hix
  rw [hxe] at hsx
  have hmx := hI.made x (List.mem_of_find?_eq_some hx)
  have hs0 : 0 <= sumK x.kd x.m x.k x.n (ls.take j) := sumK_nonneg' (fun l hl => hnn l (List.mem_of_mem_take hl))
  have hseq := hI.seq j hjl
  rw [<- e1, <- e2, <- e3, <- e4] at hseq
  rw [List.take_succ_eq_append_getElem hjl, List.map_append, <- List.take_succ_eq_append_getElem hjl]
  refine (ih (by omega)).trans (Plays.one (c := .leasing ls[j].s.toNat ls[j].i.toNat ls[j].kd.toNat ls[j].m.toNat ls[j].k.toNat ls[j].n.toNat ls[j].c.toNat) ?_ ?_)
  ·exact changeP_lease (by omega) (by omega) (by omega) (by omega) (by omega) (by omega) (by omega)
  ·have c1 : ((ls[j].s.toNat : Nat) : Int) = ls[j].s := by omega
   have c2 : ((ls[j].i.toNat : Nat) : Int) = ls[j].i := by omega
   have c3 : ((ls[j].kd.toNat : Nat) : Int) = ls[j].kd := by omega
   have c4 : ((ls[j].m.toNat : Nat) : Int) = ls[j].m := by omega
   have c5 : ((ls[j].k.toNat : Nat) : Int) = ls[j].k := by omega
   have c6 : ((ls[j].n.toNat : Nat) : Int) = ls[j].n := by omega
   have c7 : ((ls[j].c.toNat : Nat) : Int) = ls[j].c := by omega
   simp only [applyS, c1, c2, c3, c4, c5, c6, c7]
   have hnon : ((ls.take j).map LsV.held).findIdx? (isNamed ls[j].s ls[j].i) = none := findIdx_no (by
    intro l hl
    obtain ⟨y, hy, rfl⟩ := List.mem_map.1 hl
    obtain ⟨i, hi, rfl⟩ := List.getElem_of_mem hy
    rw [List.length_take] at hi
    cases hq : isNamed ls[j].s ls[j].i ((ls.take j)[i].held) with
    | false => rfl
    | true =>
     rw [List.getElem_take] at hq
     have hq' : ls[i].s = ls[j].s /\ ls[i].i = ls[j].i := by simpa [isNamed, LsV.held] using hq
     have := hI.names i j (by omega) hjl hq'.1 hq'.2
     omega)
   have hixl : ix < (lentS S (ls.take j)).length := by simp [lentS]; exact hix
   have hat : (lentS S (ls.take j))[ix] = x.norm.lent (sumK x.kd x.m x.k x.n (ls.take j)).toNat := by rw [lentS_at ix hix, hxe]
   have hidx : (lentS S (ls.take j)).findIdx? (fun x => x.is ls[j].kd ls[j].m ls[j].k ls[j].n) = some ix := by
    refine findIdx_at hixl (fun y hy => ?_) ?_
    ·obtain ⟨i, hi, rfl⟩ := List.getElem_of_mem hy
     rw [List.length_take] at hi
     rw [List.getElem_take, lentS_at i (by omega)]
     cases hq : (S[i].norm.lent (sumK S[i].kd S[i].m S[i].k S[i].n (ls.take j)).toNat).is ls[j].kd ls[j].m ls[j].k ls[j].n with
     | false => rfl
     | true =>
      rw [<- e1, <- e2, <- e3, <- e4] at hq
      have := hI.uniq i ix (by omega) hix (by rw [hxe]; exact hq)
      omega
    ·rw [hat]; exact hxi
   obtain ⟨_, hfind⟩ := find_idx hidx
   rw [hat] at hfind
   have hcode : leaseCodeS (lentS S (ls.take j)) ((ls.take j).map LsV.held) ls[j].kd ls[j].m ls[j].k ls[j].n ls[j].c = 0 := by
    unfold leaseCodeS
    rw [hfind]
    have hl30 := hI.leases
    have ht : ((x.norm.lent (sumK x.kd x.m x.k x.n (ls.take j)).toNat).ts.length : Int) = x.ts.length := by simp [Stk.norm, Stk.lent]
    have hl : (((x.norm.lent (sumK x.kd x.m x.k x.n (ls.take j)).toNat).leased : Nat) : Int) = sumK x.kd x.m x.k x.n (ls.take j) := by simp [Stk.lent]; omega
    simp only [ht, hl, List.length_map, List.length_take]
    rw [if_neg (by omega), if_neg (by omega), if_neg (by omega)]
   have hat2 : leasedAt (lentS S (ls.take j)) ls[j].kd ls[j].m ls[j].k ls[j].n = ls[j].f := by
    unfold leasedAt
    rw [hfind, hseq]
    simp [Stk.lent]; omega
   rw [hnon, hcode, hat2]
   simp only [Option.isSome_none, Bool.false_eq_true, if_false, if_true]
   have hlend : lendS (lentS S (ls.take j)) ls[j].kd ls[j].m ls[j].k ls[j].n ls[j].c.toNat = lentS S (ls.take (j + 1)) := by
    unfold lendS
    rw [hidx]
    refine List.ext_getElem (by simp [lentS]) (fun i h1 h2 => ?_)
    have hi : i < S.length := by simpa [lentS] using h2
    rw [List.getElem_modify, lentS_at i hi, lentS_at i hi, sumK_snoc j hjl]
    by_cases hq : ix = i
    ·subst hq
     rw [if_pos rfl, hxe, if_pos hsame]
     simp only [Stk.lend, Stk.lent]
     congr 1
     omega
    ·rw [if_neg hq]
     have : sameC ls[j] S[i].kd S[i].m S[i].k S[i].n = false := by
      cases hs : sameC ls[j] S[i].kd S[i].m S[i].k S[i].n with
      | false => rfl
      | true =>
       obtain ⟨q1, q2, q3, q4⟩ := sameC_iff.1 hs
       exact absurd (hI.uniq ix i hix hi (by rw [hxe]; exact is_iff.2 ⟨by omega, by omega, by omega, by omega⟩)) hq
     rw [this]
     simp
   rw [hlend, List.take_succ_eq_append_getElem hjl, List.map_append]
   simp [LsV.held, hseq]
def freedL (ls : List LsV) (j : Nat) : List LsV := ls.take j ++ (ls.drop j).map LsV.held
theorem freedL_at {ls : List LsV} {j i : Nat} (hi : i < ls.length) : (freedL ls j)[i]'(by simp [freedL]; omega) = if i < j then ls[i] else ls[i].held := by
 unfold freedL
 by_cases h : i < j
 ·rw [if_pos h, List.getElem_append_left (by simp; omega), List.getElem_take]
 ·rw [if_neg h, List.getElem_append_right (by simp; omega)]
  simp only [List.length_take, List.getElem_map, List.getElem_drop]
  congr 2
  omega
theorem len_freedL (ls : List LsV) (j : Nat) : (freedL ls j).length = ls.length := by simp [freedL]; omega
theorem plays_frees {S : List Stk} {ls : List LsV} (S' : List Stk) (hI : InvK S ls) : ∀ j, j <= ls.length -> Plays (((ls.take j).filter (·.r)).map frRec) (S', freedL ls 0) (S', freedL ls j) := by
 intro j
 induction j with
 | zero => intro _; exact Plays.nil _
 | succ j ih =>
  intro hj
  have hjl : j < ls.length := by omega
  rw [List.take_succ_eq_append_getElem hjl, List.filter_append, List.map_append]
  refine (ih (by omega)).trans ?_
  cases hr : ls[j].r with
  | false =>
   have e : freedL ls (j + 1) = freedL ls j := by
    refine List.ext_getElem (by simp [len_freedL]) (fun i h1 h2 => ?_)
    rw [len_freedL] at h1
    rw [freedL_at h1, freedL_at h1]
    by_cases h : i < j
    ·rw [if_pos h, if_pos (by omega)]
    ·rw [if_neg h]
     by_cases h' : i = j
     ·subst h'
      rw [if_pos (by omega)]
      unfold LsV.held
      rw [<- hr]
     ·rw [if_neg (by omega)]
   rw [e]
   simp [hr]
   exact Plays.nil _
  | true =>
   have hlok := hI.lok _ (List.getElem_mem hjl)
   obtain ⟨p1, p2, _⟩ := hlok
   simp only [List.filter_cons, hr, if_true, List.filter_nil, List.map_cons, List.map_nil]
   refine Plays.one (c := .releasing ls[j].s.toNat ls[j].i.toNat) (changeP_release (by omega) (by omega)) ?_
   have c1 : ((ls[j].s.toNat : Nat) : Int) = ls[j].s := by omega
   have c2 : ((ls[j].i.toNat : Nat) : Int) = ls[j].i := by omega
   simp only [applyS, c1, c2]
   have hjf : j < (freedL ls j).length := by rw [len_freedL]; exact hjl
   have hat : (freedL ls j)[j] = ls[j].held := by rw [freedL_at hjl, if_neg (by omega)]
   have hidx : (freedL ls j).findIdx? (isNamed ls[j].s ls[j].i) = some j := by
    refine findIdx_at hjf (fun y hy => ?_) ?_
    ·obtain ⟨i, hi, rfl⟩ := List.getElem_of_mem hy
     rw [List.length_take, len_freedL] at hi
     rw [List.getElem_take, freedL_at (by omega), if_pos (by omega)]
     cases hq : isNamed ls[j].s ls[j].i ls[i] with
     | false => rfl
     | true =>
      have hq' : ls[i].s = ls[j].s /\ ls[i].i = ls[j].i := by simpa [isNamed] using hq
      have := hI.names i j (by omega) hjl hq'.1 hq'.2
      omega
    ·rw [hat]; simp [isNamed, LsV.held]
   obtain ⟨_, hfind⟩ := find_idx hidx
   rw [hat] at hfind
   have hcode : releaseCode (freedL ls j) ls[j].s ls[j].i = 0 := by
    unfold releaseCode
    rw [hfind]
    simp [LsV.held]
   rw [if_pos hcode]
   unfold freeS
   rw [hidx]
   simp only
   congr 2
   refine List.ext_getElem (by simp [len_freedL]) (fun i h1 h2 => ?_)
   rw [len_freedL] at h2
   rw [List.getElem_modify, freedL_at h2, freedL_at h2]
   by_cases h : j = i
   ·subst h
    rw [if_pos rfl, if_neg (by omega), if_pos (by omega)]
    unfold LsV.held LsV.free
    simp only
    rw [<- hr]
   ·rw [if_neg h]
    by_cases h' : i < j
    ·rw [if_pos h', if_pos (by omega)]
    ·rw [if_neg h', if_neg (by omega)]
theorem plays_recs {S : List Stk} {ls : List LsV} (hI : InvK S ls) : Plays (recsP S ls) ([], []) (normS S, ls) := by
 have h1 := plays_stocks hI S.length (Nat.le_refl _)
 have h2 := plays_leases hI ls.length (Nat.le_refl _)
 have h3 := plays_frees (lentS S ls) hI ls.length (Nat.le_refl _)
 rw [List.take_length] at h1 h2 h3
 have e0 : freedL ls 0 = ls.map LsV.held := by simp [freedL]
 have e1 : freedL ls ls.length = ls := by simp [freedL]
 have e2 : lentS S ls = normS S := by
  refine List.ext_getElem (by simp [lentS, normS]) (fun i hi h2 => ?_)
  have hi : i < S.length := by simpa [normS] using h2
  rw [lentS_at i hi]
  simp only [normS, List.getElem_map]
  have := hI.sum i hi
  unfold Stk.lent Stk.norm
  simp only
  congr 1
  omega
 rw [e0, e1] at h3
 rw [<- e2]
 exact (h1.trans h2).trans h3
end
-- VWb
section
open Go.RowKit
theorem bytesOf_be (l : List UInt8) : bytesOf (be l) l.length = l := by
 induction l with
 | nil => rfl
 | cons c t ih =>
  have hlt := be_lt t
  have e := be_cons' c t
  have key : ∀ k n m : Nat, n % 256 ^ k = m % 256 ^ k -> bytesOf n k = bytesOf m k := by
   intro k
   induction k with
   | zero => intro n m _; rfl
   | succ k ihk =>
    intro n m h
    have e2 : 2 ^ (8 * k) = 256 ^ k := by rw [Nat.pow_mul]
    rw [Nat.pow_succ] at h
    have h1 : n % 256 ^ k = m % 256 ^ k := by
     have a := Nat.mod_mod_of_dvd n (Nat.dvd_mul_right (256 ^ k) 256)
     have b := Nat.mod_mod_of_dvd m (Nat.dvd_mul_right (256 ^ k) 256)
     rw [<- a, <- b, h]
    have h2 : n / 256 ^ k % 256 = m / 256 ^ k % 256 := by
     have a : n % (256 ^ k * 256) / 256 ^ k = n / 256 ^ k % 256 := by rw [Nat.mod_mul_right_div_self]
     have b : m % (256 ^ k * 256) / 256 ^ k = m / 256 ^ k % 256 := by rw [Nat.mod_mul_right_div_self]
     rw [<- a, <- b, h]
    rw [bytesOf, bytesOf, ihk n m h1, e2]
    congr 1
    apply UInt8.toNat_inj.1
    simpa using h2
  rw [List.length_cons, bytesOf]
  have e2 : 2 ^ (8 * t.length) = 256 ^ t.length := by rw [Nat.pow_mul]
  have hp : 0 < 256 ^ t.length := Nat.pow_pos (by decide)
  have hd : be (c :: t) / 2 ^ (8 * t.length) = c.toNat := by
   rw [e2, e, Nat.mul_comm, Nat.mul_add_div hp, Nat.div_eq_of_lt hlt, Nat.add_zero]
  rw [hd]
  have h3 : bytesOf (be (c :: t)) t.length = bytesOf (be t) t.length := key _ _ _ (by rw [e, Nat.mul_add_mod_self_right])
  rw [h3, ih]
  simp
theorem dec_flat : ∀ (L : List (Nat × Int × Int)) (r : List UInt8) (vs : List Nat) (q : List UInt8), decTo L r = some (vs, q) -> (List.zipWith (fun v (x : Nat × Int × Int) => bytesOf v x.2.1.toNat) vs L).flatten ++ q = r := by
 intro L
 induction L with
 | nil =>
  intro r vs q h
  simp only [decTo, Option.some.injEq, Prod.mk.injEq] at h
  rw [<- h.1, <- h.2]
  rfl
 | cons x t ih =>
  intro r vs q h
  simp only [decTo] at h
  cases hs : step1 x r with
  | none => rw [hs] at h; cases h
  | some p =>
   rw [hs] at h
   simp only [Option.bind_some] at h
   cases hd : decTo t p.2 with
   | none => rw [hd] at h; cases h
   | some y =>
    rw [hd] at h
    simp only [Option.map_some, Option.some.injEq, Prod.mk.injEq] at h
    obtain ⟨rfl, rfl⟩ := h
    have h1 := ih p.2 y.1 y.2 (by rw [hd])
    unfold step1 at hs
    split at hs
    ·cases hs
    ·rename_i hl
     split at hs
     ·cases hs
     ·injection hs with hs
      subst hs
      simp only at h1 ⊢
      rw [List.zipWith_cons_cons, List.flatten_cons, List.append_assoc, h1]
      have hb := bytesOf_be (r.take x.2.1.toNat)
      rw [List.length_take, Nat.min_eq_left (by omega)] at hb
      rw [hb, List.take_append_drop]
structure BadK (str : ByteArray) : Prop where
 own : ∀ w, Calls Tryz.prog 58 #[.string str] w fun e w' => e = .returned (.tuple #[.nilIface, .int .i64 1]) /\ Ext w w'
 rd : ∀ w, Calls Tryz.prog 24 #[.string str] w fun e w' => e = .returned (.tuple #[reqV 0 0 0 0 0 0 0 0 0 0, .int .i64 1]) /\ Ext w w'
structure OwnK (str : ByteArray) (kk s i kd m k n f c p : Int) : Prop where
 own : ∀ w, Calls Tryz.prog 58 #[.string str] w fun e w' => ∃ b, e = .returned (.tuple #[.iface (ownT kk) (.pointer (some ⟨b, 0, none⟩)), .int .i64 0]) /\ OwnQ kk s i kd m k n f c p w' b /\ Ext w w' /\ w.heap.size <= b
 rd : ∀ w, Calls Tryz.prog 24 #[.string str] w fun e w' => e = .returned (.tuple #[reqV kk s i kd m k n f c p, .int .i64 0]) /\ Ext w w'
 wr : ∀ w, Calls Tryz.prog 23 #[reqV kk s i kd m k n f c p] w fun e w' => e = .returned (.tuple #[.string str, .int .i64 0]) /\ Ext w w'
theorem bounded_getK : ∀ (l : List (Nat × Int × Int)) (r : List UInt8) (vs : List Nat) (q : List UInt8), decTo l r = some (vs, q) -> vs.length = l.length /\ ∀ k (h : k < vs.length) (h' : k < l.length), (vs[k] : Int) <= l[k].2.2 := by
 intro l
 induction l with
 | nil =>
  intro r vs q h
  simp only [decTo, Option.some.injEq, Prod.mk.injEq] at h
  rw [<- h.1]
  exact ⟨rfl, fun k h => by simp at h⟩
 | cons x t ih =>
  intro r vs q h
  simp only [decTo] at h
  cases hs : step1 x r with
  | none => rw [hs] at h; cases h
  | some p =>
   rw [hs] at h
   simp only [Option.bind_some] at h
   cases hd : decTo t p.2 with
   | none => rw [hd] at h; cases h
   | some y =>
    rw [hd] at h
    simp only [Option.map_some, Option.some.injEq, Prod.mk.injEq] at h
    obtain ⟨rfl, rfl⟩ := h
    obtain ⟨h1, h2⟩ := ih p.2 y.1 y.2 (by rw [hd])
    refine ⟨by simp [h1], fun k hk hk' => ?_⟩
    cases k with
    | zero =>
     unfold step1 at hs
     split at hs
     ·cases hs
     ·split at hs
      ·cases hs
      ·injection hs with hs
       subst hs
       simp
       omega
    | succ k =>
     simp only [lB]
     exact h2 k (by simpa using hk) (by simpa using hk')
theorem str_head (str : ByteArray) (h1 : 0 < str.size) (k : Nat) (hk2 : k < 256) (hk : (str[0]).toNat = k) {r : List UInt8} (hr : (str.extract 1 str.size).data.toList = r) : str = ⟨([UInt8.ofNat k] ++ r).toArray⟩ := by
 have hl : 0 < str.data.toList.length := by simpa using h1
 apply ByteArray.ext
 apply Array.toList_inj.1
 show str.data.toList = UInt8.ofNat k :: r
 have h0 : str.data.toList[0] = UInt8.ofNat k := by
  apply UInt8.toNat_inj.1
  have : str.data.toList[0] = str[0] := by simp; rfl
  rw [this, hk]
  simp
  omega
 have hd : (str.extract 1 str.size).data.toList = str.data.toList.drop 1 := ext_hi str 1
 rw [<- hr, hd, <- h0]
 have := List.drop_eq_getElem_cons hl
 simpa using this
theorem own_1 (str : ByteArray) (hs : str.size <= maxLen) (h1 : 0 < str.size) (hk : (str[0]).toNat = 1) (s i ck cm cl cn c : Nat) (hd : decTo leaseL (str.extract 1 str.size).data.toList = some ([s, i, ck, cm, cl, cn, c], [])) : OwnK str 1 (s : Int) (i : Int) (ck : Int) (cm : Int) (cl : Int) (cn : Int) 0 (c : Int) 0 := by
 obtain ⟨_, hb⟩ := bounded_getK _ _ _ _ hd
 have b0 : (s : Int) <= 2147483647 := hb 0 (by simp) (by decide)
 have b1 : (i : Int) <= 2147483647 := hb 1 (by simp) (by decide)
 have b2 : (ck : Int) <= 255 := hb 2 (by simp) (by decide)
 have b3 : (cm : Int) <= 255 := hb 3 (by simp) (by decide)
 have b4 : (cl : Int) <= 255 := hb 4 (by simp) (by decide)
 have b5 : (cn : Int) <= 255 := hb 5 (by simp) (by decide)
 have b6 : (c : Int) <= 2147483647 := hb 6 (by simp) (by decide)
 have hfl := dec_flat _ _ _ _ hd
 have hstr := str_head str h1 1 (by decide) hk hfl.symm
 have hown : ∀ w, Calls Tryz.prog 58 #[.string str] w fun e w' => ∃ b, e = .returned (.tuple #[.iface 201 (.pointer (some ⟨b, 0, none⟩)), .int .i64 0]) /\ w'.heap[b]? = some (.cells #[.int .i64 (s : Int), .int .i64 (i : Int), .int .i64 (ck : Int), .int .i64 (cm : Int), .int .i64 (cl : Int), .int .i64 (cn : Int), .int .i64 (c : Int)] 210 (0, 0)) /\ Ext w w' /\ w.heap.size <= b := fun w => (wireRead_1 str hs h1 hk w).mono fun e w' h => by
  rcases h with ⟨vs', b, h1, h2, h3, h4, h5⟩ | ⟨h, _⟩
  ·rw [hd] at h1
   simp at h1
   subst h1
   exact ⟨b, h2, h3, h4, h5⟩
  ·exact absurd hd (h _)
 refine ⟨fun w => (hown w).mono fun e w' ⟨b, h2, h3, h4, h5⟩ => ⟨b, h2, .inl ⟨rfl, ?_, h3⟩, h4, h5⟩, fun w => dealerRead_1 str s i ck cm cl cn c (fun w => (hown w).mono fun e w' ⟨b, h2, h3, h4, h5⟩ => ⟨b, h2, h3, h4⟩) w, fun w => ?_⟩
 ·simp [inB, isNum_iff, isByt_iff]
  omega
 ·have h := dealerWrite_1 s i ck cm cl cn c (by omega) (by omega) (by omega) (by omega) (by omega) (by omega) (by omega) w
  have e : str = _ := hstr
  simp only [leaseL, List.zipWith, List.flatten, List.append_nil] at e
  rw [e]
  unfold reqV
  simpa [bytesOf] using h
theorem readK_1 (str : ByteArray) (hs : str.size <= maxLen) (h1 : 0 < str.size) (hk : (str[0]).toNat = 1) : BadK str \/ ∃ kk s i kd m k n f c p, OwnK str kk s i kd m k n f c p := by
 by_cases H : ∃ vs, decTo leaseL (str.extract 1 str.size).data.toList = some (vs, [])
 ·obtain ⟨vs, hd⟩ := H
  have hl := (bounded_getK _ _ _ _ hd).1
  match vs, hl, hd with
  | [s, i, ck, cm, cl, cn, c], _, hd => exact .inr ⟨_, _, _, _, _, _, _, _, _, _, own_1 str hs h1 hk s i ck cm cl cn c hd⟩
 ·have hbad : ∀ w, Calls Tryz.prog 58 #[.string str] w fun e w' => e = .returned (.tuple #[.nilIface, .int .i64 1]) /\ Ext w w' := fun w => (wireRead_1 str hs h1 hk w).mono fun e w' h => by
   rcases h with ⟨vs', b, h1, _⟩ | ⟨_, h⟩
   ·exact absurd ⟨vs', h1⟩ H
   ·exact h
  exact .inl ⟨hbad, fun w => dealerRead_bad str hbad w⟩
theorem own_2 (str : ByteArray) (hs : str.size <= maxLen) (h1 : 0 < str.size) (hk : (str[0]).toNat = 2) (s ck cm cl cn f c p : Nat) (hd : decTo fetchL (str.extract 1 str.size).data.toList = some ([s, ck, cm, cl, cn, f, c, p], [])) : OwnK str 2 (s : Int) 0 (ck : Int) (cm : Int) (cl : Int) (cn : Int) (f : Int) (c : Int) (p : Int) := by
 obtain ⟨_, hb⟩ := bounded_getK _ _ _ _ hd
 have b0 : (s : Int) <= 2147483647 := hb 0 (by simp) (by decide)
 have b1 : (ck : Int) <= 255 := hb 1 (by simp) (by decide)
 have b2 : (cm : Int) <= 255 := hb 2 (by simp) (by decide)
 have b3 : (cl : Int) <= 255 := hb 3 (by simp) (by decide)
 have b4 : (cn : Int) <= 255 := hb 4 (by simp) (by decide)
 have b5 : (f : Int) <= 2147483647 := hb 5 (by simp) (by decide)
 have b6 : (c : Int) <= 2147483647 := hb 6 (by simp) (by decide)
 have b7 : (p : Int) <= 255 := hb 7 (by simp) (by decide)
 have hfl := dec_flat _ _ _ _ hd
 have hstr := str_head str h1 2 (by decide) hk hfl.symm
 have hown : ∀ w, Calls Tryz.prog 58 #[.string str] w fun e w' => ∃ b, e = .returned (.tuple #[.iface 203 (.pointer (some ⟨b, 0, none⟩)), .int .i64 0]) /\ w'.heap[b]? = some (.cells #[.int .i64 (s : Int), .int .i64 (ck : Int), .int .i64 (cm : Int), .int .i64 (cl : Int), .int .i64 (cn : Int), .int .i64 (f : Int), .int .i64 (c : Int), .int .i64 (p : Int)] 212 (0, 0)) /\ Ext w w' /\ w.heap.size <= b := fun w => (wireRead_2 str hs h1 hk w).mono fun e w' h => by
  rcases h with ⟨vs', b, h1, h2, h3, h4, h5⟩ | ⟨h, _⟩
  ·rw [hd] at h1
   simp at h1
   subst h1
   exact ⟨b, h2, h3, h4, h5⟩
  ·exact absurd hd (h _)
 refine ⟨fun w => (hown w).mono fun e w' ⟨b, h2, h3, h4, h5⟩ => ⟨b, h2, .inr (.inl ⟨rfl, ?_, h3⟩), h4, h5⟩, fun w => dealerRead_2 str s ck cm cl cn f c p (fun w => (hown w).mono fun e w' ⟨b, h2, h3, h4, h5⟩ => ⟨b, h2, h3, h4⟩) w, fun w => ?_⟩
 ·simp [inB, isNum_iff, isByt_iff]
  omega
 ·have h := dealerWrite_2 s ck cm cl cn f c p (by omega) (by omega) (by omega) (by omega) (by omega) (by omega) (by omega) (by omega) w
  have e : str = _ := hstr
  simp only [fetchL, List.zipWith, List.flatten, List.append_nil] at e
  rw [e]
  unfold reqV
  simpa [bytesOf] using h
theorem readK_2 (str : ByteArray) (hs : str.size <= maxLen) (h1 : 0 < str.size) (hk : (str[0]).toNat = 2) : BadK str \/ ∃ kk s i kd m k n f c p, OwnK str kk s i kd m k n f c p := by
 by_cases H : ∃ vs, decTo fetchL (str.extract 1 str.size).data.toList = some (vs, [])
 ·obtain ⟨vs, hd⟩ := H
  have hl := (bounded_getK _ _ _ _ hd).1
  match vs, hl, hd with
  | [s, ck, cm, cl, cn, f, c, p], _, hd => exact .inr ⟨_, _, _, _, _, _, _, _, _, _, own_2 str hs h1 hk s ck cm cl cn f c p hd⟩
 ·have hbad : ∀ w, Calls Tryz.prog 58 #[.string str] w fun e w' => e = .returned (.tuple #[.nilIface, .int .i64 1]) /\ Ext w w' := fun w => (wireRead_2 str hs h1 hk w).mono fun e w' h => by
   rcases h with ⟨vs', b, h1, _⟩ | ⟨_, h⟩
   ·exact absurd ⟨vs', h1⟩ H
   ·exact h
  exact .inl ⟨hbad, fun w => dealerRead_bad str hbad w⟩
theorem own_3 (str : ByteArray) (hs : str.size <= maxLen) (h1 : 0 < str.size) (hk : (str[0]).toNat = 3) (s i : Nat) (hd : decTo releaseL (str.extract 1 str.size).data.toList = some ([s, i], [])) : OwnK str 3 (s : Int) (i : Int) 0 0 0 0 0 0 0 := by
 obtain ⟨_, hb⟩ := bounded_getK _ _ _ _ hd
 have b0 : (s : Int) <= 2147483647 := hb 0 (by simp) (by decide)
 have b1 : (i : Int) <= 2147483647 := hb 1 (by simp) (by decide)
 have hfl := dec_flat _ _ _ _ hd
 have hstr := str_head str h1 3 (by decide) hk hfl.symm
 have hown : ∀ w, Calls Tryz.prog 58 #[.string str] w fun e w' => ∃ b, e = .returned (.tuple #[.iface 205 (.pointer (some ⟨b, 0, none⟩)), .int .i64 0]) /\ w'.heap[b]? = some (.cells #[.int .i64 (s : Int), .int .i64 (i : Int)] 214 (0, 0)) /\ Ext w w' /\ w.heap.size <= b := fun w => (wireRead_3 str hs h1 hk w).mono fun e w' h => by
  rcases h with ⟨vs', b, h1, h2, h3, h4, h5⟩ | ⟨h, _⟩
  ·rw [hd] at h1
   simp at h1
   subst h1
   exact ⟨b, h2, h3, h4, h5⟩
  ·exact absurd hd (h _)
 refine ⟨fun w => (hown w).mono fun e w' ⟨b, h2, h3, h4, h5⟩ => ⟨b, h2, .inr (.inr (.inl ⟨rfl, ?_, h3⟩)), h4, h5⟩, fun w => dealerRead_3 str s i (fun w => (hown w).mono fun e w' ⟨b, h2, h3, h4, h5⟩ => ⟨b, h2, h3, h4⟩) w, fun w => ?_⟩
 ·simp [inB, isNum_iff, isByt_iff]
  omega
 ·have h := dealerWrite_3 s i (by omega) (by omega) w
  have e : str = _ := hstr
  simp only [releaseL, List.zipWith, List.flatten, List.append_nil] at e
  rw [e]
  unfold reqV
  simpa [bytesOf] using h
theorem readK_3 (str : ByteArray) (hs : str.size <= maxLen) (h1 : 0 < str.size) (hk : (str[0]).toNat = 3) : BadK str \/ ∃ kk s i kd m k n f c p, OwnK str kk s i kd m k n f c p := by
 by_cases H : ∃ vs, decTo releaseL (str.extract 1 str.size).data.toList = some (vs, [])
 ·obtain ⟨vs, hd⟩ := H
  have hl := (bounded_getK _ _ _ _ hd).1
  match vs, hl, hd with
  | [s, i], _, hd => exact .inr ⟨_, _, _, _, _, _, _, _, _, _, own_3 str hs h1 hk s i hd⟩
 ·have hbad : ∀ w, Calls Tryz.prog 58 #[.string str] w fun e w' => e = .returned (.tuple #[.nilIface, .int .i64 1]) /\ Ext w w' := fun w => (wireRead_3 str hs h1 hk w).mono fun e w' h => by
   rcases h with ⟨vs', b, h1, _⟩ | ⟨_, h⟩
   ·exact absurd ⟨vs', h1⟩ H
   ·exact h
  exact .inl ⟨hbad, fun w => dealerRead_bad str hbad w⟩
theorem own_4 (str : ByteArray) (hs : str.size <= maxLen) (h1 : 0 < str.size) (hk : (str[0]).toNat = 4) (ck cm cl cn : Nat) (hd : decTo statusL (str.extract 1 str.size).data.toList = some ([ck, cm, cl, cn], [])) : OwnK str 4 0 0 (ck : Int) (cm : Int) (cl : Int) (cn : Int) 0 0 0 := by
 obtain ⟨_, hb⟩ := bounded_getK _ _ _ _ hd
 have b0 : (ck : Int) <= 255 := hb 0 (by simp) (by decide)
 have b1 : (cm : Int) <= 255 := hb 1 (by simp) (by decide)
 have b2 : (cl : Int) <= 255 := hb 2 (by simp) (by decide)
 have b3 : (cn : Int) <= 255 := hb 3 (by simp) (by decide)
 have hfl := dec_flat _ _ _ _ hd
 have hstr := str_head str h1 4 (by decide) hk hfl.symm
 have hown : ∀ w, Calls Tryz.prog 58 #[.string str] w fun e w' => ∃ b, e = .returned (.tuple #[.iface 207 (.pointer (some ⟨b, 0, none⟩)), .int .i64 0]) /\ w'.heap[b]? = some (.cells #[.int .i64 (ck : Int), .int .i64 (cm : Int), .int .i64 (cl : Int), .int .i64 (cn : Int)] 216 (0, 0)) /\ Ext w w' /\ w.heap.size <= b := fun w => (wireRead_4 str hs h1 hk w).mono fun e w' h => by
  rcases h with ⟨vs', b, h1, h2, h3, h4, h5⟩ | ⟨h, _⟩
  ·rw [hd] at h1
   simp at h1
   subst h1
   exact ⟨b, h2, h3, h4, h5⟩
  ·exact absurd hd (h _)
 refine ⟨fun w => (hown w).mono fun e w' ⟨b, h2, h3, h4, h5⟩ => ⟨b, h2, .inr (.inr (.inr ⟨rfl, ?_, h3⟩)), h4, h5⟩, fun w => dealerRead_4 str ck cm cl cn (fun w => (hown w).mono fun e w' ⟨b, h2, h3, h4, h5⟩ => ⟨b, h2, h3, h4⟩) w, fun w => ?_⟩
 ·simp [inB, isNum_iff, isByt_iff]
  omega
 ·have h := dealerWrite_4 ck cm cl cn (by omega) (by omega) (by omega) (by omega) w
  have e : str = _ := hstr
  simp only [statusL, List.zipWith, List.flatten, List.append_nil] at e
  rw [e]
  unfold reqV
  simpa [bytesOf] using h
theorem readK_4 (str : ByteArray) (hs : str.size <= maxLen) (h1 : 0 < str.size) (hk : (str[0]).toNat = 4) : BadK str \/ ∃ kk s i kd m k n f c p, OwnK str kk s i kd m k n f c p := by
 by_cases H : ∃ vs, decTo statusL (str.extract 1 str.size).data.toList = some (vs, [])
 ·obtain ⟨vs, hd⟩ := H
  have hl := (bounded_getK _ _ _ _ hd).1
  match vs, hl, hd with
  | [ck, cm, cl, cn], _, hd => exact .inr ⟨_, _, _, _, _, _, _, _, _, _, own_4 str hs h1 hk ck cm cl cn hd⟩
 ·have hbad : ∀ w, Calls Tryz.prog 58 #[.string str] w fun e w' => e = .returned (.tuple #[.nilIface, .int .i64 1]) /\ Ext w w' := fun w => (wireRead_4 str hs h1 hk w).mono fun e w' h => by
   rcases h with ⟨vs', b, h1, _⟩ | ⟨_, h⟩
   ·exact absurd ⟨vs', h1⟩ H
   ·exact h
  exact .inl ⟨hbad, fun w => dealerRead_bad str hbad w⟩
theorem readK (str : ByteArray) (hs : str.size <= maxLen) : BadK str \/ ∃ kk s i kd m k n f c p, OwnK str kk s i kd m k n f c p := by
 have bad : (∀ w, Calls Tryz.prog 58 #[.string str] w fun e w' => e = .returned (.tuple #[.nilIface, .int .i64 1]) /\ Ext w w') -> BadK str := fun h => ⟨h, fun w => dealerRead_bad str h w⟩
 by_cases h0 : str.size = 0
 ·have he : str.toList.isEmpty = true := by
   rw [ByteArray.toList_eq, List.isEmpty_iff, <- List.length_eq_zero_iff]; simpa using h0
  exact .inl (bad fun w => wireRead_empty str he w)
 have hp : 0 < str.size := by omega
 have hne : str.toList.isEmpty = false := by
  rw [ByteArray.toList_eq, List.isEmpty_eq_false_iff]; intro h; apply h0; rw [<- ByteArray.size_data, <- Array.length_toList, h]; rfl
 by_cases h1 : (str[0]).toNat = 1
 ·exact readK_1 str hs hp h1
 by_cases h2 : (str[0]).toNat = 2
 ·exact readK_2 str hs hp h2
 by_cases h3 : (str[0]).toNat = 3
 ·exact readK_3 str hs hp h3
 by_cases h4 : (str[0]).toNat = 4
 ·exact readK_4 str hs hp h4
 exact .inl (bad fun w => wireRead_no str hs hp hne _ rfl (UInt8.toNat_lt _) (by simp; omega) (by simp; omega) (by simp; omega) (by simp; omega) w)
end
-- JSw
section
set_option maxRecDepth 100000
set_option maxHeartbeats 1600000
open Go.RowKit Go.Maps
theorem serveWalk_c (B : Nat) (str : ByteArray) (w : World) {M : World -> World -> Value -> Int -> Prop} {N : World -> World -> Int -> Int -> Int -> Option Addr -> Nat -> Nat -> List Nat -> Prop}
  (hr : ∀ w', Ext w w' -> Calls Tryz.prog 58 #[.string str] w' fun e w'' => ∃ iv ec, e = .returned (.tuple #[iv, .int .i64 ec]) /\ M w' w'' iv ec)
  (ha : ∀ w' w'' iv ec, Ext w w' -> M w' w'' iv ec -> Calls Tryz.prog 54 #[.pointer (some ⟨B, 0, none⟩), iv, .int .i64 ec] w'' fun e w3 => ∃ c0 f0 n0 ra rl rc zs, e = .returned (.agg #[.int .i64 c0, .int .i64 f0, .int .i64 n0, .slice ra rl rc]) /\ N w'' w3 c0 f0 n0 ra rl rc zs /\ WordsIn w3 ra rl zs) :
  Calls Tryz.prog 25 #[.pointer (some ⟨B, 0, none⟩), .string str] w fun e w4 => ∃ w1 w2 w3 iv ec c0 f0 n0 ra rl rc zs, e = .returned (.string ⟨(replyB c0 f0 n0 zs).toArray⟩) /\ Ext w w1 /\ M w1 w2 iv ec /\ N w2 w3 c0 f0 n0 ra rl rc zs /\ Ext w3 w4 := by
 have HR : Hid (∀ w', Ext w w' -> _) := hr
 have HA : Hid (∀ w' w'' iv ec, Ext w w' -> M w' w'' iv ec -> _) := ha
 clear hr ha
 go_enter Tryz.func25, Tryz.ntmps25
 go_wp2_with fail
 refine (HR.out _ (Ext.refl w)).mono ?_
 rintro e w1 ⟨iv, ec, rfl, hm⟩
 have HM : Hid (M w w1 iv ec) := hm
 clear hm
 go_wp2_with fail
 refine (HA.out _ _ _ _ (Ext.refl w) HM.out).mono ?_
 rintro e w2 ⟨c0, f0, n0, ra, rl, rc, zs, rfl, hn, hw⟩
 have HN : Hid (N w1 w2 c0 f0 n0 ra rl rc zs) := hn
 have HW : Hid (WordsIn w2 ra rl zs) := hw
 clear hn hw
 go_wp2_with fail
 refine (wirePrint_c c0 f0 n0 ra rl rc zs _ HW.out).mono ?_
 rintro e w3 ⟨rfl, hx⟩
 have HX : Hid (Ext w2 w3) := hx
 clear hx
 go_wp2
 go_ret
 exact ⟨w, w1, w2, iv, ec, c0, f0, n0, ra, rl, rc, zs, rfl, Ext.refl w, HM.out, HN.out, HX.out⟩
end
end Go.Proofs.YtmnjhhachdlmkaaGreat
