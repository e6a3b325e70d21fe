import Derived.Test.YtmnjhhachdlmkaaLeasing
import Derived.Test.YtmnjhhachdlmkaaDo
namespace Go.Proofs.Ytmnjhhachdlmkaa
open Go.RowKit Go.Maps

theorem ml_against (a : Value) (w : World) : (method 301 160 (.agg #[a]) "dealer/store.against").run Try.prog w = .ok (126, .agg #[a]) w := by kernel_rfl
theorem ml_record (a : Value) (w : World) : (method 301 160 (.agg #[a]) "dealer/store.record").run Try.prog w = .ok (73, .agg #[a]) w := by kernel_rfl
theorem ml_apply (a : Value) (w : World) : (method 301 160 (.agg #[a]) "dealer/store.apply").run Try.prog w = .ok (127, .agg #[a]) w := by kernel_rfl

def leaseVals (s i kd m k n c : Nat) : Nat → Nat
  | 0 => s | 1 => i | 2 => kd | 3 => m | 4 => k | 5 => n | 6 => c | _ => 0

set_option maxRecDepth 100000 in
set_option maxHeartbeats 1600000 in
theorem leasingRecord_c (rb s i kd m k n c : Nat) (hs : s ≤ 100) (hi : i ≤ 100) (hkd : kd ≤ 3) (hm : m ≤ 3) (hk : k ≤ 3) (hn : n ≤ 3) (hc : c ≤ 100) (w : World)
    (hr : w.heap[rb]? = some (.cells #[.int .i64 s, .int .i64 i, .int .i64 kd, .int .i64 m, .int .i64 k, .int .i64 n, .int .i64 c] 98 (0, 0))) :
    Calls Try.prog 73 #[.agg #[.pointer (some ⟨rb, 0, none⟩)]] w fun e w' => ∃ r : ByteArray, e = .returned (.string r) ∧ r.size ≤ 100000 ∧ Ext w w' := by
  have HW : Hid (∀ w', Ext w w' → _) := fun w' hx => wireWrite_1 rb s i kd m k n c (leaseVals s i kd m k n c) ⟨rfl, rfl, rfl, rfl, rfl, rfl, rfl⟩ (fun j => by
    unfold leaseVals; split <;> omega) w' (hx.block hr)
  have HS : Hid ((⟨([1] ++ flatB (leaseVals s i kd m k n c) leaseL).toArray⟩ : ByteArray).size ≤ 100000) := by
    show ([1] ++ flatB (leaseVals s i kd m k n c) leaseL).toArray.size ≤ 100000
    have h1 := len_flatB (leaseVals s i kd m k n c) leaseL (fun x hx => sizes_lease x hx)
    have h2 : leaseL.length = 7 := rfl
    rw [List.size_toArray, List.length_append]
    simp at h1 ⊢
    omega
  clear hs hi hkd hm hk hn hc hr
  go_enter Try.func73, Try.ntmps73
  go_wp2_with fail
  refine (HW.out _ ((Ext.refl w).alloc _)).mono ?_
  rintro e w1 ⟨rfl, hx1⟩
  go_wp2
  go_ret
  exact ⟨_, rfl, HS.out, ((Ext.refl w).alloc _).trans hx1⟩

set_option maxRecDepth 100000 in
set_option maxHeartbeats 1600000 in
theorem doLease_c (B gk gs cs mb rb s i kd m k n kk : Nat) (dv : Value) (xs : List Value) (hs : s ≤ 100) (hi : i ≤ 100) (hkd : kd ≤ 3) (hm : m ≤ 3) (hk : k ≤ 3) (hn : n ≤ 3) (hkk : kk ≤ 100) (hBgs : B ≠ gs) (hgkgs : gk ≠ gs) (w : World)
    (h : One w B gk gs cs mb (.slice none 0 0) dv kd m k n 1 0) (ho : w.ownsRow 0 154 4 dv kk xs) (hdgs : dv.ownBlock ≠ some gs) (hdr : dv.ownBlock ≠ some rb)
    (hr : w.heap[rb]? = some (.cells #[.int .i64 s, .int .i64 i, .int .i64 kd, .int .i64 m, .int .i64 k, .int .i64 n, .int .i64 ((1 : Nat) : Int)] 98 (0, 0))) :
    Calls Try.prog 49 #[.pointer (some ⟨B, 0, none⟩), .iface 160 (.agg #[.pointer (some ⟨rb, 0, none⟩)])] w fun e w' => ∃ g cap dv', e = .returned (.int .i64 0) ∧ One w' B gk gs cs mb (.slice (some ⟨g, 0, none⟩) 1 cap) dv' kd m k n 1 1 ∧
      (∀ j v, (LsV.cells ⟨s, i, kd, m, k, n, 0, 1, false⟩)[j]? = some v → w'.cell? ⟨g, j, none⟩ = some v) ∧ Turn (fun b => b = B ∨ b = gk ∨ dv.ownBlock = some b) w w' ∧ w.heap.size ≤ g := by
  have h1 := ml_against
  have h2 := ml_record
  have h3 := ml_apply
  have H : Hid _ := h
  have HO : Hid _ := ho
  have HR : Hid _ := hr
  have HA : Hid (∀ w', Ext w w' → _) := fun w' hx => leasingAgainst_c B gk gs cs mb rb dv kd m k n s i w' (h.ext hx) (hx.block hr)
  have HRc : Hid (∀ w', Ext w w' → _) := fun w' hx => leasingRecord_c rb s i kd m k n 1 hs hi hkd hm hk hn (by omega) w' (hx.block hr)
  have hB := h.deal.lt
  have HN : Hid (dv.ownBlock ≠ some gk) := row_ne (B := gk) h.stk ho (by decide)
  have hnr : rb ≠ B := fun e => by have h1 := h.deal; unfold DealAt at h1; rw [← e, hr] at h1; simp at h1
  have hnk : gk ≠ B := fun e => by have h1 := h.deal; have h2 := h.stk; unfold DealAt at h1; rw [← e, h2] at h1; simp at h1
  have HN2 : Hid (dv.ownBlock ≠ some gs ∧ dv.ownBlock ≠ some rb) := ⟨hdgs, hdr⟩
  clear h ho hr hs hi hkd hm hk hn hdgs hdr
  go_enter Try.func49, Try.ntmps49
  go_wp2_with fail
  refine (HA.out _ (Ext.refl _)).mono ?_
  rintro e w1 ⟨rfl, hx1⟩
  have HX1 : Hid (Ext w w1) := hx1
  clear hx1
  go_wp2_with fail
  go_region_held3 (fun _ => True) (trivial) (first
    | (go_at_call 73; refine (HRc.out _ (Ext.chain HX1.out (Ext.refl _)).drew).mono ?_; rintro e w2 ⟨rs, rfl, hrs, hx2⟩)
    | (go_at_call 60; refine (addKnown_c B kk rs _ _ _ dv 0 xs _ (Ext.block (Ext.chain hx2 (Ext.drew HX1.out)) H.out.deal) (Ext.owns (Ext.chain hx2 (Ext.drew HX1.out)) HO.out) hrs (by omega)).mono ?_; rintro e w3 ⟨dv', rfl, hd3, ho3, ht3, hq3⟩))
  all_goals
    have HX2 : Hid (Ext w w2) := Ext.chain hx2 (Ext.drew HX1.out)
    have HTT : Hid (Turn (fun b => b = B ∨ dv.ownBlock = some b) w w3) := (Turn.of_ext HX2.out).trans ht3
    have H3 : Hid (One w3 B gk gs cs mb (.slice none 0 0) dv' kd m k n 1 0) := ⟨hd3, HTT.out.cell H.out.row (fun e => e.elim (fun e => hBgs e.symm) HN2.out.1), HTT.out.ref H.out.stk (fun e => e.elim hnk HN.out)⟩
    have HR3 : Hid (w3.heap[rb]? = some (.cells #[.int .i64 s, .int .i64 i, .int .i64 kd, .int .i64 m, .int .i64 k, .int .i64 n, .int .i64 1] 98 (0, 0))) := HTT.out.ref HR.out (fun e => e.elim hnr HN2.out.2)
    clear hx2 hd3 ho3 ht3 hq3
    go_wp2_with fail
    refine (leasingApply_c B gk gs cs mb rb dv' kd m k n s i hBgs hgkgs w3 H3.out HR3.out).mono ?_
    rintro e w4 ⟨g, cap, rfl, q1, q2, q3, q4⟩
    have HQ : Hid _ := And.intro q1 (And.intro q2 (And.intro q3 q4))
    clear q1 q2 q3 q4
    go_wp2
    go_ret
    obtain ⟨q1, q2, q3, q4⟩ := HQ.out
    have hsz := HTT.out.size
    exact ⟨g, cap, dv', rfl, q1, q2, (HTT.out.mono (fun b _ hb => hb.elim .inl (fun e => .inr (.inr e)))).trans (q3.mono (fun b _ hb => hb.elim .inl (fun e => .inr (.inl e)))), by omega⟩
end Go.Proofs.Ytmnjhhachdlmkaa
