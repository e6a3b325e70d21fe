import Derived.Test.YtmnjhhachdlmkaaChkA
import Derived.Test.YtmnjhhachdlmkaaFieldsL
namespace Go.Proofs.Ytmnjhhachdlmkaa
open Go.RowKit

set_option maxRecDepth 100000 in
set_option maxHeartbeats 1600000 in
/-- A request that bears something that it does not use. -/
theorem check_1a (s i ck cm cl cn f c p : Int) (h : ((0 == f && 0 == p)) = false) (w : World) :
    Calls Try.prog 22 #[.agg #[.int .i64 1, .int .i64 s, .int .i64 i, .int .i64 ck, .int .i64 cm, .int .i64 cl, .int .i64 cn, .int .i64 f, .int .i64 c, .int .i64 p]] w fun e w' => e = .returned (.tuple #[.nilIface, .int .i64 1]) ∧ Ext w w' := by
  have hm1 := m_leasePlain
  have heq := eqReq
  go_enter Try.func22, Try.ntmps22
  go_wp2_with (go_at_call 36; refine (ofKind_1 s i ck cm cl cn f c p _).mono ?_; rintro e w1 ⟨b, rfl, hb, hlt, hx⟩)
  have hr := hx.block (at_new rfl)
  have HR : Hid _ := hr
  have HB : Hid _ := hb
  have HX : Ext w w1 := (Ext.refl w).alloc _ |>.trans hx
  obtain ⟨q0, q1, q2, q3, q4, q5, q6, q7, q8, q9⟩ := req_cells hr
  clear hr hb hx
  refine wp_region_any (by kernel_rfl) ?_
  change wpAny _ _ _ _ _ _ _ (World.drew _)
  refine wpAny_ready (rs := [0]) (by kernel_rfl) (by simp) ?_
  refine AllReady.cons rfl (fun K hK => ?_) AllReady.nil
  go_simp
  refine hK _ _ ?_
  clear hK K
  refine wpAny_ready (rs := [1]) (by kernel_rfl) (by simp) ?_
  refine AllReady.cons rfl (fun K hK => ?_) AllReady.nil
  go_simp
  refine hK _ _ ?_
  clear hK K
  refine wpAny_ready (rs := [2]) (by kernel_rfl) (by simp) ?_
  refine AllReady.cons rfl (fun K hK => ?_) AllReady.nil
  go_simp
  refine hK _ _ ?_
  clear hK K
  refine wpAny_take (i := 3) (v := .iface 96 (.pointer (some ⟨b, 0, none⟩))) rfl (by kernel_rfl) (by kernel_rfl) (by kernel_rfl) (fun _ _ _ h => h) (Or.inl ⟨by rfl, by intro w; go_simp⟩) ?_
  refine wpAny_ready (rs := [4, 5]) (by kernel_rfl) (by simp) ?_
  refine AllReady.cons rfl (fun K hK => ?_) (AllReady.cons rfl (fun K hK => ?_) AllReady.nil)
  · go_simp
    go_wp2_with (go_at_call 101; refine (leasePlain_c b s i ck cm cl cn c _ (by exact HB.out)).mono ?_; rintro e w2 ⟨rfl, hx2⟩; obtain ⟨r0, r1, r2, r3, r4, r5, r6, r7, r8, r9⟩ := req_cells (hx2.block (by exact HR.out)))
    refine wpAny_ready (rs := [5]) (by kernel_rfl) (by simp) ?_
    refine AllReady.cons rfl (fun K hK => ?_) AllReady.nil
    go_simp
    refine hK _ _ ?_
    clear hK K
    refine wpAny_ready (rs := [6]) (by kernel_rfl) (by simp) ?_
    refine AllReady.cons rfl (fun K hK => ?_) AllReady.nil
    go_simp
    refine hK _ _ ?_
    clear hK K
    refine wpAny_ready (rs := [7]) (by kernel_rfl) (by simp) ?_
    refine AllReady.cons rfl (fun K hK => ?_) AllReady.nil
    go_simp
    refine hK _ _ ?_
    clear hK K
    refine wpAny_ready (rs := [8]) (by kernel_rfl) (by simp) ?_
    refine AllReady.cons rfl (fun K hK => ?_) AllReady.nil
    go_simp
    refine hK _ _ ?_
    clear hK K
    refine wpAny_ready (rs := [9]) (by kernel_rfl) (by simp) ?_
    refine AllReady.cons rfl (fun K hK => ?_) AllReady.nil
    go_simp
    refine hK _ _ ?_
    clear hK K
    refine wpAny_ready (rs := [10]) (by kernel_rfl) (by simp) ?_
    refine AllReady.cons rfl (fun K hK => ?_) AllReady.nil
    go_simp
    refine hK _ _ ?_
    clear hK K
    refine wpAny_ready (rs := [11]) (by kernel_rfl) (by simp) ?_
    refine AllReady.cons rfl (fun K hK => ?_) AllReady.nil
    go_simp
    refine hK _ _ ?_
    clear hK K
    refine wpAny_ready (rs := [12]) (by kernel_rfl) (by simp) ?_
    refine AllReady.cons rfl (fun K hK => ?_) AllReady.nil
    go_simp
    refine hK _ _ ?_
    clear hK K
    refine wpAny_ready (rs := [13]) (by kernel_rfl) (by simp) ?_
    refine AllReady.cons rfl (fun K hK => ?_) AllReady.nil
    go_simp
    refine hK _ _ ?_
    clear hK K
    refine wpAny_done (by kernel_rfl) ?_ _
    go_wp2
    go_ret2
    exact ⟨rfl, HX.trans (Ext.drew (Ext.refl _) |>.trans hx2)⟩
  · go_simp
    refine hK _ _ ?_
    clear hK K
    refine wpAny_ready (rs := [4]) (by kernel_rfl) (by simp) ?_
    refine AllReady.cons rfl (fun K hK => ?_) AllReady.nil
    go_simp
    go_wp2_with (go_at_call 101; refine (leasePlain_c b s i ck cm cl cn c _ (by exact HB.out)).mono ?_; rintro e w2 ⟨rfl, hx2⟩; obtain ⟨r0, r1, r2, r3, r4, r5, r6, r7, r8, r9⟩ := req_cells (hx2.block (by exact HR.out)))
    refine wpAny_ready (rs := [6]) (by kernel_rfl) (by simp) ?_
    refine AllReady.cons rfl (fun K hK => ?_) AllReady.nil
    go_simp
    refine hK _ _ ?_
    clear hK K
    refine wpAny_ready (rs := [7]) (by kernel_rfl) (by simp) ?_
    refine AllReady.cons rfl (fun K hK => ?_) AllReady.nil
    go_simp
    refine hK _ _ ?_
    clear hK K
    refine wpAny_ready (rs := [8]) (by kernel_rfl) (by simp) ?_
    refine AllReady.cons rfl (fun K hK => ?_) AllReady.nil
    go_simp
    refine hK _ _ ?_
    clear hK K
    refine wpAny_ready (rs := [9]) (by kernel_rfl) (by simp) ?_
    refine AllReady.cons rfl (fun K hK => ?_) AllReady.nil
    go_simp
    refine hK _ _ ?_
    clear hK K
    refine wpAny_ready (rs := [10]) (by kernel_rfl) (by simp) ?_
    refine AllReady.cons rfl (fun K hK => ?_) AllReady.nil
    go_simp
    refine hK _ _ ?_
    clear hK K
    refine wpAny_ready (rs := [11]) (by kernel_rfl) (by simp) ?_
    refine AllReady.cons rfl (fun K hK => ?_) AllReady.nil
    go_simp
    refine hK _ _ ?_
    clear hK K
    refine wpAny_ready (rs := [12]) (by kernel_rfl) (by simp) ?_
    refine AllReady.cons rfl (fun K hK => ?_) AllReady.nil
    go_simp
    refine hK _ _ ?_
    clear hK K
    refine wpAny_ready (rs := [13]) (by kernel_rfl) (by simp) ?_
    refine AllReady.cons rfl (fun K hK => ?_) AllReady.nil
    go_simp
    refine hK _ _ ?_
    clear hK K
    refine wpAny_done (by kernel_rfl) ?_ _
    go_wp2
    go_ret2
    exact ⟨rfl, HX.trans (Ext.drew (Ext.refl _) |>.trans hx2)⟩

theorem vals_lease {W : World} {b : Nat} {s i ck cm cl cn c : Int} {vals : Nat → Int} (hW : W.heap[b]? = some (.cells #[.int .i64 s, .int .i64 i, .int .i64 ck, .int .i64 cm, .int .i64 cl, .int .i64 cn, .int .i64 c] 98 (0, 0))) (hv : vals 0 = s ∧ vals 1 = i ∧ vals 2 = ck ∧ vals 3 = cm ∧ vals 4 = cl ∧ vals 5 = cn ∧ vals 6 = c) : ∀ x ∈ leaseL, W.cell? ⟨b, x.1, none⟩ = some (.int .i64 (vals x.1)) := by
  obtain ⟨v0, v1, v2, v3, v4, v5, v6⟩ := hv
  intro x hx
  simp only [leaseL, List.mem_cons, List.not_mem_nil, or_false] at hx
  rcases hx with rfl | rfl | rfl | rfl | rfl | rfl | rfl
  · show W.cell? ⟨b, 0, none⟩ = some (.int .i64 (vals 0)); rw [v0]; exact cell_at hW rfl
  · show W.cell? ⟨b, 1, none⟩ = some (.int .i64 (vals 1)); rw [v1]; exact cell_at hW rfl
  · show W.cell? ⟨b, 2, none⟩ = some (.int .i64 (vals 2)); rw [v2]; exact cell_at hW rfl
  · show W.cell? ⟨b, 3, none⟩ = some (.int .i64 (vals 3)); rw [v3]; exact cell_at hW rfl
  · show W.cell? ⟨b, 4, none⟩ = some (.int .i64 (vals 4)); rw [v4]; exact cell_at hW rfl
  · show W.cell? ⟨b, 5, none⟩ = some (.int .i64 (vals 5)); rw [v5]; exact cell_at hW rfl
  · show W.cell? ⟨b, 6, none⟩ = some (.int .i64 (vals 6)); rw [v6]; exact cell_at hW rfl

set_option maxRecDepth 100000 in
set_option maxHeartbeats 1600000 in
/-- One that bears nothing besides: it fits, or not. -/
theorem check_1b (s i ck cm cl cn c : Int) (vals : Nat → Int) (hv : vals 0 = s ∧ vals 1 = i ∧ vals 2 = ck ∧ vals 3 = cm ∧ vals 4 = cl ∧ vals 5 = cn ∧ vals 6 = c) (w : World) :
    Calls Try.prog 22 #[.agg #[.int .i64 1, .int .i64 s, .int .i64 i, .int .i64 ck, .int .i64 cm, .int .i64 cl, .int .i64 cn, .int .i64 0, .int .i64 c, .int .i64 0]] w fun e w' =>
      (fitB vals leaseL = true ∧ ∃ b, e = .returned (.tuple #[.iface 96 (.pointer (some ⟨b, 0, none⟩)), .int .i64 0]) ∧ w'.heap[b]? = some (.cells #[.int .i64 s, .int .i64 i, .int .i64 ck, .int .i64 cm, .int .i64 cl, .int .i64 cn, .int .i64 c] 98 (0, 0)) ∧ Ext w w') ∨
      (fitB vals leaseL = false ∧ e = .returned (.tuple #[.nilIface, .int .i64 1]) ∧ Ext w w') := by
  have HV : Hid (vals 0 = s ∧ vals 1 = i ∧ vals 2 = ck ∧ vals 3 = cm ∧ vals 4 = cl ∧ vals 5 = cn ∧ vals 6 = c) := hv
  have hm1 := m_leasePlain
  have hm2 := m_leaseFields
  have heq := eqReq
  clear hv
  go_enter Try.func22, Try.ntmps22
  go_wp2_with (go_at_call 36; refine (ofKind_1 s i ck cm cl cn 0 c 0 _).mono ?_; rintro e w1 ⟨b, rfl, hb, hlt, hx⟩)
  have hr := hx.block (at_new rfl)
  have HR : Hid _ := hr
  have HB : Hid _ := hb
  have HX : Ext w w1 := (Ext.refl w).alloc _ |>.trans hx
  obtain ⟨q0, q1, q2, q3, q4, q5, q6, q7, q8, q9⟩ := req_cells hr
  clear hr hb hx
  have HVV : Hid _ := fun (W : World) hW => vals_lease (W := W) (b := b) hW HV.out
  cases HB2 : fitB vals leaseL
  all_goals
    have HFB : Hid _ := HB2
    clear HB2
    go_region_with (first
      | (go_at_call 101; refine (leasePlain_c b s i ck cm cl cn c _ (by exact HB.out)).mono ?_; rintro e w2 ⟨rfl, hx2⟩; obtain ⟨r0, r1, r2, r3, r4, r5, r6, r7, r8, r9⟩ := req_cells (hx2.block (by exact HR.out)))
      | (go_at_call 102; refine (leaseFields_c b _).mono ?_; rintro e w3 ⟨g, cap, rfl, ho, hx3⟩)
      | (go_at_call 37; refine (fit_c b g cap 7 _ leaseL vals _ rfl (by decide) ho ?_).mono ?_; exact HVV.out _ (hx3.block (by exact hx2.block (by exact HB.out))); rw [HFB.out]; rintro e w4 ⟨rfl, hx4⟩))
    all_goals go_wp2
    all_goals go_ret2
  · exact .inr ⟨HFB.out, rfl, HX.trans ((Ext.refl _).drew.trans (hx2.trans (hx3.trans hx4)))⟩
  · exact .inr ⟨HFB.out, rfl, HX.trans ((Ext.refl _).drew.trans (hx2.trans (hx3.trans hx4)))⟩
  · exact .inl ⟨HFB.out, b, rfl, (hx2.trans (hx3.trans hx4)).block (by exact HB.out), HX.trans ((Ext.refl _).drew.trans (hx2.trans (hx3.trans hx4)))⟩
  · exact .inl ⟨HFB.out, b, rfl, (hx2.trans (hx3.trans hx4)).block (by exact HB.out), HX.trans ((Ext.refl _).drew.trans (hx2.trans (hx3.trans hx4)))⟩
end Go.Proofs.Ytmnjhhachdlmkaa
