import Derived.Test.YtmnjhhachdlmkaaRdBad
import Derived.Test.YtmnjhhachdlmkaaWR1
import Derived.Test.YtmnjhhachdlmkaaRR1
import Derived.Test.YtmnjhhachdlmkaaKind
import Derived.Test.YtmnjhhachdlmkaaWR2
import Derived.Test.YtmnjhhachdlmkaaRR2
import Derived.Test.YtmnjhhachdlmkaaWR3
import Derived.Test.YtmnjhhachdlmkaaRR3
import Derived.Test.YtmnjhhachdlmkaaWR4
import Derived.Test.YtmnjhhachdlmkaaRR4
namespace Go.Proofs.Ytmnjhhachdlmkaa
open Go.RowKit

set_option maxRecDepth 100000 in
set_option maxHeartbeats 800000 in
theorem dealerRead_1 (str : ByteArray) (s i ck cm cl cn c : Nat)
    (hr : ∀ w, Calls Try.prog 27 #[.string str] w fun e w' => ∃ b, e = .returned (.tuple #[.iface 96 (.pointer (some ⟨b, 0, none⟩)), .int .i64 0]) ∧ w'.heap[b]? = some (.cells #[.int .i64 (s : Int), .int .i64 (i : Int), .int .i64 (ck : Int), .int .i64 (cm : Int), .int .i64 (cl : Int), .int .i64 (cn : Int), .int .i64 (c : Int)] 98 (0, 0)) ∧ Ext w w') (w : World) :
    Calls Try.prog 8 #[.string str] w fun e w' => e = .returned (.tuple #[.agg #[.int .i64 1, .int .i64 (s : Int), .int .i64 (i : Int), .int .i64 (ck : Int), .int .i64 (cm : Int), .int .i64 (cl : Int), .int .i64 (cn : Int), .int .i64 0, .int .i64 (c : Int), .int .i64 0], .int .i64 0]) ∧ Ext w w' := by
  have HC : Hid (∀ w, Calls _ _ _ w _) := hr
  clear hr
  have hm1 := m_leasePlain
  go_enter Try.func8, Try.ntmps8
  go_wp2_with (first
    | (go_at_call 27; refine (HC.out _).mono ?_; rintro e w1 ⟨b, rfl, hb, hx⟩; have HB : Hid _ := hb; clear hb)
    | (go_at_call 101; refine (leasePlain_c b s i ck cm cl cn c _ HB.out).mono ?_; rintro e w2 ⟨rfl, hx2⟩; obtain ⟨la, ca0, ca1, ca2, ca3, ca4, ca5, ca6, ca7, ca8, ca9, fa0, fa1, fa2, fa3, fa4, fa5, fa6, fa7, fa8, fa9⟩ := req_all (W := w2) (g := w.heap.size) (t := 25) (v0 := .int .i64 0) (v1 := .int .i64 0) (v2 := .int .i64 0) (v3 := .int .i64 0) (v4 := .int .i64 0) (v5 := .int .i64 0) (v6 := .int .i64 0) (v7 := .int .i64 0) (v8 := .int .i64 0) (v9 := .int .i64 0) (by repeat (first | (with_reducible refine at_drew ?_) | ((with_reducible refine at_new ?_); (simp; done)) | (with_reducible refine at_old ?_) | (with_reducible (apply Ext.block; assumption))))))
  refine bodyPost_ret (v := .tuple #[.agg #[.int .i64 1, .int .i64 (s : Int), .int .i64 (i : Int), .int .i64 (ck : Int), .int .i64 (cm : Int), .int .i64 (cl : Int), .int .i64 (cn : Int), .int .i64 0, .int .i64 (c : Int), .int .i64 0], .int .i64 0]) (by simp [results, Try.results8, go_sem, *]) rfl ⟨rfl, ?_⟩
  repeat (first | (with_reducible exact Ext.refl _) | (with_reducible assumption) | (with_reducible refine Ext.drew ?_) | (with_reducible refine Ext.alloc ?_ _) | (with_reducible refine Ext.setCell ?_ (by simp) _) | (with_reducible (apply Ext.chain; assumption)))

/-- Both read the same. -/
theorem readPair_1 (str : ByteArray) (hs : str.size ≤ maxLen) (h1 : 0 < str.size) (hk : (str[0]).toNat = 1) : ∃ (k s i ck cm cl cn f c p E : Int),
    (∀ w, Calls Try.prog 8 #[.string str] w fun e w' => e = .returned (.tuple #[.agg #[.int .i64 k, .int .i64 s, .int .i64 i, .int .i64 ck, .int .i64 cm, .int .i64 cl, .int .i64 cn, .int .i64 f, .int .i64 c, .int .i64 p], .int .i64 E]) ∧ Ext w w') ∧
    (∀ w, Calls Try.prog 9 #[.string str] w fun e w' => e = .returned (.tuple #[.agg #[.int .i64 k, .int .i64 s, .int .i64 i, .int .i64 ck, .int .i64 cm, .int .i64 cl, .int .i64 cn, .int .i64 f, .int .i64 c, .int .i64 p], .int .i64 E]) ∧ Ext w w') := by
  by_cases H : ∃ vs, decTo leaseL (str.extract 1 str.size).data.toList = some (vs, [])
  · obtain ⟨vs, hd⟩ := H
    have hl := decTo_len _ _ _ _ hd
    match vs, hl, hd with
    | [s, i, ck, cm, cl, cn, c], _, hd =>
      refine ⟨1, s, i, ck, cm, cl, cn, 0, c, 0, 0, fun w => dealerRead_1 str s i ck cm cl cn c (fun w => (wireRead_1 str hs h1 hk w).mono fun e w' h => ?_) w, fun w => (refRead_1 str hs h1 hk w).mono fun e w' h => ?_⟩
      · rcases h with ⟨vs', b, h1, h2, h3, h4⟩ | ⟨h, _⟩
        · rw [hd] at h1
          simp at h1
          subst h1
          exact ⟨b, h2, h3, h4⟩
        · exact absurd hd (h _)
      · rcases h with ⟨s', i', ck', cm', cl', cn', c', h1, h2, h3⟩ | ⟨h, _⟩
        · rw [hd] at h1
          simp at h1
          obtain ⟨rfl, rfl, rfl, rfl, rfl, rfl, rfl⟩ := h1
          exact ⟨h2, h3⟩
        · exact absurd hd (h _)
  · refine ⟨0, 0, 0, 0, 0, 0, 0, 0, 0, 0, 1, fun w => dealerRead_bad str (fun w => (wireRead_1 str hs h1 hk w).mono fun e w' h => ?_) w, fun w => (refRead_1 str hs h1 hk w).mono fun e w' h => ?_⟩
    · rcases h with ⟨vs', b, h1, _⟩ | ⟨_, h⟩
      · exact absurd ⟨vs', h1⟩ H
      · exact h
    · rcases h with ⟨s', i', ck', cm', cl', cn', c', h1, _⟩ | ⟨_, h⟩
      · exact absurd ⟨_, h1⟩ H
      · exact h

set_option maxRecDepth 100000 in
set_option maxHeartbeats 800000 in
theorem dealerRead_2 (str : ByteArray) (s ck cm cl cn f c p : Nat)
    (hr : ∀ w, Calls Try.prog 27 #[.string str] w fun e w' => ∃ b, e = .returned (.tuple #[.iface 99 (.pointer (some ⟨b, 0, none⟩)), .int .i64 0]) ∧ w'.heap[b]? = some (.cells #[.int .i64 (s : Int), .int .i64 (ck : Int), .int .i64 (cm : Int), .int .i64 (cl : Int), .int .i64 (cn : Int), .int .i64 (f : Int), .int .i64 (c : Int), .int .i64 (p : Int)] 101 (0, 0)) ∧ Ext w w') (w : World) :
    Calls Try.prog 8 #[.string str] w fun e w' => e = .returned (.tuple #[.agg #[.int .i64 2, .int .i64 (s : Int), .int .i64 0, .int .i64 (ck : Int), .int .i64 (cm : Int), .int .i64 (cl : Int), .int .i64 (cn : Int), .int .i64 (f : Int), .int .i64 (c : Int), .int .i64 (p : Int)], .int .i64 0]) ∧ Ext w w' := by
  have HC : Hid (∀ w, Calls _ _ _ w _) := hr
  clear hr
  have hm1 := m_fetchPlain
  go_enter Try.func8, Try.ntmps8
  go_wp2_with (first
    | (go_at_call 27; refine (HC.out _).mono ?_; rintro e w1 ⟨b, rfl, hb, hx⟩; have HB : Hid _ := hb; clear hb)
    | (go_at_call 109; refine (fetchPlain_c b s ck cm cl cn f c p _ HB.out).mono ?_; rintro e w2 ⟨rfl, hx2⟩; obtain ⟨la, ca0, ca1, ca2, ca3, ca4, ca5, ca6, ca7, ca8, ca9, fa0, fa1, fa2, fa3, fa4, fa5, fa6, fa7, fa8, fa9⟩ := req_all (W := w2) (g := w.heap.size) (t := 25) (v0 := .int .i64 0) (v1 := .int .i64 0) (v2 := .int .i64 0) (v3 := .int .i64 0) (v4 := .int .i64 0) (v5 := .int .i64 0) (v6 := .int .i64 0) (v7 := .int .i64 0) (v8 := .int .i64 0) (v9 := .int .i64 0) (by repeat (first | (with_reducible refine at_drew ?_) | ((with_reducible refine at_new ?_); (simp; done)) | (with_reducible refine at_old ?_) | (with_reducible (apply Ext.block; assumption))))))
  refine bodyPost_ret (v := .tuple #[.agg #[.int .i64 2, .int .i64 (s : Int), .int .i64 0, .int .i64 (ck : Int), .int .i64 (cm : Int), .int .i64 (cl : Int), .int .i64 (cn : Int), .int .i64 (f : Int), .int .i64 (c : Int), .int .i64 (p : Int)], .int .i64 0]) (by simp [results, Try.results8, go_sem, *]) rfl ⟨rfl, ?_⟩
  repeat (first | (with_reducible exact Ext.refl _) | (with_reducible assumption) | (with_reducible refine Ext.drew ?_) | (with_reducible refine Ext.alloc ?_ _) | (with_reducible refine Ext.setCell ?_ (by simp) _) | (with_reducible (apply Ext.chain; assumption)))

/-- Both read the same. -/
theorem readPair_2 (str : ByteArray) (hs : str.size ≤ maxLen) (h1 : 0 < str.size) (hk : (str[0]).toNat = 2) : ∃ (k s i ck cm cl cn f c p E : Int),
    (∀ w, Calls Try.prog 8 #[.string str] w fun e w' => e = .returned (.tuple #[.agg #[.int .i64 k, .int .i64 s, .int .i64 i, .int .i64 ck, .int .i64 cm, .int .i64 cl, .int .i64 cn, .int .i64 f, .int .i64 c, .int .i64 p], .int .i64 E]) ∧ Ext w w') ∧
    (∀ w, Calls Try.prog 9 #[.string str] w fun e w' => e = .returned (.tuple #[.agg #[.int .i64 k, .int .i64 s, .int .i64 i, .int .i64 ck, .int .i64 cm, .int .i64 cl, .int .i64 cn, .int .i64 f, .int .i64 c, .int .i64 p], .int .i64 E]) ∧ Ext w w') := by
  by_cases H : ∃ vs, decTo fetchL (str.extract 1 str.size).data.toList = some (vs, [])
  · obtain ⟨vs, hd⟩ := H
    have hl := decTo_len _ _ _ _ hd
    match vs, hl, hd with
    | [s, ck, cm, cl, cn, f, c, p], _, hd =>
      refine ⟨2, s, 0, ck, cm, cl, cn, f, c, p, 0, fun w => dealerRead_2 str s ck cm cl cn f c p (fun w => (wireRead_2 str hs h1 hk w).mono fun e w' h => ?_) w, fun w => (refRead_2 str hs h1 hk w).mono fun e w' h => ?_⟩
      · rcases h with ⟨vs', b, h1, h2, h3, h4⟩ | ⟨h, _⟩
        · rw [hd] at h1
          simp at h1
          subst h1
          exact ⟨b, h2, h3, h4⟩
        · exact absurd hd (h _)
      · rcases h with ⟨s', ck', cm', cl', cn', f', c', p', h1, h2, h3⟩ | ⟨h, _⟩
        · rw [hd] at h1
          simp at h1
          obtain ⟨rfl, rfl, rfl, rfl, rfl, rfl, rfl, rfl⟩ := h1
          exact ⟨h2, h3⟩
        · exact absurd hd (h _)
  · refine ⟨0, 0, 0, 0, 0, 0, 0, 0, 0, 0, 1, fun w => dealerRead_bad str (fun w => (wireRead_2 str hs h1 hk w).mono fun e w' h => ?_) w, fun w => (refRead_2 str hs h1 hk w).mono fun e w' h => ?_⟩
    · rcases h with ⟨vs', b, h1, _⟩ | ⟨_, h⟩
      · exact absurd ⟨vs', h1⟩ H
      · exact h
    · rcases h with ⟨s', ck', cm', cl', cn', f', c', p', h1, _⟩ | ⟨_, h⟩
      · exact absurd ⟨_, h1⟩ H
      · exact h

set_option maxRecDepth 100000 in
set_option maxHeartbeats 800000 in
theorem dealerRead_3 (str : ByteArray) (s i : Nat)
    (hr : ∀ w, Calls Try.prog 27 #[.string str] w fun e w' => ∃ b, e = .returned (.tuple #[.iface 102 (.pointer (some ⟨b, 0, none⟩)), .int .i64 0]) ∧ w'.heap[b]? = some (.cells #[.int .i64 (s : Int), .int .i64 (i : Int)] 104 (0, 0)) ∧ Ext w w') (w : World) :
    Calls Try.prog 8 #[.string str] w fun e w' => e = .returned (.tuple #[.agg #[.int .i64 3, .int .i64 (s : Int), .int .i64 (i : Int), .int .i64 0, .int .i64 0, .int .i64 0, .int .i64 0, .int .i64 0, .int .i64 0, .int .i64 0], .int .i64 0]) ∧ Ext w w' := by
  have HC : Hid (∀ w, Calls _ _ _ w _) := hr
  clear hr
  have hm1 := m_releasePlain
  go_enter Try.func8, Try.ntmps8
  go_wp2_with (first
    | (go_at_call 27; refine (HC.out _).mono ?_; rintro e w1 ⟨b, rfl, hb, hx⟩; have HB : Hid _ := hb; clear hb)
    | (go_at_call 111; refine (releasePlain_c b s i _ HB.out).mono ?_; rintro e w2 ⟨rfl, hx2⟩; obtain ⟨la, ca0, ca1, ca2, ca3, ca4, ca5, ca6, ca7, ca8, ca9, fa0, fa1, fa2, fa3, fa4, fa5, fa6, fa7, fa8, fa9⟩ := req_all (W := w2) (g := w.heap.size) (t := 25) (v0 := .int .i64 0) (v1 := .int .i64 0) (v2 := .int .i64 0) (v3 := .int .i64 0) (v4 := .int .i64 0) (v5 := .int .i64 0) (v6 := .int .i64 0) (v7 := .int .i64 0) (v8 := .int .i64 0) (v9 := .int .i64 0) (by repeat (first | (with_reducible refine at_drew ?_) | ((with_reducible refine at_new ?_); (simp; done)) | (with_reducible refine at_old ?_) | (with_reducible (apply Ext.block; assumption))))))
  refine bodyPost_ret (v := .tuple #[.agg #[.int .i64 3, .int .i64 (s : Int), .int .i64 (i : Int), .int .i64 0, .int .i64 0, .int .i64 0, .int .i64 0, .int .i64 0, .int .i64 0, .int .i64 0], .int .i64 0]) (by simp [results, Try.results8, go_sem, *]) rfl ⟨rfl, ?_⟩
  repeat (first | (with_reducible exact Ext.refl _) | (with_reducible assumption) | (with_reducible refine Ext.drew ?_) | (with_reducible refine Ext.alloc ?_ _) | (with_reducible refine Ext.setCell ?_ (by simp) _) | (with_reducible (apply Ext.chain; assumption)))

/-- Both read the same. -/
theorem readPair_3 (str : ByteArray) (hs : str.size ≤ maxLen) (h1 : 0 < str.size) (hk : (str[0]).toNat = 3) : ∃ (k s i ck cm cl cn f c p E : Int),
    (∀ w, Calls Try.prog 8 #[.string str] w fun e w' => e = .returned (.tuple #[.agg #[.int .i64 k, .int .i64 s, .int .i64 i, .int .i64 ck, .int .i64 cm, .int .i64 cl, .int .i64 cn, .int .i64 f, .int .i64 c, .int .i64 p], .int .i64 E]) ∧ Ext w w') ∧
    (∀ w, Calls Try.prog 9 #[.string str] w fun e w' => e = .returned (.tuple #[.agg #[.int .i64 k, .int .i64 s, .int .i64 i, .int .i64 ck, .int .i64 cm, .int .i64 cl, .int .i64 cn, .int .i64 f, .int .i64 c, .int .i64 p], .int .i64 E]) ∧ Ext w w') := by
  by_cases H : ∃ vs, decTo releaseL (str.extract 1 str.size).data.toList = some (vs, [])
  · obtain ⟨vs, hd⟩ := H
    have hl := decTo_len _ _ _ _ hd
    match vs, hl, hd with
    | [s, i], _, hd =>
      refine ⟨3, s, i, 0, 0, 0, 0, 0, 0, 0, 0, fun w => dealerRead_3 str s i (fun w => (wireRead_3 str hs h1 hk w).mono fun e w' h => ?_) w, fun w => (refRead_3 str hs h1 hk w).mono fun e w' h => ?_⟩
      · rcases h with ⟨vs', b, h1, h2, h3, h4⟩ | ⟨h, _⟩
        · rw [hd] at h1
          simp at h1
          subst h1
          exact ⟨b, h2, h3, h4⟩
        · exact absurd hd (h _)
      · rcases h with ⟨s', i', h1, h2, h3⟩ | ⟨h, _⟩
        · rw [hd] at h1
          simp at h1
          obtain ⟨rfl, rfl⟩ := h1
          exact ⟨h2, h3⟩
        · exact absurd hd (h _)
  · refine ⟨0, 0, 0, 0, 0, 0, 0, 0, 0, 0, 1, fun w => dealerRead_bad str (fun w => (wireRead_3 str hs h1 hk w).mono fun e w' h => ?_) w, fun w => (refRead_3 str hs h1 hk w).mono fun e w' h => ?_⟩
    · rcases h with ⟨vs', b, h1, _⟩ | ⟨_, h⟩
      · exact absurd ⟨vs', h1⟩ H
      · exact h
    · rcases h with ⟨s', i', h1, _⟩ | ⟨_, h⟩
      · exact absurd ⟨_, h1⟩ H
      · exact h

set_option maxRecDepth 100000 in
set_option maxHeartbeats 800000 in
theorem dealerRead_4 (str : ByteArray) (ck cm cl cn : Nat)
    (hr : ∀ w, Calls Try.prog 27 #[.string str] w fun e w' => ∃ b, e = .returned (.tuple #[.iface 105 (.pointer (some ⟨b, 0, none⟩)), .int .i64 0]) ∧ w'.heap[b]? = some (.cells #[.int .i64 (ck : Int), .int .i64 (cm : Int), .int .i64 (cl : Int), .int .i64 (cn : Int)] 107 (0, 0)) ∧ Ext w w') (w : World) :
    Calls Try.prog 8 #[.string str] w fun e w' => e = .returned (.tuple #[.agg #[.int .i64 4, .int .i64 0, .int .i64 0, .int .i64 (ck : Int), .int .i64 (cm : Int), .int .i64 (cl : Int), .int .i64 (cn : Int), .int .i64 0, .int .i64 0, .int .i64 0], .int .i64 0]) ∧ Ext w w' := by
  have HC : Hid (∀ w, Calls _ _ _ w _) := hr
  clear hr
  have hm1 := m_statusPlain
  go_enter Try.func8, Try.ntmps8
  go_wp2_with (first
    | (go_at_call 27; refine (HC.out _).mono ?_; rintro e w1 ⟨b, rfl, hb, hx⟩; have HB : Hid _ := hb; clear hb)
    | (go_at_call 113; refine (statusPlain_c b ck cm cl cn _ HB.out).mono ?_; rintro e w2 ⟨rfl, hx2⟩; obtain ⟨la, ca0, ca1, ca2, ca3, ca4, ca5, ca6, ca7, ca8, ca9, fa0, fa1, fa2, fa3, fa4, fa5, fa6, fa7, fa8, fa9⟩ := req_all (W := w2) (g := w.heap.size) (t := 25) (v0 := .int .i64 0) (v1 := .int .i64 0) (v2 := .int .i64 0) (v3 := .int .i64 0) (v4 := .int .i64 0) (v5 := .int .i64 0) (v6 := .int .i64 0) (v7 := .int .i64 0) (v8 := .int .i64 0) (v9 := .int .i64 0) (by repeat (first | (with_reducible refine at_drew ?_) | ((with_reducible refine at_new ?_); (simp; done)) | (with_reducible refine at_old ?_) | (with_reducible (apply Ext.block; assumption))))))
  refine bodyPost_ret (v := .tuple #[.agg #[.int .i64 4, .int .i64 0, .int .i64 0, .int .i64 (ck : Int), .int .i64 (cm : Int), .int .i64 (cl : Int), .int .i64 (cn : Int), .int .i64 0, .int .i64 0, .int .i64 0], .int .i64 0]) (by simp [results, Try.results8, go_sem, *]) rfl ⟨rfl, ?_⟩
  repeat (first | (with_reducible exact Ext.refl _) | (with_reducible assumption) | (with_reducible refine Ext.drew ?_) | (with_reducible refine Ext.alloc ?_ _) | (with_reducible refine Ext.setCell ?_ (by simp) _) | (with_reducible (apply Ext.chain; assumption)))

/-- Both read the same. -/
theorem readPair_4 (str : ByteArray) (hs : str.size ≤ maxLen) (h1 : 0 < str.size) (hk : (str[0]).toNat = 4) : ∃ (k s i ck cm cl cn f c p E : Int),
    (∀ w, Calls Try.prog 8 #[.string str] w fun e w' => e = .returned (.tuple #[.agg #[.int .i64 k, .int .i64 s, .int .i64 i, .int .i64 ck, .int .i64 cm, .int .i64 cl, .int .i64 cn, .int .i64 f, .int .i64 c, .int .i64 p], .int .i64 E]) ∧ Ext w w') ∧
    (∀ w, Calls Try.prog 9 #[.string str] w fun e w' => e = .returned (.tuple #[.agg #[.int .i64 k, .int .i64 s, .int .i64 i, .int .i64 ck, .int .i64 cm, .int .i64 cl, .int .i64 cn, .int .i64 f, .int .i64 c, .int .i64 p], .int .i64 E]) ∧ Ext w w') := by
  by_cases H : ∃ vs, decTo statusL (str.extract 1 str.size).data.toList = some (vs, [])
  · obtain ⟨vs, hd⟩ := H
    have hl := decTo_len _ _ _ _ hd
    match vs, hl, hd with
    | [ck, cm, cl, cn], _, hd =>
      refine ⟨4, 0, 0, ck, cm, cl, cn, 0, 0, 0, 0, fun w => dealerRead_4 str ck cm cl cn (fun w => (wireRead_4 str hs h1 hk w).mono fun e w' h => ?_) w, fun w => (refRead_4 str hs h1 hk w).mono fun e w' h => ?_⟩
      · rcases h with ⟨vs', b, h1, h2, h3, h4⟩ | ⟨h, _⟩
        · rw [hd] at h1
          simp at h1
          subst h1
          exact ⟨b, h2, h3, h4⟩
        · exact absurd hd (h _)
      · rcases h with ⟨ck', cm', cl', cn', h1, h2, h3⟩ | ⟨h, _⟩
        · rw [hd] at h1
          simp at h1
          obtain ⟨rfl, rfl, rfl, rfl⟩ := h1
          exact ⟨h2, h3⟩
        · exact absurd hd (h _)
  · refine ⟨0, 0, 0, 0, 0, 0, 0, 0, 0, 0, 1, fun w => dealerRead_bad str (fun w => (wireRead_4 str hs h1 hk w).mono fun e w' h => ?_) w, fun w => (refRead_4 str hs h1 hk w).mono fun e w' h => ?_⟩
    · rcases h with ⟨vs', b, h1, _⟩ | ⟨_, h⟩
      · exact absurd ⟨vs', h1⟩ H
      · exact h
    · rcases h with ⟨ck', cm', cl', cn', h1, _⟩ | ⟨_, h⟩
      · exact absurd ⟨_, h1⟩ H
      · exact h
end Go.Proofs.Ytmnjhhachdlmkaa
