import Derived.Test.YtmnjhhachdlmkaaConcat
namespace Go.Proofs.Ytmnjhhachdlmkaa
open Go.RowKit

theorem ptrs_at {W : World} {g : Nat} {t : TypeId} {arr : Array Value} (ps : List Addr) (hW : W.heap[g]? = some (.cells arr t (0, 0))) (hA : arr = (ps.map fun p => Value.pointer (some p)).toArray) :
    ∀ i p, ps[i]? = some p → W.cell? ⟨g, i, none⟩ = some (.pointer (some p)) := by
  intro i p h
  rw [cell_of_row W g i _ t (0, 0) hW, hA]
  simp [h]

set_option maxRecDepth 100000 in
theorem class_c (b o : Nat) (w : World) :
    Calls Try.prog 105 #[.pointer (some ⟨b, o, none⟩)] w fun e w' =>
      ∃ v, e = .returned v ∧ w'.ownsRow w.heap.size 80 3 v 4 (fcells [⟨b, o, none⟩, ⟨b, o + 1, none⟩, ⟨b, o + 2, none⟩, ⟨b, o + 3, none⟩] 1 255) ∧ Ext w w' := by
  go_enter Try.func105, Try.ntmps105
  go_wp2
  go_region_with (go_at_call 108; refine (octets_c _ 4 [⟨b, o, none⟩, ⟨b, o + 1, none⟩, ⟨b, o + 2, none⟩, ⟨b, o + 3, none⟩] _ rfl (by decide) ?_).mono ?_; exact ptrs_at _ (by repeat (first | (with_reducible refine at_drew ?_) | ((with_reducible refine at_new ?_); (simp; done)) | (with_reducible refine at_old ?_) | (with_reducible (apply Ext.block; assumption)))) (by rfl); rintro e w1 ⟨v, rfl, ho, hx⟩)
  all_goals go_wp2
  all_goals go_ret
  refine ⟨v, rfl, owns_base ho (by simp), ((Ext.refl w).alloc _).drew.trans hx⟩

theorem row_form {w : World} {base : Nat} {e : TypeId} {size : Nat} {v : Value} {m : Nat} {xs : List Value} (h : w.ownsRow base e size v m xs) (hm : 1 ≤ m) :
    ∃ g cap, v = .slice (some ⟨g, 0, none⟩) m cap ∧ w.ownsRow base e size (.slice (some ⟨g, 0, none⟩) m cap) m xs := by
  rcases h.2 with ⟨_, h0⟩ | ⟨g, cap, cur, hv, _⟩
  · omega
  · exact ⟨g, cap, hv, hv ▸ h⟩

/-- What a function that makes a list of fields leaves. -/
def Made (w : World) (m : Nat) (xs : List Value) (e : Ending) (w' : World) : Prop :=
  ∃ g cap, e = .returned (.slice (some ⟨g, 0, none⟩) m cap) ∧ w'.ownsRow w.heap.size 80 3 (.slice (some ⟨g, 0, none⟩) m cap) m xs ∧ Ext w w'
theorem Made.of {w w' : World} {m : Nat} {xs : List Value} {e : Ending} (hm : 1 ≤ m) (h : ∃ v, e = .returned v ∧ w'.ownsRow w.heap.size 80 3 v m xs ∧ Ext w w') : Made w m xs e w' := by
  obtain ⟨v, rfl, ho, hx⟩ := h
  obtain ⟨g, cap, rfl, ho'⟩ := row_form ho hm
  exact ⟨g, cap, rfl, ho', hx⟩

theorem numbers_m (g m : Nat) (ps : List Addr) (w : World) (hM : ps.length = m) (hm1 : 1 ≤ m) (hm : m ≤ 100) (hc : ∀ i p, ps[i]? = some p → w.cell? ⟨g, i, none⟩ = some (.pointer (some p))) :
    Calls Try.prog 104 #[.slice (some ⟨g, 0, none⟩) m m] w fun e w' => Made w m (fcells ps 4 2147483647) e w' := (numbers_c g m ps w hM hm hc).mono fun _ _ h => .of hm1 h
theorem octets_m (g m : Nat) (ps : List Addr) (w : World) (hM : ps.length = m) (hm1 : 1 ≤ m) (hm : m ≤ 100) (hc : ∀ i p, ps[i]? = some p → w.cell? ⟨g, i, none⟩ = some (.pointer (some p))) :
    Calls Try.prog 108 #[.slice (some ⟨g, 0, none⟩) m m] w fun e w' => Made w m (fcells ps 1 255) e w' := (octets_c g m ps w hM hm hc).mono fun _ _ h => .of hm1 h
theorem class_m (b o : Nat) (w : World) : Calls Try.prog 105 #[.pointer (some ⟨b, o, none⟩)] w fun e w' => Made w 4 (fcells [⟨b, o, none⟩, ⟨b, o + 1, none⟩, ⟨b, o + 2, none⟩, ⟨b, o + 3, none⟩] 1 255) e w' :=
  (class_c b o w).mono fun _ _ h => .of (by decide) h

/-- The fields of a request: of each where it stands in block b, its size, its most. -/
def fl (b : Nat) (l : List (Nat × Int × Int)) : List Value := l.flatMap fun x => [.pointer (some ⟨b, x.1, none⟩), .int .i64 x.2.1, .int .i64 x.2.2]
def leaseL : List (Nat × Int × Int) := [(0, 4, 2147483647), (1, 4, 2147483647), (2, 1, 255), (3, 1, 255), (4, 1, 255), (5, 1, 255), (6, 4, 2147483647)]
def fetchL : List (Nat × Int × Int) := [(0, 4, 2147483647), (1, 1, 255), (2, 1, 255), (3, 1, 255), (4, 1, 255), (5, 4, 2147483647), (6, 4, 2147483647), (7, 1, 255)]
def releaseL : List (Nat × Int × Int) := [(0, 4, 2147483647), (1, 4, 2147483647)]
def statusL : List (Nat × Int × Int) := [(0, 1, 255), (1, 1, 255), (2, 1, 255), (3, 1, 255)]

set_option maxRecDepth 100000 in
theorem releaseFields_c (b : Nat) (w : World) : Calls Try.prog 112 #[.pointer (some ⟨b, 0, none⟩)] w fun e w' => Made w 2 (fl b releaseL) e w' := by
  go_enter Try.func112, Try.ntmps112
  go_wp2
  go_region_with (go_at_call 104; refine (numbers_m _ 2 [⟨b, 0, none⟩, ⟨b, 1, none⟩] _ rfl (by decide) (by decide) ?_).mono ?_; exact ptrs_at _ (by repeat (first | (with_reducible refine at_drew ?_) | ((with_reducible refine at_new ?_); (simp; done)) | (with_reducible refine at_old ?_) | (with_reducible (apply Ext.block; assumption)))) (by rfl); rintro e w1 ⟨g, cap, rfl, ho, hx⟩)
  all_goals go_wp2
  all_goals go_ret
  refine ⟨g, cap, rfl, owns_base ho (by simp), ((Ext.refl w).alloc _).drew.trans hx⟩

set_option maxRecDepth 100000 in
theorem statusFields_c (b : Nat) (w : World) : Calls Try.prog 114 #[.pointer (some ⟨b, 0, none⟩)] w fun e w' => Made w 4 (fl b statusL) e w' := by
  go_enter Try.func114, Try.ntmps114
  go_wp2_with (go_at_call 105; refine (class_m b 0 _).mono ?_; rintro e w1 ⟨g, cap, rfl, ho, hx⟩)
  all_goals go_ret
  exact ⟨g, cap, rfl, ho, hx⟩

theorem one_fcells (ps : List Addr) (a b : Int) : ∀ u ∈ fcells ps a b, u.oneCell' = true := by
  intro u hu
  simp only [fcells, List.mem_flatMap] at hu
  obtain ⟨p, _, hu⟩ := hu
  simp at hu
  rcases hu with rfl | rfl | rfl <;> rfl

theorem ok_of {w W : World} {base g n cap : Nat} {ps : List Addr} {a b : Int} (ho : w.ownsRow base 80 3 (.slice (some ⟨g, 0, none⟩) n cap) n (fcells ps a b)) (h1 : 1 ≤ n) (h2 : n ≤ 10) (hx : Ext w W) :
    FRow.ok ⟨g, n, cap, fcells ps a b⟩ W := ⟨owns_base (hx.owns ho) (Nat.zero_le _), h1, h2, one_fcells ps a b⟩

theorem vals_at {W : World} {g : Nat} {t : TypeId} {arr : Array Value} (rs : List FRow) (hW : W.heap[g]? = some (.cells arr t (0, 0))) (hA : arr = (rs.map FRow.val).toArray) :
    ∀ (i : Nat) (h : i < rs.length), W.cell? ⟨g, i, none⟩ = some rs[i].val := by
  intro i h
  rw [cell_of_row W g i _ t (0, 0) hW, hA]
  simp [h]

theorem concat_m (g m : Nat) (rs : List FRow) (w : World) (n : Nat) (xs : List Value) (hM : rs.length = m) (hm1 : 1 ≤ m) (hm2 : m ≤ 10) (hn : sumN rs = n) (hn1 : 1 ≤ n) (hxs : flatX rs = xs) (hrs : ∀ r ∈ rs, r.ok w) (hc : ∀ (i : Nat) (h : i < rs.length), w.cell? ⟨g, i, none⟩ = some rs[i].val) :
    Calls Try.prog 103 #[.slice (some ⟨g, 0, none⟩) m m] w fun e w' => Made w n xs e w' :=
  (concatF_c g m rs w hM hm1 hm2 hrs hc).mono fun _ _ h => .of hn1 (by rw [← hn, ← hxs]; exact h)

theorem three_ok {w : World} {a b c : FRow} (h1 : a.ok w) (h2 : b.ok w) (h3 : c.ok w) : ∀ r ∈ [a, b, c], r.ok w := by simp; exact ⟨h1, h2, h3⟩
theorem four_ok {w : World} {a b c d : FRow} (h1 : a.ok w) (h2 : b.ok w) (h3 : c.ok w) (h4 : d.ok w) : ∀ r ∈ [a, b, c, d], r.ok w := by simp; exact ⟨h1, h2, h3, h4⟩

end Go.Proofs.Ytmnjhhachdlmkaa
