import Derived.Test.YtmnjhhachdlmkaaTri2
namespace Go.Proofs.Ytmnjhhachdlmkaa
open Go.RowKit

theorem nw_plus (w : World) : (nilAhead 301 145 (.agg #[]) "dealer/triple.plus").run Try.prog w = .ok (some false) w := by kernel_rfl
theorem nw_times (w : World) : (nilAhead 301 145 (.agg #[]) "dealer/triple.times").run Try.prog w = .ok (some false) w := by kernel_rfl

/-- The sum of the i first products for row r, column c. -/
def dotN (bt : Bool) (zs ys : List Int) (k n r c : Nat) : Nat → Int
  | 0 => 0
  | i + 1 => plusN bt (dotN bt zs ys k n r c i) (timesN bt (zs.getD (r * k + i) 0) (ys.getD (i * n + c) 0))
def rowN (bt : Bool) (zs ys : List Int) (k n r c : Nat) : List Int := (List.range c).map fun j => dotN bt zs ys k n r j k
def matN (bt : Bool) (zs ys : List Int) (k n r : Nat) : List Int := (List.range r).flatMap fun i => rowN bt zs ys k n i n

theorem rowN_succ (bt : Bool) (zs ys : List Int) (k n r c : Nat) : rowN bt zs ys k n r (c + 1) = rowN bt zs ys k n r c ++ [dotN bt zs ys k n r c k] := by
  simp [rowN, List.range_succ]
theorem matN_succ (bt : Bool) (zs ys : List Int) (k n r : Nat) : matN bt zs ys k n (r + 1) = matN bt zs ys k n r ++ rowN bt zs ys k n r n := by
  simp [matN, List.range_succ]

theorem mul_add_lt {r m k q : Nat} (h : r < m) (g : q < k) : r * k + q < m * k := by
  have := Nat.mul_le_mul (show r + 1 ≤ m by omega) (Nat.le_refl k)
  rw [Nat.add_mul] at this; omega
theorem wrap_small {x : Nat} (h : x ≤ 1000000) : IntKind.i64.wrap (x : Int) = x := by
  exact i64w (by omega) (by omega)
theorem and_cell4 {a b : World} {p1 p2 p3 p4 : Addr} {v1 v2 v3 v4 : Value} (h1 : a.cell? p1 = some v1) (h2 : a.cell? p2 = some v2) (h3 : a.cell? p3 = some v3) (h4 : a.cell? p4 = some v4) (h : Ext a b) :
    (b.cell? p1 = some v1 ∧ b.cell? p2 = some v2 ∧ b.cell? p3 = some v3 ∧ b.cell? p4 = some v4) ∧ Ext a b := ⟨⟨h.cell h1, h.cell h2, h.cell h3, h.cell h4⟩, h⟩

set_option maxRecDepth 100000 in
set_option maxHeartbeats 1600000 in
theorem matW_c (b off cap b2 off2 cap2 p m k n la lb : Nat) (zs ys : List Int) (hla : la = m * k) (hlb : lb = k * n) (hn : zs.length = la) (hn2 : ys.length = lb) (hm : m ≤ 3) (hk : k ≤ 3) (hnn : n ≤ 3) (w : World) (hz : WordsAt w b off zs) (hy : WordsAt w b2 off2 ys) :
    Calls Try.prog 67 #[.iface 145 (.agg #[]), .agg #[.int .i64 p, .int .i64 m, .int .i64 k, .int .i64 n], .slice (some ⟨b, off, none⟩) la cap, .slice (some ⟨b2, off2, none⟩) lb cap2] w fun e w' =>
      ∃ v, e = .returned v ∧ w'.ownsRow w.heap.size 47 1 v (m * n) ((matN false zs ys k n m).map (Value.int .u64)) ∧ Ext w w' := by
  obtain ⟨i0, hi, hz0, hz1, hz2⟩ := info_parts infoU64
  have HZ : Hid (WordsAt w b off zs) := hz
  have HY : Hid (WordsAt w b2 off2 ys) := hy
  have HN : Hid (zs.length = la) := hn
  have HN2 : Hid (ys.length = lb) := hn2
  have HLA : Hid (la = m * k) := hla
  have HLB : Hid (lb = k * n) := hlb
  have hm1 := mw_plus
  have hm2 := mw_times
  have hnw := nw_plus
  have hnt := nw_times
  clear hz hy hn hn2 hla hlb
  go_enter Try.func67, Try.ntmps67
  go_wp2
  generalize hW : World.alloc w _ = W
  have hxW : Ext w W := hW ▸ (Ext.refl w).alloc _
  have hb : W.heap[w.heap.size]? = some (.cells #[.int .i64 p, .int .i64 m, .int .i64 k, .int .i64 n] 122) := by rw [← hW]; exact heap_alloc_new w _
  have hs1 : W.cell? ⟨w.heap.size, 1, none⟩ = some (.int .i64 m) := by rw [cell_of_row W _ 1 _ _ _ hb]; rfl
  have hs2 : W.cell? ⟨w.heap.size, 2, none⟩ = some (.int .i64 k) := by rw [cell_of_row W _ 2 _ _ _ hb]; rfl
  have hs3 : W.cell? ⟨w.heap.size, 3, none⟩ = some (.int .i64 n) := by rw [cell_of_row W _ 3 _ _ _ hb]; rfl
  clear hb
  have HXW : Hid (Ext w W) := hxW
  clear hxW hW
  go_loopw [9, 16] (fun u i wr => ∃ r : Nat, r ≤ m ∧ i = .int .i64 r ∧ wr.ownsRow W.heap.size 47 1 u (r * n) ((matN false zs ys k n r).map (Value.int .u64)) ∧ Ext W wr) (fun _ i _ => m - (intOf i).toNat)
  case atStart => exact ⟨0, Nat.zero_le _, rfl, by rw [Nat.zero_mul]; exact World.ownsRow_nil _ _ _ _, Ext.refl _⟩
  case round =>
    obtain ⟨r, hr, rfl, ho, hx⟩ := hrel
    have HO : Hid _ := ho
    clear ho
    by_cases hlt : r < m
    · have f1 := hx.cell hs1
      have f2 := hx.cell hs2
      have f3 := hx.cell hs3
      have g1 := Nat.mul_le_mul hr (Nat.le_refl n)
      have hrk := Nat.mul_le_mul (show r ≤ 2 by omega) hk
      go_wp2
      go_loopw [9, 21] (fun u i ws => ∃ c : Nat, c ≤ n ∧ i = .int .i64 c ∧ ws.ownsRow W.heap.size 47 1 u (r * n + c) ((matN false zs ys k n r ++ rowN false zs ys k n r c).map (Value.int .u64)) ∧ Ext W ws) (fun _ i _ => n - (intOf i).toNat)
      case atStart => exact ⟨0, Nat.zero_le _, rfl, by rw [show rowN false zs ys k n r 0 = [] from rfl, List.append_nil]; exact HO.out, hx⟩
      case round =>
        clear f1 f2 f3 HO hx
        obtain ⟨c, hc, rfl, ho, hx⟩ := hrel
        rename World => W2
        have hlow := fun q hq => (World.ownsRow.lt ho q hq).1
        have HO : Hid _ := ho
        clear ho
        by_cases hlc : c < n
        · have f2 := hx.cell hs2
          have f3 := hx.cell hs3
          go_wp2
          go_loopw [12, 26] (fun u i wt => ∃ q : Nat, q ≤ k ∧ i = .int .i64 q ∧ u = .int .u64 (dotN false zs ys k n r c q) ∧ Ext W2 wt) (fun _ i _ => k - (intOf i).toNat)
          case atStart => exact ⟨0, Nat.zero_le _, rfl, rfl, Ext.refl _⟩
          case round =>
            obtain ⟨q, hq, rfl, rfl, hx3⟩ := hrel
            by_cases hlq : q < k
            · have e0w := (HXW.out.trans hx).cell (HZ.out (r * k + q) (by rw [HN.out, HLA.out]; exact mul_add_lt hlt hlq))
              have e1w := (HXW.out.trans hx).cell (HY.out (q * n + c) (by rw [HN2.out, HLB.out]; exact mul_add_lt hlq hlc))
              have b0 : r * k + q < la := by rw [HLA.out]; exact mul_add_lt hlt hlq
              have b1 : q * n + c < lb := by rw [HLB.out]; exact mul_add_lt hlq hlc
              have hqn := Nat.mul_le_mul (show q ≤ 2 by omega) hnn
              have v1 : IntKind.i64.wrap ((r : Int) * (k : Int)) = ((r * k : Nat) : Int) := by rw [← Int.natCast_mul]; exact wrap_small (by omega)
              have v2 : IntKind.i64.wrap ((q : Int) * (n : Int)) = ((q * n : Nat) : Int) := by rw [← Int.natCast_mul]; exact wrap_small (by omega)
              have hD : dotN false zs ys k n r c (q + 1) = plusN false (dotN false zs ys k n r c q) (timesN false (zs.getD (r * k + q) 0) (ys.getD (q * n + c) 0)) := rfl
              generalize hzk : zs.getD (r * k + q) 0 = z at *
              generalize hyk : ys.getD (q * n + c) 0 = y at *
              generalize hdd : dotN false zs ys k n r c q = dd at *
              generalize r * k = rk at *
              generalize q * n = qn at *
              have s1 : (rk : Int) + (q : Int) = ((rk + q : Nat) : Int) := by omega
              have s2 : (qn : Int) + (c : Int) = ((qn + c : Nat) : Int) := by omega
              have v3 : IntKind.i64.wrap ((rk : Int) + (q : Int)) = ((rk + q : Nat) : Int) := by rw [s1]; exact wrap_small (by omega)
              have v4 : IntKind.i64.wrap ((qn : Int) + (c : Int)) = ((qn + c : Nat) : Int) := by rw [s2]; exact wrap_small (by omega)
              generalize hx1 : rk + q = x1 at *
              generalize hx2 : qn + c = x2 at *
              clear s1 s2 hx1 hx2 hrk hqn g1
              have d0 : (0 : Int) ≤ (x1 : Int) := by omega
              have d1 : (x1 : Int) < la := by omega
              have d2 : (0 : Int) ≤ (x2 : Int) := by omega
              have d3 : (x2 : Int) < lb := by omega
              have j1 := hx3.cell f2
              have j2 := hx3.cell f3
              have j3 := hx3.cell e0w
              have j4 := hx3.cell e1w
              go_wp2
              go_region_held3 (fun w' => (w'.cell? ⟨w.heap.size, 2, none⟩ = some (.int .i64 k) ∧ w'.cell? ⟨w.heap.size, 3, none⟩ = some (.int .i64 n) ∧ w'.cell? ⟨b, off + x1, none⟩ = some (.int .u64 z) ∧ w'.cell? ⟨b2, off2 + x2, none⟩ = some (.int .u64 y)) ∧ Ext W2 w')
                ((refine and_cell4 f2 f3 e0w e1w ?_; (repeat (first | with_reducible exact Ext.refl _ | with_reducible assumption | with_reducible refine Ext.drew ?_ | with_reducible refine Ext.alloc ?_ _ | with_reducible (apply Ext.chain; assumption))); done))
                (first
                  | (go_at_call 124; refine (wordsTimes_c _ _ _).mono ?_; rintro e w1 ⟨rfl, hx4⟩)
                  | (go_at_call 123; refine (wordsPlus_c _ _ _).mono ?_; rintro e w2 ⟨rfl, hx5⟩))
              all_goals (go_wp2; go_roundw)
              all_goals first
                | (refine ⟨q + 1, by omega, by go_num, by rw [hD], ?_⟩; (repeat (first | with_reducible exact Ext.refl _ | with_reducible assumption | with_reducible refine Ext.drew ?_ | with_reducible refine Ext.alloc ?_ _ | with_reducible (apply Ext.chain; assumption))); done)
                | (simp [intOf]; omega)
            · obtain rfl : q = k := by omega
              have hxx : Ext W _ := hx.trans hx3
              have ho2 := Ext.owns hx3 HO.out
              have hbase := hxx.le
              go_wp2_with (at_builtin; refine wpList_append_own _ rfl _ _ 27 rfl W.heap.size 47 i0 (.int .u64 0) 1 8 Try.underlying27 hi hz0 hz1 hz2 rfl (by decide) _ _ _ rfl (World.ownsRow.alloc ho2 _) ⟨_, 0, none⟩ 1 1 [.int .u64 (dotN false zs ys q n r c q)] rfl rfl ?c1 ?c2 ?c3 ?c4 ?c5 ?_)
              case c1 => exact cell_one_new _ _ _
              case c2 => intro u hu; simp at hu; subst hu; rfl
              case c3 => have := Nat.mul_le_mul (show r ≤ 3 by omega) hnn; unfold maxLen; omega
              case c4 => have := Nat.mul_le_mul (show r ≤ 3 by omega) hnn; omega
              case c5 => simp; omega
              · intro v' w1 hown' hgrow _
                have R : w1.ownsRow W.heap.size 47 1 v' (r * n + (c + 1)) ((matN false zs ys q n r ++ rowN false zs ys q n r (c + 1)).map (Value.int .u64)) := by
                  rw [rowN_succ, List.map_append, List.map_append, ← Nat.add_assoc]; exact hown'
                have R2 : Ext W w1 := Ext.grown (hxx.alloc _) hgrow hlow
                clear hown' hgrow
                go_wp2
                go_roundw
                case rel => exact ⟨c + 1, by omega, by go_num, R, R2⟩
                case measure => simp [intOf]; omega
        · obtain rfl : c = n := by omega
          have R : World.ownsRow W2 W.heap.size 47 1 u9 ((r + 1) * c) ((matN false zs ys k c (r + 1)).map (Value.int .u64)) := by
            rw [matN_succ, Nat.add_mul, Nat.one_mul]; exact HO.out
          go_wp2
          go_roundw
          case rel => exact ⟨r + 1, by omega, by go_num, R, hx⟩
          case measure => simp [intOf]; omega
    · obtain rfl : r = m := by omega
      go_wp2
      go_ret
      exact ⟨_, rfl, owns_base HO.out HXW.out.le, HXW.out.trans hx⟩
end Go.Proofs.Ytmnjhhachdlmkaa
