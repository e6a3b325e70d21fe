import Derived.Test.YtmnjhhachdlmkaaGreatK20
import Derived.Test.YtmnjhhachdlmkaaGreatK17
namespace Go.Proofs.YtmnjhhachdlmkaaGreat
set_option linter.unusedVariables false
set_option linter.unusedSimpArgs false
open List renaming getElem_toArray -> lA, getElem_cons_succ -> lB, getElem_cons_zero -> lC, setIfInBounds_toArray -> lD, set_cons_zero -> lE, set_cons_succ -> lF
open World renaming block_lt_of_cell? -> lG
open Value renaming ownBlock -> lH
-- VKe
section
set_option maxRecDepth 100000
set_option maxHeartbeats 16000000
open Go.RowKit Go.Maps
theorem told_norm (x : Stk) : x.norm.told = x.told := by
 unfold Stk.told Stk.norm
 simp only [List.length_map]
 have : ((x.ts.map (normU x.sh)).filter (·.2)).length = (x.ts.filter (·.2)).length := by
  rw [List.filter_map, List.length_map]
  congr 1
  exact List.filter_congr (fun u _ => normU_2 x.sh u)
 rw [this]
theorem toldAll_norm (S : List Stk) : toldAll (normS S) = toldAll S := by
 unfold toldAll normS
 induction S with
 | nil => rfl
 | cons x t ih => simp only [List.map_cons, List.flatMap_cons, told_norm, ih]
theorem infoReply : (Tryz.prog.info? 33).map (fun i => (i.zero, i.size, i.bytes)) = some (some (.agg #[.int .i64 0, .int .i64 0, .int .i64 0, .slice none 0 0]), 4, 48) := by kernel_rfl
structure RepV where
 c : Int
 f : Int
 n : Int
 ra : Option Addr
 rl : Nat
 rc : Nat
 zs : List Int
def RepV.cells (y : RepV) : List Value := [.int .i64 y.c, .int .i64 y.f, .int .i64 y.n, .slice y.ra y.rl y.rc]
def repCells (ys : List RepV) : List Value := ys.flatMap RepV.cells
def DS.told (d : DS) (l : LsV) (q : Nat) : Rep := (d.ask 2 l.s 0 l.kd l.m l.k l.n l.f l.c ((q % 2 : Nat) : Int)).1
structure AskEnd (wr V : World) (B : Nat) (F F' : Nat -> Prop) (p : Rep × DS) (rb : Nat) (ra : Option Addr) (rl rc : Nat) : Prop where
 deal : DealX V B F' p.2
 turn : Turn F wr V
 grows : ∀ b, F' b -> F b \/ wr.heap.size <= b
 rep : V.heap[rb]? = some (.cells #[.int .i64 p.1.c, .int .i64 p.1.f, .int .i64 p.1.n, .slice ra rl rc] 33 (0, 0))
 new : wr.heap.size <= rb
 out : ¬ F' rb
 le : p.1.zs.length <= 100000000
 row : V.ownsRow wr.heap.size 146 1 (.slice ra rl rc) p.1.zs.length (p.1.zs.map (Value.int .u64))
 free : ∀ b, (Value.slice ra rl rc).ownBlock = some b -> ¬ F' b
theorem cut_ke {P : Prop} {K : Act -> World -> Prop} (act : Nat -> Option Addr -> Nat -> Nat -> Act) (I : Nat -> Option Addr -> Nat -> Nat -> World -> Prop) (h1 : (∀ rb ra rl rc V, I rb ra rl rc V -> K (act rb ra rl rc) V) -> P) (h2 : ∀ rb ra rl rc V, I rb ra rl rc V -> K (act rb ra rl rc) V) : P := h1 h2
theorem ask_end {wr wA w6 w7 V : World} {B : Nat} {F F' : Nat -> Prop} {p : Rep × DS} {rb : Nat} {ra : Option Addr} {rl rc : Nat} (hx : Ext wr wA) (hso : XSo p wA w6 B F (.slice ra rl rc) F') (hzs : p.1.zs.length <= 100000000) (hx7 : Ext w6 w7) (hV : Turn (fun b => b = rb) w7 V) (hv : V.heap[rb]? = some (.cells #[.int .i64 p.1.c, .int .i64 p.1.f, .int .i64 p.1.n, .slice ra rl rc] 33 (0, 0))) (hn : wr.heap.size <= rb) (hF : ¬ F' rb) (hr : rb < wA.heap.size \/ w6.heap.size <= rb) : AskEnd wr V B F F' p rb ra rl rc := by
 have hl := hx.le
 have h6 := hso.turn.size
 refine ⟨(hso.deal.ext hx7).turn hV (fun b hb e => hF (e ▸ hb)), (((Turn.of_ext hx).trans hso.turn).trans (Turn.of_ext hx7)).trans' hV (fun b hb e => by omega), fun b hb => (hso.grows b hb).imp id (fun h => by omega), hv, hn, hF, hzs, hV.owns (hx7.owns (owns_base hso.row hl)) (fun q hq e => ?_), hso.free⟩
 have := World.ownsRow.lt hso.row q hq
 omega
structure RepAt (w : World) (F : Nat -> Prop) (r : Rep) (y : RepV) : Prop where
 c : y.c = r.c
 f : y.f = r.f
 n : y.n = r.n
 zs : y.zs = r.zs
 len : y.zs.length = y.rl
 le : y.rl <= 100000000
 row : RdRow w y.ra y.rl (y.zs.map (Value.int .u64))
 own : ∀ g, y.ra = some ⟨g, 0, none⟩ -> g < w.heap.size /\ ¬ F g /\ ∃ cur, w.heap[g]? = some (.cells cur 146 (0, 0))
theorem RepAt.turn {w w' : World} {F F' X : Nat -> Prop} {r : Rep} {y : RepV} (h : RepAt w F r y) (ht : Turn X w w') (hx : ∀ b cur, X b -> w.heap[b]? = some (.cells cur 146 (0, 0)) -> F b \/ w.heap.size <= b) (hF : ∀ b, F' b -> F b \/ w.heap.size <= b) : RepAt w' F' r y := by
 have hno : ∀ g, y.ra = some ⟨g, 0, none⟩ -> ¬ X g := fun g hg hX => by
  obtain ⟨h1, h2, cur, h3⟩ := h.own g hg
  exact (hx g cur hX h3).elim h2 (fun h' => by omega)
 refine ⟨h.c, h.f, h.n, h.zs, h.len, h.le, h.row.turn ht hno, fun g hg => ?_⟩
 obtain ⟨h1, h2, cur, h3⟩ := h.own g hg
 exact ⟨Nat.lt_of_lt_of_le h1 ht.size, fun hf => (hF g hf).elim h2 (fun h' => by omega), cur, ht.ref h3 (hno g hg)⟩
theorem AskEnd.repAt {wr V : World} {B : Nat} {F F' : Nat -> Prop} {p : Rep × DS} {rb : Nat} {ra : Option Addr} {rl rc : Nat} (h : AskEnd wr V B F F' p rb ra rl rc) : RepAt V F' p.1 ⟨p.1.c, p.1.f, p.1.n, ra, rl, rc, p.1.zs⟩ := by
 obtain ⟨a, cap, he⟩ := owns_slice h.row
 injection he with e1 e2 e3
 refine ⟨rfl, rfl, rfl, rfl, e2.symm, by rw [e2]; exact h.le, ?_, fun g hg => ?_⟩
 ·have h1 := h.row
  simp only
  rw [<- e2] at h1
  exact rd_owns h1
 ·have hb : (Value.slice ra rl rc).ownBlock = some g := by rw [show ra = some ⟨g, 0, none⟩ from hg]; rfl
  exact ⟨owns_lt h.row hb, h.free g hb, owns_block h.row hb⟩
structure WasX (w3 wr : World) (B : Nat) (F1 : Nat -> Prop) (d : DS) (u : Value) (ys : List RepV) (F' : Nat -> Prop) : Prop where
 deal : DealX wr B F' d
 turn : Turn F1 w3 wr
 grows : ∀ b, F' b -> F1 b \/ w3.heap.size <= b
 row : wr.ownsRow w3.heap.size 33 4 u ys.length (repCells ys)
 free : ∀ q, u.ownBlock = some q -> ¬ F' q
 reps : ∀ q (h : q < ys.length) (h' : q < d.ls.length), RepAt wr F' (d.told d.ls[q] q) ys[q]
theorem repCells_append (a b : List RepV) : repCells (a ++ b) = repCells a ++ repCells b := by simp [repCells]
theorem repCells_at (ys : List RepV) (j i : Nat) (hj : j < ys.length) (hi : i < 4) : (repCells ys)[j * 4 + i]? = ys[j].cells[i]? := by
 induction ys generalizing j with
 | nil => simp at hj
 | cons y t ih =>
  have e : repCells (y :: t) = y.cells ++ repCells t := by simp [repCells]
  have hl : y.cells.length = 4 := rfl
  rw [e]
  cases j with
  | zero => rw [Nat.zero_mul, Nat.zero_add, List.getElem?_append_left (by omega)]; rfl
  | succ j =>
   rw [List.getElem?_append_right (by omega), hl, show (j + 1) * 4 + i - 4 = j * 4 + i by omega, ih j (by simpa using hj)]
   rfl
theorem was_ask {w3 wr V : World} {B : Nat} {F1 F2 F' : Nat -> Prop} {d : DS} {u : Value} {ys : List RepV} {r : Rep} {rb : Nat} {ra : Option Addr} {rl rc : Nat} (hW : WasX w3 wr B F1 d u ys F2) (hA : AskEnd wr V B F2 F' (r, d) rb ra rl rc) : WasX w3 V B F1 d u ys F' := by
 have hs := hW.turn.size
 have hbl : ∀ q, u.ownBlock = some q -> w3.heap.size <= q /\ q < wr.heap.size := fun q hq => World.ownsRow.lt hW.row q hq
 refine ⟨hA.deal, hW.turn.trans' hA.turn (fun b hb e => (hW.grows b e).elim id (fun h => by omega)), fun b hb => (hA.grows b hb).elim (hW.grows b) (fun h => .inr (by omega)), hA.turn.owns hW.row hW.free, fun q hq hf => ?_, fun q h h' => (hW.reps q h h').turn hA.turn (fun b _ hb _ => .inl hb) (fun b hb => hA.grows b hb)⟩
 exact (hA.grows q hf).elim (hW.free q hq) (fun h => by have := hbl q hq; omega)
theorem was_append {w3 V Va w4 : World} {B g cap j : Nat} {F1 F' : Nat -> Prop} {d : DS} {u : Value} {ys : List RepV} {y : RepV} (hW : WasX w3 V B F1 d u ys F') (hj : ys.length = j) (hjl : j < d.ls.length) (hy : RepAt V F' (d.told d.ls[j] j) y) (hxa : Ext V Va) (hg : Va.grownBy w4 u.ownBlock) (hrow : w4.ownsRow w3.heap.size 33 4 (.slice (some ⟨g, 0, none⟩) (j + 1) cap) (j + 1) (repCells ys ++ y.cells)) (hat : u.ownBlock = some g \/ V.heap.size <= g) : WasX w3 w4 B F1 d (.slice (some ⟨g, 0, none⟩) (j + 1) cap) (ys ++ [y]) F' := by
 have hT : Turn (fun b => u.ownBlock = some b) V w4 := Turn.grown (Turn.of_ext hxa) hg (fun q hq _ => hq)
 have hl := hxa.le
 have hbl : ∀ q, u.ownBlock = some q -> w3.heap.size <= q /\ q < V.heap.size := fun q hq => World.ownsRow.lt hW.row q hq
 have hty : ∀ b cur, u.ownBlock = some b -> V.heap[b]? = some (.cells cur 146 (0, 0)) -> F' b \/ V.heap.size <= b := fun b cur hb hc => by
  obtain ⟨cur', hc'⟩ := owns_block hW.row hb
  rw [hc] at hc'
  simp at hc'
 refine ⟨hW.deal.turn hT (fun b hb e => hW.free b e hb), hW.turn.trans' hT (fun b hb e => by have := hbl b e; omega), hW.grows, ?_, fun q hq hf => ?_, fun q h h' => ?_⟩
 ·rw [List.length_append, hj, repCells_append]
  simpa [repCells] using hrow
 ·have hq' : g = q := by simpa [lH] using hq
  subst hq'
  rcases hat with h | h
  ·exact hW.free g h hf
  ·have := hW.deal.lt g hf; omega
 ·by_cases hq : q < ys.length
  ·rw [List.getElem_append_left hq]
   exact (hW.reps q hq h').turn hT (fun b cur hb hc => hty b cur hb hc) (fun b hb => .inl hb)
  ·obtain rfl : q = j := by rw [List.length_append, List.length_singleton] at h; omega
   rw [List.getElem_append_right (by omega)]
   simp only [hj, Nat.sub_self, lC]
   exact hy.turn hT (fun b cur hb hc => hty b cur hb hc) (fun b hb => .inl hb)
theorem kept_x {w0 : World} {P N : Nat} {G : Nat -> Prop} {d : DS} {fs : List FileV} (w : World) (hR : RunsOf w0 w P N d fs G) (hN : N <= 155000) :
  Calls Tryz.prog 22 #[.pointer (some ⟨P, 0, none⟩)] w fun e w' => e = .returned (.bool true) /\ Turn (fun b => w0.heap.size <= b) w0 w' := by
 obtain ⟨⟨⟨B, F, fv, hr, hd, hf, h4, h5, h6⟩, h7, h8⟩, hrun, _, hnew, hturn⟩ := hR
 obtain ⟨g1, g2, g3, g4, g5⟩ := settle_ok hrun (by omega)
 have hops := hrun.ops
 have HSe : Hid (∀ w', Ext w w' -> _) := fun w' hx => settled_x hrun.good (by omega) w' (hx.block hr) (hd.ext hx) h4
 have HKn : Hid (d.settle.1 = true -> d.settle.2.kn = true) := settle_kn hrun.good
 have HAll : Hid (FileRow w 0 fv fs /\ (¬ F P) /\ (∀ q, fv.ownBlock = some q -> ¬ F q /\ G q /\ q ≠ P) /\ (∀ b, F b -> G b) /\ G P /\ (∀ b, G b -> b < w.heap.size) /\ (∀ b, G b -> w0.heap.size <= b) /\ Turn (fun b => w0.heap.size <= b) w0 w) := ⟨hf, h4, h5, h6, h7, h8, hnew, hturn⟩
 generalize d.settle = st at *
 obtain ⟨sb1, d1⟩ := st
 simp only at *
 have HG : Hid (d1.Good /\ Backs d1 fs /\ Sz d1 fs (N + 1) /\ d1.ops.length <= 1000000 /\ fs.length + d1.ops.length <= 10000000) := ⟨g1, g2, g3, by omega, by omega⟩
 clear hr hd hf h4 h5 h6 h7 h8 hrun hnew hturn g1 g2 g3 g4 g5 hops
 go_enter Tryz.func22, Tryz.ntmps22
 go_wp2_with fail
 refine (HSe.out _ (Ext.refl _)).mono ?_
 rintro e w1 ⟨rfl, F1, hx1⟩
 have HX1 : Hid (RunX d1 w w1 P B fv F F1) := hx1
 have p0 := cell_at hx1.run (i := 0) rfl
 have hPl := lG w1 _ p0
 clear hx1
 go_wp2_with fail
 refine (leases_x HG.out.1 HX1.out.deal).mono ?_
 rintro e w2 ⟨lv, rfl, ho2, hx2⟩
 have HL2 : Hid (w2.ownsRow w1.heap.size 56 9 lv d1.ls.length (lsCells d1.ls) /\ Ext w1 w2) := ⟨ho2, hx2⟩
 have p2 := hx2.cell p0
 have hP2 := lG w2 _ p2
 clear ho2 hx2 p0 hPl
 go_wp2_with fail
 refine (classes_x HG.out.1 (HX1.out.deal.ext HL2.out.2)).mono ?_
 rintro e w3 ⟨sv, rfl, ho3, hx3⟩
 have HS3 : Hid (w3.ownsRow w2.heap.size 116 7 sv d1.S.length (toldAll d1.S) /\ Ext w2 w3) := ⟨ho3, hx3⟩
 have p3 := hx3.cell p2
 have HTw : Hid (Turn (fun b => w0.heap.size <= b) w0 w3) := ((HAll.out.2.2.2.2.2.2.2.trans' HX1.out.turn (fun b _ hb => HAll.out.2.2.2.2.2.2.1 b (HAll.out.2.2.2.1 b hb))).trans (Turn.of_ext HL2.out.2)).trans (Turn.of_ext hx3)
 clear ho3 hx3 p2 hP2
 cases sb1
 ·go_wp2_with fail
  go_ret
  exact ⟨rfl, HTw.out⟩
 ·obtain ⟨la, lcap, rfl⟩ := owns_slice HL2.out.1
  obtain ⟨n, hn⟩ : ∃ n, d1.ls.length = n := ⟨_, rfl⟩
  have HN : Hid (d1.ls.length = n) := hn
  have hnb : n <= 30 := by have := HG.out.1.inv.leases; omega
  rw [hn] at HL2
  rw [hn]
  clear hn
  have hla : n ≠ 0 -> ∃ gl, la = some ⟨gl, 0, none⟩ /\ w1.heap.size <= gl := fun h => by
   rcases owns_form HL2.out.1 with ⟨_, h0, _⟩ | ⟨g, cap, he, hb, _, _⟩
   ·exact absurd h0 h
   ·injection he with e1 e2 e3
    exact ⟨g, e1, hb⟩
  have HLA : Hid (n ≠ 0 -> ∃ gl, la = some ⟨gl, 0, none⟩ /\ w1.heap.size <= gl) := hla
  have HF1P : Hid (¬ F1 P) := fun hf => by
   have h1 := HAll.out.2.2.2.2.2.1 P HAll.out.2.2.2.2.1
   exact (HX1.out.grows P hf).elim HAll.out.2.1 (fun h => by omega)
  have HP3 : Hid (w3.cell? ⟨P, 0, none⟩ = some (.pointer (some ⟨B, 0, none⟩)) /\ RunAt w3 P B fv) := ⟨p3, HS3.out.2.block (HL2.out.2.block HX1.out.run)⟩
  have HL3 : Hid (w3.ownsRow w1.heap.size 56 9 (.slice la n lcap) n (lsCells d1.ls)) := HS3.out.2.owns HL2.out.1
  have HD3 : Hid (DealX w3 B F1 d1) := HX1.out.deal.ext (HL2.out.2.trans HS3.out.2)
  have hs13 : w1.heap.size <= w3.heap.size := (HL2.out.2.trans HS3.out.2).le
  have HS13 : Hid (w1.heap.size <= w3.heap.size) := hs13
  clear hla p3 hs13
  go_wp2_with fail
  go_loopw [6, 7] (fun u i wr => ∃ j : Nat, j <= n /\ i = .int .i64 j /\ ∃ ys F', ys.length = j /\ WasX w3 wr B F1 d1 u ys F') (fun _ i _ => n - (intOf i).toNat)
  case atStart => exact ⟨0, Nat.zero_le _, rfl, [], F1, rfl, HD3.out, Turn.refl _ _, fun _ h => .inl h, World.ownsRow_nil _ _ _ _, fun q hq => by simp [lH] at hq, fun q h => absurd h (Nat.not_lt_zero _)⟩
  case round =>
   obtain ⟨j, hj, rfl, ys, F2, hyl, hW⟩ := hrel
   have HYL : Hid (ys.length = j) := hyl
   have HW : Hid (WasX w3 wr B F1 d1 u6 ys F2) := hW
   clear hyl hW
   have p0 := HW.out.turn.cell HP3.out.1 HF1P.out
   have hPl := lG wr _ p0
   by_cases hlt : j < n
   ·obtain ⟨gl, rfl, hgl0⟩ := HLA.out (by omega)
    have hjl : j < d1.ls.length := by rw [HN.out]; exact hlt
    have HFg : Hid (¬ F1 gl /\ gl < w3.heap.size) := ⟨fun hf => by have := HX1.out.deal.lt gl hf; omega, owns_lt HL3.out rfl⟩
    obtain ⟨l0, l1, l2, l3, l4, l5, l6, l7, l8⟩ := (show LeasesAt wr (.slice (some ⟨gl, 0, none⟩) n lcap) d1.ls from by
     show World.ownsRow _ _ _ _ _ _ _
     rw [HN.out]
     exact HW.out.turn.owns (owns_base HL3.out (Nat.zero_le _)) (fun q hq e => by
      simp [lH] at hq
      subst hq
      exact HFg.out.1 e)).cells j hjl
    have hgl := lG wr _ l0
    have hj0 : (0 : Int) <= (j : Int) := by omega
    have hj1 : (j : Int) < n := by omega
    have hmd : Int.tmod (j : Int) 2 = ((j % 2 : Nat) : Int) := by rw [Int.tmod_eq_emod_of_nonneg (by omega)]; rfl
    clear hgl0
    obtain ⟨i0, hi, hz0, hz1, hz2⟩ := info_parts infoReply
    have HL : Hid (d1.ls[j] ∈ d1.ls) := List.getElem_mem hjl
    have hm2 : j % 2 < 2 := Nat.mod_lt _ (by omega)
    obtain ⟨x, hxS, e1, e2, e3, e4, c0, f0, n0, zs, hask, hfree, hrel⟩ := told_ask HG.out.1 HL.out (p := ((j % 2 : Nat) : Int)) (by omega)
    have HTold : Hid (d1.told d1.ls[j] j = ⟨c0, f0, n0, zs⟩) := by
     show _ = _
     unfold DS.told
     rw [hask]
    obtain ⟨BB, hBB⟩ : ∃ BB, B = BB := ⟨_, rfl⟩
    obtain ⟨FF, hFF⟩ : ∃ FF, F2 = FF := ⟨_, rfl⟩
    subst hBB hFF
    obtain ⟨dd, hdd⟩ : ∃ dd, d1 = dd := ⟨_, rfl⟩
    have HAs : Hid (∀ w' F2, DealX w' B F2 d1 -> _) := fun w' F2 hd => (ask_xd HG.out.1 HG.out.2.2.2.1 2 d1.ls[j].s 0 d1.ls[j].kd d1.ls[j].m d1.ls[j].k d1.ls[j].n d1.ls[j].f d1.ls[j].c ((j % 2 : Nat) : Int) hd).1.ask
    rw [hask] at HAs
    have HDw : Hid (DealX wr B F2 d1) := HW.out.deal
    have HFe : Hid _ := fun w => keepFetch_c d1.ls[j].s d1.ls[j].kd d1.ls[j].m d1.ls[j].k d1.ls[j].n d1.ls[j].f d1.ls[j].c ((j % 2 : Nat) : Int) w
    have HRl : Hid ((d1.ls[j].r = false -> c0 = 0) /\ (d1.ls[j].r = true -> c0 = 8)) := ⟨fun h => (hfree h).1, hrel⟩
    clear hask hfree hrel e1 e2 e3 e4 hxS
    obtain ⟨pp, hpp⟩ : ∃ pp : Nat, j % 2 = pp := ⟨_, rfl⟩
    rw [hpp] at HAs HFe hmd hm2
    generalize hll : d1.ls[j] = l at HAs HFe HRl l0 l1 l2 l3 l4 l5 l6 l7 l8
    obtain ⟨ls, li, lkd, lm, lk, ln, lf, lc, lr⟩ := l
    simp only at *
    have HLL : Hid _ := hll
    clear hll hpp hdd
    have HF2 : Hid (¬ F2 P /\ ¬ F2 gl) := ⟨fun hf => (HW.out.grows P hf).elim HF1P.out (fun h => by have : P < w3.heap.size := lG w3 _ HP3.out.1; omega), fun hf => (HW.out.grows gl hf).elim HFg.out.1 (fun h => by have := HFg.out.2; omega)⟩
    unfold clsV reqV at *
    have SD : Hid (∀ W2, Turn F2 wr W2 -> (fun w' => w'.cell? ⟨P, 0, none⟩ = some (.pointer (some ⟨B, 0, none⟩)) /\ w'.cell? ⟨gl, j * 9, none⟩ = some (.int .i64 ls) /\ w'.cell? ⟨gl, j * 9 + 2, none⟩ = some (.int .i64 lkd) /\ w'.cell? ⟨gl, j * 9 + 3, none⟩ = some (.int .i64 lm) /\ w'.cell? ⟨gl, j * 9 + 4, none⟩ = some (.int .i64 lk) /\ w'.cell? ⟨gl, j * 9 + 5, none⟩ = some (.int .i64 ln) /\ w'.cell? ⟨gl, j * 9 + 6, none⟩ = some (.int .i64 lf) /\ w'.cell? ⟨gl, j * 9 + 7, none⟩ = some (.int .i64 lc) /\ w'.cell? ⟨gl, j * 9 + 8, none⟩ = some (.bool lr)) W2) := fun W2 hT => ⟨hT.cell p0 HF2.out.1, hT.cell l0 HF2.out.2, hT.cell l2 HF2.out.2, hT.cell l3 HF2.out.2, hT.cell l4 HF2.out.2, hT.cell l5 HF2.out.2, hT.cell l6 HF2.out.2, hT.cell l7 HF2.out.2, hT.cell l8 HF2.out.2⟩
    go_wp2_with fail
    apply cut_ke (K := by assumption) (I := fun rb ra rl rc V => ∃ F', AskEnd wr V B F2 F' (⟨c0, f0, n0, zs⟩, d1) rb ra rl rc)
    ·intro HC
     refine wp_region_held_drew (S := ((fun w' => w'.cell? ⟨P, 0, none⟩ = some (.pointer (some ⟨B, 0, none⟩)) /\ w'.cell? ⟨gl, j * 9, none⟩ = some (.int .i64 ls) /\ w'.cell? ⟨gl, j * 9 + 2, none⟩ = some (.int .i64 lkd) /\ w'.cell? ⟨gl, j * 9 + 3, none⟩ = some (.int .i64 lm) /\ w'.cell? ⟨gl, j * 9 + 4, none⟩ = some (.int .i64 lk) /\ w'.cell? ⟨gl, j * 9 + 5, none⟩ = some (.int .i64 ln) /\ w'.cell? ⟨gl, j * 9 + 6, none⟩ = some (.int .i64 lf) /\ w'.cell? ⟨gl, j * 9 + 7, none⟩ = some (.int .i64 lc) /\ w'.cell? ⟨gl, j * 9 + 8, none⟩ = some (.bool lr)))) (by kernel_rfl) ⟨p0, l0, l2, l3, l4, l5, l6, l7, l8⟩ (fun hHeld => ?_)
     refine zT 0 hHeld ?_
     refine zT 1 hHeld ?_
     refine zT 2 hHeld ?_
     refine zT 3 hHeld ?_
     refine zT 4 hHeld ?_
     refine zT 5 hHeld ?_
     refine zT 6 hHeld ?_
     refine zT 7 hHeld ?_
     refine zT 8 hHeld ?_
     refine zT 9 hHeld ?_
     refine zT 10 hHeld ?_
     refine zT 11 hHeld ?_
     refine zT 12 hHeld ?_
     refine zT 13 hHeld ?_
     refine zT 14 hHeld ?_
     refine zT 15 hHeld ?_
     refine zT 16 hHeld ?_
     refine zT 17 hHeld ?_
     refine zT 18 hHeld ?_
     refine zT 19 hHeld ?_
     refine zT 20 hHeld ?_
     refine zT 21 hHeld ?_
     refine zT 22 hHeld ?_
     refine zT 23 hHeld ?_
     refine zT 24 hHeld ?_
     refine zT 25 hHeld ?_
     refine wpAnyH_ready (rs := [26, 28]) (by kernel_rfl) (by simp) ?_
     refine AllReadyH.cons (o := _) rfl (fun K hK => ?_) (AllReadyH.cons (o := _) rfl (fun K hK => ?_) AllReadyH.nil)
     ·skip
      (try simp only [lA, lB, lC])
      go_simp
      refine (HFe.out _).mono ?_
      rintro e x5 ⟨rfl, hx5⟩
      have HX5 : Hid (Ext wr x5) := (Ext.drew (Ext.refl _)).trans hx5
      clear hx5
      refine hK.out _ _ (SD.out _ (Turn.of_ext HX5.out)) (fun hHeld => ?_)
      clear hK K
      try simp only [Act.put, lA, lB, lC, lD, lE, lF]
      refine wpAnyH_ready (rs := [27, 28]) (by kernel_rfl) (by simp) ?_
      refine AllReadyH.cons (o := _) rfl (fun K hK => ?_) (AllReadyH.cons (o := _) rfl (fun K hK => ?_) AllReadyH.nil)
      ·skip
       (try simp only [lA, lB, lC])
       go_simp
       refine (HAs.out _ _ (HDw.out.ext (HX5.out))).mono ?_
       rintro e x6 ⟨ra, rl, rc, F', rfl, hzs, hso⟩
       unfold replyV
       have HSO : Hid (XSo (⟨c0, f0, n0, zs⟩, d1) _ x6 B F2 (.slice ra rl rc) F') := hso
       have HZS : Hid (zs.length <= 100000000) := hzs
       have HT6 : Hid (Turn F2 wr x6) := (Turn.of_ext (HX5.out)).trans hso.turn
       clear hso hzs
       refine hK.out _ _ (SD.out _ HT6.out) (fun hHeld => ?_)
       clear hK K
       try simp only [Act.put, lA, lB, lC, lD, lE, lF]
       refine zR 28 fun K hK => ?_
       (try simp only [lA, lB, lC])
       go_simp
       refine hK.out _ _ (SD.out _ (HT6.out.trans (Turn.of_ext ((Ext.refl _).alloc _)))) (fun hHeld => ?_)
       clear hK K
       try simp only [Act.put, lA, lB, lC, lD, lE, lF]
       obtain ⟨rb, hrb⟩ : ∃ rb, x6.heap.size = rb := ⟨_, rfl⟩
       have HZ : Hid ((x6.alloc (.cells #[.int .i64 0, .int .i64 0, .int .i64 0, .slice none 0 0] 33)).heap[rb]? = some (.cells #[.int .i64 0, .int .i64 0, .int .i64 0, .slice none 0 0] 33 (0, 0))) := hrb ▸ heap_alloc_new _ _
       have HX7 : Hid (Ext x6 (x6.alloc (.cells #[.int .i64 0, .int .i64 0, .int .i64 0, .slice none 0 0] 33))) := (Ext.refl _).alloc _
       rw [show x6.heap.size = rb from hrb]
       have HRB : Hid (wr.heap.size <= rb /\ ¬ F' rb) := ⟨by have := HT6.out.size; omega, fun hf => by have := HSO.out.deal.lt rb hf; omega⟩
       have HRR : Hid (x6.heap.size <= rb) := by show _ <= _; omega
       generalize x6.alloc (.cells #[.int .i64 0, .int .i64 0, .int .i64 0, .slice none 0 0] 33) = x7 at HZ HX7 hHeld ⊢
       have HT7 : Hid (Turn F2 wr x7) := HT6.out.trans (Turn.of_ext HX7.out)
       clear hrb
       have r0 := (cell_of_row x7 _ 0 _ _ _ HZ.out).trans (show _ = some (.int .i64 0) from rfl)
       have r1 := (cell_of_row x7 _ 1 _ _ _ HZ.out).trans (show _ = some (.int .i64 0) from rfl)
       have r2 := (cell_of_row x7 _ 2 _ _ _ HZ.out).trans (show _ = some (.int .i64 0) from rfl)
       have r3 := (cell_of_row x7 _ 3 _ _ _ HZ.out).trans (show _ = some (.slice none 0 0) from rfl)
       have z0 := frozen_row HZ.out 0
       have z1 := frozen_row HZ.out 1
       have z2 := frozen_row HZ.out 2
       have z3 := frozen_row HZ.out 3
       obtain ⟨hv, hVT⟩ := four_end HZ.out (.int .i64 c0) (.int .i64 f0) (.int .i64 n0) (.slice ra rl rc)
       have HV : Hid _ := hv
       have HVT : Hid _ := hVT
       refine zR 29 fun K hK => ?_
       (try simp only [lA, lB, lC])
       go_simp
       refine hK.out _ _ (SD.out _ (HT7.out.trans' HVT.out (fun b hb e => by have := HRB.out.1; omega))) (fun hHeld => ?_)
       clear hK K
       try simp only [Act.put, lA, lB, lC, lD, lE, lF]
       refine wpAnyH_done (by kernel_rfl) ?_ _
       clear hHeld r0 r1 r2 r3 z0 z1 z2 z3
       generalize World.setCell _ _ _ = V at hv hVT HV HVT ⊢
       have HNA : Hid (AskEnd wr V B F2 F' (⟨c0, f0, n0, zs⟩, d1) rb ra rl rc) := ask_end HX5.out HSO.out HZS.out HX7.out HVT.out HV.out HRB.out.1 HRB.out.2 (.inr HRR.out)
       exact HC _ _ _ _ _ ⟨_, HNA.out⟩
      ·skip
       (try simp only [lA, lB, lC])
       go_simp
       refine hK.out _ _ (SD.out _ (Turn.of_ext ((HX5.out).alloc _))) (fun hHeld => ?_)
       clear hK K
       try simp only [Act.put, lA, lB, lC, lD, lE, lF]
       obtain ⟨rb, hrb⟩ : ∃ rb, x5.heap.size = rb := ⟨_, rfl⟩
       have HZ0 : Hid ((x5.alloc (.cells #[.int .i64 0, .int .i64 0, .int .i64 0, .slice none 0 0] 33)).heap[rb]? = some (.cells #[.int .i64 0, .int .i64 0, .int .i64 0, .slice none 0 0] 33 (0, 0))) := hrb ▸ heap_alloc_new _ _
       have HXA : Hid (Ext wr (x5.alloc (.cells #[.int .i64 0, .int .i64 0, .int .i64 0, .slice none 0 0] 33))) := (HX5.out).alloc _
       rw [show x5.heap.size = rb from hrb]
       have HRB0 : Hid (wr.heap.size <= rb) := by show _ <= _; have := (HX5.out).le; omega
       generalize x5.alloc (.cells #[.int .i64 0, .int .i64 0, .int .i64 0, .slice none 0 0] 33) = x8 at HZ0 HXA hHeld ⊢
       clear hrb
       refine zR 27 fun K hK => ?_
       (try simp only [lA, lB, lC])
       go_simp
       refine (HAs.out _ _ (HDw.out.ext (HXA.out))).mono ?_
       rintro e x6 ⟨ra, rl, rc, F', rfl, hzs, hso⟩
       unfold replyV
       have HSO : Hid (XSo (⟨c0, f0, n0, zs⟩, d1) _ x6 B F2 (.slice ra rl rc) F') := hso
       have HZS : Hid (zs.length <= 100000000) := hzs
       have HT6 : Hid (Turn F2 wr x6) := (Turn.of_ext (HXA.out)).trans hso.turn
       clear hso hzs
       refine hK.out _ _ (SD.out _ HT6.out) (fun hHeld => ?_)
       clear hK K
       try simp only [Act.put, lA, lB, lC, lD, lE, lF]
       have HRR : Hid (rb < x8.heap.size) := (Array.getElem?_eq_some_iff.1 HZ0.out).1
       have HRB : Hid (wr.heap.size <= rb /\ ¬ F' rb) := ⟨HRB0.out, fun hf => by
        have h1 := HRR.out
        have h2 := HDw.out.lt rb
        rcases HSO.out.grows rb hf with h | h
        ·have := h2 h; have := HRB0.out; omega
        ·omega⟩
       have HFr : Hid (¬ F2 rb) := fun hf => by have := HDw.out.lt rb hf; have := HRB0.out; omega
       have HZ : Hid (x6.heap[rb]? = some (.cells #[.int .i64 0, .int .i64 0, .int .i64 0, .slice none 0 0] 33 (0, 0))) := HSO.out.turn.ref HZ0.out HFr.out
       have HT7 : Hid (Turn F2 wr x6) := HT6.out
       have r0 := (cell_of_row x6 _ 0 _ _ _ HZ.out).trans (show _ = some (.int .i64 0) from rfl)
       have r1 := (cell_of_row x6 _ 1 _ _ _ HZ.out).trans (show _ = some (.int .i64 0) from rfl)
       have r2 := (cell_of_row x6 _ 2 _ _ _ HZ.out).trans (show _ = some (.int .i64 0) from rfl)
       have r3 := (cell_of_row x6 _ 3 _ _ _ HZ.out).trans (show _ = some (.slice none 0 0) from rfl)
       have z0 := frozen_row HZ.out 0
       have z1 := frozen_row HZ.out 1
       have z2 := frozen_row HZ.out 2
       have z3 := frozen_row HZ.out 3
       obtain ⟨hv, hVT⟩ := four_end HZ.out (.int .i64 c0) (.int .i64 f0) (.int .i64 n0) (.slice ra rl rc)
       have HV : Hid _ := hv
       have HVT : Hid _ := hVT
       refine zR 29 fun K hK => ?_
       (try simp only [lA, lB, lC])
       go_simp
       refine hK.out _ _ (SD.out _ (HT7.out.trans' HVT.out (fun b hb e => by have := HRB.out.1; omega))) (fun hHeld => ?_)
       clear hK K
       try simp only [Act.put, lA, lB, lC, lD, lE, lF]
       refine wpAnyH_done (by kernel_rfl) ?_ _
       clear hHeld r0 r1 r2 r3 z0 z1 z2 z3
       generalize World.setCell _ _ _ = V at hv hVT HV HVT ⊢
       have HNA : Hid (AskEnd wr V B F2 F' (⟨c0, f0, n0, zs⟩, d1) rb ra rl rc) := ask_end HXA.out HSO.out HZS.out (Ext.refl _) HVT.out HV.out HRB.out.1 HRB.out.2 (.inl HRR.out)
       exact HC _ _ _ _ _ ⟨_, HNA.out⟩
     ·skip
      (try simp only [lA, lB, lC])
      go_simp
      refine hK.out _ _ (SD.out _ (Turn.of_ext (Ext.drew ((Ext.refl _).alloc _)))) (fun hHeld => ?_)
      clear hK K
      try simp only [Act.put, lA, lB, lC, lD, lE, lF]
      obtain ⟨rb, hrb⟩ : ∃ rb, wr.heap.size = rb := ⟨_, rfl⟩
      have HZ0 : Hid (((wr.alloc (.cells #[.int .i64 0, .int .i64 0, .int .i64 0, .slice none 0 0] 33)).drew).heap[rb]? = some (.cells #[.int .i64 0, .int .i64 0, .int .i64 0, .slice none 0 0] 33 (0, 0))) := hrb ▸ heap_alloc_new _ _
      have HXA : Hid (Ext wr (wr.alloc (.cells #[.int .i64 0, .int .i64 0, .int .i64 0, .slice none 0 0] 33)).drew) := Ext.drew ((Ext.refl _).alloc _)
      rw [show wr.heap.size = rb from hrb]
      have HRB0 : Hid (wr.heap.size <= rb) := by show _ <= _; omega
      generalize (wr.alloc (.cells #[.int .i64 0, .int .i64 0, .int .i64 0, .slice none 0 0] 33)).drew = x8 at HZ0 HXA hHeld ⊢
      clear hrb
      refine zR 26 fun K hK => ?_
      (try simp only [lA, lB, lC])
      go_simp
      refine (HFe.out _).mono ?_
      rintro e x5 ⟨rfl, hx5⟩
      have HZ5 : Hid _ := hx5.block HZ0.out
      have HX5 : Hid (Ext wr x5) := (HXA.out).trans hx5
      clear hx5
      refine hK.out _ _ (SD.out _ (Turn.of_ext HX5.out)) (fun hHeld => ?_)
      clear hK K
      try simp only [Act.put, lA, lB, lC, lD, lE, lF]
      refine zR 27 fun K hK => ?_
      (try simp only [lA, lB, lC])
      go_simp
      refine (HAs.out _ _ (HDw.out.ext (HX5.out))).mono ?_
      rintro e x6 ⟨ra, rl, rc, F', rfl, hzs, hso⟩
      unfold replyV
      have HSO : Hid (XSo (⟨c0, f0, n0, zs⟩, d1) _ x6 B F2 (.slice ra rl rc) F') := hso
      have HZS : Hid (zs.length <= 100000000) := hzs
      have HT6 : Hid (Turn F2 wr x6) := (Turn.of_ext (HX5.out)).trans hso.turn
      clear hso hzs
      refine hK.out _ _ (SD.out _ HT6.out) (fun hHeld => ?_)
      clear hK K
      try simp only [Act.put, lA, lB, lC, lD, lE, lF]
      have HRR : Hid (rb < x5.heap.size) := (Array.getElem?_eq_some_iff.1 HZ5.out).1
      have HRB : Hid (wr.heap.size <= rb /\ ¬ F' rb) := ⟨HRB0.out, fun hf => by
       have h1 := HRR.out
       have h2 := HDw.out.lt rb
       rcases HSO.out.grows rb hf with h | h
       ·have := h2 h; have := HRB0.out; omega
       ·omega⟩
      have HFr : Hid (¬ F2 rb) := fun hf => by have := HDw.out.lt rb hf; have := HRB0.out; omega
      have HZ : Hid (x6.heap[rb]? = some (.cells #[.int .i64 0, .int .i64 0, .int .i64 0, .slice none 0 0] 33 (0, 0))) := HSO.out.turn.ref HZ5.out HFr.out
      have HT7 : Hid (Turn F2 wr x6) := HT6.out
      have r0 := (cell_of_row x6 _ 0 _ _ _ HZ.out).trans (show _ = some (.int .i64 0) from rfl)
      have r1 := (cell_of_row x6 _ 1 _ _ _ HZ.out).trans (show _ = some (.int .i64 0) from rfl)
      have r2 := (cell_of_row x6 _ 2 _ _ _ HZ.out).trans (show _ = some (.int .i64 0) from rfl)
      have r3 := (cell_of_row x6 _ 3 _ _ _ HZ.out).trans (show _ = some (.slice none 0 0) from rfl)
      have z0 := frozen_row HZ.out 0
      have z1 := frozen_row HZ.out 1
      have z2 := frozen_row HZ.out 2
      have z3 := frozen_row HZ.out 3
      obtain ⟨hv, hVT⟩ := four_end HZ.out (.int .i64 c0) (.int .i64 f0) (.int .i64 n0) (.slice ra rl rc)
      have HV : Hid _ := hv
      have HVT : Hid _ := hVT
      refine zR 29 fun K hK => ?_
      (try simp only [lA, lB, lC])
      go_simp
      refine hK.out _ _ (SD.out _ (HT7.out.trans' HVT.out (fun b hb e => by have := HRB.out.1; omega))) (fun hHeld => ?_)
      clear hK K
      try simp only [Act.put, lA, lB, lC, lD, lE, lF]
      refine wpAnyH_done (by kernel_rfl) ?_ _
      clear hHeld r0 r1 r2 r3 z0 z1 z2 z3
      generalize World.setCell _ _ _ = V at hv hVT HV HVT ⊢
      have HNA : Hid (AskEnd wr V B F2 F' (⟨c0, f0, n0, zs⟩, d1) rb ra rl rc) := ask_end HX5.out HSO.out HZS.out (Ext.refl _) HVT.out HV.out HRB.out.1 HRB.out.2 (.inl HRR.out)
      exact HC _ _ _ _ _ ⟨_, HNA.out⟩
    ·intro rb ra rl rc V hC
     obtain ⟨F', hC⟩ := hC
     have HNA : Hid (AskEnd wr V B F2 F' (⟨c0, f0, n0, zs⟩, d1) rb ra rl rc) := hC
     clear hC
     have hrow := HNA.out.rep
     have v0 := (cell_of_row V _ 0 _ _ _ hrow).trans (show _ = some (.int .i64 c0) from rfl)
     have v1 := (cell_of_row V _ 1 _ _ _ hrow).trans (show _ = some (.int .i64 f0) from rfl)
     have v2 := (cell_of_row V _ 2 _ _ _ hrow).trans (show _ = some (.int .i64 n0) from rfl)
     have v3 := (cell_of_row V _ 3 _ _ _ hrow).trans (show _ = some (.slice ra rl rc) from rfl)
     have hrbl := lG V _ v0
     have m8 := (SD.out V HNA.out.turn).2.2.2.2.2.2.2.2
     have hglV := lG V _ m8
     have HWA : Hid (WasX w3 V B F1 d1 u6 ys F') := was_ask HW.out HNA.out
     have HRP : Hid (RepAt V F' ⟨c0, f0, n0, zs⟩ ⟨c0, f0, n0, ra, rl, rc, zs⟩) := HNA.out.repAt
     have HOW : Hid (V.ownsRow w3.heap.size 33 4 u6 j (repCells ys)) := by
      have h := HWA.out.row
      rw [HYL.out] at h
      exact h
     have hsV : w3.heap.size <= V.heap.size := HWA.out.turn.size
     clear hrow p0 l0 l1 l2 l3 l4 l5 l6 l7 l8 hPl hgl
     cases lr
     ·obtain rfl : c0 = 0 := HRl.out.1 rfl
      go_wp2_with fail
      go_quiet (fail)
      go_wp2_with (at_builtin; refine wpList_append_lies _ rfl _ _ 126 rfl w3.heap.size 33 i0 _ 4 48 Tryz.underlying126 hi hz0 hz1 hz2 rfl (by decide) _ _ _ rfl (World.ownsRow.alloc HOW.out _) ⟨_, 0, none⟩ 1 1 [.int .i64 0, .int .i64 f0, .int .i64 n0, .slice ra rl rc] rfl rfl ?c1a ?c2a (by decide) ?c3a ?c4a ?c5a _ rfl ?_)
      case c1a => intro p u hu; rw [addr_addF, Nat.zero_add]; exact (cell_of_row _ _ p _ _ _ (heap_alloc_new _ _)).trans (by simpa using hu)
      case c2a => intro u hu; simp at hu; rcases hu with rfl | rfl | rfl | rfl <;> rfl
      case c3a => unfold maxLen; omega
      case c4a => omega
      case c5a => exact Nat.le_trans hsV (Ext.le ((Ext.drewN (Ext.refl V) _).alloc _))
      intro g cap w9 hown hgrow hat _
      have HNX : Hid (WasX w3 w9 B F1 d1 (.slice (some ⟨g, 0, none⟩) (j + 1) cap) (ys ++ [⟨0, f0, n0, ra, rl, rc, zs⟩]) F') := was_append HWA.out HYL.out hjl (by rw [HTold.out]; exact HRP.out) ((Ext.drewN (Ext.refl V) _).alloc _) hgrow hown (hat.imp id (fun h => by omega))
      clear hown hgrow hat
      go_wp2
      exact ⟨⟨j + 1, by omega, by go_num, _, F', by rw [List.length_append, HYL.out]; rfl, HNX.out⟩, by simp [intOf]; omega⟩
     ·obtain rfl : c0 = 8 := HRl.out.2 rfl
      go_wp2_with fail
      go_quiet (fail)
      go_wp2_with (at_builtin; refine wpList_append_lies _ rfl _ _ 126 rfl w3.heap.size 33 i0 _ 4 48 Tryz.underlying126 hi hz0 hz1 hz2 rfl (by decide) _ _ _ rfl (World.ownsRow.alloc HOW.out _) ⟨_, 0, none⟩ 1 1 [.int .i64 8, .int .i64 f0, .int .i64 n0, .slice ra rl rc] rfl rfl ?c1b ?c2b (by decide) ?c3b ?c4b ?c5b _ rfl ?_)
      case c1b => intro p u hu; rw [addr_addF, Nat.zero_add]; exact (cell_of_row _ _ p _ _ _ (heap_alloc_new _ _)).trans (by simpa using hu)
      case c2b => intro u hu; simp at hu; rcases hu with rfl | rfl | rfl | rfl <;> rfl
      case c3b => unfold maxLen; omega
      case c4b => omega
      case c5b => exact Nat.le_trans hsV (Ext.le ((Ext.drewN (Ext.refl V) _).alloc _))
      intro g cap w9 hown hgrow hat _
      have HNX : Hid (WasX w3 w9 B F1 d1 (.slice (some ⟨g, 0, none⟩) (j + 1) cap) (ys ++ [⟨8, f0, n0, ra, rl, rc, zs⟩]) F') := was_append HWA.out HYL.out hjl (by rw [HTold.out]; exact HRP.out) ((Ext.drewN (Ext.refl V) _).alloc _) hgrow hown (hat.imp id (fun h => by omega))
      clear hown hgrow hat
      go_wp2
      exact ⟨⟨j + 1, by omega, by go_num, _, F', by rw [List.length_append, HYL.out]; rfl, HNX.out⟩, by simp [intOf]; omega⟩
   ·obtain rfl : n = j := by omega
    have hdL : ∀ q, fv.ownBlock = some q -> ¬ F1 q := fun q hq hf => by
     have h1 := HAll.out.2.2.1 q hq
     have h2 := HAll.out.2.2.2.2.2.1 q h1.2.1
     exact (HX1.out.grows q hf).elim h1.1 (fun h => by omega)
    have HFR : Hid (FileRow wr 0 fv fs) := HW.out.turn.owns ((HL2.out.2.trans HS3.out.2).owns (HX1.out.turn.owns HAll.out.1 (fun q hq => (HAll.out.2.2.1 q hq).1))) hdL
    have HRA : Hid (RunAt wr P B fv) := HW.out.turn.ref HP3.out.2 HF1P.out
    obtain ⟨M, hM1, hM2⟩ := HG.out.2.2.1
    have HAg : Hid (∀ (w' : World) (F' : Nat -> Prop), RunAt w' P B fv -> DealX w' B F' d1 -> FileRow w' 0 fv fs -> _) := fun w' F' a1 a2 a3 => again_x HG.out.2.2.2.2 HG.out.2.2.2.1 hM1 (by omega) w' a1 a2 a3
    clear hM1 hM2 hdL
    go_wp2_with fail
    refine (HAg.out _ _ HRA.out HW.out.deal HFR.out).mono ?_
    rintro e w4 ⟨rfl, B', F4, fv', ha⟩
    have HA4 : Hid (AgainX d1 fs wr w4 P B' F4 fv') := ha
    obtain ⟨e1, e2⟩ := restart_backs HG.out.2.1 (by first | exact HKn.out trivial | exact HKn.out) HG.out.1
    have hg2 := restart_good (fileB (doneS fs d1.ops))
    have ho2 : (DS.restart (fileB (doneS fs d1.ops))).ops.length = 4 := rfl
    have hd2 := ha.deal
    have hfe := fun s i kd m k n f c p => fetch_again (d2 := DS.restart (fileB (doneS fs d1.ops))) HG.out.1 e1 e2 s i kd m k n f c p
    generalize DS.restart (fileB (doneS fs d1.ops)) = d2 at e1 e2 hg2 ho2 hd2 hfe
    have HD2 : Hid (DealX w4 B' F4 d2 /\ d2.Good /\ d2.S = normS d1.S /\ d2.ls = d1.ls /\ d2.ops.length = 4) := ⟨hd2, hg2, e1, e2, ho2⟩
    have HFA : Hid (∀ s i kd m k n f c p : Int, (d2.ask 2 s i kd m k n f c p).1 = (d1.ask 2 s i kd m k n f c p).1) := hfe
    have q0 := cell_at ha.run (i := 0) rfl
    have hPq := lG w4 _ q0
    have hPw : P < w3.heap.size := lG w3 _ HP3.out.1
    have hs34 := HW.out.turn.size
    have HNP : Hid (P < w3.heap.size /\ w3.heap.size <= wr.heap.size) := ⟨hPw, hs34⟩
    -- the rows that are kept
    have HLr : Hid (w4.ownsRow w1.heap.size 56 9 (.slice la n lcap) n (lsCells d1.ls)) := ha.turn.owns (HW.out.turn.owns HL3.out (fun q hq hf => by
     have h1 := (World.ownsRow.lt HL3.out q hq).1
     have h2 := HX1.out.deal.lt q hf
     omega)) (fun q hq e => by
     have h1 := (World.ownsRow.lt HL3.out q hq).1
     have h2 : P < w1.heap.size := (Array.getElem?_eq_some_iff.1 HX1.out.run).1
     omega)
    have HSr : Hid (w4.ownsRow w2.heap.size 116 7 sv d1.S.length (toldAll d1.S)) := ha.turn.owns (HW.out.turn.owns HS3.out.1 (fun q hq hf => by
     have h1 := (World.ownsRow.lt HS3.out.1 q hq).1
     have h2 := HX1.out.deal.lt q hf
     have h3 := HL2.out.2.le
     omega)) (fun q hq e => by
     have h1 := (World.ownsRow.lt HS3.out.1 q hq).1
     have h2 : P < w1.heap.size := (Array.getElem?_eq_some_iff.1 HX1.out.run).1
     have h3 := HL2.out.2.le
     omega)
    have HWr : Hid (w4.ownsRow w3.heap.size 33 4 u6 n (repCells ys)) := by
     have h := HW.out.row
     rw [HYL.out] at h
     exact ha.turn.owns h (fun q hq e => by
      have h1 := (World.ownsRow.lt HW.out.row q hq).1
      omega)
    have HRs : Hid (∀ q (h : q < ys.length) (h' : q < d1.ls.length), RepAt w4 F4 (d1.told d1.ls[q] q) ys[q] /\ ∀ g, ys[q].ra = some ⟨g, 0, none⟩ -> g < wr.heap.size) := fun q h h' => by
     refine ⟨(HW.out.reps q h h').turn ha.turn (fun b cur hb hc => ?_) (fun b hb => .inr (ha.new b hb)), fun g hg => ((HW.out.reps q h h').own g hg).1⟩
     subst hb
     have := HRA.out
     unfold RunAt at this
     rw [hc] at this
     simp at this
    have HT4 : Hid (Turn (fun b => w0.heap.size <= b) w0 w4) := (HTw.out.trans' HW.out.turn (fun b hb e => (HX1.out.grows b e).elim (fun h => HAll.out.2.2.2.2.2.2.1 b (HAll.out.2.2.2.1 b h)) (fun h => Nat.le_trans HAll.out.2.2.2.2.2.2.2.size h))).trans' ha.turn (fun b hb e => by subst e; exact HAll.out.2.2.2.2.2.2.1 b HAll.out.2.2.2.2.1)
    have HNew : Hid (∀ b, F4 b -> wr.heap.size <= b) := ha.new
    have HRun4 : Hid (RunAt w4 P B' fv') := ha.run
    have HN0 : Hid (w0.heap.size <= wr.heap.size) := by
     show _ <= _
     have h1 := HTw.out.size
     omega
    obtain ⟨sa, scap, rfl⟩ := owns_slice HSr.out
    clear ha e1 e2 hg2 ho2 hd2 hfe p0 hPl hPw hs34
    generalize wr = wb at *
    go_wp2_with fail
    refine (leases_x HD2.out.2.1 HD2.out.1).mono ?_
    rintro e w5 ⟨kv, rfl, ho5, hx5⟩
    have HX5 : Hid (Ext w4 w5) := hx5
    have HK5 : Hid (w5.ownsRow w4.heap.size 56 9 kv n (lsCells d1.ls)) := by
     have h := ho5
     rw [HD2.out.2.2.2.1, HN.out] at h
     exact h
    obtain ⟨ka, kcap, rfl⟩ := owns_slice HK5.out
    have q5 := hx5.cell q0
    have hP5 := lG w5 _ q5
    clear ho5 hx5 q0 hPq
    go_wp2_with fail
    refine (classes_x HD2.out.2.1 (HD2.out.1.ext HX5.out)).mono ?_
    rintro e w6 ⟨tv, rfl, ho6, hx6⟩
    have HX6 : Hid (Ext w4 w6) := HX5.out.trans hx6
    have HK6 : Hid (w6.ownsRow w5.heap.size 116 7 tv d1.S.length (toldAll d1.S)) := by
     have h := ho6
     rw [HD2.out.2.2.1, norm_len, toldAll_norm] at h
     exact h
    obtain ⟨ta, tcap, rfl⟩ := owns_slice HK6.out
    have q6 := hx6.cell q5
    have HSL : Hid (∀ w', Ext w6 w' -> _) := fun w' hx => ksameLeases_c d1.ls n HN.out (by omega) la ka lcap kcap w' (rd_owns ((HX6.out.trans hx).owns HLr.out)) (rd_owns ((hx6.trans hx).owns HK5.out))
    have HSS : Hid (∀ w', Ext w6 w' -> _) := fun w' hx => ksameStocks_c d1.S d1.S.length rfl (by have := HG.out.1.inv.stocks; omega) sa ta scap tcap w' (rd_owns ((HX6.out.trans hx).owns HSr.out)) (rd_owns (hx.owns HK6.out))
    clear ho6 hx6 q5 hP5
    go_wp2_with fail
    refine (HSL.out _ (Ext.refl _)).mono ?_
    rintro e w7 ⟨rfl, hx7⟩
    have HX7 : Hid (Ext w6 w7) := hx7
    clear hx7
    go_wp2_with fail
    refine (HSS.out _ HX7.out).mono ?_
    rintro e w8 ⟨rfl, hx8⟩
    have HX8 : Hid (Ext w4 w8) := HX6.out.trans (HX7.out.trans hx8)
    have q8 := (HX7.out.trans hx8).cell q6
    have HP8 : Hid (w8.cell? ⟨P, 0, none⟩ = some (.pointer (some ⟨B', 0, none⟩))) := q8
    have HA0 : Hid (Asked w8 w8 B' F4 d2) := ⟨F4, HD2.out.1.ext HX8.out, Turn.refl _ _, fun _ h => .inl h⟩
    clear hx8 q6 q8
    go_wp2_with fail
    go_loopw [13] (fun i wr => ∃ j : Nat, j <= n /\ i = .int .i64 j /\ Asked w8 wr B' F4 d2) (fun i _ => n - (intOf i).toNat)
    case atStart => exact ⟨0, Nat.zero_le _, rfl, HA0.out⟩
    case round =>
     obtain ⟨j, hj, rfl, F5, hd5, ht5, hg5⟩ := hrel
     have HQ : Hid (DealX wr B' F5 d2 /\ Turn F4 w8 wr /\ ∀ b, F5 b -> F4 b \/ w8.heap.size <= b) := ⟨hd5, ht5, hg5⟩
     clear hd5 ht5 hg5 HA0
     have HF4P : Hid (¬ F4 P) := fun hf => by have := HNew.out P hf; have := HNP.out; omega
     by_cases hlt : j < n
     ·as_aux_lemma =>
       obtain ⟨gl, rfl, hgl0⟩ := HLA.out (by omega)
       have hjl : j < d1.ls.length := by rw [HN.out]; exact hlt
       have hP8 : P < w8.heap.size := lG w8 _ HP8.out
       have HFg : Hid (¬ F4 gl /\ gl < w8.heap.size) := ⟨fun hf => by
        have h1 := HNew.out gl hf
        have h2 := owns_lt HL3.out (g := gl) rfl
        have := HNP.out
        omega, owns_lt (HX8.out.owns HLr.out) rfl⟩
       obtain ⟨l0, l1, l2, l3, l4, l5, l6, l7, l8⟩ := (show LeasesAt wr (.slice (some ⟨gl, 0, none⟩) n lcap) d1.ls from by
        show World.ownsRow _ _ _ _ _ _ _
        rw [HN.out]
        exact HQ.out.2.1.owns (owns_base (HX8.out.owns HLr.out) (Nat.zero_le _)) (fun q hq e => by
         simp [lH] at hq
         subst hq
         exact HFg.out.1 e)).cells j hjl
       have hgl := lG wr _ l0
       have p0 := HQ.out.2.1.cell HP8.out HF4P.out
       have hPl := lG wr _ p0
       have hj0 : (0 : Int) <= (j : Int) := by omega
       have hj1 : (j : Int) < n := by omega
       have hmd : Int.tmod (j : Int) 2 = ((j % 2 : Nat) : Int) := by rw [Int.tmod_eq_emod_of_nonneg (by omega)]; rfl
       have hjy : j < ys.length := by rw [HYL.out]; exact hlt
       obtain ⟨gu, ucap, rfl, hgu, hgu2⟩ : ∃ gu ucap, u6 = .slice (some ⟨gu, 0, none⟩) n ucap /\ w3.heap.size <= gu /\ gu < wb.heap.size := by
        have h := HW.out.row
        rw [HYL.out] at h
        rcases owns_form h with ⟨_, h0, _⟩ | ⟨g, cap, he, hb, _, _⟩
        ·omega
        ·exact ⟨g, cap, he, hb, owns_lt HW.out.row (by rw [he]; rfl)⟩
       have HFu : Hid (¬ F4 gu /\ gu < w8.heap.size) := ⟨fun hf => by have := HNew.out gu hf; omega, owns_lt (HX8.out.owns HWr.out) rfl⟩
       have HUc : Hid (∀ i v, i < 4 -> ys[j].cells[i]? = some v -> wr.cell? ⟨gu, j * 4 + i, none⟩ = some v) := fun i v hi hv => HQ.out.2.1.cell (HX8.out.cell (owns_cell HWr.out ((repCells_at ys j i hjy hi).trans hv))) HFu.out.1
       have HRJ : Hid _ := HRs.out j hjy hjl
       have hask := HFA.out d1.ls[j].s 0 d1.ls[j].kd d1.ls[j].m d1.ls[j].k d1.ls[j].n d1.ls[j].f d1.ls[j].c ((j % 2 : Nat) : Int)
       obtain ⟨x, _, _, _, _, _, a0, b0, m0, y0, hask2, _, _⟩ := told_ask (d := d2) HD2.out.2.1 (show d1.ls[j] ∈ d2.ls by rw [HD2.out.2.2.2.1]; exact List.getElem_mem hjl) (p := ((j % 2 : Nat) : Int)) (by omega)
       have HTold : Hid (d1.told d1.ls[j] j = ⟨a0, b0, m0, y0⟩) := by
        show (d1.ask 2 d1.ls[j].s 0 d1.ls[j].kd d1.ls[j].m d1.ls[j].k d1.ls[j].n d1.ls[j].f d1.ls[j].c ((j % 2 : Nat) : Int)).1 = _
        rw [<- hask, hask2]
       obtain ⟨c0, f0, n0, zs, hE⟩ : ∃ c0 f0 n0 zs, (⟨a0, b0, m0, y0⟩ : Rep) = ⟨c0, f0, n0, zs⟩ := ⟨a0, b0, m0, y0, rfl⟩
       have HAs : Hid (∀ w' F2, DealX w' B' F2 d2 -> _) := fun w' F2 hd => (ask_xd HD2.out.2.1 (by have := HD2.out.2.2.2.2; omega) 2 d1.ls[j].s 0 d1.ls[j].kd d1.ls[j].m d1.ls[j].k d1.ls[j].n d1.ls[j].f d1.ls[j].c ((j % 2 : Nat) : Int) hd).1.ask
       rw [hask2, hE] at HAs
       rw [hE] at HTold
       have HDw : Hid (DealX wr B' F5 d2) := HQ.out.1
       have HFe : Hid _ := fun w => keepFetch_c d1.ls[j].s d1.ls[j].kd d1.ls[j].m d1.ls[j].k d1.ls[j].n d1.ls[j].f d1.ls[j].c ((j % 2 : Nat) : Int) w
       have hm2 : j % 2 < 2 := Nat.mod_lt _ (by omega)
       clear hask hask2 hE hgl0
       obtain ⟨pp, hpp⟩ : ∃ pp : Nat, j % 2 = pp := ⟨_, rfl⟩
       rw [hpp] at HAs HFe hmd hm2
       rw [HTold.out] at HRJ
       generalize hyy : ys[j] = y at HRJ
       have HYJ : Hid (ys[j] = y) := hyy
       generalize d1.ls[j] = l at HAs HFe l0 l1 l2 l3 l4 l5 l6 l7 l8
       obtain ⟨ls, li, lkd, lm, lk, ln, lf, lc, lr⟩ := l
       simp only at *
       clear hpp hyy
       have HF5 : Hid (¬ F5 P /\ ¬ F5 gl) := ⟨fun hf => (HQ.out.2.2 P hf).elim HF4P.out (fun h => by omega), fun hf => (HQ.out.2.2 gl hf).elim HFg.out.1 (fun h => by have := HFg.out.2; omega)⟩
       unfold clsV reqV at *
       have SD : Hid (∀ W2, Turn F5 wr W2 -> (fun w' => w'.cell? ⟨P, 0, none⟩ = some (.pointer (some ⟨B', 0, none⟩)) /\ w'.cell? ⟨gl, j * 9, none⟩ = some (.int .i64 ls) /\ w'.cell? ⟨gl, j * 9 + 2, none⟩ = some (.int .i64 lkd) /\ w'.cell? ⟨gl, j * 9 + 3, none⟩ = some (.int .i64 lm) /\ w'.cell? ⟨gl, j * 9 + 4, none⟩ = some (.int .i64 lk) /\ w'.cell? ⟨gl, j * 9 + 5, none⟩ = some (.int .i64 ln) /\ w'.cell? ⟨gl, j * 9 + 6, none⟩ = some (.int .i64 lf) /\ w'.cell? ⟨gl, j * 9 + 7, none⟩ = some (.int .i64 lc)) W2) := fun W2 hT => ⟨hT.cell p0 HF5.out.1, hT.cell l0 HF5.out.2, hT.cell l2 HF5.out.2, hT.cell l3 HF5.out.2, hT.cell l4 HF5.out.2, hT.cell l5 HF5.out.2, hT.cell l6 HF5.out.2, hT.cell l7 HF5.out.2⟩
       go_wp2_with fail
       apply cut_ke (K := by assumption) (I := fun rb ra rl rc V => ∃ F', AskEnd wr V B' F5 F' (⟨c0, f0, n0, zs⟩, d2) rb ra rl rc)
       ·intro HC
        refine wp_region_held_drew (S := ((fun w' => w'.cell? ⟨P, 0, none⟩ = some (.pointer (some ⟨B', 0, none⟩)) /\ w'.cell? ⟨gl, j * 9, none⟩ = some (.int .i64 ls) /\ w'.cell? ⟨gl, j * 9 + 2, none⟩ = some (.int .i64 lkd) /\ w'.cell? ⟨gl, j * 9 + 3, none⟩ = some (.int .i64 lm) /\ w'.cell? ⟨gl, j * 9 + 4, none⟩ = some (.int .i64 lk) /\ w'.cell? ⟨gl, j * 9 + 5, none⟩ = some (.int .i64 ln) /\ w'.cell? ⟨gl, j * 9 + 6, none⟩ = some (.int .i64 lf) /\ w'.cell? ⟨gl, j * 9 + 7, none⟩ = some (.int .i64 lc)))) (by kernel_rfl) ⟨p0, l0, l2, l3, l4, l5, l6, l7⟩ (fun hHeld => ?_)
        refine zT 0 hHeld ?_
        refine zT 1 hHeld ?_
        refine zT 2 hHeld ?_
        refine zT 3 hHeld ?_
        refine zT 4 hHeld ?_
        refine zT 5 hHeld ?_
        refine zT 6 hHeld ?_
        refine zT 7 hHeld ?_
        refine zT 8 hHeld ?_
        refine zT 9 hHeld ?_
        refine zT 10 hHeld ?_
        refine zT 11 hHeld ?_
        refine zT 12 hHeld ?_
        refine zT 13 hHeld ?_
        refine zT 14 hHeld ?_
        refine zT 15 hHeld ?_
        refine zT 16 hHeld ?_
        refine zT 17 hHeld ?_
        refine zT 18 hHeld ?_
        refine zT 19 hHeld ?_
        refine zT 20 hHeld ?_
        refine zT 21 hHeld ?_
        refine zT 22 hHeld ?_
        refine zT 23 hHeld ?_
        refine zT 24 hHeld ?_
        refine zT 25 hHeld ?_
        refine wpAnyH_ready (rs := [26, 28]) (by kernel_rfl) (by simp) ?_
        refine AllReadyH.cons (o := _) rfl (fun K hK => ?_) (AllReadyH.cons (o := _) rfl (fun K hK => ?_) AllReadyH.nil)
        ·skip
         (try simp only [lA, lB, lC])
         go_simp
         refine (HFe.out _).mono ?_
         rintro e x5 ⟨rfl, hx5⟩
         have HX5 : Hid (Ext wr x5) := (Ext.drew (Ext.refl _)).trans hx5
         clear hx5
         refine hK.out _ _ (SD.out _ (Turn.of_ext HX5.out)) (fun hHeld => ?_)
         clear hK K
         try simp only [Act.put, lA, lB, lC, lD, lE, lF]
         refine wpAnyH_ready (rs := [27, 28]) (by kernel_rfl) (by simp) ?_
         refine AllReadyH.cons (o := _) rfl (fun K hK => ?_) (AllReadyH.cons (o := _) rfl (fun K hK => ?_) AllReadyH.nil)
         ·skip
          (try simp only [lA, lB, lC])
          go_simp
          refine (HAs.out _ _ (HDw.out.ext (HX5.out))).mono ?_
          rintro e x6 ⟨ra, rl, rc, F', rfl, hzs, hso⟩
          unfold replyV
          have HSO : Hid (XSo (⟨c0, f0, n0, zs⟩, d2) _ x6 B' F5 (.slice ra rl rc) F') := hso
          have HZS : Hid (zs.length <= 100000000) := hzs
          have HT6 : Hid (Turn F5 wr x6) := (Turn.of_ext (HX5.out)).trans hso.turn
          clear hso hzs
          refine hK.out _ _ (SD.out _ HT6.out) (fun hHeld => ?_)
          clear hK K
          try simp only [Act.put, lA, lB, lC, lD, lE, lF]
          refine zR 28 fun K hK => ?_
          (try simp only [lA, lB, lC])
          go_simp
          refine hK.out _ _ (SD.out _ (HT6.out.trans (Turn.of_ext ((Ext.refl _).alloc _)))) (fun hHeld => ?_)
          clear hK K
          try simp only [Act.put, lA, lB, lC, lD, lE, lF]
          obtain ⟨rb, hrb⟩ : ∃ rb, x6.heap.size = rb := ⟨_, rfl⟩
          have HZ : Hid ((x6.alloc (.cells #[.int .i64 0, .int .i64 0, .int .i64 0, .slice none 0 0] 33)).heap[rb]? = some (.cells #[.int .i64 0, .int .i64 0, .int .i64 0, .slice none 0 0] 33 (0, 0))) := hrb ▸ heap_alloc_new _ _
          have HX7 : Hid (Ext x6 (x6.alloc (.cells #[.int .i64 0, .int .i64 0, .int .i64 0, .slice none 0 0] 33))) := (Ext.refl _).alloc _
          rw [show x6.heap.size = rb from hrb]
          have HRB : Hid (wr.heap.size <= rb /\ ¬ F' rb) := ⟨by have := HT6.out.size; omega, fun hf => by have := HSO.out.deal.lt rb hf; omega⟩
          have HRR : Hid (x6.heap.size <= rb) := by show _ <= _; omega
          generalize x6.alloc (.cells #[.int .i64 0, .int .i64 0, .int .i64 0, .slice none 0 0] 33) = x7 at HZ HX7 hHeld ⊢
          have HT7 : Hid (Turn F5 wr x7) := HT6.out.trans (Turn.of_ext HX7.out)
          clear hrb
          have r0 := (cell_of_row x7 _ 0 _ _ _ HZ.out).trans (show _ = some (.int .i64 0) from rfl)
          have r1 := (cell_of_row x7 _ 1 _ _ _ HZ.out).trans (show _ = some (.int .i64 0) from rfl)
          have r2 := (cell_of_row x7 _ 2 _ _ _ HZ.out).trans (show _ = some (.int .i64 0) from rfl)
          have r3 := (cell_of_row x7 _ 3 _ _ _ HZ.out).trans (show _ = some (.slice none 0 0) from rfl)
          have z0 := frozen_row HZ.out 0
          have z1 := frozen_row HZ.out 1
          have z2 := frozen_row HZ.out 2
          have z3 := frozen_row HZ.out 3
          obtain ⟨hv, hVT⟩ := four_end HZ.out (.int .i64 c0) (.int .i64 f0) (.int .i64 n0) (.slice ra rl rc)
          have HV : Hid _ := hv
          have HVT : Hid _ := hVT
          refine zR 29 fun K hK => ?_
          (try simp only [lA, lB, lC])
          go_simp
          refine hK.out _ _ (SD.out _ (HT7.out.trans' HVT.out (fun b hb e => by have := HRB.out.1; omega))) (fun hHeld => ?_)
          clear hK K
          try simp only [Act.put, lA, lB, lC, lD, lE, lF]
          refine wpAnyH_done (by kernel_rfl) ?_ _
          clear hHeld r0 r1 r2 r3 z0 z1 z2 z3
          generalize World.setCell _ _ _ = V at hv hVT HV HVT ⊢
          have HNA : Hid (AskEnd wr V B' F5 F' (⟨c0, f0, n0, zs⟩, d2) rb ra rl rc) := ask_end HX5.out HSO.out HZS.out HX7.out HVT.out HV.out HRB.out.1 HRB.out.2 (.inr HRR.out)
          exact HC _ _ _ _ _ ⟨_, HNA.out⟩
         ·skip
          (try simp only [lA, lB, lC])
          go_simp
          refine hK.out _ _ (SD.out _ (Turn.of_ext ((HX5.out).alloc _))) (fun hHeld => ?_)
          clear hK K
          try simp only [Act.put, lA, lB, lC, lD, lE, lF]
          obtain ⟨rb, hrb⟩ : ∃ rb, x5.heap.size = rb := ⟨_, rfl⟩
          have HZ0 : Hid ((x5.alloc (.cells #[.int .i64 0, .int .i64 0, .int .i64 0, .slice none 0 0] 33)).heap[rb]? = some (.cells #[.int .i64 0, .int .i64 0, .int .i64 0, .slice none 0 0] 33 (0, 0))) := hrb ▸ heap_alloc_new _ _
          have HXA : Hid (Ext wr (x5.alloc (.cells #[.int .i64 0, .int .i64 0, .int .i64 0, .slice none 0 0] 33))) := (HX5.out).alloc _
          rw [show x5.heap.size = rb from hrb]
          have HRB0 : Hid (wr.heap.size <= rb) := by show _ <= _; have := (HX5.out).le; omega
          generalize x5.alloc (.cells #[.int .i64 0, .int .i64 0, .int .i64 0, .slice none 0 0] 33) = x8 at HZ0 HXA hHeld ⊢
          clear hrb
          refine zR 27 fun K hK => ?_
          (try simp only [lA, lB, lC])
          go_simp
          refine (HAs.out _ _ (HDw.out.ext (HXA.out))).mono ?_
          rintro e x6 ⟨ra, rl, rc, F', rfl, hzs, hso⟩
          unfold replyV
          have HSO : Hid (XSo (⟨c0, f0, n0, zs⟩, d2) _ x6 B' F5 (.slice ra rl rc) F') := hso
          have HZS : Hid (zs.length <= 100000000) := hzs
          have HT6 : Hid (Turn F5 wr x6) := (Turn.of_ext (HXA.out)).trans hso.turn
          clear hso hzs
          refine hK.out _ _ (SD.out _ HT6.out) (fun hHeld => ?_)
          clear hK K
          try simp only [Act.put, lA, lB, lC, lD, lE, lF]
          have HRR : Hid (rb < x8.heap.size) := (Array.getElem?_eq_some_iff.1 HZ0.out).1
          have HRB : Hid (wr.heap.size <= rb /\ ¬ F' rb) := ⟨HRB0.out, fun hf => by
           have h1 := HRR.out
           have h2 := HDw.out.lt rb
           rcases HSO.out.grows rb hf with h | h
           ·have := h2 h; have := HRB0.out; omega
           ·omega⟩
          have HFr : Hid (¬ F5 rb) := fun hf => by have := HDw.out.lt rb hf; have := HRB0.out; omega
          have HZ : Hid (x6.heap[rb]? = some (.cells #[.int .i64 0, .int .i64 0, .int .i64 0, .slice none 0 0] 33 (0, 0))) := HSO.out.turn.ref HZ0.out HFr.out
          have HT7 : Hid (Turn F5 wr x6) := HT6.out
          have r0 := (cell_of_row x6 _ 0 _ _ _ HZ.out).trans (show _ = some (.int .i64 0) from rfl)
          have r1 := (cell_of_row x6 _ 1 _ _ _ HZ.out).trans (show _ = some (.int .i64 0) from rfl)
          have r2 := (cell_of_row x6 _ 2 _ _ _ HZ.out).trans (show _ = some (.int .i64 0) from rfl)
          have r3 := (cell_of_row x6 _ 3 _ _ _ HZ.out).trans (show _ = some (.slice none 0 0) from rfl)
          have z0 := frozen_row HZ.out 0
          have z1 := frozen_row HZ.out 1
          have z2 := frozen_row HZ.out 2
          have z3 := frozen_row HZ.out 3
          obtain ⟨hv, hVT⟩ := four_end HZ.out (.int .i64 c0) (.int .i64 f0) (.int .i64 n0) (.slice ra rl rc)
          have HV : Hid _ := hv
          have HVT : Hid _ := hVT
          refine zR 29 fun K hK => ?_
          (try simp only [lA, lB, lC])
          go_simp
          refine hK.out _ _ (SD.out _ (HT7.out.trans' HVT.out (fun b hb e => by have := HRB.out.1; omega))) (fun hHeld => ?_)
          clear hK K
          try simp only [Act.put, lA, lB, lC, lD, lE, lF]
          refine wpAnyH_done (by kernel_rfl) ?_ _
          clear hHeld r0 r1 r2 r3 z0 z1 z2 z3
          generalize World.setCell _ _ _ = V at hv hVT HV HVT ⊢
          have HNA : Hid (AskEnd wr V B' F5 F' (⟨c0, f0, n0, zs⟩, d2) rb ra rl rc) := ask_end HXA.out HSO.out HZS.out (Ext.refl _) HVT.out HV.out HRB.out.1 HRB.out.2 (.inl HRR.out)
          exact HC _ _ _ _ _ ⟨_, HNA.out⟩
        ·skip
         (try simp only [lA, lB, lC])
         go_simp
         refine hK.out _ _ (SD.out _ (Turn.of_ext (Ext.drew ((Ext.refl _).alloc _)))) (fun hHeld => ?_)
         clear hK K
         try simp only [Act.put, lA, lB, lC, lD, lE, lF]
         obtain ⟨rb, hrb⟩ : ∃ rb, wr.heap.size = rb := ⟨_, rfl⟩
         have HZ0 : Hid (((wr.alloc (.cells #[.int .i64 0, .int .i64 0, .int .i64 0, .slice none 0 0] 33)).drew).heap[rb]? = some (.cells #[.int .i64 0, .int .i64 0, .int .i64 0, .slice none 0 0] 33 (0, 0))) := hrb ▸ heap_alloc_new _ _
         have HXA : Hid (Ext wr (wr.alloc (.cells #[.int .i64 0, .int .i64 0, .int .i64 0, .slice none 0 0] 33)).drew) := Ext.drew ((Ext.refl _).alloc _)
         rw [show wr.heap.size = rb from hrb]
         have HRB0 : Hid (wr.heap.size <= rb) := by show _ <= _; omega
         generalize (wr.alloc (.cells #[.int .i64 0, .int .i64 0, .int .i64 0, .slice none 0 0] 33)).drew = x8 at HZ0 HXA hHeld ⊢
         clear hrb
         refine zR 26 fun K hK => ?_
         (try simp only [lA, lB, lC])
         go_simp
         refine (HFe.out _).mono ?_
         rintro e x5 ⟨rfl, hx5⟩
         have HZ5 : Hid _ := hx5.block HZ0.out
         have HX5 : Hid (Ext wr x5) := (HXA.out).trans hx5
         clear hx5
         refine hK.out _ _ (SD.out _ (Turn.of_ext HX5.out)) (fun hHeld => ?_)
         clear hK K
         try simp only [Act.put, lA, lB, lC, lD, lE, lF]
         refine zR 27 fun K hK => ?_
         (try simp only [lA, lB, lC])
         go_simp
         refine (HAs.out _ _ (HDw.out.ext (HX5.out))).mono ?_
         rintro e x6 ⟨ra, rl, rc, F', rfl, hzs, hso⟩
         unfold replyV
         have HSO : Hid (XSo (⟨c0, f0, n0, zs⟩, d2) _ x6 B' F5 (.slice ra rl rc) F') := hso
         have HZS : Hid (zs.length <= 100000000) := hzs
         have HT6 : Hid (Turn F5 wr x6) := (Turn.of_ext (HX5.out)).trans hso.turn
         clear hso hzs
         refine hK.out _ _ (SD.out _ HT6.out) (fun hHeld => ?_)
         clear hK K
         try simp only [Act.put, lA, lB, lC, lD, lE, lF]
         have HRR : Hid (rb < x5.heap.size) := (Array.getElem?_eq_some_iff.1 HZ5.out).1
         have HRB : Hid (wr.heap.size <= rb /\ ¬ F' rb) := ⟨HRB0.out, fun hf => by
          have h1 := HRR.out
          have h2 := HDw.out.lt rb
          rcases HSO.out.grows rb hf with h | h
          ·have := h2 h; have := HRB0.out; omega
          ·omega⟩
         have HFr : Hid (¬ F5 rb) := fun hf => by have := HDw.out.lt rb hf; have := HRB0.out; omega
         have HZ : Hid (x6.heap[rb]? = some (.cells #[.int .i64 0, .int .i64 0, .int .i64 0, .slice none 0 0] 33 (0, 0))) := HSO.out.turn.ref HZ5.out HFr.out
         have HT7 : Hid (Turn F5 wr x6) := HT6.out
         have r0 := (cell_of_row x6 _ 0 _ _ _ HZ.out).trans (show _ = some (.int .i64 0) from rfl)
         have r1 := (cell_of_row x6 _ 1 _ _ _ HZ.out).trans (show _ = some (.int .i64 0) from rfl)
         have r2 := (cell_of_row x6 _ 2 _ _ _ HZ.out).trans (show _ = some (.int .i64 0) from rfl)
         have r3 := (cell_of_row x6 _ 3 _ _ _ HZ.out).trans (show _ = some (.slice none 0 0) from rfl)
         have z0 := frozen_row HZ.out 0
         have z1 := frozen_row HZ.out 1
         have z2 := frozen_row HZ.out 2
         have z3 := frozen_row HZ.out 3
         obtain ⟨hv, hVT⟩ := four_end HZ.out (.int .i64 c0) (.int .i64 f0) (.int .i64 n0) (.slice ra rl rc)
         have HV : Hid _ := hv
         have HVT : Hid _ := hVT
         refine zR 29 fun K hK => ?_
         (try simp only [lA, lB, lC])
         go_simp
         refine hK.out _ _ (SD.out _ (HT7.out.trans' HVT.out (fun b hb e => by have := HRB.out.1; omega))) (fun hHeld => ?_)
         clear hK K
         try simp only [Act.put, lA, lB, lC, lD, lE, lF]
         refine wpAnyH_done (by kernel_rfl) ?_ _
         clear hHeld r0 r1 r2 r3 z0 z1 z2 z3
         generalize World.setCell _ _ _ = V at hv hVT HV HVT ⊢
         have HNA : Hid (AskEnd wr V B' F5 F' (⟨c0, f0, n0, zs⟩, d2) rb ra rl rc) := ask_end HX5.out HSO.out HZS.out (Ext.refl _) HVT.out HV.out HRB.out.1 HRB.out.2 (.inl HRR.out)
         exact HC _ _ _ _ _ ⟨_, HNA.out⟩
       ·intro rb ra rl rc V hC
        obtain ⟨F', hC⟩ := hC
        have HNA : Hid (AskEnd wr V B' F5 F' (⟨c0, f0, n0, zs⟩, d2) rb ra rl rc) := hC
        clear hC
        have hrow := HNA.out.rep
        have hrl : rl = zs.length := by
         obtain ⟨a, cap, he⟩ := owns_slice HNA.out.row
         injection he with e1 e2 e3
        subst hrl
        have v0 := (cell_of_row V _ 0 _ _ _ hrow).trans (show _ = some (.int .i64 c0) from rfl)
        have v1 := (cell_of_row V _ 1 _ _ _ hrow).trans (show _ = some (.int .i64 f0) from rfl)
        have v2 := (cell_of_row V _ 2 _ _ _ hrow).trans (show _ = some (.int .i64 n0) from rfl)
        have v3 := (cell_of_row V _ 3 _ _ _ hrow).trans (show _ = some (.slice ra zs.length rc) from rfl)
        have hrbl := lG V _ v0
        have hyc : y.c = c0 := HRJ.out.1.c
        have hyf : y.f = f0 := HRJ.out.1.f
        have hyn : y.n = n0 := HRJ.out.1.n
        have hyz : y.zs = zs := HRJ.out.1.zs
        have hyl : y.rl = zs.length := by have := HRJ.out.1.len; rw [hyz] at this; exact this.symm
        have HF5u : Hid (¬ F5 gu) := fun hf => (HQ.out.2.2 gu hf).elim HFu.out.1 (fun h => by have := HFu.out.2; omega)
        have u0 := HNA.out.turn.cell (HUc.out 0 (.int .i64 c0) (by decide) (by rw [HYJ.out, <- hyc]; rfl)) HF5u.out
        have u1 := HNA.out.turn.cell (HUc.out 1 (.int .i64 f0) (by decide) (by rw [HYJ.out, <- hyf]; rfl)) HF5u.out
        have u2' := HNA.out.turn.cell (HUc.out 2 (.int .i64 n0) (by decide) (by rw [HYJ.out, <- hyn]; rfl)) HF5u.out
        have u3 := HNA.out.turn.cell (HUc.out 3 (.slice y.ra zs.length y.rc) (by decide) (by rw [HYJ.out, <- hyl]; rfl)) HF5u.out
        have hguV := lG V _ u0
        have HR1 : Hid (RdRow V ra zs.length (zs.map (Value.int .u64))) := rd_owns HNA.out.row
        have HR2 : Hid (RdRow V y.ra zs.length (zs.map (Value.int .u64))) := by
         have h := HRJ.out.1.row
         rw [hyl, hyz] at h
         have hno : ∀ g, y.ra = some ⟨g, 0, none⟩ -> ¬ F4 g /\ g < w8.heap.size := fun g hg => by
          have h1 := HRJ.out.2 g hg
          have h2 := (HRJ.out.1.own g hg).1
          have h3 := HX8.out.le
          exact ⟨fun hf => by have := HNew.out g hf; omega, by omega⟩
         exact (((h.ext HX8.out).turn HQ.out.2.1 (fun g hg => (hno g hg).1))).turn HNA.out.turn (fun g hg hf => (HQ.out.2.2 g hf).elim (hno g hg).1 (fun h => by have := (hno g hg).2; omega))
        have HSR : Hid (∀ w', Ext V w' -> _) := fun w' hx => ksameReply_c c0 f0 n0 zs (by have := HNA.out.le; simp only at this; omega) ra y.ra rc y.rc w' (HR1.out.ext hx) (HR2.out.ext hx)
        have HAV : Hid (Asked w8 V B' F4 d2) := ⟨F', HNA.out.deal, HQ.out.2.1.trans' HNA.out.turn (fun b hb e => (HQ.out.2.2 b e).resolve_right (by omega)), fun b hb => (HNA.out.grows b hb).elim (HQ.out.2.2 b) (fun h => .inr (Nat.le_trans HQ.out.2.1.size h))⟩
        clear hrow hyc hyf hyn hyz hyl p0 l0 l1 l2 l3 l4 l5 l6 l7 l8 hPl hgl
        unfold replyV at HSR
        generalize zs.length = zl at *
        go_wp2_with fail
        refine wp_region_held_drew (S := ((fun w' => w'.cell? ⟨rb, 0, none⟩ = some (.int .i64 c0) /\ w'.cell? ⟨rb, 1, none⟩ = some (.int .i64 f0) /\ w'.cell? ⟨rb, 2, none⟩ = some (.int .i64 n0) /\ w'.cell? ⟨rb, 3, none⟩ = some (.slice ra zl rc) /\ w'.cell? ⟨gu, j * 4, none⟩ = some (.int .i64 c0) /\ w'.cell? ⟨gu, j * 4 + 1, none⟩ = some (.int .i64 f0) /\ w'.cell? ⟨gu, j * 4 + 2, none⟩ = some (.int .i64 n0) /\ w'.cell? ⟨gu, j * 4 + 3, none⟩ = some (.slice y.ra zl y.rc)))) (by kernel_rfl) ⟨v0, v1, v2, v3, u0, u1, u2', u3⟩ (fun hHeld => ?_)
        refine zT 0 hHeld ?_
        refine zT 1 hHeld ?_
        refine zT 2 hHeld ?_
        refine zT 3 hHeld ?_
        refine zT 4 hHeld ?_
        refine zR 5 fun K hK => ?_
        (try simp only [lA, lB, lC])
        go_simp
        refine (HSR.out _ (Ext.drew (Ext.refl _))).mono ?_
        rintro e x9 ⟨rfl, hx9⟩
        have HX9 : Hid (Ext V x9) := (Ext.drew (Ext.refl _)).trans hx9
        clear hx9
        refine hK.out _ _ ⟨HX9.out.cell v0, HX9.out.cell v1, HX9.out.cell v2, HX9.out.cell v3, HX9.out.cell u0, HX9.out.cell u1, HX9.out.cell u2', HX9.out.cell u3⟩ (fun hHeld => ?_)
        clear hK K
        try simp only [Act.put, lA, lB, lC, lD, lE, lF]
        refine zT 6 hHeld ?_
        refine wpAnyH_done (by kernel_rfl) ?_ _
        clear hHeld v0 v1 v2 v3 u0 u1 u2' u3
        go_wp2_with fail
        obtain ⟨Fq, a1, a2, a3⟩ := HAV.out
        exact ⟨⟨j + 1, by omega, by go_num, Fq, a1.ext HX9.out, a2.trans (Turn.of_ext HX9.out), a3⟩, by simp [intOf]; omega⟩
     ·obtain rfl : n = j := by omega
      have HTe : Hid (Turn (fun b => w0.heap.size <= b) w0 wr) := (HT4.out.trans (Turn.of_ext HX8.out)).trans' HQ.out.2.1 (fun b hb e => by have := HNew.out b e; have := HN0.out; omega)
      go_wp2_with fail
      go_ret
      exact ⟨rfl, HTe.out⟩
end
end Go.Proofs.YtmnjhhachdlmkaaGreat
