import Derived.Test.YtmnjhhachdlmkaaGreatK18
import Derived.Test.YtmnjhhachdlmkaaGreatK07
import Derived.Test.YtmnjhhachdlmkaaGreatK17
namespace Go.Proofs.YtmnjhhachdlmkaaGreat
set_option linter.unusedVariables false
set_option linter.unusedSimpArgs false
open List renaming getElem_toArray -> lA, getElem_cons_succ -> lB, getElem_cons_zero -> lC, setIfInBounds_toArray -> lD, set_cons_zero -> lE, set_cons_succ -> lF
open World renaming block_lt_of_cell? -> lG
open Value renaming ownBlock -> lH
-- VDn
section
set_option maxRecDepth 100000
set_option maxHeartbeats 1600000
open Go.RowKit Go.Maps
theorem infoFile : (Tryz.prog.info? 74).map (fun i => (i.zero, i.size, i.bytes)) = some (some (.agg #[.string ⟨#[]⟩, .string ⟨#[]⟩]), 2, 32) := by kernel_rfl
def fileCells (fs : List FileV) : List Value := fs.flatMap fun f => [.string f.1, .string f.2]
theorem fileCells_append (a b : List FileV) : fileCells (a ++ b) = fileCells a ++ fileCells b := by simp [fileCells]
theorem len_fileCells (fs : List FileV) : (fileCells fs).length = fs.length * 2 := by
 induction fs with
 | nil => rfl
 | cons f t ih => simp [fileCells] at ih ⊢; omega
theorem fileCells_at (fs : List FileV) (i : Nat) (h : i < fs.length) : (fileCells fs)[i * 2]? = some (.string fs[i].1) /\ (fileCells fs)[i * 2 + 1]? = some (.string fs[i].2) := by
 induction fs generalizing i with
 | nil => simp at h
 | cons f t ih =>
  have e : fileCells (f :: t) = .string f.1 :: .string f.2 :: fileCells t := by simp [fileCells]
  cases i with
  | zero => rw [e]; simp
  | succ i =>
   have := ih i (by simpa using h)
   rw [e, show (i + 1) * 2 = i * 2 + 2 by omega]
   simpa using this
theorem file_one (fs : List FileV) : ∀ u ∈ fileCells fs, u.oneCell' = true := by
 intro u hu
 simp only [fileCells, List.mem_flatMap, List.mem_cons, List.not_mem_nil, or_false] at hu
 obtain ⟨o, _, h⟩ := hu
 rcases h with rfl | rfl <;> rfl
def FileRow (w : World) (base : Nat) (v : Value) (fs : List FileV) : Prop := w.ownsRow base 74 2 v fs.length (fileCells fs)
theorem FileRow.cells {w : World} {base g n cap : Nat} {fs : List FileV} (h : FileRow w base (.slice (some ⟨g, 0, none⟩) n cap) fs) (i : Nat) (hi : i < fs.length) : w.cell? ⟨g, i * 2, none⟩ = some (.string fs[i].1) /\ w.cell? ⟨g, i * 2 + 1, none⟩ = some (.string fs[i].2) := by
 obtain ⟨a, cap', e⟩ := owns_slice h
 have en : n = fs.length := by simp at e; exact e.2.1
 subst en
 exact ⟨owns_cell h (fileCells_at fs i hi).1, owns_cell h (fileCells_at fs i hi).2⟩
theorem str_ne {a b : ByteArray} (h : a ≠ b) : (a.toList == b.toList) = false := by
 rw [Bool.eq_false_iff]
 intro hq
 apply h
 have hq2 : a.toList = b.toList := by simpa using hq
 rw [ByteArray.toList_eq, ByteArray.toList_eq] at hq2
 cases a; cases b
 congr 1
 exact Array.toList_inj.1 hq2
theorem dropN_take (fs : List FileV) (a : ByteArray) (j : Nat) (h : j < fs.length) : dropN (fs.take (j + 1)) a = if fs[j].1 = a then dropN (fs.take j) a else dropN (fs.take j) a ++ [fs[j]] := by
 rw [List.take_succ_eq_append_getElem h]
 simp only [dropN, List.filter_append, List.filter_cons, List.filter_nil]
 by_cases he : fs[j].1 = a
 ·simp [he]
 ·simp [he]
theorem without_c {g n cap : Nat} {fs : List FileV} (name : ByteArray) (hn : fs.length = n) (hnb : n <= 100000000) (w : World) (h : FileRow w 0 (.slice (some ⟨g, 0, none⟩) n cap) fs) :
  Calls Tryz.prog 63 #[.slice (some ⟨g, 0, none⟩) n cap, .string name] w fun e w' => ∃ v', e = .returned v' /\ FileRow w' w.heap.size v' (dropN fs name) /\ Ext w w' := by
 obtain ⟨i0, hi, hz0, hz1, hz2⟩ := info_parts infoFile
 have HN : Hid (fs.length = n) := hn
 have HF : Hid (FileRow w 0 (.slice (some ⟨g, 0, none⟩) n cap) fs) := h
 clear hn h
 go_enter Tryz.func63, Tryz.ntmps63
 go_wp2_with fail
 go_loopw [5, 6] (fun u i wr => ∃ j : Nat, j <= n /\ i = .int .i64 j /\ FileRow wr w.heap.size u (dropN (fs.take j) name) /\ Ext w wr) (fun _ i _ => n - (intOf i).toNat)
 case atStart => exact ⟨0, Nat.zero_le _, rfl, World.ownsRow_nil _ _ _ _, Ext.refl _⟩
 case round =>
  obtain ⟨j, hj, rfl, ho, hx⟩ := hrel
  have HX : Hid (Ext w wr) := hx
  have HO : Hid (FileRow wr w.heap.size u5 (dropN (fs.take j) name)) := ho
  clear hx ho
  by_cases hlt : j < n
  ·have hjl : j < fs.length := by rw [HN.out]; exact hlt
   obtain ⟨k0, k1⟩ := (show FileRow wr 0 (.slice (some ⟨g, 0, none⟩) n cap) fs from HX.out.owns HF.out).cells j hjl
   have hgl := lG wr _ k0
   have hj0 : (0 : Int) <= (j : Int) := by omega
   have hj1 : (j : Int) < n := by omega
   have HT := dropN_take fs name j hjl
   have hdl : (dropN (fs.take j) name).length <= j := Nat.le_trans (dropN_len _ _) (by simp; omega)
   by_cases he : fs[j].1 = name
   ·rw [if_pos he] at HT
    have HTT : Hid _ := HT
    rw [he] at k0
    clear HT he
    generalize fs[j].2 = by1 at *
    go_wp2_with fail
    go_roundw
    case rel => exact ⟨j + 1, by omega, by go_num, by rw [HTT.out]; exact HO.out, HX.out⟩
    case measure => simp [intOf]; omega
   ·rw [if_neg he] at HT
    have HTT : Hid _ := HT
    have he3 := str_ne he
    obtain ⟨f, hf⟩ : ∃ f, fs[j] = f := ⟨_, rfl⟩
    rw [hf] at k0 k1 he3 HTT
    clear HT he hf
    obtain ⟨by0, by1⟩ := f
    simp only at k0 k1 he3
    go_wp2_with (at_builtin; refine wpList_append_own _ rfl _ _ 40 rfl w.heap.size 74 i0 _ 2 32 Tryz.underlying40 hi hz0 hz1 hz2 rfl (by decide) _ _ _ rfl (World.ownsRow.alloc HO.out _) ⟨_, 0, none⟩ 1 1 [.string by0, .string by1] rfl rfl ?c1 ?c2 ?c3 ?c4 ?c5 ?_)
    case c2 => exact ⟨rfl, rfl⟩
    case c3 => unfold maxLen; omega
    case c4 => omega
    case c5 => have := HX.out.le; omega
    intro v4 w4 ho4 hg4 _
    have HX4 : Hid (Ext w w4) := Ext.grown (HX.out.alloc _) hg4 (fun q hq => (World.ownsRow.lt HO.out q hq).1)
    have HO4 : Hid (FileRow w4 w.heap.size v4 (dropN (fs.take (j + 1)) name)) := by
     show World.ownsRow _ _ _ _ _ _ _
     rw [HTT.out, fileCells_append, List.length_append]
     exact ho4
    clear ho4 hg4
    go_wp2
    go_roundw
    case rel => exact ⟨j + 1, by omega, by go_num, HO4.out, HX4.out⟩
    case measure => simp [intOf]; omega
  ·obtain rfl : j = n := by omega
   have hft : dropN (fs.take j) name = dropN fs name := by rw [List.take_of_length_le (by rw [HN.out]; exact Nat.le_refl _)]
   go_wp2
   go_ret
   exact ⟨_, rfl, by rw [<- hft]; exact HO.out, HX.out⟩
theorem without0_c (name : ByteArray) (w : World) :
  Calls Tryz.prog 63 #[.slice none 0 0, .string name] w fun e w' => ∃ v', e = .returned v' /\ FileRow w' w.heap.size v' (dropN [] name) /\ Ext w w' := by
 go_enter Tryz.func63, Tryz.ntmps63
 go_wp2_with fail
 go_loopw [5, 6] (fun u i wr => i = .int .i64 0 /\ u = .slice none 0 0 /\ Ext w wr) (fun _ _ _ => 0)
 case atStart => exact ⟨rfl, rfl, Ext.refl _⟩
 case round =>
  obtain ⟨rfl, rfl, hx⟩ := hrel
  have HX : Hid (Ext w wr) := hx
  clear hx
  go_wp2
  go_ret
  exact ⟨_, rfl, World.ownsRow_nil _ _ _ _, HX.out⟩
theorem without_x {v : Value} {fs : List FileV} (name : ByteArray) (hnb : fs.length <= 100000000) (w : World) (h : FileRow w 0 v fs) :
  Calls Tryz.prog 63 #[v, .string name] w fun e w' => ∃ v', e = .returned v' /\ FileRow w' w.heap.size v' (dropN fs name) /\ Ext w w' := by
 rcases owns_form h with ⟨rfl, hl, _⟩ | ⟨g, cap, rfl, _, _, _⟩
 ·obtain rfl : fs = [] := List.length_eq_zero_iff.1 hl
  exact without0_c name w
 ·exact without_c name rfl hnb w h
end
-- VDo
section
set_option maxRecDepth 100000
set_option maxHeartbeats 32000000
open Go.RowKit Go.Maps
theorem addr_addF (b off j : Nat) : (⟨b, off, none⟩ : Addr).add j = ⟨b, off + j, none⟩ := by simp [Addr.add]
theorem op_cells {w : World} {og on ocap : Nat} {ops : List OpV} (h : w.ownsRow 0 134 4 (.slice (some ⟨og, 0, none⟩) on ocap) on (opCells ops)) (j : Nat) (hj : j < ops.length) :
  w.cell? ⟨og, j * 4, none⟩ = some (.int .i64 ops[j].k) /\ w.cell? ⟨og, j * 4 + 1, none⟩ = some (.string ops[j].a) /\ w.cell? ⟨og, j * 4 + 2, none⟩ = some (.string ops[j].b) /\ w.cell? ⟨og, j * 4 + 3, none⟩ = some (.string ops[j].c) := by
 have key : ∀ (l : List OpV) (j : Nat) (hj : j < l.length) (i : Nat), i < 4 -> (opCells l)[j * 4 + i]? = l[j].cells[i]? := by
  intro l
  induction l with
  | nil => intro j hj; simp at hj
  | cons o t ih =>
   intro j hj i hi
   have e : opCells (o :: t) = o.cells ++ opCells t := by simp [opCells]
   have hl : o.cells.length = 4 := rfl
   rw [e]
   cases j with
   | zero => rw [Nat.zero_mul, Nat.zero_add, List.getElem?_append_left (by omega)]; rfl
   | succ j =>
    rw [List.getElem?_append_right (by omega), hl, show (j + 1) * 4 + i - 4 = j * 4 + i by omega, ih j (by simpa using hj) i hi]
    rfl
 have k := key ops j hj
 exact ⟨owns_cell h ((k 0 (by omega)).trans rfl), owns_cell h ((k 1 (by omega)).trans rfl), owns_cell h ((k 2 (by omega)).trans rfl), owns_cell h ((k 3 (by omega)).trans rfl)⟩
theorem doneS_snoc (fs : List FileV) (ops : List OpV) (j : Nat) (h : j < ops.length) : doneS fs (ops.take (j + 1)) = opS (doneS fs (ops.take j)) ops[j] := by
 rw [List.take_succ_eq_append_getElem h, doneS_append]
 rfl
theorem fileCells_set (fs : List FileV) (i : Nat) (h : i < fs.length) (c : ByteArray) : fileCells (fs.set i (fs[i].1, c)) = (fileCells fs).set (i * 2 + 1) (.string c) := by
 induction fs generalizing i with
 | nil => simp at h
 | cons f t ih =>
  have e : ∀ (f : FileV) (t : List FileV), fileCells (f :: t) = .string f.1 :: .string f.2 :: fileCells t := fun f t => by simp [fileCells]
  cases i with
  | zero => simp [e]
  | succ i =>
   simp only [lF, lB]
   rw [e, e, ih i (by simpa using h), show (i + 1) * 2 + 1 = i * 2 + 1 + 2 by omega]
   rfl
theorem modify_setF {α : Type} (l : List α) (i : Nat) (h : i < l.length) (f : α -> α) : l.modify i f = l.set i (f l[i]) := by
 refine List.ext_getElem (by simp) (fun j h1 h2 => ?_)
 rw [List.getElem_modify, List.getElem_set]
 by_cases e : i = j
 ·subst e; simp
 ·simp [e]
theorem wpList_append_files {os : Array Oper} {rest : List Oper} {o : Oper} {a : Act} {w : World} {Q : Exit -> Act -> World -> Prop} (hgd : o.guard = none) (s x : Operand) (ho : o.op = .call { callee := .builtin .append, args := #[s, x], argTypes := #[40, 40] })
  (fv : Value) (fs : List FileV) (hs : a.eval s = .slice none 0 0) (hx : a.eval x = fv) (hf : FileRow w 0 fv fs) (hn : fs.length <= 10000000) (h : ∀ v' w', FileRow w' w.heap.size v' fs -> Ext w w' -> wpList Tryz.prog os Q rest (a.put o.dst v') w') : wpList Tryz.prog os Q (o :: rest) a w := by
 obtain ⟨i0, hi, hz0, hz1, hz2⟩ := info_parts infoFile
 rcases owns_form hf with ⟨rfl, hl, _⟩ | ⟨g, cap, rfl, _, _, _⟩
 ·obtain rfl : fs = [] := List.length_eq_zero_iff.1 hl
  have hr : (Builtin.append_ #[40, 40] o.type #[.slice none 0 0, .slice none 0 0]).run Tryz.prog w = .ok (.slice none 0 0) w := by
   simp [Builtin.append_, run_underlying Tryz.underlying40, sizeOf, typeInfo, hi, Builtin.lenOf, Builtin.firstCells, storeCells]
  refine wpList_plain hgd fun _ hK => ?_
  unfold Oper.wp execOp
  simp only [ho, resolve, invoke, builtin, Sem.run_bind, Sem.run_pure, Result.andThen_ok, List.map_toArray, List.map_cons, List.map_nil, hs, hx, hr]
  exact hK _ _ (h _ _ (World.ownsRow_nil _ _ _ _) (Ext.refl w))
 ·refine wpList_append_own w hgd s x 40 ho w.heap.size 74 i0 _ 2 32 Tryz.underlying40 hi hz0 hz1 hz2 rfl (by decide) _ _ _ hs (World.ownsRow_nil _ _ _ _) ⟨g, 0, none⟩ fs.length cap (fileCells fs) hx (len_fileCells fs) (fun j u hu => ?_) (file_one fs) (by unfold maxLen; omega) (by omega) (Nat.le_refl _) (fun v' w' ho' hg' _ => h v' w' ?_ (Ext.grown (Ext.refl w) hg' (fun q hq => by simp [lH] at hq)))
  ·rw [addr_addF, Nat.zero_add]
   exact owns_cell hf hu
  ·show World.ownsRow _ _ _ _ _ _ _
   simpa using ho'
theorem done_c {fv : Value} {n og on ocap M : Nat} {fs : List FileV} {ops : List OpV} (hn : fs.length = n) (hon : ops.length = on) (hnb : n + on <= 10000000) (hM : ∀ f ∈ fs, f.2.size <= M) (hcap : capN M ops <= 1000000000) (w : World) (hf : FileRow w 0 fv fs) (ho : w.ownsRow 0 134 4 (.slice (some ⟨og, 0, none⟩) on ocap) on (opCells ops)) :
  Calls Tryz.prog 30 #[fv, .slice (some ⟨og, 0, none⟩) on ocap] w fun e w' => ∃ v', e = .returned v' /\ FileRow w' w.heap.size v' (doneS fs ops) /\ Ext w w' := by
 obtain ⟨i0, hi, hz0, hz1, hz2⟩ := info_parts infoFile
 have HN : Hid (fs.length = n /\ ops.length = on) := ⟨hn, hon⟩
 have HF : Hid (FileRow w 0 fv fs) := hf
 have HOP : Hid (w.ownsRow 0 134 4 (.slice (some ⟨og, 0, none⟩) on ocap) on (opCells ops)) := ho
 have HM : Hid ((∀ f ∈ fs, f.2.size <= M) /\ capN M ops <= 1000000000) := ⟨hM, hcap⟩
 have HFl : Hid (fs.length <= 10000000) := by show _ <= _; omega
 clear hn hon hf ho hM hcap
 go_enter Tryz.func30, Tryz.ntmps30
 go_wp2_with (at_builtin; refine wpList_append_files rfl _ _ rfl fv fs rfl rfl HF.out HFl.out ?_)
 intro v1 w1 hr1 hx1
 have HX1 : Hid (Ext w w1) := hx1
 have HO1 : Hid (FileRow w1 w.heap.size v1 fs) := hr1
 clear hr1 hx1
 go_wp2_with fail
 go_loopw [5, 6] (fun u i wr => ∃ j : Nat, j <= on /\ i = .int .i64 j /\ FileRow wr w.heap.size u (doneS fs (ops.take j)) /\ Ext w wr) (fun _ i _ => on - (intOf i).toNat)
 case atStart => exact ⟨0, Nat.zero_le _, rfl, HO1.out, HX1.out⟩
 case round =>
  clear HO1 HX1
  obtain ⟨j, hj, rfl, hrow, hx⟩ := hrel
  have HX : Hid (Ext w wr) := hx
  have HO : Hid (FileRow wr w.heap.size u5 (doneS fs (ops.take j))) := hrow
  clear hx hrow
  by_cases hlt : j < on
  ·have hjl : j < ops.length := by rw [HN.out.2]; exact hlt
   obtain ⟨k0, k1, k2, k3⟩ := op_cells (HX.out.owns HOP.out) j hjl
   have hog := lG wr _ k0
   have hj0 : (0 : Int) <= (j : Int) := by omega
   have hj1 : (j : Int) < on := by omega
   have HS : Hid (doneS fs (ops.take (j + 1)) = opS (doneS fs (ops.take j)) ops[j]) := doneS_snoc fs ops j hjl
   have hlen : (doneS fs (ops.take j)).length <= 10000000 := by
    have h1 := doneS_len fs (ops.take j)
    have h2 := HN.out
    rw [List.length_take] at h1
    omega
   have HSz : Hid ((∀ f ∈ doneS fs (ops.take j), f.2.size <= 1000000000) /\ ∀ f ∈ doneS fs (ops.take j), ops[j].k = 1 -> f.2.size + ops[j].c.size <= 1000000000) := by
    have h1 := doneS_size HM.out.1 (ops.take j)
    have h2 : capN M (ops.take j) <= capN M ops := by
     conv => rhs; rw [<- List.take_append_drop j ops, capN_append]
     exact capN_le _ _
    have h3 : capO (capN M (ops.take j)) ops[j] <= capN M ops := by
     conv => rhs; rw [<- List.take_append_drop (j + 1) ops, capN_append]
     refine Nat.le_trans ?_ (capN_le _ _)
     rw [List.take_succ_eq_append_getElem hjl, capN_append]
     exact Nat.le_refl _
    have h4 := HM.out.2
    refine ⟨fun f hf => by have := h1 f hf; omega, fun f hf hk => ?_⟩
    have := h1 f hf
    unfold capO at h3
    rw [if_pos hk] at h3
    omega
   generalize ops[j] = o at *
   generalize doneS fs (ops.take j) = gs at *
   obtain ⟨ok, oa, ob, oc⟩ := o
   simp only at *
   clear hjl
   have hform := owns_form HO.out
   rcases hform with ⟨rfl, hgl, _⟩ | ⟨g, cap, rfl, hbg, _, _⟩
   ·obtain rfl : gs = [] := List.length_eq_zero_iff.1 hgl
    clear hgl
    generalize wr = w0 at *
    go_wp2_with fail
    have hrow := heap_alloc_new w0 (.cells #[.int .i64 ok, .string oa, .string ob, .string oc] 134)
    have hxa : Ext w0 (w0.alloc (.cells #[.int .i64 ok, .string oa, .string ob, .string oc] 134)) := (Ext.refl w0).alloc _
    generalize World.alloc w0 _ = W at hrow hxa ⊢
    obtain ⟨bo, hbo⟩ : ∃ bo, w0.heap.size = bo := ⟨_, rfl⟩
    rw [hbo] at hrow ⊢
    have HRow : Hid _ := hrow
    have HXW : Hid (Ext w0 W) := hxa
    clear hrow hxa hbo k0 k1 k2 k3 hog
    go_loopw [8, 9] (fun av kv w2 => kv = .int .i64 0 /\ av = .int .i64 (-1) /\ Ext W w2) (fun _ _ _ => 0)
    case atStart => exact ⟨rfl, rfl, Ext.refl _⟩
    case round =>
     obtain ⟨rfl, rfl, hx2⟩ := hrel
     have hrow2 := hx2.block HRow.out
     have o0 := (cell_of_row wr _ 0 _ _ _ hrow2).trans (show _ = some (.int .i64 ok) from rfl)
     have o1 := (cell_of_row wr _ 1 _ _ _ hrow2).trans (show _ = some (.string oa) from rfl)
     have o2 := (cell_of_row wr _ 2 _ _ _ hrow2).trans (show _ = some (.string ob) from rfl)
     have o3 := (cell_of_row wr _ 3 _ _ _ hrow2).trans (show _ = some (.string oc) from rfl)
     have hbl := lG wr _ o0
     have HXr : Hid (Ext w wr) := HX.out.trans (HXW.out.trans hx2)
     have hwl := HXr.out.le
     clear hx2 hrow2
     obtain rfl | rfl | hk3 : ok = 0 \/ ok = 1 \/ ok ≠ 0 /\ ok ≠ 1 := by omega
     ·have HSS : Hid (doneS fs (ops.take (j + 1)) = [(oa, oc)]) := by
       show _ = _
       rw [HS.out]
       rfl
      go_wp2_with (at_builtin; refine wpList_append_own _ rfl _ _ 40 rfl w.heap.size 74 i0 _ 2 32 Tryz.underlying40 hi hz0 hz1 hz2 rfl (by decide) _ _ _ rfl (World.ownsRow_nil _ _ _ _) ⟨_, 0, none⟩ 1 1 [.string oa, .string oc] rfl rfl ?c1a ?c2a ?c3a ?c4a ?c5a ?_)
      case c2a => exact ⟨rfl, rfl⟩
      case c3a => unfold maxLen; omega
      case c5a => omega
      intro v4 w4 ho4 hg4 _
      have HX4 : Hid (Ext w w4) := Ext.grown (HXr.out.alloc _) hg4 (fun q hq => by simp [lH] at hq)
      have HO4 : Hid (FileRow w4 w.heap.size v4 (doneS fs (ops.take (j + 1)))) := by
       show World.ownsRow _ _ _ _ _ _ _
       rw [HSS.out]
       simpa [fileCells] using ho4
      clear ho4 hg4
      go_wp2
      exact ⟨⟨j + 1, by omega, by go_num, HO4.out, HX4.out⟩, by simp [intOf]; omega⟩
     ·have HSS : Hid (doneS fs (ops.take (j + 1)) = [(oa, oc)]) := by
       show _ = _
       rw [HS.out]
       rfl
      go_wp2_with (at_builtin; refine wpList_append_own _ rfl _ _ 40 rfl w.heap.size 74 i0 _ 2 32 Tryz.underlying40 hi hz0 hz1 hz2 rfl (by decide) _ _ _ rfl (World.ownsRow_nil _ _ _ _) ⟨_, 0, none⟩ 1 1 [.string oa, .string oc] rfl rfl ?c1b ?c2b ?c3b ?c4b ?c5b ?_)
      case c2b => exact ⟨rfl, rfl⟩
      case c3b => unfold maxLen; omega
      case c5b => omega
      intro v4 w4 ho4 hg4 _
      have HX4 : Hid (Ext w w4) := Ext.grown (HXr.out.alloc _) hg4 (fun q hq => by simp [lH] at hq)
      have HO4 : Hid (FileRow w4 w.heap.size v4 (doneS fs (ops.take (j + 1)))) := by
       show World.ownsRow _ _ _ _ _ _ _
       rw [HSS.out]
       simpa [fileCells] using ho4
      clear ho4 hg4
      go_wp2
      exact ⟨⟨j + 1, by omega, by go_num, HO4.out, HX4.out⟩, by simp [intOf]; omega⟩
     ·obtain ⟨n0, n1⟩ := hk3
      by_cases h3 : ok = 3
      ·subst h3
       have HSS : Hid (doneS fs (ops.take (j + 1)) = []) := by
        show _ = _
        rw [HS.out]
        rfl
       go_wp2_with fail
       exact ⟨⟨j + 1, by omega, by go_num, by rw [HSS.out]; exact World.ownsRow_nil _ _ _ _, HXr.out⟩, by simp [intOf]; omega⟩
      ·by_cases h5 : ok = 5
       ·subst h5
        have HSS : Hid (doneS fs (ops.take (j + 1)) = []) := by
         show _ = _
         rw [HS.out]
         rfl
        have HW1 : Hid (∀ w2 : World, _) := fun w2 => without0_c oa w2
        clear n0 n1 h3
        go_wp2_with fail
        refine (HW1.out _).mono ?_
        rintro e w5 ⟨v5, rfl, hr5, hx5⟩
        have HR5 : Hid (FileRow w5 w.heap.size v5 []) := owns_base hr5 (by omega)
        have HX5 : Hid (Ext w w5) := HXr.out.trans hx5
        clear hr5 hx5
        go_wp2_with fail
        exact ⟨⟨j + 1, by omega, by go_num, by rw [HSS.out]; exact HR5.out, HX5.out⟩, by simp [intOf]; omega⟩
       ·have HSS : Hid (doneS fs (ops.take (j + 1)) = []) := by
         show _ = _
         rw [HS.out]
         unfold opS
         rw [if_neg (by simp; omega), if_neg (by simp; omega), if_neg (by simp; omega)]
        go_wp2_with fail
        exact ⟨⟨j + 1, by omega, by go_num, by rw [HSS.out]; exact World.ownsRow_nil _ _ _ _, HXr.out⟩, by simp [intOf]; omega⟩
   ·obtain ⟨m, hm⟩ : ∃ m, gs.length = m := ⟨_, rfl⟩
    have HMm : Hid (gs.length = m) := hm
    rw [hm] at hlen
    rw [hm] at HO ⊢
    clear hm
    generalize wr = w0 at *
    go_wp2_with fail
    have hrow := heap_alloc_new w0 (.cells #[.int .i64 ok, .string oa, .string ob, .string oc] 134)
    have hxa : Ext w0 (w0.alloc (.cells #[.int .i64 ok, .string oa, .string ob, .string oc] 134)) := (Ext.refl w0).alloc _
    generalize World.alloc w0 _ = W at hrow hxa ⊢
    obtain ⟨bo, hbo⟩ : ∃ bo, w0.heap.size = bo := ⟨_, rfl⟩
    rw [hbo] at hrow ⊢
    have HRow : Hid _ := hrow
    have HXW : Hid (Ext w0 W) := hxa
    have HBo : Hid (w0.heap.size = bo) := hbo
    have HBg : Hid (w.heap.size <= g) := hbg
    clear hrow hxa hbo k0 k1 k2 k3 hog hbg
    go_loopw [8, 9] (fun av kv w2 => ∃ q : Nat, q <= m /\ kv = .int .i64 q /\ av = .int .i64 (atK gs oa q) /\ Ext W w2) (fun _ kv _ => m - (intOf kv).toNat)
    case atStart => exact ⟨0, Nat.zero_le _, rfl, rfl, Ext.refl _⟩
    case round =>
     obtain ⟨q, hq, rfl, rfl, hx2⟩ := hrel
     have HX2 : Hid (Ext W wr) := hx2
     have hrow2 := hx2.block HRow.out
     have HRow2 : Hid _ := hrow2
     have o0 := (cell_of_row wr _ 0 _ _ _ hrow2).trans (show _ = some (.int .i64 ok) from rfl)
     have o1 := (cell_of_row wr _ 1 _ _ _ hrow2).trans (show _ = some (.string oa) from rfl)
     have o2 := (cell_of_row wr _ 2 _ _ _ hrow2).trans (show _ = some (.string ob) from rfl)
     have o3 := (cell_of_row wr _ 3 _ _ _ hrow2).trans (show _ = some (.string oc) from rfl)
     have hbl := lG wr _ o0
     have HOr : Hid (FileRow wr w.heap.size (.slice (some ⟨g, 0, none⟩) m cap) gs) := by
      show FileRow _ _ _ _
      exact Ext.owns (HXW.out.trans hx2) HO.out
     clear hx2 hrow2
     by_cases hql : q < m
     ·have hqg : q < gs.length := by rw [HMm.out]; exact hql
      obtain ⟨f0, f1⟩ := HOr.out.cells q hqg
      have hgl := lG wr _ f0
      have hq0 : (0 : Int) <= (q : Int) := by omega
      have hq1 : (q : Int) < m := by omega
      have hA : atK gs oa (q + 1) = if gs[q].1 = oa then (q : Int) else atK gs oa q := by
       show (if (gs.getD q (sNone, sNone)).1 = oa then (q : Int) else atK gs oa q) = _
       rw [show gs.getD q (sNone, sNone) = gs[q] by simp [List.getD_eq_getElem?_getD, List.getElem?_eq_getElem hqg]]
      by_cases he : gs[q].1 = oa
      ·rw [if_pos he] at hA
       have HA : Hid _ := hA
       rw [he] at f0
       clear hA he f1 o2 o3 o0
       go_wp2_with fail
       go_quiet (fail)
       go_wp2_with fail
       exact ⟨⟨q + 1, by omega, by go_num, by rw [HA.out], Ext.drewN HX2.out _⟩, by simp [intOf]; omega⟩
      ·rw [if_neg he] at hA
       have HA : Hid _ := hA
       have he3 := str_ne he
       generalize gs[q].1 = fn at *
       clear hA he f1 o2 o3 o0
       go_wp2_with fail
       go_quiet (fail)
       go_wp2_with fail
       exact ⟨⟨q + 1, by omega, by go_num, by rw [HA.out], Ext.drewN HX2.out _⟩, by simp [intOf]; omega⟩
     ·obtain rfl : q = m := by omega
      have hr := atK_range gs oa q
      have HR : Hid _ := hr
      have HOq : Hid (wr.ownsRow w.heap.size 74 2 (.slice (some ⟨g, 0, none⟩) q cap) q (fileCells gs)) := by
       have h := HOr.out
       unfold FileRow at h
       rw [HMm.out] at h
       exact h
      have HXr : Hid (Ext w wr) := HX.out.trans (HXW.out.trans HX2.out)
      have hwl := HXr.out.le
      obtain ⟨at', hat⟩ : ∃ at', atK gs oa q = at' := ⟨_, rfl⟩
      have HAt : Hid (atK gs oa gs.length = at') := by
       show _ = _
       rw [HMm.out]; exact hat
      rw [hat] at hr ⊢
      clear hat HR
      obtain rfl | rfl | hk3 : ok = 0 \/ ok = 1 \/ ok ≠ 0 /\ ok ≠ 1 := by omega
      ·by_cases hneg : at' < 0
       ·have HSS : Hid (doneS fs (ops.take (j + 1)) = gs ++ [(oa, oc)]) := by
         show _ = _
         rw [HS.out]
         unfold opS
         rw [if_pos (.inl rfl)]
         simp only [HAt.out, if_pos hneg]
        clear hr
        go_wp2_with (at_builtin; refine wpList_append_own _ rfl _ _ 40 rfl w.heap.size 74 i0 _ 2 32 Tryz.underlying40 hi hz0 hz1 hz2 rfl (by decide) _ _ _ rfl (World.ownsRow.alloc HOq.out _) ⟨_, 0, none⟩ 1 1 [.string oa, .string oc] rfl rfl ?c1c ?c2c ?c3c ?c4c ?c5c ?_)
        case c2c => exact ⟨rfl, rfl⟩
        case c3c => unfold maxLen; omega
        case c4c => omega
        case c5c => omega
        intro v4 w4 ho4 hg4 _
        have HX4 : Hid (Ext w w4) := Ext.grown (HXr.out.alloc _) hg4 (fun q hq => (World.ownsRow.lt HOq.out q hq).1)
        have HO4 : Hid (FileRow w4 w.heap.size v4 (doneS fs (ops.take (j + 1)))) := by
         show World.ownsRow _ _ _ _ _ _ _
         rw [HSS.out, fileCells_append, List.length_append, HMm.out]
         exact ho4
        clear ho4 hg4
        go_wp2
        exact ⟨⟨j + 1, by omega, by go_num, HO4.out, HX4.out⟩, by simp [intOf]; omega⟩
       ·have hr2 := hr.resolve_left (by omega)
        obtain ⟨ai, rfl⟩ := Int.eq_ofNat_of_zero_le hr2.1
        have hail : ai < gs.length := by rw [HMm.out]; omega
        obtain ⟨f0, f1⟩ := HOr.out.cells ai hail
        have hgl := lG wr _ f0
        have hfr := World.ownsRow.frozenAt HOq.out (ai * 2 + 1)
        have ha1 : (ai : Int) < q := by omega
        have ha0 : (0 : Int) <= (ai : Int) := by omega
        have hgb : g ≠ bo := by
         have h1 := owns_lt HO.out (g := g) rfl
         have h2 := HBo.out
         omega
        have hsz := HSz.out.1 _ (List.getElem_mem hail)
        have hs2 := HSz.out.2 _ (List.getElem_mem hail)
        have HSS : Hid (doneS fs (ops.take (j + 1)) = gs.set ai (gs[ai].1, oc)) := by
         show _ = _
         rw [HS.out]
         unfold opS
         rw [if_pos (.inl rfl)]
         simp only [HAt.out]
         rw [if_neg hneg, Int.toNat_natCast, modify_setF _ _ hail]
         rfl
        have HSet : Hid (∀ w2 : World, FileRow w2 w.heap.size (.slice (some ⟨g, 0, none⟩) q cap) gs -> FileRow (w2.setCell ⟨g, ai * 2 + 1, none⟩ (.string (oc))) w.heap.size (.slice (some ⟨g, 0, none⟩) q cap) (gs.set ai (gs[ai].1, oc))) := fun w2 h => by
         have h' := h
         unfold FileRow at h' ⊢
         rw [List.length_set, show fileCells (gs.set ai (gs[ai].1, oc)) = (fileCells gs).set (ai * 2 + 1) (.string (oc)) from fileCells_set gs ai hail (oc)]
         rw [HMm.out] at h' ⊢
         exact owns_set h' _ _
        generalize gs[ai].2 = fb at *
        generalize gs[ai].1 = fn at *
        clear hr hr2 hail hs2
        go_wp2_with fail
        exact ⟨⟨j + 1, by omega, by go_num, by rw [HSS.out]; exact HSet.out _ HOr.out, HXr.out.setCell HBg.out _⟩, by simp [intOf]; omega⟩
      ·by_cases hneg : at' < 0
       ·have HSS : Hid (doneS fs (ops.take (j + 1)) = gs ++ [(oa, oc)]) := by
         show _ = _
         rw [HS.out]
         unfold opS
         rw [if_pos (.inr rfl)]
         simp only [HAt.out, if_pos hneg]
        clear hr
        go_wp2_with (at_builtin; refine wpList_append_own _ rfl _ _ 40 rfl w.heap.size 74 i0 _ 2 32 Tryz.underlying40 hi hz0 hz1 hz2 rfl (by decide) _ _ _ rfl (World.ownsRow.alloc HOq.out _) ⟨_, 0, none⟩ 1 1 [.string oa, .string oc] rfl rfl ?c1d ?c2d ?c3d ?c4d ?c5d ?_)
        case c2d => exact ⟨rfl, rfl⟩
        case c3d => unfold maxLen; omega
        case c4d => omega
        case c5d => omega
        intro v4 w4 ho4 hg4 _
        have HX4 : Hid (Ext w w4) := Ext.grown (HXr.out.alloc _) hg4 (fun q hq => (World.ownsRow.lt HOq.out q hq).1)
        have HO4 : Hid (FileRow w4 w.heap.size v4 (doneS fs (ops.take (j + 1)))) := by
         show World.ownsRow _ _ _ _ _ _ _
         rw [HSS.out, fileCells_append, List.length_append, HMm.out]
         exact ho4
        clear ho4 hg4
        go_wp2
        exact ⟨⟨j + 1, by omega, by go_num, HO4.out, HX4.out⟩, by simp [intOf]; omega⟩
       ·have hr2 := hr.resolve_left (by omega)
        obtain ⟨ai, rfl⟩ := Int.eq_ofNat_of_zero_le hr2.1
        have hail : ai < gs.length := by rw [HMm.out]; omega
        obtain ⟨f0, f1⟩ := HOr.out.cells ai hail
        have hgl := lG wr _ f0
        have hfr := World.ownsRow.frozenAt HOq.out (ai * 2 + 1)
        have ha1 : (ai : Int) < q := by omega
        have ha0 : (0 : Int) <= (ai : Int) := by omega
        have hgb : g ≠ bo := by
         have h1 := owns_lt HO.out (g := g) rfl
         have h2 := HBo.out
         omega
        have hsz := HSz.out.1 _ (List.getElem_mem hail)
        have hs2 := HSz.out.2 _ (List.getElem_mem hail)
        have HSS : Hid (doneS fs (ops.take (j + 1)) = gs.set ai (gs[ai].1, gs[ai].2 ++ oc)) := by
         show _ = _
         rw [HS.out]
         unfold opS
         rw [if_pos (.inr rfl)]
         simp only [HAt.out]
         rw [if_neg hneg, Int.toNat_natCast, modify_setF _ _ hail]
         rfl
        have HSet : Hid (∀ w2 : World, FileRow w2 w.heap.size (.slice (some ⟨g, 0, none⟩) q cap) gs -> FileRow (w2.setCell ⟨g, ai * 2 + 1, none⟩ (.string (gs[ai].2 ++ oc))) w.heap.size (.slice (some ⟨g, 0, none⟩) q cap) (gs.set ai (gs[ai].1, gs[ai].2 ++ oc))) := fun w2 h => by
         have h' := h
         unfold FileRow at h' ⊢
         rw [List.length_set, show fileCells (gs.set ai (gs[ai].1, gs[ai].2 ++ oc)) = (fileCells gs).set (ai * 2 + 1) (.string (gs[ai].2 ++ oc)) from fileCells_set gs ai hail (gs[ai].2 ++ oc)]
         rw [HMm.out] at h' ⊢
         exact owns_set h' _ _
        generalize gs[ai].2 = fb at *
        generalize gs[ai].1 = fn at *
        clear hr hr2 hail
        have hns : ¬ 9223372036854775807 < fb.size + oc.size := by have := hs2 rfl; omega
        clear hs2
        go_wp2_with fail
        have S3 : Hid (∀ w2 : World, w2.cell? ⟨bo, 3, none⟩ = some (.string oc) -> w2.cell? ⟨bo, 3, none⟩ = some (.string oc)) := fun _ h => h
        refine wp_region_held_drew (S := (fun w' => w'.cell? ⟨bo, 3, none⟩ = some (.string oc))) (by kernel_rfl) o3 (fun hHeld => ?_)
        refine zT 0 hHeld ?_
        refine zT 1 hHeld ?_
        refine zT 2 hHeld ?_
        refine zT 3 hHeld ?_
        refine zT 4 hHeld ?_
        refine zT 5 hHeld ?_
        refine zT 7 hHeld ?_
        refine zT 8 hHeld ?_
        refine zR 6 fun K hK => ?_
        (try simp only [lA, lB, lC])
        go_simp
        refine hK.out _ _ o3 (fun hHeld => ?_)
        clear hK K
        try simp only [Act.put, lA, lB, lC, lD, lE, lF]
        refine zT 9 hHeld ?_
        refine zT 10 hHeld ?_
        refine zT 11 hHeld ?_
        refine zR 12 fun K hK => ?_
        (try simp only [lA, lB, lC])
        go_simp
        refine hK.out _ _ (by show (World.setCell wr _ _).cell? _ = _; rw [World.cell?_setCell_far _ _ _ _ hgb]; exact o3) (fun hHeld => ?_)
        clear hK K
        try simp only [Act.put, lA, lB, lC, lD, lE, lF]
        refine wpAnyH_done (by kernel_rfl) ?_ _
        go_wp2_with fail
        exact ⟨⟨j + 1, by omega, by go_num, by rw [HSS.out]; exact HSet.out _ HOr.out, (Ext.drew HXr.out).setCell HBg.out _⟩, by simp [intOf]; omega⟩
      ·obtain ⟨n0, n1⟩ := hk3
       by_cases h3 : ok = 3
       ·subst h3
        by_cases hc : 0 <= at' /\ oa ≠ ob
        ·have hr2 := hr.resolve_left (by omega)
         obtain ⟨ai, rfl⟩ := Int.eq_ofNat_of_zero_le hr2.1
         have hail : ai < gs.length := by rw [HMm.out]; omega
         obtain ⟨f0, f1⟩ := HOr.out.cells ai hail
         have hgl := lG wr _ f0
         have ha1 : (ai : Int) < q := by omega
         have ha0 : (0 : Int) <= (ai : Int) := by omega
         have hne3 := str_ne hc.2
         have HSS : Hid (doneS fs (ops.take (j + 1)) = dropN (dropN gs oa) ob ++ [(ob, gs[ai].2)]) := by
          show _ = _
          rw [HS.out]
          unfold opS
          rw [if_neg (by simp), if_pos rfl]
          simp only [HAt.out]
          rw [if_pos hc, Int.toNat_natCast]
          simp [List.getD_eq_getElem?_getD, List.getElem?_eq_getElem hail]
         have hl1 := dropN_len gs oa
         have hl2 := dropN_len (dropN gs oa) ob
         rw [HMm.out] at hl1
         have HW1 : Hid (∀ w2 : World, Ext wr w2 -> _) := fun w2 hx => without_x oa (show gs.length <= 100000000 by rw [HMm.out]; omega) w2 (owns_base (Ext.owns hx HOr.out) (Nat.zero_le _))
         have HW2 : Hid (∀ (w2 : World) (v : Value) (base : Nat), FileRow w2 base v (dropN gs oa) -> _) := fun w2 v base h => without_x ob (show (dropN gs oa).length <= 100000000 by omega) w2 (owns_base h (Nat.zero_le _))
         generalize gs[ai].2 = fb at *
         clear hr hr2 hail hc n0 n1 f0
         go_wp2_with fail
         have SD : Hid (∀ W2, Ext wr W2 -> (fun w' => w'.cell? ⟨bo, 2, none⟩ = some (.string ob) /\ w'.cell? ⟨g, ai * 2 + 1, none⟩ = some (.string fb)) W2) := fun W2 hx => ⟨hx.cell o2, hx.cell f1⟩
         refine wp_region_held_drew (S := ((fun w' => w'.cell? ⟨bo, 2, none⟩ = some (.string ob) /\ w'.cell? ⟨g, ai * 2 + 1, none⟩ = some (.string fb)))) (by kernel_rfl) ⟨o2, f1⟩ (fun hHeld => ?_)
         refine zT 0 hHeld ?_
         refine zT 1 hHeld ?_
         refine zT 2 hHeld ?_
         refine zT 3 hHeld ?_
         refine zT 4 hHeld ?_
         refine zT 5 hHeld ?_
         refine zT 6 hHeld ?_
         refine zT 7 hHeld ?_
         refine zR 8 fun K hK => ?_
         (try simp only [lA, lB, lC])
         go_simp
         refine hK.out _ _ (SD.out _ (Ext.drew ((Ext.refl _).alloc _))) (fun hHeld => ?_)
         clear hK K
         try simp only [Act.put, lA, lB, lC, lD, lE, lF]
         have hnx : ((wr.alloc (.cells #[.string ⟨#[]⟩, .string ⟨#[]⟩] 74)).drew).heap[wr.heap.size]? = some (.cells #[.string ⟨#[]⟩, .string ⟨#[]⟩] 74 (0, 0)) := heap_alloc_new wr _
         have hxx : Ext wr (wr.alloc (.cells #[.string ⟨#[]⟩, .string ⟨#[]⟩] 74)).drew := Ext.drew ((Ext.refl _).alloc _)
         obtain ⟨xb, hxb⟩ : ∃ xb, wr.heap.size = xb := ⟨_, rfl⟩
         rw [hxb] at hnx ⊢
         generalize (wr.alloc (.cells #[.string ⟨#[]⟩, .string ⟨#[]⟩] 74)).drew = W3 at hnx hxx hHeld ⊢
         have x0 := (cell_of_row W3 _ 0 _ _ _ hnx).trans (show _ = some (.string ⟨#[]⟩) from rfl)
         have x1 := (cell_of_row W3 _ 1 _ _ _ hnx).trans (show _ = some (.string ⟨#[]⟩) from rfl)
         have xf0 := frozen_row hnx 0
         have xf1 := frozen_row hnx 1
         have hXV : Ext wr ((W3.setCell ⟨xb, 0, none⟩ (.string ob)).setCell ⟨xb, 1, none⟩ (.string fb)) := (hxx.setCell (by show wr.heap.size <= xb; omega) _).setCell (by show wr.heap.size <= xb; omega) _
         refine zR 9 fun K hK => ?_
         (try simp only [lA, lB, lC])
         go_simp
         refine hK.out _ _ (SD.out _ hXV) (fun hHeld => ?_)
         clear hK K
         try simp only [Act.put, lA, lB, lC, lD, lE, lF]
         refine wpAnyH_done (by kernel_rfl) ?_ _
         have hv := setCell_row (i := 1) (setCell_row (i := 0) hnx (.string ob)) (.string fb)
         clear x0 x1 xf0 xf1 hHeld hnx hxx
         generalize World.setCell (World.setCell W3 _ _) _ _ = V at hv hXV ⊢
         have HXV : Hid (Ext wr V) := hXV
         have HV : Hid (V.heap[xb]? = some (.cells #[.string ob, .string fb] 74 (0, 0))) := by show _ = _; simpa using hv
         have v1 := hXV.cell o1
         have v2 := hXV.cell o2
         have hbV := lG V _ v1
         have HXb : Hid (wr.heap.size = xb) := hxb
         clear hv hXV o0 o1 o2 o3 f1 hgl hxb hbl
         go_wp2_with fail
         refine (HW1.out _ HXV.out).mono ?_
         rintro e w5 ⟨v5, rfl, hr5, hx5⟩
         have HR5 : Hid (FileRow w5 V.heap.size v5 (dropN gs oa)) := hr5
         have HX5 : Hid (Ext wr w5) := HXV.out.trans hx5
         have HV5 : Hid _ := hx5.block HV.out
         have v2 := hx5.cell v2
         have hbV := lG w5 _ v2
         clear v1 hr5 hx5
         go_wp2_with fail
         refine (HW2.out _ _ _ HR5.out).mono ?_
         rintro e w6 ⟨v6, rfl, hr6, hx6⟩
         have HR6 : Hid (w6.ownsRow w.heap.size 74 2 v6 (dropN (dropN gs oa) ob).length (fileCells (dropN (dropN gs oa) ob))) := owns_base hr6 (by have := HXr.out.le; have := HX5.out.le; omega)
         have HX6 : Hid (Ext w w6) := HXr.out.trans (HX5.out.trans hx6)
         have hrx := hx6.block HV5.out
         have y0 := (cell_of_row w6 _ 0 _ _ _ hrx).trans (show _ = some (.string ob) from rfl)
         have y1 := (cell_of_row w6 _ 1 _ _ _ hrx).trans (show _ = some (.string fb) from rfl)
         have hx6b := lG w6 _ y0
         have hw6 := HX6.out.le
         clear v2 hr6 hx6 hrx hbV
         go_wp2_with (at_builtin; refine wpList_append_own _ rfl _ _ 40 rfl w.heap.size 74 i0 _ 2 32 Tryz.underlying40 hi hz0 hz1 hz2 rfl (by decide) _ _ _ rfl (World.ownsRow.alloc HR6.out _) ⟨_, 0, none⟩ 1 1 [.string ob, .string fb] rfl rfl ?c1e ?c2e ?c3e ?c4e ?c5e ?_)
         case c1e => intro p u hu; rw [addr_addF, Nat.zero_add]; exact (cell_of_row _ _ p _ _ _ (heap_alloc_new _ _)).trans (by simpa using hu)
         case c2e => intro u hu; simp at hu; rcases hu with rfl | rfl <;> rfl
         case c3e => unfold maxLen; omega
         case c4e => omega
         case c5e => exact Nat.le_trans hw6 (Ext.le ((Ext.refl w6).alloc _))
         intro v4 w4 ho4 hg4 _
         have HX4 : Hid (Ext w w4) := Ext.grown (HX6.out.alloc _) hg4 (fun q hq => (World.ownsRow.lt HR6.out q hq).1)
         have HO4 : Hid (FileRow w4 w.heap.size v4 (doneS fs (ops.take (j + 1)))) := by
          show World.ownsRow _ _ _ _ _ _ _
          rw [HSS.out, fileCells_append, List.length_append]
          exact ho4
         clear ho4 hg4
         go_wp2
         exact ⟨⟨j + 1, by omega, by go_num, HO4.out, HX4.out⟩, by simp [intOf]; omega⟩
        ·have HSS : Hid (doneS fs (ops.take (j + 1)) = gs) := by
          show _ = _
          rw [HS.out]
          unfold opS
          rw [if_neg (by simp), if_pos rfl]
          simp only [HAt.out]
          rw [if_neg hc]
         by_cases hneg : at' < 0
         ·clear hr hc
          go_wp2_with fail
          exact ⟨⟨j + 1, by omega, by go_num, by rw [HSS.out]; exact HOr.out, HXr.out⟩, by simp [intOf]; omega⟩
         ·have hab : oa = ob := Classical.byContradiction fun h => hc ⟨by omega, h⟩
          rw [<- hab] at o2
          have hge : 0 <= at' := by omega
          clear hr hc hab hneg
          go_wp2_with fail
          exact ⟨⟨j + 1, by omega, by go_num, by rw [HSS.out]; exact HOr.out, HXr.out⟩, by simp [intOf]; omega⟩
       ·by_cases h5 : ok = 5
        ·subst h5
         have HSS : Hid (doneS fs (ops.take (j + 1)) = dropN gs oa) := by
          show _ = _
          rw [HS.out]
          unfold opS
          rw [if_neg (by simp), if_neg (by simp), if_pos rfl]
         have HW1 : Hid (∀ w2 : World, Ext wr w2 -> _) := fun w2 hx => without_x oa (show gs.length <= 100000000 by rw [HMm.out]; omega) w2 (owns_base (Ext.owns hx HOr.out) (Nat.zero_le _))
         clear hr n0 n1 h3
         go_wp2_with fail
         refine (HW1.out _ (Ext.refl _)).mono ?_
         rintro e w5 ⟨v5, rfl, hr5, hx5⟩
         have HR5 : Hid (FileRow w5 w.heap.size v5 (dropN gs oa)) := owns_base hr5 (by omega)
         have HX5 : Hid (Ext w w5) := HXr.out.trans hx5
         clear hr5 hx5
         go_wp2_with fail
         exact ⟨⟨j + 1, by omega, by go_num, by rw [HSS.out]; exact HR5.out, HX5.out⟩, by simp [intOf]; omega⟩
        ·have HSS : Hid (doneS fs (ops.take (j + 1)) = gs) := by
          show _ = _
          rw [HS.out]
          unfold opS
          rw [if_neg (by simp; omega), if_neg (by simp; omega), if_neg (by simp; omega)]
         clear hr
         go_wp2_with fail
         exact ⟨⟨j + 1, by omega, by go_num, by rw [HSS.out]; exact HOr.out, HXr.out⟩, by simp [intOf]; omega⟩
  ·obtain rfl : j = on := by omega
   have hft : doneS fs (ops.take j) = doneS fs ops := by rw [List.take_of_length_le (by rw [HN.out.2]; exact Nat.le_refl _)]
   go_wp2
   go_ret
   exact ⟨_, rfl, by rw [<- hft]; exact HO.out, HX.out⟩
theorem done0_c {fv : Value} {fs : List FileV} (hn : fs.length <= 10000000) (w : World) (hf : FileRow w 0 fv fs) :
  Calls Tryz.prog 30 #[fv, .slice none 0 0] w fun e w' => ∃ v', e = .returned v' /\ FileRow w' w.heap.size v' fs /\ Ext w w' := by
 have HF : Hid (FileRow w 0 fv fs) := hf
 have HFl : Hid (fs.length <= 10000000) := hn
 clear hn hf
 go_enter Tryz.func30, Tryz.ntmps30
 go_wp2_with (at_builtin; refine wpList_append_files rfl _ _ rfl fv fs rfl rfl HF.out HFl.out ?_)
 intro v1 w1 hr1 hx1
 have HX1 : Hid (Ext w w1) := hx1
 have HO1 : Hid (FileRow w1 w.heap.size v1 fs) := hr1
 clear hr1 hx1
 go_wp2_with fail
 go_loopw [5, 6] (fun u i wr => i = .int .i64 0 /\ FileRow wr w.heap.size u fs /\ Ext w wr) (fun _ _ _ => 0)
 case atStart => exact ⟨rfl, HO1.out, HX1.out⟩
 case round =>
  obtain ⟨rfl, h1, h2⟩ := hrel
  have HQ : Hid _ := And.intro h1 h2
  clear h1 h2
  go_wp2
  go_ret
  exact ⟨_, rfl, HQ.out.1, HQ.out.2⟩
theorem done_x {fv dv : Value} {M : Nat} {fs : List FileV} {ops : List OpV} (hnb : fs.length + ops.length <= 10000000) (hM : ∀ f ∈ fs, f.2.size <= M) (hcap : capN M ops <= 1000000000) (w : World) (hf : FileRow w 0 fv fs) (ho : w.ownsRow 0 134 4 dv ops.length (opCells ops)) :
  Calls Tryz.prog 30 #[fv, dv] w fun e w' => ∃ v', e = .returned v' /\ FileRow w' w.heap.size v' (doneS fs ops) /\ Ext w w' := by
 rcases owns_form ho with ⟨rfl, hl, _⟩ | ⟨g, cap, rfl, _, _, _⟩
 ·obtain rfl : ops = [] := List.length_eq_zero_iff.1 hl
  exact done0_c (by simp at hnb; exact hnb) w hf
 ·exact done_c rfl rfl hnb hM hcap w hf ho
end
-- VSe
section
set_option maxRecDepth 100000
set_option maxHeartbeats 6400000
open Go.RowKit Go.Maps
structure RunX (d' : DS) (w w' : World) (P B : Nat) (fv : Value) (F F' : Nat -> Prop) : Prop where
 run : RunAt w' P B fv
 deal : DealX w' B F' d'
 turn : Turn F w w'
 grows : ∀ b, F' b -> F b \/ w.heap.size <= b
theorem run_asked {w w1 w2 V : World} {P B : Nat} {fv : Value} {F : Nat -> Prop} {d0 dd : DS} (hr : RunAt w P B fv) (hP : ¬ F P) (hc : CallX d0 w w1 B F F) (hx : Ext w1 w2) (hA : Asked w2 V B F dd) : ∃ F', RunX dd w V P B fv F F' := by
 obtain ⟨F', h1, h2, h3⟩ := hA
 have hs := hc.turn.size
 have hl := hx.le
 refine ⟨F', h2.ref (hx.block (hc.turn.ref hr hP)) hP, h1, (hc.turn.trans (Turn.of_ext hx)).trans h2, fun b hb => (h3 b hb).imp id (fun h => by omega)⟩
theorem asked_to {w wr wA w3 V : World} {B rb : Nat} {F F1 F' : Nat -> Prop} {d d' : DS} (h : DealX wr B F1 d /\ Turn F w wr /\ ∀ b, F1 b -> F b \/ w.heap.size <= b) (hx : Ext wr wA) (hd : DealX w3 B F' d') (ht : Turn F1 wA w3) (hg : ∀ b, F' b -> F1 b \/ wA.heap.size <= b) (hV : Turn (fun b => b = rb) w3 V) (hrb : w.heap.size <= rb) (hrF : ¬ F' rb) : Asked w V B F d' := by
 obtain ⟨_, h2, h3⟩ := h
 have hs := h2.size
 have hl := hx.le
 refine ⟨F', hd.turn hV (fun b hb e => hrF (e ▸ hb)), ((h2.trans (Turn.of_ext hx)).trans' ht (fun b hb e => (h3 b e).resolve_right (by omega))).trans' hV (fun b hb e => by omega), fun b hb => ?_⟩
 rcases hg b hb with h | h
 ·exact h3 b h
 ·exact .inr (by omega)
theorem settled_x {P B : Nat} {fv : Value} {F : Nat -> Prop} {d : DS} (hg : d.Good) (ho : d.ops.length <= 1000000) (w : World) (hr : RunAt w P B fv) (hd : DealX w B F d) (hP : ¬ F P) :
  Calls Tryz.prog 47 #[.pointer (some ⟨P, 0, none⟩)] w fun e w' => e = .returned (.bool d.settle.1) /\ ∃ F', RunX d.settle.2 w w' P B fv F F' := by
 have hp0 := cell_at hr (i := 0) rfl
 have hPl := lG w _ hp0
 have HR : Hid (RunAt w P B fv) := hr
 have HFa : Hid (∀ w' F', DealX w' B F' d -> _) := fun w' F' h => failAt_x (-1) h
 have HD : Hid (DealX w B F d) := hd
 have HP : Hid (¬ F P) := hP
 have HG : Hid (d.Good /\ d.ops.length <= 1000000) := ⟨hg, ho⟩
 have hg1 : (d.failAt (-1)).Good := failAt_good hg (by decide)
 have HLe : Hid (∀ w' F', DealX w' B F' (d.failAt (-1)) -> _) := fun w' F' h => leases_x hg1 h
 have HG1 : Hid ((d.failAt (-1)).Good) := hg1
 clear hr hd hg ho hP hg1
 go_enter Tryz.func47, Tryz.ntmps47
 go_wp2_with fail
 refine (HFa.out _ _ HD.out).mono ?_
 rintro e w1 ⟨rfl, hc1⟩
 have HC1 : Hid (CallX (d.failAt (-1)) w w1 B F F) := hc1
 have p1 := hc1.turn.cell hp0 HP.out
 have hP1 := lG w1 _ p1
 clear hp0 hPl hc1
 go_wp2_with fail
 refine (HLe.out _ _ HC1.out.deal).mono ?_
 rintro e w2 ⟨lv, rfl, ho2, hx2⟩
 have HX2 : Hid (Ext w1 w2) := hx2
 have HO2 : Hid (w2.ownsRow w1.heap.size 56 9 lv d.ls.length (lsCells d.ls)) := ho2
 have p2 := hx2.cell p1
 obtain ⟨la, lcap, rfl⟩ := owns_slice HO2.out
 clear hx2 ho2 p1 hP1
 obtain ⟨n, hn⟩ : ∃ n, d.ls.length = n := ⟨_, rfl⟩
 have HN : Hid (d.ls.length = n) := hn
 have hnb : n <= 30 := by have := HG.out.1.inv.leases; omega
 rw [hn] at HO2
 rw [hn]
 have hla : n ≠ 0 -> ∃ gl, la = some ⟨gl, 0, none⟩ /\ w1.heap.size <= gl := fun h => by
  rcases owns_form HO2.out with ⟨_, h0, _⟩ | ⟨g, cap, he, hb, _, _⟩
  ·exact absurd h0 h
  ·injection he with e1 e2 e3
   exact ⟨g, e1, hb⟩
 have HLA : Hid (n ≠ 0 -> ∃ gl, la = some ⟨gl, 0, none⟩ /\ w1.heap.size <= gl) := hla
 have HA0 : Hid (Asked w2 w2 B F (d.failAt (-1))) := ⟨F, HC1.out.deal.ext HX2.out, Turn.refl _ _, fun _ h => .inl h⟩
 have HP2 : Hid (w2.cell? ⟨P, 0, none⟩ = some (.pointer (some ⟨B, 0, none⟩)) /\ RunAt w2 P B fv) := ⟨p2, HX2.out.block (HC1.out.turn.ref HR.out HP.out)⟩
 clear hn hla p2
 go_wp2_with fail
 go_loopw [4] (fun i wr => ∃ j : Nat, j <= n /\ i = .int .i64 j /\ (∀ q (hq : q < d.ls.length), q < j -> d.ls[q].r = true) /\ Asked w2 wr B F (d.failAt (-1))) (fun i _ => n - (intOf i).toNat)
 case atStart => exact ⟨0, Nat.zero_le _, rfl, fun q _ h => absurd h (Nat.not_lt_zero _), HA0.out⟩
 case round =>
  obtain ⟨j, hj, rfl, hrd, hA⟩ := hrel
  have HA : Hid (Asked w2 wr B F (d.failAt (-1))) := hA
  have HRd : Hid (∀ q (hq : q < d.ls.length), q < j -> d.ls[q].r = true) := hrd
  clear hA hrd HA0
  obtain ⟨F1, hd1, ht1, hg1⟩ := HA.out
  have HQ : Hid (DealX wr B F1 (d.failAt (-1)) /\ Turn F w2 wr /\ ∀ b, F1 b -> F b \/ w2.heap.size <= b) := ⟨hd1, ht1, hg1⟩
  have p0 := ht1.cell HP2.out.1 HP.out
  have hPl := lG wr _ p0
  clear hd1 ht1 hg1
  by_cases hlt : j < n
  ·obtain ⟨gl, rfl, hgl0⟩ := HLA.out (by omega)
   have hjl : j < d.ls.length := by rw [HN.out]; exact hlt
   have HFg : Hid (¬ F gl) := fun hf => by have := HC1.out.deal.lt gl hf; omega
   obtain ⟨l0, l1, _, _, _, _, _, _, _⟩ := (show LeasesAt wr (.slice (some ⟨gl, 0, none⟩) n lcap) d.ls from by
    show World.ownsRow _ _ _ _ _ _ _
    rw [HN.out]
    exact HQ.out.2.1.owns (owns_base HO2.out (Nat.zero_le _)) (fun q hq e => by
     simp [lH] at hq
     subst hq
     exact HFg.out e)).cells j hjl
   have hgl := lG wr _ l0
   have hj0 : (0 : Int) <= (j : Int) := by omega
   have hj1 : (j : Int) < n := by omega
   have HL : Hid (d.ls[j] ∈ d.ls) := List.getElem_mem hjl
   have HRl : Hid _ := fun w => keepRelease_c d.ls[j].s d.ls[j].i w
   have HAs : Hid (∀ w' F2, DealX w' B F2 (d.failAt (-1)) -> _) := fun w' F2 h => (ask_xd HG1.out HG.out.2 3 d.ls[j].s d.ls[j].i 0 0 0 0 0 0 0 h).1.ask
   have hfr := ask_free HG1.out rfl HL.out
   have HFP1 : Hid (¬ F1 P) := fun hf => by
    rcases HQ.out.2.2 P hf with h | h
    ·exact HP.out h
    ·have : P < w2.heap.size := lG w2 _ HP2.out.1
     omega
   have HFg1 : Hid (¬ F1 gl) := fun hf => by
    rcases HQ.out.2.2 gl hf with h | h
    ·exact HFg.out h
    ·have := owns_lt HO2.out (g := gl) rfl
     omega
   generalize hask : (d.failAt (-1)).ask 3 d.ls[j].s d.ls[j].i 0 0 0 0 0 0 0 = A at *
   obtain ⟨⟨c0, f0, n0, zs⟩, dd⟩ := A
   have HFR : Hid _ := And.intro hask hfr
   generalize hls : d.ls[j].s = ls at *
   generalize hli : d.ls[j].i = li at *
   simp only at *
   have HLS : Hid (d.ls[j].s = ls /\ d.ls[j].i = li) := ⟨hls, hli⟩
   clear hask hfr hgl0 hls hli
   have SD : Hid (∀ W2, Turn F1 wr W2 -> (fun w' => w'.cell? ⟨P, 0, none⟩ = some (.pointer (some ⟨B, 0, none⟩)) /\ w'.cell? ⟨gl, j * 9, none⟩ = some (.int .i64 ls) /\ w'.cell? ⟨gl, j * 9 + 1, none⟩ = some (.int .i64 li)) W2) := fun W2 hT => ⟨hT.cell p0 HFP1.out, hT.cell l0 HFg1.out, hT.cell l1 HFg1.out⟩
   have hsz2 : w2.heap.size <= wr.heap.size := HQ.out.2.1.size
   unfold reqV at *
   go_wp2_with fail
   refine wp_region_held_drew (S := ((fun w' => w'.cell? ⟨P, 0, none⟩ = some (.pointer (some ⟨B, 0, none⟩)) /\ w'.cell? ⟨gl, j * 9, none⟩ = some (.int .i64 ls) /\ w'.cell? ⟨gl, j * 9 + 1, none⟩ = some (.int .i64 li)))) (by kernel_rfl) ⟨p0, l0, l1⟩ (fun hHeld => ?_)
   refine zT 0 hHeld ?_
   refine zT 1 hHeld ?_
   refine zT 2 hHeld ?_
   refine zT 3 hHeld ?_
   refine zT 4 hHeld ?_
   refine zT 5 hHeld ?_
   refine zT 6 hHeld ?_
   refine zT 7 hHeld ?_
   refine zT 8 hHeld ?_
   refine zT 9 hHeld ?_
   refine zT 10 hHeld ?_
   refine zT 11 hHeld ?_
   refine zT 12 hHeld ?_
   refine zT 13 hHeld ?_
   refine wpAnyH_ready (rs := [14, 16]) (by kernel_rfl) (by simp) ?_
   refine AllReadyH.cons (o := _) rfl (fun K hK => ?_) (AllReadyH.cons (o := _) rfl (fun K hK => ?_) AllReadyH.nil)
   ·skip
    (try simp only [lA, lB, lC])
    go_simp
    refine (HRl.out _).mono ?_
    rintro e w5 ⟨rfl, hx5⟩
    have HX5 : Hid (Ext wr w5) := (Ext.drew (Ext.refl _)).trans hx5
    clear hx5
    refine hK.out _ _ (SD.out _ (Turn.of_ext HX5.out)) (fun hHeld => ?_)
    clear hK K
    try simp only [Act.put, lA, lB, lC, lD, lE, lF]
    refine wpAnyH_ready (rs := [15, 16]) (by kernel_rfl) (by simp) ?_
    refine AllReadyH.cons (o := _) rfl (fun K hK => ?_) (AllReadyH.cons (o := _) rfl (fun K hK => ?_) AllReadyH.nil)
    ·skip
     (try simp only [lA, lB, lC])
     go_simp
     refine (HAs.out _ _ (HQ.out.1.ext (HX5.out))).mono ?_
     rintro e w6 ⟨ra, rl, rc, F', rfl, hzs, hso⟩
     unfold replyV
     have HSO : Hid _ := hso
     have HT6 : Hid (Turn F1 wr w6) := (Turn.of_ext (HX5.out)).trans hso.turn
     clear hso hzs
     refine hK.out _ _ (SD.out _ HT6.out) (fun hHeld => ?_)
     clear hK K
     try simp only [Act.put, lA, lB, lC, lD, lE, lF]
     refine zR 16 fun K hK => ?_
     (try simp only [lA, lB, lC])
     go_simp
     refine hK.out _ _ (SD.out _ (HT6.out.trans (Turn.of_ext ((Ext.refl _).alloc _)))) (fun hHeld => ?_)
     clear hK K
     try simp only [Act.put, lA, lB, lC, lD, lE, lF]
     obtain ⟨rb, hrb⟩ : ∃ rb, w6.heap.size = rb := ⟨_, rfl⟩
     have HZ : Hid ((w6.alloc (.cells #[.int .i64 0, .int .i64 0, .int .i64 0, .slice none 0 0] 33)).heap[rb]? = some (.cells #[.int .i64 0, .int .i64 0, .int .i64 0, .slice none 0 0] 33 (0, 0))) := hrb ▸ heap_alloc_new _ _
     have HX7 : Hid (Ext w6 (w6.alloc (.cells #[.int .i64 0, .int .i64 0, .int .i64 0, .slice none 0 0] 33))) := (Ext.refl _).alloc _
     rw [show w6.heap.size = rb from hrb]
     have HRB : Hid (wr.heap.size <= rb /\ ¬ F' rb) := ⟨by have := HT6.out.size; omega, fun hf => by have := HSO.out.deal.lt rb hf; omega⟩
     generalize w6.alloc (.cells #[.int .i64 0, .int .i64 0, .int .i64 0, .slice none 0 0] 33) = w7 at HZ HX7 hHeld ⊢
     have HT7 : Hid (Turn F1 wr w7) := HT6.out.trans (Turn.of_ext HX7.out)
     clear hrb
     have r0 := (cell_of_row w7 _ 0 _ _ _ HZ.out).trans (show _ = some (.int .i64 0) from rfl)
     have r1 := (cell_of_row w7 _ 1 _ _ _ HZ.out).trans (show _ = some (.int .i64 0) from rfl)
     have r2 := (cell_of_row w7 _ 2 _ _ _ HZ.out).trans (show _ = some (.int .i64 0) from rfl)
     have r3 := (cell_of_row w7 _ 3 _ _ _ HZ.out).trans (show _ = some (.slice none 0 0) from rfl)
     have z0 := frozen_row HZ.out 0
     have z1 := frozen_row HZ.out 1
     have z2 := frozen_row HZ.out 2
     have z3 := frozen_row HZ.out 3
     obtain ⟨hv, hVT⟩ := four_end HZ.out (.int .i64 c0) (.int .i64 f0) (.int .i64 n0) (.slice ra rl rc)
     have HV : Hid _ := hv
     have HVT : Hid _ := hVT
     refine zR 17 fun K hK => ?_
     (try simp only [lA, lB, lC])
     go_simp
     refine hK.out _ _ (SD.out _ (HT7.out.trans' HVT.out (fun b hb e => by have := HRB.out.1; omega))) (fun hHeld => ?_)
     clear hK K
     try simp only [Act.put, lA, lB, lC, lD, lE, lF]
     refine wpAnyH_done (by kernel_rfl) ?_ _
     clear hHeld r0 r1 r2 r3 z0 z1 z2 z3 p0 l0 l1 hPl hgl
     generalize World.setCell _ _ _ = V at hv hVT HV HVT ⊢
     have v0 := (cell_of_row V _ 0 _ _ _ hv).trans (show _ = some (.int .i64 c0) from rfl)
     have hrbl := lG V _ v0
     have HAV : Hid (Asked w2 V B F dd) := asked_to HQ.out HX5.out (HSO.out.deal.ext HX7.out) (HSO.out.turn.trans (Turn.of_ext HX7.out)) HSO.out.grows HVT.out (by have := HRB.out.1; omega) HRB.out.2
     clear hv hVT
     obtain ⟨hask, hfr⟩ := HFR.out
     by_cases hlr : d.ls[j].r = true
     ·rw [if_pos hlr] at hfr
      obtain ⟨rfl, rfl⟩ : c0 = 8 /\ dd = d.failAt (-1) := by
       injection hfr with h1 h2
       injection h1 with h1
       exact ⟨h1, h2⟩
      have HLR : Hid _ := hlr
      clear hask hfr hlr
      go_wp2_with fail
      exact ⟨⟨j + 1, by omega, by go_num, fun q hq hlt => by
       by_cases e : q = j
       ·subst e; exact HLR.out
       ·exact HRd.out q hq (by omega), HAV.out⟩, by simp [intOf]; omega⟩
     ·rw [if_neg hlr] at hfr
      obtain rfl : c0 = 0 := by
       injection hfr with h1 h2
       injection h1 with h1
      have HST : Hid (d.settle = (true, dd)) := by
       show _ = _
       have hfind : d.ls.find? (fun l => !l.r) = some d.ls[j] := by
        rw [List.find?_eq_some_iff_getElem]
        refine ⟨by simpa using hlr, j, hjl, rfl, fun q hq => ?_⟩
        simp [HRd.out q (by omega) hq]
       unfold DS.settle
       rw [hfind]
       simp only
       rw [HLS.out.1, HLS.out.2, hask]
      clear hask hfr hlr
      go_wp2_with fail
      go_ret
      rw [HST.out]
      exact ⟨rfl, run_asked HR.out HP.out HC1.out HX2.out HAV.out⟩
    ·skip
     (try simp only [lA, lB, lC])
     go_simp
     refine hK.out _ _ (SD.out _ (Turn.of_ext ((HX5.out).alloc _))) (fun hHeld => ?_)
     clear hK K
     try simp only [Act.put, lA, lB, lC, lD, lE, lF]
     obtain ⟨rb, hrb⟩ : ∃ rb, (w5).heap.size = rb := ⟨_, rfl⟩
     have HZ0 : Hid (((w5).alloc (.cells #[.int .i64 0, .int .i64 0, .int .i64 0, .slice none 0 0] 33)).heap[rb]? = some (.cells #[.int .i64 0, .int .i64 0, .int .i64 0, .slice none 0 0] 33 (0, 0))) := hrb ▸ heap_alloc_new _ _
     have HXA : Hid (Ext wr ((w5).alloc (.cells #[.int .i64 0, .int .i64 0, .int .i64 0, .slice none 0 0] 33))) := (HX5.out).alloc _
     rw [show (w5).heap.size = rb from hrb]
     have HRB0 : Hid (wr.heap.size <= rb) := by show _ <= _; have := (HX5.out).le; omega
     generalize (w5).alloc (.cells #[.int .i64 0, .int .i64 0, .int .i64 0, .slice none 0 0] 33) = w8 at HZ0 HXA hHeld ⊢
     clear hrb
     refine zR 15 fun K hK => ?_
     (try simp only [lA, lB, lC])
     go_simp
     refine (HAs.out _ _ (HQ.out.1.ext (HXA.out))).mono ?_
     rintro e w6 ⟨ra, rl, rc, F', rfl, hzs, hso⟩
     unfold replyV
     have HSO : Hid _ := hso
     have HT6 : Hid (Turn F1 wr w6) := (Turn.of_ext (HXA.out)).trans hso.turn
     clear hso hzs
     refine hK.out _ _ (SD.out _ HT6.out) (fun hHeld => ?_)
     clear hK K
     try simp only [Act.put, lA, lB, lC, lD, lE, lF]
     have HRB : Hid (wr.heap.size <= rb /\ ¬ F' rb) := ⟨HRB0.out, fun hf => by
      have h1 : rb < w8.heap.size := (Array.getElem?_eq_some_iff.1 HZ0.out).1
      have h2 := HQ.out.1.lt rb
      rcases HSO.out.grows rb hf with h | h
      ·have := h2 h; have := HRB0.out; omega
      ·omega⟩
     have HFr : Hid (¬ F1 rb) := fun hf => by have := HQ.out.1.lt rb hf; have := HRB0.out; omega
     have HZ : Hid (w6.heap[rb]? = some (.cells #[.int .i64 0, .int .i64 0, .int .i64 0, .slice none 0 0] 33 (0, 0))) := HSO.out.turn.ref HZ0.out HFr.out
     have HT7 : Hid (Turn F1 wr w6) := HT6.out
     have r0 := (cell_of_row w6 _ 0 _ _ _ HZ.out).trans (show _ = some (.int .i64 0) from rfl)
     have r1 := (cell_of_row w6 _ 1 _ _ _ HZ.out).trans (show _ = some (.int .i64 0) from rfl)
     have r2 := (cell_of_row w6 _ 2 _ _ _ HZ.out).trans (show _ = some (.int .i64 0) from rfl)
     have r3 := (cell_of_row w6 _ 3 _ _ _ HZ.out).trans (show _ = some (.slice none 0 0) from rfl)
     have z0 := frozen_row HZ.out 0
     have z1 := frozen_row HZ.out 1
     have z2 := frozen_row HZ.out 2
     have z3 := frozen_row HZ.out 3
     obtain ⟨hv, hVT⟩ := four_end HZ.out (.int .i64 c0) (.int .i64 f0) (.int .i64 n0) (.slice ra rl rc)
     have HV : Hid _ := hv
     have HVT : Hid _ := hVT
     refine zR 17 fun K hK => ?_
     (try simp only [lA, lB, lC])
     go_simp
     refine hK.out _ _ (SD.out _ (HT7.out.trans' HVT.out (fun b hb e => by have := HRB.out.1; omega))) (fun hHeld => ?_)
     clear hK K
     try simp only [Act.put, lA, lB, lC, lD, lE, lF]
     refine wpAnyH_done (by kernel_rfl) ?_ _
     clear hHeld r0 r1 r2 r3 z0 z1 z2 z3 p0 l0 l1 hPl hgl
     generalize World.setCell _ _ _ = V at hv hVT HV HVT ⊢
     have v0 := (cell_of_row V _ 0 _ _ _ hv).trans (show _ = some (.int .i64 c0) from rfl)
     have hrbl := lG V _ v0
     have HAV : Hid (Asked w2 V B F dd) := asked_to HQ.out HXA.out HSO.out.deal HSO.out.turn HSO.out.grows HVT.out (by have := HRB.out.1; omega) HRB.out.2
     clear hv hVT
     obtain ⟨hask, hfr⟩ := HFR.out
     by_cases hlr : d.ls[j].r = true
     ·rw [if_pos hlr] at hfr
      obtain ⟨rfl, rfl⟩ : c0 = 8 /\ dd = d.failAt (-1) := by
       injection hfr with h1 h2
       injection h1 with h1
       exact ⟨h1, h2⟩
      have HLR : Hid _ := hlr
      clear hask hfr hlr
      go_wp2_with fail
      exact ⟨⟨j + 1, by omega, by go_num, fun q hq hlt => by
       by_cases e : q = j
       ·subst e; exact HLR.out
       ·exact HRd.out q hq (by omega), HAV.out⟩, by simp [intOf]; omega⟩
     ·rw [if_neg hlr] at hfr
      obtain rfl : c0 = 0 := by
       injection hfr with h1 h2
       injection h1 with h1
      have HST : Hid (d.settle = (true, dd)) := by
       show _ = _
       have hfind : d.ls.find? (fun l => !l.r) = some d.ls[j] := by
        rw [List.find?_eq_some_iff_getElem]
        refine ⟨by simpa using hlr, j, hjl, rfl, fun q hq => ?_⟩
        simp [HRd.out q (by omega) hq]
       unfold DS.settle
       rw [hfind]
       simp only
       rw [HLS.out.1, HLS.out.2, hask]
      clear hask hfr hlr
      go_wp2_with fail
      go_ret
      rw [HST.out]
      exact ⟨rfl, run_asked HR.out HP.out HC1.out HX2.out HAV.out⟩
   ·skip
    (try simp only [lA, lB, lC])
    go_simp
    refine hK.out _ _ (SD.out _ (Turn.of_ext (Ext.drew ((Ext.refl _).alloc _)))) (fun hHeld => ?_)
    clear hK K
    try simp only [Act.put, lA, lB, lC, lD, lE, lF]
    obtain ⟨rb, hrb⟩ : ∃ rb, wr.heap.size = rb := ⟨_, rfl⟩
    have HZ0 : Hid (((wr.alloc (.cells #[.int .i64 0, .int .i64 0, .int .i64 0, .slice none 0 0] 33)).drew).heap[rb]? = some (.cells #[.int .i64 0, .int .i64 0, .int .i64 0, .slice none 0 0] 33 (0, 0))) := hrb ▸ heap_alloc_new _ _
    have HXA : Hid (Ext wr (wr.alloc (.cells #[.int .i64 0, .int .i64 0, .int .i64 0, .slice none 0 0] 33)).drew) := Ext.drew ((Ext.refl _).alloc _)
    rw [show wr.heap.size = rb from hrb]
    have HRB0 : Hid (wr.heap.size <= rb) := by show _ <= _; omega
    generalize (wr.alloc (.cells #[.int .i64 0, .int .i64 0, .int .i64 0, .slice none 0 0] 33)).drew = w8 at HZ0 HXA hHeld ⊢
    clear hrb
    refine zR 14 fun K hK => ?_
    (try simp only [lA, lB, lC])
    go_simp
    refine (HRl.out _).mono ?_
    rintro e w5 ⟨rfl, hx5⟩
    have HZ5 : Hid _ := hx5.block HZ0.out
    have HX5 : Hid (Ext wr w5) := (HXA.out).trans hx5
    clear hx5
    refine hK.out _ _ (SD.out _ (Turn.of_ext HX5.out)) (fun hHeld => ?_)
    clear hK K
    try simp only [Act.put, lA, lB, lC, lD, lE, lF]
    refine zR 15 fun K hK => ?_
    (try simp only [lA, lB, lC])
    go_simp
    refine (HAs.out _ _ (HQ.out.1.ext (HX5.out))).mono ?_
    rintro e w6 ⟨ra, rl, rc, F', rfl, hzs, hso⟩
    unfold replyV
    have HSO : Hid _ := hso
    have HT6 : Hid (Turn F1 wr w6) := (Turn.of_ext (HX5.out)).trans hso.turn
    clear hso hzs
    refine hK.out _ _ (SD.out _ HT6.out) (fun hHeld => ?_)
    clear hK K
    try simp only [Act.put, lA, lB, lC, lD, lE, lF]
    have HRB : Hid (wr.heap.size <= rb /\ ¬ F' rb) := ⟨HRB0.out, fun hf => by
     have h1 : rb < w5.heap.size := (Array.getElem?_eq_some_iff.1 HZ5.out).1
     have h2 := HQ.out.1.lt rb
     rcases HSO.out.grows rb hf with h | h
     ·have := h2 h; have := HRB0.out; omega
     ·omega⟩
    have HFr : Hid (¬ F1 rb) := fun hf => by have := HQ.out.1.lt rb hf; have := HRB0.out; omega
    have HZ : Hid (w6.heap[rb]? = some (.cells #[.int .i64 0, .int .i64 0, .int .i64 0, .slice none 0 0] 33 (0, 0))) := HSO.out.turn.ref HZ5.out HFr.out
    have HT7 : Hid (Turn F1 wr w6) := HT6.out
    have r0 := (cell_of_row w6 _ 0 _ _ _ HZ.out).trans (show _ = some (.int .i64 0) from rfl)
    have r1 := (cell_of_row w6 _ 1 _ _ _ HZ.out).trans (show _ = some (.int .i64 0) from rfl)
    have r2 := (cell_of_row w6 _ 2 _ _ _ HZ.out).trans (show _ = some (.int .i64 0) from rfl)
    have r3 := (cell_of_row w6 _ 3 _ _ _ HZ.out).trans (show _ = some (.slice none 0 0) from rfl)
    have z0 := frozen_row HZ.out 0
    have z1 := frozen_row HZ.out 1
    have z2 := frozen_row HZ.out 2
    have z3 := frozen_row HZ.out 3
    obtain ⟨hv, hVT⟩ := four_end HZ.out (.int .i64 c0) (.int .i64 f0) (.int .i64 n0) (.slice ra rl rc)
    have HV : Hid _ := hv
    have HVT : Hid _ := hVT
    refine zR 17 fun K hK => ?_
    (try simp only [lA, lB, lC])
    go_simp
    refine hK.out _ _ (SD.out _ (HT7.out.trans' HVT.out (fun b hb e => by have := HRB.out.1; omega))) (fun hHeld => ?_)
    clear hK K
    try simp only [Act.put, lA, lB, lC, lD, lE, lF]
    refine wpAnyH_done (by kernel_rfl) ?_ _
    clear hHeld r0 r1 r2 r3 z0 z1 z2 z3 p0 l0 l1 hPl hgl
    generalize World.setCell _ _ _ = V at hv hVT HV HVT ⊢
    have v0 := (cell_of_row V _ 0 _ _ _ hv).trans (show _ = some (.int .i64 c0) from rfl)
    have hrbl := lG V _ v0
    have HAV : Hid (Asked w2 V B F dd) := asked_to HQ.out HX5.out HSO.out.deal HSO.out.turn HSO.out.grows HVT.out (by have := HRB.out.1; omega) HRB.out.2
    clear hv hVT
    obtain ⟨hask, hfr⟩ := HFR.out
    by_cases hlr : d.ls[j].r = true
    ·rw [if_pos hlr] at hfr
     obtain ⟨rfl, rfl⟩ : c0 = 8 /\ dd = d.failAt (-1) := by
      injection hfr with h1 h2
      injection h1 with h1
      exact ⟨h1, h2⟩
     have HLR : Hid _ := hlr
     clear hask hfr hlr
     go_wp2_with fail
     exact ⟨⟨j + 1, by omega, by go_num, fun q hq hlt => by
      by_cases e : q = j
      ·subst e; exact HLR.out
      ·exact HRd.out q hq (by omega), HAV.out⟩, by simp [intOf]; omega⟩
    ·rw [if_neg hlr] at hfr
     obtain rfl : c0 = 0 := by
      injection hfr with h1 h2
      injection h1 with h1
     have HST : Hid (d.settle = (true, dd)) := by
      show _ = _
      have hfind : d.ls.find? (fun l => !l.r) = some d.ls[j] := by
       rw [List.find?_eq_some_iff_getElem]
       refine ⟨by simpa using hlr, j, hjl, rfl, fun q hq => ?_⟩
       simp [HRd.out q (by omega) hq]
      unfold DS.settle
      rw [hfind]
      simp only
      rw [HLS.out.1, HLS.out.2, hask]
     clear hask hfr hlr
     go_wp2_with fail
     go_ret
     rw [HST.out]
     exact ⟨rfl, run_asked HR.out HP.out HC1.out HX2.out HAV.out⟩
  ·obtain rfl : n = j := by omega
   have hnone : d.ls.find? (fun l => !l.r) = none := by
    rw [List.find?_eq_none]
    intro l hl
    obtain ⟨q, hq, rfl⟩ := List.getElem_of_mem hl
    have := HRd.out q hq (by rw [<- HN.out]; exact hq)
    simp [this]
   have HST : Hid (d.settle = (((d.failAt (-1)).refill 0 1 1 1 (fillS [] 5)).1 == 0, ((d.failAt (-1)).refill 0 1 1 1 (fillS [] 5)).2)) := by
    show _ = _
    unfold DS.settle
    rw [hnone]
   clear hnone
   have HCl : Hid _ := fun w => keepClass_c 0 (by decide) (by decide) w
   have e0 : clsK 0 = (0, 1, 1, 1) := by decide
   rw [e0] at HCl
   obtain ⟨hofc, hok⟩ := shOf_of (show isCls (0 : Nat) (1 : Nat) (1 : Nat) (1 : Nat) = true by decide)
   have HDr : Hid (∀ w' : World, _) := fun w' => keepDraws_c hofc hok 1 (by decide) none 0 0 [] rfl (by decide) w' (.inl rfl)
   have e5 : 1 * (shOf 0 1 1 1).dr = 5 := by decide
   rw [e5] at HDr
   have HRf : Hid (∀ w' F2 gh, DealX w' B F2 (d.failAt (-1)) -> WordsAt w' gh 0 (fillS [] 5) -> _) := fun w' F2 gh h hz => refill_x (kd := 0) (m := 1) (k := 1) (n := 1) (cap := 5) HG1.out HG.out.2 (fillS_len [] 5) fill5 (by decide) (Nat.le_refl _) h hz
   generalize (d.failAt (-1)).refill 0 1 1 1 (fillS [] 5) = rf at *
   obtain ⟨c0, dd⟩ := rf
   simp only at *
   unfold clsV at *
   go_wp2_with fail
   refine (HCl.out _).mono ?_
   rintro e w3 ⟨rfl, hx3⟩
   have HX3 : Hid (Ext wr w3) := hx3
   have p3 := hx3.cell p0
   clear hx3 p0 hPl
   go_wp2_with fail
   have hrow := heap_alloc_new w3 (.cells #[.int .i64 0, .int .i64 1, .int .i64 1, .int .i64 1] 49)
   have hx0 : Ext w3 (w3.alloc (.cells #[.int .i64 0, .int .i64 1, .int .i64 1, .int .i64 1] 49)) := (Ext.refl w3).alloc _
   generalize World.alloc w3 _ = W1 at hrow hx0 ⊢
   obtain ⟨gc, hgc⟩ : ∃ gc, w3.heap.size = gc := ⟨_, rfl⟩
   rw [hgc] at hrow ⊢
   have HX4 : Hid (Ext wr W1) := HX3.out.trans hx0
   refine (HDr.out _).mono ?_
   rintro e w5 ⟨gh, rfl, ho5, hx5⟩
   have HX5 : Hid (Ext wr w5) := HX4.out.trans hx5
   have HO5 : Hid (WordsAt w5 gh 0 (fillS [] 5)) := owns_words ho5
   have hrow5 := hx5.block hrow
   have p5 := (hx0.trans hx5).cell p3
   have hP5 := lG w5 _ p5
   have k0 := (cell_of_row w5 _ 0 _ _ _ hrow5).trans (show _ = some (.int .i64 0) from rfl)
   have k1 := (cell_of_row w5 _ 1 _ _ _ hrow5).trans (show _ = some (.int .i64 1) from rfl)
   have k2 := (cell_of_row w5 _ 2 _ _ _ hrow5).trans (show _ = some (.int .i64 1) from rfl)
   have k3 := (cell_of_row w5 _ 3 _ _ _ hrow5).trans (show _ = some (.int .i64 1) from rfl)
   have hgc5 := lG w5 _ k0
   clear hrow hx0 ho5 hx5 hrow5 p3
   have HFPg : Hid (¬ F1 P /\ ¬ F1 gc) := ⟨fun hf => by
    rcases HQ.out.2.2 P hf with h | h
    ·exact HP.out h
    ·have : P < w2.heap.size := lG w2 _ HP2.out.1
     omega, fun hf => by have := HQ.out.1.lt gc hf; have := HX3.out.le; omega⟩
   clear hgc
   go_wp2_with fail
   refine wp_region_held_drew (S := ((fun w' => w'.cell? ⟨P, 0, none⟩ = some (.pointer (some ⟨B, 0, none⟩)) /\ w'.cell? ⟨gc, 0, none⟩ = some (.int .i64 0) /\ w'.cell? ⟨gc, 1, none⟩ = some (.int .i64 1) /\ w'.cell? ⟨gc, 2, none⟩ = some (.int .i64 1) /\ w'.cell? ⟨gc, 3, none⟩ = some (.int .i64 1)))) (by kernel_rfl) ⟨p5, k0, k1, k2, k3⟩ (fun hHeld => ?_)
   refine zT 0 hHeld ?_
   refine zT 1 hHeld ?_
   refine zT 2 hHeld ?_
   refine zT 3 hHeld ?_
   refine zT 4 hHeld ?_
   refine zT 5 hHeld ?_
   refine zR 6 fun K hK => ?_
   (try simp only [lA, lB, lC])
   go_simp
   refine (HRf.out _ _ _ (HQ.out.1.ext (Ext.drew HX5.out)) (HO5.out.ext (Ext.drew (Ext.refl _)))).mono ?_
   rintro e w6 ⟨rfl, F', hc⟩
   have HC : Hid _ := hc
   have HT6 : Hid (Turn F1 w5 w6) := (Turn.of_ext (Ext.drew (Ext.refl w5))).trans hc.turn
   clear hc
   refine hK.out _ _ ⟨HT6.out.cell p5 HFPg.out.1, HT6.out.cell k0 HFPg.out.2, HT6.out.cell k1 HFPg.out.2, HT6.out.cell k2 HFPg.out.2, HT6.out.cell k3 HFPg.out.2⟩ (fun hHeld => ?_)
   clear hK K
   try simp only [Act.put, lA, lB, lC, lD, lE, lF]
   refine zT 7 hHeld ?_
   refine wpAnyH_done (by kernel_rfl) ?_ _
   clear hHeld p5 k0 k1 k2 k3 hP5 hgc5
   have HAV : Hid (Asked w2 w6 B F dd) := asked_to (rb := w6.heap.size) HQ.out (Ext.drew HX5.out) HC.out.deal HC.out.turn HC.out.grows (Turn.refl _ _) (by have h1 := HQ.out.2.1.size; have h2 := HX5.out.le; have h3 := HT6.out.size; omega) (fun hf => by have := HC.out.deal.lt _ hf; omega)
   go_wp2_with fail
   go_ret
   rw [HST.out]
   exact ⟨rfl, run_asked HR.out HP.out HC1.out HX2.out HAV.out⟩
end
end Go.Proofs.YtmnjhhachdlmkaaGreat
