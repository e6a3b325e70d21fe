import Derived.Laws.CopyOwn
import Derived.BigGuardPart
import Derived.Test.YtmnjhhachdlmkaaGreatRows
import Derived.ProofKit
import Derived.OpenShut
import Derived.Lib.SmallJoins
import Derived.SizedLaws
import Derived.Deep.Slices
import Derived.Test.YtmnjhhachdlmkaaGreatK08
import Derived.Test.YtmnjhhachdlmkaaGreatK01
import Derived.Test.YtmnjhhachdlmkaaGreatK02
import Derived.Test.YtmnjhhachdlmkaaGreatK05
namespace Go.Proofs.YtmnjhhachdlmkaaGreat
open World renaming block_lt_of_cell? -> lG
open Value renaming ownBlock -> lH
-- GAk
section
set_option maxRecDepth 100000
set_option maxHeartbeats 1600000
open Go.RowKit Go.Maps
def reqV (kk s i kd m k n f c p : Int) : Value := .agg #[.int .i64 kk, .int .i64 s, .int .i64 i, .int .i64 kd, .int .i64 m, .int .i64 k, .int .i64 n, .int .i64 f, .int .i64 c, .int .i64 p]
theorem dealerBad_c (B : Nat) (w : World) :
  Calls Tryz.prog 54 #[.pointer (some ⟨B, 0, none⟩), .nilIface, .int .i64 1] w fun e w' => e = .returned (replyV 1 0 0 (.slice none 0 0)) /\ Ext w w' := by
 unfold replyV
 go_enter Tryz.func54, Tryz.ntmps54
 go_wp2
 have hr2 : (w.alloc (.cells #[.int .i64 0, .int .i64 0, .int .i64 0, .slice none 0 0] 33)).heap[w.heap.size]? = some (.cells #[.int .i64 0, .int .i64 0, .int .i64 0, .slice none 0 0] 33 (0, 0)) := heap_alloc_new _ _
 have o0 := cell_at hr2 (i := 0) rfl
 have o1 := cell_at hr2 (i := 1) rfl
 have o2 := cell_at hr2 (i := 2) rfl
 have o3 := cell_at hr2 (i := 3) rfl
 refine bodyPost_ret (v := .agg #[.int .i64 1, .int .i64 0, .int .i64 0, .slice none 0 0]) (by simp [results, Tryz.results54, go_sem]) rfl ⟨rfl, ?_⟩
 first
  | exact ext4 ((Ext.refl w).alloc _) (Nat.le_refl _) _ _ _ _
  | exact (Ext.refl w).alloc _
theorem askOk_c {F : Nat -> Prop} {n0 : Nat} {Pp : World -> World -> Int -> Int -> Int -> Value -> Prop} (hok : AnsOk F n0 Pp) (B : Nat) (tt : TypeId) (Q : World -> Nat -> Prop) (kk s i kd m k n f c p : Int) (w : World) (hn0 : n0 <= w.heap.size)
  (hck : ∀ w', Ext w w' -> Calls Tryz.prog 55 #[.agg #[.int .i64 kk, .int .i64 s, .int .i64 i, .int .i64 kd, .int .i64 m, .int .i64 k, .int .i64 n, .int .i64 f, .int .i64 c, .int .i64 p]] w' fun e w'' => ∃ rb, e = .returned (.tuple #[.iface tt (.pointer (some ⟨rb, 0, none⟩)), .int .i64 0]) /\ w'.heap.size <= rb /\ Q w'' rb /\ Ext w' w'')
  (hin : ∀ w' rb, Ext w w' -> w.heap.size <= rb -> Q w' rb -> Answers 54 #[.pointer (some ⟨B, 0, none⟩), .iface tt (.pointer (some ⟨rb, 0, none⟩)), .int .i64 0] w' Pp) :
  Answers 20 #[.pointer (some ⟨B, 0, none⟩), reqV kk s i kd m k n f c p] w Pp := by
 unfold Answers at *
 have HOk : Hid (AnsOk F n0 Pp) := hok
 have HC : Hid (∀ w', Ext w w' -> _) := hck
 have HIn : Hid (∀ w' rb, Ext w w' -> w.heap.size <= rb -> Q w' rb -> _) := hin
 clear hok hck hin
 unfold replyV at HIn ⊢
 unfold reqV
 go_enter Tryz.func20, Tryz.ntmps20
 go_wp2_with fail
 have hres0 : ((w.alloc (.cells #[.int .i64 kk, .int .i64 s, .int .i64 i, .int .i64 kd, .int .i64 m, .int .i64 k, .int .i64 n, .int .i64 f, .int .i64 c, .int .i64 p] 51)).alloc (.cells #[.int .i64 0, .int .i64 0, .int .i64 0, .slice none 0 0] 33)).heap[w.heap.size + 1]? = some (.cells #[.int .i64 0, .int .i64 0, .int .i64 0, .slice none 0 0] 33 (0, 0)) := at_new (by simp)
 have hXW : Ext w ((w.alloc (.cells #[.int .i64 kk, .int .i64 s, .int .i64 i, .int .i64 kd, .int .i64 m, .int .i64 k, .int .i64 n, .int .i64 f, .int .i64 c, .int .i64 p] 51)).alloc (.cells #[.int .i64 0, .int .i64 0, .int .i64 0, .slice none 0 0] 33)) := ((Ext.refl w).alloc _).alloc _
 generalize World.alloc (World.alloc w _) _ = W at hres0 hXW ⊢
 refine (HC.out W hXW).mono ?_
 rintro e w1 ⟨rb, rfl, hrb, hq, hx1⟩
 have hres1 := hx1.block hres0
 have hl1 := (Array.getElem?_eq_some_iff.1 hres1).1
 have HX1 : Hid (Ext w w1) := hXW.trans hx1
 have HQ : Hid (Q w1 rb) := hq
 have hrb2 : w.heap.size <= rb := Nat.le_trans hXW.le hrb
 have HRS : Hid _ := hres1
 clear hx1 hXW hq hres0 hres1 hrb
 go_wp2_with fail
 refine (HIn.out _ rb HX1.out hrb2 HQ.out).mono ?_
 rintro e w2 ⟨cc, cf, cn, va, vl, vc, rfl, hl2⟩
 have HL2 : Hid _ := hl2
 have q3 := HOk.out.turn _ _ _ _ _ _ hl2
 have hr2 : w2.heap[w.heap.size + 1]? = some (.cells #[.int .i64 0, .int .i64 0, .int .i64 0, .slice none 0 0] 33 (0, 0)) := q3.ref HRS.out (fun e => by have := HOk.out.lt _ e; omega)
 have o0 := cell_at hr2 (i := 0) rfl
 have o1 := cell_at hr2 (i := 1) rfl
 have o2 := cell_at hr2 (i := 2) rfl
 have o3 := cell_at hr2 (i := 3) rfl
 have f0 := frozen_row hr2 0
 have f1 := frozen_row hr2 1
 have f2 := frozen_row hr2 2
 have f3 := frozen_row hr2 3
 clear q3 hr2 hl2
 go_wp2
 refine bodyPost_ret (v := .agg #[.int .i64 cc, .int .i64 cf, .int .i64 cn, .slice va vl vc]) (by simp [results, Tryz.results20, go_sem, o0, o1, o2, o3]) rfl ⟨cc, cf, cn, va, vl, vc, rfl, ?_⟩
 exact HOk.out.step _ _ _ _ (w.heap.size + 1) _ _ _ _ hn0 HX1.out HL2.out (set4' (Ext.refl _) _ _ _ _) (by omega) hl1
theorem askBad_c (B : Nat) (kk s i kd m k n f c p : Int) (w : World)
  (hck : ∀ w', Ext w w' -> Calls Tryz.prog 55 #[.agg #[.int .i64 kk, .int .i64 s, .int .i64 i, .int .i64 kd, .int .i64 m, .int .i64 k, .int .i64 n, .int .i64 f, .int .i64 c, .int .i64 p]] w' fun e w'' => e = .returned (.tuple #[.nilIface, .int .i64 1]) /\ Ext w' w'') :
  Calls Tryz.prog 20 #[.pointer (some ⟨B, 0, none⟩), reqV kk s i kd m k n f c p] w fun e w' => e = .returned (replyV 1 0 0 (.slice none 0 0)) /\ Ext w w' := by
 have HC : Hid (∀ w', Ext w w' -> _) := hck
 have HD : Hid (∀ w', _) := fun w' => dealerBad_c B w'
 clear hck
 unfold replyV at HD ⊢
 unfold reqV
 go_enter Tryz.func20, Tryz.ntmps20
 go_wp2_with fail
 have hres0 : ((w.alloc (.cells #[.int .i64 kk, .int .i64 s, .int .i64 i, .int .i64 kd, .int .i64 m, .int .i64 k, .int .i64 n, .int .i64 f, .int .i64 c, .int .i64 p] 51)).alloc (.cells #[.int .i64 0, .int .i64 0, .int .i64 0, .slice none 0 0] 33)).heap[w.heap.size + 1]? = some (.cells #[.int .i64 0, .int .i64 0, .int .i64 0, .slice none 0 0] 33 (0, 0)) := at_new (by simp)
 have hXW : Ext w ((w.alloc (.cells #[.int .i64 kk, .int .i64 s, .int .i64 i, .int .i64 kd, .int .i64 m, .int .i64 k, .int .i64 n, .int .i64 f, .int .i64 c, .int .i64 p] 51)).alloc (.cells #[.int .i64 0, .int .i64 0, .int .i64 0, .slice none 0 0] 33)) := ((Ext.refl w).alloc _).alloc _
 generalize World.alloc (World.alloc w _) _ = W at hres0 hXW ⊢
 refine (HC.out W hXW).mono ?_
 rintro e w1 ⟨rfl, hx1⟩
 have HX1 : Hid (Ext w w1) := hXW.trans hx1
 have HRS : Hid _ := hx1.block hres0
 clear hx1 hXW hres0
 go_wp2_with fail
 refine (HD.out _).mono ?_
 rintro e w2 ⟨rfl, hx2⟩
 have hr2 := hx2.block HRS.out
 have o0 := cell_at hr2 (i := 0) rfl
 have o1 := cell_at hr2 (i := 1) rfl
 have o2 := cell_at hr2 (i := 2) rfl
 have o3 := cell_at hr2 (i := 3) rfl
 have f0 := frozen_row hr2 0
 have f1 := frozen_row hr2 1
 have f2 := frozen_row hr2 2
 have f3 := frozen_row hr2 3
 have HX2 : Hid (Ext w w2) := HX1.out.trans hx2
 clear hr2 hx2
 go_wp2
 refine bodyPost_ret (v := .agg #[.int .i64 1, .int .i64 0, .int .i64 0, .slice none 0 0]) (by simp [results, Tryz.results20, go_sem, o0, o1, o2, o3]) rfl ⟨rfl, ?_⟩
 exact ext4 HX2.out (by omega) _ _ _ _
end
-- GTop
section
open Go.RowKit Go.Maps
def PQuiet (c0 f0 n0 : Int) (w w' : World) (c f n : Int) (v : Value) : Prop := c = c0 /\ f = f0 /\ n = n0 /\ v = .slice none 0 0 /\ Ext w w'
def PWords (f0 n0 : Int) (zs : List Int) (w w' : World) (c f n : Int) (v : Value) : Prop := c = 0 /\ f = f0 /\ n = n0 /\ w'.ownsRow w.heap.size 146 1 v zs.length (zs.map (Value.int .u64)) /\ Ext w w'
def PChange (B : Nat) (F : Nat -> Prop) (R' : List StkR) (ls' : List LsV) (ops' : List OpV) (fl' : Bool) (ah' : Int) (kn' : Bool) (c0 f0 n0 : Int) (w w' : World) (c f n : Int) (v : Value) : Prop := c = c0 /\ f = f0 /\ n = n0 /\ v = .slice none 0 0 /\ DoPost w w' B F R' ls' ops' fl' ah' kn'
theorem quiet_ok {F : Nat -> Prop} {n0 : Nat} (hlt : ∀ b, F b -> b < n0) (c0 f0 m0 : Int) : AnsOk F n0 (PQuiet c0 f0 m0) where
 lt := hlt
 turn := fun w1 w2 c f n v h => Turn.of_ext h.2.2.2.2
 step := fun w w1 w2 w3 g c f n v _ hx h ht hg _ => ⟨h.1, h.2.1, h.2.2.1, h.2.2.2.1, Turn.ext ((Turn.of_ext (S := fun _ => False) (hx.trans h.2.2.2.2)).trans' ht (fun b hb e => by omega))⟩
theorem words_ok {F : Nat -> Prop} {n0 : Nat} (hlt : ∀ b, F b -> b < n0) (f0 m0 : Int) (zs : List Int) : AnsOk F n0 (PWords f0 m0 zs) where
 lt := hlt
 turn := fun w1 w2 c f n v h => Turn.of_ext h.2.2.2.2
 step := fun w w1 w2 w3 g c f n v _ hx h ht hg hg1 => ⟨h.1, h.2.1, h.2.2.1, owns_base (ht.owns h.2.2.2.1 (fun b hb e => by have := (World.ownsRow.lt h.2.2.2.1 b hb).1; omega)) hx.le, Turn.ext ((Turn.of_ext (S := fun _ => False) (hx.trans h.2.2.2.2)).trans' ht (fun b hb e => by omega))⟩
theorem change_ok {B : Nat} {F : Nat -> Prop} {ops' : List OpV} {fl' : Bool} {ah' : Int} {kn' : Bool} {n0 : Nat} (hlt : ∀ b, F b -> b < n0) (R' : List StkR) (ls' : List LsV) (c0 f0 m0 : Int) : AnsOk F n0 (PChange B F R' ls' ops' fl' ah' kn' c0 f0 m0) where
 lt := hlt
 turn := fun w1 w2 c f n v h => by obtain ⟨_, _, _, _, _, _, _, _, ht⟩ := h; exact ht
 step := fun w w1 w2 w3 g c f n v hn hx h ht hg hg1 => ⟨h.1, h.2.1, h.2.2.1, h.2.2.2.1, h.2.2.2.2.step hx ht (fun b hb => Nat.lt_of_lt_of_le (hlt b hb) hn) hg hg1⟩
theorem quiet_of {f : FuncId} {args : Array Value} {w : World} {c0 f0 n0 : Int} (h : Calls Tryz.prog f args w fun e w' => e = .returned (replyV c0 f0 n0 (.slice none 0 0)) /\ Ext w w') : Answers f args w (PQuiet c0 f0 n0) :=
 h.mono fun _ _ ⟨h1, h2⟩ => ⟨c0, f0, n0, none, 0, 0, h1, rfl, rfl, rfl, rfl, h2⟩
theorem change_of {B : Nat} {F : Nat -> Prop} {ops' : List OpV} {fl' : Bool} {ah' : Int} {kn' : Bool} {f : FuncId} {args : Array Value} {w : World} {c0 f0 n0 : Int} {R' : List StkR} {ls' : List LsV} (h : Calls Tryz.prog f args w fun e w' => e = .returned (replyV c0 f0 n0 (.slice none 0 0)) /\ DoPost w w' B F R' ls' ops' fl' ah' kn') : Answers f args w (PChange B F R' ls' ops' fl' ah' kn' c0 f0 n0) :=
 h.mono fun _ _ ⟨h1, h2⟩ => ⟨c0, f0, n0, none, 0, 0, h1, rfl, rfl, rfl, rfl, h2⟩
theorem ext_step {F : Nat -> Prop} : ∀ w w1 w2 w3 g, (∀ b, F b -> b < w.heap.size) -> Ext w w1 -> Ext w1 w2 -> Turn (fun q => q = g) w2 w3 -> w.heap.size <= g -> g < w1.heap.size -> Ext w w3 := fun w w1 w2 w3 g _ hx h ht hg _ =>
 Turn.ext ((Turn.of_ext (S := fun _ => False) (hx.trans h)).trans' ht (fun b hb e => by omega))
structure AskAns (B : Nat) (tt : TypeId) (Q : World -> Nat -> Prop) (req : Value) (w : World) (Pp : World -> World -> Int -> Int -> Int -> Value -> Prop) : Prop where
 ask : Answers 20 #[.pointer (some ⟨B, 0, none⟩), req] w Pp
 ans : ∀ w1 rb, Ext w w1 -> w.heap.size <= rb -> Q w1 rb -> Answers 54 #[.pointer (some ⟨B, 0, none⟩), .iface tt (.pointer (some ⟨rb, 0, none⟩)), .int .i64 0] w1 Pp
theorem askOk2_c {F : Nat -> Prop} {n0 : Nat} {Pp : World -> World -> Int -> Int -> Int -> Value -> Prop} (hok : AnsOk F n0 Pp) (B : Nat) (tt : TypeId) (Q : World -> Nat -> Prop) (kk s i kd m k n f c p : Int) (w : World) (hn0 : n0 <= w.heap.size)
  (hck : ∀ w', Ext w w' -> Calls Tryz.prog 55 #[.agg #[.int .i64 kk, .int .i64 s, .int .i64 i, .int .i64 kd, .int .i64 m, .int .i64 k, .int .i64 n, .int .i64 f, .int .i64 c, .int .i64 p]] w' fun e w'' => ∃ rb, e = .returned (.tuple #[.iface tt (.pointer (some ⟨rb, 0, none⟩)), .int .i64 0]) /\ w'.heap.size <= rb /\ Q w'' rb /\ Ext w' w'')
  (hin : ∀ w' rb, Ext w w' -> w.heap.size <= rb -> Q w' rb -> Answers 54 #[.pointer (some ⟨B, 0, none⟩), .iface tt (.pointer (some ⟨rb, 0, none⟩)), .int .i64 0] w' Pp) :
  AskAns B tt Q (reqV kk s i kd m k n f c p) w Pp := ⟨askOk_c hok B tt Q kk s i kd m k n f c p w hn0 hck hin, hin⟩
section
variable {B : Nat} {F : Nat -> Prop} {sv lv dv : Value} {R : List StkR} {ls : List LsV} {ops : List OpV} {fl : Bool} {ah : Int} {kn : Bool}
structure Small (R : List StkR) (ls : List LsV) : Prop where
 stocks : R.length <= 100
 leases : ls.length <= 900
 made : ∀ x ∈ R, x.ts.length <= 1000 /\ x.leased <= 900
 fc : ∀ l ∈ ls, 0 <= l.f /\ l.f <= 1000 /\ 0 <= l.c /\ l.c <= 1000
 ok : ∀ x ∈ R, StkOk x.abs
 lok : ∀ l ∈ ls, LsOk l
theorem askLeaseSome_c (s i kd m k n c : Int) (ix : Nat) (hsm : Small R ls) (hix : ix < ls.length) (hf : ls.findIdx? (isNamed s i) = some ix) (vals : Nat -> Int) (hv : vals 0 = s /\ vals 1 = i /\ vals 2 = kd /\ vals 3 = m /\ vals 4 = k /\ vals 5 = n /\ vals 6 = c) (hfit : fitB vals leaseL = true) (w : World) (h : StoreOf w B F sv lv dv R ls ops fl ah kn) :
  AskAns B 201 (fun W rb => LeaseReq W rb s i kd m k n c) (reqV 1 s i kd m k n 0 c 0) w (if beforeCode ls[ix] kd m k n c then PQuiet 0 ls[ix].f ls[ix].c else PQuiet 6 0 0) := by
 have hok : AnsOk F w.heap.size (if beforeCode ls[ix] kd m k n c then PQuiet 0 ls[ix].f ls[ix].c else PQuiet 6 0 0) := by
  split
  ·exact quiet_ok h.lt _ _ _
  ·exact quiet_ok h.lt _ _ _
 obtain ⟨g, cap, rfl⟩ : ∃ g cap, lv = .slice (some ⟨g, 0, none⟩) ls.length cap := by
  rcases LeasesAt.form h.lrow with ⟨_, e⟩ | ⟨g, cap, e, _⟩
  ·rw [e] at hix; simp at hix
  ·exact ⟨g, cap, e⟩
 refine askOk2_c hok B 201 (fun W rb => LeaseReq W rb s i kd m k n c) 1 s i kd m k n 0 c 0 w (Nat.le_refl _) (fun w' hx => ?_) (fun w' rb hx hrb hq => ?_)
 ·refine (check_1b s i kd m k n c vals hv w').mono ?_
  rintro e w'' (⟨_, b, he, hlb, hb, hx'⟩ | ⟨hn, _⟩)
  ·exact ⟨b, he, hlb, hb, hx'⟩
  ·rw [hfit] at hn; cases hn
 ·refine dealerLease_c hok B rb w' hx.le (fun w1 hx1 => answerLease_c hok B rb w1 (Nat.le_trans hx.le hx1.le) (fun w2 hx2 => ?_))
  have hx3 := hx.trans (hx1.trans hx2)
  have hr3 : LeaseReq w2 rb s i kd m k n c := (hx1.trans hx2).block hq
  refine storeLeaseSome_c hok B rb s i kd m k n c w2 hx3.le hr3 ⟨g, ix * 9, none⟩ (fun w' hx' => ?_) (fun w' hx' => ?_)
  ·have := named_c B ls s i sv _ dv fl ah kn w' (h.deal.ext (hx3.trans hx')) (h.lrow.ext (hx3.trans hx')) (by have := hsm.leases; omega)
   rwa [hf] at this
  ·have hlr := h.lrow.ext (hx3.trans hx')
   have hne : g ≠ rb := fun e => by
    have := owns_lt h.lrow (g := g) rfl
    omega
   have := leasedBefore_c g (ix * 9) rb ls[ix] s i kd m k n c w' (hx'.block hr3) hne (LeasesAt.cells hlr ix hix)
   split
   ·rename_i hb
    rw [hb] at this
    exact quiet_of this
   ·rename_i hb
    rw [Bool.not_eq_true] at hb
    rw [hb] at this
    exact quiet_of this
end
end
-- GTp2
section
open Go.RowKit Go.Maps
section
variable {B : Nat} {F : Nat -> Prop} {sv lv dv : Value} {R : List StkR} {ls : List LsV} {ops : List OpV} {fl : Bool} {ah : Int} {kn : Bool}
theorem askLeaseDown {Pp : World -> World -> Int -> Int -> Int -> Value -> Prop} (s i kd m k n c : Int) (vals : Nat -> Int) (hv : vals 0 = s /\ vals 1 = i /\ vals 2 = kd /\ vals 3 = m /\ vals 4 = k /\ vals 5 = n /\ vals 6 = c) (hfit : fitB vals leaseL = true) (w : World) (hok : AnsOk F w.heap.size Pp)
  (hin : ∀ w' rb, Ext w w' -> w.heap.size <= rb -> LeaseReq w' rb s i kd m k n c -> Answers 119 #[.pointer (some ⟨B, 0, none⟩), .pointer (some ⟨rb, 0, none⟩)] w' Pp) :
  AskAns B 201 (fun W rb => LeaseReq W rb s i kd m k n c) (reqV 1 s i kd m k n 0 c 0) w Pp := by
 refine askOk2_c hok B 201 (fun W rb => LeaseReq W rb s i kd m k n c) 1 s i kd m k n 0 c 0 w (Nat.le_refl _) (fun w' hx => ?_) (fun w' rb hx hrb hq => ?_)
 ·refine (check_1b s i kd m k n c vals hv w').mono ?_
  rintro e w'' (⟨_, b, he, hlb, hb, hx'⟩ | ⟨hn, _⟩)
  ·exact ⟨b, he, hlb, hb, hx'⟩
  ·rw [hfit] at hn; cases hn
 ·exact dealerLease_c hok B rb w' hx.le (fun w1 hx1 => answerLease_c hok B rb w1 (Nat.le_trans hx.le hx1.le) (fun w2 hx2 => hin w2 rb (hx.trans (hx1.trans hx2)) hrb ((hx1.trans hx2).block hq)))
theorem askReleaseDown {Pp : World -> World -> Int -> Int -> Int -> Value -> Prop} (s i : Int) (vals : Nat -> Int) (hv : vals 0 = s /\ vals 1 = i) (hfit : fitB vals releaseL = true) (w : World) (hok : AnsOk F w.heap.size Pp)
  (hin : ∀ w' rb, Ext w w' -> w.heap.size <= rb -> ReleaseReq w' rb s i -> Answers 121 #[.pointer (some ⟨B, 0, none⟩), .pointer (some ⟨rb, 0, none⟩)] w' Pp) :
  AskAns B 205 (fun W rb => ReleaseReq W rb s i) (reqV 3 s i 0 0 0 0 0 0 0) w Pp := by
 refine askOk2_c hok B 205 (fun W rb => ReleaseReq W rb s i) 3 s i 0 0 0 0 0 0 0 w (Nat.le_refl _) (fun w' hx => ?_) (fun w' rb hx hrb hq => ?_)
 ·refine (check_3b s i vals hv w').mono ?_
  rintro e w'' (⟨_, b, he, hlb, hb, hx'⟩ | ⟨hn, _⟩)
  ·exact ⟨b, he, hlb, hb, hx'⟩
  ·rw [hfit] at hn; cases hn
 ·exact dealerRelease_c hok B rb w' hx.le (fun w1 hx1 => answerRelease_c hok B rb w1 (Nat.le_trans hx.le hx1.le) (fun w2 hx2 => hin w2 rb (hx.trans (hx1.trans hx2)) hrb ((hx1.trans hx2).block hq)))
theorem askStatusDown {Pp : World -> World -> Int -> Int -> Int -> Value -> Prop} (kd m k n : Int) (vals : Nat -> Int) (hv : vals 0 = kd /\ vals 1 = m /\ vals 2 = k /\ vals 3 = n) (hfit : fitB vals statusL = true) (w : World) (hok : AnsOk F w.heap.size Pp)
  (hin : ∀ w' rb, Ext w w' -> w.heap.size <= rb -> StatusReq w' rb kd m k n -> Answers 122 #[.pointer (some ⟨B, 0, none⟩), .pointer (some ⟨rb, 0, none⟩)] w' Pp) :
  AskAns B 207 (fun W rb => StatusReq W rb kd m k n) (reqV 4 0 0 kd m k n 0 0 0) w Pp := by
 refine askOk2_c hok B 207 (fun W rb => StatusReq W rb kd m k n) 4 0 0 kd m k n 0 0 0 w (Nat.le_refl _) (fun w' hx => ?_) (fun w' rb hx hrb hq => ?_)
 ·refine (check_4b kd m k n vals hv w').mono ?_
  rintro e w'' (⟨_, b, he, hlb, hb, hx'⟩ | ⟨hn, _⟩)
  ·exact ⟨b, he, hlb, hb, hx'⟩
  ·rw [hfit] at hn; cases hn
 ·exact dealerStatus_c hok B rb w' hx.le (fun w1 hx1 => answerStatus_c hok B rb w1 (Nat.le_trans hx.le hx1.le) (fun w2 hx2 => hin w2 rb (hx.trans (hx1.trans hx2)) hrb ((hx1.trans hx2).block hq)))
theorem askFetchDown {Pp : World -> World -> Int -> Int -> Int -> Value -> Prop} (s kd m k n f c p : Int) (vals : Nat -> Int) (hv : vals 0 = s /\ vals 1 = kd /\ vals 2 = m /\ vals 3 = k /\ vals 4 = n /\ vals 5 = f /\ vals 6 = c /\ vals 7 = p) (hfit : fitB vals fetchL = true) (w : World) (hok : AnsOk F w.heap.size Pp)
  (hin : ∀ w' rb, Ext w w' -> w.heap.size <= rb -> FetchReq w' rb s kd m k n f c p -> Answers 120 #[.pointer (some ⟨B, 0, none⟩), .pointer (some ⟨rb, 0, none⟩)] w' Pp) :
  AskAns B 203 (fun W rb => FetchReq W rb s kd m k n f c p) (reqV 2 s 0 kd m k n f c p) w Pp := by
 refine askOk2_c hok B 203 (fun W rb => FetchReq W rb s kd m k n f c p) 2 s 0 kd m k n f c p w (Nat.le_refl _) (fun w' hx => ?_) (fun w' rb hx hrb hq => ?_)
 ·refine (check_2b s kd m k n f c p vals hv w').mono ?_
  rintro e w'' (⟨_, b, he, hlb, hb, hx'⟩ | ⟨hn, _⟩)
  ·exact ⟨b, he, hlb, hb, hx'⟩
  ·rw [hfit] at hn; cases hn
 ·exact dealerFetch_c hok B rb w' hx.le (fun w1 hx1 => answerFetch_c hok B rb w1 (Nat.le_trans hx.le hx1.le) (fun w2 hx2 => hin w2 rb (hx.trans (hx1.trans hx2)) hrb ((hx1.trans hx2).block hq)))
theorem askLeaseNo_c (s i kd m k n c : Int) (hsm : Small R ls) (hf : ls.findIdx? (isNamed s i) = none) (hcd : leaseCode R ls kd m k n c ≠ 0) (vals : Nat -> Int) (hv : vals 0 = s /\ vals 1 = i /\ vals 2 = kd /\ vals 3 = m /\ vals 4 = k /\ vals 5 = n /\ vals 6 = c) (hfit : fitB vals leaseL = true) (w : World) (h : StoreOf w B F sv lv dv R ls ops fl ah kn) :
  AskAns B 201 (fun W rb => LeaseReq W rb s i kd m k n c) (reqV 1 s i kd m k n 0 c 0) w (PQuiet (leaseCode R ls kd m k n c) 0 0) := by
 have hok : AnsOk F w.heap.size (PQuiet (leaseCode R ls kd m k n c) 0 0) := quiet_ok h.lt _ _ _
 refine askLeaseDown s i kd m k n c vals hv hfit w hok (fun w2 rb hx hrb hr => ?_)
 refine storeLeaseNone_c hok B rb s i kd m k n c w2 hx.le hr (fun e => by have := h.lt _ e; omega) (fun w' hx' => ?_) (fun w' hx' => ?_)
 ·have := named_c B ls s i sv lv dv fl ah kn w' (h.deal.ext (hx.trans hx')) (h.lrow.ext (hx.trans hx')) (by have := hsm.leases; omega)
  rwa [hf] at this
 ·exact quiet_of (doToLeaseNo_c (F := F) (Q := Ext) (fun _ _ h => Turn.of_ext h) ext_step _ rfl _ s i hcd w' (h.ext (hx.trans hx')).lt (fun w3 hx3 => doLeaseNo_c rb kd m k n s i c hsm.stocks (by have := hsm.leases; omega) (fun x hx => by have := hsm.made x hx; omega) hf hcd w3 (h.ext (hx.trans (hx'.trans hx3))) ((hx'.trans hx3).block hr)))
def PDid (B : Nat) (F : Nat -> Prop) (R : List StkR) (ls : List LsV) (ops : List OpV) (fl : Bool) (ah : Int) (kn : Bool) (rec : ByteArray) (R' : List StkR) (ls' : List LsV) (f0 n0 : Int) : World -> World -> Int -> Int -> Int -> Value -> Prop :=
 if diskOk fl ah (addOps kn (R.map StkR.abs) ls rec).length then PChange B F R' ls' (ops ++ didOps fl ah (addOps kn (R.map StkR.abs) ls rec)) (diskFl fl ah (addOps kn (R.map StkR.abs) ls rec).length) (diskAh fl ah (addOps kn (R.map StkR.abs) ls rec).length) true 0 f0 n0
 else PChange B F R ls (ops ++ didOps fl ah (addOps kn (R.map StkR.abs) ls rec)) (diskFl fl ah (addOps kn (R.map StkR.abs) ls rec).length) (diskAh fl ah (addOps kn (R.map StkR.abs) ls rec).length) false 10 0 0
theorem did_ok {n0 : Nat} (hlt : ∀ b, F b -> b < n0) (rec : ByteArray) (R' : List StkR) (ls' : List LsV) (f0 m0 : Int) : AnsOk F n0 (PDid B F R ls ops fl ah kn rec R' ls' f0 m0) := by
 unfold PDid
 split
 ·exact change_ok hlt _ _ _ _ _
 ·exact change_ok hlt _ _ _ _ _
theorem doToLease_c (cv : Value) (hcv : cv.oneCell' = true) (ss ii : Int) (rec : ByteArray) (R' : List StkR) (ls' : List LsV) (ix : Nat) (hix : ix < ls'.length) (hn : ls'.findIdx? (isNamed ss ii) = some ix) (hls : ls'.length <= 1000) (w : World) (h : StoreOf w B F sv lv dv R ls ops fl ah kn)
  (hdo : ∀ w', Ext w w' -> Calls Tryz.prog 98 #[.pointer (some ⟨B, 0, none⟩), cv] w' fun e w'' => DidSo kn fl ah (R.map StkR.abs) ls rec e fun ok fl' ah' new => DoPost w' w'' B F (if ok then R' else R) (if ok then ls' else ls) (ops ++ new) fl' ah' ok) :
  Answers 167 #[.pointer (some ⟨B, 0, none⟩), cv, .int .i64 ss, .int .i64 ii] w (PDid B F R ls ops fl ah kn rec R' ls' ls'[ix].f ls'[ix].c) := by
 unfold DidSo at hdo
 unfold PDid
 generalize addOps kn (R.map StkR.abs) ls rec = full at *
 cases hok : diskOk fl ah full.length with
 | true =>
  rw [hok] at hdo
  rw [if_pos rfl]
  exact change_of (doToLeaseYes_c cv hcv ss ii R' ls' ix hix hn hls w h hdo)
 | false =>
  rw [hok] at hdo
  rw [if_neg (by decide)]
  exact change_of (doToLeaseNo_c (F := F) (Q := fun w1 w2 => DoPost w1 w2 B F R ls (ops ++ didOps fl ah full) (diskFl fl ah full.length) (diskAh fl ah full.length) false) (fun _ _ h => by obtain ⟨_, _, _, _, ht⟩ := h; exact ht) (fun w w1 w2 w3 g hF hx h ht hg0 hg1 => h.step hx ht hF hg0 hg1) cv hcv 10 ss ii (by decide) w h.lt hdo)
theorem askLease_c (s i kd m k n c ix : Nat) (hsm : Small R ls) (hops : ops.length <= 1000000) (hah : AhOk fl ah) (hf : ls.findIdx? (isNamed s i) = none) (hcd : leaseCode R ls kd m k n c = 0) (hix : ix < R.length) (hfx : R.find? (fun x => x.is kd m k n) = some R[ix]) (hs : s <= 2147483647) (hi : i <= 2147483647) (hk : kd <= 255 /\ m <= 255 /\ k <= 255 /\ n <= 255) (hc : c <= 100) (w : World) (h : StoreOf w B F sv lv dv R ls ops fl ah kn) :
  AskAns B 201 (fun W rb => LeaseReq W rb s i kd m k n c) (reqV 1 s i kd m k n 0 c 0) w (PDid B F R ls ops fl ah kn (leaseRec s i kd m k n c) (R.set ix (R[ix].lend c)) (ls ++ [⟨s, i, kd, m, k, n, R[ix].leased, c, false⟩]) R[ix].leased c) := by
 have hok : AnsOk F w.heap.size (PDid B F R ls ops fl ah kn (leaseRec s i kd m k n c) (R.set ix (R[ix].lend c)) (ls ++ [⟨s, i, kd, m, k, n, R[ix].leased, c, false⟩]) R[ix].leased c) := did_ok h.lt _ _ _ _ _
 have hfit : fitB (fun j => (leaseVals s i kd m k n c j : Int)) leaseL = true := by
  simp [fitB, leaseL, leaseVals]
  omega
 refine askLeaseDown s i kd m k n c (fun j => (leaseVals s i kd m k n c j : Int)) ⟨rfl, rfl, rfl, rfl, rfl, rfl, rfl⟩ hfit w hok (fun w2 rb hx hrb hr => ?_)
 refine storeLeaseNone_c hok B rb s i kd m k n c w2 hx.le hr (fun e => by have := h.lt _ e; omega) (fun w' hx' => ?_) (fun w' hx' => ?_)
 ·have := named_c B ls s i sv lv dv fl ah kn w' (h.deal.ext (hx.trans hx')) (h.lrow.ext (hx.trans hx')) (by have := hsm.leases; omega)
  rwa [hf] at this
 ·have hn : (ls ++ [(⟨s, i, kd, m, k, n, R[ix].leased, c, false⟩ : LsV)]).findIdx? (isNamed s i) = some ls.length := by
   rw [List.findIdx?_append, hf]
   simp [isNamed]
  have hy := doToLease_c (B := B) (F := F) (sv := sv) (lv := lv) (dv := dv) (R := R) (ls := ls) (ops := ops) (fl := fl) (ah := ah) (kn := kn) (.iface 233 (.agg #[.pointer (some ⟨rb, 0, none⟩)])) rfl s i (leaseRec s i kd m k n c) (R.set ix (R[ix].lend c)) (ls ++ [⟨s, i, kd, m, k, n, R[ix].leased, c, false⟩]) ls.length (by simp) hn (by have := hsm.leases; simp; omega) w' (h.ext (hx.trans hx')) (fun w3 hx3 =>
   doLease_c rb ix kd m k n s i c hs hi hk hc hsm.stocks hsm.leases hops hah hsm.ok hsm.lok (fun x hx => by have := hsm.made x hx; omega) hf hcd hix hfx w3 (h.ext (hx.trans (hx'.trans hx3))) ((hx'.trans hx3).block hr) (fun e => by have := h.lt _ e; omega))
  simp only [List.getElem_concat_length] at hy
  exact hy
theorem askReleaseNo_c (s i : Int) (hsm : Small R ls) (hcd : releaseCode ls s i ≠ 0) (vals : Nat -> Int) (hv : vals 0 = s /\ vals 1 = i) (hfit : fitB vals releaseL = true) (w : World) (h : StoreOf w B F sv lv dv R ls ops fl ah kn) :
  AskAns B 205 (fun W rb => ReleaseReq W rb s i) (reqV 3 s i 0 0 0 0 0 0 0) w (PQuiet (releaseCode ls s i) 0 0) := by
 have hok : AnsOk F w.heap.size (PQuiet (releaseCode ls s i) 0 0) := quiet_ok h.lt _ _ _
 refine askReleaseDown s i vals hv hfit w hok (fun w2 rb hx hrb hr => ?_)
 refine storeRelease_c hok B rb s i w2 hx.le hr (fun e => by have := h.lt _ e; omega) (fun w' hx' => ?_)
 exact quiet_of (doToLeaseNo_c (F := F) (Q := Ext) (fun _ _ h => Turn.of_ext h) ext_step _ rfl _ s i hcd w' (h.ext (hx.trans hx')).lt (fun w3 hx3 => doReleaseNo_c rb s i (by have := hsm.leases; omega) hcd w3 (h.ext (hx.trans (hx'.trans hx3))) ((hx'.trans hx3).block hr)))
theorem askRelease_c (s i ix : Nat) (hsm : Small R ls) (hops : ops.length <= 1000000) (hah : AhOk fl ah) (hcd : releaseCode ls s i = 0) (hix : ix < ls.length) (hf : ls.findIdx? (isNamed s i) = some ix) (hs : s <= 2147483647) (hi : i <= 2147483647) (w : World) (h : StoreOf w B F sv lv dv R ls ops fl ah kn) :
  AskAns B 205 (fun W rb => ReleaseReq W rb s i) (reqV 3 s i 0 0 0 0 0 0 0) w (PDid B F R ls ops fl ah kn (relRec s i) R (ls.set ix ls[ix].free) ls[ix].f ls[ix].c) := by
 have hok : AnsOk F w.heap.size (PDid B F R ls ops fl ah kn (relRec s i) R (ls.set ix ls[ix].free) ls[ix].f ls[ix].c) := did_ok h.lt _ _ _ _ _
 have hfit : fitB (fun j => (releaseVals s i j : Int)) releaseL = true := by
  simp [fitB, releaseL, releaseVals]
  omega
 refine askReleaseDown s i (fun j => (releaseVals s i j : Int)) ⟨rfl, rfl⟩ hfit w hok (fun w2 rb hx hrb hr => ?_)
 refine storeRelease_c hok B rb s i w2 hx.le hr (fun e => by have := h.lt _ e; omega) (fun w' hx' => ?_)
 have hn : (ls.set ix ls[ix].free).findIdx? (isNamed s i) = some ix := by
  obtain ⟨_, h1, h2⟩ := List.findIdx?_eq_some_iff_getElem.1 hf
  rw [List.findIdx?_eq_some_iff_getElem]
  refine ⟨by simpa using hix, by simpa [isNamed, LsV.free] using h1, fun j hj => ?_⟩
  have hj' := h2 j hj
  rw [List.getElem_set_ne (by omega)]
  exact hj'
 have hy := doToLease_c (B := B) (F := F) (sv := sv) (lv := lv) (dv := dv) (R := R) (ls := ls) (ops := ops) (fl := fl) (ah := ah) (kn := kn) (.iface 235 (.agg #[.pointer (some ⟨rb, 0, none⟩)])) rfl s i (relRec s i) R (ls.set ix ls[ix].free) ix (by simpa using hix) hn (by have := hsm.leases; simp; omega) w' (h.ext (hx.trans hx')) (fun w3 hx3 => by
  have := doRelease_c rb ix s i hs hi hsm.stocks hsm.leases hops hah hsm.ok hsm.lok hcd hix hf w3 (h.ext (hx.trans (hx'.trans hx3))) ((hx'.trans hx3).block hr) (fun e => by have := h.lt _ e; omega)
  simpa only [ite_self] using this)
 simp only [List.getElem_set_self] at hy
 exact hy
theorem askStatus_c (kd m k n : Int) (hsm : Small R ls) (vals : Nat -> Int) (hv : vals 0 = kd /\ vals 1 = m /\ vals 2 = k /\ vals 3 = n) (hfit : fitB vals statusL = true) (w : World) (h : StoreOf w B F sv lv dv R ls ops fl ah kn) :
  AskAns B 207 (fun W rb => StatusReq W rb kd m k n) (reqV 4 0 0 kd m k n 0 0 0) w (match R.find? (fun x => x.is kd m k n) with | none => PQuiet 2 0 0 | some x => PQuiet 0 x.leased x.ts.length) := by
 have hok : AnsOk F w.heap.size (match R.find? (fun x => x.is kd m k n) with | none => PQuiet 2 0 0 | some x => PQuiet 0 x.leased x.ts.length) := by
  split
  ·exact quiet_ok h.lt _ _ _
  ·exact quiet_ok h.lt _ _ _
 refine askStatusDown kd m k n vals hv hfit w hok (fun w2 rb hx hrb hr => ?_)
 have := storeStatus_c rb kd m k n hsm.stocks w2 (h.ext hx) hr
 cases hf : R.find? (fun x => x.is kd m k n) with
 | none =>
  rw [hf] at this
  exact quiet_of this
 | some x =>
  rw [hf] at this
  exact quiet_of this
theorem askFetchNo_c (s kd m k n f c p cd : Int) (hsm : Small R ls) (hcd : cd ≠ 0) (hf0 : 0 <= f) (hf1 : f <= 2147483647) (hcode : (R.find? (fun x => x.is kd m k n) = none /\ cd = 2) \/ ((R.find? (fun x => x.is kd m k n)).isSome /\ cd = fetchCode ls s kd m k n f c p)) (vals : Nat -> Int) (hv : vals 0 = s /\ vals 1 = kd /\ vals 2 = m /\ vals 3 = k /\ vals 4 = n /\ vals 5 = f /\ vals 6 = c /\ vals 7 = p) (hfit : fitB vals fetchL = true) (w : World) (h : StoreOf w B F sv lv dv R ls ops fl ah kn) :
  AskAns B 203 (fun W rb => FetchReq W rb s kd m k n f c p) (reqV 2 s 0 kd m k n f c p) w (PQuiet cd 0 0) := by
 have hok : AnsOk F w.heap.size (PQuiet cd 0 0) := quiet_ok h.lt _ _ _
 refine askFetchDown s kd m k n f c p vals hv hfit w hok (fun w2 rb hx hrb hr => ?_)
 refine quiet_of (storeFetchNo_c rb s kd m k n f c p cd hcd hsm.stocks w2 (h.ext hx) hr (fun w' hx' => ?_))
 rcases hcode with ⟨hn, rfl⟩ | ⟨hs, rfl⟩
 ·rw [stkPtr, hn]
  exact (mayFetchNil_c B rb w').mono fun e w'' ⟨h1, h2⟩ => ⟨h1, h2 ▸ Ext.refl _⟩
 ·obtain ⟨x, hx0⟩ := Option.isSome_iff_exists.1 hs
  rw [stkPtr, hx0]
  exact mayFetch_c rb x.blk s kd m k n f c p hf0 hf1 (by have := hsm.leases; omega) hsm.fc w' (h.ext (hx.trans hx')) (hx'.block hr)
theorem askFetch_c (f c L : Nat) (x : StkR) (s kd m k n p : Int) (hsm : Small R ls) (hp : p = 0 \/ p = 1) (hf1 : f <= 1000) (hc1 : 1 <= c) (hc40 : c <= 40) (hfx : R.find? (fun x => x.is kd m k n) = some x) (hL : L = x.sh.x + x.sh.y + x.sh.z) (hL1 : 1 <= L) (hL2 : L <= 27) (hcode : fetchCode ls s kd m k n f c p = 0)
  (hxk : ∀ i : Nat, i < c -> ∃ h : f + i < x.ts.length, x.ts[f + i].2 = true) (hlen : ∀ u ∈ x.ts, OkT x.sh u) (hlz : (fetched x.abs p f c).length = c * L) (vals : Nat -> Int) (hv : vals 0 = s /\ vals 1 = kd /\ vals 2 = m /\ vals 3 = k /\ vals 4 = n /\ vals 5 = f /\ vals 6 = c /\ vals 7 = p) (hfit : fitB vals fetchL = true) (w : World) (h : StoreOf w B F sv lv dv R ls ops fl ah kn) :
  AskAns B 203 (fun W rb => FetchReq W rb s kd m k n f c p) (reqV 2 s 0 kd m k n f c p) w (PWords f c (fetched x.abs p f c)) := by
 have hok : AnsOk F w.heap.size (PWords f c (fetched x.abs p f c)) := words_ok h.lt _ _ _
 refine askFetchDown s kd m k n f c p vals hv hfit w hok (fun w2 rb hx hrb hr => ?_)
 refine (storeFetch_c rb f c L x s kd m k n p hp hf1 hc1 hc40 hsm.stocks hfx hL hL1 hL2 hxk hlen w2 (h.ext hx) hr (fun w' hx' => ?_)).mono ?_
 ·have := mayFetch_c rb x.blk s kd m k n f c p (by omega) (by omega) (by have := hsm.leases; omega) hsm.fc w' (h.ext (hx.trans hx')) (hx'.block hr)
  rwa [hcode] at this
 ·rintro e w' ⟨gv, cv, h1, h2, h3⟩
  exact ⟨0, f, c, some ⟨gv, 0, none⟩, c * L, cv, h1, rfl, rfl, rfl, by rw [hlz]; exact h2, h3⟩
end
end
-- GCl
section
set_option maxRecDepth 100000
set_option maxHeartbeats 400000
open Go.RowKit Go.Maps
theorem addr_add' (b off j : Nat) : (⟨b, off, none⟩ : Addr).add j = ⟨b, off + j, none⟩ := by simp [Addr.add]
theorem ls_one (l : List LsV) : ∀ u ∈ lsCells l, u.oneCell' = true := by
 intro u hu
 simp only [lsCells, List.mem_flatMap, LsV.cells, List.mem_cons, List.not_mem_nil, or_false] at hu
 obtain ⟨o, _, h⟩ := hu
 rcases h with rfl | rfl | rfl | rfl | rfl | rfl | rfl | rfl | rfl <;> rfl
theorem eqNilL (b off n cap : Nat) (w : World) : (binOp BinOp.eql 38 (.slice (some ⟨b, off, none⟩) n cap) (.slice none 0 0)).run Tryz.prog w = .ok (.bool false) w := by kernel_rfl
theorem eqNilL0 (w : World) : (binOp BinOp.eql 38 (.slice none 0 0) (.slice none 0 0)).run Tryz.prog w = .ok (.bool true) w := by kernel_rfl
theorem cloneL_c (v : Value) (n : Nat) (xs : List Value) (h1 : ∀ u ∈ xs, u.oneCell' = true) (h2 : n <= 1000000000) (w : World) (ho : w.ownsRow 0 56 9 v n xs) (hn : v = .slice none 0 0 \/ 1 <= n) :
  Calls Tryz.prog 82 #[v] w fun e w' => ∃ v', e = .returned v' /\ w'.ownsRow w.heap.size 56 9 v' n xs /\ Ext w w' := by
 obtain ⟨i0, hi, hz0, hz1, hz2⟩ := info_parts infoLease
 rcases owns_form ho with ⟨rfl, rfl, rfl⟩ | ⟨b, cap, rfl, _, _, _⟩
 ·have hq := eqNilL0 w
  clear ho hn
  go_enter Tryz.func82, Tryz.ntmps82
  go_wp2
  all_goals go_ret
  all_goals exact ⟨_, rfl, World.ownsRow_nil _ _ _ _, Ext.refl _⟩
 ·have hn1 : 1 <= n := by
   rcases hn with h | h
   ·simp at h
   ·exact h
  have HO : Hid (w.ownsRow 0 56 9 (.slice (some ⟨b, 0, none⟩) n cap) n xs) := ho
  have HOne : Hid _ := h1
  have hq := eqNilL b 0 n cap w
  clear ho hn h1
  go_enter Tryz.func82, Tryz.ntmps82
  go_wp2_with (at_builtin; refine wpList_append_own _ rfl _ _ 38 rfl w.heap.size 56 i0 _ 9 72 Tryz.underlying38 hi hz0 hz1 hz2 rfl (by decide) _ _ _ rfl (World.ownsRow_lit (base := w.heap.size) w #[] 0 (Nat.le_refl _) (by decide) rfl) ⟨b, 0, none⟩ n cap xs rfl HO.out.1 ?c1 ?c2 ?c3 ?c4 ?c5 ?_)
  case c1 =>
   intro j u hu
   rw [addr_add', Nat.zero_add]
   exact ((Ext.refl w).alloc _).cell (owns_cell HO.out hu)
  case c2 => exact HOne.out
  case c3 => unfold maxLen; omega
  case c4 => omega
  case c5 => simp
  intro v' w1 hown hgrow _
  go_wp2
  go_ret
  refine ⟨_, rfl, by simpa using hown, Ext.grown ((Ext.refl w).alloc _) hgrow (fun k hk => ?_)⟩
  simp [lH] at hk
  omega
theorem eqNilO (b off n cap : Nat) (w : World) : (binOp BinOp.eql 69 (.slice (some ⟨b, off, none⟩) n cap) (.slice none 0 0)).run Tryz.prog w = .ok (.bool false) w := by kernel_rfl
theorem eqNilO0 (w : World) : (binOp BinOp.eql 69 (.slice none 0 0) (.slice none 0 0)).run Tryz.prog w = .ok (.bool true) w := by kernel_rfl
theorem cloneO_c (v : Value) (n : Nat) (xs : List Value) (h1 : ∀ u ∈ xs, u.oneCell' = true) (h2 : n <= 1000000000) (w : World) (ho : w.ownsRow 0 134 4 v n xs) (hn : v = .slice none 0 0 \/ 1 <= n) :
  Calls Tryz.prog 134 #[v] w fun e w' => ∃ v', e = .returned v' /\ w'.ownsRow w.heap.size 134 4 v' n xs /\ Ext w w' := by
 obtain ⟨i0, hi, hz0, hz1, hz2⟩ := info_parts infoOp
 rcases owns_form ho with ⟨rfl, rfl, rfl⟩ | ⟨b, cap, rfl, _, _, _⟩
 ·have hq := eqNilO0 w
  clear ho hn
  go_enter Tryz.func134, Tryz.ntmps134
  go_wp2
  all_goals go_ret
  all_goals exact ⟨_, rfl, World.ownsRow_nil _ _ _ _, Ext.refl _⟩
 ·have hn1 : 1 <= n := by
   rcases hn with h | h
   ·simp at h
   ·exact h
  have HO : Hid (w.ownsRow 0 134 4 (.slice (some ⟨b, 0, none⟩) n cap) n xs) := ho
  have HOne : Hid _ := h1
  have hq := eqNilO b 0 n cap w
  clear ho hn h1
  go_enter Tryz.func134, Tryz.ntmps134
  go_wp2_with (at_builtin; refine wpList_append_own _ rfl _ _ 69 rfl w.heap.size 134 i0 _ 4 56 Tryz.underlying69 hi hz0 hz1 hz2 rfl (by decide) _ _ _ rfl (World.ownsRow_lit (base := w.heap.size) w #[] 0 (Nat.le_refl _) (by decide) rfl) ⟨b, 0, none⟩ n cap xs rfl HO.out.1 ?c1 ?c2 ?c3 ?c4 ?c5 ?_)
  case c1 =>
   intro j u hu
   rw [addr_add', Nat.zero_add]
   exact ((Ext.refl w).alloc _).cell (owns_cell HO.out hu)
  case c2 => exact HOne.out
  case c3 => unfold maxLen; omega
  case c4 => omega
  case c5 => simp
  intro v' w1 hown hgrow _
  go_wp2
  go_ret
  refine ⟨_, rfl, by simpa using hown, Ext.grown ((Ext.refl w).alloc _) hgrow (fun k hk => ?_)⟩
  simp [lH] at hk
  omega
section
variable {B : Nat} {F : Nat -> Prop} {sv lv dv : Value} {R : List StkR} {ls : List LsV} {ops : List OpV} {fl : Bool} {ah : Int} {kn : Bool}
theorem storeLeases_c (hls : ls.length <= 1000) (w : World) (h : StoreOf w B F sv lv dv R ls ops fl ah kn) :
  Calls Tryz.prog 49 #[.pointer (some ⟨B, 0, none⟩)] w fun e w' => ∃ v', e = .returned v' /\ w'.ownsRow w.heap.size 56 9 v' ls.length (lsCells ls) /\ Ext w w' := by
 have HC : Hid (∀ w', Ext w w' -> _) := fun w' hx => cloneL_c lv ls.length (lsCells ls) (ls_one ls) (by omega) w' (hx.owns h.lrow) h.lnil
 obtain ⟨_, c1, _⟩ := h.deal.cells
 have hB := h.deal.lt
 clear h
 go_enter Tryz.func49, Tryz.ntmps49
 go_wp2_with fail
 refine (HC.out _ (Ext.refl _)).mono ?_
 rintro e w1 ⟨v', rfl, ho, hx⟩
 have HQ : Hid _ := And.intro ho hx
 clear ho hx
 go_wp2
 go_ret
 exact ⟨_, rfl, HQ.out.1, HQ.out.2⟩
theorem dealerLeases_c (hls : ls.length <= 1000) (w : World) (h : StoreOf w B F sv lv dv R ls ops fl ah kn) :
  Calls Tryz.prog 15 #[.pointer (some ⟨B, 0, none⟩)] w fun e w' => ∃ v', e = .returned v' /\ w'.ownsRow w.heap.size 56 9 v' ls.length (lsCells ls) /\ Ext w w' := by
 have HC : Hid (∀ w', Ext w w' -> _) := fun w' hx => storeLeases_c hls w' (h.ext hx)
 clear h
 go_enter Tryz.func15, Tryz.ntmps15
 go_wp2_with fail
 refine (HC.out _ (Ext.refl _)).mono ?_
 rintro e w1 ⟨v', rfl, ho, hx⟩
 have HQ : Hid _ := And.intro ho hx
 clear ho hx
 go_wp2
 go_ret
 exact ⟨_, rfl, HQ.out.1, HQ.out.2⟩
theorem diskDone_c (hls : ops.length <= 1000000) (w : World) (h : StoreOf w B F sv lv dv R ls ops fl ah kn) :
  Calls Tryz.prog 93 #[.pointer (some ⟨B, 2, none⟩)] w fun e w' => ∃ v', e = .returned v' /\ w'.ownsRow w.heap.size 134 4 v' ops.length (opCells ops) /\ Ext w w' := by
 have HC : Hid (∀ w', Ext w w' -> _) := fun w' hx => cloneO_c dv ops.length (opCells ops) (op_one ops) (by omega) w' (hx.owns h.orow) h.dnil
 obtain ⟨_, _, c2, _⟩ := h.deal.cells
 have hB := h.deal.lt
 clear h
 go_enter Tryz.func93, Tryz.ntmps93
 go_wp2_with fail
 refine (HC.out _ (Ext.refl _)).mono ?_
 rintro e w1 ⟨v', rfl, ho, hx⟩
 have HQ : Hid _ := And.intro ho hx
 clear ho hx
 go_wp2
 go_ret
 exact ⟨_, rfl, HQ.out.1, HQ.out.2⟩
theorem storeDisk_c (hls : ops.length <= 1000000) (w : World) (h : StoreOf w B F sv lv dv R ls ops fl ah kn) :
  Calls Tryz.prog 62 #[.pointer (some ⟨B, 0, none⟩)] w fun e w' => ∃ v', e = .returned v' /\ w'.ownsRow w.heap.size 134 4 v' ops.length (opCells ops) /\ Ext w w' := by
 have HC : Hid (∀ w', Ext w w' -> _) := fun w' hx => diskDone_c hls w' (h.ext hx)
 clear h
 go_enter Tryz.func62, Tryz.ntmps62
 go_wp2_with fail
 refine (HC.out _ (Ext.refl _)).mono ?_
 rintro e w1 ⟨v', rfl, ho, hx⟩
 have HQ : Hid _ := And.intro ho hx
 clear ho hx
 go_wp2
 go_ret
 exact ⟨_, rfl, HQ.out.1, HQ.out.2⟩
theorem dealerDisk_c (hls : ops.length <= 1000000) (w : World) (h : StoreOf w B F sv lv dv R ls ops fl ah kn) :
  Calls Tryz.prog 29 #[.pointer (some ⟨B, 0, none⟩)] w fun e w' => ∃ v', e = .returned v' /\ w'.ownsRow w.heap.size 134 4 v' ops.length (opCells ops) /\ Ext w w' := by
 have HC : Hid (∀ w', Ext w w' -> _) := fun w' hx => storeDisk_c hls w' (h.ext hx)
 clear h
 go_enter Tryz.func29, Tryz.ntmps29
 go_wp2_with fail
 refine (HC.out _ (Ext.refl _)).mono ?_
 rintro e w1 ⟨v', rfl, ho, hx⟩
 have HQ : Hid _ := And.intro ho hx
 clear ho hx
 go_wp2
 go_ret
 exact ⟨_, rfl, HQ.out.1, HQ.out.2⟩
end
end
-- GCs
section
set_option maxRecDepth 100000
open Go.RowKit Go.Maps
def Stk.told (x : Stk) : List Value := [.int .i64 x.kd, .int .i64 x.m, .int .i64 x.k, .int .i64 x.n, .int .i64 x.ts.length, .int .i64 x.leased, .int .i64 (x.ts.filter (·.2)).length]
section
variable {B : Nat} {F : Nat -> Prop} {sv lv dv : Value} {R : List StkR} {ls : List LsV} {ops : List OpV} {fl : Bool} {ah : Int} {kn : Bool}
theorem dealerRefill_c (kd m k n : Int) (a : Option Addr) (len cap B : Nat) (F : Nat -> Prop) (w : World) (hF : ∀ b, F b -> b < w.heap.size) (P : World -> World -> Int -> Prop) (htn : ∀ w1 w2 c, P w1 w2 c -> Turn F w1 w2) (hst : ∀ w1 w2 w3 c, Ext w1 w2 -> P w2 w3 c -> P w1 w3 c) (hin : ∀ w', Ext w w' -> Calls Tryz.prog 65 #[.pointer (some ⟨B, 0, none⟩), clsV kd m k n, .slice a len cap] w' fun e w'' => ∃ c, e = .returned (.int .i64 c) /\ P w' w'' c) :
  Calls Tryz.prog 34 #[.pointer (some ⟨B, 0, none⟩), clsV kd m k n, .slice a len cap] w fun e w' => ∃ c, e = .returned (.int .i64 c) /\ P w w' c := by
 have HC : Hid (∀ w', Ext w w' -> _) := hin
 have HS : Hid _ := hst
 have HT : Hid _ := htn
 have HFl : Hid (∀ b, F b -> b < w.heap.size) := hF
 clear hin hst htn hF
 unfold clsV at *
 go_enter Tryz.func34, Tryz.ntmps34
 go_wp2_with fail
 have hcl := four_in (Ext.refl (w.alloc (.cells #[.int .i64 kd, .int .i64 m, .int .i64 k, .int .i64 n] 49)))
 have hX0 : Ext w (w.alloc (.cells #[.int .i64 kd, .int .i64 m, .int .i64 k, .int .i64 n] 49)) := (Ext.refl w).alloc _
 generalize World.alloc w _ = W at hcl hX0 ⊢
 obtain ⟨d0, d1, d2, d3⟩ := hcl
 have HX0 : Hid (Ext w W) := hX0
 clear hX0
 go_region_held3 (fun w' => w'.cell? ⟨w.heap.size, 0, none⟩ = some (.int .i64 kd) /\ w'.cell? ⟨w.heap.size, 1, none⟩ = some (.int .i64 m) /\ w'.cell? ⟨w.heap.size, 2, none⟩ = some (.int .i64 k) /\ w'.cell? ⟨w.heap.size, 3, none⟩ = some (.int .i64 n))
  (first | exact ⟨d0, d1, d2, d3⟩ | exact S1)
  (first
    | (go_at_call 65
       refine (HC.out _ (Ext.drew HX0.out)).mono ?_
       rintro e w1 ⟨cd, rfl, hp⟩
       have q4 := HT.out _ _ _ hp
       have hnF : ¬ F w.heap.size := fun e => by have := HFl.out _ e; omega
       have S1 : w1.cell? ⟨w.heap.size, 0, none⟩ = some (.int .i64 kd) /\ w1.cell? ⟨w.heap.size, 1, none⟩ = some (.int .i64 m) /\ w1.cell? ⟨w.heap.size, 2, none⟩ = some (.int .i64 k) /\ w1.cell? ⟨w.heap.size, 3, none⟩ = some (.int .i64 n) := ⟨q4.cell d0 hnF, q4.cell d1 hnF, q4.cell d2 hnF, q4.cell d3 hnF⟩))
 have HQ : Hid _ := hp
 clear hp q4 S1
 go_wp2
 go_ret
 exact ⟨cd, rfl, HS.out _ _ _ _ (Ext.drew HX0.out) HQ.out⟩
end
end
-- HRf
section
open Go.RowKit Go.Maps
theorem isCls_0 (m k n : Int) : isCls 0 m k n = (decide (m = 1) && (decide (k = 1) && decide (n = 1))) := rfl
theorem isCls_1 (m k n : Int) : isCls 1 m k n = ((decide (1 <= m) && decide (m <= 3)) && ((decide (1 <= k) && decide (k <= 3)) && (decide (1 <= n) && decide (n <= 3)))) := rfl
theorem isCls_2 (m k n : Int) : isCls 2 m k n = ((decide (1 <= m) && decide (m <= 3)) && (decide (k = 1) && decide (n = 1))) := rfl
theorem isCls_no {kd : Int} (m k n : Int) (h0 : kd ≠ 0) (h1 : kd ≠ 1) (h2 : kd ≠ 2) : isCls kd m k n = false := by simp [isCls, h0, h1, h2]
theorem sizes3 {a b c a' b' c' : Int} (h1 : a = a') (h2 : b = b') (h3 : c = c') : Ending.returned (.tuple #[.int .i64 a, .int .i64 b, .int .i64 c]) = .returned (.tuple #[.int .i64 a', .int .i64 b', .int .i64 c']) := by rw [h1, h2, h3]
end
-- HRw
section
open Go.RowKit Go.Maps
def RowIs (w : World) (G : Nat -> Prop) (v : Value) (n : Nat) (xs : List Value) : Prop :=
 (v = .slice none 0 0 /\ n = 0) \/ ∃ g cap, v = .slice (some ⟨g, 0, none⟩) n cap /\ n <= cap /\ G g /\ (∀ i u, xs[i]? = some u -> w.cell? ⟨g, i, none⟩ = some u) /\ 1 <= n
theorem RowIs.turn {S G : Nat -> Prop} {w w' : World} {v : Value} {n : Nat} {xs : List Value} (h : RowIs w G v n xs) (ht : Turn S w w') (hs : ∀ b, G b -> ¬ S b) : RowIs w' G v n xs := by
 rcases h with h | ⟨g, cap, h1, h2, h3, h4, h5⟩
 ·exact .inl h
 ·exact .inr ⟨g, cap, h1, h2, h3, fun i u hu => ht.cell (h4 i u hu) (hs _ h3), h5⟩
theorem RowIs.mono {G G' : Nat -> Prop} {w : World} {v : Value} {n : Nat} {xs : List Value} (h : RowIs w G v n xs) (hg : ∀ b, G b -> G' b) : RowIs w G' v n xs := by
 rcases h with h | ⟨g, cap, h1, h2, h3, h4⟩
 ·exact .inl h
 ·exact .inr ⟨g, cap, h1, h2, hg _ h3, h4⟩
def DrawsIs (w : World) (G : Nat -> Prop) (E : Nat) (v : Value) (D : List Int) : Prop := ∃ b cap, v = .slice (some ⟨b, 0, none⟩) E cap /\ E <= cap /\ WordsAt w b 0 D /\ G b
def Stk.each (x : Stk) : Nat := x.sh.x + x.sh.y + (x.sh.x + x.sh.y + x.sh.z)
def Stk.gone (x : Stk) : Nat := (x.ts.filter (fun t => !t.2)).length
def RefStk (w : World) (G : Nat -> Prop) (x : Stk) (cs : List Value) : Prop :=
 ∃ tv vs, cs = [.int .i64 x.kd, .int .i64 x.m, .int .i64 x.k, .int .i64 x.n, tv, .int .i64 x.leased, .int .i64 x.gone] /\ RowIs w G tv x.ts.length vs /\ vs.length = x.ts.length /\ ∀ i (h : i < x.ts.length), ∃ v, vs[i]? = some v /\ DrawsIs w G x.each v x.ts[i].1
def RefAt (w : World) (G : Nat -> Prop) (p : Nat) (S : List Stk) (ls : List LsV) : Prop :=
 ∃ (stv lsv : Value) (css : List (List Value)), w.heap[p]? = some (.cells #[stv, lsv] 98 (0, 0)) /\ G p /\ RowIs w G stv S.length css.flatten /\ css.length = S.length /\ (∀ i (h : i < S.length), ∃ cs, css[i]? = some cs /\ RefStk w G S[i] cs) /\ RowIs w G lsv ls.length (lsCells ls)
theorem DrawsIs.turn {S G : Nat -> Prop} {w w' : World} {E : Nat} {v : Value} {D : List Int} (h : DrawsIs w G E v D) (ht : Turn S w w') (hs : ∀ b, G b -> ¬ S b) : DrawsIs w' G E v D := by
 obtain ⟨b, cap, h1, h2, h3, h4⟩ := h
 exact ⟨b, cap, h1, h2, h3.turn ht (hs _ h4), h4⟩
theorem DrawsIs.mono {G G' : Nat -> Prop} {w : World} {E : Nat} {v : Value} {D : List Int} (h : DrawsIs w G E v D) (hg : ∀ b, G b -> G' b) : DrawsIs w G' E v D := by
 obtain ⟨b, cap, h1, h2, h3, h4⟩ := h
 exact ⟨b, cap, h1, h2, h3, hg _ h4⟩
theorem RefStk.turn {S G : Nat -> Prop} {w w' : World} {x : Stk} {cs : List Value} (h : RefStk w G x cs) (ht : Turn S w w') (hs : ∀ b, G b -> ¬ S b) : RefStk w' G x cs := by
 obtain ⟨tv, vs, h1, h2, h3, h4⟩ := h
 exact ⟨tv, vs, h1, h2.turn ht hs, h3, fun i hi => let ⟨v, k1, k2⟩ := h4 i hi; ⟨v, k1, k2.turn ht hs⟩⟩
theorem RefStk.mono {G G' : Nat -> Prop} {w : World} {x : Stk} {cs : List Value} (h : RefStk w G x cs) (hg : ∀ b, G b -> G' b) : RefStk w G' x cs := by
 obtain ⟨tv, vs, h1, h2, h3, h4⟩ := h
 exact ⟨tv, vs, h1, h2.mono hg, h3, fun i hi => let ⟨v, k1, k2⟩ := h4 i hi; ⟨v, k1, k2.mono hg⟩⟩
theorem RefAt.turn {Sp G : Nat -> Prop} {w w' : World} {p : Nat} {S : List Stk} {ls : List LsV} (h : RefAt w G p S ls) (ht : Turn Sp w w') (hs : ∀ b, G b -> ¬ Sp b) : RefAt w' G p S ls := by
 obtain ⟨stv, lsv, css, h1, h2, h3, h4, h5, h6⟩ := h
 exact ⟨stv, lsv, css, ht.ref h1 (hs _ h2), h2, h3.turn ht hs, h4, fun i hi => let ⟨cs, k1, k2⟩ := h5 i hi; ⟨cs, k1, k2.turn ht hs⟩, h6.turn ht hs⟩
theorem RefAt.ext {G : Nat -> Prop} {w w' : World} {p : Nat} {S : List Stk} {ls : List LsV} (h : RefAt w G p S ls) (hx : Ext w w') : RefAt w' G p S ls :=
 h.turn (Sp := fun _ => False) (Turn.of_ext hx) (fun _ _ => id)
end
-- HRl
section
open Go.RowKit Go.Maps
end
-- HRh
section
open Go.RowKit Go.Maps
def holdsP (ss kd m k n num : Int) (l : LsV) : Bool := l.s == ss && ((l.kd == kd && (l.m == m && (l.k == k && l.n == n))) && (!l.r && (decide (l.f <= num) && decide (num < l.f + l.c))))
end
-- HRc
section
open Go.RowKit Go.Maps
end
-- HRm
section
open Go.RowKit Go.Maps
theorem RowIs.one {w : World} {G : Nat -> Prop} {v : Value} {n : Nat} {xs : List Value} (h : RowIs w G v n xs) : v.oneCell' = true := by
 rcases h with ⟨rfl, _⟩ | ⟨g, cap, rfl, _⟩ <;> rfl
end
-- HRr
section
open Go.RowKit Go.Maps
end
-- HRs
section
open Go.RowKit Go.Maps
end
-- HLg
section
open Go.RowKit Go.Maps
theorem RowIs.slice {w : World} {G : Nat -> Prop} {v : Value} {n : Nat} {xs : List Value} (h : RowIs w G v n xs) : ∃ a cap, v = .slice a n cap := by
 rcases h with ⟨rfl, rfl⟩ | ⟨g, cap, rfl, _⟩
 ·exact ⟨none, 0, rfl⟩
 ·exact ⟨_, _, rfl⟩
end
-- HLn
section
open Go.RowKit Go.Maps
def leaseCodeS (S : List Stk) (ls : List LsV) (kd m k n c : Int) : Int := match S.find? (fun x => x.is kd m k n) with
 | none => 2
 | some x => if c < 1 \/ 40 < c then 5 else if (x.ts.length : Int) - x.leased < c then 7 else if 30 <= ls.length then 4 else 0
theorem leaseCode_abs (R : List StkR) (ls : List LsV) (kd m k n c : Int) : leaseCode R ls kd m k n c = leaseCodeS (R.map StkR.abs) ls kd m k n c := by
 unfold leaseCode leaseCodeS
 rw [List.find?_map]
 show (match R.find? (fun x => x.is kd m k n) with | none => _ | some x => _) = (match Option.map StkR.abs (R.find? fun x => x.is kd m k n) with | none => _ | some x => _)
 cases R.find? (fun x => x.is kd m k n) <;> rfl
end
-- HLy
section
open Go.RowKit Go.Maps
def Stk.lend (x : Stk) (c : Nat) : Stk := { x with leased := x.leased + c }
end
-- HPr
section
open Go.RowKit Go.Maps
theorem u64w (x : Int) : 0 <= IntKind.u64.wrap x /\ IntKind.u64.wrap x <= 18446744073709551615 := by rw [IntKind.wrap_u64]; omega
def ProdAt (A B : List Int) (k n MN i q : Nat) (D : List Int) : Prop :=
 D.length = MN /\ (∀ j, j < i -> D.getD j 0 = dotN false A B k n (j / n) (j % n) k) /\ D.getD i 0 = dotN false A B k n (i / n) (i % n) q /\ ∀ j, i < j -> D.getD j 0 = 0
theorem ProdAt.next {A B : List Int} {k n MN i : Nat} {D : List Int} (h : ProdAt A B k n MN i k D) : ProdAt A B k n MN (i + 1) 0 D := by
 obtain ⟨h1, h2, h3, h4⟩ := h
 refine ⟨h1, fun j hj => ?_, ?_, fun j hj => h4 j (by omega)⟩
 ·rcases Nat.lt_or_eq_of_le (Nat.le_of_lt_succ hj) with h | h
  ·exact h2 j h
  ·rw [h, h3]
 ·rw [h4 (i + 1) (by omega)]; rfl
theorem ProdAt.step {A B : List Int} {k n MN i q : Nat} {D : List Int} (h : ProdAt A B k n MN i q D) (hi : i < MN) : ProdAt A B k n MN i (q + 1) (D.set i (plusN false (D.getD i 0) (timesN false (A.getD (i / n * k + q) 0) (B.getD (q * n + i % n) 0)))) := by
 obtain ⟨h1, h2, h3, h4⟩ := h
 have hne : ∀ j v, j ≠ i -> (D.set i v).getD j 0 = D.getD j 0 := fun j v hj => by
  simp [List.getD_eq_getElem?_getD, Ne.symm hj]
 refine ⟨by simp [h1], fun j hj => ?_, ?_, fun j hj => ?_⟩
 ·rw [hne _ _ (by omega), h2 j hj]
 ·rw [h3]
  simp [List.getD_eq_getElem?_getD, h1, hi, dotN]
 ·rw [hne _ _ (by omega), h4 j hj]
def prodW (A B : List Int) (k n MN : Nat) : List Int := (List.range MN).map fun i => dotN false A B k n (i / n) (i % n) k
theorem ProdAt.done {A B : List Int} {k n MN : Nat} {D : List Int} (h : ProdAt A B k n MN MN 0 D) : D = prodW A B k n MN := by
 obtain ⟨h1, h2, _, _⟩ := h
 apply List.ext_getElem?
 intro j
 by_cases hj : j < MN
 ·have := h2 j hj
  rw [List.getD_eq_getElem?_getD, List.getElem?_eq_getElem (by omega), Option.getD_some] at this
  rw [List.getElem?_eq_getElem (by omega), this]
  simp [prodW, hj]
 ·rw [List.getElem?_eq_none (by omega), List.getElem?_eq_none (by simp [prodW]; omega)]
def prodB (A B : List Int) : List Int := List.zipWith (bits .and .u64) A B
def AndAt (A B : List Int) (M i : Nat) (D : List Int) : Prop := D.length = M /\ ∀ j, j < i -> D.getD j 0 = bits .and .u64 (A.getD j 0) (B.getD j 0)
theorem AndAt.step {A B : List Int} {M i : Nat} {D : List Int} (h : AndAt A B M i D) (hi : i < M) : AndAt A B M (i + 1) (D.set i (bits .and .u64 (A.getD i 0) (B.getD i 0))) := by
 obtain ⟨h1, h2⟩ := h
 refine ⟨by simp [h1], fun j hj => ?_⟩
 by_cases hji : j = i
 ·subst hji
  simp [List.getD_eq_getElem?_getD, h1, hi]
 ·rw [<- h2 j (by omega)]
  simp [List.getD_eq_getElem?_getD, Ne.symm hji]
theorem AndAt.done {A B : List Int} {M : Nat} {D : List Int} (hA : A.length = M) (hB : B.length = M) (h : AndAt A B M M D) : D = prodB A B := by
 obtain ⟨h1, h2⟩ := h
 apply List.ext_getElem (by simp [prodB, h1, hA, hB])
 intro j hj1 hj2
 have := h2 j (by omega)
 rw [List.getD_eq_getElem?_getD, List.getElem?_eq_getElem hj1, Option.getD_some] at this
 rw [this]
 simp [prodB, List.getD_eq_getElem?_getD, List.getElem?_eq_getElem (show j < A.length by omega), List.getElem?_eq_getElem (show j < B.length by omega)]
theorem wrap_bv (a : BitVec 64) : IntKind.u64.wrap (a.toNat : Int) = a.toNat := by
 rw [IntKind.wrap_u64]; have := a.isLt; omega
theorem bits_xor (x y : Int) : bits .xor .u64 x y = ((BitVec.ofInt 64 x ^^^ BitVec.ofInt 64 y).toNat : Int) := wrap_bv _
theorem bv_range (a : BitVec 64) : 0 <= (a.toNat : Int) /\ (a.toNat : Int) <= 18446744073709551615 := by have := a.isLt; omega
theorem minus_range (bt : Bool) (x y : Int) : 0 <= minusN bt x y /\ minusN bt x y <= 18446744073709551615 := by
 cases bt
 ·exact u64w _
 ·show 0 <= bits .xor .u64 x y /\ _; rw [show minusN true x y = bits .xor .u64 x y from rfl, bits_xor]; exact bv_range _
theorem inU64.take {D : List Int} (h : inU64 D) (n : Nat) : inU64 (D.take n) := fun z hz => h z (List.mem_of_mem_take hz)
theorem inU64.drop {D : List Int} (h : inU64 D) (n : Nat) : inU64 (D.drop n) := fun z hz => h z (List.mem_of_mem_drop hz)
theorem part0_in (s : Sh) {D : List Int} (h : inU64 D) : inU64 (part0 s D) := h.drop _
theorem part1_in (s : Sh) (D : List Int) : inU64 (part1 s D) := fun z hz => by
 rw [part1] at hz
 obtain ⟨i, h, rfl⟩ := List.getElem_of_mem hz
 rw [List.getElem_zipWith]
 exact minus_range _ _ _
end
-- HPw
section
open Go.RowKit Go.Maps
end
-- HSh
section
open Go.RowKit Go.Maps
def MinAt (bt : Bool) (W P : List Int) (L i : Nat) (D : List Int) : Prop := D.length = L /\ (∀ j, j < i -> D.getD j 0 = minusN bt (W.getD j 0) (P.getD j 0)) /\ ∀ j, i <= j -> D.getD j 0 = W.getD j 0
theorem MinAt.step {bt : Bool} {W P : List Int} {L i : Nat} {D : List Int} (h : MinAt bt W P L i D) (hi : i < L) : MinAt bt W P L (i + 1) (D.set i (minusN bt (D.getD i 0) (P.getD i 0))) := by
 obtain ⟨h1, h2, h3⟩ := h
 have hne : ∀ j v, j ≠ i -> (D.set i v).getD j 0 = D.getD j 0 := fun j v hj => by
  simp [List.getD_eq_getElem?_getD, Ne.symm hj]
 refine ⟨by simp [h1], fun j hj => ?_, fun j hj => ?_⟩
 ·by_cases hji : j = i
  ·subst hji
   rw [h3 j (Nat.le_refl _)]
   simp [List.getD_eq_getElem?_getD, h1, hi]
  ·rw [hne _ _ hji, h2 j (by omega)]
 ·rw [hne _ _ (by omega), h3 j (by omega)]
theorem MinAt.done {bt : Bool} {W P : List Int} {L : Nat} {D : List Int} (hW : W.length = L) (hP : P.length = L) (h : MinAt bt W P L L D) : D = List.zipWith (minusN bt) W P := by
 obtain ⟨h1, h2, _⟩ := h
 apply List.ext_getElem (by simp [h1, hW, hP])
 intro j hj1 hj2
 have := h2 j (by omega)
 rw [List.getD_eq_getElem?_getD, List.getElem?_eq_getElem hj1, Option.getD_some] at this
 rw [this]
 simp [List.getD_eq_getElem?_getD, List.getElem?_eq_getElem (show j < W.length by omega), List.getElem?_eq_getElem (show j < P.length by omega)]
end
-- JAp
section
open Go.RowKit Go.Maps
section
variable {P : Program} (w : World)
end
end
-- HCl
section
open Go.RowKit Go.Maps
end
-- HFn
section
open Go.RowKit Go.Maps
end
-- HFl
section
open Go.RowKit Go.Maps
end
-- HRe
section
open Go.RowKit Go.Maps
end
-- HRd
section
open Go.RowKit Go.Maps
def NewDraws (w : World) (base E : Nat) (v : Value) (D : List Int) : Prop := ∃ b, v = .slice (some ⟨b, 0, none⟩) E E /\ WordsU w b D /\ base <= b /\ b < w.heap.size
theorem NewDraws.turn {S : Nat -> Prop} {w w' : World} {base E : Nat} {v : Value} {D : List Int} (h : NewDraws w base E v D) (ht : Turn S w w') (hs : ∀ b cur, w.heap[b]? = some (.cells cur 146 (0, 0)) -> ¬ S b) : NewDraws w' base E v D := by
 obtain ⟨b, h1, h2, h3, h4⟩ := h
 obtain ⟨cur, hc⟩ := h2.2
 exact ⟨b, h1, h2.turn ht (hs b cur hc), h3, Nat.lt_of_lt_of_le h4 ht.size⟩
theorem NewDraws.is {w : World} {G : Nat -> Prop} {base E : Nat} {v : Value} {D : List Int} (h : NewDraws w base E v D) (hg : ∀ b, base <= b -> b < w.heap.size -> G b) : DrawsIs w G E v D := by
 obtain ⟨b, h1, h2, h3, h4⟩ := h
 exact ⟨b, E, h1, Nat.le_refl _, h2.1, hg b h3 h4⟩
end
-- Right
section
open Go.RowKit
def inB (s i ck cm cl cn f c p : Int) (z : Bool) : Bool := isNum s && (isNum i && (isNum f && (isNum c && (isByt p && (isByt ck && (isByt cm && (isByt cl && (isByt cn && z))))))))
end
-- HAk
section
open Go.RowKit Go.Maps
structure Ans where
 c : Int
 f : Int
 n : Int
 zs : List Int
 next : Option (List Stk × List LsV)
structure RefSo (G : Nat -> Prop) (A : Ans) (w w' : World) (pv v : Value) : Prop where
 row : w'.ownsRow w.heap.size 146 1 v A.zs.length (A.zs.map (Value.int .u64))
 ext : Ext w w'
 next : (A.next = none /\ pv = .pointer none) \/ ∃ S' ls' q, A.next = some (S', ls') /\ pv = .pointer (some ⟨q, 0, none⟩) /\ RefAt w' (grow G w w') q S' ls'
theorem RefAt.mono {G G' : Nat -> Prop} {w : World} {p : Nat} {S : List Stk} {ls : List LsV} (h : RefAt w G p S ls) (hg : ∀ b, G b -> G' b) : RefAt w G' p S ls := by
 obtain ⟨stv, lsv, css, h1, h2, h3, h4, h5, h6⟩ := h
 exact ⟨stv, lsv, css, h1, hg _ h2, h3.mono hg, h4, fun i hi => let ⟨cs, k1, k2⟩ := h5 i hi; ⟨cs, k1, k2.mono hg⟩, h6.mono hg⟩
theorem RefSo.step {G : Nat -> Prop} {A : Ans} {w w1 w2 : World} {pv v : Value} (h : RefSo G A w1 w2 pv v) (hx : Ext w w1) (hG : ∀ b, G b -> b < w.heap.size) {g : Nat} (hg : w.heap.size <= g) (hg1 : g < w1.heap.size) (a b c d : Value) : RefSo G A w ((((w2.setCell ⟨g, 0, none⟩ a).setCell ⟨g, 1, none⟩ b).setCell ⟨g, 2, none⟩ c).setCell ⟨g, 3, none⟩ d) pv v := by
 obtain ⟨h1, h2, h3⟩ := h
 have ht := set4' (g := g) (Ext.refl w2) a b c d
 refine ⟨owns_base (ht.owns h1 (fun q hq e => by have := (World.ownsRow.lt h1 q hq).1; omega)) hx.le, ext4 (hx.trans h2) hg a b c d, ?_⟩
 rcases h3 with h3 | ⟨S', ls', q, hn, e, hr⟩
 ·exact .inl h3
 ·refine .inr ⟨S', ls', q, hn, e, (hr.turn ht (fun b hb e => ?_)).mono (fun b hb => ?_)⟩
  ·rcases hb with hb | hb
   ·have := hG b hb; omega
   ·omega
  ·rcases hb with hb | hb
   ·exact .inl hb
   ·exact .inr ⟨Nat.le_trans hx.le hb.1, Nat.lt_of_lt_of_le hb.2 ht.size⟩
def Ans.code (c : Int) : Ans := ⟨c, 0, 0, [], none⟩
end
-- JSm
section
open Go.RowKit Go.Maps
def RdRow (w : World) (a : Option Addr) (n : Nat) (xs : List Value) : Prop := n = 0 \/ ∃ g, a = some ⟨g, 0, none⟩ /\ ∀ i u, xs[i]? = some u -> w.cell? ⟨g, i, none⟩ = some u
theorem RdRow.turn {S : Nat -> Prop} {w w' : World} {a : Option Addr} {n : Nat} {xs : List Value} (h : RdRow w a n xs) (ht : Turn S w w') (hs : ∀ g, a = some ⟨g, 0, none⟩ -> ¬ S g) : RdRow w' a n xs := by
 rcases h with h | ⟨g, e, h⟩
 ·exact .inl h
 ·exact .inr ⟨g, e, fun i u hu => ht.cell (h i u hu) (hs g e)⟩
theorem RdRow.ext {w w' : World} {a : Option Addr} {n : Nat} {xs : List Value} (h : RdRow w a n xs) (hx : Ext w w') : RdRow w' a n xs := h.turn (S := fun _ => False) (Turn.of_ext hx) (fun _ _ => id)
end
-- JHd
section
open Go.RowKit Go.Maps
def DrawsAt (w : World) (a : Option Addr) (n : Nat) (D : List Int) : Prop := n = 0 \/ ∃ b off, a = some ⟨b, off, none⟩ /\ WordsAt w b off D
theorem DrawsAt.ext {w w' : World} {a : Option Addr} {n : Nat} {D : List Int} (h : DrawsAt w a n D) (hx : Ext w w') : DrawsAt w' a n D := h.imp id (fun ⟨b, off, e, k⟩ => ⟨b, off, e, k.ext hx⟩)
end
-- JOa
section
open Go.ChangeShapes Go.WideShapes Go.ChangeAt Go.RowKit Go.Joins
theorem bulk_one {H : Type} (d : DataW H) : 1 <= Rows.uptoBulk d := by
 cases d with
 | lit l => cases l <;> simp [Rows.uptoBulk]
 | _ => simp [Rows.uptoBulk]
theorem bulk_length {H : Type} (l : List (DataW H)) : l.length <= Rows.uptoBulkAll l := by
 induction l with
 | nil => simp [Rows.uptoBulkAll]
 | cons x r ih => have := bulk_one x; simp only [Rows.uptoBulkAll, List.length_cons]; omega
theorem bulk_part {H : Type} {d : DataW H} {l : List (DataW H)} (h : d ∈ l) : Rows.uptoBulk d <= Rows.uptoBulkAll l := by
 induction l with
 | nil => cases h
 | cons x r ih =>
  simp only [Rows.uptoBulkAll]
  cases List.mem_cons.1 h with
  | inl e => subst e; omega
  | inr e => have := ih e; omega
theorem bulk_times {H : Type} (l : List (DataW H)) (k : Nat) (h : ∀ d ∈ l, k <= Rows.uptoBulk d) : k * l.length <= Rows.uptoBulkAll l := by
 induction l with
 | nil => simp
 | cons x r ih =>
  have h1 := h x (by simp)
  have h2 := ih (fun d hd => h d (by simp [hd]))
  simp only [Rows.uptoBulkAll, List.length_cons, Nat.mul_add, Nat.mul_one]
  omega
section
variable {H : Type} {enc : TypeId × Value -> H} {W : World} {base : Nat} {spare : Nat -> Bool} {held : Bool}
theorem cellsInt : Tryz.prog.cellsOf 3 = 1 := by kernel_rfl
theorem cellsU64 : Tryz.prog.cellsOf 146 = 1 := by kernel_rfl
theorem cellsWords : Tryz.prog.cellsOf 31 = 1 := by kernel_rfl
end
end
-- VUf
section
set_option maxRecDepth 100000
set_option maxHeartbeats 1600000
open Go.RowKit Go.Maps
theorem take8_step (s : ByteArray) (k : Nat) (hk : k < 8) (h : k < s.size) :
  bits BinOp.or IntKind.u64 (IntKind.u64.wrap ((be (s.data.toList.take k) : Int) * 256)) (IntKind.u64.wrap (s[k].toNat : Int)) = (be (s.data.toList.take (k + 1)) : Int) := by
 rw [take_snoc s k h, be_snoc]
 have h1 := be_take_lt s k 7 (by omega)
 have h2 := s[k].toNat_lt
 generalize be (List.take k s.data.toList) = b at *
 generalize s[k].toNat = c at *
 rw [IntKind.wrap_u64, IntKind.wrap_u64, Int.emod_eq_of_lt (by omega) (by omega), Int.emod_eq_of_lt (by omega) (by omega)]
 have e : ((b : Int) * 256) = ((b * 256 : Nat) : Int) := by omega
 rw [e, u64_or_nat _ _ (by omega) (by omega), nat_join 8 _ _ (by omega) (by omega)]
theorem take8_c (s : ByteArray) (h : s.size <= 8) (w : World) : Calls Tryz.prog 123 #[.string s] w fun e w' =>
  e = .returned (.int .u64 (be s.data.toList)) /\ w = w' := by
 go_enter Tryz.func123, Tryz.ntmps123
 go_wp2
 go_loop [3, 4, 7] (fun n _ i => ∃ k : Nat, k <= s.size /\ i = .int .i64 k /\ n = .int .u64 (be (s.data.toList.take k))) (fun _ _ i => s.size - (intOf i).toNat)
 case atStart => exact ⟨0, Nat.zero_le _, rfl, rfl⟩
 case round =>
  obtain ⟨k, hk, rfl, rfl⟩ := hrel
  by_cases hlt : k < s.size
  ·go_wp2
   go_round
   case rel => exact ⟨k + 1, by omega, by go_num, by rw [take8_step s k (by omega) hlt]⟩
   case measure => simp [intOf]; omega
  ·go_wp2
   go_ret
   exact ⟨ret_int (by rw [List.take_of_length_le (by simp; omega)]), rfl⟩
theorem sumX_c (s : ByteArray) (hs : s.size <= 1152921504606846976) (w : World) : Calls Tryz.prog 171 #[.string s] w fun e w' => e = .returned (.int .u64 (fnvI s.data.toList)) /\ w = w' := by
 go_enter Tryz.func171, Tryz.ntmps171
 go_wp2
 go_loop [3, 4, 7] (fun h _ i => ∃ k : Nat, k <= s.size /\ i = .int .i64 k /\ h = .int .u64 (fnvI (s.data.toList.take k))) (fun _ _ i => s.size - (intOf i).toNat)
 case atStart => exact ⟨0, Nat.zero_le _, rfl, rfl⟩
 case round =>
  obtain ⟨k, hk, rfl, rfl⟩ := hrel
  by_cases hlt : k < s.size
  ·have HS : Hid (fnvI (s.data.toList.take (k + 1)) = IntKind.u64.wrap (bits .xor .u64 (fnvI (s.data.toList.take k)) ((s[k]).toNat : Int) * 1099511628211)) := by
    have hl : k < s.data.toList.length := by simpa using hlt
    show fnvI (s.data.toList.take (k + 1)) = _
    rw [List.take_succ_eq_append_getElem hl, fnvI_snoc]
    rfl
   have hbw : IntKind.u64.wrap ((s[k]).toNat : Int) = ((s[k]).toNat : Int) := by rw [IntKind.wrap_u64]; have := (s[k]).toNat_lt; omega
   generalize fnvI (s.data.toList.take k) = h at *
   go_wp2
   go_round
   case rel => exact ⟨k + 1, by omega, by go_num, by rw [HS.out]⟩
   case measure => simp [intOf]; omega
  ·go_wp2
   go_ret
   exact ⟨ret_int (by rw [List.take_of_length_le (by simp; omega)]), rfl⟩
theorem ext_lo (t : ByteArray) (n : Nat) : (t.extract 0 n).data.toList = t.data.toList.take n := by
 simp [ByteArray.data_extract]
theorem ext_hi (t : ByteArray) (n : Nat) : (t.extract n t.size).data.toList = t.data.toList.drop n := by
 rw [ByteArray.data_extract, Array.toList_extract, List.extract_eq_drop_take', <- ByteArray.size_data, <- Array.length_toList]
 simp only [List.take_length]
def unframeP (l : List UInt8) : Option (List UInt8) :=
 if l.length < 12 then none else if l.length - 12 < be (l.take 4) then none else if (be ((l.take 12).drop 4) : Int) = fnvI ((l.drop 12).take (be (l.take 4))) then some ((l.drop 12).take (be (l.take 4))) else none
def unfV : Option (List UInt8) -> Value
 | none => .tuple #[.string ⟨#[]⟩, .int .i64 0]
 | some r => .tuple #[.string ⟨r.toArray⟩, .int .i64 (12 + r.length : Nat)]
theorem unframe_c (s : ByteArray) (hs : s.size <= 1152921504606846976) (w : World) : Calls Tryz.prog 125 #[.string s] w fun e w' =>
  e = .returned (unfV (unframeP s.data.toList)) /\ Ext w w' := by
 obtain ⟨U, hU⟩ : ∃ U, unframeP s.data.toList = U := ⟨_, rfl⟩
 rw [hU]
 have hsz : s.data.toList.length = s.size := by simp
 by_cases h12 : s.size < 12
 ·have HU : Hid (U = none) := by
   show U = _
   rw [<- hU]
   unfold unframeP
   rw [if_pos (by omega)]
  clear hU
  go_enter Tryz.func125, Tryz.ntmps125
  go_wp2
  go_ret2
  exact ⟨by rw [HU.out]; rfl, Ext.refl _⟩
 ·have hT0 : ∀ w, Calls Tryz.prog 123 #[.string ((s.extract 0 12).extract 0 4)] w fun e w' => e = .returned (.int .u64 (be (s.data.toList.take 4))) /\ w = w' := fun w => by
   have := take8_c ((s.extract 0 12).extract 0 4) (by simp; omega) w
   rwa [ext_lo, ext_lo, List.take_take] at this
  have hT1 : ∀ w, Calls Tryz.prog 123 #[.string ((s.extract 0 12).extract 4 12)] w fun e w' => e = .returned (.int .u64 (be ((s.data.toList.take 12).drop 4))) /\ w = w' := fun w => by
   have h1 : (s.extract 0 12).size = 12 := by simp; omega
   have := take8_c ((s.extract 0 12).extract 4 12) (by simp; omega) w
   rw [show (s.extract 0 12).extract 4 12 = (s.extract 0 12).extract 4 (s.extract 0 12).size by rw [h1]] at this ⊢
   rwa [ext_hi, ext_lo] at this
  have hnn : be (s.data.toList.take 4) < 4294967296 := by
   have h1 := be_take_lt s 4 4 (Nat.le_refl _)
   omega
  obtain ⟨rest, hrest⟩ : ∃ rest, s.extract 12 s.size = rest := ⟨_, rfl⟩
  have hrl : rest.data.toList = s.data.toList.drop 12 := by rw [<- hrest, ext_hi]
  have hrs : rest.size = s.size - 12 := by
   have h1 := congrArg List.length hrl
   simp at h1
   omega
  obtain ⟨rs, hrs'⟩ : ∃ rs, rest.size = rs := ⟨_, rfl⟩
  obtain ⟨nn, hnn'⟩ : ∃ nn, be (s.data.toList.take 4) = nn := ⟨_, rfl⟩
  have HU : Hid (U = if rs < nn then none else if (be ((s.data.toList.take 12).drop 4) : Int) = fnvI (rest.extract 0 nn).data.toList then some (rest.extract 0 nn).data.toList else none) := by
   show U = _
   rw [<- hU]
   unfold unframeP
   rw [if_neg (by omega), hnn', hsz, <- hrs, hrs', ext_lo, hrl]
  have HUl : Hid (nn <= rs -> (rest.extract 0 nn).size = nn /\ (rest.extract 0 nn).data.toList.length = nn) := fun hle => by
   have h1 : (rest.extract 0 nn).size = nn := by simp; omega
   exact ⟨h1, by rw [<- h1]; simp⟩
  have hSm : nn <= rs -> ∀ w, Calls Tryz.prog 171 #[.string (rest.extract 0 nn)] w fun e w' => e = .returned (.int .u64 (fnvI (rest.extract 0 nn).data.toList)) /\ w = w' := fun hle w => sumX_c _ (by have := (HUl.out hle).1; omega) w
  have HSm : Hid _ := hSm
  have hcv : IntKind.u64.wrap (rs : Int) = (rs : Int) := by rw [IntKind.wrap_u64]; omega
  rw [hnn'] at hT0 hnn
  have hh12 : (s.extract 0 12).size = 12 := by simp; omega
  obtain ⟨hd, hhd⟩ : ∃ hd, s.extract 0 12 = hd := ⟨_, rfl⟩
  rw [hhd] at hT0 hT1 hh12
  obtain ⟨bs, hbs⟩ : ∃ bs, be ((s.data.toList.take 12).drop 4) = bs := ⟨_, rfl⟩
  rw [hbs] at hT1 HU
  have hs12 : 12 <= s.size := by omega
  clear hrl hrs hnn' hbs hsz h12 hSm hU
  go_enter Tryz.func125, Tryz.ntmps125
  go_wp2_with fail
  go_region
  go_wp2_with fail
  refine (hT0 _).mono ?_
  rintro e w1 ⟨rfl, rfl⟩
  by_cases hle : nn <= rs
  ·have HL : Hid (nn <= rs) := hle
   have hgt : ¬ ((rs : Int) < (nn : Int)) := by omega
   have hnx := (HUl.out hle).1
   obtain ⟨rc, hrc⟩ : ∃ rc, rest.extract 0 nn = rc := ⟨_, rfl⟩
   have HSm2 : Hid (∀ w, _) := HSm.out hle
   have HUl2 := (HUl.out hle).2
   rw [hrc] at HU HSm2 hnx HUl2
   have HRL : Hid (rc.data.toList.length = nn) := HUl2
   clear HUl2 HSm HUl
   go_wp2_with fail
   refine (hT1 _).mono ?_
   rintro e w2 ⟨rfl, rfl⟩
   go_wp2_with fail
   refine (HSm2.out _).mono ?_
   rintro e w3 ⟨rfl, rfl⟩
   obtain ⟨fv, hfv⟩ : ∃ fv, fnvI rc.data.toList = fv := ⟨_, rfl⟩
   rw [hfv] at HU ⊢
   clear hfv
   by_cases hq : (bs : Int) = fv
   ·have HUn : Hid (U = some rc.data.toList) := by
     show U = _
     rw [HU.out, if_neg (by omega), if_pos hq]
    subst hq
    go_wp2
    go_ret2
    refine ⟨?_, (Ext.refl _).drew⟩
    rw [HUn.out]
    show _ = Ending.returned (.tuple #[.string ⟨rc.data.toList.toArray⟩, .int .i64 ((12 + rc.data.toList.length : Nat) : Int)])
    rw [HRL.out]
    simp
   ·have HUn : Hid (U = none) := by
     show U = _
     rw [HU.out, if_neg (by omega), if_neg hq]
    go_wp2
    go_ret2
    exact ⟨by rw [HUn.out]; rfl, (Ext.refl _).drew⟩
  ·have HUn : Hid (U = none) := by
    show _ = _
    rw [HU.out, if_pos (by omega)]
   have hgt : (rs : Int) < (nn : Int) := by omega
   go_wp2
   go_ret2
   exact ⟨by rw [HUn.out]; rfl, (Ext.refl _).drew⟩
end
-- VRd
section
set_option maxRecDepth 100000
set_option maxHeartbeats 3200000
open Go.RowKit Go.Maps
def FilesAt (w : World) (fa : Option Addr) (fs : List (ByteArray × ByteArray)) : Prop :=
 fs = [] \/ ∃ b off, fa = some ⟨b, off, none⟩ /\ ∀ i (h : i < fs.length), w.cell? ⟨b, off + i * 2, none⟩ = some (.string fs[i].1) /\ w.cell? ⟨b, off + i * 2 + 1, none⟩ = some (.string fs[i].2)
theorem FilesAt.ext {w w' : World} {fa : Option Addr} {fs : List (ByteArray × ByteArray)} (h : FilesAt w fa fs) (hx : Ext w w') : FilesAt w' fa fs := by
 rcases h with h | ⟨b, off, h1, h2⟩
 ·exact .inl h
 ·exact .inr ⟨b, off, h1, fun i hi => ⟨hx.cell (h2 i hi).1, hx.cell (h2 i hi).2⟩⟩
def fileB (fs : List (ByteArray × ByteArray)) : ByteArray := fs.foldl (fun acc f => if f.1 = sFile then f.2 else acc) ⟨#[]⟩
theorem fileB_take (fs : List (ByteArray × ByteArray)) (j : Nat) (h : j < fs.length) : fileB (fs.take (j + 1)) = if fs[j].1 = sFile then fs[j].2 else fileB (fs.take j) := by
 rw [List.take_succ_eq_append_getElem h]
 simp only [fileB, List.foldl_append]
 rfl
theorem fileB_size (fs : List (ByteArray × ByteArray)) (n : Nat) (h : ∀ f ∈ fs, f.2.size <= n) : (fileB fs).size <= n := by
 have key : ∀ (fs : List (ByteArray × ByteArray)) (a : ByteArray), a.size <= n -> (∀ f ∈ fs, f.2.size <= n) -> (fs.foldl (fun acc f => if f.1 = sFile then f.2 else acc) a).size <= n := by
  intro fs
  induction fs with
  | nil => intro a ha _; exact ha
  | cons f t ih =>
   intro a ha hf
   refine ih _ ?_ (fun x hx => hf x (by simp [hx]))
   show (if f.1 = sFile then f.2 else a).size <= n
   split
   ·exact hf f (by simp)
   ·exact ha
 exact key fs ⟨#[]⟩ (by show 0 <= n; omega) h
theorem unframe_len {l r : List UInt8} (h : unframeP l = some r) : 12 + r.length <= l.length := by
 unfold unframeP at h
 split at h
 ·cases h
 ·rename_i h1
  split at h
  ·cases h
  ·rename_i h2
   split at h
   ·injection h with h
    rw [<- h, List.length_take, List.length_drop]
    omega
   ·cases h
def readF : Nat -> List UInt8 -> List (List UInt8)
 | 0, _ => []
 | q + 1, l => match unframeP l with
  | none => []
  | some r => r :: readF q (l.drop (12 + r.length))
def readP (l : List UInt8) : List (List UInt8) := readF (l.length + 1) l
theorem readF_any : ∀ (q q' : Nat) (l : List UInt8), l.length < q -> l.length < q' -> readF q l = readF q' l
 | 0, _, _, h, _ => absurd h (Nat.not_lt_zero _)
 | _ + 1, 0, _, _, h => absurd h (Nat.not_lt_zero _)
 | q + 1, q' + 1, l, h, h' => by
  unfold readF
  cases hu : unframeP l with
  | none => rfl
  | some r =>
   have hl := unframe_len hu
   simp only
   rw [readF_any q q' _ (by rw [List.length_drop]; omega) (by rw [List.length_drop]; omega)]
theorem readP_none {l : List UInt8} (h : unframeP l = none) : readP l = [] := by
 unfold readP readF
 rw [h]
theorem readP_some {l r : List UInt8} (h : unframeP l = some r) : readP l = r :: readP (l.drop (12 + r.length)) := by
 have hl := unframe_len h
 have e : readP l = r :: readF l.length (l.drop (12 + r.length)) := by
  unfold readP
  rw [readF, h]
 rw [e]
 unfold readP
 rw [readF_any l.length _ _ (by rw [List.length_drop]; omega) (Nat.lt_succ_self _)]
def strL (ls : List (List UInt8)) : List ByteArray := ls.map fun l => ⟨l.toArray⟩
theorem journalRead_c (fa : Option Addr) (n cap : Nat) (fs : List (ByteArray × ByteArray)) (hn : fs.length = n) (hnb : n <= 4611686018427387904) (hsz : ∀ f ∈ fs, f.2.size <= 1000000000) (w : World) (h : FilesAt w fa fs) :
  Calls Tryz.prog 89 #[.slice fa n cap] w fun e w' => ∃ v, e = .returned v /\ StrsAt w' w.heap.size v (strL (readP (fileB fs).data.toList)) /\ Ext w w' := by
 obtain ⟨i0, hi, hz0, hz1, hz2⟩ := info_parts infoStr
 have HN : Hid (fs.length = n) := hn
 have HF : Hid (FilesAt w fa fs) := h
 have HB : Hid ((fileB fs).size <= 1000000000) := fileB_size fs _ hsz
 clear hn h hsz
 go_enter Tryz.func89, Tryz.ntmps89
 go_wp2
 go_loopw [3, 11] (fun u i wr => ∃ j : Nat, j <= n /\ i = .int .i64 j /\ u = .string (fileB (fs.take j)) /\ Ext w wr) (fun _ i _ => n - (intOf i).toNat)
 case atStart => exact ⟨0, Nat.zero_le _, rfl, rfl, Ext.refl _⟩
 case round =>
  obtain ⟨j, hj, rfl, rfl, hx⟩ := hrel
  have HX : Hid (Ext w wr) := hx
  by_cases hlt : j < n
  ·have hjl : j < fs.length := by rw [HN.out]; exact hlt
   rcases HF.out with h0 | ⟨b, off, hfa, hc⟩
   ·rw [h0] at hjl; simp at hjl
   ·subst hfa
    obtain ⟨k0, k1⟩ := hc j hjl
    have k0 := hx.cell k0
    have k1 := hx.cell k1
    have hbl := lG wr _ k0
    have HT : Hid (fileB (fs.take (j + 1)) = if fs[j].1 = sFile then fs[j].2 else fileB (fs.take j)) := fileB_take fs j hjl
    clear hx hc
    by_cases he : fs[j].1 = sFile
    ·have HTT : Hid (fileB (fs.take (j + 1)) = fs[j].2) := by
      show _ = _
      rw [HT.out, if_pos he]
     rw [he] at k0
     unfold sFile at k0
     clear he
     generalize fs[j].2 = by1 at *
     go_wp2
     go_roundw
     case rel => exact ⟨j + 1, by omega, by go_num, by rw [HTT.out], HX.out.alloc _⟩
     case measure => simp [intOf]; omega
    ·have HTT : Hid (fileB (fs.take (j + 1)) = fileB (fs.take j)) := by
      show _ = _
      rw [HT.out, if_neg he]
     have he3 : (fs[j].1.toList == [115, 116, 111, 114, 101]) = false := by
      rw [Bool.eq_false_iff]
      intro hq
      apply he
      have hq2 : fs[j].1.toList = [115, 116, 111, 114, 101] := by simpa using hq
      rw [ByteArray.toList_eq] at hq2
      cases hb : fs[j].1 with
      | mk d =>
       rw [hb] at hq2
       show ByteArray.mk d = sFile
       unfold sFile
       congr 1
       exact Array.toList_inj.1 hq2
     clear he
     generalize fs[j].2 = by1 at *
     generalize fs[j].1 = by0 at *
     go_wp2
     go_roundw
     case rel => exact ⟨j + 1, by omega, by go_num, by rw [HTT.out], HX.out.alloc _⟩
     case measure => simp [intOf]; omega
  ·obtain rfl : j = n := by omega
   have hfb : fileB (fs.take j) = fileB fs := by rw [List.take_of_length_le (by rw [HN.out]; exact Nat.le_refl _)]
   rw [hfb]
   clear hfb hx
   have hwl := HX.out.le
   obtain ⟨fb, hfb⟩ : ∃ fb, fileB fs = fb := ⟨_, rfl⟩
   obtain ⟨L0, hL0⟩ : ∃ L0, readP fb.data.toList = L0 := ⟨_, rfl⟩
   have HL0 : Hid (readP fb.data.toList = L0) := hL0
   have HS0 : Hid (fb.size <= 1000000000) := by
    show _
    rw [<- hfb]
    exact HB.out
   have HFB : Hid (fileB fs = fb) := hfb
   rw [hfb]
   clear hL0 hfb
   go_wp2
   go_loopw [3, 6] (fun rest u wr => ∃ (rb : ByteArray) (rs : List (List UInt8)), rest = .string rb /\ rs ++ readP rb.data.toList = L0 /\ rs.length * 12 + rb.size <= 1000000000 /\ StrsAt wr w.heap.size u (strL rs) /\ Ext w wr) (fun rest _ _ => match rest with | .string rb => rb.size | _ => 0)
   case atStart => exact ⟨fb, [], rfl, HL0.out, by have := HS0.out; simpa using this, World.ownsRow_nil _ _ _ _, HX.out⟩
   case round =>
    clear hwl
    obtain ⟨rb, rs, rfl, hrs, hbd, ho, hx2⟩ := hrel
    have HRS : Hid (rs ++ readP rb.data.toList = L0) := hrs
    have HBD : Hid (rs.length * 12 + rb.size <= 1000000000) := hbd
    have HO : Hid (StrsAt wr w.heap.size u6 (strL rs)) := ho
    have HX2 : Hid (Ext w wr) := hx2
    have hwl := hx2.le
    have HUf : Hid (∀ w, _) := fun w => unframe_c rb (by omega) w
    have hrb : rb.size <= 1000000000 := by omega
    clear hrs ho hx2
    cases hu : unframeP rb.data.toList with
    | none =>
     rw [hu] at HUf
     unfold unfV at HUf
     have HE : Hid (L0 = rs) := by
      show L0 = rs
      rw [<- HRS.out, readP_none hu, List.append_nil]
     clear hu hbd
     go_wp2_with fail
     refine (HUf.out _).mono ?_
     rintro e w2 ⟨rfl, hx3⟩
     have HX3 : Hid (Ext wr w2) := hx3
     clear hx3
     go_wp2
     go_ret
     exact ⟨_, rfl, by rw [HFB.out, HL0.out, HE.out]; exact Ext.owns HX3.out HO.out, HX2.out.trans HX3.out⟩
    | some r =>
     rw [hu] at HUf
     simp only [unfV] at HUf
     have hul := unframe_len hu
     have hrl : rb.data.toList.length = rb.size := by simp
     have HE : Hid ((rs ++ [r]) ++ readP (rb.extract (12 + r.length) rb.size).data.toList = L0) := by
      show _ = _
      rw [<- HRS.out, readP_some hu, ext_hi]
      simp
     obtain ⟨sz, hsz⟩ : ∃ sz, 12 + r.length = sz := ⟨_, rfl⟩
     rw [hsz] at HUf HE hul
     have hsz1 : 12 <= sz := by omega
     have hle : sz <= rb.size := by omega
     have HEs : Hid ((rb.extract sz rb.size).size = rb.size - sz) := by
      show _ = _
      simp
     have hrn : (strL rs).length = rs.length := by simp [strL]
     have HRN : Hid ((strL rs).length = rs.length) := hrn
     have hbd2 : (strL rs).length * 12 <= 1000000000 := by omega
     clear hu hul hrl hsz hrn
     go_wp2_with fail
     refine (HUf.out _).mono ?_
     rintro e w2 ⟨rfl, hx3⟩
     have HX3 : Hid (Ext wr w2) := hx3
     have hw3 := hx3.le
     clear hx3
     have hz12 : ((sz : Int) == 0) = false := by simp; omega
     have hszI : (sz : Int) <= (rb.size : Int) := by omega
     go_wp2_with (at_builtin; refine wpList_append_own _ rfl _ _ 166 rfl w.heap.size 9 i0 (.string ⟨#[]⟩) 1 16 Tryz.underlying166 hi hz0 hz1 hz2 rfl (by decide) _ _ _ rfl (World.ownsRow.alloc (Ext.owns HX3.out HO.out) _) ⟨_, 0, none⟩ 1 1 [.string ⟨r.toArray⟩] rfl rfl ?c1 ?c2 ?c3 ?c4 ?c5 ?_)
     case c1 => exact cell_one_new _ _ _
     case c2 => intro u hu; simp at hu; subst hu; rfl
     case c3 => unfold maxLen; omega
     case c4 => omega
     case c5 => simp; omega
     intro v4 w4 ho4 hg4 _
     have HX4 : Hid (Ext w w4) := Ext.grown (Ext.alloc (HX2.out.trans HX3.out) _) hg4 (fun q hq => (World.ownsRow.lt HO.out q hq).1)
     have HO4 : Hid (StrsAt w4 w.heap.size v4 (strL (rs ++ [r]))) := by
      show World.ownsRow _ _ _ _ _ _ _
      rw [strL, List.map_append, List.length_append, strVs, List.map_append]
      exact ho4
     clear ho4 hg4
     go_wp2
     go_roundw
     case rel => exact ⟨rb.extract sz rb.size, rs ++ [r], rfl, HE.out, by rw [HEs.out, List.length_append]; simp; omega, HO4.out, HX4.out⟩
     case measure => simp; omega
end
end Go.Proofs.YtmnjhhachdlmkaaGreat
