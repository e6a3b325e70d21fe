import Derived.Test.YtmnjhhachdlmkaaGreatK10
namespace Go.Proofs.YtmnjhhachdlmkaaGreat
open World renaming block_lt_of_cell? -> lG
open Value renaming ownBlock -> lH
-- GTop
section
open Go.RowKit Go.Maps
def PQuiet (c0 f0 n0 : Int) (w w' : World) (c f n : Int) (v : Value) : Prop := c = c0 /\ f = f0 /\ n = n0 /\ v = .slice none 0 0 /\ Ext w w'
def PWords (f0 n0 : Int) (zs : List Int) (w w' : World) (c f n : Int) (v : Value) : Prop := c = 0 /\ f = f0 /\ n = n0 /\ w'.ownsRow w.heap.size 146 1 v zs.length (zs.map (Value.int .u64)) /\ Ext w w'
def PChange (B : Nat) (F : Nat -> Prop) (ah : Int) (ops : List OpV) (R' : List StkR) (ls' : List LsV) (f0 n0 : Int) (w w' : World) (c f n : Int) (v : Value) : Prop := c = 0 /\ f = f0 /\ n = n0 /\ v = .slice none 0 0 /\ DoPost w w' B F ah ops R' ls'
theorem quiet_ok {F : Nat -> Prop} {n0 : Nat} (hlt : ∀ b, F b -> b < n0) (c0 f0 m0 : Int) : AnsOk F n0 (PQuiet c0 f0 m0) where
 lt := hlt
 turn := fun w1 w2 c f n v h => Turn.of_ext h.2.2.2.2
 step := fun w w1 w2 w3 g c f n v _ hx h ht hg _ => ⟨h.1, h.2.1, h.2.2.1, h.2.2.2.1, Turn.ext ((Turn.of_ext (S := fun _ => False) (hx.trans h.2.2.2.2)).trans' ht (fun b hb e => by omega))⟩
theorem words_ok {F : Nat -> Prop} {n0 : Nat} (hlt : ∀ b, F b -> b < n0) (f0 m0 : Int) (zs : List Int) : AnsOk F n0 (PWords f0 m0 zs) where
 lt := hlt
 turn := fun w1 w2 c f n v h => Turn.of_ext h.2.2.2.2
 step := fun w w1 w2 w3 g c f n v _ hx h ht hg hg1 => ⟨h.1, h.2.1, h.2.2.1, owns_base (ht.owns h.2.2.2.1 (fun b hb e => by have := (World.ownsRow.lt h.2.2.2.1 b hb).1; omega)) hx.le, Turn.ext ((Turn.of_ext (S := fun _ => False) (hx.trans h.2.2.2.2)).trans' ht (fun b hb e => by omega))⟩
theorem change_ok {B : Nat} {F : Nat -> Prop} {ah : Int} {ops : List OpV} {n0 : Nat} (hlt : ∀ b, F b -> b < n0) (R' : List StkR) (ls' : List LsV) (f0 m0 : Int) : AnsOk F n0 (PChange B F ah ops R' ls' f0 m0) where
 lt := hlt
 turn := fun w1 w2 c f n v h => by obtain ⟨_, _, _, _, _, _, _, _, _, _, ht⟩ := h; exact ht
 step := fun w w1 w2 w3 g c f n v hn hx h ht hg hg1 => ⟨h.1, h.2.1, h.2.2.1, h.2.2.2.1, h.2.2.2.2.step hx ht (fun b hb => Nat.lt_of_lt_of_le (hlt b hb) hn) hg hg1⟩
theorem quiet_of {f : FuncId} {args : Array Value} {w : World} {c0 f0 n0 : Int} (h : Calls Tryz.prog f args w fun e w' => e = .returned (replyV c0 f0 n0 (.slice none 0 0)) /\ Ext w w') : Answers f args w (PQuiet c0 f0 n0) :=
 h.mono fun _ _ ⟨h1, h2⟩ => ⟨c0, f0, n0, none, 0, 0, h1, rfl, rfl, rfl, rfl, h2⟩
theorem change_of {B : Nat} {F : Nat -> Prop} {ah : Int} {ops : List OpV} {f : FuncId} {args : Array Value} {w : World} {f0 n0 : Int} {R' : List StkR} {ls' : List LsV} (h : Calls Tryz.prog f args w fun e w' => e = .returned (replyV 0 f0 n0 (.slice none 0 0)) /\ DoPost w w' B F ah ops R' ls') : Answers f args w (PChange B F ah ops R' ls' f0 n0) :=
 h.mono fun _ _ ⟨h1, h2⟩ => ⟨0, f0, n0, none, 0, 0, h1, rfl, rfl, rfl, rfl, h2⟩
section
variable {B : Nat} {F : Nat -> Prop} {sv lv dv : Value} {R : List StkR} {ls : List LsV} {ops : List OpV} {fl : Bool} {ah : Int} {kn : Bool}
/-- Bounds that a store keeps to. -/
structure Small (R : List StkR) (ls : List LsV) : Prop where
 stocks : R.length <= 100
 leases : ls.length <= 900
 made : ∀ x ∈ R, x.ts.length <= 1000 /\ x.leased <= 900
 fc : ∀ l ∈ ls, 0 <= l.f /\ l.f <= 1000 /\ 0 <= l.c /\ l.c <= 1000
/-- Lease, of one that there is. -/
theorem askLeaseSome_c (s i kd m k n c : Int) (ix : Nat) (hsm : Small R ls) (hix : ix < ls.length) (hf : ls.findIdx? (isNamed s i) = some ix) (vals : Nat -> Int) (hv : vals 0 = s /\ vals 1 = i /\ vals 2 = kd /\ vals 3 = m /\ vals 4 = k /\ vals 5 = n /\ vals 6 = c) (hfit : fitB vals leaseL = true) (w : World) (h : StoreOf w B F sv lv dv R ls ops fl ah kn) :
  Answers 20 #[.pointer (some ⟨B, 0, none⟩), reqV 1 s i kd m k n 0 c 0] w (if beforeCode ls[ix] kd m k n c then PQuiet 0 ls[ix].f ls[ix].c else PQuiet 6 0 0) := by
 have hok : AnsOk F w.heap.size (if beforeCode ls[ix] kd m k n c then PQuiet 0 ls[ix].f ls[ix].c else PQuiet 6 0 0) := by
  split
  ·exact quiet_ok h.lt _ _ _
  ·exact quiet_ok h.lt _ _ _
 obtain ⟨g, cap, rfl⟩ : ∃ g cap, lv = .slice (some ⟨g, 0, none⟩) ls.length cap := by
  rcases LeasesAt.form h.lrow with ⟨_, e⟩ | ⟨g, cap, e, _⟩
  ·rw [e] at hix; simp at hix
  ·exact ⟨g, cap, e⟩
 refine askOk_c hok B 201 (fun W rb => LeaseReq W rb s i kd m k n c) 1 s i kd m k n 0 c 0 w (Nat.le_refl _) (fun w' hx => ?_) (fun w' rb hx hrb hq => ?_)
 ·refine (check_1b s i kd m k n c vals hv w').mono ?_
  rintro e w'' (⟨_, b, he, hlb, hb, hx'⟩ | ⟨hn, _⟩)
  ·exact ⟨b, he, hlb, hb, hx'⟩
  ·rw [hfit] at hn; cases hn
 ·refine dealerLease_c hok B rb w' hx.le (fun w1 hx1 => answerLease_c hok B rb w1 (Nat.le_trans hx.le hx1.le) (fun w2 hx2 => ?_))
  have hx3 := hx.trans (hx1.trans hx2)
  have hr3 : LeaseReq w2 rb s i kd m k n c := (hx1.trans hx2).block hq
  refine storeLeaseSome_c hok B rb s i kd m k n c w2 hx3.le hr3 ⟨g, ix * 9, none⟩ (fun w' hx' => ?_) (fun w' hx' => ?_)
  ·have := named_c B ls s i sv _ dv fl ah kn w' ((hx3.trans hx').block h.deal) (h.lrow.ext (hx3.trans hx')) (by have := hsm.leases; omega)
   rwa [hf] at this
  ·have hlr := h.lrow.ext (hx3.trans hx')
   have hne : g ≠ rb := fun e => by
    have := owns_lt h.lrow (g := g) rfl
    omega
   have := leasedBefore_c g (ix * 9) rb ls[ix] s i kd m k n c w' (hx'.block hr3) hne (LeasesAt.cells hlr ix hix)
   split
   ·rename_i hb
    rw [hb] at this
    exact quiet_of this
   ·rename_i hb
    rw [Bool.not_eq_true] at hb
    rw [hb] at this
    exact quiet_of this
end
end
-- GTp2
section
open Go.RowKit Go.Maps
section
variable {B : Nat} {F : Nat -> Prop} {sv lv dv : Value} {R : List StkR} {ls : List LsV} {ops : List OpV} {fl : Bool} {ah : Int} {kn : Bool}
/-- The way of a Lease down to lease. -/
theorem askLeaseDown {Pp : World -> World -> Int -> Int -> Int -> Value -> Prop} (s i kd m k n c : Int) (vals : Nat -> Int) (hv : vals 0 = s /\ vals 1 = i /\ vals 2 = kd /\ vals 3 = m /\ vals 4 = k /\ vals 5 = n /\ vals 6 = c) (hfit : fitB vals leaseL = true) (w : World) (hok : AnsOk F w.heap.size Pp)
  (hin : ∀ w' rb, Ext w w' -> w.heap.size <= rb -> LeaseReq w' rb s i kd m k n c -> Answers 119 #[.pointer (some ⟨B, 0, none⟩), .pointer (some ⟨rb, 0, none⟩)] w' Pp) :
  Answers 20 #[.pointer (some ⟨B, 0, none⟩), reqV 1 s i kd m k n 0 c 0] w Pp := by
 refine askOk_c hok B 201 (fun W rb => LeaseReq W rb s i kd m k n c) 1 s i kd m k n 0 c 0 w (Nat.le_refl _) (fun w' hx => ?_) (fun w' rb hx hrb hq => ?_)
 ·refine (check_1b s i kd m k n c vals hv w').mono ?_
  rintro e w'' (⟨_, b, he, hlb, hb, hx'⟩ | ⟨hn, _⟩)
  ·exact ⟨b, he, hlb, hb, hx'⟩
  ·rw [hfit] at hn; cases hn
 ·exact dealerLease_c hok B rb w' hx.le (fun w1 hx1 => answerLease_c hok B rb w1 (Nat.le_trans hx.le hx1.le) (fun w2 hx2 => hin w2 rb (hx.trans (hx1.trans hx2)) hrb ((hx1.trans hx2).block hq)))
theorem askReleaseDown {Pp : World -> World -> Int -> Int -> Int -> Value -> Prop} (s i : Int) (vals : Nat -> Int) (hv : vals 0 = s /\ vals 1 = i) (hfit : fitB vals releaseL = true) (w : World) (hok : AnsOk F w.heap.size Pp)
  (hin : ∀ w' rb, Ext w w' -> w.heap.size <= rb -> ReleaseReq w' rb s i -> Answers 121 #[.pointer (some ⟨B, 0, none⟩), .pointer (some ⟨rb, 0, none⟩)] w' Pp) :
  Answers 20 #[.pointer (some ⟨B, 0, none⟩), reqV 3 s i 0 0 0 0 0 0 0] w Pp := by
 refine askOk_c hok B 205 (fun W rb => ReleaseReq W rb s i) 3 s i 0 0 0 0 0 0 0 w (Nat.le_refl _) (fun w' hx => ?_) (fun w' rb hx hrb hq => ?_)
 ·refine (check_3b s i vals hv w').mono ?_
  rintro e w'' (⟨_, b, he, hlb, hb, hx'⟩ | ⟨hn, _⟩)
  ·exact ⟨b, he, hlb, hb, hx'⟩
  ·rw [hfit] at hn; cases hn
 ·exact dealerRelease_c hok B rb w' hx.le (fun w1 hx1 => answerRelease_c hok B rb w1 (Nat.le_trans hx.le hx1.le) (fun w2 hx2 => hin w2 rb (hx.trans (hx1.trans hx2)) hrb ((hx1.trans hx2).block hq)))
theorem askStatusDown {Pp : World -> World -> Int -> Int -> Int -> Value -> Prop} (kd m k n : Int) (vals : Nat -> Int) (hv : vals 0 = kd /\ vals 1 = m /\ vals 2 = k /\ vals 3 = n) (hfit : fitB vals statusL = true) (w : World) (hok : AnsOk F w.heap.size Pp)
  (hin : ∀ w' rb, Ext w w' -> w.heap.size <= rb -> StatusReq w' rb kd m k n -> Answers 122 #[.pointer (some ⟨B, 0, none⟩), .pointer (some ⟨rb, 0, none⟩)] w' Pp) :
  Answers 20 #[.pointer (some ⟨B, 0, none⟩), reqV 4 0 0 kd m k n 0 0 0] w Pp := by
 refine askOk_c hok B 207 (fun W rb => StatusReq W rb kd m k n) 4 0 0 kd m k n 0 0 0 w (Nat.le_refl _) (fun w' hx => ?_) (fun w' rb hx hrb hq => ?_)
 ·refine (check_4b kd m k n vals hv w').mono ?_
  rintro e w'' (⟨_, b, he, hlb, hb, hx'⟩ | ⟨hn, _⟩)
  ·exact ⟨b, he, hlb, hb, hx'⟩
  ·rw [hfit] at hn; cases hn
 ·exact dealerStatus_c hok B rb w' hx.le (fun w1 hx1 => answerStatus_c hok B rb w1 (Nat.le_trans hx.le hx1.le) (fun w2 hx2 => hin w2 rb (hx.trans (hx1.trans hx2)) hrb ((hx1.trans hx2).block hq)))
theorem askFetchDown {Pp : World -> World -> Int -> Int -> Int -> Value -> Prop} (s kd m k n f c p : Int) (vals : Nat -> Int) (hv : vals 0 = s /\ vals 1 = kd /\ vals 2 = m /\ vals 3 = k /\ vals 4 = n /\ vals 5 = f /\ vals 6 = c /\ vals 7 = p) (hfit : fitB vals fetchL = true) (w : World) (hok : AnsOk F w.heap.size Pp)
  (hin : ∀ w' rb, Ext w w' -> w.heap.size <= rb -> FetchReq w' rb s kd m k n f c p -> Answers 120 #[.pointer (some ⟨B, 0, none⟩), .pointer (some ⟨rb, 0, none⟩)] w' Pp) :
  Answers 20 #[.pointer (some ⟨B, 0, none⟩), reqV 2 s 0 kd m k n f c p] w Pp := by
 refine askOk_c hok B 203 (fun W rb => FetchReq W rb s kd m k n f c p) 2 s 0 kd m k n f c p w (Nat.le_refl _) (fun w' hx => ?_) (fun w' rb hx hrb hq => ?_)
 ·refine (check_2b s kd m k n f c p vals hv w').mono ?_
  rintro e w'' (⟨_, b, he, hlb, hb, hx'⟩ | ⟨hn, _⟩)
  ·exact ⟨b, he, hlb, hb, hx'⟩
  ·rw [hfit] at hn; cases hn
 ·exact dealerFetch_c hok B rb w' hx.le (fun w1 hx1 => answerFetch_c hok B rb w1 (Nat.le_trans hx.le hx1.le) (fun w2 hx2 => hin w2 rb (hx.trans (hx1.trans hx2)) hrb ((hx1.trans hx2).block hq)))
/-- Lease, refused. -/
theorem askLeaseNo_c (s i kd m k n c : Int) (hsm : Small R ls) (hf : ls.findIdx? (isNamed s i) = none) (hcd : leaseCode R ls kd m k n c ≠ 0) (vals : Nat -> Int) (hv : vals 0 = s /\ vals 1 = i /\ vals 2 = kd /\ vals 3 = m /\ vals 4 = k /\ vals 5 = n /\ vals 6 = c) (hfit : fitB vals leaseL = true) (w : World) (h : StoreOf w B F sv lv dv R ls ops fl ah kn) :
  Answers 20 #[.pointer (some ⟨B, 0, none⟩), reqV 1 s i kd m k n 0 c 0] w (PQuiet (leaseCode R ls kd m k n c) 0 0) := by
 have hok : AnsOk F w.heap.size (PQuiet (leaseCode R ls kd m k n c) 0 0) := quiet_ok h.lt _ _ _
 refine askLeaseDown s i kd m k n c vals hv hfit w hok (fun w2 rb hx hrb hr => ?_)
 refine storeLeaseNone_c hok B rb s i kd m k n c w2 hx.le hr (fun e => by have := h.lt _ e; omega) (fun w' hx' => ?_) (fun w' hx' => ?_)
 ·have := named_c B ls s i sv lv dv fl ah kn w' ((hx.trans hx').block h.deal) (h.lrow.ext (hx.trans hx')) (by have := hsm.leases; omega)
  rwa [hf] at this
 ·exact quiet_of (doToLeaseNo_c _ rfl _ s i hcd w' (fun w3 hx3 => doLeaseNo_c rb kd m k n s i c hsm.stocks (by have := hsm.leases; omega) (fun x hx => by have := hsm.made x hx; omega) hf hcd w3 (h.ext (hx.trans (hx'.trans hx3))) ((hx'.trans hx3).block hr)))
/-- Lease, made. -/
theorem askLease_c (s i kd m k n c ix : Nat) (hsm : Small R ls) (hops : ops.length <= 1000000) (hf : ls.findIdx? (isNamed s i) = none) (hcd : leaseCode R ls kd m k n c = 0) (hix : ix < R.length) (hfx : R.find? (fun x => x.is kd m k n) = some R[ix]) (hs : s <= 2147483647) (hi : i <= 2147483647) (hk : kd <= 255 /\ m <= 255 /\ k <= 255 /\ n <= 255) (hc : c <= 100) (w : World) (h : StoreOf w B F sv lv dv R ls ops false ah true) :
  Answers 20 #[.pointer (some ⟨B, 0, none⟩), reqV 1 s i kd m k n 0 c 0] w (PChange B F ah ops (R.set ix (R[ix].lend c)) (ls ++ [⟨s, i, kd, m, k, n, R[ix].leased, c, false⟩]) R[ix].leased c) := by
 have hok : AnsOk F w.heap.size (PChange B F ah ops (R.set ix (R[ix].lend c)) (ls ++ [⟨s, i, kd, m, k, n, R[ix].leased, c, false⟩]) R[ix].leased c) := change_ok h.lt _ _ _ _
 have hfit : fitB (fun j => (leaseVals s i kd m k n c j : Int)) leaseL = true := by
  simp [fitB, leaseL, leaseVals]
  omega
 refine askLeaseDown s i kd m k n c (fun j => (leaseVals s i kd m k n c j : Int)) ⟨rfl, rfl, rfl, rfl, rfl, rfl, rfl⟩ hfit w hok (fun w2 rb hx hrb hr => ?_)
 refine storeLeaseNone_c hok B rb s i kd m k n c w2 hx.le hr (fun e => by have := h.lt _ e; omega) (fun w' hx' => ?_) (fun w' hx' => ?_)
 ·have := named_c B ls s i sv lv dv false ah true w' ((hx.trans hx').block h.deal) (h.lrow.ext (hx.trans hx')) (by have := hsm.leases; omega)
  rwa [hf] at this
 ·have hn : (ls ++ [(⟨s, i, kd, m, k, n, R[ix].leased, c, false⟩ : LsV)]).findIdx? (isNamed s i) = some ls.length := by
   rw [List.findIdx?_append, hf]
   simp [isNamed]
  have hy := doToLeaseYes_c (B := B) (F := F) (sv := sv) (lv := lv) (dv := dv) (R := R) (ls := ls) (ops := ops) (fl := false) (ah := ah) (kn := true) (.iface 233 (.agg #[.pointer (some ⟨rb, 0, none⟩)])) rfl s i (R.set ix (R[ix].lend c)) (ls ++ [⟨s, i, kd, m, k, n, R[ix].leased, c, false⟩]) ls.length (by simp) hn (by have := hsm.leases; simp; omega) w' (h.ext (hx.trans hx')) (fun w3 hx3 =>
   (doLease_c rb ix kd m k n s i c hs hi hk hc hsm.stocks (by have := hsm.leases; omega) hops (fun x hx => by have := hsm.made x hx; omega) hf hcd hix hfx w3 (h.ext (hx.trans (hx'.trans hx3))) ((hx'.trans hx3).block hr) (fun e => by have := h.lt _ e; omega)).mono fun e w4 ⟨lv', dv', new, h1, h2, h3, h4⟩ => ⟨h1, sv, lv', dv', new, h2, h3, h4⟩)
  simp only [List.getElem_concat_length] at hy
  exact change_of hy
/-- Release, refused. -/
theorem askReleaseNo_c (s i : Int) (hsm : Small R ls) (hcd : releaseCode ls s i ≠ 0) (vals : Nat -> Int) (hv : vals 0 = s /\ vals 1 = i) (hfit : fitB vals releaseL = true) (w : World) (h : StoreOf w B F sv lv dv R ls ops fl ah kn) :
  Answers 20 #[.pointer (some ⟨B, 0, none⟩), reqV 3 s i 0 0 0 0 0 0 0] w (PQuiet (releaseCode ls s i) 0 0) := by
 have hok : AnsOk F w.heap.size (PQuiet (releaseCode ls s i) 0 0) := quiet_ok h.lt _ _ _
 refine askReleaseDown s i vals hv hfit w hok (fun w2 rb hx hrb hr => ?_)
 refine storeRelease_c hok B rb s i w2 hx.le hr (fun e => by have := h.lt _ e; omega) (fun w' hx' => ?_)
 exact quiet_of (doToLeaseNo_c _ rfl _ s i hcd w' (fun w3 hx3 => doReleaseNo_c rb s i (by have := hsm.leases; omega) hcd w3 (h.ext (hx.trans (hx'.trans hx3))) ((hx'.trans hx3).block hr)))
/-- Release, done. -/
theorem askRelease_c (s i ix : Nat) (hsm : Small R ls) (hops : ops.length <= 1000000) (hcd : releaseCode ls s i = 0) (hix : ix < ls.length) (hf : ls.findIdx? (isNamed s i) = some ix) (hs : s <= 2147483647) (hi : i <= 2147483647) (w : World) (h : StoreOf w B F sv lv dv R ls ops false ah true) :
  Answers 20 #[.pointer (some ⟨B, 0, none⟩), reqV 3 s i 0 0 0 0 0 0 0] w (PChange B F ah ops R (ls.set ix ls[ix].free) ls[ix].f ls[ix].c) := by
 have hok : AnsOk F w.heap.size (PChange B F ah ops R (ls.set ix ls[ix].free) ls[ix].f ls[ix].c) := change_ok h.lt _ _ _ _
 have hfit : fitB (fun j => (releaseVals s i j : Int)) releaseL = true := by
  simp [fitB, releaseL, releaseVals]
  omega
 refine askReleaseDown s i (fun j => (releaseVals s i j : Int)) ⟨rfl, rfl⟩ hfit w hok (fun w2 rb hx hrb hr => ?_)
 refine storeRelease_c hok B rb s i w2 hx.le hr (fun e => by have := h.lt _ e; omega) (fun w' hx' => ?_)
 have hn : (ls.set ix ls[ix].free).findIdx? (isNamed s i) = some ix := by
  obtain ⟨_, h1, h2⟩ := List.findIdx?_eq_some_iff_getElem.1 hf
  rw [List.findIdx?_eq_some_iff_getElem]
  refine ⟨by simpa using hix, by simpa [isNamed, LsV.free] using h1, fun j hj => ?_⟩
  have hj' := h2 j hj
  rw [List.getElem_set_ne (by omega)]
  exact hj'
 have hy := doToLeaseYes_c (B := B) (F := F) (sv := sv) (lv := lv) (dv := dv) (R := R) (ls := ls) (ops := ops) (fl := false) (ah := ah) (kn := true) (.iface 235 (.agg #[.pointer (some ⟨rb, 0, none⟩)])) rfl s i R (ls.set ix ls[ix].free) ix (by simpa using hix) hn (by have := hsm.leases; simp; omega) w' (h.ext (hx.trans hx')) (fun w3 hx3 =>
  doRelease_c rb ix s i hs hi (by have := hsm.leases; omega) hops hcd hix hf w3 (h.ext (hx.trans (hx'.trans hx3))) ((hx'.trans hx3).block hr) (fun e => by have := h.lt _ e; omega))
 simp only [List.getElem_set_self] at hy
 exact change_of hy
/-- Status. -/
theorem askStatus_c (kd m k n : Int) (hsm : Small R ls) (vals : Nat -> Int) (hv : vals 0 = kd /\ vals 1 = m /\ vals 2 = k /\ vals 3 = n) (hfit : fitB vals statusL = true) (w : World) (h : StoreOf w B F sv lv dv R ls ops fl ah kn) :
  Answers 20 #[.pointer (some ⟨B, 0, none⟩), reqV 4 0 0 kd m k n 0 0 0] w (match R.find? (fun x => x.is kd m k n) with | none => PQuiet 2 0 0 | some x => PQuiet 0 x.leased x.ts.length) := by
 have hok : AnsOk F w.heap.size (match R.find? (fun x => x.is kd m k n) with | none => PQuiet 2 0 0 | some x => PQuiet 0 x.leased x.ts.length) := by
  split
  ·exact quiet_ok h.lt _ _ _
  ·exact quiet_ok h.lt _ _ _
 refine askStatusDown kd m k n vals hv hfit w hok (fun w2 rb hx hrb hr => ?_)
 have := storeStatus_c rb kd m k n hsm.stocks w2 (h.ext hx) hr
 cases hf : R.find? (fun x => x.is kd m k n) with
 | none =>
  rw [hf] at this
  exact quiet_of this
 | some x =>
  rw [hf] at this
  exact quiet_of this
/-- Fetch, refused. -/
theorem askFetchNo_c (s kd m k n f c p cd : Int) (hsm : Small R ls) (hcd : cd ≠ 0) (hf0 : 0 <= f) (hf1 : f <= 2147483647) (hcode : (R.find? (fun x => x.is kd m k n) = none /\ cd = 2) \/ ((R.find? (fun x => x.is kd m k n)).isSome /\ cd = fetchCode ls s kd m k n f c p)) (vals : Nat -> Int) (hv : vals 0 = s /\ vals 1 = kd /\ vals 2 = m /\ vals 3 = k /\ vals 4 = n /\ vals 5 = f /\ vals 6 = c /\ vals 7 = p) (hfit : fitB vals fetchL = true) (w : World) (h : StoreOf w B F sv lv dv R ls ops fl ah kn) :
  Answers 20 #[.pointer (some ⟨B, 0, none⟩), reqV 2 s 0 kd m k n f c p] w (PQuiet cd 0 0) := by
 have hok : AnsOk F w.heap.size (PQuiet cd 0 0) := quiet_ok h.lt _ _ _
 refine askFetchDown s kd m k n f c p vals hv hfit w hok (fun w2 rb hx hrb hr => ?_)
 refine quiet_of (storeFetchNo_c rb s kd m k n f c p cd hcd hsm.stocks w2 (h.ext hx) hr (fun w' hx' => ?_))
 rcases hcode with ⟨hn, rfl⟩ | ⟨hs, rfl⟩
 ·rw [stkPtr, hn]
  exact (mayFetchNil_c B rb w').mono fun e w'' ⟨h1, h2⟩ => ⟨h1, h2 ▸ Ext.refl _⟩
 ·obtain ⟨x, hx0⟩ := Option.isSome_iff_exists.1 hs
  rw [stkPtr, hx0]
  exact mayFetch_c rb x.blk s kd m k n f c p hf0 hf1 (by have := hsm.leases; omega) hsm.fc w' (h.ext (hx.trans hx')) (hx'.block hr)
/-- Fetch, answered. -/
theorem askFetch_c (f c L : Nat) (x : StkR) (s kd m k n p : Int) (hsm : Small R ls) (hp : p = 0 \/ p = 1) (hf1 : f <= 1000) (hc1 : 1 <= c) (hc40 : c <= 40) (hfx : R.find? (fun x => x.is kd m k n) = some x) (hL : L = x.sh.x + x.sh.y + x.sh.z) (hL1 : 1 <= L) (hL2 : L <= 27) (hcode : fetchCode ls s kd m k n f c p = 0)
  (hxk : ∀ i : Nat, i < c -> ∃ h : f + i < x.ts.length, x.ts[f + i].2 = true) (hlen : ∀ i (h : i < x.ts.length), x.ts[i].1.length = x.sh.x + x.sh.y + (x.sh.x + x.sh.y + x.sh.z)) (hlz : (fetched x.abs p f c).length = c * L) (vals : Nat -> Int) (hv : vals 0 = s /\ vals 1 = kd /\ vals 2 = m /\ vals 3 = k /\ vals 4 = n /\ vals 5 = f /\ vals 6 = c /\ vals 7 = p) (hfit : fitB vals fetchL = true) (w : World) (h : StoreOf w B F sv lv dv R ls ops fl ah kn) :
  Answers 20 #[.pointer (some ⟨B, 0, none⟩), reqV 2 s 0 kd m k n f c p] w (PWords f c (fetched x.abs p f c)) := by
 have hok : AnsOk F w.heap.size (PWords f c (fetched x.abs p f c)) := words_ok h.lt _ _ _
 refine askFetchDown s kd m k n f c p vals hv hfit w hok (fun w2 rb hx hrb hr => ?_)
 refine (storeFetch_c rb f c L x s kd m k n p hp hf1 hc1 hc40 hsm.stocks hfx hL hL1 hL2 hxk hlen w2 (h.ext hx) hr (fun w' hx' => ?_)).mono ?_
 ·have := mayFetch_c rb x.blk s kd m k n f c p (by omega) (by omega) (by have := hsm.leases; omega) hsm.fc w' (h.ext (hx.trans hx')) (hx'.block hr)
  rwa [hcode] at this
 ·rintro e w' ⟨gv, cv, h1, h2, h3⟩
  exact ⟨0, f, c, some ⟨gv, 0, none⟩, c * L, cv, h1, rfl, rfl, rfl, by rw [hlz]; exact h2, h3⟩
end
end
-- GCl
section
set_option maxRecDepth 100000
set_option maxHeartbeats 400000
open Go.RowKit Go.Maps
theorem addr_add' (b off j : Nat) : (⟨b, off, none⟩ : Addr).add j = ⟨b, off + j, none⟩ := by simp [Addr.add]
theorem ls_one (l : List LsV) : ∀ u ∈ lsCells l, u.oneCell' = true := by
 intro u hu
 simp only [lsCells, List.mem_flatMap, LsV.cells, List.mem_cons, List.not_mem_nil, or_false] at hu
 obtain ⟨o, _, h⟩ := hu
 rcases h with rfl | rfl | rfl | rfl | rfl | rfl | rfl | rfl | rfl <;> rfl
theorem eqNilL (b off n cap : Nat) (w : World) : (binOp BinOp.eql 38 (.slice (some ⟨b, off, none⟩) n cap) (.slice none 0 0)).run Tryz.prog w = .ok (.bool false) w := by kernel_rfl
theorem eqNilL0 (w : World) : (binOp BinOp.eql 38 (.slice none 0 0) (.slice none 0 0)).run Tryz.prog w = .ok (.bool true) w := by kernel_rfl
theorem cloneL_c (v : Value) (n : Nat) (xs : List Value) (h1 : ∀ u ∈ xs, u.oneCell' = true) (h2 : n <= 1000000000) (w : World) (ho : w.ownsRow 0 56 9 v n xs) (hn : v = .slice none 0 0 \/ 1 <= n) :
  Calls Tryz.prog 82 #[v] w fun e w' => ∃ v', e = .returned v' /\ w'.ownsRow w.heap.size 56 9 v' n xs /\ Ext w w' := by
 obtain ⟨i0, hi, hz0, hz1, hz2⟩ := info_parts infoLease
 rcases owns_form ho with ⟨rfl, rfl, rfl⟩ | ⟨b, cap, rfl, _, _, _⟩
 ·have hq := eqNilL0 w
  clear ho hn
  go_enter Tryz.func82, Tryz.ntmps82
  go_wp2
  all_goals go_ret
  all_goals exact ⟨_, rfl, World.ownsRow_nil _ _ _ _, Ext.refl _⟩
 ·have hn1 : 1 <= n := by
   rcases hn with h | h
   ·simp at h
   ·exact h
  have HO : Hid (w.ownsRow 0 56 9 (.slice (some ⟨b, 0, none⟩) n cap) n xs) := ho
  have HOne : Hid _ := h1
  have hq := eqNilL b 0 n cap w
  clear ho hn h1
  go_enter Tryz.func82, Tryz.ntmps82
  go_wp2_with (at_builtin; refine wpList_append_own _ rfl _ _ 38 rfl w.heap.size 56 i0 _ 9 72 Tryz.underlying38 hi hz0 hz1 hz2 rfl (by decide) _ _ _ rfl (World.ownsRow_lit (base := w.heap.size) w #[] 0 (Nat.le_refl _) (by decide) rfl) ⟨b, 0, none⟩ n cap xs rfl HO.out.1 ?c1 ?c2 ?c3 ?c4 ?c5 ?_)
  case c1 =>
   intro j u hu
   rw [addr_add', Nat.zero_add]
   exact ((Ext.refl w).alloc _).cell (owns_cell HO.out hu)
  case c2 => exact HOne.out
  case c3 => unfold maxLen; omega
  case c4 => omega
  case c5 => simp
  intro v' w1 hown hgrow _
  go_wp2
  go_ret
  refine ⟨_, rfl, by simpa using hown, Ext.grown ((Ext.refl w).alloc _) hgrow (fun k hk => ?_)⟩
  simp [lH] at hk
  omega
theorem eqNilO (b off n cap : Nat) (w : World) : (binOp BinOp.eql 69 (.slice (some ⟨b, off, none⟩) n cap) (.slice none 0 0)).run Tryz.prog w = .ok (.bool false) w := by kernel_rfl
theorem eqNilO0 (w : World) : (binOp BinOp.eql 69 (.slice none 0 0) (.slice none 0 0)).run Tryz.prog w = .ok (.bool true) w := by kernel_rfl
theorem cloneO_c (v : Value) (n : Nat) (xs : List Value) (h1 : ∀ u ∈ xs, u.oneCell' = true) (h2 : n <= 1000000000) (w : World) (ho : w.ownsRow 0 134 4 v n xs) (hn : v = .slice none 0 0 \/ 1 <= n) :
  Calls Tryz.prog 134 #[v] w fun e w' => ∃ v', e = .returned v' /\ w'.ownsRow w.heap.size 134 4 v' n xs /\ Ext w w' := by
 obtain ⟨i0, hi, hz0, hz1, hz2⟩ := info_parts infoOp
 rcases owns_form ho with ⟨rfl, rfl, rfl⟩ | ⟨b, cap, rfl, _, _, _⟩
 ·have hq := eqNilO0 w
  clear ho hn
  go_enter Tryz.func134, Tryz.ntmps134
  go_wp2
  all_goals go_ret
  all_goals exact ⟨_, rfl, World.ownsRow_nil _ _ _ _, Ext.refl _⟩
 ·have hn1 : 1 <= n := by
   rcases hn with h | h
   ·simp at h
   ·exact h
  have HO : Hid (w.ownsRow 0 134 4 (.slice (some ⟨b, 0, none⟩) n cap) n xs) := ho
  have HOne : Hid _ := h1
  have hq := eqNilO b 0 n cap w
  clear ho hn h1
  go_enter Tryz.func134, Tryz.ntmps134
  go_wp2_with (at_builtin; refine wpList_append_own _ rfl _ _ 69 rfl w.heap.size 134 i0 _ 4 56 Tryz.underlying69 hi hz0 hz1 hz2 rfl (by decide) _ _ _ rfl (World.ownsRow_lit (base := w.heap.size) w #[] 0 (Nat.le_refl _) (by decide) rfl) ⟨b, 0, none⟩ n cap xs rfl HO.out.1 ?c1 ?c2 ?c3 ?c4 ?c5 ?_)
  case c1 =>
   intro j u hu
   rw [addr_add', Nat.zero_add]
   exact ((Ext.refl w).alloc _).cell (owns_cell HO.out hu)
  case c2 => exact HOne.out
  case c3 => unfold maxLen; omega
  case c4 => omega
  case c5 => simp
  intro v' w1 hown hgrow _
  go_wp2
  go_ret
  refine ⟨_, rfl, by simpa using hown, Ext.grown ((Ext.refl w).alloc _) hgrow (fun k hk => ?_)⟩
  simp [lH] at hk
  omega
section
variable {B : Nat} {F : Nat -> Prop} {sv lv dv : Value} {R : List StkR} {ls : List LsV} {ops : List OpV} {fl : Bool} {ah : Int} {kn : Bool}
theorem storeLeases_c (hls : ls.length <= 1000) (hn : lv = .slice none 0 0 \/ 1 <= ls.length) (w : World) (h : StoreOf w B F sv lv dv R ls ops fl ah kn) :
  Calls Tryz.prog 49 #[.pointer (some ⟨B, 0, none⟩)] w fun e w' => ∃ v', e = .returned v' /\ w'.ownsRow w.heap.size 56 9 v' ls.length (lsCells ls) /\ Ext w w' := by
 have HC : Hid (∀ w', Ext w w' -> _) := fun w' hx => cloneL_c lv ls.length (lsCells ls) (ls_one ls) (by omega) w' (hx.owns h.lrow) hn
 obtain ⟨_, c1, _⟩ := h.deal.cells
 have hB := h.deal.lt
 clear h hn
 go_enter Tryz.func49, Tryz.ntmps49
 go_wp2_with fail
 refine (HC.out _ (Ext.refl _)).mono ?_
 rintro e w1 ⟨v', rfl, ho, hx⟩
 have HQ : Hid _ := And.intro ho hx
 clear ho hx
 go_wp2
 go_ret
 exact ⟨_, rfl, HQ.out.1, HQ.out.2⟩
theorem dealerLeases_c (hls : ls.length <= 1000) (hn : lv = .slice none 0 0 \/ 1 <= ls.length) (w : World) (h : StoreOf w B F sv lv dv R ls ops fl ah kn) :
  Calls Tryz.prog 15 #[.pointer (some ⟨B, 0, none⟩)] w fun e w' => ∃ v', e = .returned v' /\ w'.ownsRow w.heap.size 56 9 v' ls.length (lsCells ls) /\ Ext w w' := by
 have HC : Hid (∀ w', Ext w w' -> _) := fun w' hx => storeLeases_c hls hn w' (h.ext hx)
 clear h hn
 go_enter Tryz.func15, Tryz.ntmps15
 go_wp2_with fail
 refine (HC.out _ (Ext.refl _)).mono ?_
 rintro e w1 ⟨v', rfl, ho, hx⟩
 have HQ : Hid _ := And.intro ho hx
 clear ho hx
 go_wp2
 go_ret
 exact ⟨_, rfl, HQ.out.1, HQ.out.2⟩
theorem diskDone_c (hls : ops.length <= 1000000) (hn : dv = .slice none 0 0 \/ 1 <= ops.length) (w : World) (h : StoreOf w B F sv lv dv R ls ops fl ah kn) :
  Calls Tryz.prog 93 #[.pointer (some ⟨B, 2, none⟩)] w fun e w' => ∃ v', e = .returned v' /\ w'.ownsRow w.heap.size 134 4 v' ops.length (opCells ops) /\ Ext w w' := by
 have HC : Hid (∀ w', Ext w w' -> _) := fun w' hx => cloneO_c dv ops.length (opCells ops) (op_one ops) (by omega) w' (hx.owns h.orow) hn
 obtain ⟨_, _, c2, _⟩ := h.deal.cells
 have hB := h.deal.lt
 clear h hn
 go_enter Tryz.func93, Tryz.ntmps93
 go_wp2_with fail
 refine (HC.out _ (Ext.refl _)).mono ?_
 rintro e w1 ⟨v', rfl, ho, hx⟩
 have HQ : Hid _ := And.intro ho hx
 clear ho hx
 go_wp2
 go_ret
 exact ⟨_, rfl, HQ.out.1, HQ.out.2⟩
theorem storeDisk_c (hls : ops.length <= 1000000) (hn : dv = .slice none 0 0 \/ 1 <= ops.length) (w : World) (h : StoreOf w B F sv lv dv R ls ops fl ah kn) :
  Calls Tryz.prog 62 #[.pointer (some ⟨B, 0, none⟩)] w fun e w' => ∃ v', e = .returned v' /\ w'.ownsRow w.heap.size 134 4 v' ops.length (opCells ops) /\ Ext w w' := by
 have HC : Hid (∀ w', Ext w w' -> _) := fun w' hx => diskDone_c hls hn w' (h.ext hx)
 clear h hn
 go_enter Tryz.func62, Tryz.ntmps62
 go_wp2_with fail
 refine (HC.out _ (Ext.refl _)).mono ?_
 rintro e w1 ⟨v', rfl, ho, hx⟩
 have HQ : Hid _ := And.intro ho hx
 clear ho hx
 go_wp2
 go_ret
 exact ⟨_, rfl, HQ.out.1, HQ.out.2⟩
theorem dealerDisk_c (hls : ops.length <= 1000000) (hn : dv = .slice none 0 0 \/ 1 <= ops.length) (w : World) (h : StoreOf w B F sv lv dv R ls ops fl ah kn) :
  Calls Tryz.prog 29 #[.pointer (some ⟨B, 0, none⟩)] w fun e w' => ∃ v', e = .returned v' /\ w'.ownsRow w.heap.size 134 4 v' ops.length (opCells ops) /\ Ext w w' := by
 have HC : Hid (∀ w', Ext w w' -> _) := fun w' hx => storeDisk_c hls hn w' (h.ext hx)
 clear h hn
 go_enter Tryz.func29, Tryz.ntmps29
 go_wp2_with fail
 refine (HC.out _ (Ext.refl _)).mono ?_
 rintro e w1 ⟨v', rfl, ho, hx⟩
 have HQ : Hid _ := And.intro ho hx
 clear ho hx
 go_wp2
 go_ret
 exact ⟨_, rfl, HQ.out.1, HQ.out.2⟩
end
end
-- GCs
section
set_option maxRecDepth 100000
set_option maxHeartbeats 1600000
open Go.RowKit Go.Maps
theorem infoStock : (Tryz.prog.info? 116).map (fun i => (i.zero, i.size, i.bytes)) = some (some (.agg #[.int .i64 0, .int .i64 0, .int .i64 0, .int .i64 0, .int .i64 0, .int .i64 0, .int .i64 0]), 7, 56) := by kernel_rfl
/-- A stock as it is told. -/
def Stk.told (x : Stk) : List Value := [.int .i64 x.kd, .int .i64 x.m, .int .i64 x.k, .int .i64 x.n, .int .i64 x.ts.length, .int .i64 x.leased, .int .i64 (x.ts.filter (·.2)).length]
def toldAll (S : List Stk) : List Value := S.flatMap Stk.told
theorem toldAll_snoc (S : List Stk) (x : Stk) : toldAll (S ++ [x]) = toldAll S ++ x.told := by simp [toldAll]
theorem len_toldAll (S : List Stk) : (toldAll S).length = S.length * 7 := by
 induction S with
 | nil => rfl
 | cons o t ih => simp [toldAll, Stk.told] at ih ⊢; omega
section
variable {B : Nat} {F : Nat -> Prop} {sv lv dv : Value} {R : List StkR} {ls : List LsV} {ops : List OpV} {fl : Bool} {ah : Int} {kn : Bool}
theorem storeClasses_c (hR : R.length <= 100) (w : World) (h : StoreOf w B F sv lv dv R ls ops fl ah kn) :
  Calls Tryz.prog 50 #[.pointer (some ⟨B, 0, none⟩)] w fun e w' => ∃ v', e = .returned v' /\ w'.ownsRow w.heap.size 116 7 v' R.length (toldAll (R.map StkR.abs)) /\ Ext w w' := by
 obtain ⟨i0, hi, hz0, hz1, hz2⟩ := info_parts infoStock
 obtain ⟨c0, _⟩ := h.deal.cells
 have hB := h.deal.lt
 obtain ⟨sa, scap, hsv⟩ := owns_slice h.srow
 have HPt : Hid (∀ j (hj : j < R.length), ∃ g, sa = some ⟨g, 0, none⟩ /\ w.cell? ⟨g, j, none⟩ = some (.pointer (some ⟨R[j].blk, 0, none⟩))) := fun j hj => by
  rcases owns_form h.srow with ⟨_, h2, _⟩ | ⟨g, cap, h1, _⟩
  ·omega
  ·rw [h1] at hsv
   injection hsv with e1 _ _
   have hs := h.srow
   rw [h1] at hs
   exact ⟨g, e1.symm, owns_cell hs (by simp [stkPtrs, hj])⟩
 have HSt : Hid (∀ j (hj : j < R.length), StkAt w F R[j]) := fun j hj => h.stk _ (List.getElem_mem hj)
 subst hsv
 clear h
 obtain ⟨len, hlen⟩ : ∃ len, R.length = len := ⟨_, rfl⟩
 have HLEN : Hid (R.length = len) := hlen
 rw [hlen] at c0 hR ⊢
 clear hlen
 go_enter Tryz.func50, Tryz.ntmps50
 go_wp2
 go_loopw [3, 5, 11] (fun u _ i wr => ∃ j : Nat, j <= len /\ i = .int .i64 j /\ wr.ownsRow w.heap.size 116 7 u j (toldAll ((R.map StkR.abs).take j)) /\ Ext w wr) (fun _ _ i _ => len - (intOf i).toNat)
 case atStart => exact ⟨0, Nat.zero_le _, rfl, World.ownsRow_nil _ _ _ _, Ext.refl _⟩
 case round =>
  obtain ⟨j, hj, rfl, ho, hx⟩ := hrel
  have HO : Hid (wr.ownsRow w.heap.size 116 7 u3 j (toldAll ((R.map StkR.abs).take j))) := ho
  have HX : Hid (Ext w wr) := hx
  clear ho hx
  by_cases hlt : j < len
  ·have hjl : j < R.length := by rw [HLEN.out]; exact hlt
   obtain ⟨g, rfl, hpt⟩ := HPt.out j hjl
   have hst := HSt.out j hjl
   have hb := hst.blk
   obtain ⟨D, hD, hK⟩ := hst.map
   have HTk : Hid ((R.map StkR.abs).take (j + 1) = (R.map StkR.abs).take j ++ [R[j].abs]) := by
    show (R.map StkR.abs).take (j + 1) = (R.map StkR.abs).take j ++ [R[j].abs]
    rw [List.take_succ_eq_append_getElem (by simpa using hjl)]
    simp
   obtain ⟨x0, hx0⟩ : ∃ x0, R[j].kd = x0 := ⟨_, rfl⟩
   obtain ⟨x1, hx1⟩ : ∃ x1, R[j].m = x1 := ⟨_, rfl⟩
   obtain ⟨x2, hx2⟩ : ∃ x2, R[j].k = x2 := ⟨_, rfl⟩
   obtain ⟨x3, hx3⟩ : ∃ x3, R[j].n = x3 := ⟨_, rfl⟩
   obtain ⟨x4, hx4⟩ : ∃ x4, R[j].ts.length = x4 := ⟨_, rfl⟩
   obtain ⟨x5, hx5⟩ : ∃ x5, R[j].leased = x5 := ⟨_, rfl⟩
   obtain ⟨x6, hx6⟩ : ∃ x6, (R[j].ts.filter (·.2)).length = x6 := ⟨_, rfl⟩
   obtain ⟨blk, hblk⟩ : ∃ blk, R[j].blk = blk := ⟨_, rfl⟩
   obtain ⟨mb, hmb⟩ : ∃ mb, R[j].mb = mb := ⟨_, rfl⟩
   have HTd : Hid (R[j].abs.told = [.int .i64 (x0 : Int), .int .i64 (x1 : Int), .int .i64 (x2 : Int), .int .i64 (x3 : Int), .int .i64 (x4 : Int), .int .i64 (x5 : Int), .int .i64 (x6 : Int)]) := by
    rw [<- hx0, <- hx1, <- hx2, <- hx3, <- hx4, <- hx5, <- hx6]; rfl
   unfold StkR.row at hb
   rw [hblk, hx0, hx1, hx2, hx3, hx4, hx5, hmb] at hb
   rw [hmb] at hD
   have hsz := hK.1
   rw [hx6] at hsz
   have SF : Hid (∀ w', Ext w w' -> (fun w' => ((w'.cell? ⟨blk, 0, none⟩ = some (.int .i64 (x0 : Int)) /\ w'.cell? ⟨blk, 1, none⟩ = some (.int .i64 (x1 : Int)) /\ w'.cell? ⟨blk, 2, none⟩ = some (.int .i64 (x2 : Int)) /\ w'.cell? ⟨blk, 3, none⟩ = some (.int .i64 (x3 : Int)) /\ w'.cell? ⟨blk, 4, none⟩ = some (.int .i64 (x4 : Int)) /\ w'.cell? ⟨blk, 5, none⟩ = some (.int .i64 (x5 : Int)) /\ w'.cell? ⟨blk, 6, none⟩ = some (.map (some mb))) /\ ∀ ty, (Builtin.len_ #[152] ty #[.map (some mb)]).run Tryz.prog w' = .ok (.int .i64 (x6 : Int)) w') /\ Ext w w') w') := fun w' hx => by
    have hb' := hx.block hb
    have hD' : w'.ownsMap Tryz.prog 3 heldElem mb _ D := map_turn (S := fun _ => False) hD (Turn.of_ext hx) id
    refine ⟨⟨⟨cell_at hb' rfl, cell_at hb' rfl, cell_at hb' rfl, cell_at hb' rfl, cell_at hb' rfl, cell_at hb' rfl, cell_at hb' rfl⟩, fun ty => ?_⟩, hx⟩
    rw [hD'.len Tryz.underlying152 ty, hsz]
   have hpt := HX.out.cell hpt
   have hxp : Ext w wr := HX.out
   have hbl : blk < wr.heap.size := Nat.lt_of_lt_of_le (Array.getElem?_eq_some_iff.1 hb).1 hxp.le
   have HG : Hid (∀ q, u3.ownBlock = some q -> w.heap.size <= q /\ q < wr.heap.size) := fun q hq => World.ownsRow.lt HO.out q hq
   have hwl := hxp.le
   rw [hblk] at hpt
   clear hst hb hD hK hsz hx0 hx1 hx2 hx3 hx4 hx5 hx6 hblk hmb
   have hS0 := SF.out wr hxp
   go_wp2_with fail
   go_region_held3 (fun w' => ((w'.cell? ⟨blk, 0, none⟩ = some (.int .i64 (x0 : Int)) /\ w'.cell? ⟨blk, 1, none⟩ = some (.int .i64 (x1 : Int)) /\ w'.cell? ⟨blk, 2, none⟩ = some (.int .i64 (x2 : Int)) /\ w'.cell? ⟨blk, 3, none⟩ = some (.int .i64 (x3 : Int)) /\ w'.cell? ⟨blk, 4, none⟩ = some (.int .i64 (x4 : Int)) /\ w'.cell? ⟨blk, 5, none⟩ = some (.int .i64 (x5 : Int)) /\ w'.cell? ⟨blk, 6, none⟩ = some (.map (some mb))) /\ ∀ ty, (Builtin.len_ #[152] ty #[.map (some mb)]).run Tryz.prog w' = .ok (.int .i64 (x6 : Int)) w') /\ Ext w w')
    (first
      | (refine SF.out _ ?_; (repeat (first | with_reducible exact Ext.refl _ | with_reducible assumption | with_reducible refine Ext.drew ?_ | with_reducible refine Ext.alloc ?_ _ | with_reducible (apply Ext.chain; assumption))); done)
      | exact SF.out _ (Ext.grown (Ext.alloc (Ext.drew HX.out) _) hgrow (fun q hq => (HG.out q hq).1)))
    (first
      | (refine step_append_lies _ (by rfl) _ _ 44 (by rfl) w.heap.size 116 i0 _ 7 56 Tryz.underlying44 hi hz0 hz1 hz2 (by rfl) (by decide) u3 j (toldAll ((R.map StkR.abs).take j)) (by rfl) (Ext.owns (Ext.alloc (Ext.drew (Ext.refl _)) _) HO.out) ⟨_, 0, none⟩ 1 1 [.int .i64 (x0 : Int), .int .i64 (x1 : Int), .int .i64 (x2 : Int), .int .i64 (x3 : Int), .int .i64 (x4 : Int), .int .i64 (x5 : Int), .int .i64 (x6 : Int)] (by rfl) (by rfl) (World.news_of_block (heap_alloc_new _ _)) (by simp [Value.oneCell']) (by decide) (by simp [maxLen]; omega) (by omega) (by simp; omega) _ rfl ?_; intro gv cv w3 hown3 hgrow hat hlt3))
   have HQ : Hid (w3.ownsRow w.heap.size 116 7 (.slice (some ⟨gv, 0, none⟩) (j + 1) cv) (j + 1) (toldAll ((R.map StkR.abs).take j) ++ [.int .i64 (x0 : Int), .int .i64 (x1 : Int), .int .i64 (x2 : Int), .int .i64 (x3 : Int), .int .i64 (x4 : Int), .int .i64 (x5 : Int), .int .i64 (x6 : Int)]) /\ Ext w w3) := And.intro hown3 (Ext.grown (Ext.alloc (Ext.drew HX.out) _) hgrow (fun q hq => (HG.out q hq).1))
   clear hown3 hgrow hat hS0
   go_wp2
   go_roundw
   case rel =>
    refine ⟨j + 1, by omega, by go_num, ?_, HQ.out.2⟩
    rw [HTk.out, toldAll_snoc, HTd.out]
    exact HQ.out.1
   case measure => simp [intOf]; omega
  ·obtain rfl : j = len := by omega
   have HF : Hid (wr.ownsRow w.heap.size 116 7 u3 j (toldAll (R.map StkR.abs))) := by
    have h1 := HO.out
    rw [List.take_of_length_le (by simp [HLEN.out])] at h1
    exact h1
   go_wp2
   go_ret
   exact ⟨_, rfl, HF.out, HX.out⟩
theorem dealerClasses_c (hR : R.length <= 100) (w : World) (h : StoreOf w B F sv lv dv R ls ops fl ah kn) :
  Calls Tryz.prog 16 #[.pointer (some ⟨B, 0, none⟩)] w fun e w' => ∃ v', e = .returned v' /\ w'.ownsRow w.heap.size 116 7 v' R.length (toldAll (R.map StkR.abs)) /\ Ext w w' := by
 have HC : Hid (∀ w', Ext w w' -> _) := fun w' hx => storeClasses_c hR w' (h.ext hx)
 clear h
 go_enter Tryz.func16, Tryz.ntmps16
 go_wp2_with fail
 refine (HC.out _ (Ext.refl _)).mono ?_
 rintro e w1 ⟨v', rfl, ho, hx⟩
 have HQ : Hid _ := And.intro ho hx
 clear ho hx
 go_wp2
 go_ret
 exact ⟨_, rfl, HQ.out.1, HQ.out.2⟩
/-- The dealer's Refill is the store's. -/
theorem dealerRefill_c (kd m k n : Int) (a : Option Addr) (len cap B : Nat) (F : Nat -> Prop) (w : World) (hF : ∀ b, F b -> b < w.heap.size) (P : World -> World -> Int -> Prop) (htn : ∀ w1 w2 c, P w1 w2 c -> Turn F w1 w2) (hst : ∀ w1 w2 w3 c, Ext w1 w2 -> P w2 w3 c -> P w1 w3 c) (hin : ∀ w', Ext w w' -> Calls Tryz.prog 65 #[.pointer (some ⟨B, 0, none⟩), clsV kd m k n, .slice a len cap] w' fun e w'' => ∃ c, e = .returned (.int .i64 c) /\ P w' w'' c) :
  Calls Tryz.prog 34 #[.pointer (some ⟨B, 0, none⟩), clsV kd m k n, .slice a len cap] w fun e w' => ∃ c, e = .returned (.int .i64 c) /\ P w w' c := by
 have HC : Hid (∀ w', Ext w w' -> _) := hin
 have HS : Hid _ := hst
 have HT : Hid _ := htn
 have HFl : Hid (∀ b, F b -> b < w.heap.size) := hF
 clear hin hst htn hF
 unfold clsV at *
 go_enter Tryz.func34, Tryz.ntmps34
 go_wp2_with fail
 have hcl := four_in (Ext.refl (w.alloc (.cells #[.int .i64 kd, .int .i64 m, .int .i64 k, .int .i64 n] 49)))
 have hX0 : Ext w (w.alloc (.cells #[.int .i64 kd, .int .i64 m, .int .i64 k, .int .i64 n] 49)) := (Ext.refl w).alloc _
 generalize World.alloc w _ = W at hcl hX0 ⊢
 obtain ⟨d0, d1, d2, d3⟩ := hcl
 have HX0 : Hid (Ext w W) := hX0
 clear hX0
 go_region_held3 (fun w' => w'.cell? ⟨w.heap.size, 0, none⟩ = some (.int .i64 kd) /\ w'.cell? ⟨w.heap.size, 1, none⟩ = some (.int .i64 m) /\ w'.cell? ⟨w.heap.size, 2, none⟩ = some (.int .i64 k) /\ w'.cell? ⟨w.heap.size, 3, none⟩ = some (.int .i64 n))
  (first | exact ⟨d0, d1, d2, d3⟩ | exact S1)
  (first
    | (go_at_call 65
       refine (HC.out _ (Ext.drew HX0.out)).mono ?_
       rintro e w1 ⟨cd, rfl, hp⟩
       have q4 := HT.out _ _ _ hp
       have hnF : ¬ F w.heap.size := fun e => by have := HFl.out _ e; omega
       have S1 : w1.cell? ⟨w.heap.size, 0, none⟩ = some (.int .i64 kd) /\ w1.cell? ⟨w.heap.size, 1, none⟩ = some (.int .i64 m) /\ w1.cell? ⟨w.heap.size, 2, none⟩ = some (.int .i64 k) /\ w1.cell? ⟨w.heap.size, 3, none⟩ = some (.int .i64 n) := ⟨q4.cell d0 hnF, q4.cell d1 hnF, q4.cell d2 hnF, q4.cell d3 hnF⟩))
 have HQ : Hid _ := hp
 clear hp q4 S1
 go_wp2
 go_ret
 exact ⟨cd, rfl, HS.out _ _ _ _ (Ext.drew HX0.out) HQ.out⟩
end
end
-- HRf
section
set_option maxRecDepth 100000
set_option maxHeartbeats 1600000
open Go.RowKit Go.Maps
theorem isCls_0 (m k n : Int) : isCls 0 m k n = (decide (m = 1) && (decide (k = 1) && decide (n = 1))) := rfl
theorem isCls_1 (m k n : Int) : isCls 1 m k n = ((decide (1 <= m) && decide (m <= 3)) && ((decide (1 <= k) && decide (k <= 3)) && (decide (1 <= n) && decide (n <= 3)))) := rfl
theorem isCls_2 (m k n : Int) : isCls 2 m k n = ((decide (1 <= m) && decide (m <= 3)) && (decide (k = 1) && decide (n = 1))) := rfl
theorem isCls_no {kd : Int} (m k n : Int) (h0 : kd ≠ 0) (h1 : kd ≠ 1) (h2 : kd ≠ 2) : isCls kd m k n = false := by simp [isCls, h0, h1, h2]
theorem refIsClass_c (kd m k n : Int) (w : World) : Calls Tryz.prog 145 #[clsV kd m k n] w fun e w' => e = .returned (.bool (isCls kd m k n)) /\ Ext w w' := by
 unfold clsV
 by_cases h0 : kd = 0
 ·subst h0
  rw [isCls_0]
  go_enter Tryz.func145, Tryz.ntmps145
  go_wp2
  all_goals go_ret
  all_goals refine ⟨ret_bool ?_, (Ext.refl w).alloc _⟩
  all_goals first
   | (simp [*]; done)
   | (rw [Bool.eq_iff_iff]; simp; done)
     | (rw [Bool.eq_iff_iff]; simp; omega)
 ·by_cases h1 : kd = 1
  ·subst h1
   rw [isCls_1]
   go_enter Tryz.func145, Tryz.ntmps145
   go_wp2
   all_goals go_ret
   all_goals refine ⟨ret_bool ?_, (Ext.refl w).alloc _⟩
   all_goals first
    | (simp [*]; done)
    | (rw [Bool.eq_iff_iff]; simp; done)
     | (rw [Bool.eq_iff_iff]; simp; omega)
  ·by_cases h2 : kd = 2
   ·subst h2
    rw [isCls_2]
    go_enter Tryz.func145, Tryz.ntmps145
    go_wp2
    all_goals go_ret
    all_goals refine ⟨ret_bool ?_, (Ext.refl w).alloc _⟩
    all_goals first
     | (simp [*]; done)
     | (rw [Bool.eq_iff_iff]; simp; done)
     | (rw [Bool.eq_iff_iff]; simp; omega)
   ·rw [isCls_no m k n h0 h1 h2]
    go_enter Tryz.func145, Tryz.ntmps145
    go_wp2
    all_goals go_ret
    all_goals exact ⟨rfl, (Ext.refl w).alloc _⟩
theorem sizes3 {a b c a' b' c' : Int} (h1 : a = a') (h2 : b = b') (h3 : c = c') : Ending.returned (.tuple #[.int .i64 a, .int .i64 b, .int .i64 c]) = .returned (.tuple #[.int .i64 a', .int .i64 b', .int .i64 c']) := by rw [h1, h2, h3]
theorem refSizes_c {kd m k n : Nat} {s : Sh} (hc : ofCls kd m k n s) (hs : s.ok) (w : World) : Calls Tryz.prog 175 #[clsV kd m k n] w fun e w' => e = .returned (.tuple #[.int .i64 (s.x : Int), .int .i64 (s.y : Int), .int .i64 (s.z : Int)]) /\ Ext w w' := by
 obtain ⟨h1, h2, h3, h4, h5, h6, h7, h8, h9⟩ := hs
 unfold clsV
 rcases hc with ⟨rfl, rfl, rfl, rfl⟩ | ⟨hk, rfl⟩
 ·simp only [Sh.x, Sh.y, Sh.z, Nat.mul_one]
  clear h1 h2 h3 h4 h5 h6 h7 h8 h9
  go_enter Tryz.func175, Tryz.ntmps175
  go_wp2
  go_quiet (fail)
  go_wp2
  go_ret3
  exact ⟨rfl, Ext.drewN ((Ext.refl w).alloc _) _⟩
 ·simp only [Sh.x, Sh.y, Sh.z, Nat.one_mul]
  simp only at h3 h4 h5 h6 h7 h8
  have e1 : wrap64 ((m : Int) * (k : Int)) = ((m * k : Nat) : Int) := by rw [show ∀ z : Int, wrap64 z = IntKind.i64.wrap z from fun z => by rw [IntKind.wrap_i64, wrap64], <- Int.natCast_mul]; exact wrap_small (by have := mul_le9 h4 h6; omega)
  have e2 : wrap64 ((k : Int) * (n : Int)) = ((k * n : Nat) : Int) := by rw [show ∀ z : Int, wrap64 z = IntKind.i64.wrap z from fun z => by rw [IntKind.wrap_i64, wrap64], <- Int.natCast_mul]; exact wrap_small (by have := mul_le9 h6 h8; omega)
  have e3 : wrap64 ((m : Int) * (n : Int)) = ((m * n : Nat) : Int) := by rw [show ∀ z : Int, wrap64 z = IntKind.i64.wrap z from fun z => by rw [IntKind.wrap_i64, wrap64], <- Int.natCast_mul]; exact wrap_small (by have := mul_le9 h4 h8; omega)
  have hkd : ¬ (kd : Int) = 2 := by omega
  have HE : Hid _ := And.intro e1 (And.intro e2 e3)
  clear e1 e2 e3 h1 h2 h3 h4 h5 h6 h7 h8 h9 hk
  go_enter Tryz.func175, Tryz.ntmps175
  go_wp2
  go_quiet (fail)
  go_wp2
  go_ret3
  obtain ⟨e1, e2, e3⟩ := HE.out
  exact ⟨sizes3 e1 e2 e3, Ext.drewN ((Ext.refl w).alloc _) _⟩
theorem refDraws_c {kd m k n : Nat} {s : Sh} (hc : ofCls kd m k n s) (hs : s.ok) (w : World) : Calls Tryz.prog 146 #[clsV kd m k n] w fun e w' => e = .returned (.int .i64 (s.x + s.y + (s.x + s.y + s.z) : Nat)) /\ Ext w w' := by
 have hle := Sh.le hs
 have HS : Hid _ := refSizes_c hc hs
 clear hc hs
 generalize s.x = x at *
 generalize s.y = y at *
 generalize s.z = z at *
 unfold clsV at *
 go_enter Tryz.func146, Tryz.ntmps146
 go_wp2_with fail
 refine (HS.out _).mono ?_
 rintro e w1 ⟨rfl, hx1⟩
 have HX1 : Hid (Ext w w1) := ((Ext.refl w).alloc _).trans hx1
 clear hx1
 go_wp2
 go_ret
 exact ⟨ret_int (by omega), HX1.out⟩
end
-- HRw
section
set_option maxRecDepth 100000
set_option maxHeartbeats 1600000
open Go.RowKit Go.Maps
/-- A row that nothing writes into any more. -/
def RowIs (w : World) (G : Nat -> Prop) (v : Value) (n : Nat) (xs : List Value) : Prop :=
 (v = .slice none 0 0 /\ n = 0) \/ ∃ g cap, v = .slice (some ⟨g, 0, none⟩) n cap /\ n <= cap /\ G g /\ (∀ i u, xs[i]? = some u -> w.cell? ⟨g, i, none⟩ = some u) /\ 1 <= n
theorem RowIs.turn {S G : Nat -> Prop} {w w' : World} {v : Value} {n : Nat} {xs : List Value} (h : RowIs w G v n xs) (ht : Turn S w w') (hs : ∀ b, G b -> ¬ S b) : RowIs w' G v n xs := by
 rcases h with h | ⟨g, cap, h1, h2, h3, h4, h5⟩
 ·exact .inl h
 ·exact .inr ⟨g, cap, h1, h2, h3, fun i u hu => ht.cell (h4 i u hu) (hs _ h3), h5⟩
theorem RowIs.mono {G G' : Nat -> Prop} {w : World} {v : Value} {n : Nat} {xs : List Value} (h : RowIs w G v n xs) (hg : ∀ b, G b -> G' b) : RowIs w G' v n xs := by
 rcases h with h | ⟨g, cap, h1, h2, h3, h4⟩
 ·exact .inl h
 ·exact .inr ⟨g, cap, h1, h2, hg _ h3, h4⟩
theorem RowIs.of_owns {G : Nat -> Prop} {w : World} {base : Nat} {e : TypeId} {size : Nat} {v : Value} {n : Nat} {xs : List Value} (h : w.ownsRow base e size v n xs) (hn : v = .slice none 0 0 \/ 1 <= n) (hg : ∀ b, base <= b -> b < w.heap.size -> G b) : RowIs w G v n xs := by
 rcases owns_form h with ⟨h1, h2, _⟩ | ⟨g, cap, h1, h2, h3, _⟩
 ·exact .inl ⟨h1, h2⟩
 ·subst h1
  exact .inr ⟨g, cap, rfl, h3, hg g h2 (owns_lt h rfl), fun i u hu => owns_cell h hu, hn.resolve_left (by simp)⟩
/-- A triple, by its draws. -/
def DrawsIs (w : World) (G : Nat -> Prop) (E : Nat) (v : Value) (D : List Int) : Prop := ∃ b cap, v = .slice (some ⟨b, 0, none⟩) E cap /\ E <= cap /\ WordsAt w b 0 D /\ G b
def Stk.each (x : Stk) : Nat := x.sh.x + x.sh.y + (x.sh.x + x.sh.y + x.sh.z)
def Stk.gone (x : Stk) : Nat := (x.ts.filter (fun t => !t.2)).length
/-- A stock of the reference: its cells. -/
def RefStk (w : World) (G : Nat -> Prop) (x : Stk) (cs : List Value) : Prop :=
 ∃ tv vs, cs = [.int .i64 x.kd, .int .i64 x.m, .int .i64 x.k, .int .i64 x.n, tv, .int .i64 x.leased, .int .i64 x.gone] /\ RowIs w G tv x.ts.length vs /\ vs.length = x.ts.length /\ ∀ i (h : i < x.ts.length), ∃ v, vs[i]? = some v /\ DrawsIs w G x.each v x.ts[i].1
/-- A world of the reference. -/
def RefAt (w : World) (G : Nat -> Prop) (p : Nat) (S : List Stk) (ls : List LsV) : Prop :=
 ∃ (stv lsv : Value) (css : List (List Value)), w.heap[p]? = some (.cells #[stv, lsv] 98 (0, 0)) /\ G p /\ RowIs w G stv S.length css.flatten /\ css.length = S.length /\ (∀ i (h : i < S.length), ∃ cs, css[i]? = some cs /\ RefStk w G S[i] cs) /\ RowIs w G lsv ls.length (lsCells ls)
theorem DrawsIs.turn {S G : Nat -> Prop} {w w' : World} {E : Nat} {v : Value} {D : List Int} (h : DrawsIs w G E v D) (ht : Turn S w w') (hs : ∀ b, G b -> ¬ S b) : DrawsIs w' G E v D := by
 obtain ⟨b, cap, h1, h2, h3, h4⟩ := h
 exact ⟨b, cap, h1, h2, h3.turn ht (hs _ h4), h4⟩
theorem DrawsIs.mono {G G' : Nat -> Prop} {w : World} {E : Nat} {v : Value} {D : List Int} (h : DrawsIs w G E v D) (hg : ∀ b, G b -> G' b) : DrawsIs w G' E v D := by
 obtain ⟨b, cap, h1, h2, h3, h4⟩ := h
 exact ⟨b, cap, h1, h2, h3, hg _ h4⟩
theorem RefStk.turn {S G : Nat -> Prop} {w w' : World} {x : Stk} {cs : List Value} (h : RefStk w G x cs) (ht : Turn S w w') (hs : ∀ b, G b -> ¬ S b) : RefStk w' G x cs := by
 obtain ⟨tv, vs, h1, h2, h3, h4⟩ := h
 exact ⟨tv, vs, h1, h2.turn ht hs, h3, fun i hi => let ⟨v, k1, k2⟩ := h4 i hi; ⟨v, k1, k2.turn ht hs⟩⟩
theorem RefStk.mono {G G' : Nat -> Prop} {w : World} {x : Stk} {cs : List Value} (h : RefStk w G x cs) (hg : ∀ b, G b -> G' b) : RefStk w G' x cs := by
 obtain ⟨tv, vs, h1, h2, h3, h4⟩ := h
 exact ⟨tv, vs, h1, h2.mono hg, h3, fun i hi => let ⟨v, k1, k2⟩ := h4 i hi; ⟨v, k1, k2.mono hg⟩⟩
theorem RefAt.turn {Sp G : Nat -> Prop} {w w' : World} {p : Nat} {S : List Stk} {ls : List LsV} (h : RefAt w G p S ls) (ht : Turn Sp w w') (hs : ∀ b, G b -> ¬ Sp b) : RefAt w' G p S ls := by
 obtain ⟨stv, lsv, css, h1, h2, h3, h4, h5, h6⟩ := h
 exact ⟨stv, lsv, css, ht.ref h1 (hs _ h2), h2, h3.turn ht hs, h4, fun i hi => let ⟨cs, k1, k2⟩ := h5 i hi; ⟨cs, k1, k2.turn ht hs⟩, h6.turn ht hs⟩
theorem RefAt.ext {G : Nat -> Prop} {w w' : World} {p : Nat} {S : List Stk} {ls : List LsV} (h : RefAt w G p S ls) (hx : Ext w w') : RefAt w' G p S ls :=
 h.turn (Sp := fun _ => False) (Turn.of_ext hx) (fun _ _ => id)
/-- Cells of a stock in the row of all. -/
theorem flat_at {css : List (List Value)} {S : List Stk} {w : World} {G : Nat -> Prop} (hl : css.length = S.length) (h : ∀ i (h : i < S.length), ∃ cs, css[i]? = some cs /\ RefStk w G S[i] cs) (j : Nat) (hj : j < S.length) (i : Nat) (hi : i < 7) {cs : List Value} (hcs : css[j]? = some cs) : css.flatten[j * 7 + i]? = cs[i]? := by
 have h7 : ∀ c ∈ css, c.length = 7 := fun c hc => by
  obtain ⟨q, hq, rfl⟩ := List.getElem_of_mem hc
  obtain ⟨cs', k1, tv, vs, k2, _⟩ := h q (by omega)
  rw [List.getElem?_eq_getElem hq] at k1
  injection k1 with k1
  rw [k1, k2]; rfl
 clear h hl
 induction css generalizing j with
 | nil => simp at hcs
 | cons c t ih =>
  have hc := h7 c (by simp)
  cases j with
  | zero =>
   simp at hcs
   subst hcs
   simp [List.getElem?_append_left (show i < c.length by omega)]
  | succ j =>
   simp at hcs
   rw [List.flatten_cons, List.getElem?_append_right (by rw [hc]; omega), hc, show (j + 1) * 7 + i - 7 = j * 7 + i by omega]
   by_cases hjt : j < S.length
   ·exact ih j hjt hcs (fun c hc => h7 c (by simp [hc]))
   ·omega
theorem refFind_c {G : Nat -> Prop} (p : Nat) (S : List Stk) (ls : List LsV) (kd m k n : Int) (hS : S.length <= 100) (w : World) (h : RefAt w G p S ls) :
  Calls Tryz.prog 147 #[.pointer (some ⟨p, 0, none⟩), clsV kd m k n] w fun e w' => e = .returned (.int .i64 (match S.findIdx? (fun x => x.is kd m k n) with | some i => (i : Int) | none => -1)) /\ Ext w w' := by
 obtain ⟨stv, lsv, css, h1, h2, h3, h4, h5, h6⟩ := h
 have c0 : w.cell? ⟨p, 0, none⟩ = some stv := cell_at h1 rfl
 have hp := lG w _ c0
 have heq := fun (a b c e a' b' c' e' : Int) (w : World) => eqClass 9998 a b c e a' b' c' e' w
 obtain ⟨len, hlen⟩ : ∃ len, S.length = len := ⟨_, rfl⟩
 have HLEN : Hid (S.length = len) := hlen
 unfold clsV
 obtain ⟨fi, hfi⟩ : ∃ fi : Int, fi = (match S.findIdx? (fun x => x.is kd m k n) with | some i => (i : Int) | none => -1) := ⟨_, rfl⟩
 rw [<- hfi]
 have HFi : Hid (fi = (match S.findIdx? (fun x => x.is kd m k n) with | some i => (i : Int) | none => -1)) := hfi
 clear hfi
 have HST : Hid _ := And.intro h4 h5
 rcases h3 with ⟨rfl, hn0⟩ | ⟨g, cap, rfl, hcap, _, hcell, _⟩
 ·have hS0 : S = [] := List.length_eq_zero_iff.1 hn0
  subst hS0
  clear h5 h6 h1
  go_enter Tryz.func147, Tryz.ntmps147
  go_wp2
  go_loopw [5] (fun i wr => i = .int .i64 0 /\ Ext w wr) (fun _ _ => 0)
  case atStart => exact ⟨rfl, (Ext.refl _).alloc _⟩
  case round =>
   obtain ⟨rfl, hx⟩ := hrel
   have c0 := hx.cell c0
   go_wp2
   go_ret
   exact ⟨by rw [HFi.out]; rfl, hx⟩
 ·have HCell : Hid _ := hcell
  rw [hlen] at c0 hS hcap
  clear h5 h6 h1 hcell hlen
  go_enter Tryz.func147, Tryz.ntmps147
  go_wp2
  have hf := four_in (Ext.refl (w.alloc (.cells #[.int .i64 kd, .int .i64 m, .int .i64 k, .int .i64 n] 49)))
  have HXV : Hid (Ext w (w.alloc (.cells #[.int .i64 kd, .int .i64 m, .int .i64 k, .int .i64 n] 49))) := (Ext.refl w).alloc _
  generalize World.alloc w _ = V at hf HXV ⊢
  obtain ⟨d0, d1, d2, d3⟩ := hf
  have c0 := HXV.out.cell c0
  go_loopw [5] (fun i wr => ∃ j : Nat, j <= len /\ i = .int .i64 j /\ (∀ x ∈ S.take j, x.is kd m k n = false) /\ Ext V wr) (fun i _ => len - (intOf i).toNat)
  case atStart => exact ⟨0, Nat.zero_le _, rfl, by simp, Ext.refl _⟩
  case round =>
   obtain ⟨j, hj, rfl, hno, hx⟩ := hrel
   have HNO : Hid (∀ x ∈ S.take j, x.is kd m k n = false) := hno
   have HX : Hid (Ext w wr) := HXV.out.trans hx
   have HX2 : Hid (Ext V wr) := hx
   have c0 := hx.cell c0
   have d0 := hx.cell d0
   have d1 := hx.cell d1
   have d2 := hx.cell d2
   have d3 := hx.cell d3
   clear hno hx
   by_cases hlt : j < len
   ·have hjl : j < S.length := by rw [HLEN.out]; exact hlt
    obtain ⟨cs, hcs, tv, vs, rfl, _, _, _⟩ := HST.out.2 j hjl
    have e0 := HX.out.cell (HCell.out (j * 7 + 0) _ ((flat_at HST.out.1 HST.out.2 j hjl 0 (by omega) hcs).trans rfl))
    have e1 := HX.out.cell (HCell.out (j * 7 + 1) _ ((flat_at HST.out.1 HST.out.2 j hjl 1 (by omega) hcs).trans rfl))
    have e2 := HX.out.cell (HCell.out (j * 7 + 2) _ ((flat_at HST.out.1 HST.out.2 j hjl 2 (by omega) hcs).trans rfl))
    have e3 := HX.out.cell (HCell.out (j * 7 + 3) _ ((flat_at HST.out.1 HST.out.2 j hjl 3 (by omega) hcs).trans rfl))
    rw [Nat.add_zero] at e0
    have hk0 : (0 : Int) <= (j : Int) := by omega
    have hk1 : (j : Int) < len := by omega
    have HIS : Hid (S[j].is kd m k n = ((S[j].kd : Int) == kd && ((S[j].m : Int) == m && ((S[j].k : Int) == k && (S[j].n : Int) == n)))) := rfl
    by_cases his : S[j].is kd m k n = true
    ·have HF : Hid (S.findIdx? (fun x => x.is kd m k n) = some j) := findIdx_at hjl HNO.out his
     rw [HIS.out] at his
     clear hcs
     generalize (S[j].kd : Int) = x0 at *
     generalize (S[j].m : Int) = x1 at *
     generalize (S[j].k : Int) = x2 at *
     generalize (S[j].n : Int) = x3 at *
     go_wp2
     go_quiet (fail)
     go_wp2
     go_ret
     exact ⟨by rw [HFi.out, HF.out]; rfl, HX.out.drewN _⟩
    ·have HN2 : Hid (∀ x ∈ S.take (j + 1), x.is kd m k n = false) := take_no hjl HNO.out (by simpa using his)
     rw [HIS.out] at his
     have his2 : ((S[j].kd : Int) == kd && ((S[j].m : Int) == m && ((S[j].k : Int) == k && (S[j].n : Int) == n))) = false := by simpa using his
     clear his hcs
     generalize (S[j].kd : Int) = x0 at *
     generalize (S[j].m : Int) = x1 at *
     generalize (S[j].k : Int) = x2 at *
     generalize (S[j].n : Int) = x3 at *
     go_wp2
     go_quiet (fail)
     go_wp2
     go_roundw
     case rel => exact ⟨j + 1, by omega, by go_num, HN2.out, HX2.out.drewN _⟩
     case measure => simp [intOf]; omega
   ·obtain rfl : j = len := by omega
    have HF : Hid (S.findIdx? (fun x => x.is kd m k n) = none) := findIdx_no (by have := HNO.out; rwa [List.take_of_length_le (by rw [HLEN.out]; exact Nat.le_refl _)] at this)
    go_wp2
    go_ret
    exact ⟨by rw [HFi.out, HF.out]; rfl, HX.out⟩
end
-- HRl
section
set_option maxRecDepth 100000
set_option maxHeartbeats 1600000
open Go.RowKit Go.Maps
theorem rowLs {w : World} {g : Nat} {ls : List LsV} (h : ∀ i u, (lsCells ls)[i]? = some u -> w.cell? ⟨g, i, none⟩ = some u) (j : Nat) (hj : j < ls.length) :
  w.cell? ⟨g, j * 9, none⟩ = some (.int .i64 ls[j].s) /\ w.cell? ⟨g, j * 9 + 1, none⟩ = some (.int .i64 ls[j].i) /\ w.cell? ⟨g, j * 9 + 2, none⟩ = some (.int .i64 ls[j].kd) /\ w.cell? ⟨g, j * 9 + 3, none⟩ = some (.int .i64 ls[j].m) /\ w.cell? ⟨g, j * 9 + 4, none⟩ = some (.int .i64 ls[j].k) /\
  w.cell? ⟨g, j * 9 + 5, none⟩ = some (.int .i64 ls[j].n) /\ w.cell? ⟨g, j * 9 + 6, none⟩ = some (.int .i64 ls[j].f) /\ w.cell? ⟨g, j * 9 + 7, none⟩ = some (.int .i64 ls[j].c) /\ w.cell? ⟨g, j * 9 + 8, none⟩ = some (.bool ls[j].r) := by
 have key : ∀ i v, i < 9 -> ls[j].cells[i]? = some v -> w.cell? ⟨g, j * 9 + i, none⟩ = some v := fun i v hi hv => h _ _ ((lsCells_at ls j i hj hi).trans hv)
 exact ⟨key 0 _ (by omega) rfl, key 1 _ (by omega) rfl, key 2 _ (by omega) rfl, key 3 _ (by omega) rfl, key 4 _ (by omega) rfl, key 5 _ (by omega) rfl, key 6 _ (by omega) rfl, key 7 _ (by omega) rfl, key 8 _ (by omega) rfl⟩
theorem refLease_c {G : Nat -> Prop} (p : Nat) (S : List Stk) (ls : List LsV) (ss ii : Int) (hls : ls.length <= 1000) (w : World) (h : RefAt w G p S ls) :
  Calls Tryz.prog 187 #[.pointer (some ⟨p, 0, none⟩), .int .i64 ss, .int .i64 ii] w fun e w' => e = .returned (.int .i64 (match ls.findIdx? (isNamed ss ii) with | some i => (i : Int) | none => -1)) /\ Ext w w' := by
 obtain ⟨stv, lsv, css, h1, h2, h3, h4, h5, h6⟩ := h
 have c1 : w.cell? ⟨p, 1, none⟩ = some lsv := cell_at h1 rfl
 have hp := lG w _ c1
 obtain ⟨len, hlen⟩ : ∃ len, ls.length = len := ⟨_, rfl⟩
 have HLEN : Hid (ls.length = len) := hlen
 obtain ⟨fi, hfi⟩ : ∃ fi : Int, fi = (match ls.findIdx? (isNamed ss ii) with | some i => (i : Int) | none => -1) := ⟨_, rfl⟩
 rw [<- hfi]
 have HFi : Hid (fi = (match ls.findIdx? (isNamed ss ii) with | some i => (i : Int) | none => -1)) := hfi
 clear hfi h1 h2 h3 h4 h5
 rcases h6 with ⟨rfl, hn0⟩ | ⟨g, cap, rfl, hcap, _, hcell, _⟩
 ·have hS0 : ls = [] := List.length_eq_zero_iff.1 hn0
  subst hS0
  go_enter Tryz.func187, Tryz.ntmps187
  go_wp2
  go_loopw [7] (fun i wr => i = .int .i64 0 /\ Ext w wr) (fun _ _ => 0)
  case atStart => exact ⟨rfl, Ext.refl _⟩
  case round =>
   obtain ⟨rfl, hx⟩ := hrel
   have c1 := hx.cell c1
   go_wp2
   go_ret
   exact ⟨by rw [HFi.out]; rfl, hx⟩
 ·have HCell : Hid _ := hcell
  rw [hlen] at c1 hls hcap
  clear hcell hlen
  go_enter Tryz.func187, Tryz.ntmps187
  go_wp2
  go_loopw [7] (fun i wr => ∃ j : Nat, j <= len /\ i = .int .i64 j /\ (∀ x ∈ ls.take j, isNamed ss ii x = false) /\ Ext w wr) (fun i _ => len - (intOf i).toNat)
  case atStart => exact ⟨0, Nat.zero_le _, rfl, by simp, Ext.refl _⟩
  case round =>
   obtain ⟨j, hj, rfl, hno, hx⟩ := hrel
   have HNO : Hid (∀ x ∈ ls.take j, isNamed ss ii x = false) := hno
   have HX : Hid (Ext w wr) := hx
   have c1 := hx.cell c1
   clear hno hx
   by_cases hlt : j < len
   ·have hjl : j < ls.length := by rw [HLEN.out]; exact hlt
    obtain ⟨l0, l1, _⟩ := rowLs (fun i u hu => HX.out.cell (HCell.out i u hu)) j hjl
    have hk0 : (0 : Int) <= (j : Int) := by omega
    have hk1 : (j : Int) < len := by omega
    by_cases his : isNamed ss ii ls[j] = true
    ·have HF : Hid (ls.findIdx? (isNamed ss ii) = some j) := findIdx_at hjl HNO.out his
     have his2 : ls[j].s = ss /\ ls[j].i = ii := by simpa [isNamed] using his
     rw [his2.1] at l0
     rw [his2.2] at l1
     clear his his2
     go_wp2
     go_ret
     exact ⟨by rw [HFi.out, HF.out]; rfl, HX.out⟩
    ·have HN2 : Hid (∀ x ∈ ls.take (j + 1), isNamed ss ii x = false) := take_no hjl HNO.out (by simpa using his)
     have his2 : ¬ (ls[j].s = ss /\ ls[j].i = ii) := by simpa [isNamed] using his
     clear his
     generalize ls[j].s = x0 at *
     generalize ls[j].i = x1 at *
     by_cases hs : x0 = ss
     ·have hi : ¬ x1 = ii := fun e => his2 ⟨hs, e⟩
      subst hs
      clear his2
      go_wp2
      go_roundw
      case rel => exact ⟨j + 1, by omega, by go_num, HN2.out, HX.out⟩
      case measure => simp [intOf]; omega
     ·clear his2
      go_wp2
      go_roundw
      case rel => exact ⟨j + 1, by omega, by go_num, HN2.out, HX.out⟩
      case measure => simp [intOf]; omega
   ·obtain rfl : j = len := by omega
    have HF : Hid (ls.findIdx? (isNamed ss ii) = none) := findIdx_no (by have := HNO.out; rwa [List.take_of_length_le (by rw [HLEN.out]; exact Nat.le_refl _)] at this)
    go_wp2
    go_ret
    exact ⟨by rw [HFi.out, HF.out]; rfl, HX.out⟩
theorem refCode_c (c : Int) (w : World) : Calls Tryz.prog 176 #[.int .i64 c] w fun e w' => e = .returned (replyV c 0 0 (.slice none 0 0)) /\ Ext w w' := by
 unfold replyV
 go_enter Tryz.func176, Tryz.ntmps176
 go_wp2
 refine bodyPost_ret (v := .agg #[.int .i64 c, .int .i64 0, .int .i64 0, .slice none 0 0]) (by simp [results, Tryz.results176, go_sem]) rfl ⟨rfl, ?_⟩
 first
  | exact ext4 ((Ext.refl w).alloc _) (Nat.le_refl _) _ _ _ _
  | exact (Ext.refl w).alloc _
end
end Go.Proofs.YtmnjhhachdlmkaaGreat
