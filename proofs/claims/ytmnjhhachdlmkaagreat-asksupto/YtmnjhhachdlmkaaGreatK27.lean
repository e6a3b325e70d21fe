import Derived.Test.YtmnjhhachdlmkaaGreatK26
namespace Go.Proofs.YtmnjhhachdlmkaaGreat
open World renaming block_lt_of_cell? -> lG
open Value renaming ownBlock -> lH
-- JAb
section
set_option maxRecDepth 100000
set_option maxHeartbeats 800000
open Go.RowKit Go.Maps
theorem check_no (k s i ck cm cl cn f c p : Int) (h1 : (k == 1) = false) (h2 : (k == 2) = false) (h3 : (k == 3) = false) (h4 : (k == 4) = false) (w : World) :
  Calls Tryz.prog 55 #[.agg #[.int .i64 k, .int .i64 s, .int .i64 i, .int .i64 ck, .int .i64 cm, .int .i64 cl, .int .i64 cn, .int .i64 f, .int .i64 c, .int .i64 p]] w fun e w' =>
   e = .returned (.tuple #[.nilIface, .int .i64 1]) /\ Ext w w' := by
 go_enter Tryz.func55, Tryz.ntmps55
 go_wp2_with (go_at_call 84; refine (ofKind_no k s i ck cm cl cn f c p h1 h2 h3 h4 _).mono ?_; rintro e w1 ⟨rfl, hx⟩)
 have HX : Ext w w1 := (Ext.refl w).alloc _ |>.trans hx
 clear hx
 go_quiet (fail)
 go_wp2
 go_ret2
 exact ⟨rfl, HX.drewN _⟩
/-- The dealer answers so. -/
def AskDoes (A : Ans) (B : Nat) (F : Nat -> Prop) (R : List StkR) (ls : List LsV) (ops : List OpV) (req : Value) (w : World) : Prop :=
 Calls Tryz.prog 20 #[.pointer (some ⟨B, 0, none⟩), req] w fun e w'' => ∃ ra rl rc R' ls' F' new, e = .returned (replyV A.c A.f A.n (.slice ra rl rc)) /\ AskSo A w w'' B F R ls ops (.slice ra rl rc) R' ls' F' new
def RefDoes (A : Ans) (G : Nat -> Prop) (q : Nat) (req : Value) (w : World) : Prop :=
 Calls Tryz.prog 149 #[.pointer (some ⟨q, 0, none⟩), req] w fun e w'' => ∃ pv v, e = .returned (.tuple #[pv, replyV A.c A.f A.n v]) /\ RefSo G A w w'' pv v
section
variable {w : World} {B q : Nat} {G F : Nat -> Prop} {R : List StkR} {ls : List LsV} {ops : List OpV} {req : Value}
theorem does_quiet {c0 f0 n0 : Int} (hst : StoreOk w B F R ls ops) (h : Answers 20 #[.pointer (some ⟨B, 0, none⟩), req] w (PQuiet c0 f0 n0)) : AskDoes ⟨c0, f0, n0, [], none⟩ B F R ls ops req w := by
 refine Calls.mono h ?_
 rintro e w' ⟨c, f, n, a, l, cap, he, rfl, rfl, rfl, hv, hx⟩
 rw [hv] at he
 exact ⟨none, 0, 0, R, ls, F, [], he, World.ownsRow_nil _ _ _ _, by rw [List.append_nil]; exact hst.ext hx, Turn.of_ext hx, fun b hb => .inl hb, fun b hb => by simp [lH] at hb, .inl ⟨rfl, rfl, rfl, rfl⟩⟩
theorem does_words {f0 n0 : Int} {zs : List Int} (hst : StoreOk w B F R ls ops) (h : Answers 20 #[.pointer (some ⟨B, 0, none⟩), req] w (PWords f0 n0 zs)) : AskDoes ⟨0, f0, n0, zs, none⟩ B F R ls ops req w := by
 refine Calls.mono h ?_
 rintro e w' ⟨c, f, n, a, l, cap, he, rfl, rfl, rfl, hv, hx⟩
 exact ⟨a, l, cap, R, ls, F, [], he, hv, by rw [List.append_nil]; exact hst.ext hx, Turn.of_ext hx, fun b hb => .inl hb, fun b hb hf => by
  have h1 := (World.ownsRow.lt hv b hb).1
  have h2 := hst.lt b hf
  omega, .inl ⟨rfl, rfl, rfl, rfl⟩⟩
theorem does_change {f0 n0 ah : Int} {R' : List StkR} {ls' : List LsV} (hst : StoreOk w B F R ls ops) (hl : 1 <= ls'.length) (h : Answers 20 #[.pointer (some ⟨B, 0, none⟩), req] w (PChange B F ah ops R' ls' f0 n0)) : AskDoes ⟨0, f0, n0, [], some (R'.map StkR.abs, ls')⟩ B F R ls ops req w := by
 refine Calls.mono h ?_
 rintro e w' ⟨c, f, n, a, l, cap, he, rfl, rfl, rfl, hv, sv', lv', dv', new, hso, hnew, ht⟩
 rw [hv] at he
 refine ⟨none, 0, 0, R', ls', grow F w w', new, he, World.ownsRow_nil _ _ _ _, ⟨⟨sv', lv', dv', ah, true, hso, .inr hl, .inr ?_, .inl rfl⟩, fun o ho => ?_⟩, ht, fun b hb => hb.imp id (fun h => h.1), fun b hb => by simp [lH] at hb, .inr ⟨rfl, hnew.1, hnew.2.1, rfl⟩⟩
 ·have : 0 < new.length := List.length_pos_iff.2 hnew.1
  rw [List.length_append]; omega
 ·rcases List.mem_append.1 ho with ho | ho
  ·exact hst.kinds o ho
  ·exact hnew.2.2 o ho
end
def vl (l : List Int) : Nat -> Int := fun j => l.getD j 0
theorem fit1 (s i kd m k n c : Int) : fitB (vl [s, i, kd, m, k, n, c]) leaseL = true ↔ inB s i kd m k n 0 c 0 true = true := by
 simp [fitB, leaseL, vl, inB, isNum, isByt]
 omega
theorem fit2 (s kd m k n f c p : Int) : fitB (vl [s, kd, m, k, n, f, c, p]) fetchL = true ↔ inB s 0 kd m k n f c p true = true := by
 simp [fitB, fetchL, vl, inB, isNum, isByt]
 omega
theorem fit3 (s i : Int) : fitB (vl [s, i]) releaseL = true ↔ inB s i 0 0 0 0 0 0 0 true = true := by
 simp [fitB, releaseL, vl, inB, isNum, isByt]
theorem fit4 (kd m k n : Int) : fitB (vl [kd, m, k, n]) statusL = true ↔ inB 0 0 kd m k n 0 0 0 true = true := by
 simp [fitB, statusL, vl, inB, isNum, isByt]
 omega
theorem no_fit {a b : Bool} (h : a = true ↔ b = true) (hb : b = false) : a = false := by
 cases a
 ·rfl
 ·rw [h.1 rfl] at hb; cases hb
theorem bad_both {kk s i kd m k n f c p : Int} (hck : ∀ w', Calls Tryz.prog 55 #[.agg #[.int .i64 kk, .int .i64 s, .int .i64 i, .int .i64 kd, .int .i64 m, .int .i64 k, .int .i64 n, .int .i64 f, .int .i64 c, .int .i64 p]] w' fun e w'' => e = .returned (.tuple #[.nilIface, .int .i64 1]) /\ Ext w' w'') (hR : ∀ w', Calls Tryz.prog 153 #[reqV kk s i kd m k n f c p] w' fun e w'' => e = .returned (.bool false) /\ Ext w' w'') {R : List StkR} {ls : List LsV} {ops : List OpV} :
  (∀ w B F, StoreOk w B F R ls ops -> AskDoes (.code 1) B F R ls ops (reqV kk s i kd m k n f c p) w) /\ (∀ w G q, RefAt w G q (R.map StkR.abs) ls -> (∀ b, G b -> b < w.heap.size) -> RefDoes (.code 1) G q (reqV kk s i kd m k n f c p) w) :=
 ⟨fun w B _F hst => does_quiet hst (quiet_of (askBad_c B kk s i kd m k n f c p w (fun w' _ => hck w'))), fun w _G q _ hG => askedBad_c q kk s i kd m k n f c p hR w hG⟩
theorem both_code {c0 : Int} {s i kd m k n f c p kk : Int} {R : List StkR} {ls : List LsV} {ops : List OpV} (h1 : ∀ w B F, StoreOk w B F R ls ops -> AskDoes (.code c0) B F R ls ops (reqV kk s i kd m k n f c p) w) (h2 : ∀ w G q, RefAt w G q (R.map StkR.abs) ls -> (∀ b, G b -> b < w.heap.size) -> RefDoes (.code c0) G q (reqV kk s i kd m k n f c p) w) (hc : c0 ≠ 10) :
  ∃ A : Ans, A.c ≠ 10 /\ A.zs.length <= 100000000 /\ (∀ w B F, StoreOk w B F R ls ops -> AskDoes A B F R ls ops (reqV kk s i kd m k n f c p) w) /\ (∀ w G q, RefAt w G q (R.map StkR.abs) ls -> (∀ b, G b -> b < w.heap.size) -> RefDoes A G q (reqV kk s i kd m k n f c p) w) /\ ∀ S' ls', A.next = some (S', ls') -> InvS S' ls' :=
 ⟨.code c0, hc, by simp [Ans.code], h1, h2, fun S' ls' h => by simp [Ans.code] at h⟩
theorem refSo_quiet {G : Nat -> Prop} (c f n : Int) {w w' : World} (hx : Ext w w') : RefSo G ⟨c, f, n, [], none⟩ w w' (.pointer none) (.slice none 0 0) := ⟨World.ownsRow_nil _ _ _ _, hx, .inl ⟨rfl, rfl⟩⟩
theorem is_eqs {x : Stk} {kd m k n : Int} (h : x.is kd m k n = true) : (x.kd : Int) = kd /\ (x.m : Int) = m /\ (x.k : Int) = k /\ (x.n : Int) = n := by
 simp [Stk.is] at h
 exact ⟨h.1, h.2.1, h.2.2.1, h.2.2.2⟩
section
variable {R : List StkR} {ls : List LsV} {ops : List OpV}
abbrev BothDo (R : List StkR) (ls : List LsV) (ops : List OpV) (req : Value) : Prop :=
 ∃ A : Ans, A.c ≠ 10 /\ A.zs.length <= 100000000 /\ (∀ w B F, StoreOk w B F R ls ops -> AskDoes A B F R ls ops req w) /\ (∀ w G q, RefAt w G q (R.map StkR.abs) ls -> (∀ b, G b -> b < w.heap.size) -> RefDoes A G q req w) /\ ∀ S' ls', A.next = some (S', ls') -> InvS S' ls'
/-- Lease. -/
theorem both_lease (hI : InvS (R.map StkR.abs) ls) (hops : ops.length <= 1000000) (s i kd m k n f c p : Int) : BothDo R ls ops (reqV 1 s i kd m k n f c p) := by
 have hsm := hI.small
 cases hin : inB s i kd m k n f c p (f == 0 && p == 0) with
 | false =>
  have hR : ∀ w', Calls Tryz.prog 153 #[reqV 1 s i kd m k n f c p] w' fun e w'' => e = .returned (.bool false) /\ Ext w' w'' := fun w' => by
   have := right_1 s i kd m k n f c p w'
   rw [hin] at this
   exact this
  cases hz : (f == 0 && p == 0) with
  | false =>
   have hb := bad_both (R := R) (ls := ls) (ops := ops) (fun w' => check_1a s i kd m k n f c p (by
    simp at hz ⊢
    intro h1 h2
    exact hz h1.symm h2.symm) w') hR
   exact both_code hb.1 hb.2 (by decide)
  | true =>
   simp at hz
   obtain ⟨rfl, rfl⟩ := hz
   have hb := bad_both (R := R) (ls := ls) (ops := ops) (fun w' => (check_1b s i kd m k n c (vl [s, i, kd, m, k, n, c]) ⟨rfl, rfl, rfl, rfl, rfl, rfl, rfl⟩ w').mono (fun e w'' h => by
    rcases h with ⟨h, _⟩ | ⟨_, h⟩
    ·rw [no_fit (fit1 s i kd m k n c) (by simpa using hin)] at h; cases h
    ·exact h)) hR
   exact both_code hb.1 hb.2 (by decide)
 | true =>
  have hR : ∀ w', Calls Tryz.prog 153 #[reqV 1 s i kd m k n f c p] w' fun e w'' => e = .returned (.bool true) /\ Ext w' w'' := fun w' => by
   have := right_1 s i kd m k n f c p w'
   rw [hin] at this
   exact this
  obtain ⟨rfl, rfl⟩ : f = 0 /\ p = 0 := by
   simp [inB] at hin
   exact ⟨hin.2.2.2.2.2.2.2.2.2.1, hin.2.2.2.2.2.2.2.2.2.2⟩
  have hfit : fitB (vl [s, i, kd, m, k, n, c]) leaseL = true := (fit1 s i kd m k n c).2 (by simpa using hin)
  have hrg : (0 <= s /\ s <= 2147483647) /\ (0 <= i /\ i <= 2147483647) /\ (0 <= c /\ c <= 2147483647) /\ (0 <= kd /\ kd < 256) /\ (0 <= m /\ m < 256) /\ (0 <= k /\ k < 256) /\ (0 <= n /\ n < 256) := by
   simp [inB, isNum_iff, isByt_iff] at hin
   omega
  have hSl : (R.map StkR.abs).length <= 100 := by have := hI.stocks; omega
  have hSm : ∀ x ∈ R.map StkR.abs, x.ts.length <= 1000 /\ x.leased <= 1000 := fun x hx => by have := hI.made x hx; omega
  have hll : ls.length <= 900 := by have := hI.leases; omega
  cases hf : ls.findIdx? (isNamed s i) with
  | some ix =>
   obtain ⟨hix, _⟩ := find_idx hf
   refine ⟨if beforeCode ls[ix] kd m k n c then ⟨0, ls[ix].f, ls[ix].c, [], none⟩ else .code 6, ?_, ?_, fun w B F hst => ?_, fun w G q hr hG => ?_, fun S' ls' h => ?_⟩
   ·split <;> simp [Ans.code]
   ·split <;> simp [Ans.code]
   ·obtain ⟨sv, lv, dv, ah, kn, h1, _⟩ := hst.ex
    have := askLeaseSome_c s i kd m k n c ix hsm hix hf (vl [s, i, kd, m, k, n, c]) ⟨rfl, rfl, rfl, rfl, rfl, rfl, rfl⟩ hfit w h1
    split
    ·rename_i hb
     rw [if_pos hb] at this
     exact does_quiet hst this
    ·rename_i hb
     rw [if_neg hb] at this
     exact does_quiet hst this
   ·refine askedLease_c _ q 1 s i kd m k n 0 c 0 rfl hR w hG (fun w' hx => (refLeasingSome_c q ix (R.map StkR.abs) ls 1 s i kd m k n 0 c 0 (by omega) hix hf w' (hr.ext hx)).mono ?_)
    rintro e w'' ⟨he, hx'⟩
    split at he
    ·rename_i hb
     simp only [if_pos hb]
     exact ⟨none, none, 0, 0, he, refSo_quiet _ _ _ hx'⟩
    ·rename_i hb
     simp only [if_neg hb]
     exact ⟨none, none, 0, 0, he, refSo_quiet _ _ _ hx'⟩
   ·split at h <;> simp [Ans.code] at h
  | none =>
   by_cases hcd : leaseCodeS (R.map StkR.abs) ls kd m k n c = 0
   ·have hcd' := hcd
    cases hfx : (R.map StkR.abs).findIdx? (fun x => x.is kd m k n) with
    | none =>
     unfold leaseCodeS at hcd
     rw [find_none_idx hfx] at hcd
     simp at hcd
    | some ix =>
     obtain ⟨hix, hfi⟩ := find_idx hfx
     have hixR : ix < R.length := by simpa using hix
     have hfxR : R.find? (fun x => x.is kd m k n) = some R[ix] := by
      rw [idx_abs] at hfx
      obtain ⟨_, h2⟩ := find_idx hfx
      exact h2
     have hc40 : 1 <= c /\ c <= 40 := by
      unfold leaseCodeS at hcd
      rw [hfi] at hcd
      simp only at hcd
      split at hcd
      ·simp at hcd
      ·omega
     obtain ⟨cn, rfl⟩ := Int.eq_ofNat_of_zero_le (show 0 <= c by omega)
     obtain ⟨sn, rfl⟩ := Int.eq_ofNat_of_zero_le hrg.1.1
     obtain ⟨im, rfl⟩ := Int.eq_ofNat_of_zero_le hrg.2.1.1
     obtain ⟨kdn, rfl⟩ := Int.eq_ofNat_of_zero_le hrg.2.2.2.1.1
     obtain ⟨mn, rfl⟩ := Int.eq_ofNat_of_zero_le hrg.2.2.2.2.1.1
     obtain ⟨kn', rfl⟩ := Int.eq_ofNat_of_zero_le hrg.2.2.2.2.2.1.1
     obtain ⟨nn, rfl⟩ := Int.eq_ofNat_of_zero_le hrg.2.2.2.2.2.2.1
     have hab : (R.map StkR.abs)[ix] = R[ix].abs := by simp
     have hset : (R.set ix (R[ix].lend cn)).map StkR.abs = (R.map StkR.abs).set ix ((R.map StkR.abs)[ix].lend cn) := by
      rw [List.map_set, hab]; rfl
     have hlsd : (R.map StkR.abs)[ix].leased = R[ix].leased := by rw [hab]; rfl
     refine ⟨⟨0, R[ix].leased, cn, [], some ((R.set ix (R[ix].lend cn)).map StkR.abs, ls ++ [⟨sn, im, kdn, mn, kn', nn, R[ix].leased, cn, false⟩])⟩, by simp, by simp, fun w B F hst => ?_, fun w G q hr hG => ?_, fun S' ls' h => ?_⟩
     ·obtain ⟨sv, lv, dv, ah, kn, h1, _, _, h4⟩ := hst.ex
      have hkn : kn = true := by
       rcases h4 with h4 | ⟨h4, _⟩
       ·exact h4
       ·rw [h4] at hixR; simp at hixR
      subst hkn
      exact does_change hst (by simp) (askLease_c sn im kdn mn kn' nn cn ix hsm hops hf (by rw [leaseCode_abs]; exact hcd') hixR hfxR (by omega) (by omega) (by omega) (by omega) w h1)
     ·refine askedLease_c _ q 1 sn im kdn mn kn' nn 0 cn 0 rfl hR w hG (fun w' hx => (refLeasing_c q ix cn (R.map StkR.abs) ls 1 sn im kdn mn kn' nn 0 0 hSl hSm hll hf hix hfx hcd' w' (fun b hb => Nat.lt_of_lt_of_le (hG b hb) hx.le) (hr.ext hx)).mono ?_)
      rintro e w'' ⟨q', he, hra, hx'⟩
      rw [hlsd] at he hra
      exact ⟨some ⟨q', 0, none⟩, none, 0, 0, he, World.ownsRow_nil _ _ _ _, hx', .inr ⟨_, _, q', rfl, rfl, by rw [hset]; exact hra⟩⟩
     ·injection h with h
      injection h with h1 h2
      subst h1 h2
      rw [hset, <- hlsd]
      exact hI.lease hix hfx hcd'
   ·have hc10 : leaseCodeS (R.map StkR.abs) ls kd m k n c ≠ 10 := by
     unfold leaseCodeS
     split
     ·decide
     ·split
      ·decide
      ·split
       ·decide
       ·split <;> decide
    refine both_code (c0 := leaseCodeS (R.map StkR.abs) ls kd m k n c) (fun w B F hst => ?_) (fun w G q hr hG => ?_) hc10
    ·obtain ⟨sv, lv, dv, ah, kn, h1, _⟩ := hst.ex
     have := askLeaseNo_c s i kd m k n c hsm hf (by rw [leaseCode_abs]; exact hcd) (vl [s, i, kd, m, k, n, c]) ⟨rfl, rfl, rfl, rfl, rfl, rfl, rfl⟩ hfit w h1
     rw [leaseCode_abs] at this
     exact does_quiet hst this
    ·refine askedLease_c _ q 1 s i kd m k n 0 c 0 rfl hR w hG (fun w' hx => (refLeasingNo_c q (R.map StkR.abs) ls 1 s i kd m k n 0 c 0 hSl hSm (by omega) hf hcd w' (hr.ext hx)).mono ?_)
     rintro e w'' ⟨he, hx'⟩
     exact ⟨none, none, 0, 0, he, refSo_quiet _ _ _ hx'⟩
end
end
-- JAc
section
open Go.RowKit Go.Maps
section
variable {R : List StkR} {ls : List LsV} {ops : List OpV}
/-- Status. -/
theorem both_status (hI : InvS (R.map StkR.abs) ls) (s i kd m k n f c p : Int) : BothDo R ls ops (reqV 4 s i kd m k n f c p) := by
 have hsm := hI.small
 have hSl : (R.map StkR.abs).length <= 100 := by have := hI.stocks; omega
 cases hin : inB s i kd m k n f c p (s == 0 && (i == 0 && (f == 0 && (c == 0 && p == 0)))) with
 | false =>
  have hR : ∀ w', Calls Tryz.prog 153 #[reqV 4 s i kd m k n f c p] w' fun e w'' => e = .returned (.bool false) /\ Ext w' w'' := fun w' => by
   have := right_4 s i kd m k n f c p w'
   rw [hin] at this
   exact this
  cases hz : (s == 0 && (i == 0 && (f == 0 && (c == 0 && p == 0)))) with
  | false =>
   have hb := bad_both (R := R) (ls := ls) (ops := ops) (fun w' => check_4a s i kd m k n f c p (by
    simp at hz ⊢
    intro h1 h2 h3 h4 h5
    exact hz h1.symm h2.symm h3.symm h4.symm h5.symm) w') hR
   exact both_code hb.1 hb.2 (by decide)
  | true =>
   simp at hz
   obtain ⟨rfl, rfl, rfl, rfl, rfl⟩ := hz
   have hb := bad_both (R := R) (ls := ls) (ops := ops) (fun w' => (check_4b kd m k n (vl [kd, m, k, n]) ⟨rfl, rfl, rfl, rfl⟩ w').mono (fun e w'' h => by
    rcases h with ⟨h, _⟩ | ⟨_, h⟩
    ·rw [no_fit (fit4 kd m k n) (by simpa using hin)] at h; cases h
    ·exact h)) hR
   exact both_code hb.1 hb.2 (by decide)
 | true =>
  have hR : ∀ w', Calls Tryz.prog 153 #[reqV 4 s i kd m k n f c p] w' fun e w'' => e = .returned (.bool true) /\ Ext w' w'' := fun w' => by
   have := right_4 s i kd m k n f c p w'
   rw [hin] at this
   exact this
  obtain ⟨rfl, rfl, rfl, rfl, rfl⟩ : s = 0 /\ i = 0 /\ f = 0 /\ c = 0 /\ p = 0 := by
   simp [inB] at hin
   exact hin.2.2.2.2.2.2.2.2.2
  have hfit : fitB (vl [kd, m, k, n]) statusL = true := (fit4 kd m k n).2 (by simpa using hin)
  cases hfx : (R.map StkR.abs).findIdx? (fun x => x.is kd m k n) with
  | none =>
   have hfR : R.find? (fun x => x.is kd m k n) = none := by
    rw [idx_abs] at hfx
    exact find_none_idx hfx
   refine both_code (c0 := 2) (fun w B F hst => ?_) (fun w G q hr hG => askedStatusNo_c q (R.map StkR.abs) ls 4 0 0 kd m k n 0 0 0 rfl hR hSl hfx w hG hr) (by decide)
   obtain ⟨sv, lv, dv, ah, kn, h1, _⟩ := hst.ex
   have := askStatus_c kd m k n hsm (vl [kd, m, k, n]) ⟨rfl, rfl, rfl, rfl⟩ hfit w h1
   rw [hfR] at this
   exact does_quiet hst this
  | some ix =>
   obtain ⟨hix, hfi⟩ := find_idx hfx
   have hixR : ix < R.length := by simpa using hix
   have hfR : R.find? (fun x => x.is kd m k n) = some R[ix] := by
    rw [idx_abs] at hfx
    obtain ⟨_, h2⟩ := find_idx hfx
    exact h2
   have hab : (R.map StkR.abs)[ix] = R[ix].abs := by simp
   refine ⟨⟨0, R[ix].leased, R[ix].ts.length, [], none⟩, by simp, by simp, fun w B F hst => ?_, fun w G q hr hG => ?_, fun S' ls' h => by simp at h⟩
   ·obtain ⟨sv, lv, dv, ah, kn, h1, _⟩ := hst.ex
    have := askStatus_c kd m k n hsm (vl [kd, m, k, n]) ⟨rfl, rfl, rfl, rfl⟩ hfit w h1
    rw [hfR] at this
    exact does_quiet hst this
   ·have := askedStatus_c q ix (R.map StkR.abs) ls 4 0 0 kd m k n 0 0 0 rfl hR hSl hix hfx w hG hr
    rw [hab] at this
    exact this
/-- Release. -/
theorem both_release (hI : InvS (R.map StkR.abs) ls) (hops : ops.length <= 1000000) (s i kd m k n f c p : Int) : BothDo R ls ops (reqV 3 s i kd m k n f c p) := by
 have hsm := hI.small
 have hSl : (R.map StkR.abs).length <= 100 := by have := hI.stocks; omega
 have hll : ls.length <= 900 := by have := hI.leases; omega
 cases hin : inB s i kd m k n f c p ((kd == 0 && (m == 0 && (k == 0 && n == 0))) && (f == 0 && (c == 0 && p == 0))) with
 | false =>
  have hR : ∀ w', Calls Tryz.prog 153 #[reqV 3 s i kd m k n f c p] w' fun e w'' => e = .returned (.bool false) /\ Ext w' w'' := fun w' => by
   have := right_3 s i kd m k n f c p w'
   rw [hin] at this
   exact this
  cases hz : ((kd == 0 && (m == 0 && (k == 0 && n == 0))) && (f == 0 && (c == 0 && p == 0))) with
  | false =>
   have hb := bad_both (R := R) (ls := ls) (ops := ops) (fun w' => check_3a s i kd m k n f c p (by
    cases hq : ((0 == kd && (0 == m && (0 == k && 0 == n))) && (0 == f && (0 == c && 0 == p)))
    ·rfl
    ·simp at hq
     obtain ⟨⟨rfl, rfl, rfl, rfl⟩, rfl, rfl, rfl⟩ := hq
     simp at hz) w') hR
   exact both_code hb.1 hb.2 (by decide)
  | true =>
   simp at hz
   obtain ⟨⟨rfl, rfl, rfl, rfl⟩, rfl, rfl, rfl⟩ := hz
   have hb := bad_both (R := R) (ls := ls) (ops := ops) (fun w' => (check_3b s i (vl [s, i]) ⟨rfl, rfl⟩ w').mono (fun e w'' h => by
    rcases h with ⟨h, _⟩ | ⟨_, h⟩
    ·rw [no_fit (fit3 s i) (by simpa using hin)] at h; cases h
    ·exact h)) hR
   exact both_code hb.1 hb.2 (by decide)
 | true =>
  have hR : ∀ w', Calls Tryz.prog 153 #[reqV 3 s i kd m k n f c p] w' fun e w'' => e = .returned (.bool true) /\ Ext w' w'' := fun w' => by
   have := right_3 s i kd m k n f c p w'
   rw [hin] at this
   exact this
  obtain ⟨⟨rfl, rfl, rfl, rfl⟩, rfl, rfl, rfl⟩ : (kd = 0 /\ m = 0 /\ k = 0 /\ n = 0) /\ f = 0 /\ c = 0 /\ p = 0 := by
   simp [inB] at hin
   exact hin.2.2.2.2.2.2.2.2.2
  have hfit : fitB (vl [s, i]) releaseL = true := (fit3 s i).2 (by simpa using hin)
  have hrg : (0 <= s /\ s <= 2147483647) /\ (0 <= i /\ i <= 2147483647) := by
   simp [inB, isNum_iff, isByt_iff] at hin
   omega
  by_cases hcd : releaseCode ls s i = 0
  ·cases hf : ls.findIdx? (isNamed s i) with
   | none =>
    unfold releaseCode at hcd
    rw [find_none_idx hf] at hcd
    simp at hcd
   | some ix =>
    obtain ⟨hix, hfi⟩ := find_idx hf
    have hrel : ls[ix].r = false := by
     unfold releaseCode at hcd
     rw [hfi] at hcd
     simp only at hcd
     cases hq : ls[ix].r
     ·rfl
     ·rw [hq] at hcd; simp at hcd
    obtain ⟨sn, rfl⟩ := Int.eq_ofNat_of_zero_le hrg.1.1
    obtain ⟨im, rfl⟩ := Int.eq_ofNat_of_zero_le hrg.2.1
    refine ⟨⟨0, ls[ix].f, ls[ix].c, [], some (R.map StkR.abs, ls.set ix ls[ix].free)⟩, by simp, by simp, fun w B F hst => ?_, fun w G q hr hG => ?_, fun S' ls' h => ?_⟩
    ·obtain ⟨sv, lv, dv, ah, kn, h1, _, _, h4⟩ := hst.ex
     have hkn : kn = true := by
      rcases h4 with h4 | ⟨_, h4, _⟩
      ·exact h4
      ·subst h4; simp at hix
     subst hkn
     exact does_change hst (by simp; omega) (askRelease_c sn im ix hsm hops hcd hix hf (by omega) (by omega) w h1)
    ·refine askedRelease_c _ q 3 sn im 0 0 0 0 0 0 0 rfl hR w hG (fun w' hx => (refReleasing_c q ix (R.map StkR.abs) ls 3 sn im 0 0 0 0 0 0 0 hSl (by omega) hix hf hrel w' (fun b hb => Nat.lt_of_lt_of_le (hG b hb) hx.le) (hr.ext hx)).mono ?_)
     rintro e w'' ⟨q', he, hra, hx'⟩
     exact ⟨some ⟨q', 0, none⟩, none, 0, 0, he, World.ownsRow_nil _ _ _ _, hx', .inr ⟨_, _, q', rfl, rfl, hra⟩⟩
    ·injection h with h
     injection h with h1 h2
     subst h1 h2
     exact hI.free hix
  ·have h8 : releaseCode ls s i = 8 := by
    unfold releaseCode at hcd ⊢
    split
    ·rfl
    ·rename_i l hl
     rw [hl] at hcd
     simp only at hcd ⊢
     split
     ·rfl
     ·rename_i hq
      rw [if_neg hq] at hcd
      exact absurd rfl hcd
   refine both_code (c0 := 8) (fun w B F hst => ?_) (fun w G q hr hG => ?_) (by decide)
   ·obtain ⟨sv, lv, dv, ah, kn, h1, _⟩ := hst.ex
    have := askReleaseNo_c s i hsm hcd (vl [s, i]) ⟨rfl, rfl⟩ hfit w h1
    rw [h8] at this
    exact does_quiet hst this
   ·refine askedRelease_c _ q 3 s i 0 0 0 0 0 0 0 rfl hR w hG (fun w' hx => (refReleasingNo_c q (R.map StkR.abs) ls 3 s i 0 0 0 0 0 0 0 (by omega) hcd w' (hr.ext hx)).mono ?_)
    rintro e w'' ⟨he, hx'⟩
    exact ⟨none, none, 0, 0, he, refSo_quiet _ _ _ hx'⟩
theorem share_len {x : Stk} {p : Int} {j L : Nat} (hj : j < x.ts.length) (hl : x.ts[j].1.length = x.each) (hL : L = x.sh.x + x.sh.y + x.sh.z) : (sharesW x p j).length = L := by
 have hge : (x.ts.getD j ([], false)).1 = x.ts[j].1 := by
  rw [List.getD_eq_getElem?_getD, List.getElem?_eq_getElem hj]; rfl
 have hl' : x.ts[j].1.length = x.sh.x + x.sh.y + (x.sh.x + x.sh.y + x.sh.z) := hl
 have hp0 : (part0 x.sh x.ts[j].1).length = L := by rw [part0, List.length_drop]; omega
 have hp1 : (part1 x.sh x.ts[j].1).length = L := by rw [part1, List.length_zipWith, whole_len _ _ hl', hp0]; omega
 rw [sharesW, hge]
 split
 ·exact hp0
 ·exact hp1
theorem fetched_len {x : Stk} {p : Int} {f L c : Nat} (h : ∀ i : Nat, (hi : i < c) -> (sharesW x p (f + i)).length = L) : ∀ j, j <= c -> (fetched x p f j).length = j * L
 | 0, _ => by simp [fetched]
 | j + 1, hj => by rw [fetched_succ, List.length_append, fetched_len h j (by omega), h j (by omega), Nat.add_mul, Nat.one_mul]
/-- Fetch. -/
theorem both_fetch (hI : InvS (R.map StkR.abs) ls) (s i kd m k n f c p : Int) : BothDo R ls ops (reqV 2 s i kd m k n f c p) := by
 have hsm := hI.small
 have hSl : (R.map StkR.abs).length <= 100 := by have := hI.stocks; omega
 have hll : ls.length <= 900 := by have := hI.leases; omega
 cases hin : inB s i kd m k n f c p (i == 0) with
 | false =>
  have hR : ∀ w', Calls Tryz.prog 153 #[reqV 2 s i kd m k n f c p] w' fun e w'' => e = .returned (.bool false) /\ Ext w' w'' := fun w' => by
   have := right_2 s i kd m k n f c p w'
   rw [hin] at this
   exact this
  cases hz : (i == 0) with
  | false =>
   have hb := bad_both (R := R) (ls := ls) (ops := ops) (fun w' => check_2a s i kd m k n f c p (by
    simp at hz ⊢
    exact fun h => hz h.symm) w') hR
   exact both_code hb.1 hb.2 (by decide)
  | true =>
   simp at hz
   subst hz
   have hb := bad_both (R := R) (ls := ls) (ops := ops) (fun w' => (check_2b s kd m k n f c p (vl [s, kd, m, k, n, f, c, p]) ⟨rfl, rfl, rfl, rfl, rfl, rfl, rfl, rfl⟩ w').mono (fun e w'' h => by
    rcases h with ⟨h, _⟩ | ⟨_, h⟩
    ·rw [no_fit (fit2 s kd m k n f c p) (by simpa using hin)] at h; cases h
    ·exact h)) hR
   exact both_code hb.1 hb.2 (by decide)
 | true =>
  have hR : ∀ w', Calls Tryz.prog 153 #[reqV 2 s i kd m k n f c p] w' fun e w'' => e = .returned (.bool true) /\ Ext w' w'' := fun w' => by
   have := right_2 s i kd m k n f c p w'
   rw [hin] at this
   exact this
  obtain rfl : i = 0 := by
   simp [inB] at hin
   exact hin.2.2.2.2.2.2.2.2.2
  have hfit : fitB (vl [s, kd, m, k, n, f, c, p]) fetchL = true := (fit2 s kd m k n f c p).2 (by simpa using hin)
  have hrg : (0 <= f /\ f <= 2147483647) /\ (0 <= c /\ c <= 2147483647) /\ (0 <= p /\ p < 256) := by
   simp [inB, isNum_iff, isByt_iff] at hin
   omega
  have hno : ∀ cd : Int, cd ≠ 0 -> cd ≠ 10 -> ((R.find? (fun x => x.is kd m k n) = none /\ cd = 2) \/ ((R.find? (fun x => x.is kd m k n)).isSome /\ cd = fetchCode ls s kd m k n f c p)) -> ((R.map StkR.abs).findIdx? (fun x => x.is kd m k n) = none /\ cd = 2) \/ (∃ ix, (R.map StkR.abs).findIdx? (fun x => x.is kd m k n) = some ix) /\ ((c < 1 \/ 40 < c) /\ cd = 5 \/ 1 <= c /\ c <= 40 /\ 1 < p /\ cd = 9) -> BothDo R ls ops (reqV 2 s 0 kd m k n f c p) := fun cd h0 h10 h1 h2 => by
   refine both_code (c0 := cd) (fun w B F hst => ?_) (fun w G q hr hG => ?_) h10
   ·obtain ⟨sv, lv, dv, ah, kn, hs1, _⟩ := hst.ex
    exact does_quiet hst (askFetchNo_c s kd m k n f c p cd hsm h0 hrg.1.1 hrg.1.2 h1 (vl [s, kd, m, k, n, f, c, p]) ⟨rfl, rfl, rfl, rfl, rfl, rfl, rfl, rfl⟩ hfit w hs1)
   ·refine askedFetch_c _ q 2 s 0 kd m k n f c p rfl hR w hG (fun w' hx => (refFetchNo_c q (R.map StkR.abs) ls 2 s 0 kd m k n f c p cd hSl h2 w' (hr.ext hx)).mono ?_)
    rintro e w'' ⟨he, hx'⟩
    exact ⟨none, 0, 0, he, refSo_quiet _ _ _ hx'⟩
  cases hfx : (R.map StkR.abs).findIdx? (fun x => x.is kd m k n) with
  | none =>
   have hfR : R.find? (fun x => x.is kd m k n) = none := by
    rw [idx_abs] at hfx
    exact find_none_idx hfx
   exact hno 2 (by decide) (by decide) (.inl ⟨hfR, rfl⟩) (.inl ⟨hfx, rfl⟩)
  | some ix =>
   obtain ⟨hix, hfi⟩ := find_idx hfx
   have hixR : ix < R.length := by simpa using hix
   have hfR : R.find? (fun x => x.is kd m k n) = some R[ix] := by
    rw [idx_abs] at hfx
    obtain ⟨_, h2⟩ := find_idx hfx
    exact h2
   have hsome : (R.find? (fun x => x.is kd m k n)).isSome := by rw [hfR]; rfl
   by_cases hcc : c < 1 \/ 40 < c
   ·exact hno 5 (by decide) (by decide) (.inr ⟨hsome, by unfold fetchCode; rw [if_pos hcc]⟩) (.inr ⟨⟨ix, hfx⟩, .inl ⟨hcc, rfl⟩⟩)
   ·by_cases hp1 : 1 < p
    ·exact hno 9 (by decide) (by decide) (.inr ⟨hsome, by unfold fetchCode; rw [if_neg hcc, if_pos (by omega)]⟩) (.inr ⟨⟨ix, hfx⟩, .inr ⟨by omega, by omega, hp1, rfl⟩⟩)
    ·have hpp : p = 0 \/ p = 1 := by omega
     have hab : (R.map StkR.abs)[ix] = R[ix].abs := by simp
     have hmem : R[ix].abs ∈ R.map StkR.abs := List.mem_map.2 ⟨R[ix], List.getElem_mem hixR, rfl⟩
     have hisx : R[ix].abs.is kd m k n = true := by
      have := (List.findIdx?_eq_some_iff_getElem.1 hfx).2.1
      rw [hab] at this
      exact this
     obtain ⟨e1, e2, e3, e4⟩ := is_eqs hisx
     have hcls := hI.cls _ hmem
     obtain ⟨hofc, hok⟩ := shOf_of hcls
     have hle := Sh.le hok
     obtain ⟨L, hL⟩ : ∃ L, L = R[ix].abs.sh.x + R[ix].abs.sh.y + R[ix].abs.sh.z := ⟨_, rfl⟩
     have hLb : 1 <= L /\ L <= 27 := by
      rw [hL]
      show 1 <= (shOf R[ix].abs.kd R[ix].abs.m R[ix].abs.k R[ix].abs.n).x + (shOf R[ix].abs.kd R[ix].abs.m R[ix].abs.k R[ix].abs.n).y + (shOf R[ix].abs.kd R[ix].abs.m R[ix].abs.k R[ix].abs.n).z /\ (shOf R[ix].abs.kd R[ix].abs.m R[ix].abs.k R[ix].abs.n).x + (shOf R[ix].abs.kd R[ix].abs.m R[ix].abs.k R[ix].abs.n).y + (shOf R[ix].abs.kd R[ix].abs.m R[ix].abs.k R[ix].abs.n).z <= 27
      omega
     have hmade := hI.made _ hmem
     have hlen : ∀ j (h : j < R[ix].abs.ts.length), R[ix].abs.ts[j].1.length = R[ix].abs.each := fun j h => (hI.ts _ hmem _ (List.getElem_mem h)).1
     have hkept : ∀ j (h : j < R[ix].abs.ts.length), R[ix].abs.ts[j].2 = true := fun j h => (hI.ts _ hmem _ (List.getElem_mem h)).2
     have hfiA : (R.map StkR.abs).find? (fun x => x.is kd m k n) = some R[ix].abs := by rw [hfi, hab]
     have hinj : ∀ j : Nat, ls.any (holdsP s kd m k n j) = true -> j < R[ix].abs.ts.length := fun j hj => by
      have := held_in hI hfiA hj
      omega
     obtain ⟨fn, rfl⟩ := Int.eq_ofNat_of_zero_le hrg.1.1
     obtain ⟨cn, rfl⟩ := Int.eq_ofNat_of_zero_le hrg.2.1.1
     have href : ∀ w G q, RefAt w G q (R.map StkR.abs) ls -> _ := fun w G q (hr : RefAt w G q (R.map StkR.abs) ls) => refFetch_c q ix fn cn L (R.map StkR.abs) ls 2 s 0 kd m k n p hSl (by omega) hsm.fc (by omega) (by omega) (by omega) hpp hix hfx (by rw [hab]; exact e1) (by rw [hab]; exact e2) (by rw [hab]; exact e3) (by rw [hab]; exact e4) (by rw [<- e1, <- e2, <- e3, <- e4]; exact hcls) (by rw [hab]; exact hL) hLb.1 hLb.2 (by rw [hab]; omega) (by
      intro j h
      simp only [hab] at h ⊢
      exact hlen j h) (by rw [hab]; exact hinj) w hr
     by_cases hall : ∀ j : Nat, j < cn -> ls.any (holdsP s kd m k n ((fn + j : Nat) : Int)) = true
     ·have h0 := hinj fn (by have := hall 0 (by omega); simpa using this)
      have hcode : fetchCode ls s kd m k n fn cn p = 0 := by
       unfold fetchCode
       rw [if_neg hcc, if_neg (by omega), if_pos]
       intro j hj
       rw [held_eq hI]
       have := hall j (by omega)
       simpa using this
      have hlz : (fetched R[ix].abs p fn cn).length = cn * L := fetched_len (c := cn) (fun j hj => share_len (hinj (fn + j) (hall j hj)) (hlen _ _) hL) cn (Nat.le_refl _)
      have hcL : cn * L <= 40 * 27 := Nat.mul_le_mul (by omega) hLb.2
      refine ⟨⟨0, fn, cn, fetched R[ix].abs p fn cn, none⟩, by simp, by simp only; rw [hlz]; omega, fun w B F hst => ?_, fun w G q hr hG => ?_, fun S' ls' h => by simp at h⟩
      ·obtain ⟨sv, lv, dv, ah, kn, hs1, _⟩ := hst.ex
       exact does_words hst (askFetch_c fn cn L R[ix] s kd m k n p hsm hpp (by have e : R[ix].abs.ts.length = R[ix].ts.length := rfl; omega) (by omega) (by omega) hfR hL hLb.1 hLb.2 hcode (fun j hj => ⟨hinj (fn + j) (hall j hj), hkept _ (hinj (fn + j) (hall j hj))⟩) hlen hlz (vl [s, kd, m, k, n, fn, cn, p]) ⟨rfl, rfl, rfl, rfl, rfl, rfl, rfl, rfl⟩ hfit w hs1)
      ·refine askedFetch_c _ q 2 s 0 kd m k n fn cn p rfl hR w hG (fun w' hx => (href w' G q (hr.ext hx)).mono ?_)
       rintro e w'' (⟨⟨j, hj, hq⟩, _⟩ | ⟨_, v, he, hv, hx'⟩)
       ·rw [hall j hj] at hq; cases hq
       ·rw [hab, <- hlz] at hv
        obtain ⟨va, vc, rfl⟩ := owns_slice hv
        exact ⟨va, _, vc, he, hv, hx', .inl ⟨rfl, rfl⟩⟩
     ·have hcode : fetchCode ls s kd m k n fn cn p = 8 := by
       unfold fetchCode
       rw [if_neg hcc, if_neg (by omega), if_neg]
       intro hh
       apply hall
       intro j hj
       have := hh j (by omega)
       rw [held_eq hI] at this
       simpa using this
      refine both_code (c0 := 8) (fun w B F hst => ?_) (fun w G q hr hG => ?_) (by decide)
      ·obtain ⟨sv, lv, dv, ah, kn, hs1, _⟩ := hst.ex
       exact does_quiet hst (askFetchNo_c s kd m k n fn cn p 8 hsm (by decide) (by omega) (by omega) (.inr ⟨hsome, hcode.symm⟩) (vl [s, kd, m, k, n, fn, cn, p]) ⟨rfl, rfl, rfl, rfl, rfl, rfl, rfl, rfl⟩ hfit w hs1)
      ·refine askedFetch_c _ q 2 s 0 kd m k n fn cn p rfl hR w hG (fun w' hx => (href w' G q (hr.ext hx)).mono ?_)
       rintro e w'' (⟨_, he, hx'⟩ | ⟨hq, _⟩)
       ·exact ⟨none, 0, 0, he, refSo_quiet _ _ _ hx'⟩
       ·exact absurd hq hall
theorem ask_both (hI : InvS (R.map StkR.abs) ls) (hops : ops.length <= 1000000) (kk s i kd m k n f c p : Int) : BothDo R ls ops (reqV kk s i kd m k n f c p) := by
 by_cases h1 : kk = 1
 ·subst h1; exact both_lease hI hops s i kd m k n f c p
 by_cases h2 : kk = 2
 ·subst h2; exact both_fetch hI s i kd m k n f c p
 by_cases h3 : kk = 3
 ·subst h3; exact both_release hI hops s i kd m k n f c p
 by_cases h4 : kk = 4
 ·subst h4; exact both_status hI s i kd m k n f c p
 have hb := bad_both (R := R) (ls := ls) (ops := ops) (kk := kk) (fun w' => check_no kk s i kd m k n f c p (by simpa using h1) (by simpa using h2) (by simpa using h3) (by simpa using h4) w') (fun w' => right_no kk s i kd m k n f c p (by simp [usesOf, h1, h2, h3, h4]) w')
 exact both_code hb.1 hb.2 (by decide)
end
end
-- JRb
section
open Go.RowKit Go.Maps
section
variable {R : List StkR} {ls : List LsV} {ops : List OpV}
theorem StoreOf.wide {F F' : Nat -> Prop} {w : World} {B : Nat} {sv lv dv : Value} {fl : Bool} {ah : Int} {kn : Bool} (h : StoreOf w B F sv lv dv R ls ops fl ah kn) (hf : ∀ b, F b -> F' b) (hl : ∀ b, F' b -> b < w.heap.size) : StoreOf w B F' sv lv dv R ls ops fl ah kn where
 deal := h.deal
 srow := h.srow
 lrow := h.lrow
 orow := h.orow
 stk := fun x hx => (h.stk x hx).mono hf
 nb := h.nb
 nm := h.nm
 fB := hf _ h.fB
 fs := fun q hq => hf _ (h.fs q hq)
 fl' := fun q hq => hf _ (h.fl' q hq)
 fd := fun q hq => hf _ (h.fd q hq)
 lt := hl
theorem cls_nat {kd m k n : Int} (h : isCls kd m k n = true) : 0 <= kd /\ 0 <= m /\ 0 <= k /\ 0 <= n := by
 by_cases h0 : kd = 0
 ·subst h0; rw [isCls_0] at h; simp at h; omega
 ·by_cases h1 : kd = 1
  ·subst h1; rw [isCls_1] at h; simp at h; omega
  ·by_cases h2 : kd = 2
   ·subst h2; rw [isCls_2] at h; simp at h; omega
   ·rw [isCls_no m k n h0 h1 h2] at h; cases h
/-- Both refill alike. -/
abbrev BothFill (R : List StkR) (ls : List LsV) (ops : List OpV) (kd m k n : Int) (a : Option Addr) (len cap : Nat) (D : List Int) : Prop :=
 ∃ A : Ans, A.zs = [] /\ (A.next = none -> A.c ≠ 0) /\
  (∀ w B F gh, StoreOk w B F R ls ops -> WordsAt w gh 0 D -> Calls Tryz.prog 34 #[.pointer (some ⟨B, 0, none⟩), clsV kd m k n, .slice (some ⟨gh, 0, none⟩) len (len + 8)] w fun e w'' => ∃ R' ls' F' new, e = .returned (.int .i64 A.c) /\ AskSo A w w'' B F R ls ops (.slice none 0 0) R' ls' F' new) /\
  (∀ w G q, RefAt w G q (R.map StkR.abs) ls -> (∀ b, G b -> b < w.heap.size) -> DrawsAt w a len D -> Calls Tryz.prog 102 #[.pointer (some ⟨q, 0, none⟩), clsV kd m k n, .slice a len cap] w fun e w'' => ∃ pa, e = .returned (.tuple #[.pointer pa, .int .i64 A.c]) /\ RefSo G A w w'' (.pointer pa) (.slice none 0 0)) /\
  ∀ S' ls', A.next = some (S', ls') -> InvS S' ls'
theorem fill_code {kd m k n : Int} {a : Option Addr} {len cap : Nat} {D : List Int} (c0 : Int) (hc : c0 ≠ 0)
  (h1 : ∀ w B gh F, StoreOk w B F R ls ops -> WordsAt w gh 0 D -> Calls Tryz.prog 65 #[.pointer (some ⟨B, 0, none⟩), clsV kd m k n, .slice (some ⟨gh, 0, none⟩) len (len + 8)] w fun e w'' => e = .returned (.int .i64 c0) /\ Ext w w'')
  (h2 : ∀ w G q, RefAt w G q (R.map StkR.abs) ls -> Calls Tryz.prog 102 #[.pointer (some ⟨q, 0, none⟩), clsV kd m k n, .slice a len cap] w fun e w'' => e = .returned (.tuple #[.pointer none, .int .i64 c0]) /\ Ext w w'') : BothFill R ls ops kd m k n a len cap D := by
 refine ⟨.code c0, rfl, fun _ => hc, fun w B F gh hst hz => ?_, fun w G q hr hG hd => ?_, fun S' ls' h => by simp [Ans.code] at h⟩
 ·refine (dealerRefill_c kd m k n (some ⟨gh, 0, none⟩) len (len + 8) B F w hst.lt (fun w1 w2 c => c = c0 /\ Ext w1 w2) (fun w1 w2 c h => Turn.of_ext h.2) (fun w1 w2 w3 c hx h => ⟨h.1, hx.trans h.2⟩) (fun w' hx => (h1 w' B gh F (hst.ext hx) (hz.ext hx)).mono (fun e w'' h => ⟨c0, h.1, rfl, h.2⟩))).mono ?_
  rintro e w' ⟨c, rfl, rfl, hx⟩
  exact ⟨R, ls, F, [], rfl, World.ownsRow_nil _ _ _ _, by rw [List.append_nil]; exact hst.ext hx, Turn.of_ext hx, fun b hb => .inl hb, fun b hb => by simp [lH] at hb, .inl ⟨rfl, rfl, rfl, rfl⟩⟩
 ·refine (h2 w G q hr).mono ?_
  rintro e w' ⟨he, hx⟩
  exact ⟨none, he, refSo_code G c0 hx⟩
theorem refill_both (hI : InvS (R.map StkR.abs) ls) (hops : ops.length <= 1000000) (kd m k n : Int) (a : Option Addr) (len cap : Nat) (D : List Int) (hD : D.length = len) (hu : inU64 D) (hlen : len <= 100000000) (hcap : len <= cap) : BothFill R ls ops kd m k n a len cap D := by
 have hsm := hI.small
 have hSl : (R.map StkR.abs).length <= 100 := by have := hI.stocks; omega
 cases hcls : isCls kd m k n with
 | false =>
  exact fill_code 2 (by decide) (fun w B gh F _ _ => refillCls_c kd m k n hcls (some ⟨gh, 0, none⟩) len (len + 8) B w) (fun w G q _ => refRefilledCls_c q kd m k n hcls a len cap w)
 | true =>
  obtain ⟨p1, p2, p3, p4⟩ := cls_nat hcls
  obtain ⟨kd, rfl⟩ := Int.eq_ofNat_of_zero_le p1
  obtain ⟨m, rfl⟩ := Int.eq_ofNat_of_zero_le p2
  obtain ⟨k, rfl⟩ := Int.eq_ofNat_of_zero_le p3
  obtain ⟨n, rfl⟩ := Int.eq_ofNat_of_zero_le p4
  obtain ⟨E, hE⟩ : ∃ E, E = (shOf kd m k n).x + (shOf kd m k n).y + ((shOf kd m k n).x + (shOf kd m k n).y + (shOf kd m k n).z) := ⟨_, rfl⟩
  have hle := Sh.le (shOf_of hcls).2
  have hE1 : 1 <= E := by omega
  by_cases hno : len % E ≠ 0 \/ len / E < 1 \/ 12 < len / E
  ·exact fill_code 3 (by decide) (fun w B gh F _ _ => refillDraws_c kd m k n hcls (some ⟨gh, 0, none⟩) len (len + 8) B E hE (by omega) hno w) (fun w G q _ => refRefilledDraws_c q kd m k n hcls a len cap E hE (by omega) hno w)
  ·have hmod : len % E = 0 := by omega
   have hcnt : len = (len / E) * E := by
    have := Nat.div_add_mod len E
    rw [Nat.mul_comm, hmod] at this
    omega
   obtain ⟨cnt, hcn⟩ : ∃ cnt, len / E = cnt := ⟨_, rfl⟩
   rw [hcn] at hno hcnt
   have hSm : ∀ x ∈ R.map StkR.abs, 1 <= x.ts.length /\ x.ts.length <= 1000 := fun x hx => by have := hI.made x hx; omega
   have hkn : ∀ {w : World} {B : Nat} {F : Nat -> Prop} {sv lv dv : Value} {ah : Int} {kn : Bool}, StoreOf w B F sv lv dv R ls ops false ah kn -> (kn = true \/ R = [] /\ ls = [] /\ sv = .slice none 0 0 /\ lv = .slice none 0 0 /\ kn = false) -> (kn = true \/ sv = .slice none 0 0 /\ lv = .slice none 0 0 /\ kn = false) := fun _ h => h.imp id (fun h => ⟨h.2.2.1, h.2.2.2.1, h.2.2.2.2⟩)
   have hu01 : ∀ u, u.length = E -> inU64 u -> inU64 (part0 (shOf kd m k n) u) /\ inU64 (part1 (shOf kd m k n) u) := fun u _ hu => ⟨part0_in _ hu, part1_in _ _⟩
   by_cases hcd : makeCode (R.map StkR.abs) kd m k n cnt = 0
   ·refine ⟨⟨0, 0, 0, [], some (makeS (R.map StkR.abs) kd m k n (chunks D E cnt), ls)⟩, rfl, fun h => by simp at h, fun w B F gh hst hz => ?_, fun w G q hr hG hd => ?_, fun S' ls' h => ?_⟩
    ·obtain ⟨sv, lv, dv, ah, kn, h1, h2, h3, h4⟩ := hst.ex
     refine (dealerRefill_c kd m k n (some ⟨gh, 0, none⟩) len (len + 8) B F w hst.lt (fun w1 w2 c => c = 0 /\ (∀ b, F b -> b < w2.heap.size) /\ ∃ R' sv' dv' new, StoreOf w2 B (grow F w1 w2) sv' lv dv' R' ls (ops ++ new) false ah true /\ R'.map StkR.abs = makeS (R.map StkR.abs) kd m k n (chunks D E cnt) /\ NewOps new /\ Turn F w1 w2) (fun w1 w2 c h => by obtain ⟨_, _, _, _, _, _, _, _, _, ht⟩ := h; exact ht) (fun w1 w2 w3 c hx h => ?_) (fun w' hx => ?_)).mono ?_
     ·obtain ⟨hc0, hF2, R', sv', dv', new, hs, he, hn, ht⟩ := h
      exact ⟨hc0, hF2, R', sv', dv', new, hs.wide (fun b hb => hb.imp id (fun h => ⟨Nat.le_trans hx.le h.1, h.2⟩)) (fun b hb => hb.elim (hF2 b) (fun h => h.2)), he, hn, (Turn.of_ext hx).trans ht⟩
     ·refine (refill_c kd m k n hcls gh 0 len (len + 8) cnt E D hE hD (by omega) hcnt (by omega) (by omega) hu hu01 hsm.stocks (fun x hx => (hsm.made x hx).1) hops (hkn h1 h4) w' (h1.ext hx) (hz.ext hx)).mono ?_
      rintro e w'' (⟨hq, _⟩ | ⟨_, R', sv', dv', new, he, hs, hm, hn, ht⟩)
      ·exact absurd hcd hq
      ·exact ⟨0, he, rfl, fun b hb => Nat.lt_of_lt_of_le (hst.lt b hb) (Nat.le_trans hx.le ht.size), R', sv', dv', new, hs, hm, hn, ht⟩
     ·rintro e w' ⟨c, rfl, rfl, _, R', sv', dv', new, hs, hm, hn, ht⟩
      refine ⟨R', ls, grow F w w', new, rfl, World.ownsRow_nil _ _ _ _, ⟨⟨sv', lv, dv', ah, true, hs, h2, .inr ?_, .inl rfl⟩, fun o ho => ?_⟩, ht, fun b hb => hb.imp id (fun h => h.1), fun b hb => by simp [lH] at hb, .inr ⟨by rw [hm], hn.1, hn.2.1, rfl⟩⟩
      ·have : 0 < new.length := List.length_pos_iff.2 hn.1
       rw [List.length_append]; omega
      ·rcases List.mem_append.1 ho with ho | ho
       ·exact hst.kinds o ho
       ·exact hn.2.2 o ho
    ·have hl1 : 1 <= len := by
      rw [hcnt]
      exact Nat.mul_pos (by omega) hE1
     obtain ⟨b, off, rfl, hz⟩ := hd.resolve_left (by omega)
     refine (refRefilled_c q (R.map StkR.abs) ls kd m k n hcls b off len cap E cnt D hE hD hcap hcnt (by omega) (by omega) hSl (by have := hI.leases; omega) hSm hcd w hG hr hz).mono ?_
     rintro e w' ⟨q', he, hra, hx⟩
     exact ⟨some ⟨q', 0, none⟩, he, World.ownsRow_nil _ _ _ _, hx, .inr ⟨_, _, q', rfl, rfl, hra⟩⟩
    ·injection h with h
     injection h with h1 h2
     subst h1 h2
     exact hI.make hcls (len_chunks _ _ _) (by omega) (fun u hu => by
      obtain ⟨j, hj, rfl⟩ := List.mem_map.1 hu
      rw [<- hE]
      exact chunk_len (hD.trans hcnt) (List.mem_range.1 hj)) hcd
   ·have h4 : makeCode (R.map StkR.abs) kd m k n cnt = 4 := by
     unfold makeCode at hcd ⊢
     split
     ·rename_i x hx
      rw [hx] at hcd
      simp only at hcd ⊢
      split
      ·rfl
      ·rename_i hq
       rw [if_neg hq] at hcd
       exact absurd rfl hcd
     ·rename_i hx
      rw [hx] at hcd
      simp only at hcd ⊢
      split
      ·rfl
      ·rename_i hq
       rw [if_neg hq] at hcd
       exact absurd rfl hcd
    refine fill_code 4 (by decide) (fun w B gh F hst hz => ?_) (fun w G q hr => refRefilledFull_c q (R.map StkR.abs) ls kd m k n hcls a len cap E cnt hE hcnt (by omega) (by omega) hSl (fun x hx => (hSm x hx).2) hcd w hr)
    obtain ⟨sv, lv, dv, ah, kn, h1, h2, h3, h5⟩ := hst.ex
    refine (refill_c kd m k n hcls gh 0 len (len + 8) cnt E D hE hD (by omega) hcnt (by omega) (by omega) hu hu01 hsm.stocks (fun x hx => (hsm.made x hx).1) hops (hkn h1 h5) w h1 hz).mono ?_
    rintro e w'' (⟨_, he, hx⟩ | ⟨hq, _⟩)
    ·rw [h4] at he; exact ⟨he, hx⟩
    ·exact absurd hq hcd
end
end
-- JSa
section
open Go.RowKit Go.Maps
/-- A game, as long as it goes on: what it and its dealer write into lies at N0 and behind. -/
def Live (w : World) (P B N0 c : Nat) : Prop := ∃ G v q R ls F ops, GameOf w P B G v q (R.map StkR.abs) ls ops c /\ StoreOk w B F R ls ops /\ Far F G P v /\ InvS (R.map StkR.abs) ls /\ ops.length <= 4 * c /\ (∀ b, F b -> N0 <= b) /\ (∀ b, GOwn P v b -> N0 <= b) /\ N0 <= w.heap.size
theorem Live.ext {w w' : World} {P B N0 c : Nat} (h : Live w P B N0 c) (hx : Ext w w') : Live w' P B N0 c := by
 obtain ⟨G, v, q, R, ls, F, ops, h1, h2, h3, h4, h5, h6, h7, h8⟩ := h
 exact ⟨G, v, q, R, ls, F, ops, h1.ext hx, h2.ext hx, h3, h4, h5, h6, h7, Nat.le_trans h8 hx.le⟩
theorem Live.count {w : World} {P B N0 c c' : Nat} (h : Live w P B N0 c) (hc : c <= c') : Live w P B N0 c' := by
 obtain ⟨G, v, q, R, ls, F, ops, h1, h2, h3, h4, h5, h6, h7, h8⟩ := h
 exact ⟨G, v, q, R, ls, F, ops, h1.count hc, h2, h3, h4, by omega, h6, h7, h8⟩
theorem liveLooks {w : World} {P B N0 c : Nat} (h : Live w P B N0 c) (hc : c <= 200000) :
  Calls Tryz.prog 44 #[.pointer (some ⟨P, 0, none⟩)] w fun e w' => e = .returned (.bool true) /\ Live w' P B N0 (c + 3) /\ Turn (fun b => N0 <= b) w w' := by
 obtain ⟨G, v, q, R, ls, F, ops, h1, h2, h3, h4, h5, h6, h7, h8⟩ := h
 have hsm := h4.small
 refine (looks_c h1 (by omega) h2 h3 (by omega) hsm.stocks (fun x hx => (hsm.made x hx).1) (by have := hsm.leases; omega)).mono ?_
 rintro e w' ⟨rfl, v', G', k1, k2, k3, k4, k5, k6⟩
 exact ⟨rfl, ⟨G', v', q, R, ls, F, ops, k1, k2, k3, h4, by omega, h6, fun b hb => (k6 b hb).elim (h7 b) (fun hl => by omega), Nat.le_trans h8 k4.size⟩, k4.mono (fun b _ hb => hb.elim (h6 b) (h7 b))⟩
theorem liveAsks {w : World} {P B N0 c : Nat} (h : Live w P B N0 c) (hc : c <= 200000) (kk s i kd m k n f cc pp : Int) :
  Calls Tryz.prog 70 #[.pointer (some ⟨P, 0, none⟩), reqV kk s i kd m k n f cc pp] w fun e w' => e = .returned (.bool true) /\ Live w' P B N0 (c + 3) /\ Turn (fun b => N0 <= b) w w' := by
 obtain ⟨G, v, q, R, ls, F, ops, h1, h2, h3, h4, h5, h6, h7, h8⟩ := h
 obtain ⟨A, a1, a2, a3, a4, a5⟩ := ask_both (ops := ops) h4 (by omega) kk s i kd m k n f cc pp
 refine (asks_c A h1 (by omega) h2 h3 (by omega) a1 a2 kk s i kd m k n f cc pp (fun w' hx => a3 w' B F (h2.ext hx)) (fun w' hr hG => a4 w' G q hr hG)).mono ?_
 rintro e w' ⟨rfl, v', G', q', R', ls', F', new, k1, k2, k3, k4, ⟨k5, k6, k7⟩, k8⟩
 refine ⟨rfl, ⟨G', v', q', R', ls', F', ops ++ new, k1, k2, k3, ?_, by rw [List.length_append]; omega, fun b hb => (k6 b hb).elim (h6 b) (fun hl => by omega), fun b hb => (k7 b hb).elim (h7 b) (fun hl => by omega), Nat.le_trans h8 k5.size⟩, k5.mono (fun b _ hb => hb.elim (h6 b) (h7 b))⟩
 rcases k8 with ⟨_, rfl, rfl⟩ | k8
 ·exact h4
 ·exact a5 _ _ k8
theorem liveRefills {w : World} {P B N0 c : Nat} (h : Live w P B N0 c) (hc : c <= 200000) (sk sa sb kd m k n r0 r1 r2 r3 r4 r5 r6 r7 r8 r9 st : Int) (ss : ByteArray) (ca : Option Addr) (cl ccap : Nat) (a : Option Addr) (len cap : Nat) (D : List Int) (hD : D.length = len) (hu : inU64 D) (hlen : len <= 100000000) (hcap : len <= cap) (hd : DrawsAt w a len D) (hda : ∀ b off, len ≠ 0 /\ a = some ⟨b, off, none⟩ -> b < N0) :
  Calls Tryz.prog 69 #[.pointer (some ⟨P, 0, none⟩), .agg #[.int .i64 sk, .int .i64 sa, .int .i64 sb, .int .i64 kd, .int .i64 m, .int .i64 k, .int .i64 n, .slice a len cap, .int .i64 r0, .int .i64 r1, .int .i64 r2, .int .i64 r3, .int .i64 r4, .int .i64 r5, .int .i64 r6, .int .i64 r7, .int .i64 r8, .int .i64 r9, .string ss, .slice ca cl ccap, .int .i64 st]] w fun e w' => e = .returned (.bool true) /\ Live w' P B N0 (c + 3) /\ Turn (fun b => N0 <= b) w w' := by
 obtain ⟨G, v, q, R, ls, F, ops, h1, h2, h3, h4, h5, h6, h7, h8⟩ := h
 obtain ⟨A, a1, a2, a3, a4, a5⟩ := refill_both (ops := ops) h4 (by omega) kd m k n a len cap D hD hu hlen hcap
 refine (refills_c A a1 h1 (by omega) h2 h3 (by omega) a2 sk sa sb kd m k n r0 r1 r2 r3 r4 r5 r6 r7 r8 r9 st ss ca cl ccap a len cap D hD hlen hd (fun b off e => ⟨fun hf => by have := h6 b hf; have := hda b off e; omega, by have := hda b off e; omega⟩) (fun w' gh hx _ hz => a3 w' B F gh (h2.ext hx) hz) (fun w' hr hG hd' => a4 w' G q hr hG hd')).mono ?_
 rintro e w' ⟨rfl, v', G', q', R', ls', F', new, k1, k2, k3, k4, ⟨k5, k6, k7⟩, k8⟩
 refine ⟨rfl, ⟨G', v', q', R', ls', F', ops ++ new, k1, k2, k3, ?_, by rw [List.length_append]; omega, fun b hb => (k6 b hb).elim (h6 b) (fun hl => by omega), fun b hb => (k7 b hb).elim (h7 b) (fun hl => by omega), Nat.le_trans h8 k5.size⟩, k5.mono (fun b _ hb => hb.elim (h6 b) (h7 b))⟩
 rcases k8 with ⟨_, rfl, rfl⟩ | k8
 ·exact h4
 ·exact a5 _ _ k8
theorem liveReads {w : World} {P B N0 c : Nat} (h : Live w P B N0 c) (hc : c <= 300000) :
  Calls Tryz.prog 43 #[.pointer (some ⟨P, 7, none⟩)] w fun e w' => e = .returned (.bool true) /\ Ext w w' := by
 obtain ⟨G, v, q, R, ls, F, ops, h1, h2, h3, h4, h5, h6, h7, h8⟩ := h
 exact gReads_c h1 (by omega)
end
-- JSt1
section
set_option maxRecDepth 100000
set_option maxHeartbeats 6400000
open Go.RowKit Go.Maps
theorem step1_c {w : World} {P B N0 c : Nat} (h : Live w P B N0 c) (hc : c <= 200000) (sk sa sb kd m k n r0 r1 r2 r3 r4 r5 r6 r7 r8 r9 st : Int) (_hsk : sk <= 3) (hk : sk = 1) (ss : ByteArray) (ca : Option Addr) (cl ccap : Nat) (a : Option Addr) (len cap : Nat) (D : List Int) (hD : D.length = len) (hu : inU64 D) (hlen : len <= 100000000) (hcap : len <= cap) (hd : DrawsAt w a len D) (hda : ∀ b off, len ≠ 0 /\ a = some ⟨b, off, none⟩ -> b < N0) :
  Calls Tryz.prog 42 #[.pointer (some ⟨P, 0, none⟩), .agg #[.int .i64 sk, .int .i64 sa, .int .i64 sb, .int .i64 kd, .int .i64 m, .int .i64 k, .int .i64 n, .slice a len cap, .int .i64 r0, .int .i64 r1, .int .i64 r2, .int .i64 r3, .int .i64 r4, .int .i64 r5, .int .i64 r6, .int .i64 r7, .int .i64 r8, .int .i64 r9, .string ss, .slice ca cl ccap, .int .i64 st]] w fun e w' => e = .returned (.bool true) /\ Live w' P B N0 (c + 3) /\ Turn (fun b => N0 <= b) w w' := by
 have HLk : Hid (∀ w', Ext w w' -> _) := fun w' hx => liveLooks (h.ext hx) hc
 have HAs : Hid (∀ w', Ext w w' -> Calls Tryz.prog 70 #[.pointer (some ⟨P, 0, none⟩), .agg #[.int .i64 r0, .int .i64 r1, .int .i64 r2, .int .i64 r3, .int .i64 r4, .int .i64 r5, .int .i64 r6, .int .i64 r7, .int .i64 r8, .int .i64 r9]] w' fun e w'' => e = .returned (.bool true) /\ Live w'' P B N0 (c + 3) /\ Turn (fun b => N0 <= b) w' w'') := fun w' hx => liveAsks (h.ext hx) hc r0 r1 r2 r3 r4 r5 r6 r7 r8 r9
 have HRf : Hid (∀ w', Ext w w' -> _) := fun w' hx => liveRefills (h.ext hx) hc sk sa sb kd m k n r0 r1 r2 r3 r4 r5 r6 r7 r8 r9 st ss ca cl ccap a len cap D hD hu hlen hcap (hd.ext hx) hda
 have HL : Hid (Live w P B N0 c) := h
 obtain ⟨cs, hcs⟩ : ∃ cs : Array Value, #[.int .i64 sk, .int .i64 sa, .int .i64 sb, .int .i64 kd, .int .i64 m, .int .i64 k, .int .i64 n, .slice a len cap, .int .i64 r0, .int .i64 r1, .int .i64 r2, .int .i64 r3, .int .i64 r4, .int .i64 r5, .int .i64 r6, .int .i64 r7, .int .i64 r8, .int .i64 r9, .string ss, .slice ca cl ccap, .int .i64 st] = cs := ⟨_, rfl⟩
 have hcs0 : cs[0]? = some (.int .i64 sk) := by rw [<- hcs]; rfl
 have HCS : Hid (cs.size = 21 /\ cs[8]? = some (.int .i64 r0) /\ cs[9]? = some (.int .i64 r1) /\ cs[10]? = some (.int .i64 r2) /\ cs[11]? = some (.int .i64 r3) /\ cs[12]? = some (.int .i64 r4) /\ cs[13]? = some (.int .i64 r5) /\ cs[14]? = some (.int .i64 r6) /\ cs[15]? = some (.int .i64 r7) /\ cs[16]? = some (.int .i64 r8) /\ cs[17]? = some (.int .i64 r9)) := by rw [<- hcs]; exact ⟨rfl, rfl, rfl, rfl, rfl, rfl, rfl, rfl, rfl, rfl, rfl⟩
 rw [hcs] at HRf ⊢
 clear h hd hda hu hD hcs
 have hk1 : (sk == 1) = true := by simpa using hk
 clear hk _hsk
 go_enter Tryz.func42, Tryz.ntmps42
 go_wp2_with fail
 have hsb : (w.alloc (.cells cs 103)).heap[w.heap.size]? = some (.cells cs 103 (0, 0)) := heap_alloc_new _ _
 have HXW : Hid (Ext w (w.alloc (.cells cs 103))) := (Ext.refl w).alloc _
 generalize World.alloc w _ = W at hsb HXW ⊢
 have s0 : W.cell? ⟨w.heap.size, 0, none⟩ = some (.int .i64 sk) := cell_at hsb hcs0
 have hsl := lG W _ s0
 clear hsb
 go_wp2_with fail
 refine (HLk.out _ HXW.out).mono ?_
 rintro e w2 ⟨rfl, hl, ht⟩
 have HF : Hid _ := And.intro hl ht
 clear hl ht
 go_wp2
 go_ret
 exact ⟨rfl, HF.out.1, (Turn.of_ext HXW.out).trans HF.out.2⟩
end
-- JSt4
section
set_option maxRecDepth 100000
set_option maxHeartbeats 6400000
open Go.RowKit Go.Maps
theorem step4_c {w : World} {P B N0 c : Nat} (h : Live w P B N0 c) (hc : c <= 200000) (sk sa sb kd m k n r0 r1 r2 r3 r4 r5 r6 r7 r8 r9 st : Int) (hsk : sk <= 3) (hn1 : ¬ sk = 1) (hn2 : ¬ sk = 2) (hk : ¬ sk = 3) (ss : ByteArray) (ca : Option Addr) (cl ccap : Nat) (a : Option Addr) (len cap : Nat) (D : List Int) (hD : D.length = len) (hu : inU64 D) (hlen : len <= 100000000) (hcap : len <= cap) (hd : DrawsAt w a len D) (hda : ∀ b off, len ≠ 0 /\ a = some ⟨b, off, none⟩ -> b < N0) :
  Calls Tryz.prog 42 #[.pointer (some ⟨P, 0, none⟩), .agg #[.int .i64 sk, .int .i64 sa, .int .i64 sb, .int .i64 kd, .int .i64 m, .int .i64 k, .int .i64 n, .slice a len cap, .int .i64 r0, .int .i64 r1, .int .i64 r2, .int .i64 r3, .int .i64 r4, .int .i64 r5, .int .i64 r6, .int .i64 r7, .int .i64 r8, .int .i64 r9, .string ss, .slice ca cl ccap, .int .i64 st]] w fun e w' => e = .returned (.bool true) /\ Live w' P B N0 (c + 3) /\ Turn (fun b => N0 <= b) w w' := by
 have HLk : Hid (∀ w', Ext w w' -> _) := fun w' hx => liveLooks (h.ext hx) hc
 have HAs : Hid (∀ w', Ext w w' -> Calls Tryz.prog 70 #[.pointer (some ⟨P, 0, none⟩), .agg #[.int .i64 r0, .int .i64 r1, .int .i64 r2, .int .i64 r3, .int .i64 r4, .int .i64 r5, .int .i64 r6, .int .i64 r7, .int .i64 r8, .int .i64 r9]] w' fun e w'' => e = .returned (.bool true) /\ Live w'' P B N0 (c + 3) /\ Turn (fun b => N0 <= b) w' w'') := fun w' hx => liveAsks (h.ext hx) hc r0 r1 r2 r3 r4 r5 r6 r7 r8 r9
 have HRf : Hid (∀ w', Ext w w' -> _) := fun w' hx => liveRefills (h.ext hx) hc sk sa sb kd m k n r0 r1 r2 r3 r4 r5 r6 r7 r8 r9 st ss ca cl ccap a len cap D hD hu hlen hcap (hd.ext hx) hda
 have HL : Hid (Live w P B N0 c) := h
 obtain ⟨cs, hcs⟩ : ∃ cs : Array Value, #[.int .i64 sk, .int .i64 sa, .int .i64 sb, .int .i64 kd, .int .i64 m, .int .i64 k, .int .i64 n, .slice a len cap, .int .i64 r0, .int .i64 r1, .int .i64 r2, .int .i64 r3, .int .i64 r4, .int .i64 r5, .int .i64 r6, .int .i64 r7, .int .i64 r8, .int .i64 r9, .string ss, .slice ca cl ccap, .int .i64 st] = cs := ⟨_, rfl⟩
 have hcs0 : cs[0]? = some (.int .i64 sk) := by rw [<- hcs]; rfl
 have HCS : Hid (cs.size = 21 /\ cs[8]? = some (.int .i64 r0) /\ cs[9]? = some (.int .i64 r1) /\ cs[10]? = some (.int .i64 r2) /\ cs[11]? = some (.int .i64 r3) /\ cs[12]? = some (.int .i64 r4) /\ cs[13]? = some (.int .i64 r5) /\ cs[14]? = some (.int .i64 r6) /\ cs[15]? = some (.int .i64 r7) /\ cs[16]? = some (.int .i64 r8) /\ cs[17]? = some (.int .i64 r9)) := by rw [<- hcs]; exact ⟨rfl, rfl, rfl, rfl, rfl, rfl, rfl, rfl, rfl, rfl, rfl⟩
 rw [hcs] at HRf ⊢
 clear h hd hda hu hD hcs
 have hk1 : (sk == 1) = false := by simp; omega
 have hk2 : (sk == 2) = false := by simp; omega
 have hk3 : (sk == 3) = false := by simp; omega
 have hk4 : (sk == 4) = false := by simp; omega
 have hk5 : (sk == 5) = false := by simp; omega
 have hk6 : (sk == 6) = false := by simp; omega
 have hk7 : (sk == 7) = false := by simp; omega
 clear hk hsk
 go_enter Tryz.func42, Tryz.ntmps42
 go_wp2_with fail
 have hsb : (w.alloc (.cells cs 103)).heap[w.heap.size]? = some (.cells cs 103 (0, 0)) := heap_alloc_new _ _
 have HXW : Hid (Ext w (w.alloc (.cells cs 103))) := (Ext.refl w).alloc _
 generalize World.alloc w _ = W at hsb HXW ⊢
 have s0 : W.cell? ⟨w.heap.size, 0, none⟩ = some (.int .i64 sk) := cell_at hsb hcs0
 have hsl := lG W _ s0
 clear hsb
 go_wp2
 go_ret
 exact ⟨rfl, (HL.out.ext HXW.out).count (by omega), Turn.of_ext HXW.out⟩
end
-- JSp
section
set_option maxRecDepth 100000
set_option maxHeartbeats 6400000
open Go.RowKit Go.Maps
theorem wpList_move {P : Program} {ops : Array Oper} {rest : List Oper} {o : Oper} {a : Act} {w : World} {Q : Exit -> Act -> World -> Prop} (hg : o.guard = none) (x : Operand) (ho : o.op = .move x) (v : Value) (hv : a.eval x = v) (hn : wpList P ops Q rest (a.put o.dst v) w) : wpList P ops Q (o :: rest) a w :=
 wpList_plain hg fun K hK => by
  unfold Oper.wp execOp
  simp only [ho, hv, Sem.run_pure]
  exact hK _ _ hn
theorem stepRefill_o {w : World} {P : Nat} {Q : World -> World -> Prop} (sk : Int) (hk : sk = 2) (cs : Array Value) (h0 : cs[0]? = some (.int .i64 sk)) (hsz : cs.size = 21) (hq : ∀ w1 w2 w3, Ext w1 w2 -> Q w2 w3 -> Q w1 w3)
  (hin : ∀ w', Ext w w' -> Calls Tryz.prog 69 #[.pointer (some ⟨P, 0, none⟩), .agg cs] w' fun e w'' => e = .returned (.bool true) /\ Q w' w'') :
  Calls Tryz.prog 42 #[.pointer (some ⟨P, 0, none⟩), .agg cs] w fun e w' => e = .returned (.bool true) /\ Q w w' := by
 have HIn : Hid (∀ w', Ext w w' -> _) := hin
 have HQ : Hid (∀ w1 w2 w3, Ext w1 w2 -> Q w2 w3 -> Q w1 w3) := hq
 have HI : Hid ((Tryz.prog.info? 103).map (·.size) = some cs.size) := by
  show _ = _
  rw [hsz]; kernel_rfl
 have hk1 : (sk == 1) = false := by rw [hk]; rfl
 have hk2 : (sk == 2) = true := by rw [hk]; rfl
 have H0 : Hid (cs[0]? = some (.int .i64 sk)) := h0
 clear hk hin hq hsz h0
 go_enter Tryz.func42, Tryz.ntmps42
 refine wp_seq_k (fun K0 hK0 => ?_)
 have HK0 : Hid (∀ a w, _ -> K0 a w) := hK0
 clear hK0
 go_wp2_with fail
 refine HK0.out _ _ ?_
 have HSB : Hid ((w.alloc (.cells cs 103)).heap[w.heap.size]? = some (.cells cs 103 (0, 0))) := heap_alloc_new _ _
 have HXW : Hid (Ext w (w.alloc (.cells cs 103))) := (Ext.refl w).alloc _
 generalize World.alloc w _ = W at HSB HXW ⊢
 have s0 : W.cell? ⟨w.heap.size, 0, none⟩ = some (.int .i64 sk) := cell_at HSB.out H0.out
 have hsl := lG W _ s0
 refine wp_seq_k (fun K1 hK1 => ?_)
 have HK1 : Hid (∀ a w, _ -> K1 a w) := hK1
 clear hK1
 refine wp_seq_k (fun K2 hK2 => ?_)
 have HK2 : Hid (∀ a w, _ -> K2 a w) := hK2
 clear hK2
 go_wp2_with fail
 refine HK2.out _ _ ?_
 refine wp_block ?_
 refine wp_seq_k (fun K3 hK3 => ?_)
 have HK3 : Hid (∀ a w, _ -> K3 a w) := hK3
 clear hK3
 go_wp2_with fail
 refine HK3.out _ _ ?_
 refine wp_cond_false rfl ?_
 refine wp_seq_k (fun K4 hK4 => ?_)
 have HK4 : Hid (∀ a w, _ -> K4 a w) := hK4
 clear hK4
 go_wp2_with fail
 refine HK4.out _ _ ?_
 refine wp_cond_true rfl ?_
 refine wp_seq_k (fun K5 hK5 => ?_)
 have HK5 : Hid (∀ a w, _ -> K5 a w) := hK5
 clear hK5
 refine wp_region_lit ?_
 refine wpList_move rfl (.tmp 0) rfl (.pointer (some ⟨P, 0, none⟩)) rfl ?_
 refine wpList_load_row rfl 103 _ rfl w.heap.size rfl 103 cs (0, 0) _ HSB.out Tryz.underlying103 rfl HI.out ?_
 go_wp2_with fail
 refine (HIn.out _ HXW.out).mono ?_
 rintro e w2 ⟨rfl, hl⟩
 have HF : Hid (Q W w2) := hl
 clear hl
 go_wp2_with fail
 refine HK5.out _ _ ?_
 go_wp2
 go_ret
 exact ⟨rfl, HQ.out _ _ _ HXW.out HF.out⟩
end
-- JSq
section
set_option maxRecDepth 100000
set_option maxHeartbeats 6400000
open Go.RowKit Go.Maps
theorem stepAsk_o {w : World} {P : Nat} {Q : World -> World -> Prop} (sk : Int) (hk : sk = 3) (x1 x2 x3 x4 x5 x6 x7 x8 x9 x10 x11 x12 x13 x14 x15 x16 x17 x18 x19 x20 : Value) (hq : ∀ w1 w2 w3, Ext w1 w2 -> Q w2 w3 -> Q w1 w3)
  (hin : ∀ w', Ext w w' -> Calls Tryz.prog 70 #[.pointer (some ⟨P, 0, none⟩), .agg #[x8, x9, x10, x11, x12, x13, x14, x15, x16, x17]] w' fun e w'' => e = .returned (.bool true) /\ Q w' w'') :
  Calls Tryz.prog 42 #[.pointer (some ⟨P, 0, none⟩), .agg #[.int .i64 sk, x1, x2, x3, x4, x5, x6, x7, x8, x9, x10, x11, x12, x13, x14, x15, x16, x17, x18, x19, x20]] w fun e w' => e = .returned (.bool true) /\ Q w w' := by
 have HIn : Hid (∀ w', Ext w w' -> _) := hin
 have HQ : Hid (∀ w1 w2 w3, Ext w1 w2 -> Q w2 w3 -> Q w1 w3) := hq
 have hk1 : (sk == 1) = false := by rw [hk]; rfl
 have hk2 : (sk == 2) = false := by rw [hk]; rfl
 have hk3 : (sk == 3) = true := by rw [hk]; rfl
 clear hk hin hq
 go_enter Tryz.func42, Tryz.ntmps42
 go_wp2_with fail
 have hsb : (w.alloc (.cells #[.int .i64 sk, x1, x2, x3, x4, x5, x6, x7, x8, x9, x10, x11, x12, x13, x14, x15, x16, x17, x18, x19, x20] 103)).heap[w.heap.size]? = some (.cells #[.int .i64 sk, x1, x2, x3, x4, x5, x6, x7, x8, x9, x10, x11, x12, x13, x14, x15, x16, x17, x18, x19, x20] 103 (0, 0)) := heap_alloc_new _ _
 have HXW : Hid (Ext w (w.alloc (.cells #[.int .i64 sk, x1, x2, x3, x4, x5, x6, x7, x8, x9, x10, x11, x12, x13, x14, x15, x16, x17, x18, x19, x20] 103))) := (Ext.refl w).alloc _
 generalize World.alloc w _ = W at hsb HXW ⊢
 have s0 : W.cell? ⟨w.heap.size, 0, none⟩ = some (.int .i64 sk) := cell_at hsb rfl
 have s8 : W.cell? ⟨w.heap.size, 8, none⟩ = some x8 := cell_at hsb rfl
 have s9 : W.cell? ⟨w.heap.size, 9, none⟩ = some x9 := cell_at hsb rfl
 have s10 : W.cell? ⟨w.heap.size, 10, none⟩ = some x10 := cell_at hsb rfl
 have s11 : W.cell? ⟨w.heap.size, 11, none⟩ = some x11 := cell_at hsb rfl
 have s12 : W.cell? ⟨w.heap.size, 12, none⟩ = some x12 := cell_at hsb rfl
 have s13 : W.cell? ⟨w.heap.size, 13, none⟩ = some x13 := cell_at hsb rfl
 have s14 : W.cell? ⟨w.heap.size, 14, none⟩ = some x14 := cell_at hsb rfl
 have s15 : W.cell? ⟨w.heap.size, 15, none⟩ = some x15 := cell_at hsb rfl
 have s16 : W.cell? ⟨w.heap.size, 16, none⟩ = some x16 := cell_at hsb rfl
 have s17 : W.cell? ⟨w.heap.size, 17, none⟩ = some x17 := cell_at hsb rfl
 have hsl := lG W _ s0
 clear hsb
 go_wp2_with fail
 refine (HIn.out _ HXW.out).mono ?_
 rintro e w2 ⟨rfl, hl⟩
 have HF : Hid (Q W w2) := hl
 clear hl
 go_wp2
 go_ret
 exact ⟨rfl, HQ.out _ _ _ HXW.out HF.out⟩
end
end Go.Proofs.YtmnjhhachdlmkaaGreat
