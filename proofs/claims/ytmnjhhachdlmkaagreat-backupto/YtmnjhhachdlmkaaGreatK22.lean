import Derived.Test.YtmnjhhachdlmkaaGreatK21
namespace Go.Proofs.YtmnjhhachdlmkaaGreat
set_option linter.unusedVariables false
set_option linter.unusedSimpArgs false
open List renaming getElem_toArray -> lA, getElem_cons_succ -> lB, getElem_cons_zero -> lC, setIfInBounds_toArray -> lD, set_cons_zero -> lE, set_cons_succ -> lF
open World renaming block_lt_of_cell? -> lG
-- VBk
section
set_option maxRecDepth 100000
set_option maxHeartbeats 60000000
open Go.RowKit Go.Maps
structure Twin (w wr : World) (P1 P2 m : Nat) (d : DS) (fs : List FileV) (G1 G2 : Nat -> Prop) : Prop where
 one : RunsOf w wr P1 m d fs G1
 two : RunsOf w wr P2 m d fs G2
 far : ∀ b, G1 b -> ¬ G2 b
theorem Twin.ext {w wr w' : World} {P1 P2 m : Nat} {d : DS} {fs : List FileV} {G1 G2 : Nat -> Prop} (h : Twin w wr P1 P2 m d fs G1 G2) (hx : Ext wr w') : Twin w w' P1 P2 m d fs G1 G2 := ⟨h.one.ext hx, h.two.ext hx, h.far⟩
theorem twin_began {w w1 w2 : World} {P1 B1 P2 B2 : Nat} (h1 : RunsOf w w1 P1 0 DS.opened [] (fun b => b = P1 \/ b = B1)) (h2 : RunsOf w1 w2 P2 0 DS.opened [] (fun b => b = P2 \/ b = B2)) (hx : Ext w1 w2) : Twin w w2 P1 P2 0 DS.opened [] (fun b => b = P1 \/ b = B1) (fun b => b = P2 \/ b = B2) :=
 ⟨h1.ext hx, ⟨h2.run, h2.ok, h2.keep, fun b hb => Nat.le_trans h1.turn.size (h2.new b hb), h1.turn.trans (Turn.of_ext hx)⟩, fun b hb hb2 => by
  have a1 := h1.run.lt b hb
  have a2 := h2.new b hb2
  omega⟩
theorem RunsOf.turn' {w wr w' : World} {P j : Nat} {d : DS} {fs : List FileV} {G X : Nat -> Prop} (h : RunsOf w wr P j d fs G) (ht : Turn X wr w') (hx : ∀ b, G b -> ¬ X b) (hn : ∀ b, X b -> w.heap.size <= b) : RunsOf w w' P j d fs G := ⟨h.run.turn ht hx, h.ok, h.keep, h.new, h.turn.trans' ht (fun b _ hb => hn b hb)⟩
theorem Twin.next {w wr wa wb w' : World} {P1 P2 m : Nat} {d d' : DS} {fs fs' : List FileV} {G1 G2 G1' G2' : Nat -> Prop} {z1 z2 : List Int} {r1 r2 : Value} (h : Twin w wr P1 P2 m d fs G1 G2) (h1 : StepR d' fs' z1 wr wa P1 G1 G1' r1) (hx : Ext wa wb) (h2 : StepR d' fs' z2 wb w' P2 G2 G2' r2) (ho : RunOk d' fs' (m + 1)) (hk : Keep4 d') : Twin w w' P1 P2 (m + 1) d' fs' G1' G2' := by
 have a1 := h.one.next h1 ho hk
 have a2 := h.two.turn' h1.turn (fun b hb hb1 => h.far b hb1 hb) h.one.new
 have a3 := (a2.ext hx).next h2 ho hk
 refine ⟨(a1.ext hx).turn' h2.turn (fun b hb hb2 => ?_) h.two.new, a3, fun b hb hb2 => ?_⟩
 ·rcases h1.grows b hb with h' | h'
  ·exact h.far b h' hb2
  ·have := h.two.run.lt b hb2; omega
 ·have k1 := a1.run.lt b hb
  have hxl := hx.le
  rcases h2.grows b hb2 with h'' | h''
  ·rcases h1.grows b hb with h' | h'
   ·exact h.far b h' h''
   ·have := h.two.run.lt b h''; omega
  ·omega
structure BothAt (W wr : World) (P1 P2 B1 B2 : Nat) (F1 F2 : Nat -> Prop) (e1 e2 : DS) (fv1 fv2 : Value) : Prop where
 r1 : RunAt wr P1 B1 fv1
 r2 : RunAt wr P2 B2 fv2
 d1 : DealX wr B1 F1 e1
 d2 : DealX wr B2 F2 e2
 g1 : e1.Good
 g2 : e2.Good
 o1 : e1.ops.length <= 700000
 o2 : e2.ops.length <= 700000
 a1 : ¬ F1 P1
 a2 : ¬ F1 P2
 a3 : ¬ F2 P1
 a4 : ¬ F2 P2
 far : ∀ b, F1 b -> ¬ F2 b
 n1 : ∀ b, F1 b -> W.heap.size <= b
 n2 : ∀ b, F2 b -> W.heap.size <= b
 turn : Turn (fun b => W.heap.size <= b) W wr
section
variable {W wr w' : World} {P1 P2 B1 B2 : Nat} {F1 F2 F' : Nat -> Prop} {d1 d2 d' : DS} {fv1 fv2 : Value}
theorem BothAt.ext (h : BothAt W wr P1 P2 B1 B2 F1 F2 d1 d2 fv1 fv2) (hx : Ext wr w') : BothAt W w' P1 P2 B1 B2 F1 F2 d1 d2 fv1 fv2 :=
 ⟨hx.block h.r1, hx.block h.r2, h.d1.ext hx, h.d2.ext hx, h.g1, h.g2, h.o1, h.o2, h.a1, h.a2, h.a3, h.a4, h.far, h.n1, h.n2, h.turn.trans (Turn.of_ext hx)⟩
theorem BothAt.swap (h : BothAt W wr P1 P2 B1 B2 F1 F2 d1 d2 fv1 fv2) : BothAt W wr P2 P1 B2 B1 F2 F1 d2 d1 fv2 fv1 :=
 ⟨h.r2, h.r1, h.d2, h.d1, h.g2, h.g1, h.o2, h.o1, h.a4, h.a3, h.a2, h.a1, fun b hb hb1 => h.far b hb1 hb, h.n2, h.n1, h.turn⟩
theorem BothAt.one (h : BothAt W wr P1 P2 B1 B2 F1 F2 d1 d2 fv1 fv2) (hl : LeftX d' wr w' B1 F1 F') (hg : d'.Good) (ho : d'.ops.length <= 700000) : BothAt W w' P1 P2 B1 B2 F' F2 d' d2 fv1 fv2 := by
 have p1 := (Array.getElem?_eq_some_iff.1 h.r1).1
 have p2 := (Array.getElem?_eq_some_iff.1 h.r2).1
 refine ⟨hl.turn.ref h.r1 h.a1, hl.turn.ref h.r2 h.a2, hl.deal, h.d2.turn hl.turn (fun b hb hb1 => h.far b hb1 hb), hg, h.g2, ho, h.o2, fun hp => (hl.grows _ hp).elim h.a1 (fun hl' => by omega), fun hp => (hl.grows _ hp).elim h.a2 (fun hl' => by omega), h.a3, h.a4, fun b hb hb2 => ?_, fun b hb => ?_, h.n2, h.turn.trans' hl.turn (fun b _ hb => h.n1 b hb)⟩
 ·have := h.d2.lt b hb2
  exact (hl.grows b hb).elim (fun h' => h.far b h' hb2) (fun h' => by omega)
 ·have := h.turn.size
  exact (hl.grows b hb).elim (h.n1 b) (fun h' => by omega)
theorem BothAt.two (h : BothAt W wr P1 P2 B1 B2 F1 F2 d1 d2 fv1 fv2) (hl : LeftX d' wr w' B2 F2 F') (hg : d'.Good) (ho : d'.ops.length <= 700000) : BothAt W w' P1 P2 B1 B2 F1 F' d1 d' fv1 fv2 := (h.swap.one hl hg ho).swap
end
theorem cut_ask {P : Prop} {K : Act -> World -> Prop} (act : Nat -> Option Addr -> Nat -> Nat -> Act) (I : Nat -> Option Addr -> Nat -> Nat -> World -> Prop) (h1 : (∀ rb ya yl yc V, I rb ya yl yc V -> K (act rb ya yl yc) V) -> P) (h2 : ∀ rb ya yl yc V, I rb ya yl yc V -> K (act rb ya yl yc) V) : P := h1 h2
theorem ask_three {d : DS} (hg : d.Good) (ho : d.ops.length <= 600008) (kk s i kd m k n f c p : Int) : (d.ask kk s i kd m k n f c p).2.Good /\ (d.ask kk s i kd m k n f c p).2.ops.length <= 700000 /\ inU64 (d.ask kk s i kd m k n f c p).1.zs := by
 refine ⟨ask_good hg (by omega) kk s i kd m k n f c p, by have h : (d.ask kk s i kd m k n f c p).2.ops.length <= d.ops.length + 4 := after_ops _ _ hg.ah; omega, ?_⟩
 have hI := hg.inv
 have e : (d.S.map (fun x : Stk => (⟨0, 0, x.kd, x.m, x.k, x.n, x.ts, x.leased⟩ : StkR))).map StkR.abs = d.S := by
  rw [List.map_map]
  exact (List.map_congr_left (fun x _ => rfl)).trans (List.map_id _)
 rw [<- e] at hI
 have hx := ask_x hI (show d.ops.length <= 1000000 by omega) kk s i kd m k n f c p
 rw [e] at hx
 unfold DS.ask
 exact after_in hx.1.zs _
theorem ask_len {d : DS} (hg : d.Good) (kk s i kd m k n f c p : Int) : (d.ask kk s i kd m k n f c p).2.ops.length <= d.ops.length + 4 := after_ops _ _ hg.ah
structure RawK (raw : ByteArray) (kk s i kd m k n f c p : Int) (g h : Int) (y : ByteArray) : Prop where
 rd : ∀ w, Calls Tryz.prog 24 #[.string raw] w fun e w' => e = .returned (.tuple #[reqV kk s i kd m k n f c p, .int .i64 g]) /\ Ext w w'
 wr : ∀ w, Calls Tryz.prog 23 #[reqV kk s i kd m k n f c p] w fun e w' => e = .returned (.tuple #[.string y, .int .i64 h]) /\ Ext w w'
 srv : ∀ (w : World) (B : Nat) (F : Nat -> Prop) (d : DS), d.Good -> d.ops.length <= 1000000 -> DealX w B F d -> Calls Tryz.prog 25 #[.pointer (some ⟨B, 0, none⟩), .string raw] w fun e w' => e = .returned (.string (repB (d.ask kk s i kd m k n f c p).1)) /\ ∃ F', LeftX (d.ask kk s i kd m k n f c p).2 w w' B F F'
theorem bad_zero (d : DS) : d.ask 0 0 0 0 0 0 0 0 0 0 = (⟨1, 0, 0, []⟩, d) := by
 unfold DS.ask ansS DS.after
 simp [Ans.code]
theorem printK_x {w w2 : World} {base : Nat} {c f n : Int} {zs : List Int} {ra : Option Addr} {rl rc : Nat} (h : w.ownsRow base 146 1 (.slice ra rl rc) zs.length (zs.map (Value.int .u64))) (hz : inU64 zs) (hl : zs.length <= 100000000) (hx : Ext w w2) :
  Calls Tryz.prog 26 #[replyV c f n (.slice ra rl rc)] w2 fun e w3 => e = .returned (.string (repB ⟨c, f, n, zs⟩)) /\ Ext w2 w3 := dealerPrint_c _ _ _ _ _ _ _ w2 ((wordsK_of h hz hl).ext hx)
theorem back_end {w W V w' : World} {sb P1 P2 B1 B2 : Nat} {F1 F2 : Nat -> Prop} {d1 d2 : DS} {fv1 fv2 : Value} (h : w.heap.size = sb /\ Ext w W /\ sb < W.heap.size) (hb : BothAt W V P1 P2 B1 B2 F1 F2 d1 d2 fv1 fv2) (hx : Ext V w') : Turn (fun b => w.heap.size <= b) w w' :=
 ((Turn.of_ext h.2.1).trans' hb.turn (fun b _ hb => by omega)).trans (Turn.of_ext hx)
theorem rawK (raw : ByteArray) (hs : raw.size <= maxLen) : (∃ kk s i kd m k n f c p, RawK raw kk s i kd m k n f c p 0 0 raw) \/ ∃ kk s i kd m k n f c p, RawK raw kk s i kd m k n f c p 1 1 ⟨#[]⟩ := by
 rcases readK raw hs with hb | ⟨kk, s, i, kd, m, k, n, f, c, p, ho⟩
 ·refine .inr ⟨0, 0, 0, 0, 0, 0, 0, 0, 0, 0, hb.rd, fun w => dealerWrite_bad 0 0 0 0 0 0 0 0 0 0 (fun w => check_no 0 0 0 0 0 0 0 0 0 0 rfl rfl rfl rfl w) w, fun w B F d hg ho hd => ?_⟩
  rw [bad_zero]
  refine (serveBad_x hb B w).mono ?_
  rintro e w' ⟨rfl, hx⟩
  exact ⟨rfl, F, hd.ext hx, Turn.of_ext hx, fun b hb => .inl hb⟩
 ·exact .inl ⟨kk, s, i, kd, m, k, n, f, c, p, ho.rd, ho.wr, fun w B F d hg hop hd => serve_x ho hg hop hd⟩
theorem backTop_c (sa : Option Addr) (n cap : Nat) (hn : n <= 150000) (zk za zb zc zn : Int) (zr : Option Addr) (zl zcap : Nat) (i1 : inI zk) (i2 : inI za) (i3 : inI zb) (i4 : inI zc) (i5 : inI zn) (raw : ByteArray) (hraw : raw.size <= maxLen) (w : World) (hs : KScriptAt w w.heap.size sa n) :
  Calls Tryz.prog 7 #[.slice sa n cap, .agg #[.int .i64 zk, .int .i64 za, .int .i64 zb, .int .i64 zc, .int .i64 zn, .slice zr zl zcap], .string raw] w fun e w' => e = .returned (.bool true) /\ Turn (fun b => w.heap.size <= b) w w' := by
 have HSc : Hid (KScriptAt w w.heap.size sa n) := hs
 have HRq : Hid _ := fun w => keepRequest_c zk za zb zc zn (.slice zr zl zcap) i1 i2 i3 i4 i5 w
 have HRd : Hid _ := rawK raw hraw
 obtain ⟨str, kk, s, i, kd, m, k, n', f, cc, p, hq, hown⟩ := write_req zk za zb zc zn
 rw [hq] at HRq
 have HOw : Hid (OwnK str kk s i kd m k n' f cc p) := hown
 have HWr : Hid _ := hown.wr
 have HRr : Hid _ := hown.rd
 unfold reqV at HWr HRr
 clear hs hraw i1 i2 i3 i4 i5 hq hown
 unfold stepV reqV at HRq
 go_enter Tryz.func7, Tryz.ntmps7
 go_wp2_with fail
 have hrow := heap_alloc_new w (.cells #[.int .i64 zk, .int .i64 za, .int .i64 zb, .int .i64 zc, .int .i64 zn, .slice zr zl zcap] 37)
 have hxa : Ext w (w.alloc (.cells #[.int .i64 zk, .int .i64 za, .int .i64 zb, .int .i64 zc, .int .i64 zn, .slice zr zl zcap] 37)) := (Ext.refl w).alloc _
 generalize World.alloc w _ = W at hrow hxa ⊢
 obtain ⟨sb, hsb⟩ : ∃ sb, w.heap.size = sb := ⟨_, rfl⟩
 rw [hsb] at hrow ⊢
 have HB : Hid (w.heap.size = sb /\ Ext w W /\ sb < W.heap.size) := ⟨hsb, hxa, (Array.getElem?_eq_some_iff.1 hrow).1⟩
 have HSb : Hid (W.heap[sb]? = _) := hrow
 have HSc2 : Hid (KScriptAt W sb sa n) := by
  have h := HSc.out
  rw [hsb] at h
  exact h.turn (Turn.of_ext hxa)
 clear hrow hxa hsb HSc
 refine (began_c _).mono ?_
 rintro e w1 ⟨P1, B1, rfl, b1, b2, b3, b4, b5, b6⟩
 have HR1 : Hid (RunsOf W w1 P1 0 DS.opened [] (fun b => b = P1 \/ b = B1)) := runs_began b1 b2 b3 b4 b5 b6
 clear b1 b2 b3 b4 b5 b6
 go_wp2_with fail
 refine (began_c _).mono ?_
 rintro e w2 ⟨P2, B2, rfl, b1, b2, b3, b4, b5, b6⟩
 have HR0 : Hid (Twin W w2 P1 P2 0 DS.opened [] (fun b => b = P1 \/ b = B1) (fun b => b = P2 \/ b = B2)) := twin_began HR1.out (runs_began b1 b2 b3 b4 b5 b6) b6
 clear b1 b2 b3 b4 b5 b6 HR1
 go_wp2_with fail
 go_loopw [9] (fun i wr => ∃ j : Nat, j <= n /\ i = .int .i64 j /\ ∃ j' d fs G1 G2, j' <= j /\ Twin W wr P1 P2 j' d fs G1 G2) (fun i _ => n - (intOf i).toNat)
 case atStart => exact ⟨0, Nat.zero_le _, rfl, 0, _, _, _, _, Nat.le_refl _, HR0.out⟩
 case round =>
  obtain ⟨j, hj, rfl, j', d, fs, G1, G2, hjj, hR⟩ := hrel
  have HR : Hid (Twin W wr P1 P2 j' d fs G1 G2) := hR
  clear hR HR0
  by_cases hlt : j < n
  ·have HT : Hid (Turn (fun b => sb <= b) W wr) := HR.out.one.turn.mono (fun b _ hb => by have := HB.out.2.2; omega)
   obtain ⟨b, off, rfl, hb, kd', a, b', c, n2, ra, rl, rcap, D, hst, hbo⟩ := script_at HSc2.out HT.out hlt
   have HSt : Hid (StepAt wr b (off + j * 6) kd' a b' c n2 ra rl rcap D /\ (b < sb) /\ ∀ b off, rl ≠ 0 /\ ra = some ⟨b, off, none⟩ -> b < sb) := ⟨hst, hb, hbo⟩
   obtain ⟨s0, s1, s2, s3, s4, s5, i1, i2, i3, i4, i5, hDl, hrl, hdw⟩ := hst
   have hbl := lG wr _ s0
   have hj0 : (0 : Int) <= (j : Int) := by omega
   have hj1 : (j : Int) < n := by omega
   have HK : Hid _ := fun w => pick_c kd' 7 (by decide) (by decide) i1.1 i1.2 w
   have HS1 : Hid (∀ w', Ext wr w' -> _) := fun w' hx => stepR_x kd' a b' c n2 ra rl rcap D i1 i2 i3 i4 i5 hDl (by omega) HR.out.one.ok (by omega) w' (HR.out.one.run.ext hx) (hdw.ext hx)
   have HS2 : Hid (∀ w', RunS w' P2 G2 d fs -> DrawsAt w' ra rl D -> _) := fun w' hx hd => stepR_x kd' a b' c n2 ra rl rcap D i1 i2 i3 i4 i5 hDl (by omega) HR.out.two.ok (by omega) w' hx hd
   have HNx : Hid (RunOk (stepR d fs kd' a b' c n2 D).2.1 (stepR d fs kd' a b' c n2 D).2.2 (j' + 1) /\ Keep4 (stepR d fs kd' a b' c n2 D).2.1) := ⟨stepR_run HR.out.one.ok (by omega) kd' a b' c n2 D, keep4_step HR.out.one.keep HR.out.one.ok (by omega) kd' a b' c n2 D⟩
   clear i1 i2 i3 i4 i5 hDl hrl hdw hbo hb
   generalize stepR d fs kd' a b' c n2 D = pp at *
   obtain ⟨⟨pc, pf, pn, pz⟩, d', fs'⟩ := pp
   have lk := pickN_lt kd' (show 0 < 7 by decide)
   generalize pickN kd' 7 = pk at HK lk
   unfold StepRP stepV replyV at *
   simp only at *
   by_cases h4 : pk = 4
   ·subst h4
    go_wp2_with fail
    refine (HK.out _).mono ?_
    rintro e w6 ⟨rfl, rfl⟩
    go_wp2_with fail
    exact ⟨⟨j + 1, by omega, by go_num, j', d, fs, G1, G2, by omega, HR.out⟩, by simp [intOf]; omega⟩
   ·have hpk4 : ¬ (pk : Int) = 4 := by omega
    clear h4
    go_wp2_with fail
    refine (HK.out _).mono ?_
    rintro e w6 ⟨rfl, rfl⟩
    go_wp2_with fail
    refine (HS1.out _ (Ext.refl _)).mono ?_
    rintro e w3 ⟨xa, xl, xc, G1', rfl, hz, hx⟩
    have HN1 : Hid (StepR d' fs' pz wr w3 P1 G1 G1' (.slice xa xl xc)) := hx
    have HT3 : Hid (Turn (fun b => sb <= b) wr w3) := hx.turn.mono (fun b _ hb => by have := HR.out.one.new b hb; have := HB.out.2.2; omega)
    have HSt3 : Hid (StepAt w3 b (off + j * 6) kd' a b' c n2 ra rl rcap D) := HSt.out.1.turn HT3.out HSt.out.2.1 HSt.out.2.2
    clear s0 s1 s2 s3 s4 s5 hx hz hbl
    obtain ⟨s0, s1, s2, s3, s4, s5, _, _, _, _, _, _, _, hdw⟩ := HSt3.out
    have hbl := lG w3 _ s0
    have HDw : Hid (DrawsAt w3 ra rl D) := hdw
    have HX3 : Hid (Ext w3 (w3.alloc (.cells #[.int .i64 pc, .int .i64 pf, .int .i64 pn, .slice xa xl xc] 33))) := (Ext.refl _).alloc _
    have HRn : Hid (∀ w', Ext w3 w' -> RunS w' P2 G2 d fs) := fun w' hx => (HR.out.two.run.turn HN1.out.turn (fun b hb hb1 => HR.out.far b hb1 hb)).ext hx
    clear hdw
    go_wp2_with fail
    refine (HS2.out _ (HRn.out _ HX3.out) (HDw.out.ext HX3.out)).mono ?_
    rintro e w4 ⟨ya, yl, yc, G2', rfl, hz, hx⟩
    have HN2 : Hid (Twin W w4 P1 P2 (j' + 1) d' fs' G1' G2') := HR.out.next HN1.out HX3.out hx HNx.out.1 HNx.out.2
    clear hx hz
    go_wp2_with fail
    refine ⟨⟨j + 1, by omega, by go_num, j' + 1, d', fs', G1', G2', by omega, HN2.out.ext ((Ext.refl _).alloc _)⟩, by simp [intOf]; omega⟩
  ·obtain rfl : n = j := by omega
   have hops := HR.out.one.ok.ops
   obtain ⟨⟨B3, F1, fv1, r1, r2, r3, r4, r5, r6⟩, r7, r8⟩ := HR.out.one.run
   obtain ⟨⟨B4, F2, fv2, t1, t2, t3, t4, t5, t6⟩, t7, t8⟩ := HR.out.two.run
   have HOps : Hid (d.ops.length <= 600004) := by show _ <= _; omega
   have HQ : Hid (BothAt W wr P1 P2 B3 B4 F1 F2 d d fv1 fv2) := ⟨r1, t1, r2, t2, HR.out.one.ok.good, HR.out.one.ok.good, by omega, by omega, r4, fun hp => HR.out.far _ (r6 _ hp) t7, fun hp => HR.out.far _ r7 (t6 _ hp), t4, fun b hb hb2 => HR.out.far _ (r6 _ hb) (t6 _ hb2), fun b hb => HR.out.one.new b (r6 _ hb), fun b hb => HR.out.two.new b (t6 _ hb), HR.out.one.turn⟩
   clear r1 r2 r3 r4 r5 r6 r7 r8 t1 t2 t3 t4 t5 t6 t7 t8 hops HR HSc2
   have hsc := HQ.out.turn.ref HSb.out (fun hl => by have := HB.out.2.2; omega)
   have c0 := cell_at hsc (i := 0) rfl
   have c1 := cell_at hsc (i := 1) rfl
   have c2 := cell_at hsc (i := 2) rfl
   have c3 := cell_at hsc (i := 3) rfl
   have c4 := cell_at hsc (i := 4) rfl
   have c5 := cell_at hsc (i := 5) rfl
   have hcl := lG wr _ c0
   clear hsc
   go_wp2_with fail
   refine (HRq.out _).mono ?_
   rintro e w5 ⟨rfl, hx5⟩
   have HX5 : Hid (Ext wr w5) := hx5
   clear c0 c1 c2 c3 c4 c5 hcl hx5 HRq
   go_wp2_with fail
   have hrow := heap_alloc_new w5 (.cells #[.int .i64 kk, .int .i64 s, .int .i64 i, .int .i64 kd, .int .i64 m, .int .i64 k, .int .i64 n', .int .i64 f, .int .i64 cc, .int .i64 p] 51)
   have hxa : Ext w5 (w5.alloc (.cells #[.int .i64 kk, .int .i64 s, .int .i64 i, .int .i64 kd, .int .i64 m, .int .i64 k, .int .i64 n', .int .i64 f, .int .i64 cc, .int .i64 p] 51)) := (Ext.refl w5).alloc _
   generalize World.alloc w5 _ = W6 at hrow hxa ⊢
   obtain ⟨qb, hqb⟩ : ∃ qb, w5.heap.size = qb := ⟨_, rfl⟩
   rw [hqb] at hrow ⊢
   have HX6 : Hid (Ext wr W6) := HX5.out.trans hxa
   have HQr : Hid (W6.heap[qb]? = some (.cells #[.int .i64 kk, .int .i64 s, .int .i64 i, .int .i64 kd, .int .i64 m, .int .i64 k, .int .i64 n', .int .i64 f, .int .i64 cc, .int .i64 p] 51 (0, 0)) /\ wr.heap.size <= qb) := ⟨hrow, by have := HX5.out.le; omega⟩
   clear hxa hqb hrow HX5
   refine (HWr.out _).mono ?_
   rintro e w7 ⟨rfl, hx7⟩
   have HX7 : Hid (Ext W6 w7) := hx7
   clear hx7
   go_wp2_with fail
   refine (HRr.out _).mono ?_
   rintro e w8 ⟨rfl, hx8⟩
   have HX8 : Hid (Ext W6 w8) := HX7.out.trans hx8
   clear hx8 HX7
   go_wp2_with fail
   have hrow := heap_alloc_new w8 (.cells #[.int .i64 kk, .int .i64 s, .int .i64 i, .int .i64 kd, .int .i64 m, .int .i64 k, .int .i64 n', .int .i64 f, .int .i64 cc, .int .i64 p] 51)
   have hxa : Ext w8 (w8.alloc (.cells #[.int .i64 kk, .int .i64 s, .int .i64 i, .int .i64 kd, .int .i64 m, .int .i64 k, .int .i64 n', .int .i64 f, .int .i64 cc, .int .i64 p] 51)) := (Ext.refl w8).alloc _
   generalize World.alloc w8 _ = W9 at hrow hxa ⊢
   obtain ⟨rb, hrb⟩ : ∃ rb, w8.heap.size = rb := ⟨_, rfl⟩
   rw [hrb] at hrow ⊢
   have HX9 : Hid (Ext wr W9) := HX6.out.trans (HX8.out.trans hxa)
   have HQ9 : Hid (W9.heap[qb]? = _) := (HX8.out.trans hxa).block HQr.out.1
   have HR9 : Hid (W9.heap[rb]? = _ /\ wr.heap.size <= rb) := ⟨hrow, by have := HX6.out.le; have := HX8.out.le; omega⟩
   have HQl : Hid (wr.heap.size <= qb) := HQr.out.2
   clear hxa hrb hrow HX6 HX8 HQr
   rcases HRd.out with ⟨xk, xs, xi, xd, xm, xl, xn, xf, xc, xp, hraw⟩ | ⟨xk, xs, xi, xd, xm, xl, xn, xf, xc, xp, hraw⟩
   all_goals
    have HXr : Hid _ := hraw.rd
    have HXw : Hid _ := hraw.wr
    have HXs : Hid _ := hraw.srv
    unfold reqV at HXr HXw
    clear hraw HRd
    refine (HXr.out _).mono ?_
    rintro e w10 ⟨rfl, hx10⟩
    have HX10 : Hid (Ext W9 w10) := hx10
    clear hx10 HXr
    go_wp2_with fail
    have hrow := heap_alloc_new w10 (.cells #[.int .i64 xk, .int .i64 xs, .int .i64 xi, .int .i64 xd, .int .i64 xm, .int .i64 xl, .int .i64 xn, .int .i64 xf, .int .i64 xc, .int .i64 xp] 51)
    have hxa : Ext w10 (w10.alloc (.cells #[.int .i64 xk, .int .i64 xs, .int .i64 xi, .int .i64 xd, .int .i64 xm, .int .i64 xl, .int .i64 xn, .int .i64 xf, .int .i64 xc, .int .i64 xp] 51)) := (Ext.refl w10).alloc _
    generalize World.alloc w10 _ = W11 at hrow hxa ⊢
    obtain ⟨xb, hxb⟩ : ∃ xb, w10.heap.size = xb := ⟨_, rfl⟩
    rw [hxb] at hrow ⊢
    have HX11 : Hid (Ext W9 W11) := HX10.out.trans hxa
    have HR11 : Hid (W11.heap[xb]? = _ /\ wr.heap.size <= xb) := ⟨hrow, by have := HX9.out.le; have := HX10.out.le; omega⟩
    clear hxa hxb hrow HX10
    refine (HXw.out _).mono ?_
    rintro e w12 ⟨rfl, hx12⟩
    have HX12 : Hid (Ext wr w12) := HX9.out.trans (HX11.out.trans hx12)
    have HBw : Hid (W9.heap.size <= w12.heap.size) := (HX11.out.trans hx12).le
    have HQ12 : Hid (w12.heap[qb]? = _) := (HX11.out.trans hx12).block HQ9.out
    have HR12 : Hid (w12.heap[rb]? = _) := (HX11.out.trans hx12).block HR9.out.1
    have HE12 : Hid (w12.heap[xb]? = _) := hx12.block HR11.out.1
    have HB12 : Hid (BothAt W w12 P1 P2 B3 B4 F1 F2 d d fv1 fv2) := HQ.out.ext HX12.out
    clear hx12 HXw HX11
    have q0 := cell_at HQ12.out (i := 0) rfl
    have q1 := cell_at HQ12.out (i := 1) rfl
    have q2 := cell_at HQ12.out (i := 2) rfl
    have q3 := cell_at HQ12.out (i := 3) rfl
    have q4 := cell_at HQ12.out (i := 4) rfl
    have q5 := cell_at HQ12.out (i := 5) rfl
    have q6 := cell_at HQ12.out (i := 6) rfl
    have q7 := cell_at HQ12.out (i := 7) rfl
    have q8 := cell_at HQ12.out (i := 8) rfl
    have q9 := cell_at HQ12.out (i := 9) rfl
    have ql := lG w12 _ q0
    have r0 := cell_at HR12.out (i := 0) rfl
    have r1 := cell_at HR12.out (i := 1) rfl
    have r2 := cell_at HR12.out (i := 2) rfl
    have r3 := cell_at HR12.out (i := 3) rfl
    have r4 := cell_at HR12.out (i := 4) rfl
    have r5 := cell_at HR12.out (i := 5) rfl
    have r6 := cell_at HR12.out (i := 6) rfl
    have r7 := cell_at HR12.out (i := 7) rfl
    have r8 := cell_at HR12.out (i := 8) rfl
    have r9 := cell_at HR12.out (i := 9) rfl
    have rl := lG w12 _ r0
    go_wp2_with fail
    clear r0 r1 r2 r3 r4 r5 r6 r7 r8 r9 rl HR12
    have p1c := cell_at HB12.out.r1 (i := 0) rfl
    have p1l := lG w12 _ p1c
    have HXb : Hid ((¬ F1 xb) /\ (¬ F2 xb) /\ xb < w12.heap.size) := ⟨fun hf => by have := HQ.out.d1.lt _ hf; have := HR11.out.2; omega, fun hf => by have := HQ.out.d2.lt _ hf; have := HR11.out.2; omega, (Array.getElem?_eq_some_iff.1 HE12.out).1⟩
    have HFq : Hid (¬ F1 qb) := fun hf => by have := HQ.out.d1.lt _ hf; have := HQl.out; omega
    have HD12 : Hid (DealX w12 B3 F1 d) := HB12.out.d1
    have HAsA : Hid (∀ w' F', DealX w' B3 F' d -> _) := fun w' F' hd => (ask_xd HB12.out.g1 (by have := HB12.out.o1; omega) kk s i kd m k n' f cc p hd).1.ask
    have HSvA : Hid (∀ w' F', DealX w' B4 F' d -> _) := fun w' F' hd => serve_x HOw.out HB12.out.g2 (by have := HB12.out.o2; omega) hd
    have HGA : Hid ((d.ask kk s i kd m k n' f cc p).2.Good /\ (d.ask kk s i kd m k n' f cc p).2.ops.length <= 700000 /\ inU64 (d.ask kk s i kd m k n' f cc p).1.zs) := ⟨(ask_xd HB12.out.g1 (by have := HB12.out.o1; omega) kk s i kd m k n' f cc p HD12.out).2, by have := ask_len HB12.out.g1 kk s i kd m k n' f cc p; have := HOps.out; omega, ask_in HB12.out.g1 (by have := HB12.out.o1; omega) kk s i kd m k n' f cc p HD12.out⟩
    have HOpA : Hid ((d.ask kk s i kd m k n' f cc p).2.ops.length <= 600008) := by show _ <= _; have := ask_len HB12.out.g1 kk s i kd m k n' f cc p; have := HOps.out; omega
    generalize d.ask kk s i kd m k n' f cc p = PA at *
    obtain ⟨⟨ac, af, an, az⟩, dA⟩ := PA
    simp only at HGA HOpA HSvA
    have HAsB : Hid (∀ w' F', DealX w' B3 F' dA -> _) := fun w' F' hd => (ask_xd HGA.out.1 (by have := HGA.out.2.1; omega) xk xs xi xd xm xl xn xf xc xp hd).1.ask
    have HSvB : Hid (∀ w' F', DealX w' B4 F' dA -> _) := fun w' F' hd => HXs.out w' B4 F' dA HGA.out.1 (by have := HGA.out.2.1; omega) hd
    have HGB : Hid ((dA.ask xk xs xi xd xm xl xn xf xc xp).2.Good /\ (dA.ask xk xs xi xd xm xl xn xf xc xp).2.ops.length <= 700000 /\ inU64 (dA.ask xk xs xi xd xm xl xn xf xc xp).1.zs) := ask_three HGA.out.1 HOpA.out xk xs xi xd xm xl xn xf xc xp
    generalize dA.ask xk xs xi xd xm xl xn xf xc xp = PB at *
    obtain ⟨⟨bc, bf, bn, bz⟩, dB⟩ := PB
    simp only at HGB HSvB
    unfold XPost replyV reqV at HAsA HAsB
    have SDA : Hid (∀ W2, Turn F1 w12 W2 -> (fun w' => w'.cell? ⟨P1, 0, none⟩ = some (.pointer (some ⟨B3, 0, none⟩)) /\ w'.cell? ⟨qb, 0, none⟩ = some (.int .i64 kk) /\ w'.cell? ⟨qb, 1, none⟩ = some (.int .i64 s) /\ w'.cell? ⟨qb, 2, none⟩ = some (.int .i64 i) /\ w'.cell? ⟨qb, 3, none⟩ = some (.int .i64 kd) /\ w'.cell? ⟨qb, 4, none⟩ = some (.int .i64 m) /\ w'.cell? ⟨qb, 5, none⟩ = some (.int .i64 k) /\ w'.cell? ⟨qb, 6, none⟩ = some (.int .i64 n') /\ w'.cell? ⟨qb, 7, none⟩ = some (.int .i64 f) /\ w'.cell? ⟨qb, 8, none⟩ = some (.int .i64 cc) /\ w'.cell? ⟨qb, 9, none⟩ = some (.int .i64 p)) W2) := fun W2 hT => ⟨hT.cell p1c HB12.out.a1, hT.cell q0 HFq.out, hT.cell q1 HFq.out, hT.cell q2 HFq.out, hT.cell q3 HFq.out, hT.cell q4 HFq.out, hT.cell q5 HFq.out, hT.cell q6 HFq.out, hT.cell q7 HFq.out, hT.cell q8 HFq.out, hT.cell q9 HFq.out⟩
    apply cut_ask (K := by assumption) (I := fun rb ya yl yc V => ∃ F', AskEnd w12 V B3 F1 F' (⟨ac, af, an, az⟩, dA) rb ya yl yc)
    ·intro HCA
     refine wp_region_held_drew (S := ((fun w' => w'.cell? ⟨P1, 0, none⟩ = some (.pointer (some ⟨B3, 0, none⟩)) /\ w'.cell? ⟨qb, 0, none⟩ = some (.int .i64 kk) /\ w'.cell? ⟨qb, 1, none⟩ = some (.int .i64 s) /\ w'.cell? ⟨qb, 2, none⟩ = some (.int .i64 i) /\ w'.cell? ⟨qb, 3, none⟩ = some (.int .i64 kd) /\ w'.cell? ⟨qb, 4, none⟩ = some (.int .i64 m) /\ w'.cell? ⟨qb, 5, none⟩ = some (.int .i64 k) /\ w'.cell? ⟨qb, 6, none⟩ = some (.int .i64 n') /\ w'.cell? ⟨qb, 7, none⟩ = some (.int .i64 f) /\ w'.cell? ⟨qb, 8, none⟩ = some (.int .i64 cc) /\ w'.cell? ⟨qb, 9, none⟩ = some (.int .i64 p)))) (by kernel_rfl) ⟨p1c, q0, q1, q2, q3, q4, q5, q6, q7, q8, q9⟩ (fun hHeld => ?_)
     refine zT 0 hHeld ?_
     refine zT 1 hHeld ?_
     refine zT 2 hHeld ?_
     refine zT 3 hHeld ?_
     refine zT 4 hHeld ?_
     refine wpAnyH_ready (rs := [5, 6]) (by kernel_rfl) (by simp) ?_
     refine AllReadyH.cons (o := _) rfl (fun K hK => ?_) (AllReadyH.cons (o := _) rfl (fun K hK => ?_) AllReadyH.nil)
     ·
      (try simp only [lA, lB, lC])
      go_simp
      refine (HAsA.out _ _ (HD12.out.ext (Ext.drew (Ext.refl _)))).mono ?_
      rintro e x6A ⟨yaA, ylA, ycA, FA, rfl, hzs, hso⟩
      (try simp only at hzs)
      have HSOA : Hid (XSo (⟨ac, af, an, az⟩, dA) _ x6A B3 F1 (.slice yaA ylA ycA) FA) := hso
      have HZSA : Hid (az.length <= 100000000) := hzs
      have HT6A : Hid (Turn F1 w12 x6A) := (Turn.of_ext (Ext.drew (Ext.refl _))).trans hso.turn
      clear hso hzs
      refine hK.out _ _ (SDA.out _ HT6A.out) (fun hHeld => ?_)
      clear hK K
      try simp only [Act.put, lA, lB, lC, lD, lE, lF]
      refine wpAnyH_ready (rs := [6]) (by kernel_rfl) (by simp) ?_
      refine AllReadyH.cons (o := _) rfl (fun K hK => ?_) AllReadyH.nil
      (try simp only [lA, lB, lC])
      go_simp
      refine hK.out _ _ (SDA.out _ (HT6A.out.trans (Turn.of_ext ((Ext.refl _).alloc _)))) (fun hHeld => ?_)
      clear hK K
      try simp only [Act.put, lA, lB, lC, lD, lE, lF]
      obtain ⟨rbA, hrb⟩ : ∃ rb, x6A.heap.size = rb := ⟨_, rfl⟩
      have HZ2 : Hid ((x6A.alloc (.cells #[.int .i64 0, .int .i64 0, .int .i64 0, .slice none 0 0] 33)).heap[rbA]? = some (.cells #[.int .i64 0, .int .i64 0, .int .i64 0, .slice none 0 0] 33 (0, 0))) := hrb ▸ heap_alloc_new _ _
      have HX7 : Hid (Ext x6A (x6A.alloc (.cells #[.int .i64 0, .int .i64 0, .int .i64 0, .slice none 0 0] 33))) := (Ext.refl _).alloc _
      rw [show x6A.heap.size = rbA from hrb]
      have HRB : Hid (w12.heap.size <= rbA /\ ¬ FA rbA) := ⟨by have := HT6A.out.size; omega, fun hf => by have := HSOA.out.deal.lt rbA hf; omega⟩
      have HRR : Hid (x6A.heap.size <= rbA) := by show _ <= _; omega
      generalize x6A.alloc (.cells #[.int .i64 0, .int .i64 0, .int .i64 0, .slice none 0 0] 33) = x7 at HZ2 HX7 hHeld ⊢
      have HT7 : Hid (Turn F1 w12 x7) := HT6A.out.trans (Turn.of_ext HX7.out)
      clear hrb
      have r0 := (cell_of_row x7 _ 0 _ _ _ HZ2.out).trans (show _ = some (.int .i64 0) from rfl)
      have r1 := (cell_of_row x7 _ 1 _ _ _ HZ2.out).trans (show _ = some (.int .i64 0) from rfl)
      have r2 := (cell_of_row x7 _ 2 _ _ _ HZ2.out).trans (show _ = some (.int .i64 0) from rfl)
      have r3 := (cell_of_row x7 _ 3 _ _ _ HZ2.out).trans (show _ = some (.slice none 0 0) from rfl)
      have z0 := frozen_row HZ2.out 0
      have z1 := frozen_row HZ2.out 1
      have z2 := frozen_row HZ2.out 2
      have z3 := frozen_row HZ2.out 3
      obtain ⟨hv, hVT⟩ := four_end HZ2.out (.int .i64 ac) (.int .i64 af) (.int .i64 an) (.slice yaA ylA ycA)
      have HV : Hid _ := hv
      have HVT : Hid _ := hVT
      refine wpAnyH_ready (rs := [7]) (by kernel_rfl) (by simp) ?_
      refine AllReadyH.cons (o := _) rfl (fun K hK => ?_) AllReadyH.nil
      (try simp only [lA, lB, lC])
      go_simp
      refine hK.out _ _ (SDA.out _ (HT7.out.trans' HVT.out (fun b hb e => by have := HRB.out.1; omega))) (fun hHeld => ?_)
      clear hK K
      try simp only [Act.put, lA, lB, lC, lD, lE, lF]
      refine wpAnyH_done (by kernel_rfl) ?_ _
      clear hHeld r0 r1 r2 r3 z0 z1 z2 z3
      generalize World.setCell _ _ _ = VA at hv hVT HV HVT ⊢
      have HNAA : Hid (AskEnd w12 VA B3 F1 FA (⟨ac, af, an, az⟩, dA) rbA yaA ylA ycA) := ask_end (Ext.drew (Ext.refl _)) HSOA.out HZSA.out HX7.out HVT.out HV.out HRB.out.1 HRB.out.2 (.inr HRR.out)
      exact HCA _ _ _ _ _ ⟨_, HNAA.out⟩
     ·
      (try simp only [lA, lB, lC])
      go_simp
      refine hK.out _ _ (SDA.out _ (Turn.of_ext (Ext.drew ((Ext.refl _).alloc _)))) (fun hHeld => ?_)
      clear hK K
      try simp only [Act.put, lA, lB, lC, lD, lE, lF]
      obtain ⟨rbA, hrb⟩ : ∃ rb, w12.heap.size = rb := ⟨_, rfl⟩
      have HZ0 : Hid (((w12.alloc (.cells #[.int .i64 0, .int .i64 0, .int .i64 0, .slice none 0 0] 33)).drew).heap[rbA]? = some (.cells #[.int .i64 0, .int .i64 0, .int .i64 0, .slice none 0 0] 33 (0, 0))) := hrb ▸ heap_alloc_new _ _
      have HXB : Hid (Ext w12 (w12.alloc (.cells #[.int .i64 0, .int .i64 0, .int .i64 0, .slice none 0 0] 33)).drew) := Ext.drew ((Ext.refl _).alloc _)
      rw [show w12.heap.size = rbA from hrb]
      have HRB0 : Hid (w12.heap.size <= rbA) := by show _ <= _; omega
      generalize (w12.alloc (.cells #[.int .i64 0, .int .i64 0, .int .i64 0, .slice none 0 0] 33)).drew = x8 at HZ0 HXB hHeld ⊢
      clear hrb
      refine wpAnyH_ready (rs := [5]) (by kernel_rfl) (by simp) ?_
      refine AllReadyH.cons (o := _) rfl (fun K hK => ?_) AllReadyH.nil
      (try simp only [lA, lB, lC])
      go_simp
      refine (HAsA.out _ _ (HD12.out.ext (HXB.out))).mono ?_
      rintro e x6A ⟨yaA, ylA, ycA, FA, rfl, hzs, hso⟩
      (try simp only at hzs)
      have HSOA : Hid (XSo (⟨ac, af, an, az⟩, dA) _ x6A B3 F1 (.slice yaA ylA ycA) FA) := hso
      have HZSA : Hid (az.length <= 100000000) := hzs
      have HT6A : Hid (Turn F1 w12 x6A) := (Turn.of_ext (HXB.out)).trans hso.turn
      clear hso hzs
      refine hK.out _ _ (SDA.out _ HT6A.out) (fun hHeld => ?_)
      clear hK K
      try simp only [Act.put, lA, lB, lC, lD, lE, lF]
      have HRR : Hid (rbA < x8.heap.size) := (Array.getElem?_eq_some_iff.1 HZ0.out).1
      have HRB : Hid (w12.heap.size <= rbA /\ ¬ FA rbA) := ⟨HRB0.out, fun hf => by
       have h1 := HRR.out
       have h2 := HD12.out.lt rbA
       rcases HSOA.out.grows rbA hf with h | h
       ·have := h2 h; have := HRB0.out; omega
       ·omega⟩
      have HFr : Hid (¬ F1 rbA) := fun hf => by have := HD12.out.lt rbA hf; have := HRB0.out; omega
      have HZ2 : Hid (x6A.heap[rbA]? = some (.cells #[.int .i64 0, .int .i64 0, .int .i64 0, .slice none 0 0] 33 (0, 0))) := HSOA.out.turn.ref HZ0.out HFr.out
      have HT7 : Hid (Turn F1 w12 x6A) := HT6A.out
      have r0 := (cell_of_row x6A _ 0 _ _ _ HZ2.out).trans (show _ = some (.int .i64 0) from rfl)
      have r1 := (cell_of_row x6A _ 1 _ _ _ HZ2.out).trans (show _ = some (.int .i64 0) from rfl)
      have r2 := (cell_of_row x6A _ 2 _ _ _ HZ2.out).trans (show _ = some (.int .i64 0) from rfl)
      have r3 := (cell_of_row x6A _ 3 _ _ _ HZ2.out).trans (show _ = some (.slice none 0 0) from rfl)
      have z0 := frozen_row HZ2.out 0
      have z1 := frozen_row HZ2.out 1
      have z2 := frozen_row HZ2.out 2
      have z3 := frozen_row HZ2.out 3
      obtain ⟨hv, hVT⟩ := four_end HZ2.out (.int .i64 ac) (.int .i64 af) (.int .i64 an) (.slice yaA ylA ycA)
      have HV : Hid _ := hv
      have HVT : Hid _ := hVT
      refine wpAnyH_ready (rs := [7]) (by kernel_rfl) (by simp) ?_
      refine AllReadyH.cons (o := _) rfl (fun K hK => ?_) AllReadyH.nil
      (try simp only [lA, lB, lC])
      go_simp
      refine hK.out _ _ (SDA.out _ (HT7.out.trans' HVT.out (fun b hb e => by have := HRB.out.1; omega))) (fun hHeld => ?_)
      clear hK K
      try simp only [Act.put, lA, lB, lC, lD, lE, lF]
      refine wpAnyH_done (by kernel_rfl) ?_ _
      clear hHeld r0 r1 r2 r3 z0 z1 z2 z3
      generalize World.setCell _ _ _ = VA at hv hVT HV HVT ⊢
      have HNAA : Hid (AskEnd w12 VA B3 F1 FA (⟨ac, af, an, az⟩, dA) rbA yaA ylA ycA) := ask_end HXB.out HSOA.out HZSA.out (Ext.refl _) HVT.out HV.out HRB.out.1 HRB.out.2 (.inl HRR.out)
      exact HCA _ _ _ _ _ ⟨_, HNAA.out⟩
    ·intro rbA yaA ylA ycA VA hC
     obtain ⟨FA, hC⟩ := hC
     have HNAA : Hid (AskEnd w12 VA B3 F1 FA (⟨ac, af, an, az⟩, dA) rbA yaA ylA ycA) := hC
     clear hC SDA
     have HBV : Hid (BothAt W VA P1 P2 B3 B4 FA F2 dA d fv1 fv2) := HB12.out.one ⟨HNAA.out.deal, HNAA.out.turn, HNAA.out.grows⟩ HGA.out.1 HGA.out.2.1
     have HFar : Hid (∀ b, F2 b -> b < w12.heap.size) := HB12.out.d2.lt
     have HXV : Hid (VA.heap[xb]? = _) := HNAA.out.turn.ref HE12.out HXb.out.1
     have v2 := cell_at HBV.out.r2 (i := 0) rfl
     have v2l := lG VA _ v2
     clear p1c p1l q0 q1 q2 q3 q4 q5 q6 q7 q8 q9 ql
     go_wp2_with fail
     refine (HSvA.out _ _ HBV.out.d2).mono ?_
     rintro e w15 ⟨rfl, F3, hl15⟩
     have HB15 : Hid (BothAt W w15 P1 P2 B3 B4 FA F3 dA dA fv1 fv2) := HBV.out.two hl15 HGA.out.1 HGA.out.2.1
     have HP15 : Hid (w15.heap[rbA]? = _) := hl15.turn.ref HNAA.out.rep (fun hf => by have := HFar.out _ hf; have := HNAA.out.new; omega)
     have HX15 : Hid (w15.heap[xb]? = _) := hl15.turn.ref HXV.out HXb.out.2.1
     have HXF3 : Hid (¬ F3 xb) := fun hf => (hl15.grows _ hf).elim HXb.out.2.1 (fun h => by have := HNAA.out.turn.size; have := HXb.out.2.2; omega)
     have HW15 : Hid (w15.ownsRow w12.heap.size 146 1 (.slice yaA ylA ycA) az.length (az.map (Value.int .u64))) := hl15.turn.owns HNAA.out.row (fun q hq hf => by have h1 := (World.ownsRow.lt HNAA.out.row q hq).1; have := HFar.out _ hf; omega)
     have HFx : Hid (¬ FA xb) := fun hf => (HNAA.out.grows _ hf).elim HXb.out.1 (fun h => by have := HXb.out.2.2; omega)
     have HPA : Hid (∀ w', Ext w15 w' -> _) := fun w' hx => printK_x (c := ac) (f := af) (n := an) HW15.out HGA.out.2.2 HNAA.out.le hx
     clear hl15 v2 v2l HXV HBV HNAA
     have a0 := (cell_of_row w15 _ 0 _ _ _ HP15.out).trans (show _ = some (.int .i64 ac) from rfl)
     have a1 := (cell_of_row w15 _ 1 _ _ _ HP15.out).trans (show _ = some (.int .i64 af) from rfl)
     have a2 := (cell_of_row w15 _ 2 _ _ _ HP15.out).trans (show _ = some (.int .i64 an) from rfl)
     have a3 := (cell_of_row w15 _ 3 _ _ _ HP15.out).trans (show _ = some (.slice yaA ylA ycA) from rfl)
     have al := lG w15 _ a0
     unfold replyV at HPA
     (try simp only at *)
     go_wp2_with fail
     refine (HPA.out _ (Ext.refl _)).mono ?_
     rintro e w16 ⟨rfl, hx16⟩
     have HB16 : Hid (BothAt W w16 P1 P2 B3 B4 FA F3 dA dA fv1 fv2) := HB15.out.ext hx16
     have HX16 : Hid (w16.heap[xb]? = _) := hx16.block HX15.out
     have v2 := cell_at HB16.out.r2 (i := 0) rfl
     have v2l := lG w16 _ v2
     clear hx16 a0 a1 a2 a3 al HPA HX15 HB15 HW15 HP15
     go_wp2_with fail
     refine (HSvB.out _ _ HB16.out.d2).mono ?_
     rintro e w17 ⟨rfl, F4, hl17⟩
     have HB17 : Hid (BothAt W w17 P1 P2 B3 B4 FA F4 dA dB fv1 fv2) := HB16.out.two hl17 HGB.out.1 HGB.out.2.1
     have HX17 : Hid (w17.heap[xb]? = _) := hl17.turn.ref HX16.out HXF3.out
     have HD17 : Hid (DealX w17 B3 FA dA) := HB17.out.d1
     have p1d := cell_at HB17.out.r1 (i := 0) rfl
     have p1e := lG w17 _ p1d
     clear hl17 v2 v2l HX16 HB16
     have y0 := (cell_of_row w17 _ 0 _ _ _ HX17.out).trans (show _ = some (.int .i64 xk) from rfl)
     have y1 := (cell_of_row w17 _ 1 _ _ _ HX17.out).trans (show _ = some (.int .i64 xs) from rfl)
     have y2 := (cell_of_row w17 _ 2 _ _ _ HX17.out).trans (show _ = some (.int .i64 xi) from rfl)
     have y3 := (cell_of_row w17 _ 3 _ _ _ HX17.out).trans (show _ = some (.int .i64 xd) from rfl)
     have y4 := (cell_of_row w17 _ 4 _ _ _ HX17.out).trans (show _ = some (.int .i64 xm) from rfl)
     have y5 := (cell_of_row w17 _ 5 _ _ _ HX17.out).trans (show _ = some (.int .i64 xl) from rfl)
     have y6 := (cell_of_row w17 _ 6 _ _ _ HX17.out).trans (show _ = some (.int .i64 xn) from rfl)
     have y7 := (cell_of_row w17 _ 7 _ _ _ HX17.out).trans (show _ = some (.int .i64 xf) from rfl)
     have y8 := (cell_of_row w17 _ 8 _ _ _ HX17.out).trans (show _ = some (.int .i64 xc) from rfl)
     have y9 := (cell_of_row w17 _ 9 _ _ _ HX17.out).trans (show _ = some (.int .i64 xp) from rfl)
     have yl := lG w17 _ y0
     go_wp2_with fail
     have SDB : Hid (∀ W2, Turn FA w17 W2 -> (fun w' => w'.cell? ⟨P1, 0, none⟩ = some (.pointer (some ⟨B3, 0, none⟩)) /\ w'.cell? ⟨xb, 0, none⟩ = some (.int .i64 xk) /\ w'.cell? ⟨xb, 1, none⟩ = some (.int .i64 xs) /\ w'.cell? ⟨xb, 2, none⟩ = some (.int .i64 xi) /\ w'.cell? ⟨xb, 3, none⟩ = some (.int .i64 xd) /\ w'.cell? ⟨xb, 4, none⟩ = some (.int .i64 xm) /\ w'.cell? ⟨xb, 5, none⟩ = some (.int .i64 xl) /\ w'.cell? ⟨xb, 6, none⟩ = some (.int .i64 xn) /\ w'.cell? ⟨xb, 7, none⟩ = some (.int .i64 xf) /\ w'.cell? ⟨xb, 8, none⟩ = some (.int .i64 xc) /\ w'.cell? ⟨xb, 9, none⟩ = some (.int .i64 xp)) W2) := fun W2 hT => ⟨hT.cell p1d HB17.out.a1, hT.cell y0 HFx.out, hT.cell y1 HFx.out, hT.cell y2 HFx.out, hT.cell y3 HFx.out, hT.cell y4 HFx.out, hT.cell y5 HFx.out, hT.cell y6 HFx.out, hT.cell y7 HFx.out, hT.cell y8 HFx.out, hT.cell y9 HFx.out⟩
     apply cut_ask (K := by assumption) (I := fun rb ya yl yc V => ∃ F', AskEnd w17 V B3 FA F' (⟨bc, bf, bn, bz⟩, dB) rb ya yl yc)
     ·intro HCB
      refine wp_region_held_drew (S := ((fun w' => w'.cell? ⟨P1, 0, none⟩ = some (.pointer (some ⟨B3, 0, none⟩)) /\ w'.cell? ⟨xb, 0, none⟩ = some (.int .i64 xk) /\ w'.cell? ⟨xb, 1, none⟩ = some (.int .i64 xs) /\ w'.cell? ⟨xb, 2, none⟩ = some (.int .i64 xi) /\ w'.cell? ⟨xb, 3, none⟩ = some (.int .i64 xd) /\ w'.cell? ⟨xb, 4, none⟩ = some (.int .i64 xm) /\ w'.cell? ⟨xb, 5, none⟩ = some (.int .i64 xl) /\ w'.cell? ⟨xb, 6, none⟩ = some (.int .i64 xn) /\ w'.cell? ⟨xb, 7, none⟩ = some (.int .i64 xf) /\ w'.cell? ⟨xb, 8, none⟩ = some (.int .i64 xc) /\ w'.cell? ⟨xb, 9, none⟩ = some (.int .i64 xp)))) (by kernel_rfl) ⟨p1d, y0, y1, y2, y3, y4, y5, y6, y7, y8, y9⟩ (fun hHeld => ?_)
      refine zT 0 hHeld ?_
      refine zT 1 hHeld ?_
      refine zT 2 hHeld ?_
      refine zT 3 hHeld ?_
      refine zT 4 hHeld ?_
      refine wpAnyH_ready (rs := [5, 6]) (by kernel_rfl) (by simp) ?_
      refine AllReadyH.cons (o := _) rfl (fun K hK => ?_) (AllReadyH.cons (o := _) rfl (fun K hK => ?_) AllReadyH.nil)
      ·
       (try simp only [lA, lB, lC])
       go_simp
       refine (HAsB.out _ _ (HD17.out.ext (Ext.drew (Ext.refl _)))).mono ?_
       rintro e x6B ⟨yaB, ylB, ycB, FB, rfl, hzs, hso⟩
       (try simp only at hzs)
       have HSOB : Hid (XSo (⟨bc, bf, bn, bz⟩, dB) _ x6B B3 FA (.slice yaB ylB ycB) FB) := hso
       have HZSB : Hid (bz.length <= 100000000) := hzs
       have HT6B : Hid (Turn FA w17 x6B) := (Turn.of_ext (Ext.drew (Ext.refl _))).trans hso.turn
       clear hso hzs
       refine hK.out _ _ (SDB.out _ HT6B.out) (fun hHeld => ?_)
       clear hK K
       try simp only [Act.put, lA, lB, lC, lD, lE, lF]
       refine wpAnyH_ready (rs := [6]) (by kernel_rfl) (by simp) ?_
       refine AllReadyH.cons (o := _) rfl (fun K hK => ?_) AllReadyH.nil
       (try simp only [lA, lB, lC])
       go_simp
       refine hK.out _ _ (SDB.out _ (HT6B.out.trans (Turn.of_ext ((Ext.refl _).alloc _)))) (fun hHeld => ?_)
       clear hK K
       try simp only [Act.put, lA, lB, lC, lD, lE, lF]
       obtain ⟨rbB, hrb⟩ : ∃ rb, x6B.heap.size = rb := ⟨_, rfl⟩
       have HZ2 : Hid ((x6B.alloc (.cells #[.int .i64 0, .int .i64 0, .int .i64 0, .slice none 0 0] 33)).heap[rbB]? = some (.cells #[.int .i64 0, .int .i64 0, .int .i64 0, .slice none 0 0] 33 (0, 0))) := hrb ▸ heap_alloc_new _ _
       have HX7 : Hid (Ext x6B (x6B.alloc (.cells #[.int .i64 0, .int .i64 0, .int .i64 0, .slice none 0 0] 33))) := (Ext.refl _).alloc _
       rw [show x6B.heap.size = rbB from hrb]
       have HRB : Hid (w17.heap.size <= rbB /\ ¬ FB rbB) := ⟨by have := HT6B.out.size; omega, fun hf => by have := HSOB.out.deal.lt rbB hf; omega⟩
       have HRR : Hid (x6B.heap.size <= rbB) := by show _ <= _; omega
       generalize x6B.alloc (.cells #[.int .i64 0, .int .i64 0, .int .i64 0, .slice none 0 0] 33) = x7 at HZ2 HX7 hHeld ⊢
       have HT7 : Hid (Turn FA w17 x7) := HT6B.out.trans (Turn.of_ext HX7.out)
       clear hrb
       have r0 := (cell_of_row x7 _ 0 _ _ _ HZ2.out).trans (show _ = some (.int .i64 0) from rfl)
       have r1 := (cell_of_row x7 _ 1 _ _ _ HZ2.out).trans (show _ = some (.int .i64 0) from rfl)
       have r2 := (cell_of_row x7 _ 2 _ _ _ HZ2.out).trans (show _ = some (.int .i64 0) from rfl)
       have r3 := (cell_of_row x7 _ 3 _ _ _ HZ2.out).trans (show _ = some (.slice none 0 0) from rfl)
       have z0 := frozen_row HZ2.out 0
       have z1 := frozen_row HZ2.out 1
       have z2 := frozen_row HZ2.out 2
       have z3 := frozen_row HZ2.out 3
       obtain ⟨hv, hVT⟩ := four_end HZ2.out (.int .i64 bc) (.int .i64 bf) (.int .i64 bn) (.slice yaB ylB ycB)
       have HV : Hid _ := hv
       have HVT : Hid _ := hVT
       refine wpAnyH_ready (rs := [7]) (by kernel_rfl) (by simp) ?_
       refine AllReadyH.cons (o := _) rfl (fun K hK => ?_) AllReadyH.nil
       (try simp only [lA, lB, lC])
       go_simp
       refine hK.out _ _ (SDB.out _ (HT7.out.trans' HVT.out (fun b hb e => by have := HRB.out.1; omega))) (fun hHeld => ?_)
       clear hK K
       try simp only [Act.put, lA, lB, lC, lD, lE, lF]
       refine wpAnyH_done (by kernel_rfl) ?_ _
       clear hHeld r0 r1 r2 r3 z0 z1 z2 z3
       generalize World.setCell _ _ _ = VB at hv hVT HV HVT ⊢
       have HNAB : Hid (AskEnd w17 VB B3 FA FB (⟨bc, bf, bn, bz⟩, dB) rbB yaB ylB ycB) := ask_end (Ext.drew (Ext.refl _)) HSOB.out HZSB.out HX7.out HVT.out HV.out HRB.out.1 HRB.out.2 (.inr HRR.out)
       exact HCB _ _ _ _ _ ⟨_, HNAB.out⟩
      ·
       (try simp only [lA, lB, lC])
       go_simp
       refine hK.out _ _ (SDB.out _ (Turn.of_ext (Ext.drew ((Ext.refl _).alloc _)))) (fun hHeld => ?_)
       clear hK K
       try simp only [Act.put, lA, lB, lC, lD, lE, lF]
       obtain ⟨rbB, hrb⟩ : ∃ rb, w17.heap.size = rb := ⟨_, rfl⟩
       have HZ0 : Hid (((w17.alloc (.cells #[.int .i64 0, .int .i64 0, .int .i64 0, .slice none 0 0] 33)).drew).heap[rbB]? = some (.cells #[.int .i64 0, .int .i64 0, .int .i64 0, .slice none 0 0] 33 (0, 0))) := hrb ▸ heap_alloc_new _ _
       have HXB : Hid (Ext w17 (w17.alloc (.cells #[.int .i64 0, .int .i64 0, .int .i64 0, .slice none 0 0] 33)).drew) := Ext.drew ((Ext.refl _).alloc _)
       rw [show w17.heap.size = rbB from hrb]
       have HRB0 : Hid (w17.heap.size <= rbB) := by show _ <= _; omega
       generalize (w17.alloc (.cells #[.int .i64 0, .int .i64 0, .int .i64 0, .slice none 0 0] 33)).drew = x8 at HZ0 HXB hHeld ⊢
       clear hrb
       refine wpAnyH_ready (rs := [5]) (by kernel_rfl) (by simp) ?_
       refine AllReadyH.cons (o := _) rfl (fun K hK => ?_) AllReadyH.nil
       (try simp only [lA, lB, lC])
       go_simp
       refine (HAsB.out _ _ (HD17.out.ext (HXB.out))).mono ?_
       rintro e x6B ⟨yaB, ylB, ycB, FB, rfl, hzs, hso⟩
       (try simp only at hzs)
       have HSOB : Hid (XSo (⟨bc, bf, bn, bz⟩, dB) _ x6B B3 FA (.slice yaB ylB ycB) FB) := hso
       have HZSB : Hid (bz.length <= 100000000) := hzs
       have HT6B : Hid (Turn FA w17 x6B) := (Turn.of_ext (HXB.out)).trans hso.turn
       clear hso hzs
       refine hK.out _ _ (SDB.out _ HT6B.out) (fun hHeld => ?_)
       clear hK K
       try simp only [Act.put, lA, lB, lC, lD, lE, lF]
       have HRR : Hid (rbB < x8.heap.size) := (Array.getElem?_eq_some_iff.1 HZ0.out).1
       have HRB : Hid (w17.heap.size <= rbB /\ ¬ FB rbB) := ⟨HRB0.out, fun hf => by
        have h1 := HRR.out
        have h2 := HD17.out.lt rbB
        rcases HSOB.out.grows rbB hf with h | h
        ·have := h2 h; have := HRB0.out; omega
        ·omega⟩
       have HFr : Hid (¬ FA rbB) := fun hf => by have := HD17.out.lt rbB hf; have := HRB0.out; omega
       have HZ2 : Hid (x6B.heap[rbB]? = some (.cells #[.int .i64 0, .int .i64 0, .int .i64 0, .slice none 0 0] 33 (0, 0))) := HSOB.out.turn.ref HZ0.out HFr.out
       have HT7 : Hid (Turn FA w17 x6B) := HT6B.out
       have r0 := (cell_of_row x6B _ 0 _ _ _ HZ2.out).trans (show _ = some (.int .i64 0) from rfl)
       have r1 := (cell_of_row x6B _ 1 _ _ _ HZ2.out).trans (show _ = some (.int .i64 0) from rfl)
       have r2 := (cell_of_row x6B _ 2 _ _ _ HZ2.out).trans (show _ = some (.int .i64 0) from rfl)
       have r3 := (cell_of_row x6B _ 3 _ _ _ HZ2.out).trans (show _ = some (.slice none 0 0) from rfl)
       have z0 := frozen_row HZ2.out 0
       have z1 := frozen_row HZ2.out 1
       have z2 := frozen_row HZ2.out 2
       have z3 := frozen_row HZ2.out 3
       obtain ⟨hv, hVT⟩ := four_end HZ2.out (.int .i64 bc) (.int .i64 bf) (.int .i64 bn) (.slice yaB ylB ycB)
       have HV : Hid _ := hv
       have HVT : Hid _ := hVT
       refine wpAnyH_ready (rs := [7]) (by kernel_rfl) (by simp) ?_
       refine AllReadyH.cons (o := _) rfl (fun K hK => ?_) AllReadyH.nil
       (try simp only [lA, lB, lC])
       go_simp
       refine hK.out _ _ (SDB.out _ (HT7.out.trans' HVT.out (fun b hb e => by have := HRB.out.1; omega))) (fun hHeld => ?_)
       clear hK K
       try simp only [Act.put, lA, lB, lC, lD, lE, lF]
       refine wpAnyH_done (by kernel_rfl) ?_ _
       clear hHeld r0 r1 r2 r3 z0 z1 z2 z3
       generalize World.setCell _ _ _ = VB at hv hVT HV HVT ⊢
       have HNAB : Hid (AskEnd w17 VB B3 FA FB (⟨bc, bf, bn, bz⟩, dB) rbB yaB ylB ycB) := ask_end HXB.out HSOB.out HZSB.out (Ext.refl _) HVT.out HV.out HRB.out.1 HRB.out.2 (.inl HRR.out)
       exact HCB _ _ _ _ _ ⟨_, HNAB.out⟩
     ·intro rbB yaB ylB ycB VB hC
      obtain ⟨FB, hC⟩ := hC
      have HNAB : Hid (AskEnd w17 VB B3 FA FB (⟨bc, bf, bn, bz⟩, dB) rbB yaB ylB ycB) := hC
      clear hC SDB
      have b0 := (cell_of_row VB _ 0 _ _ _ HNAB.out.rep).trans (show _ = some (.int .i64 bc) from rfl)
      have b1 := (cell_of_row VB _ 1 _ _ _ HNAB.out.rep).trans (show _ = some (.int .i64 bf) from rfl)
      have b2 := (cell_of_row VB _ 2 _ _ _ HNAB.out.rep).trans (show _ = some (.int .i64 bn) from rfl)
      have b3 := (cell_of_row VB _ 3 _ _ _ HNAB.out.rep).trans (show _ = some (.slice yaB ylB ycB) from rfl)
      have bl := lG VB _ b0
      have HPr : Hid (∀ w', Ext VB w' -> _) := fun w' hx => printK_x (c := bc) (f := bf) (n := bn) (HNAB.out.row) HGB.out.2.2 HNAB.out.le hx
      have HBB : Hid (BothAt W VB P1 P2 B3 B4 FB F4 dB dB fv1 fv2) := HB17.out.one ⟨HNAB.out.deal, HNAB.out.turn, HNAB.out.grows⟩ HGB.out.1 HGB.out.2.1
      unfold replyV at HPr
      (try simp only at *)
      go_wp2_with fail
      refine (HPr.out _ (Ext.refl _)).mono ?_
      rintro e w19 ⟨rfl, hx19⟩
      have HX19 : Hid (Ext VB w19) := hx19
      clear hx19 b0 b1 b2 b3 bl HPr
      go_wp2_with fail
      go_ret
      exact ⟨by simp, back_end HB.out HBB.out HX19.out⟩
end
end Go.Proofs.YtmnjhhachdlmkaaGreat
