import Derived.Test.YtmnjhhachdlmkaaGreatK15
namespace Go.Proofs.YtmnjhhachdlmkaaGreat
set_option linter.all false
set_option maxRecDepth 100000
set_option maxHeartbeats 3200000
open Tryz
open List renaming getElem?_set_ne -> lU, getElem?_set_self -> sA, length_set -> rK, getElem?_eq_getElem -> lZ, length_append -> lW
open Int renaming natCast_mul -> rQ
open IntKind renaming wrap_i64 -> rP
open Ext renaming refl -> lI, owns -> rE, alloc -> lK
open World renaming alloc -> lP, news_of_block -> rI, ownsRow -> lR
open Nat renaming zero_le -> lT, not_lt_zero -> sG, add_mul -> rO
open Turn renaming refl -> rD, setCell -> lQ, grown -> rJ, of_ext -> lM
open Go.RowKit Go.Maps
open World renaming block_lt_of_cell? -> lG
open Value renaming ownBlock -> lH
section
theorem XU {n j:Nat}{mz:Int}{xs:List Value}(hl:xs.length=n*9)(hj:j<n)(h:MkRow 9 [.int .i64 mz,.int .i64 0,.int .i64 0,.int .i64 0,.int .i64 0,.int .i64 0,.int .i64 0,.int .i64 0,.bool false] j xs):MkRow 9 [.int .i64 mz,.int .i64 0,.int .i64 0,.int .i64 0,.int .i64 0,.int .i64 0,.int .i64 0,.int .i64 0,.bool false] (j+1) (((((((((xs.set (j*9) (.int .i64 mz)).set (j*9+1) (.int .i64 0)).set (j*9+2) (.int .i64 0)).set (j*9+3) (.int .i64 0)).set (j*9+4) (.int .i64 0)).set (j*9+5) (.int .i64 0)).set (j*9+6) (.int .i64 0)).set (j*9+7) (.int .i64 0)).set (j*9+8) (.bool false)):=by
 intro i hi k u hu;have hk:k<9:=(List.getElem?_eq_some_iff.1 hu).1;by_cases e:i<j
 ·rw [lU (by omega),lU (by omega),lU (by omega),lU (by omega),lU (by omega),lU (by omega),lU (by omega),lU (by omega),lU (by omega)];exact h i e k u hu
 ·obtain rfl:i=j:=by omega
  rcases(show k=0\/k=1\/k=2\/k=3\/k=4\/k=5\/k=6\/k=7\/k=8 by omega) with rfl|rfl|rfl|rfl|rfl|rfl|rfl|rfl|rfl
  ·show _[i*9+0]?=_
   simp only [Nat.add_zero];rw [lU (by omega),lU (by omega),lU (by omega),lU (by omega),lU (by omega),lU (by omega),lU (by omega),lU (by omega),sA (by(try simp only [rK]);omega)];simpa using hu
  ·rw [lU (by omega),lU (by omega),lU (by omega),lU (by omega),lU (by omega),lU (by omega),lU (by omega),sA (by(try simp only [rK]);omega)];simpa using hu
  ·rw [lU (by omega),lU (by omega),lU (by omega),lU (by omega),lU (by omega),lU (by omega),sA (by(try simp only [rK]);omega)];simpa using hu
  ·rw [lU (by omega),lU (by omega),lU (by omega),lU (by omega),lU (by omega),sA (by(try simp only [rK]);omega)];simpa using hu
  ·rw [lU (by omega),lU (by omega),lU (by omega),lU (by omega),sA (by(try simp only [rK]);omega)];simpa using hu
  ·rw [lU (by omega),lU (by omega),lU (by omega),sA (by(try simp only [rK]);omega)];simpa using hu
  ·rw [lU (by omega),lU (by omega),sA (by(try simp only [rK]);omega)];simpa using hu
  ·rw [lU (by omega),sA (by(try simp only [rK]);omega)];simpa using hu
  ·rw [sA (by(try simp only [rK]);omega)];simpa using hu
theorem VO {G:Nat->Prop}(P m base:Nat)(pcs:Array Value)(hps:pcs.size=11)(bv:Value)(hb:pcs[9]?=some bv)(la:Option Addr)(n lcap:Nat)(xs0:List Value)(hm:m<=1000000)(hn:n<=100000000)(w:World)(hP:w.heap[P]?=some (.cells pcs 94 (0,0)))(hbk:BookRow w G 38 9 mkL bv m)(ho:w.ownsRow base 56 9 (.slice la n lcap) n xs0)(hGl:∀q,lH (.slice la n lcap)=some q->¬G q)(hGb:∀q,bv.ownBlock=some q->¬G q)(hGs:∀q,G q->q<w.heap.size)(hGP:¬G P)(hbw:base<=w.heap.size) :
  Calls Tryz.prog 79 #[.pointer (some ⟨P,7,none⟩),.slice la n lcap] w fun e w'=>e=.returned (.tuple #[])/\∃bv',w'.heap[P]?=some (.cells (pcs.setIfInBounds 9 bv') 94 (0,0))/\(∃G',(∀q,G q->G' q)/\(∀q,G' q->G q\/lH (.slice la n lcap)=some q\/(w.heap.size<=q/\q<w'.heap.size))/\(∀q,bv'.ownBlock=some q->¬G' q)/\¬G' P/\BookRow w' G' 38 9 mkL bv' (m+1))/\(∀q,bv'.ownBlock=some q->bv.ownBlock=some q\/w.heap.size<=q)/\Turn (fun b=>b=P\/bv.ownBlock=some b\/lH (.slice la n lcap)=some b) w w':=by
 obtain⟨i0,hi,hz0,hz1,hz2⟩:=info_parts Y5;obtain⟨k0,hk0,hw0,hw1,hw2⟩:=info_parts Kw;obtain⟨vs,hvo,hvm⟩:=hbk;obtain⟨bn,hbn⟩:∃bn,4*m=bn:=⟨_,rfl⟩
 rw [hbn] at hvo;have HBN:=hid hbn;have hbnb:bn<=4000000:=by omega
 have hq4:Int.tdiv (bn:Int) 4=(m:Int):=by rw [<-hbn,rQ,Int.mul_comm];exact Int.mul_tdiv_cancel _ (by decide)
 obtain⟨mz,hmz⟩:∃mz:Int,-1 - (m:Int)=mz:=⟨_,rfl⟩
 have hwz:IntKind.i64.wrap (-1 - (m:Int))=mz:=by rw [<-hmz];rw [rP];omega
 have HMZ:Hd (mkL m=[.int .i64 mz,.int .i64 0,.int .i64 0,.int .i64 0,.int .i64 0,.int .i64 0,.int .i64 0,.int .i64 0,.bool false]):=by
  show mkL m=_
  rw [<-hmz];rfl
 obtain⟨ba,bcap,rfl⟩:=zo hvo;have HB:=hid hvo;have HV:=hid hvm;have HO0:=hid ho;have HG1:=hid hGl;have HG2:=hid hGb;have HG3:=hid hGs;have HP:=hid hP;have HPS:Hd (pcs.size=11/\pcs[9]?=some (.slice ba bn bcap)/\¬G P):=⟨hps,hb,hGP⟩
 have HLP:Hd (lH (.slice la n lcap)≠some P):=Zk (B:=P) hP ho (by decide);have HBP:Hd (lH (.slice ba bn bcap)≠some P):=Zk (B:=P) hP hvo (by decide);have HLB:Hd (∀q,lH (.slice la n lcap)=some q->q<w.heap.size):=fun q hq=>zx ho hq
 have HBB:Hd (∀q,lH (.slice ba bn bcap)=some q->q<w.heap.size/\lH (.slice la n lcap)≠some q):=fun q hq=>⟨zx hvo hq,fun e=>by obtain⟨cur,hc⟩:=zf hvo hq;obtain⟨cur',hc'⟩:=zf ho e;exact zh hc hc' (by decide) rfl⟩
 have y:w.cell? ⟨P,9,none⟩=some (.slice ba bn bcap):=zc hP hb;have hPl:=lG w _ y;clear hvo hvm ho hGl hGb hGs hP hps hb hbn hmz hGP;go_enter func79,ntmps79;go_wp2_with fail
 have hmk:(w.alloc (.cells #[.int .i64 mz,.int .i64 0,.int .i64 0,.int .i64 0,.int .i64 0,.int .i64 0,.int .i64 0,.int .i64 0,.bool false] 56)).heap[w.heap.size]?=some (.cells #[.int .i64 mz,.int .i64 0,.int .i64 0,.int .i64 0,.int .i64 0,.int .i64 0,.int .i64 0,.int .i64 0,.bool false] 56 (0,0)):=heap_alloc_new _ _;have hXW:Ext w (w.alloc (.cells #[.int .i64 mz,.int .i64 0,.int .i64 0,.int .i64 0,.int .i64 0,.int .i64 0,.int .i64 0,.int .i64 0,.bool false] 56)):=(lI w).alloc _;obtain⟨mb,hmb⟩:∃mb,w.heap.size=mb:=⟨_,rfl⟩
 rw [hmb] at hmk;simp only [hmb];generalize lP w _=W at hmk hXW ⊢;have HMB:=hid hmb;have HMK:=hid hmk;have HXW:=hid hXW;clear hmb hmk hXW
 go_loopw [5] (fun at_ wr=>∃(j:Nat) (xs:List Value),j<=n/\at_=.int .i64 (j:Int)/\wr.ownsRow base 56 9 (.slice la n lcap) n xs/\MkRow 9 [.int .i64 mz,.int .i64 0,.int .i64 0,.int .i64 0,.int .i64 0,.int .i64 0,.int .i64 0,.int .i64 0,.bool false] j xs/\Turn (fun b=>lH (.slice la n lcap)=some b) W wr/\wr.heap[mb]?=some (.cells #[.int .i64 mz,.int .i64 0,.int .i64 0,.int .i64 0,.int .i64 0,.int .i64 0,.int .i64 0,.int .i64 0,.bool false] 56 (0,0))) (fun at_ _=>n - (intOf at_).toNat)
 case atStart=>exact⟨0,xs0,lT _,rfl,HXW.o.owns HO0.o,fun i hi=>absurd hi (sG _),rD _ _,HMK.o⟩
 case round=>
  obtain⟨j,xs,hj,rfl,ho,hmr,ht,hmk⟩:=hrel;have HR0:=hid ho;have HMR:=hid hmr;have HT:=hid ht;have HM:=hid hmk;clear ho hmr ht hmk;by_cases hlt:j<n
  ·obtain⟨gl,rfl⟩:∃g,la=some ⟨g,0,none⟩:=by
    rcases zw HR0.o with⟨_,h2,_⟩|⟨g,c,h1,_⟩
    ·omega
    ·injection h1 with e1 _ _
     exact⟨g,e1⟩
   have HO:Hd (wr.ownsRow base 56 9 (.slice (some ⟨gl,0,none⟩) n lcap) n xs):=HR0.o;have hk0:(0:Int)<=(j:Int):=by omega
   have hk1:(j:Int)<n:=by omega
   have c0:∃u,wr.cell? ⟨gl,j*9,none⟩=some u:=by
    have hl0:j*9<xs.length:=by rw [HO.o.1];omega
    exact⟨_,zk HO.o (lZ hl0)⟩
   obtain⟨old0,c0⟩:=c0;have z0:wr.frozen? ⟨gl,j*9,none⟩=false:=by obtain⟨cur,hc⟩:=zf HO.o (g:=gl) rfl;exact ze hc _
   have c1:∃u,wr.cell? ⟨gl,j*9+1,none⟩=some u:=by
    have hl1:j*9+1<xs.length:=by rw [HO.o.1];omega
    exact⟨_,zk HO.o (lZ hl1)⟩
   obtain⟨old1,c1⟩:=c1;have z1:wr.frozen? ⟨gl,j*9+1,none⟩=false:=by obtain⟨cur,hc⟩:=zf HO.o (g:=gl) rfl;exact ze hc _
   have c2:∃u,wr.cell? ⟨gl,j*9+2,none⟩=some u:=by
    have hl2:j*9+2<xs.length:=by rw [HO.o.1];omega
    exact⟨_,zk HO.o (lZ hl2)⟩
   obtain⟨old2,c2⟩:=c2;have z2:wr.frozen? ⟨gl,j*9+2,none⟩=false:=by obtain⟨cur,hc⟩:=zf HO.o (g:=gl) rfl;exact ze hc _
   have c3:∃u,wr.cell? ⟨gl,j*9+3,none⟩=some u:=by
    have hl3:j*9+3<xs.length:=by rw [HO.o.1];omega
    exact⟨_,zk HO.o (lZ hl3)⟩
   obtain⟨old3,c3⟩:=c3;have z3:wr.frozen? ⟨gl,j*9+3,none⟩=false:=by obtain⟨cur,hc⟩:=zf HO.o (g:=gl) rfl;exact ze hc _
   have c4:∃u,wr.cell? ⟨gl,j*9+4,none⟩=some u:=by
    have hl4:j*9+4<xs.length:=by rw [HO.o.1];omega
    exact⟨_,zk HO.o (lZ hl4)⟩
   obtain⟨old4,c4⟩:=c4;have z4:wr.frozen? ⟨gl,j*9+4,none⟩=false:=by obtain⟨cur,hc⟩:=zf HO.o (g:=gl) rfl;exact ze hc _
   have c5:∃u,wr.cell? ⟨gl,j*9+5,none⟩=some u:=by
    have hl5:j*9+5<xs.length:=by rw [HO.o.1];omega
    exact⟨_,zk HO.o (lZ hl5)⟩
   obtain⟨old5,c5⟩:=c5;have z5:wr.frozen? ⟨gl,j*9+5,none⟩=false:=by obtain⟨cur,hc⟩:=zf HO.o (g:=gl) rfl;exact ze hc _
   have c6:∃u,wr.cell? ⟨gl,j*9+6,none⟩=some u:=by
    have hl6:j*9+6<xs.length:=by rw [HO.o.1];omega
    exact⟨_,zk HO.o (lZ hl6)⟩
   obtain⟨old6,c6⟩:=c6;have z6:wr.frozen? ⟨gl,j*9+6,none⟩=false:=by obtain⟨cur,hc⟩:=zf HO.o (g:=gl) rfl;exact ze hc _
   have c7:∃u,wr.cell? ⟨gl,j*9+7,none⟩=some u:=by
    have hl7:j*9+7<xs.length:=by rw [HO.o.1];omega
    exact⟨_,zk HO.o (lZ hl7)⟩
   obtain⟨old7,c7⟩:=c7;have z7:wr.frozen? ⟨gl,j*9+7,none⟩=false:=by obtain⟨cur,hc⟩:=zf HO.o (g:=gl) rfl;exact ze hc _
   have c8:∃u,wr.cell? ⟨gl,j*9+8,none⟩=some u:=by
    have hl8:j*9+8<xs.length:=by rw [HO.o.1];omega
    exact⟨_,zk HO.o (lZ hl8)⟩
   obtain⟨old8,c8⟩:=c8;have z8:wr.frozen? ⟨gl,j*9+8,none⟩=false:=by obtain⟨cur,hc⟩:=zf HO.o (g:=gl) rfl;exact ze hc _
   have m0:wr.cell? ⟨mb,0,none⟩=some (.int .i64 mz):=zc HM.o rfl;have m1:wr.cell? ⟨mb,1,none⟩=some (.int .i64 0):=zc HM.o rfl;have m2:wr.cell? ⟨mb,2,none⟩=some (.int .i64 0):=zc HM.o rfl;have m3:wr.cell? ⟨mb,3,none⟩=some (.int .i64 0):=zc HM.o rfl;have m4:wr.cell? ⟨mb,4,none⟩=some (.int .i64 0):=zc HM.o rfl;have m5:wr.cell? ⟨mb,5,none⟩=some (.int .i64 0):=zc HM.o rfl;have m6:wr.cell? ⟨mb,6,none⟩=some (.int .i64 0):=zc HM.o rfl;have m7:wr.cell? ⟨mb,7,none⟩=some (.int .i64 0):=zc HM.o rfl;have m8:wr.cell? ⟨mb,8,none⟩=some (.bool false):=zc HM.o rfl;have hgl:=lG wr _ c0;have hne:gl≠mb:=by have:=HLB.o gl rfl;have:=HMB.o;omega
   go_wp2
   go_roundw
   case rel=>
    refine⟨j+1,_,by omega,by go_num,(zI (zI (zI (zI (zI (zI (zI (zI (zI HO.o (j*9) _) (j*9+1) _) (j*9+2) _) (j*9+3) _) (j*9+4) _) (j*9+5) _) (j*9+6) _) (j*9+7) _) (j*9+8) _),XU HO.o.1 hlt HMR.o,(lQ (S:=fun b=>lH (.slice (some ⟨gl,0,none⟩) n lcap)=some b) (p:=⟨gl,j*9+8,none⟩) (lQ (S:=fun b=>lH (.slice (some ⟨gl,0,none⟩) n lcap)=some b) (p:=⟨gl,j*9+7,none⟩) (lQ (S:=fun b=>lH (.slice (some ⟨gl,0,none⟩) n lcap)=some b) (p:=⟨gl,j*9+6,none⟩) (lQ (S:=fun b=>lH (.slice (some ⟨gl,0,none⟩) n lcap)=some b) (p:=⟨gl,j*9+5,none⟩) (lQ (S:=fun b=>lH (.slice (some ⟨gl,0,none⟩) n lcap)=some b) (p:=⟨gl,j*9+4,none⟩) (lQ (S:=fun b=>lH (.slice (some ⟨gl,0,none⟩) n lcap)=some b) (p:=⟨gl,j*9+3,none⟩) (lQ (S:=fun b=>lH (.slice (some ⟨gl,0,none⟩) n lcap)=some b) (p:=⟨gl,j*9+2,none⟩) (lQ (S:=fun b=>lH (.slice (some ⟨gl,0,none⟩) n lcap)=some b) (p:=⟨gl,j*9+1,none⟩) (lQ (S:=fun b=>lH (.slice (some ⟨gl,0,none⟩) n lcap)=some b) (p:=⟨gl,j*9,none⟩) HT.o (fun _=>rfl) _) (fun _=>rfl) _) (fun _=>rfl) _) (fun _=>rfl) _) (fun _=>rfl) _) (fun _=>rfl) _) (fun _=>rfl) _) (fun _=>rfl) _) (fun _=>rfl) _),(Turn.ref (S:=fun b=>b=gl) ((lQ (S:=fun b=>b=gl) (p:=⟨gl,j*9+8,none⟩) (lQ (S:=fun b=>b=gl) (p:=⟨gl,j*9+7,none⟩) (lQ (S:=fun b=>b=gl) (p:=⟨gl,j*9+6,none⟩) (lQ (S:=fun b=>b=gl) (p:=⟨gl,j*9+5,none⟩) (lQ (S:=fun b=>b=gl) (p:=⟨gl,j*9+4,none⟩) (lQ (S:=fun b=>b=gl) (p:=⟨gl,j*9+3,none⟩) (lQ (S:=fun b=>b=gl) (p:=⟨gl,j*9+2,none⟩) (lQ (S:=fun b=>b=gl) (p:=⟨gl,j*9+1,none⟩) (lQ (S:=fun b=>b=gl) (p:=⟨gl,j*9,none⟩) (rD _ wr) (fun _=>rfl) _) (fun _=>rfl) _) (fun _=>rfl) _) (fun _=>rfl) _) (fun _=>rfl) _) (fun _=>rfl) _) (fun _=>rfl) _) (fun _=>rfl) _) (fun _=>rfl) _)) HM.o (fun e=>hne e.symm))⟩
   case measure=>simp [intOf];omega
  ·obtain rfl:j=n:=by omega
   clear hlt hj;have y0:wr.cell? ⟨P,9,none⟩=some (.slice ba bn bcap):=HT.o.cell (HXW.o.cell y) (by intro e;exact HLP.o e);have m0:wr.cell? ⟨mb,0,none⟩=some (.int .i64 mz):=zc HM.o rfl;have m1:wr.cell? ⟨mb,1,none⟩=some (.int .i64 0):=zc HM.o rfl;have m2:wr.cell? ⟨mb,2,none⟩=some (.int .i64 0):=zc HM.o rfl;have m3:wr.cell? ⟨mb,3,none⟩=some (.int .i64 0):=zc HM.o rfl;have m4:wr.cell? ⟨mb,4,none⟩=some (.int .i64 0):=zc HM.o rfl;have m5:wr.cell? ⟨mb,5,none⟩=some (.int .i64 0):=zc HM.o rfl;have m6:wr.cell? ⟨mb,6,none⟩=some (.int .i64 0):=zc HM.o rfl;have m7:wr.cell? ⟨mb,7,none⟩=some (.int .i64 0):=zc HM.o rfl;have m8:wr.cell? ⟨mb,8,none⟩=some (.bool false):=zc HM.o rfl;have hszr:=HT.o.size;have hWw:=HXW.o.le;have hmbw:=HMB.o;go_wp2_with (at_builtin;refine zD _ rfl _ _ 38 rfl base 56 i0 _ 9 72 underlying38 hi hz0 hz1 hz2 rfl (by decide) (.slice la j lcap) j xs rfl (rE (lK (lI _) _) HR0.o) ⟨_,0,none⟩ 1 1 [.int .i64 mz,.int .i64 0,.int .i64 0,.int .i64 0,.int .i64 0,.int .i64 0,.int .i64 0,.int .i64 0,.bool false] rfl rfl (rI (zm (by simp))) (by simp [Value.oneCell']) (by decide) (by unfold maxLen;omega) (by omega) (by simp;omega) ?_)
   intro g1 cap1 w1 hown hkept hgrow hcase hlt;have HR1:=hid hown;have HK1:=hid hkept;have HT1:Hd (Turn (fun b=>lH (.slice la j lcap)=some b) wr w1):=rJ (Turn.alloc (rD _ _) _) hgrow (fun q hq _=>hq);have HC1:Hd (lH (.slice la j lcap)=some g1\/(Ext wr w1/\wr.heap.size<=g1)):=hcase.imp id (fun h=>⟨(lK (lI _) _).trans h.1,by have:=h.2;(try simp at this);omega⟩);have hsz1:=HT1.o.size;clear hown hkept hgrow hcase hlt;have m0:w1.cell? ⟨mb,0,none⟩=some (.int .i64 mz):=HT1.o.cell m0 (by intro e;have:=HLB.o mb e;omega);have m1:w1.cell? ⟨mb,1,none⟩=some (.int .i64 0):=HT1.o.cell m1 (by intro e;have:=HLB.o mb e;omega);have m2:w1.cell? ⟨mb,2,none⟩=some (.int .i64 0):=HT1.o.cell m2 (by intro e;have:=HLB.o mb e;omega);have m3:w1.cell? ⟨mb,3,none⟩=some (.int .i64 0):=HT1.o.cell m3 (by intro e;have:=HLB.o mb e;omega);have m4:w1.cell? ⟨mb,4,none⟩=some (.int .i64 0):=HT1.o.cell m4 (by intro e;have:=HLB.o mb e;omega);have m5:w1.cell? ⟨mb,5,none⟩=some (.int .i64 0):=HT1.o.cell m5 (by intro e;have:=HLB.o mb e;omega);have m6:w1.cell? ⟨mb,6,none⟩=some (.int .i64 0):=HT1.o.cell m6 (by intro e;have:=HLB.o mb e;omega);have m7:w1.cell? ⟨mb,7,none⟩=some (.int .i64 0):=HT1.o.cell m7 (by intro e;have:=HLB.o mb e;omega);have m8:w1.cell? ⟨mb,8,none⟩=some (.bool false):=HT1.o.cell m8 (by intro e;have:=HLB.o mb e;omega);have y1:w1.cell? ⟨P,9,none⟩=some (.slice ba bn bcap):=HT1.o.cell y0 (by intro e;exact HLP.o e);go_wp2_with (at_builtin;refine zD _ rfl _ _ 38 rfl base 56 i0 _ 9 72 underlying38 hi hz0 hz1 hz2 rfl (by decide) (.slice la j lcap) j xs rfl (rE (lK (lI _) _) HK1.o) ⟨_,0,none⟩ 2 2 [.int .i64 mz,.int .i64 0,.int .i64 0,.int .i64 0,.int .i64 0,.int .i64 0,.int .i64 0,.int .i64 0,.bool false,.int .i64 mz,.int .i64 0,.int .i64 0,.int .i64 0,.int .i64 0,.int .i64 0,.int .i64 0,.int .i64 0,.bool false] rfl rfl (rI (zm (by simp))) (by simp [Value.oneCell']) (by decide) (by unfold maxLen;omega) (by omega) (by simp;omega) ?_)
   intro g2 cap2 w2 hown hkept hgrow hcase hlt;have HR2:=hid hown;have HK2:=hid hkept;have HT2:Hd (Turn (fun b=>lH (.slice la j lcap)=some b) w1 w2):=rJ (Turn.alloc (rD _ _) _) hgrow (fun q hq _=>hq);have HC2:Hd (lH (.slice la j lcap)=some g2\/(Ext w1 w2/\w1.heap.size<=g2)):=hcase.imp id (fun h=>⟨(lK (lI _) _).trans h.1,by have:=h.2;(try simp at this);omega⟩);have hsz2:=HT2.o.size;clear hown hkept hgrow hcase hlt;have m0:w2.cell? ⟨mb,0,none⟩=some (.int .i64 mz):=HT2.o.cell m0 (by intro e;have:=HLB.o mb e;omega);have m1:w2.cell? ⟨mb,1,none⟩=some (.int .i64 0):=HT2.o.cell m1 (by intro e;have:=HLB.o mb e;omega);have m2:w2.cell? ⟨mb,2,none⟩=some (.int .i64 0):=HT2.o.cell m2 (by intro e;have:=HLB.o mb e;omega);have m3:w2.cell? ⟨mb,3,none⟩=some (.int .i64 0):=HT2.o.cell m3 (by intro e;have:=HLB.o mb e;omega);have m4:w2.cell? ⟨mb,4,none⟩=some (.int .i64 0):=HT2.o.cell m4 (by intro e;have:=HLB.o mb e;omega);have m5:w2.cell? ⟨mb,5,none⟩=some (.int .i64 0):=HT2.o.cell m5 (by intro e;have:=HLB.o mb e;omega);have m6:w2.cell? ⟨mb,6,none⟩=some (.int .i64 0):=HT2.o.cell m6 (by intro e;have:=HLB.o mb e;omega);have m7:w2.cell? ⟨mb,7,none⟩=some (.int .i64 0):=HT2.o.cell m7 (by intro e;have:=HLB.o mb e;omega);have m8:w2.cell? ⟨mb,8,none⟩=some (.bool false):=HT2.o.cell m8 (by intro e;have:=HLB.o mb e;omega);have y2:w2.cell? ⟨P,9,none⟩=some (.slice ba bn bcap):=HT2.o.cell y1 (by intro e;exact HLP.o e);go_wp2_with (at_builtin;refine zD _ rfl _ _ 38 rfl base 56 i0 _ 9 72 underlying38 hi hz0 hz1 hz2 rfl (by decide) (.slice la j lcap) j xs rfl (rE (lK (lI _) _) HK2.o) ⟨_,0,none⟩ 3 3 [.int .i64 mz,.int .i64 0,.int .i64 0,.int .i64 0,.int .i64 0,.int .i64 0,.int .i64 0,.int .i64 0,.bool false,.int .i64 mz,.int .i64 0,.int .i64 0,.int .i64 0,.int .i64 0,.int .i64 0,.int .i64 0,.int .i64 0,.bool false,.int .i64 mz,.int .i64 0,.int .i64 0,.int .i64 0,.int .i64 0,.int .i64 0,.int .i64 0,.int .i64 0,.bool false] rfl rfl (rI (zm (by simp))) (by simp [Value.oneCell']) (by decide) (by unfold maxLen;omega) (by omega) (by simp;omega) ?_)
   intro g3 cap3 w3 hown hkept hgrow hcase hlt;have HR3:=hid hown;have HK3:=hid hkept;have HT3:Hd (Turn (fun b=>lH (.slice la j lcap)=some b) w2 w3):=rJ (Turn.alloc (rD _ _) _) hgrow (fun q hq _=>hq);have HC3:Hd (lH (.slice la j lcap)=some g3\/(Ext w2 w3/\w2.heap.size<=g3)):=hcase.imp id (fun h=>⟨(lK (lI _) _).trans h.1,by have:=h.2;(try simp at this);omega⟩);have hsz3:=HT3.o.size;clear hown hkept hgrow hcase hlt;have m0:w3.cell? ⟨mb,0,none⟩=some (.int .i64 mz):=HT3.o.cell m0 (by intro e;have:=HLB.o mb e;omega);have m1:w3.cell? ⟨mb,1,none⟩=some (.int .i64 0):=HT3.o.cell m1 (by intro e;have:=HLB.o mb e;omega);have m2:w3.cell? ⟨mb,2,none⟩=some (.int .i64 0):=HT3.o.cell m2 (by intro e;have:=HLB.o mb e;omega);have m3:w3.cell? ⟨mb,3,none⟩=some (.int .i64 0):=HT3.o.cell m3 (by intro e;have:=HLB.o mb e;omega);have m4:w3.cell? ⟨mb,4,none⟩=some (.int .i64 0):=HT3.o.cell m4 (by intro e;have:=HLB.o mb e;omega);have m5:w3.cell? ⟨mb,5,none⟩=some (.int .i64 0):=HT3.o.cell m5 (by intro e;have:=HLB.o mb e;omega);have m6:w3.cell? ⟨mb,6,none⟩=some (.int .i64 0):=HT3.o.cell m6 (by intro e;have:=HLB.o mb e;omega);have m7:w3.cell? ⟨mb,7,none⟩=some (.int .i64 0):=HT3.o.cell m7 (by intro e;have:=HLB.o mb e;omega);have m8:w3.cell? ⟨mb,8,none⟩=some (.bool false):=HT3.o.cell m8 (by intro e;have:=HLB.o mb e;omega);have y3:w3.cell? ⟨P,9,none⟩=some (.slice ba bn bcap):=HT3.o.cell y2 (by intro e;exact HLP.o e);have HTA:Hd (Turn (fun b=>lH (.slice la j lcap)=some b) w w3):=(((lM HXW.o).trans HT.o).trans HT1.o).trans (HT2.o.trans HT3.o);have HB3:Hd (w3.ownsRow 0 38 1 (.slice ba bn bcap) bn vs):=HTA.o.owns HB.o (fun q hq e=>(HBB.o q hq).2 e);go_wp2_with (at_builtin;refine wpList_append_lies _ rfl _ _ 89 rfl 0 38 k0 _ 1 24 underlying89 hk0 hw0 hw1 hw2 rfl (by decide) (.slice ba bn bcap) bn vs rfl (rE (lK (lI _) _) HB3.o) ⟨_,0,none⟩ 4 4 [.slice la j lcap,.slice (some ⟨g1,0,none⟩) (j+1) cap1,.slice (some ⟨g2,0,none⟩) (j+2) cap2,.slice (some ⟨g3,0,none⟩) (j+3) cap3] rfl rfl (rI (zm (by simp))) (by simp [Value.oneCell']) (by decide) (by unfold maxLen;omega) (by omega) (lT _) _ rfl ?_)
   intro g5 cap5 w5 hown5 hgrow5 hat5 hlt5;have HT5:Hd (Turn (fun b=>lH (.slice ba bn bcap)=some b) w3 w5):=rJ (Turn.alloc (rD _ _) _) hgrow5 (fun q hq _=>hq);have HO5:=hid hown5;have HAT:Hd (lH (.slice ba bn bcap)=some g5\/w3.heap.size<g5+1):=hat5.imp id (fun h=>by(try simp at h);omega);have y5:w5.cell? ⟨P,9,none⟩=some (.slice ba bn bcap):=HT5.o.cell y3 (by intro e;exact HBP.o e);have hP5:w5.heap[P]?=some (.cells pcs 94 (0,0)):=HT5.o.ref (HTA.o.ref HP.o (fun e=>HLP.o e)) (fun e=>HBP.o e);have f5:=ze hP5 9;have HP5:Hd _:=hP5;have hPl5:=lG w5 _ y5;clear hown5 hgrow5 hat5 hP5;go_wp2;go_end0;have hbn:=HBN.o;obtain⟨hps,hpb,hGP⟩:=HPS.o;have hsz5:=HT5.o.size;have hszA:=HTA.o.size;have hA1:xs.length=j*9:=HR0.o.1;have hm1:=HMR.o.snoc rfl hA1;have hm2:=hm1.snoc rfl (by rw [lW,hA1,rO];rfl);have hm3:=hm2.snoc rfl (by rw [lW,lW,hA1,rO,rO];rfl);have r1:MkAt w1 9 [.int .i64 mz,.int .i64 0,.int .i64 0,.int .i64 0,.int .i64 0,.int .i64 0,.int .i64 0,.int .i64 0,.bool false] g1 (j+1):=Zn HR1.o hm1;have r2:MkAt w2 9 [.int .i64 mz,.int .i64 0,.int .i64 0,.int .i64 0,.int .i64 0,.int .i64 0,.int .i64 0,.int .i64 0,.bool false] g2 (j+2):=Zn HR2.o (by rw [show xs++[.int .i64 mz,.int .i64 0,.int .i64 0,.int .i64 0,.int .i64 0,.int .i64 0,.int .i64 0,.int .i64 0,.bool false,.int .i64 mz,.int .i64 0,.int .i64 0,.int .i64 0,.int .i64 0,.int .i64 0,.int .i64 0,.int .i64 0,.bool false]=(xs++[.int .i64 mz,.int .i64 0,.int .i64 0,.int .i64 0,.int .i64 0,.int .i64 0,.int .i64 0,.int .i64 0,.bool false])++[.int .i64 mz,.int .i64 0,.int .i64 0,.int .i64 0,.int .i64 0,.int .i64 0,.int .i64 0,.int .i64 0,.bool false] by simp];exact hm2);have r3:MkAt w3 9 [.int .i64 mz,.int .i64 0,.int .i64 0,.int .i64 0,.int .i64 0,.int .i64 0,.int .i64 0,.int .i64 0,.bool false] g3 (j+3):=Zn HR3.o (by rw [show xs++[.int .i64 mz,.int .i64 0,.int .i64 0,.int .i64 0,.int .i64 0,.int .i64 0,.int .i64 0,.int .i64 0,.bool false,.int .i64 mz,.int .i64 0,.int .i64 0,.int .i64 0,.int .i64 0,.int .i64 0,.int .i64 0,.int .i64 0,.bool false,.int .i64 mz,.int .i64 0,.int .i64 0,.int .i64 0,.int .i64 0,.int .i64 0,.int .i64 0,.int .i64 0,.bool false]=((xs++[.int .i64 mz,.int .i64 0,.int .i64 0,.int .i64 0,.int .i64 0,.int .i64 0,.int .i64 0,.int .i64 0,.bool false])++[.int .i64 mz,.int .i64 0,.int .i64 0,.int .i64 0,.int .i64 0,.int .i64 0,.int .i64 0,.int .i64 0,.bool false])++[.int .i64 mz,.int .i64 0,.int .i64 0,.int .i64 0,.int .i64 0,.int .i64 0,.int .i64 0,.int .i64 0,.bool false] by simp];exact hm3)
   have r1':=(r1.app (by omega) r2 HT2.o HC2.o).app (by omega) r3 HT3.o HC3.o;have r2':=r2.app (by omega) r3 HT3.o HC3.o;obtain⟨w6,hw6⟩:∃w6,w5.setCell ⟨P,9,none⟩ (.slice (some ⟨g5,0,none⟩) (bn+4) cap5)=w6:=⟨_,rfl⟩
   have hT6:Turn (fun b=>b=P\/lH (.slice ba bn bcap)=some b) w3 w6:=by rw [<-hw6];exact lQ (S:=fun b=>b=P\/lH (.slice ba bn bcap)=some b) (p:=⟨P,9,none⟩) (HT5.o.mono (fun _ _ e=>.inr e)) (fun _=>.inl rfl) _
   have hP6:w6.heap[P]?=some (.cells (pcs.setIfInBounds 9 (.slice (some ⟨g5,0,none⟩) (bn+4) cap5)) 94 (0,0)):=by rw [<-hw6];exact zg HP5.o _
   have hg5P:g5≠P:=by
    rcases HAT.o with h|h
    ·exact fun e=>HBP.o (by rw [<-e];exact h)
    ·omega
   have hO6:=zi HO5.o (a:=⟨P,9,none⟩) (by simpa [lH] using hg5P) (.slice (some ⟨g5,0,none⟩) (bn+4) cap5);rw [hw6] at hO6;have hsz6:w6.heap.size=w5.heap.size:=by rw [<-hw6];simp
   rw [hw6]
   -- where the new lists lie
   have hwh:∀g nn cc,(∃xx w',(w'=w1\/w'=w2\/w'=w3)/\lR w' base 56 9 (.slice (some ⟨g,0,none⟩) nn cc) nn xx)->(lH (.slice la j lcap)=some g\/w.heap.size<=g)->g<w3.heap.size/\(lH (.slice la j lcap)=some g\/w.heap.size<=g):=fun g nn cc ⟨xx,w',hw',hoo⟩ hc=>⟨by
    have:=zx hoo (g:=g) rfl;have:=HT2.o.size;have:=HT3.o.size;rcases hw' with e|e|e<;>(subst e;omega),hc⟩
   have q1:=hwh g1 _ _ ⟨_,w1,.inl rfl,HR1.o⟩ (HC1.o.imp id (fun h=>by have:=h.2;omega));have q2:=hwh g2 _ _ ⟨_,w2,.inr (.inl rfl),HR2.o⟩ (HC2.o.imp id (fun h=>by have:=h.2;omega));have q3:=hwh g3 _ _ ⟨_,w3,.inr (.inr rfl),HR3.o⟩ (HC3.o.imp id (fun h=>by have:=h.2;omega));have hnn:∀g,(lH (.slice la j lcap)=some g\/w.heap.size<=g)->¬(g=P\/lH (.slice ba bn bcap)=some g):=fun g hg hor=>by
    rcases hor with e|e
    ·rcases hg with h|h
     ·exact HLP.o (by rw [<-e];exact h)
     ·omega
    ·rcases hg with h|h
     ·exact(HBB.o g e).2 h
     ·have:=(HBB.o g e).1;omega
   have hne5:∀g,(∃cur,w3.heap[g]?=some (.cells cur 56 (0,0)))->g≠g5:=fun g ⟨cur,hc⟩ e=>by
    subst e;rcases HAT.o with h|h
    ·obtain⟨cur2,hc2⟩:=zf HB3.o h;exact zh hc hc2 (by decide) rfl
    ·have:=(Array.getElem?_eq_some_iff.1 hc).1;omega
   have n1:=hne5 g1 (ya (ya (zf HR1.o (g:=g1) rfl) HT2.o HK2.o) HT3.o HK3.o);have n2:=hne5 g2 (ya (zf HR2.o (g:=g2) rfl) HT3.o HK3.o);have n3:=hne5 g3 (zf HR3.o (g:=g3) rfl);refine⟨rfl,.slice (some ⟨g5,0,none⟩) (bn+4) cap5,hP6,⟨fun q=>G q\/lH (.slice la j lcap)=some q\/(w.heap.size<=q/\q<w6.heap.size/\q≠g5),fun q hq=>.inl hq,fun q hq=>?_,fun q hq=>?_,?_,?_⟩,fun q hq=>?_,?_⟩
   ·rcases hq with hq|hq|hq
    ·exact .inl hq
    ·exact .inr (.inl hq)
    ·exact .inr (.inr ⟨by have:=hq.1;omega,hq.2.1⟩)
   ·have hq5:g5=q:=by simpa [lH] using hq
    subst hq5;rintro (hq|hq|hq)
    ·rcases HAT.o with h|h
     ·exact HG2.o _ h hq
     ·have:=HG3.o _ hq;omega
    ·rcases HAT.o with h|h
     ·exact(HBB.o _ h).2 hq
     ·have:=HLB.o _ hq;omega
    ·exact hq.2.2 rfl
   ·rintro (hq|hq|hq)
    ·exact hGP hq
    ·exact HLP.o hq
    ·omega
   ·have hmk:∀g nn cc,MkAt w3 9 [.int .i64 mz,.int .i64 0,.int .i64 0,.int .i64 0,.int .i64 0,.int .i64 0,.int .i64 0,.int .i64 0,.bool false] g nn->nn<=200000000->(g<w3.heap.size/\(lH (.slice la j lcap)=some g\/w.heap.size<=g))->g≠g5->Marked w6 (fun q=>G q\/lH (.slice la j lcap)=some q\/(w.heap.size<=q/\q<w6.heap.size/\q≠g5)) 9 (mkL m) (.slice (some ⟨g,0,none⟩) nn cc):=fun g nn cc hmm hnb hg hg5=>by
     refine⟨some ⟨g,0,none⟩,nn,cc,rfl,hnb,.inr ⟨g,rfl,?_,?_⟩⟩
     ·rcases hg.2 with h|h
      ·exact .inr (.inl h)
      ·exact .inr (.inr ⟨h,by omega,hg5⟩)
     ·rw [HMZ.o];exact hmm.turn hT6 (hnn g hg.2)
    refine BookRow.keep (vs:=vs) (by rw [hbn];have:=HB.o.1;omega) (fun k hk=>?_) (by rw [hbn];exact hO6) ?_ (hmk g1 _ _ r1' (by omega) q1 n1) (hmk g2 _ _ r2' (by omega) q2 n2) (hmk g3 _ _ r3 (by omega) q3 n3)
    ·refine(((HV.o k hk).turn HTA.o (fun b hb e=>HG1.o b e hb)).turn hT6 (fun b hb hor=>?_)).mono (fun q hq=>.inl hq);rcases hor with e|e
     ·exact hGP (by rw [<-e];exact hb)
     ·exact HG2.o b e hb
    ·refine⟨la,j,lcap,rfl,by omega,?_⟩;rcases zw HK3.o with⟨_,h2,_⟩|⟨g,c,h1,_⟩
     ·exact .inl h2
     ·injection h1 with e1 _ e3
      subst e1;refine .inr ⟨g,rfl,.inr (.inl rfl),?_⟩;rw [HMZ.o];exact(Zn HK3.o HMR.o).turn hT6 (hnn g (.inl rfl))
   ·have hq5:g5=q:=by simpa [lH] using hq
    subst hq5;rcases HAT.o with h|h
    ·exact .inl h
    ·exact .inr (by omega)
   ·exact(HTA.o.mono (fun b _ e=>.inr (.inr e))).trans' hT6 (fun b _ e=>e.elim (fun e=>.inl e) (fun e=>.inr (.inl e)))
end
section
theorem ue {n j:Nat}{mz:Int}{xs:List Value}(hl:xs.length=n*4)(hj:j<n)(h:MkRow 4 [.int .i64 mz,.string ⟨#[]⟩,.string ⟨#[]⟩,.string ⟨#[]⟩] j xs):MkRow 4 [.int .i64 mz,.string ⟨#[]⟩,.string ⟨#[]⟩,.string ⟨#[]⟩] (j+1) ((((xs.set (j*4) (.int .i64 mz)).set (j*4+1) (.string ⟨#[]⟩)).set (j*4+2) (.string ⟨#[]⟩)).set (j*4+3) (.string ⟨#[]⟩)):=by
 intro i hi k u hu;have hk:k<4:=(List.getElem?_eq_some_iff.1 hu).1;by_cases e:i<j
 ·rw [lU (by omega),lU (by omega),lU (by omega),lU (by omega)];exact h i e k u hu
 ·obtain rfl:i=j:=by omega
  rcases(show k=0\/k=1\/k=2\/k=3 by omega) with rfl|rfl|rfl|rfl
  ·show _[i*4+0]?=_
   simp only [Nat.add_zero];rw [lU (by omega),lU (by omega),lU (by omega),sA (by(try simp only [rK]);omega)];simpa using hu
  ·rw [lU (by omega),lU (by omega),sA (by(try simp only [rK]);omega)];simpa using hu
  ·rw [lU (by omega),sA (by(try simp only [rK]);omega)];simpa using hu
  ·rw [sA (by(try simp only [rK]);omega)];simpa using hu
theorem JF {G:Nat->Prop}(P m base:Nat)(pcs:Array Value)(hps:pcs.size=11)(bv:Value)(hb:pcs[10]?=some bv)(la:Option Addr)(n lcap:Nat)(xs0:List Value)(hm:m<=1000000)(hn:n<=100000000)(w:World)(hP:w.heap[P]?=some (.cells pcs 94 (0,0)))(hbk:BookRow w G 69 4 mkO bv m)(ho:w.ownsRow base 134 4 (.slice la n lcap) n xs0)(hGl:∀q,lH (.slice la n lcap)=some q->¬G q)(hGb:∀q,bv.ownBlock=some q->¬G q)(hGs:∀q,G q->q<w.heap.size)(hGP:¬G P)(hbw:base<=w.heap.size) :
  Calls Tryz.prog 68 #[.pointer (some ⟨P,7,none⟩),.slice la n lcap] w fun e w'=>e=.returned (.tuple #[])/\∃bv',w'.heap[P]?=some (.cells (pcs.setIfInBounds 10 bv') 94 (0,0))/\(∃G',(∀q,G q->G' q)/\(∀q,G' q->G q\/lH (.slice la n lcap)=some q\/(w.heap.size<=q/\q<w'.heap.size))/\(∀q,bv'.ownBlock=some q->¬G' q)/\¬G' P/\BookRow w' G' 69 4 mkO bv' (m+1))/\(∀q,bv'.ownBlock=some q->bv.ownBlock=some q\/w.heap.size<=q)/\Turn (fun b=>b=P\/bv.ownBlock=some b\/lH (.slice la n lcap)=some b) w w':=by
 obtain⟨i0,hi,hz0,hz1,hz2⟩:=info_parts Vw;obtain⟨k0,hk0,hw0,hw1,hw2⟩:=info_parts KE;obtain⟨vs,hvo,hvm⟩:=hbk;obtain⟨bn,hbn⟩:∃bn,4*m=bn:=⟨_,rfl⟩
 rw [hbn] at hvo;have HBN:=hid hbn;have hbnb:bn<=4000000:=by omega
 have hq4:Int.tdiv (bn:Int) 4=(m:Int):=by rw [<-hbn,rQ,Int.mul_comm];exact Int.mul_tdiv_cancel _ (by decide)
 obtain⟨mz,hmz⟩:∃mz:Int,-1 - (m:Int)=mz:=⟨_,rfl⟩
 have hwz:IntKind.i64.wrap (-1 - (m:Int))=mz:=by rw [<-hmz];rw [rP];omega
 have HMZ:Hd (mkO m=[.int .i64 mz,.string ⟨#[]⟩,.string ⟨#[]⟩,.string ⟨#[]⟩]):=by
  show mkO m=_
  rw [<-hmz];rfl
 obtain⟨ba,bcap,rfl⟩:=zo hvo;have HB:=hid hvo;have HV:=hid hvm;have HO0:=hid ho;have HG1:=hid hGl;have HG2:=hid hGb;have HG3:=hid hGs;have HP:=hid hP;have HPS:Hd (pcs.size=11/\pcs[10]?=some (.slice ba bn bcap)/\¬G P):=⟨hps,hb,hGP⟩
 have HLP:Hd (lH (.slice la n lcap)≠some P):=Zk (B:=P) hP ho (by decide);have HBP:Hd (lH (.slice ba bn bcap)≠some P):=Zk (B:=P) hP hvo (by decide);have HLB:Hd (∀q,lH (.slice la n lcap)=some q->q<w.heap.size):=fun q hq=>zx ho hq
 have HBB:Hd (∀q,lH (.slice ba bn bcap)=some q->q<w.heap.size/\lH (.slice la n lcap)≠some q):=fun q hq=>⟨zx hvo hq,fun e=>by obtain⟨cur,hc⟩:=zf hvo hq;obtain⟨cur',hc'⟩:=zf ho e;exact zh hc hc' (by decide) rfl⟩
 have y:w.cell? ⟨P,10,none⟩=some (.slice ba bn bcap):=zc hP hb;have hPl:=lG w _ y;clear hvo hvm ho hGl hGb hGs hP hps hb hbn hmz hGP;go_enter func68,ntmps68;go_wp2_with fail
 have hmk:(w.alloc (.cells #[.int .i64 mz,.string ⟨#[]⟩,.string ⟨#[]⟩,.string ⟨#[]⟩] 134)).heap[w.heap.size]?=some (.cells #[.int .i64 mz,.string ⟨#[]⟩,.string ⟨#[]⟩,.string ⟨#[]⟩] 134 (0,0)):=heap_alloc_new _ _;have hXW:Ext w (w.alloc (.cells #[.int .i64 mz,.string ⟨#[]⟩,.string ⟨#[]⟩,.string ⟨#[]⟩] 134)):=(lI w).alloc _;obtain⟨mb,hmb⟩:∃mb,w.heap.size=mb:=⟨_,rfl⟩
 rw [hmb] at hmk;simp only [hmb];generalize lP w _=W at hmk hXW ⊢;have HMB:=hid hmb;have HMK:=hid hmk;have HXW:=hid hXW;clear hmb hmk hXW
 go_loopw [5] (fun at_ wr=>∃(j:Nat) (xs:List Value),j<=n/\at_=.int .i64 (j:Int)/\wr.ownsRow base 134 4 (.slice la n lcap) n xs/\MkRow 4 [.int .i64 mz,.string ⟨#[]⟩,.string ⟨#[]⟩,.string ⟨#[]⟩] j xs/\Turn (fun b=>lH (.slice la n lcap)=some b) W wr/\wr.heap[mb]?=some (.cells #[.int .i64 mz,.string ⟨#[]⟩,.string ⟨#[]⟩,.string ⟨#[]⟩] 134 (0,0))) (fun at_ _=>n - (intOf at_).toNat)
 case atStart=>exact⟨0,xs0,lT _,rfl,HXW.o.owns HO0.o,fun i hi=>absurd hi (sG _),rD _ _,HMK.o⟩
 case round=>
  obtain⟨j,xs,hj,rfl,ho,hmr,ht,hmk⟩:=hrel;have HR0:=hid ho;have HMR:=hid hmr;have HT:=hid ht;have HM:=hid hmk;clear ho hmr ht hmk;by_cases hlt:j<n
  ·obtain⟨gl,rfl⟩:∃g,la=some ⟨g,0,none⟩:=by
    rcases zw HR0.o with⟨_,h2,_⟩|⟨g,c,h1,_⟩
    ·omega
    ·injection h1 with e1 _ _
     exact⟨g,e1⟩
   have HO:Hd (wr.ownsRow base 134 4 (.slice (some ⟨gl,0,none⟩) n lcap) n xs):=HR0.o;have hk0:(0:Int)<=(j:Int):=by omega
   have hk1:(j:Int)<n:=by omega
   have c0:∃u,wr.cell? ⟨gl,j*4,none⟩=some u:=by
    have hl0:j*4<xs.length:=by rw [HO.o.1];omega
    exact⟨_,zk HO.o (lZ hl0)⟩
   obtain⟨old0,c0⟩:=c0;have z0:wr.frozen? ⟨gl,j*4,none⟩=false:=by obtain⟨cur,hc⟩:=zf HO.o (g:=gl) rfl;exact ze hc _
   have c1:∃u,wr.cell? ⟨gl,j*4+1,none⟩=some u:=by
    have hl1:j*4+1<xs.length:=by rw [HO.o.1];omega
    exact⟨_,zk HO.o (lZ hl1)⟩
   obtain⟨old1,c1⟩:=c1;have z1:wr.frozen? ⟨gl,j*4+1,none⟩=false:=by obtain⟨cur,hc⟩:=zf HO.o (g:=gl) rfl;exact ze hc _
   have c2:∃u,wr.cell? ⟨gl,j*4+2,none⟩=some u:=by
    have hl2:j*4+2<xs.length:=by rw [HO.o.1];omega
    exact⟨_,zk HO.o (lZ hl2)⟩
   obtain⟨old2,c2⟩:=c2;have z2:wr.frozen? ⟨gl,j*4+2,none⟩=false:=by obtain⟨cur,hc⟩:=zf HO.o (g:=gl) rfl;exact ze hc _
   have c3:∃u,wr.cell? ⟨gl,j*4+3,none⟩=some u:=by
    have hl3:j*4+3<xs.length:=by rw [HO.o.1];omega
    exact⟨_,zk HO.o (lZ hl3)⟩
   obtain⟨old3,c3⟩:=c3;have z3:wr.frozen? ⟨gl,j*4+3,none⟩=false:=by obtain⟨cur,hc⟩:=zf HO.o (g:=gl) rfl;exact ze hc _
   have m0:wr.cell? ⟨mb,0,none⟩=some (.int .i64 mz):=zc HM.o rfl;have m1:wr.cell? ⟨mb,1,none⟩=some (.string ⟨#[]⟩):=zc HM.o rfl;have m2:wr.cell? ⟨mb,2,none⟩=some (.string ⟨#[]⟩):=zc HM.o rfl;have m3:wr.cell? ⟨mb,3,none⟩=some (.string ⟨#[]⟩):=zc HM.o rfl;have hgl:=lG wr _ c0;have hne:gl≠mb:=by have:=HLB.o gl rfl;have:=HMB.o;omega
   go_wp2
   go_roundw
   case rel=>
    refine⟨j+1,_,by omega,by go_num,(zI (zI (zI (zI HO.o (j*4) _) (j*4+1) _) (j*4+2) _) (j*4+3) _),ue HO.o.1 hlt HMR.o,(lQ (S:=fun b=>lH (.slice (some ⟨gl,0,none⟩) n lcap)=some b) (p:=⟨gl,j*4+3,none⟩) (lQ (S:=fun b=>lH (.slice (some ⟨gl,0,none⟩) n lcap)=some b) (p:=⟨gl,j*4+2,none⟩) (lQ (S:=fun b=>lH (.slice (some ⟨gl,0,none⟩) n lcap)=some b) (p:=⟨gl,j*4+1,none⟩) (lQ (S:=fun b=>lH (.slice (some ⟨gl,0,none⟩) n lcap)=some b) (p:=⟨gl,j*4,none⟩) HT.o (fun _=>rfl) _) (fun _=>rfl) _) (fun _=>rfl) _) (fun _=>rfl) _),(Turn.ref (S:=fun b=>b=gl) ((lQ (S:=fun b=>b=gl) (p:=⟨gl,j*4+3,none⟩) (lQ (S:=fun b=>b=gl) (p:=⟨gl,j*4+2,none⟩) (lQ (S:=fun b=>b=gl) (p:=⟨gl,j*4+1,none⟩) (lQ (S:=fun b=>b=gl) (p:=⟨gl,j*4,none⟩) (rD _ wr) (fun _=>rfl) _) (fun _=>rfl) _) (fun _=>rfl) _) (fun _=>rfl) _)) HM.o (fun e=>hne e.symm))⟩
   case measure=>simp [intOf];omega
  ·obtain rfl:j=n:=by omega
   clear hlt hj;have y0:wr.cell? ⟨P,10,none⟩=some (.slice ba bn bcap):=HT.o.cell (HXW.o.cell y) (by intro e;exact HLP.o e);have m0:wr.cell? ⟨mb,0,none⟩=some (.int .i64 mz):=zc HM.o rfl;have m1:wr.cell? ⟨mb,1,none⟩=some (.string ⟨#[]⟩):=zc HM.o rfl;have m2:wr.cell? ⟨mb,2,none⟩=some (.string ⟨#[]⟩):=zc HM.o rfl;have m3:wr.cell? ⟨mb,3,none⟩=some (.string ⟨#[]⟩):=zc HM.o rfl;have hszr:=HT.o.size;have hWw:=HXW.o.le;have hmbw:=HMB.o;go_wp2_with (at_builtin;refine zD _ rfl _ _ 69 rfl base 134 i0 _ 4 56 underlying69 hi hz0 hz1 hz2 rfl (by decide) (.slice la j lcap) j xs rfl (rE (lK (lI _) _) HR0.o) ⟨_,0,none⟩ 1 1 [.int .i64 mz,.string ⟨#[]⟩,.string ⟨#[]⟩,.string ⟨#[]⟩] rfl rfl (rI (zm (by simp))) (by simp [Value.oneCell']) (by decide) (by unfold maxLen;omega) (by omega) (by simp;omega) ?_)
   intro g1 cap1 w1 hown hkept hgrow hcase hlt;have HR1:=hid hown;have HK1:=hid hkept;have HT1:Hd (Turn (fun b=>lH (.slice la j lcap)=some b) wr w1):=rJ (Turn.alloc (rD _ _) _) hgrow (fun q hq _=>hq);have HC1:Hd (lH (.slice la j lcap)=some g1\/(Ext wr w1/\wr.heap.size<=g1)):=hcase.imp id (fun h=>⟨(lK (lI _) _).trans h.1,by have:=h.2;(try simp at this);omega⟩);have hsz1:=HT1.o.size;clear hown hkept hgrow hcase hlt;have m0:w1.cell? ⟨mb,0,none⟩=some (.int .i64 mz):=HT1.o.cell m0 (by intro e;have:=HLB.o mb e;omega);have m1:w1.cell? ⟨mb,1,none⟩=some (.string ⟨#[]⟩):=HT1.o.cell m1 (by intro e;have:=HLB.o mb e;omega);have m2:w1.cell? ⟨mb,2,none⟩=some (.string ⟨#[]⟩):=HT1.o.cell m2 (by intro e;have:=HLB.o mb e;omega);have m3:w1.cell? ⟨mb,3,none⟩=some (.string ⟨#[]⟩):=HT1.o.cell m3 (by intro e;have:=HLB.o mb e;omega);have y1:w1.cell? ⟨P,10,none⟩=some (.slice ba bn bcap):=HT1.o.cell y0 (by intro e;exact HLP.o e);go_wp2_with (at_builtin;refine zD _ rfl _ _ 69 rfl base 134 i0 _ 4 56 underlying69 hi hz0 hz1 hz2 rfl (by decide) (.slice la j lcap) j xs rfl (rE (lK (lI _) _) HK1.o) ⟨_,0,none⟩ 2 2 [.int .i64 mz,.string ⟨#[]⟩,.string ⟨#[]⟩,.string ⟨#[]⟩,.int .i64 mz,.string ⟨#[]⟩,.string ⟨#[]⟩,.string ⟨#[]⟩] rfl rfl (rI (zm (by simp))) (by simp [Value.oneCell']) (by decide) (by unfold maxLen;omega) (by omega) (by simp;omega) ?_)
   intro g2 cap2 w2 hown hkept hgrow hcase hlt;have HR2:=hid hown;have HK2:=hid hkept;have HT2:Hd (Turn (fun b=>lH (.slice la j lcap)=some b) w1 w2):=rJ (Turn.alloc (rD _ _) _) hgrow (fun q hq _=>hq);have HC2:Hd (lH (.slice la j lcap)=some g2\/(Ext w1 w2/\w1.heap.size<=g2)):=hcase.imp id (fun h=>⟨(lK (lI _) _).trans h.1,by have:=h.2;(try simp at this);omega⟩);have hsz2:=HT2.o.size;clear hown hkept hgrow hcase hlt;have m0:w2.cell? ⟨mb,0,none⟩=some (.int .i64 mz):=HT2.o.cell m0 (by intro e;have:=HLB.o mb e;omega);have m1:w2.cell? ⟨mb,1,none⟩=some (.string ⟨#[]⟩):=HT2.o.cell m1 (by intro e;have:=HLB.o mb e;omega);have m2:w2.cell? ⟨mb,2,none⟩=some (.string ⟨#[]⟩):=HT2.o.cell m2 (by intro e;have:=HLB.o mb e;omega);have m3:w2.cell? ⟨mb,3,none⟩=some (.string ⟨#[]⟩):=HT2.o.cell m3 (by intro e;have:=HLB.o mb e;omega);have y2:w2.cell? ⟨P,10,none⟩=some (.slice ba bn bcap):=HT2.o.cell y1 (by intro e;exact HLP.o e);go_wp2_with (at_builtin;refine zD _ rfl _ _ 69 rfl base 134 i0 _ 4 56 underlying69 hi hz0 hz1 hz2 rfl (by decide) (.slice la j lcap) j xs rfl (rE (lK (lI _) _) HK2.o) ⟨_,0,none⟩ 3 3 [.int .i64 mz,.string ⟨#[]⟩,.string ⟨#[]⟩,.string ⟨#[]⟩,.int .i64 mz,.string ⟨#[]⟩,.string ⟨#[]⟩,.string ⟨#[]⟩,.int .i64 mz,.string ⟨#[]⟩,.string ⟨#[]⟩,.string ⟨#[]⟩] rfl rfl (rI (zm (by simp))) (by simp [Value.oneCell']) (by decide) (by unfold maxLen;omega) (by omega) (by simp;omega) ?_)
   intro g3 cap3 w3 hown hkept hgrow hcase hlt;have HR3:=hid hown;have HK3:=hid hkept;have HT3:Hd (Turn (fun b=>lH (.slice la j lcap)=some b) w2 w3):=rJ (Turn.alloc (rD _ _) _) hgrow (fun q hq _=>hq);have HC3:Hd (lH (.slice la j lcap)=some g3\/(Ext w2 w3/\w2.heap.size<=g3)):=hcase.imp id (fun h=>⟨(lK (lI _) _).trans h.1,by have:=h.2;(try simp at this);omega⟩);have hsz3:=HT3.o.size;clear hown hkept hgrow hcase hlt;have m0:w3.cell? ⟨mb,0,none⟩=some (.int .i64 mz):=HT3.o.cell m0 (by intro e;have:=HLB.o mb e;omega);have m1:w3.cell? ⟨mb,1,none⟩=some (.string ⟨#[]⟩):=HT3.o.cell m1 (by intro e;have:=HLB.o mb e;omega);have m2:w3.cell? ⟨mb,2,none⟩=some (.string ⟨#[]⟩):=HT3.o.cell m2 (by intro e;have:=HLB.o mb e;omega);have m3:w3.cell? ⟨mb,3,none⟩=some (.string ⟨#[]⟩):=HT3.o.cell m3 (by intro e;have:=HLB.o mb e;omega);have y3:w3.cell? ⟨P,10,none⟩=some (.slice ba bn bcap):=HT3.o.cell y2 (by intro e;exact HLP.o e);have HTA:Hd (Turn (fun b=>lH (.slice la j lcap)=some b) w w3):=(((lM HXW.o).trans HT.o).trans HT1.o).trans (HT2.o.trans HT3.o);have HB3:Hd (w3.ownsRow 0 69 1 (.slice ba bn bcap) bn vs):=HTA.o.owns HB.o (fun q hq e=>(HBB.o q hq).2 e);go_wp2_with (at_builtin;refine wpList_append_lies _ rfl _ _ 90 rfl 0 69 k0 _ 1 24 underlying90 hk0 hw0 hw1 hw2 rfl (by decide) (.slice ba bn bcap) bn vs rfl (rE (lK (lI _) _) HB3.o) ⟨_,0,none⟩ 4 4 [.slice la j lcap,.slice (some ⟨g1,0,none⟩) (j+1) cap1,.slice (some ⟨g2,0,none⟩) (j+2) cap2,.slice (some ⟨g3,0,none⟩) (j+3) cap3] rfl rfl (rI (zm (by simp))) (by simp [Value.oneCell']) (by decide) (by unfold maxLen;omega) (by omega) (lT _) _ rfl ?_)
   intro g5 cap5 w5 hown5 hgrow5 hat5 hlt5;have HT5:Hd (Turn (fun b=>lH (.slice ba bn bcap)=some b) w3 w5):=rJ (Turn.alloc (rD _ _) _) hgrow5 (fun q hq _=>hq);have HO5:=hid hown5;have HAT:Hd (lH (.slice ba bn bcap)=some g5\/w3.heap.size<g5+1):=hat5.imp id (fun h=>by(try simp at h);omega);have y5:w5.cell? ⟨P,10,none⟩=some (.slice ba bn bcap):=HT5.o.cell y3 (by intro e;exact HBP.o e);have hP5:w5.heap[P]?=some (.cells pcs 94 (0,0)):=HT5.o.ref (HTA.o.ref HP.o (fun e=>HLP.o e)) (fun e=>HBP.o e);have f5:=ze hP5 10;have HP5:Hd _:=hP5;have hPl5:=lG w5 _ y5;clear hown5 hgrow5 hat5 hP5;go_wp2;go_end0;have hbn:=HBN.o;obtain⟨hps,hpb,hGP⟩:=HPS.o;have hsz5:=HT5.o.size;have hszA:=HTA.o.size;have hA1:xs.length=j*4:=HR0.o.1;have hm1:=HMR.o.snoc rfl hA1;have hm2:=hm1.snoc rfl (by rw [lW,hA1,rO];rfl);have hm3:=hm2.snoc rfl (by rw [lW,lW,hA1,rO,rO];rfl);have r1:MkAt w1 4 [.int .i64 mz,.string ⟨#[]⟩,.string ⟨#[]⟩,.string ⟨#[]⟩] g1 (j+1):=Zn HR1.o hm1;have r2:MkAt w2 4 [.int .i64 mz,.string ⟨#[]⟩,.string ⟨#[]⟩,.string ⟨#[]⟩] g2 (j+2):=Zn HR2.o (by rw [show xs++[.int .i64 mz,.string ⟨#[]⟩,.string ⟨#[]⟩,.string ⟨#[]⟩,.int .i64 mz,.string ⟨#[]⟩,.string ⟨#[]⟩,.string ⟨#[]⟩]=(xs++[.int .i64 mz,.string ⟨#[]⟩,.string ⟨#[]⟩,.string ⟨#[]⟩])++[.int .i64 mz,.string ⟨#[]⟩,.string ⟨#[]⟩,.string ⟨#[]⟩] by simp];exact hm2);have r3:MkAt w3 4 [.int .i64 mz,.string ⟨#[]⟩,.string ⟨#[]⟩,.string ⟨#[]⟩] g3 (j+3):=Zn HR3.o (by rw [show xs++[.int .i64 mz,.string ⟨#[]⟩,.string ⟨#[]⟩,.string ⟨#[]⟩,.int .i64 mz,.string ⟨#[]⟩,.string ⟨#[]⟩,.string ⟨#[]⟩,.int .i64 mz,.string ⟨#[]⟩,.string ⟨#[]⟩,.string ⟨#[]⟩]=((xs++[.int .i64 mz,.string ⟨#[]⟩,.string ⟨#[]⟩,.string ⟨#[]⟩])++[.int .i64 mz,.string ⟨#[]⟩,.string ⟨#[]⟩,.string ⟨#[]⟩])++[.int .i64 mz,.string ⟨#[]⟩,.string ⟨#[]⟩,.string ⟨#[]⟩] by simp];exact hm3);have r1':=(r1.app (by omega) r2 HT2.o HC2.o).app (by omega) r3 HT3.o HC3.o;have r2':=r2.app (by omega) r3 HT3.o HC3.o;obtain⟨w6,hw6⟩:∃w6,w5.setCell ⟨P,10,none⟩ (.slice (some ⟨g5,0,none⟩) (bn+4) cap5)=w6:=⟨_,rfl⟩
   have hT6:Turn (fun b=>b=P\/lH (.slice ba bn bcap)=some b) w3 w6:=by rw [<-hw6];exact lQ (S:=fun b=>b=P\/lH (.slice ba bn bcap)=some b) (p:=⟨P,10,none⟩) (HT5.o.mono (fun _ _ e=>.inr e)) (fun _=>.inl rfl) _
   have hP6:w6.heap[P]?=some (.cells (pcs.setIfInBounds 10 (.slice (some ⟨g5,0,none⟩) (bn+4) cap5)) 94 (0,0)):=by rw [<-hw6];exact zg HP5.o _
   have hg5P:g5≠P:=by
    rcases HAT.o with h|h
    ·exact fun e=>HBP.o (by rw [<-e];exact h)
    ·omega
   have hO6:=zi HO5.o (a:=⟨P,10,none⟩) (by simpa [lH] using hg5P) (.slice (some ⟨g5,0,none⟩) (bn+4) cap5);rw [hw6] at hO6;have hsz6:w6.heap.size=w5.heap.size:=by rw [<-hw6];simp
   rw [hw6]
   -- where the new lists lie
   have hwh:∀g nn cc,(∃xx w',(w'=w1\/w'=w2\/w'=w3)/\lR w' base 134 4 (.slice (some ⟨g,0,none⟩) nn cc) nn xx)->(lH (.slice la j lcap)=some g\/w.heap.size<=g)->g<w3.heap.size/\(lH (.slice la j lcap)=some g\/w.heap.size<=g):=fun g nn cc ⟨xx,w',hw',hoo⟩ hc=>⟨by
    have:=zx hoo (g:=g) rfl;have:=HT2.o.size;have:=HT3.o.size;rcases hw' with e|e|e<;>(subst e;omega),hc⟩
   have q1:=hwh g1 _ _ ⟨_,w1,.inl rfl,HR1.o⟩ (HC1.o.imp id (fun h=>by have:=h.2;omega));have q2:=hwh g2 _ _ ⟨_,w2,.inr (.inl rfl),HR2.o⟩ (HC2.o.imp id (fun h=>by have:=h.2;omega));have q3:=hwh g3 _ _ ⟨_,w3,.inr (.inr rfl),HR3.o⟩ (HC3.o.imp id (fun h=>by have:=h.2;omega));have hnn:∀g,(lH (.slice la j lcap)=some g\/w.heap.size<=g)->¬(g=P\/lH (.slice ba bn bcap)=some g):=fun g hg hor=>by
    rcases hor with e|e
    ·rcases hg with h|h
     ·exact HLP.o (by rw [<-e];exact h)
     ·omega
    ·rcases hg with h|h
     ·exact(HBB.o g e).2 h
     ·have:=(HBB.o g e).1;omega
   have hne5:∀g,(∃cur,w3.heap[g]?=some (.cells cur 134 (0,0)))->g≠g5:=fun g ⟨cur,hc⟩ e=>by
    subst e;rcases HAT.o with h|h
    ·obtain⟨cur2,hc2⟩:=zf HB3.o h;exact zh hc hc2 (by decide) rfl
    ·have:=(Array.getElem?_eq_some_iff.1 hc).1;omega
   have n1:=hne5 g1 (ya (ya (zf HR1.o (g:=g1) rfl) HT2.o HK2.o) HT3.o HK3.o);have n2:=hne5 g2 (ya (zf HR2.o (g:=g2) rfl) HT3.o HK3.o);have n3:=hne5 g3 (zf HR3.o (g:=g3) rfl);refine⟨rfl,.slice (some ⟨g5,0,none⟩) (bn+4) cap5,hP6,⟨fun q=>G q\/lH (.slice la j lcap)=some q\/(w.heap.size<=q/\q<w6.heap.size/\q≠g5),fun q hq=>.inl hq,fun q hq=>?_,fun q hq=>?_,?_,?_⟩,fun q hq=>?_,?_⟩
   ·rcases hq with hq|hq|hq
    ·exact .inl hq
    ·exact .inr (.inl hq)
    ·exact .inr (.inr ⟨by have:=hq.1;omega,hq.2.1⟩)
   ·have hq5:g5=q:=by simpa [lH] using hq
    subst hq5;rintro (hq|hq|hq)
    ·rcases HAT.o with h|h
     ·exact HG2.o _ h hq
     ·have:=HG3.o _ hq;omega
    ·rcases HAT.o with h|h
     ·exact(HBB.o _ h).2 hq
     ·have:=HLB.o _ hq;omega
    ·exact hq.2.2 rfl
   ·rintro (hq|hq|hq)
    ·exact hGP hq
    ·exact HLP.o hq
    ·omega
   ·have hmk:∀g nn cc,MkAt w3 4 [.int .i64 mz,.string ⟨#[]⟩,.string ⟨#[]⟩,.string ⟨#[]⟩] g nn->nn<=200000000->(g<w3.heap.size/\(lH (.slice la j lcap)=some g\/w.heap.size<=g))->g≠g5->Marked w6 (fun q=>G q\/lH (.slice la j lcap)=some q\/(w.heap.size<=q/\q<w6.heap.size/\q≠g5)) 4 (mkO m) (.slice (some ⟨g,0,none⟩) nn cc):=fun g nn cc hmm hnb hg hg5=>by
     refine⟨some ⟨g,0,none⟩,nn,cc,rfl,hnb,.inr ⟨g,rfl,?_,?_⟩⟩
     ·rcases hg.2 with h|h
      ·exact .inr (.inl h)
      ·exact .inr (.inr ⟨h,by omega,hg5⟩)
     ·rw [HMZ.o];exact hmm.turn hT6 (hnn g hg.2)
    refine BookRow.keep (vs:=vs) (by rw [hbn];have:=HB.o.1;omega) (fun k hk=>?_) (by rw [hbn];exact hO6) ?_ (hmk g1 _ _ r1' (by omega) q1 n1) (hmk g2 _ _ r2' (by omega) q2 n2) (hmk g3 _ _ r3 (by omega) q3 n3)
    ·refine(((HV.o k hk).turn HTA.o (fun b hb e=>HG1.o b e hb)).turn hT6 (fun b hb hor=>?_)).mono (fun q hq=>.inl hq);rcases hor with e|e
     ·exact hGP (by rw [<-e];exact hb)
     ·exact HG2.o b e hb
    ·refine⟨la,j,lcap,rfl,by omega,?_⟩;rcases zw HK3.o with⟨_,h2,_⟩|⟨g,c,h1,_⟩
     ·exact .inl h2
     ·injection h1 with e1 _ e3
      subst e1;refine .inr ⟨g,rfl,.inr (.inl rfl),?_⟩;rw [HMZ.o];exact(Zn HK3.o HMR.o).turn hT6 (hnn g (.inl rfl))
   ·have hq5:g5=q:=by simpa [lH] using hq
    subst hq5;rcases HAT.o with h|h
    ·exact .inl h
    ·exact .inr (by omega)
   ·exact(HTA.o.mono (fun b _ e=>.inr (.inr e))).trans' hT6 (fun b _ e=>e.elim (fun e=>.inl e) (fun e=>.inr (.inl e)))
end
section
theorem KD {G:Nat->Prop}(P mW mS mL mO:Nat)(pcs:Array Value)(bW bS bL bO:Value)(h7:pcs[7]?=some bW)(h8:pcs[8]?=some bS)(h9:pcs[9]?=some bL)(h10:pcs[10]?=some bO)(hmW:mW<=1000000)(hmS:mS<=1000000)(hmL:mL<=1000000)(hmO:mO<=1000000)(w:World)(hP:w.heap[P]?=some (.cells pcs 94 (0,0)))(hW:BookRow w G 31 1 mkW bW mW)(hS:BookRow w G 44 7 mkS bS mS)(hL:BookRow w G 38 9 mkL bL mL)(hO:BookRow w G 69 4 mkO bO mO) :
  Calls Tryz.prog 43 #[.pointer (some ⟨P,7,none⟩)] w fun e w'=>e=.returned (.bool true)/\Ext w w':=by
 have heq1:=jF;have heq2:=jG;have heq3:=gQ;obtain⟨vsW,hoW,hvW⟩:=hW;obtain⟨bnW,hbnW⟩:∃bn,4*mW=bn:=⟨_,rfl⟩
 rw [hbnW] at hoW;have hbW:bnW<=4000000:=by omega
 obtain⟨baW,bcapW,rfl⟩:=zo hoW;have HBW:=hid hoW;have HVW:Hd _:=hvW;have yW:w.cell? ⟨P,7,none⟩=some (.slice baW bnW bcapW):=zc hP h7;obtain⟨vsS,hoS,hvS⟩:=hS;obtain⟨bnS,hbnS⟩:∃bn,4*mS=bn:=⟨_,rfl⟩
 rw [hbnS] at hoS;have hbS:bnS<=4000000:=by omega
 obtain⟨baS,bcapS,rfl⟩:=zo hoS;have HBS:=hid hoS;have HVS:Hd _:=hvS;have yS:w.cell? ⟨P,8,none⟩=some (.slice baS bnS bcapS):=zc hP h8;obtain⟨vsL,hoL,hvL⟩:=hL;obtain⟨bnL,hbnL⟩:∃bn,4*mL=bn:=⟨_,rfl⟩
 rw [hbnL] at hoL;have hbL:bnL<=4000000:=by omega
 obtain⟨baL,bcapL,rfl⟩:=zo hoL;have HBL:=hid hoL;have HVL:Hd _:=hvL;have yL:w.cell? ⟨P,9,none⟩=some (.slice baL bnL bcapL):=zc hP h9;obtain⟨vsO,hoO,hvO⟩:=hO;obtain⟨bnO,hbnO⟩:∃bn,4*mO=bn:=⟨_,rfl⟩
 rw [hbnO] at hoO;have hbO:bnO<=4000000:=by omega
 obtain⟨baO,bcapO,rfl⟩:=zo hoO;have HBO:=hid hoO;have HVO:Hd _:=hvO;have yO:w.cell? ⟨P,10,none⟩=some (.slice baO bnO bcapO):=zc hP h10;have hPl:=lG w _ yW;clear hoW hoS hoL hoO hvW hvS hvL hvO h7 h8 h9 h10 hP hbnW hbnS hbnL hbnO hmW hmS hmL hmO;go_enter func43,ntmps43;go_wp2
 go_loopw [3,4,5] (fun ok_ k_ _ wr=>∃kk:Nat,kk<=bnW/\k_=.int .i64 (kk:Int)/\ok_=.bool true/\Ext w wr) (fun _ k_ _ _=>bnW - (intOf k_).toNat)
 case atStart=>exact⟨0,lT _,rfl,rfl,lI _⟩
 case round=>
  obtain⟨V,rfl⟩:∃V,V=wr:=⟨_,rfl⟩
  obtain⟨kk,hk,rfl,rfl,hx⟩:=hrel;have HX:=hid hx;have zW:=hx.cell yW;clear hx;by_cases hlt:kk<bnW
  ·have hkv:kk<vsW.length:=by have:=HBW.o.1;omega
   obtain⟨gb,rfl⟩:∃g,baW=some ⟨g,0,none⟩:=by
    rcases zw HBW.o with⟨_,h2,_⟩|⟨g,c,h1,_⟩
    ·omega
    ·injection h1 with e1 _ _
     exact⟨g,e1⟩
   obtain⟨a,n,cap,hva,hnb,hmk⟩:=HVW.o kk hkv;have hvk:V.cell? ⟨gb,kk,none⟩=some (.slice a n cap):=HX.o.cell (zk HBW.o (by rw [lZ hkv,hva]));have hk0:(0:Int)<=(kk:Int):=by omega
   have hk1:(kk:Int)<bnW:=by omega
   have hq4:Int.tdiv (kk:Int) 4=((kk / 4:Nat):Int):=by rw [Int.tdiv_eq_ediv_of_nonneg (by omega)];rfl
   have hbk:kk / 4<=1000000:=by omega
   obtain⟨mz,hmz⟩:∃mz:Int,1000000007+((kk / 4:Nat):Int)=mz:=⟨_,rfl⟩
   have hwz:IntKind.u64.wrap (1000000007+((kk / 4:Nat):Int))=mz:=by rw [<-hmz];rw [IntKind.wrap_u64];omega
   have hmkE:mkW (kk / 4)=[.int .u64 mz]:=by rw [<-hmz];rfl
   rw [hmkE] at hmk;have HMK:Hd _:=hmk;obtain⟨kq,hkq⟩:∃kq,kk / 4=kq:=⟨_,rfl⟩
   rw [hkq] at hq4 hwz hbk;clear hmk hva hmz hmkE hkq;go_wp2
   go_loopw [3,5] (fun ok_ i_ wr=>∃j:Nat,j<=n/\i_=.int .i64 (j:Int)/\ok_=.bool true/\Ext V wr) (fun _ i_ _=>n - (intOf i_).toNat)
   case atStart=>exact⟨0,lT _,rfl,rfl,lI _⟩
   case round=>
    obtain⟨j,hj,rfl,rfl,hx2⟩:=hrel;have HX2:=hid hx2;have yy:=hx2.cell zW;have hvk:=hx2.cell hvk;clear hx2;by_cases hlt2:j<n
    ·obtain⟨g,rfl,_,hMk⟩:=HMK.o.resolve_left (by omega);have HMk:Hd (MkAt V 1 [.int .u64 mz] g n):=hMk.turn (S:=fun _=>False) (lM HX.o) id;have hj0:(0:Int)<=(j:Int):=by omega
     have hj1:(j:Int)<n:=by omega
     have e0:wr.cell? ⟨g,j,none⟩=some (.int .u64 mz):=HX2.o.cell (by simpa using HMk.o j hlt2 0 _ rfl);clear hMk;go_wp2
     go_roundw
     case rel=>exact⟨j+1,by omega,by go_num,rfl,HX2.o⟩
     case measure=>simp [intOf];omega
    ·obtain rfl:j=n:=by omega
     go_wp2
     go_roundw
     case rel=>exact⟨kk+1,by omega,by go_num,rfl,HX.o.trans HX2.o⟩
     case measure=>simp [intOf];omega
  ·obtain rfl:kk=bnW:=by omega
   clear hlt hk;go_wp2
   go_loopw [3,6,7] (fun ok_ k_ _ wr=>∃kk:Nat,kk<=bnS/\k_=.int .i64 (kk:Int)/\ok_=.bool true/\Ext w wr) (fun _ k_ _ _=>bnS - (intOf k_).toNat)
   case atStart=>exact⟨0,lT _,rfl,rfl,HX.o⟩
   case round=>
    obtain⟨V,rfl⟩:∃V,V=wr:=⟨_,rfl⟩
    obtain⟨kk,hk,rfl,rfl,hx⟩:=hrel;have HX:=hid hx;have zS:=hx.cell yS;clear hx;by_cases hlt:kk<bnS
    ·have hkv:kk<vsS.length:=by have:=HBS.o.1;omega
     obtain⟨gb,rfl⟩:∃g,baS=some ⟨g,0,none⟩:=by
      rcases zw HBS.o with⟨_,h2,_⟩|⟨g,c,h1,_⟩
      ·omega
      ·injection h1 with e1 _ _
       exact⟨g,e1⟩
     obtain⟨a,n,cap,hva,hnb,hmk⟩:=HVS.o kk hkv;have hvk:V.cell? ⟨gb,kk,none⟩=some (.slice a n cap):=HX.o.cell (zk HBS.o (by rw [lZ hkv,hva]));have hk0:(0:Int)<=(kk:Int):=by omega
     have hk1:(kk:Int)<bnS:=by omega
     have hq4:Int.tdiv (kk:Int) 4=((kk / 4:Nat):Int):=by rw [Int.tdiv_eq_ediv_of_nonneg (by omega)];rfl
     have hbk:kk / 4<=1000000:=by omega
     obtain⟨mz,hmz⟩:∃mz:Int,-1 - ((kk / 4:Nat):Int)=mz:=⟨_,rfl⟩
     have hwz:IntKind.i64.wrap (-1 - ((kk / 4:Nat):Int))=mz:=by rw [<-hmz];rw [rP];omega
     have hmkE:mkS (kk / 4)=[.int .i64 0,.int .i64 0,.int .i64 0,.int .i64 0,.int .i64 mz,.int .i64 0,.int .i64 0]:=by rw [<-hmz];rfl
     rw [hmkE] at hmk;have HMK:Hd _:=hmk;obtain⟨kq,hkq⟩:∃kq,kk / 4=kq:=⟨_,rfl⟩
     rw [hkq] at hq4 hwz hbk;clear hmk hva hmz hmkE hkq;go_wp2
     go_loopw [3,7] (fun ok_ i_ wr=>∃j:Nat,j<=n/\i_=.int .i64 (j:Int)/\ok_=.bool true/\Ext V wr) (fun _ i_ _=>n - (intOf i_).toNat)
     case atStart=>exact⟨0,lT _,rfl,rfl,lI _⟩
     case round=>
      obtain⟨j,hj,rfl,rfl,hx2⟩:=hrel;have HX2:=hid hx2;have yy:=hx2.cell zS;have hvk:=hx2.cell hvk;clear hx2;by_cases hlt2:j<n
      ·obtain⟨g,rfl,_,hMk⟩:=HMK.o.resolve_left (by omega);have HMk:Hd (MkAt V 7 [.int .i64 0,.int .i64 0,.int .i64 0,.int .i64 0,.int .i64 mz,.int .i64 0,.int .i64 0] g n):=hMk.turn (S:=fun _=>False) (lM HX.o) id;have hj0:(0:Int)<=(j:Int):=by omega
       have hj1:(j:Int)<n:=by omega
       have e0:wr.cell? ⟨g,j*7,none⟩=some (.int .i64 0):=HX2.o.cell (by simpa using HMk.o j hlt2 0 _ rfl);have e1:wr.cell? ⟨g,j*7+1,none⟩=some (.int .i64 0):=HX2.o.cell (by simpa using HMk.o j hlt2 1 _ rfl);have e2:wr.cell? ⟨g,j*7+2,none⟩=some (.int .i64 0):=HX2.o.cell (by simpa using HMk.o j hlt2 2 _ rfl);have e3:wr.cell? ⟨g,j*7+3,none⟩=some (.int .i64 0):=HX2.o.cell (by simpa using HMk.o j hlt2 3 _ rfl);have e4:wr.cell? ⟨g,j*7+4,none⟩=some (.int .i64 mz):=HX2.o.cell (by simpa using HMk.o j hlt2 4 _ rfl);have e5:wr.cell? ⟨g,j*7+5,none⟩=some (.int .i64 0):=HX2.o.cell (by simpa using HMk.o j hlt2 5 _ rfl);have e6:wr.cell? ⟨g,j*7+6,none⟩=some (.int .i64 0):=HX2.o.cell (by simpa using HMk.o j hlt2 6 _ rfl);clear hMk;go_wp2
       go_roundw
       case rel=>exact⟨j+1,by omega,by go_num,rfl,HX2.o⟩
       case measure=>simp [intOf];omega
      ·obtain rfl:j=n:=by omega
       go_wp2
       go_roundw
       case rel=>exact⟨kk+1,by omega,by go_num,rfl,HX.o.trans HX2.o⟩
       case measure=>simp [intOf];omega
    ·obtain rfl:kk=bnS:=by omega
     clear hlt hk;go_wp2
     go_loopw [3,8,9] (fun ok_ k_ _ wr=>∃kk:Nat,kk<=bnL/\k_=.int .i64 (kk:Int)/\ok_=.bool true/\Ext w wr) (fun _ k_ _ _=>bnL - (intOf k_).toNat)
     case atStart=>exact⟨0,lT _,rfl,rfl,HX.o⟩
     case round=>
      obtain⟨V,rfl⟩:∃V,V=wr:=⟨_,rfl⟩
      obtain⟨kk,hk,rfl,rfl,hx⟩:=hrel;have HX:=hid hx;have zL:=hx.cell yL;clear hx;by_cases hlt:kk<bnL
      ·have hkv:kk<vsL.length:=by have:=HBL.o.1;omega
       obtain⟨gb,rfl⟩:∃g,baL=some ⟨g,0,none⟩:=by
        rcases zw HBL.o with⟨_,h2,_⟩|⟨g,c,h1,_⟩
        ·omega
        ·injection h1 with e1 _ _
         exact⟨g,e1⟩
       obtain⟨a,n,cap,hva,hnb,hmk⟩:=HVL.o kk hkv;have hvk:V.cell? ⟨gb,kk,none⟩=some (.slice a n cap):=HX.o.cell (zk HBL.o (by rw [lZ hkv,hva]));have hk0:(0:Int)<=(kk:Int):=by omega
       have hk1:(kk:Int)<bnL:=by omega
       have hq4:Int.tdiv (kk:Int) 4=((kk / 4:Nat):Int):=by rw [Int.tdiv_eq_ediv_of_nonneg (by omega)];rfl
       have hbk:kk / 4<=1000000:=by omega
       obtain⟨mz,hmz⟩:∃mz:Int,-1 - ((kk / 4:Nat):Int)=mz:=⟨_,rfl⟩
       have hwz:IntKind.i64.wrap (-1 - ((kk / 4:Nat):Int))=mz:=by rw [<-hmz];rw [rP];omega
       have hmkE:mkL (kk / 4)=[.int .i64 mz,.int .i64 0,.int .i64 0,.int .i64 0,.int .i64 0,.int .i64 0,.int .i64 0,.int .i64 0,.bool false]:=by rw [<-hmz];rfl
       rw [hmkE] at hmk;have HMK:Hd _:=hmk;obtain⟨kq,hkq⟩:∃kq,kk / 4=kq:=⟨_,rfl⟩
       rw [hkq] at hq4 hwz hbk;clear hmk hva hmz hmkE hkq;go_wp2
       go_loopw [3,9] (fun ok_ i_ wr=>∃j:Nat,j<=n/\i_=.int .i64 (j:Int)/\ok_=.bool true/\Ext V wr) (fun _ i_ _=>n - (intOf i_).toNat)
       case atStart=>exact⟨0,lT _,rfl,rfl,lI _⟩
       case round=>
        obtain⟨j,hj,rfl,rfl,hx2⟩:=hrel;have HX2:=hid hx2;have yy:=hx2.cell zL;have hvk:=hx2.cell hvk;clear hx2;by_cases hlt2:j<n
        ·obtain⟨g,rfl,_,hMk⟩:=HMK.o.resolve_left (by omega);have HMk:Hd (MkAt V 9 [.int .i64 mz,.int .i64 0,.int .i64 0,.int .i64 0,.int .i64 0,.int .i64 0,.int .i64 0,.int .i64 0,.bool false] g n):=hMk.turn (S:=fun _=>False) (lM HX.o) id;have hj0:(0:Int)<=(j:Int):=by omega
         have hj1:(j:Int)<n:=by omega
         have e0:wr.cell? ⟨g,j*9,none⟩=some (.int .i64 mz):=HX2.o.cell (by simpa using HMk.o j hlt2 0 _ rfl);have e1:wr.cell? ⟨g,j*9+1,none⟩=some (.int .i64 0):=HX2.o.cell (by simpa using HMk.o j hlt2 1 _ rfl);have e2:wr.cell? ⟨g,j*9+2,none⟩=some (.int .i64 0):=HX2.o.cell (by simpa using HMk.o j hlt2 2 _ rfl);have e3:wr.cell? ⟨g,j*9+3,none⟩=some (.int .i64 0):=HX2.o.cell (by simpa using HMk.o j hlt2 3 _ rfl);have e4:wr.cell? ⟨g,j*9+4,none⟩=some (.int .i64 0):=HX2.o.cell (by simpa using HMk.o j hlt2 4 _ rfl);have e5:wr.cell? ⟨g,j*9+5,none⟩=some (.int .i64 0):=HX2.o.cell (by simpa using HMk.o j hlt2 5 _ rfl);have e6:wr.cell? ⟨g,j*9+6,none⟩=some (.int .i64 0):=HX2.o.cell (by simpa using HMk.o j hlt2 6 _ rfl);have e7:wr.cell? ⟨g,j*9+7,none⟩=some (.int .i64 0):=HX2.o.cell (by simpa using HMk.o j hlt2 7 _ rfl);have e8:wr.cell? ⟨g,j*9+8,none⟩=some (.bool false):=HX2.o.cell (by simpa using HMk.o j hlt2 8 _ rfl);clear hMk;go_wp2
         go_roundw
         case rel=>exact⟨j+1,by omega,by go_num,rfl,HX2.o⟩
         case measure=>simp [intOf];omega
        ·obtain rfl:j=n:=by omega
         go_wp2
         go_roundw
         case rel=>exact⟨kk+1,by omega,by go_num,rfl,HX.o.trans HX2.o⟩
         case measure=>simp [intOf];omega
      ·obtain rfl:kk=bnL:=by omega
       clear hlt hk;go_wp2
       go_loopw [3,10,11] (fun ok_ k_ _ wr=>∃kk:Nat,kk<=bnO/\k_=.int .i64 (kk:Int)/\ok_=.bool true/\Ext w wr) (fun _ k_ _ _=>bnO - (intOf k_).toNat)
       case atStart=>exact⟨0,lT _,rfl,rfl,HX.o⟩
       case round=>
        obtain⟨V,rfl⟩:∃V,V=wr:=⟨_,rfl⟩
        obtain⟨kk,hk,rfl,rfl,hx⟩:=hrel;have HX:=hid hx;have zO:=hx.cell yO;clear hx;by_cases hlt:kk<bnO
        ·have hkv:kk<vsO.length:=by have:=HBO.o.1;omega
         obtain⟨gb,rfl⟩:∃g,baO=some ⟨g,0,none⟩:=by
          rcases zw HBO.o with⟨_,h2,_⟩|⟨g,c,h1,_⟩
          ·omega
          ·injection h1 with e1 _ _
           exact⟨g,e1⟩
         obtain⟨a,n,cap,hva,hnb,hmk⟩:=HVO.o kk hkv;have hvk:V.cell? ⟨gb,kk,none⟩=some (.slice a n cap):=HX.o.cell (zk HBO.o (by rw [lZ hkv,hva]));have hk0:(0:Int)<=(kk:Int):=by omega
         have hk1:(kk:Int)<bnO:=by omega
         have hq4:Int.tdiv (kk:Int) 4=((kk / 4:Nat):Int):=by rw [Int.tdiv_eq_ediv_of_nonneg (by omega)];rfl
         have hbk:kk / 4<=1000000:=by omega
         obtain⟨mz,hmz⟩:∃mz:Int,-1 - ((kk / 4:Nat):Int)=mz:=⟨_,rfl⟩
         have hwz:IntKind.i64.wrap (-1 - ((kk / 4:Nat):Int))=mz:=by rw [<-hmz];rw [rP];omega
         have hmkE:mkO (kk / 4)=[.int .i64 mz,.string ⟨#[]⟩,.string ⟨#[]⟩,.string ⟨#[]⟩]:=by rw [<-hmz];rfl
         rw [hmkE] at hmk;have HMK:Hd _:=hmk;obtain⟨kq,hkq⟩:∃kq,kk / 4=kq:=⟨_,rfl⟩
         rw [hkq] at hq4 hwz hbk;clear hmk hva hmz hmkE hkq;go_wp2
         go_loopw [3,11] (fun ok_ i_ wr=>∃j:Nat,j<=n/\i_=.int .i64 (j:Int)/\ok_=.bool true/\Ext V wr) (fun _ i_ _=>n - (intOf i_).toNat)
         case atStart=>exact⟨0,lT _,rfl,rfl,lI _⟩
         case round=>
          obtain⟨j,hj,rfl,rfl,hx2⟩:=hrel;have HX2:=hid hx2;have yy:=hx2.cell zO;have hvk:=hx2.cell hvk;clear hx2;by_cases hlt2:j<n
          ·obtain⟨g,rfl,_,hMk⟩:=HMK.o.resolve_left (by omega);have HMk:Hd (MkAt V 4 [.int .i64 mz,.string ⟨#[]⟩,.string ⟨#[]⟩,.string ⟨#[]⟩] g n):=hMk.turn (S:=fun _=>False) (lM HX.o) id;have hj0:(0:Int)<=(j:Int):=by omega
           have hj1:(j:Int)<n:=by omega
           have e0:wr.cell? ⟨g,j*4,none⟩=some (.int .i64 mz):=HX2.o.cell (by simpa using HMk.o j hlt2 0 _ rfl);have e1:wr.cell? ⟨g,j*4+1,none⟩=some (.string ⟨#[]⟩):=HX2.o.cell (by simpa using HMk.o j hlt2 1 _ rfl);have e2:wr.cell? ⟨g,j*4+2,none⟩=some (.string ⟨#[]⟩):=HX2.o.cell (by simpa using HMk.o j hlt2 2 _ rfl);have e3:wr.cell? ⟨g,j*4+3,none⟩=some (.string ⟨#[]⟩):=HX2.o.cell (by simpa using HMk.o j hlt2 3 _ rfl);clear hMk;go_wp2
           go_roundw
           case rel=>exact⟨j+1,by omega,by go_num,rfl,HX2.o⟩
           case measure=>simp [intOf];omega
          ·obtain rfl:j=n:=by omega
           go_wp2
           go_roundw
           case rel=>exact⟨kk+1,by omega,by go_num,rfl,HX.o.trans HX2.o⟩
           case measure=>simp [intOf];omega
        ·obtain rfl:kk=bnO:=by omega
         clear hlt hk;go_wp2;go_ret;exact⟨rfl,HX.o⟩
end
end Go.Proofs.YtmnjhhachdlmkaaGreat
