import Derived.Test.YtmnjhhachdlmkaaGreatK14
namespace Go.Proofs.YtmnjhhachdlmkaaGreat
set_option linter.all false
set_option maxRecDepth 100000
set_option maxHeartbeats 1600000
open Tryz
open Turn renaming of_ext -> lM, refl -> rD, setCell -> lQ, grown -> rJ
open List renaming getElem?_set_ne -> lU, getElem?_set_self -> sA, getElem?_eq_getElem -> lZ, length_append -> lW, length_set -> rK
open Int renaming natCast_mul -> rQ
open Nat renaming zero_le -> lT, not_lt_zero -> sG, add_mul -> rO
open Ext renaming owns -> rE, alloc -> lK, refl -> lI
open World renaming news_of_block -> rI, ownsRow -> lR
open Go.RowKit Go.Maps
open List renaming getElem_cons_succ -> lB, getElem_cons_zero -> lC
open World renaming block_lt_of_cell? -> lG
open Value renaming ownBlock -> lH
section
def MkRow (sz:Nat)(cs:List Value)(n:Nat)(xs:List Value):Prop:=∀i,i<n->∀k u,cs[k]?=some u->xs[i*sz+k]?=some u
theorem MkRow.snoc {sz n:Nat}{cs xs:List Value}(hc:cs.length=sz)(hl:xs.length=n*sz)(h:MkRow sz cs n xs):MkRow sz cs (n+1) (xs++cs):=by
 intro i hi k u hu;have hk:k<sz:=by rw [<-hc];exact(List.getElem?_eq_some_iff.1 hu).1
 by_cases e:i<n
 ·have h1:=h i e k u hu;rw [List.getElem?_append_left (List.getElem?_eq_some_iff.1 h1).1];exact h1
 ·obtain rfl:i=n:=by omega
  rw [List.getElem?_append_right (by omega),hl,show i*sz+k - i*sz=k by omega];exact hu
def MkAt (w:World)(sz:Nat)(cs:List Value)(g n:Nat):Prop:=∀i,i<n->∀k u,cs[k]?=some u->w.cell? ⟨g,i*sz+k,none⟩=some u
theorem Zn {w:World}{base:Nat}{e:TypeId}{size g n cap sz m:Nat}{cs xs:List Value}(h:w.ownsRow base e size (.slice (some ⟨g,0,none⟩) n cap) n xs)(hm:MkRow sz cs m xs):MkAt w sz cs g m:=fun i hi k u hu=>zk h (hm i hi k u hu)
theorem MkAt.turn {S:Nat->Prop}{w w':World}{sz g n:Nat}{cs:List Value}(h:MkAt w sz cs g n)(ht:Turn S w w')(hs:¬S g):MkAt w' sz cs g n:=fun i hi k u hu=>ht.cell (h i hi k u hu) hs
theorem MkAt.app {w w':World}{v:Value}{sz g n g' n':Nat}{cs:List Value}(h:MkAt w sz cs g n)(hn:n<=n')(hnew:MkAt w' sz cs g' n')(ht:Turn (fun b=>v.ownBlock=some b) w w')(hc:v.ownBlock=some g'\/(Ext w w'/\w.heap.size<=g')):MkAt w' sz cs g n:=by
 rcases hc with hc|⟨hx,_⟩
 ·by_cases e:g=g'
  ·subst e;exact fun i hi k u hu=>hnew i (by omega) k u hu
  ·refine h.turn ht (fun h1=>e ?_);rw [hc] at h1;injection h1 with h1
   exact h1.symm
 ·exact h.turn (S:=fun _=>False) (lM hx) id
def Marked (w:World)(G:Nat->Prop)(sz:Nat)(cs:List Value)(v:Value):Prop:=∃a n cap,v=.slice a n cap/\n<=200000000/\(n=0\/∃g,a=some ⟨g,0,none⟩/\G g/\MkAt w sz cs g n)
theorem Marked.turn {S G:Nat->Prop}{w w':World}{sz:Nat}{cs:List Value}{v:Value}(h:Marked w G sz cs v)(ht:Turn S w w')(hs:∀b,G b->¬S b):Marked w' G sz cs v:=by
 obtain⟨a,n,cap,h1,h2,h3⟩:=h;refine⟨a,n,cap,h1,h2,?_⟩;rcases h3 with h3|⟨g,e,hg,hm⟩
 ·exact .inl h3
 ·exact .inr ⟨g,e,hg,hm.turn ht (hs g hg)⟩
theorem Marked.mono {G G':Nat->Prop}{w:World}{sz:Nat}{cs:List Value}{v:Value}(h:Marked w G sz cs v)(hg:∀b,G b->G' b):Marked w G' sz cs v:=by obtain⟨a,n,cap,h1,h2,h3⟩:=h;exact⟨a,n,cap,h1,h2,h3.imp id (fun ⟨g,e,h4,h5⟩=>⟨g,e,hg g h4,h5⟩)⟩
def BookRow (w:World)(G:Nat->Prop)(t:TypeId)(sz:Nat)(mk:Nat->List Value)(bv:Value)(m:Nat):Prop:=
 ∃vs:List Value,w.ownsRow 0 t 1 bv (4*m) vs/\∀k (h:k<vs.length),Marked w G sz (mk (k / 4)) vs[k]
theorem BookRow.turn {S G:Nat->Prop}{w w':World}{t:TypeId}{sz:Nat}{mk:Nat->List Value}{bv:Value}{m:Nat}(h:BookRow w G t sz mk bv m)(ht:Turn S w w')(hs:∀b,G b->¬S b)(hb:∀b,bv.ownBlock=some b->¬S b):BookRow w' G t sz mk bv m:=by obtain⟨vs,h1,h2⟩:=h;exact⟨vs,ht.owns h1 hb,fun k hk=>(h2 k hk).turn ht hs⟩
theorem BookRow.mono {G G':Nat->Prop}{w:World}{t:TypeId}{sz:Nat}{mk:Nat->List Value}{bv:Value}{m:Nat}(h:BookRow w G t sz mk bv m)(hg:∀b,G b->G' b):BookRow w G' t sz mk bv m:=by obtain⟨vs,h1,h2⟩:=h;exact⟨vs,h1,fun k hk=>(h2 k hk).mono hg⟩
theorem ya {w w':World}{v:Value}{g:Nat}{e:TypeId}{base size n:Nat}{xs:List Value}(h:∃cur,w.heap[g]?=some (.cells cur e (0,0)))(ht:Turn (fun b=>v.ownBlock=some b) w w')(ho:w'.ownsRow base e size v n xs):∃cur,w'.heap[g]?=some (.cells cur e (0,0)):=by
 by_cases hv:v.ownBlock=some g
 ·exact zf ho hv
 ·obtain⟨cur,hc⟩:=h;exact⟨cur,ht.ref hc hv⟩
theorem KM:(Tryz.prog.info? 44).map (fun i=>(i.zero,i.size,i.bytes))=some (some (.slice none 0 0),1,24):=by kernel_rfl
theorem Kw:(Tryz.prog.info? 38).map (fun i=>(i.zero,i.size,i.bytes))=some (some (.slice none 0 0),1,24):=by kernel_rfl
theorem KE:(Tryz.prog.info? 69).map (fun i=>(i.zero,i.size,i.bytes))=some (some (.slice none 0 0),1,24):=by kernel_rfl
def mkW (j:Nat):List Value:=[.int .u64 (1000000007+(j:Int))]
def mkS (j:Nat):List Value:=[.int .i64 0,.int .i64 0,.int .i64 0,.int .i64 0,.int .i64 (-1 - (j:Int)),.int .i64 0,.int .i64 0]
def mkL (j:Nat):List Value:=[.int .i64 (-1 - (j:Int)),.int .i64 0,.int .i64 0,.int .i64 0,.int .i64 0,.int .i64 0,.int .i64 0,.int .i64 0,.bool false]
def mkO (j:Nat):List Value:=[.int .i64 (-1 - (j:Int)),.string ⟨#[]⟩,.string ⟨#[]⟩,.string ⟨#[]⟩]
theorem BookRow.keep {G':Nat->Prop}{w':World}{t:TypeId}{sz:Nat}{mk:Nat->List Value}{bv':Value}{m:Nat}{vs:List Value}(hv:vs.length=4*m)(h:∀k (h:k<vs.length),Marked w' G' sz (mk (k / 4)) vs[k]){a b c d:Value}(ho:w'.ownsRow 0 t 1 bv' (4*m+4) (vs++[a,b,c,d]))(ha:Marked w' G' sz (mk m) a)(hb:Marked w' G' sz (mk m) b)(hc:Marked w' G' sz (mk m) c)(hd:Marked w' G' sz (mk m) d):BookRow w' G' t sz mk bv' (m+1):=by
 refine⟨vs++[a,b,c,d],by rw [Nat.mul_add];exact ho,fun k hk=>?_⟩;by_cases e:k<vs.length
 ·rw [List.getElem_append_left e];exact h k e
 ·rw [List.getElem_append_right (by omega)];have hk4:k<vs.length+4:=by simpa using hk
  have hq:k / 4=m:=by omega
  rw [hq];obtain e|e|e|e:k - vs.length=0\/k - vs.length=1\/k - vs.length=2\/k - vs.length=3:=by omega
  all_goals simp only [e,lC,lB]
  all_goals assumption
theorem vF {n j:Nat}{mz:Int}{xs:List Value}(hl:xs.length=n*1)(hj:j<n)(h:MkRow 1 [.int .u64 mz] j xs):MkRow 1 [.int .u64 mz] (j+1) (xs.set (j) (.int .u64 mz)):=by
 intro i hi k u hu;have hk:k<1:=(List.getElem?_eq_some_iff.1 hu).1;by_cases e:i<j
 ·rw [lU (by omega)];exact h i e k u hu
 ·obtain rfl:i=j:=by omega
  rcases(show k=0 by omega) with rfl
  simp only [Nat.mul_one,Nat.add_zero];rw [sA (by omega)];simpa using hu
theorem uG {G:Nat->Prop}(P m base:Nat)(pcs:Array Value)(hps:pcs.size=11)(bv:Value)(hb:pcs[7]?=some bv)(la:Option Addr)(n lcap:Nat)(xs0:List Value)(hm:m<=1000000)(hn:n<=100000000)(w:World)(hP:w.heap[P]?=some (.cells pcs 94 (0,0)))(hbk:BookRow w G 31 1 mkW bv m)(ho:w.ownsRow base 146 1 (.slice la n lcap) n xs0)(hGl:∀q,lH (.slice la n lcap)=some q->¬G q)(hGb:∀q,bv.ownBlock=some q->¬G q)(hGs:∀q,G q->q<w.heap.size)(hGP:¬G P)(hbw:base<=w.heap.size) :
  Calls Tryz.prog 106 #[.pointer (some ⟨P,7,none⟩),.slice la n lcap] w fun e w'=>e=.returned (.tuple #[])/\∃bv',w'.heap[P]?=some (.cells (pcs.setIfInBounds 7 bv') 94 (0,0))/\(∃G',(∀q,G q->G' q)/\(∀q,G' q->G q\/lH (.slice la n lcap)=some q\/(w.heap.size<=q/\q<w'.heap.size))/\(∀q,bv'.ownBlock=some q->¬G' q)/\¬G' P/\BookRow w' G' 31 1 mkW bv' (m+1))/\(∀q,bv'.ownBlock=some q->bv.ownBlock=some q\/w.heap.size<=q)/\Turn (fun b=>b=P\/bv.ownBlock=some b\/lH (.slice la n lcap)=some b) w w':=by
 obtain⟨i0,hi,hz0,hz1,hz2⟩:=info_parts ZS;obtain⟨k0,hk0,hw0,hw1,hw2⟩:=info_parts kr;obtain⟨vs,hvo,hvm⟩:=hbk;obtain⟨bn,hbn⟩:∃bn,4*m=bn:=⟨_,rfl⟩
 rw [hbn] at hvo;have HBN:=hid hbn;have hbnb:bn<=4000000:=by omega
 have hq4:Int.tdiv (bn:Int) 4=(m:Int):=by rw [<-hbn,rQ,Int.mul_comm];exact Int.mul_tdiv_cancel _ (by decide)
 obtain⟨mz,hmz⟩:∃mz:Int,1000000007+(m:Int)=mz:=⟨_,rfl⟩
 have hwz:IntKind.u64.wrap (1000000007+(m:Int))=mz:=by rw [<-hmz];rw [IntKind.wrap_u64];omega
 have HMZ:Hd (mkW m=[.int .u64 mz]):=by
  show mkW m=_
  rw [<-hmz];rfl
 obtain⟨ba,bcap,rfl⟩:=zo hvo;have HB:=hid hvo;have HV:=hid hvm;have HO0:=hid ho;have HG1:=hid hGl;have HG2:=hid hGb;have HG3:=hid hGs;have HP:=hid hP;have HPS:Hd (pcs.size=11/\pcs[7]?=some (.slice ba bn bcap)/\¬G P):=⟨hps,hb,hGP⟩
 have HLP:Hd (lH (.slice la n lcap)≠some P):=Zk (B:=P) hP ho (by decide);have HBP:Hd (lH (.slice ba bn bcap)≠some P):=Zk (B:=P) hP hvo (by decide);have HLB:Hd (∀q,lH (.slice la n lcap)=some q->q<w.heap.size):=fun q hq=>zx ho hq
 have HBB:Hd (∀q,lH (.slice ba bn bcap)=some q->q<w.heap.size/\lH (.slice la n lcap)≠some q):=fun q hq=>⟨zx hvo hq,fun e=>by obtain⟨cur,hc⟩:=zf hvo hq;obtain⟨cur',hc'⟩:=zf ho e;exact zh hc hc' (by decide) rfl⟩
 have y:w.cell? ⟨P,7,none⟩=some (.slice ba bn bcap):=zc hP hb;have hPl:=lG w _ y;clear hvo hvm ho hGl hGb hGs hP hps hb hbn hmz hGP;go_enter func106,ntmps106;go_wp2_with fail
 go_loopw [5] (fun at_ wr=>∃(j:Nat) (xs:List Value),j<=n/\at_=.int .i64 (j:Int)/\wr.ownsRow base 146 1 (.slice la n lcap) n xs/\MkRow 1 [.int .u64 mz] j xs/\Turn (fun b=>lH (.slice la n lcap)=some b) w wr) (fun at_ _=>n - (intOf at_).toNat)
 case atStart=>exact⟨0,xs0,lT _,rfl,HO0.o,fun i hi=>absurd hi (sG _),rD _ _⟩
 case round=>
  obtain⟨j,xs,hj,rfl,ho,hmr,ht⟩:=hrel;have HR0:=hid ho;have HMR:=hid hmr;have HT:=hid ht;clear ho hmr ht;by_cases hlt:j<n
  ·obtain⟨gl,rfl⟩:∃g,la=some ⟨g,0,none⟩:=by
    rcases zw HR0.o with⟨_,h2,_⟩|⟨g,c,h1,_⟩
    ·omega
    ·injection h1 with e1 _ _
     exact⟨g,e1⟩
   have HO:Hd (wr.ownsRow base 146 1 (.slice (some ⟨gl,0,none⟩) n lcap) n xs):=HR0.o;have hk0:(0:Int)<=(j:Int):=by omega
   have hk1:(j:Int)<n:=by omega
   have c0:∃u,wr.cell? ⟨gl,j,none⟩=some u:=by
    have hl0:j<xs.length:=by rw [HO.o.1];omega
    exact⟨_,zk HO.o (lZ hl0)⟩
   obtain⟨old0,c0⟩:=c0;have z0:wr.frozen? ⟨gl,j,none⟩=false:=by obtain⟨cur,hc⟩:=zf HO.o (g:=gl) rfl;exact ze hc _
   have hgl:=lG wr _ c0;go_wp2
   go_roundw
   case rel=>
    refine⟨j+1,_,by omega,by go_num,(zI HO.o (j) _),vF HO.o.1 hlt HMR.o,(lQ (S:=fun b=>lH (.slice (some ⟨gl,0,none⟩) n lcap)=some b) (p:=⟨gl,j,none⟩) HT.o (fun _=>rfl) _)⟩
   case measure=>simp [intOf];omega
  ·obtain rfl:j=n:=by omega
   clear hlt hj;have y0:wr.cell? ⟨P,7,none⟩=some (.slice ba bn bcap):=HT.o.cell y (by intro e;exact HLP.o e);have hszr:=HT.o.size;go_wp2_with (at_builtin;refine zD _ rfl _ _ 31 rfl base 146 i0 _ 1 8 underlying31 hi hz0 hz1 hz2 rfl (by decide) (.slice la j lcap) j xs rfl (rE (lK (lI _) _) HR0.o) ⟨_,0,none⟩ 1 1 [.int .u64 mz] rfl rfl (rI (zm (by simp))) (by simp [Value.oneCell']) (by decide) (by unfold maxLen;omega) (by omega) (by simp;omega) ?_)
   intro g1 cap1 w1 hown hkept hgrow hcase hlt;have HR1:=hid hown;have HK1:=hid hkept;have HT1:Hd (Turn (fun b=>lH (.slice la j lcap)=some b) wr w1):=rJ (Turn.alloc (rD _ _) _) hgrow (fun q hq _=>hq);have HC1:Hd (lH (.slice la j lcap)=some g1\/(Ext wr w1/\wr.heap.size<=g1)):=hcase.imp id (fun h=>⟨(lK (lI _) _).trans h.1,by have:=h.2;(try simp at this);omega⟩);have hsz1:=HT1.o.size;clear hown hkept hgrow hcase hlt;have y1:w1.cell? ⟨P,7,none⟩=some (.slice ba bn bcap):=HT1.o.cell y0 (by intro e;exact HLP.o e);go_wp2_with (at_builtin;refine zD _ rfl _ _ 31 rfl base 146 i0 _ 1 8 underlying31 hi hz0 hz1 hz2 rfl (by decide) (.slice la j lcap) j xs rfl (rE (lK (lI _) _) HK1.o) ⟨_,0,none⟩ 2 2 [.int .u64 mz,.int .u64 mz] rfl rfl (rI (zm (by simp))) (by simp [Value.oneCell']) (by decide) (by unfold maxLen;omega) (by omega) (by simp;omega) ?_)
   intro g2 cap2 w2 hown hkept hgrow hcase hlt;have HR2:=hid hown;have HK2:=hid hkept;have HT2:Hd (Turn (fun b=>lH (.slice la j lcap)=some b) w1 w2):=rJ (Turn.alloc (rD _ _) _) hgrow (fun q hq _=>hq);have HC2:Hd (lH (.slice la j lcap)=some g2\/(Ext w1 w2/\w1.heap.size<=g2)):=hcase.imp id (fun h=>⟨(lK (lI _) _).trans h.1,by have:=h.2;(try simp at this);omega⟩);have hsz2:=HT2.o.size;clear hown hkept hgrow hcase hlt;have y2:w2.cell? ⟨P,7,none⟩=some (.slice ba bn bcap):=HT2.o.cell y1 (by intro e;exact HLP.o e);go_wp2_with (at_builtin;refine zD _ rfl _ _ 31 rfl base 146 i0 _ 1 8 underlying31 hi hz0 hz1 hz2 rfl (by decide) (.slice la j lcap) j xs rfl (rE (lK (lI _) _) HK2.o) ⟨_,0,none⟩ 3 3 [.int .u64 mz,.int .u64 mz,.int .u64 mz] rfl rfl (rI (zm (by simp))) (by simp [Value.oneCell']) (by decide) (by unfold maxLen;omega) (by omega) (by simp;omega) ?_)
   intro g3 cap3 w3 hown hkept hgrow hcase hlt;have HR3:=hid hown;have HK3:=hid hkept;have HT3:Hd (Turn (fun b=>lH (.slice la j lcap)=some b) w2 w3):=rJ (Turn.alloc (rD _ _) _) hgrow (fun q hq _=>hq);have HC3:Hd (lH (.slice la j lcap)=some g3\/(Ext w2 w3/\w2.heap.size<=g3)):=hcase.imp id (fun h=>⟨(lK (lI _) _).trans h.1,by have:=h.2;(try simp at this);omega⟩);have hsz3:=HT3.o.size;clear hown hkept hgrow hcase hlt;have y3:w3.cell? ⟨P,7,none⟩=some (.slice ba bn bcap):=HT3.o.cell y2 (by intro e;exact HLP.o e);have HTA:=hid (((HT.o).trans HT1.o).trans (HT2.o.trans HT3.o));have HB3:Hd (w3.ownsRow 0 31 1 (.slice ba bn bcap) bn vs):=HTA.o.owns HB.o (fun q hq e=>(HBB.o q hq).2 e);go_wp2_with (at_builtin;refine wpList_append_lies _ rfl _ _ 87 rfl 0 31 k0 _ 1 24 underlying87 hk0 hw0 hw1 hw2 rfl (by decide) (.slice ba bn bcap) bn vs rfl (rE (lK (lI _) _) HB3.o) ⟨_,0,none⟩ 4 4 [.slice la j lcap,.slice (some ⟨g1,0,none⟩) (j+1) cap1,.slice (some ⟨g2,0,none⟩) (j+2) cap2,.slice (some ⟨g3,0,none⟩) (j+3) cap3] rfl rfl (rI (zm (by simp))) (by simp [Value.oneCell']) (by decide) (by unfold maxLen;omega) (by omega) (lT _) _ rfl ?_)
   intro g5 cap5 w5 hown5 hgrow5 hat5 hlt5;have HT5:Hd (Turn (fun b=>lH (.slice ba bn bcap)=some b) w3 w5):=rJ (Turn.alloc (rD _ _) _) hgrow5 (fun q hq _=>hq);have HO5:=hid hown5;have HAT:Hd (lH (.slice ba bn bcap)=some g5\/w3.heap.size<g5+1):=hat5.imp id (fun h=>by(try simp at h);omega);have y5:w5.cell? ⟨P,7,none⟩=some (.slice ba bn bcap):=HT5.o.cell y3 (by intro e;exact HBP.o e);have hP5:w5.heap[P]?=some (.cells pcs 94 (0,0)):=HT5.o.ref (HTA.o.ref HP.o (fun e=>HLP.o e)) (fun e=>HBP.o e);have f5:=ze hP5 7;have HP5:Hd _:=hP5;have hPl5:=lG w5 _ y5;clear hown5 hgrow5 hat5 hP5;go_wp2;go_end0;have hbn:=HBN.o;obtain⟨hps,hpb,hGP⟩:=HPS.o;have hsz5:=HT5.o.size;have hszA:=HTA.o.size;have hA1:xs.length=j*1:=HR0.o.1;have hm1:=HMR.o.snoc rfl hA1;have hm2:=hm1.snoc rfl (by rw [lW,hA1,rO];rfl);have hm3:=hm2.snoc rfl (by rw [lW,lW,hA1,rO,rO];rfl);have r1:MkAt w1 1 [.int .u64 mz] g1 (j+1):=Zn HR1.o hm1;have r2:MkAt w2 1 [.int .u64 mz] g2 (j+2):=Zn HR2.o (by rw [show xs++[.int .u64 mz,.int .u64 mz]=(xs++[.int .u64 mz])++[.int .u64 mz] by simp];exact hm2);have r3:MkAt w3 1 [.int .u64 mz] g3 (j+3):=Zn HR3.o (by rw [show xs++[.int .u64 mz,.int .u64 mz,.int .u64 mz]=((xs++[.int .u64 mz])++[.int .u64 mz])++[.int .u64 mz] by simp];exact hm3);have r1':=(r1.app (by omega) r2 HT2.o HC2.o).app (by omega) r3 HT3.o HC3.o;have r2':=r2.app (by omega) r3 HT3.o HC3.o;obtain⟨w6,hw6⟩:∃w6,w5.setCell ⟨P,7,none⟩ (.slice (some ⟨g5,0,none⟩) (bn+4) cap5)=w6:=⟨_,rfl⟩
   have hT6:Turn (fun b=>b=P\/lH (.slice ba bn bcap)=some b) w3 w6:=by rw [<-hw6];exact lQ (S:=fun b=>b=P\/lH (.slice ba bn bcap)=some b) (p:=⟨P,7,none⟩) (HT5.o.mono (fun _ _ e=>.inr e)) (fun _=>.inl rfl) _
   have hP6:w6.heap[P]?=some (.cells (pcs.setIfInBounds 7 (.slice (some ⟨g5,0,none⟩) (bn+4) cap5)) 94 (0,0)):=by rw [<-hw6];exact zg HP5.o _
   have hg5P:g5≠P:=by
    rcases HAT.o with h|h
    ·exact fun e=>HBP.o (by rw [<-e];exact h)
    ·omega
   have hO6:=zi HO5.o (a:=⟨P,7,none⟩) (by simpa [lH] using hg5P) (.slice (some ⟨g5,0,none⟩) (bn+4) cap5);rw [hw6] at hO6;have hsz6:w6.heap.size=w5.heap.size:=by rw [<-hw6];simp
   rw [hw6]
   -- where the new lists lie
   have hwh:∀g nn cc,(∃xx w',(w'=w1\/w'=w2\/w'=w3)/\lR w' base 146 1 (.slice (some ⟨g,0,none⟩) nn cc) nn xx)->(lH (.slice la j lcap)=some g\/w.heap.size<=g)->g<w3.heap.size/\(lH (.slice la j lcap)=some g\/w.heap.size<=g):=fun g nn cc ⟨xx,w',hw',hoo⟩ hc=>⟨by
    have:=zx hoo (g:=g) rfl;have:=HT2.o.size;have:=HT3.o.size;rcases hw' with e|e|e<;>(subst e;omega),hc⟩
   have q1:=hwh g1 _ _ ⟨_,w1,.inl rfl,HR1.o⟩ (HC1.o.imp id (fun h=>by have:=h.2;omega));have q2:=hwh g2 _ _ ⟨_,w2,.inr (.inl rfl),HR2.o⟩ (HC2.o.imp id (fun h=>by have:=h.2;omega));have q3:=hwh g3 _ _ ⟨_,w3,.inr (.inr rfl),HR3.o⟩ (HC3.o.imp id (fun h=>by have:=h.2;omega));have hnn:∀g,(lH (.slice la j lcap)=some g\/w.heap.size<=g)->¬(g=P\/lH (.slice ba bn bcap)=some g):=fun g hg hor=>by
    rcases hor with e|e
    ·rcases hg with h|h
     ·exact HLP.o (by rw [<-e];exact h)
     ·omega
    ·rcases hg with h|h
     ·exact(HBB.o g e).2 h
     ·have:=(HBB.o g e).1;omega
   have hne5:∀g,(∃cur,w3.heap[g]?=some (.cells cur 146 (0,0)))->g≠g5:=fun g ⟨cur,hc⟩ e=>by
    subst e;rcases HAT.o with h|h
    ·obtain⟨cur2,hc2⟩:=zf HB3.o h;exact zh hc hc2 (by decide) rfl
    ·have:=(Array.getElem?_eq_some_iff.1 hc).1;omega
   have n1:=hne5 g1 (ya (ya (zf HR1.o (g:=g1) rfl) HT2.o HK2.o) HT3.o HK3.o);have n2:=hne5 g2 (ya (zf HR2.o (g:=g2) rfl) HT3.o HK3.o);have n3:=hne5 g3 (zf HR3.o (g:=g3) rfl);refine⟨rfl,.slice (some ⟨g5,0,none⟩) (bn+4) cap5,hP6,⟨fun q=>G q\/lH (.slice la j lcap)=some q\/(w.heap.size<=q/\q<w6.heap.size/\q≠g5),fun q hq=>.inl hq,fun q hq=>?_,fun q hq=>?_,?_,?_⟩,fun q hq=>?_,?_⟩
   ·rcases hq with hq|hq|hq
    ·exact .inl hq
    ·exact .inr (.inl hq)
    ·exact .inr (.inr ⟨by have:=hq.1;omega,hq.2.1⟩)
   ·have hq5:g5=q:=by simpa [lH] using hq
    subst hq5;rintro (hq|hq|hq)
    ·rcases HAT.o with h|h
     ·exact HG2.o _ h hq
     ·have:=HG3.o _ hq;omega
    ·rcases HAT.o with h|h
     ·exact(HBB.o _ h).2 hq
     ·have:=HLB.o _ hq;omega
    ·exact hq.2.2 rfl
   ·rintro (hq|hq|hq)
    ·exact hGP hq
    ·exact HLP.o hq
    ·omega
   ·have hmk:∀g nn cc,MkAt w3 1 [.int .u64 mz] g nn->nn<=200000000->(g<w3.heap.size/\(lH (.slice la j lcap)=some g\/w.heap.size<=g))->g≠g5->Marked w6 (fun q=>G q\/lH (.slice la j lcap)=some q\/(w.heap.size<=q/\q<w6.heap.size/\q≠g5)) 1 (mkW m) (.slice (some ⟨g,0,none⟩) nn cc):=fun g nn cc hmm hnb hg hg5=>by
     refine⟨some ⟨g,0,none⟩,nn,cc,rfl,hnb,.inr ⟨g,rfl,?_,?_⟩⟩
     ·rcases hg.2 with h|h
      ·exact .inr (.inl h)
      ·exact .inr (.inr ⟨h,by omega,hg5⟩)
     ·rw [HMZ.o];exact hmm.turn hT6 (hnn g hg.2)
    refine BookRow.keep (vs:=vs) (by rw [hbn];have:=HB.o.1;omega) (fun k hk=>?_) (by rw [hbn];exact hO6) ?_ (hmk g1 _ _ r1' (by omega) q1 n1) (hmk g2 _ _ r2' (by omega) q2 n2) (hmk g3 _ _ r3 (by omega) q3 n3)
    ·refine(((HV.o k hk).turn HTA.o (fun b hb e=>HG1.o b e hb)).turn hT6 (fun b hb hor=>?_)).mono (fun q hq=>.inl hq);rcases hor with e|e
     ·exact hGP (by rw [<-e];exact hb)
     ·exact HG2.o b e hb
    ·refine⟨la,j,lcap,rfl,by omega,?_⟩;rcases zw HK3.o with⟨_,h2,_⟩|⟨g,c,h1,_⟩
     ·exact .inl h2
     ·injection h1 with e1 _ e3
      subst e1;refine .inr ⟨g,rfl,.inr (.inl rfl),?_⟩;rw [HMZ.o];exact(Zn HK3.o HMR.o).turn hT6 (hnn g (.inl rfl))
   ·have hq5:g5=q:=by simpa [lH] using hq
    subst hq5;rcases HAT.o with h|h
    ·exact .inl h
    ·exact .inr (by omega)
   ·exact(HTA.o.mono (fun b _ e=>.inr (.inr e))).trans' hT6 (fun b _ e=>e.elim (fun e=>.inl e) (fun e=>.inr (.inl e)))
end
section
theorem Xf {n j:Nat}{mz:Int}{xs:List Value}(hl:xs.length=n*7)(hj:j<n)(h:MkRow 7 [.int .i64 0,.int .i64 0,.int .i64 0,.int .i64 0,.int .i64 mz,.int .i64 0,.int .i64 0] j xs):MkRow 7 [.int .i64 0,.int .i64 0,.int .i64 0,.int .i64 0,.int .i64 mz,.int .i64 0,.int .i64 0] (j+1) (((((((xs.set (j*7) (.int .i64 0)).set (j*7+1) (.int .i64 0)).set (j*7+2) (.int .i64 0)).set (j*7+3) (.int .i64 0)).set (j*7+4) (.int .i64 mz)).set (j*7+5) (.int .i64 0)).set (j*7+6) (.int .i64 0)):=by
 intro i hi k u hu;have hk:k<7:=(List.getElem?_eq_some_iff.1 hu).1;by_cases e:i<j
 ·rw [lU (by omega),lU (by omega),lU (by omega),lU (by omega),lU (by omega),lU (by omega),lU (by omega)];exact h i e k u hu
 ·obtain rfl:i=j:=by omega
  rcases(show k=0\/k=1\/k=2\/k=3\/k=4\/k=5\/k=6 by omega) with rfl|rfl|rfl|rfl|rfl|rfl|rfl
  ·show _[i*7+0]?=_
   simp only [Nat.add_zero];rw [lU (by omega),lU (by omega),lU (by omega),lU (by omega),lU (by omega),lU (by omega),sA (by(try simp only [rK]);omega)];simpa using hu
  ·rw [lU (by omega),lU (by omega),lU (by omega),lU (by omega),lU (by omega),sA (by(try simp only [rK]);omega)];simpa using hu
  ·rw [lU (by omega),lU (by omega),lU (by omega),lU (by omega),sA (by(try simp only [rK]);omega)];simpa using hu
  ·rw [lU (by omega),lU (by omega),lU (by omega),sA (by(try simp only [rK]);omega)];simpa using hu
  ·rw [lU (by omega),lU (by omega),sA (by(try simp only [rK]);omega)];simpa using hu
  ·rw [lU (by omega),sA (by(try simp only [rK]);omega)];simpa using hu
  ·rw [sA (by(try simp only [rK]);omega)];simpa using hu
theorem V9 {G:Nat->Prop}(P m base:Nat)(pcs:Array Value)(hps:pcs.size=11)(bv:Value)(hb:pcs[8]?=some bv)(la:Option Addr)(n lcap:Nat)(xs0:List Value)(hm:m<=1000000)(hn:n<=100000000)(w:World)(hP:w.heap[P]?=some (.cells pcs 94 (0,0)))(hbk:BookRow w G 44 7 mkS bv m)(ho:w.ownsRow base 116 7 (.slice la n lcap) n xs0)(hGl:∀q,lH (.slice la n lcap)=some q->¬G q)(hGb:∀q,bv.ownBlock=some q->¬G q)(hGs:∀q,G q->q<w.heap.size)(hGP:¬G P)(hbw:base<=w.heap.size) :
  Calls Tryz.prog 78 #[.pointer (some ⟨P,7,none⟩),.slice la n lcap] w fun e w'=>e=.returned (.tuple #[])/\∃bv',w'.heap[P]?=some (.cells (pcs.setIfInBounds 8 bv') 94 (0,0))/\(∃G',(∀q,G q->G' q)/\(∀q,G' q->G q\/lH (.slice la n lcap)=some q\/(w.heap.size<=q/\q<w'.heap.size))/\(∀q,bv'.ownBlock=some q->¬G' q)/\¬G' P/\BookRow w' G' 44 7 mkS bv' (m+1))/\(∀q,bv'.ownBlock=some q->bv.ownBlock=some q\/w.heap.size<=q)/\Turn (fun b=>b=P\/bv.ownBlock=some b\/lH (.slice la n lcap)=some b) w w':=by
 obtain⟨i0,hi,hz0,hz1,hz2⟩:=info_parts xd;obtain⟨k0,hk0,hw0,hw1,hw2⟩:=info_parts KM;obtain⟨vs,hvo,hvm⟩:=hbk;obtain⟨bn,hbn⟩:∃bn,4*m=bn:=⟨_,rfl⟩
 rw [hbn] at hvo;have HBN:=hid hbn;have hbnb:bn<=4000000:=by omega
 have hq4:Int.tdiv (bn:Int) 4=(m:Int):=by rw [<-hbn,rQ,Int.mul_comm];exact Int.mul_tdiv_cancel _ (by decide)
 obtain⟨mz,hmz⟩:∃mz:Int,-1 - (m:Int)=mz:=⟨_,rfl⟩
 have hwz:IntKind.i64.wrap (-1 - (m:Int))=mz:=by rw [<-hmz];rw [IntKind.wrap_i64];omega
 have HMZ:Hd (mkS m=[.int .i64 0,.int .i64 0,.int .i64 0,.int .i64 0,.int .i64 mz,.int .i64 0,.int .i64 0]):=by
  show mkS m=_
  rw [<-hmz];rfl
 obtain⟨ba,bcap,rfl⟩:=zo hvo;have HB:=hid hvo;have HV:=hid hvm;have HO0:=hid ho;have HG1:=hid hGl;have HG2:=hid hGb;have HG3:=hid hGs;have HP:=hid hP;have HPS:Hd (pcs.size=11/\pcs[8]?=some (.slice ba bn bcap)/\¬G P):=⟨hps,hb,hGP⟩
 have HLP:Hd (lH (.slice la n lcap)≠some P):=Zk (B:=P) hP ho (by decide);have HBP:Hd (lH (.slice ba bn bcap)≠some P):=Zk (B:=P) hP hvo (by decide);have HLB:Hd (∀q,lH (.slice la n lcap)=some q->q<w.heap.size):=fun q hq=>zx ho hq
 have HBB:Hd (∀q,lH (.slice ba bn bcap)=some q->q<w.heap.size/\lH (.slice la n lcap)≠some q):=fun q hq=>⟨zx hvo hq,fun e=>by obtain⟨cur,hc⟩:=zf hvo hq;obtain⟨cur',hc'⟩:=zf ho e;exact zh hc hc' (by decide) rfl⟩
 have y:w.cell? ⟨P,8,none⟩=some (.slice ba bn bcap):=zc hP hb;have hPl:=lG w _ y;clear hvo hvm ho hGl hGb hGs hP hps hb hbn hmz hGP;go_enter func78,ntmps78;go_wp2_with fail
 have hmk:(w.alloc (.cells #[.int .i64 0,.int .i64 0,.int .i64 0,.int .i64 0,.int .i64 mz,.int .i64 0,.int .i64 0] 116)).heap[w.heap.size]?=some (.cells #[.int .i64 0,.int .i64 0,.int .i64 0,.int .i64 0,.int .i64 mz,.int .i64 0,.int .i64 0] 116 (0,0)):=heap_alloc_new _ _;have hXW:Ext w (w.alloc (.cells #[.int .i64 0,.int .i64 0,.int .i64 0,.int .i64 0,.int .i64 mz,.int .i64 0,.int .i64 0] 116)):=(lI w).alloc _;obtain⟨mb,hmb⟩:∃mb,w.heap.size=mb:=⟨_,rfl⟩
 rw [hmb] at hmk;simp only [hmb];generalize World.alloc w _=W at hmk hXW ⊢;have HMB:=hid hmb;have HMK:=hid hmk;have HXW:=hid hXW;clear hmb hmk hXW
 go_loopw [5] (fun at_ wr=>∃(j:Nat) (xs:List Value),j<=n/\at_=.int .i64 (j:Int)/\wr.ownsRow base 116 7 (.slice la n lcap) n xs/\MkRow 7 [.int .i64 0,.int .i64 0,.int .i64 0,.int .i64 0,.int .i64 mz,.int .i64 0,.int .i64 0] j xs/\Turn (fun b=>lH (.slice la n lcap)=some b) W wr/\wr.heap[mb]?=some (.cells #[.int .i64 0,.int .i64 0,.int .i64 0,.int .i64 0,.int .i64 mz,.int .i64 0,.int .i64 0] 116 (0,0))) (fun at_ _=>n - (intOf at_).toNat)
 case atStart=>exact⟨0,xs0,lT _,rfl,HXW.o.owns HO0.o,fun i hi=>absurd hi (sG _),rD _ _,HMK.o⟩
 case round=>
  obtain⟨j,xs,hj,rfl,ho,hmr,ht,hmk⟩:=hrel;have HR0:=hid ho;have HMR:=hid hmr;have HT:=hid ht;have HM:=hid hmk;clear ho hmr ht hmk;by_cases hlt:j<n
  ·obtain⟨gl,rfl⟩:∃g,la=some ⟨g,0,none⟩:=by
    rcases zw HR0.o with⟨_,h2,_⟩|⟨g,c,h1,_⟩
    ·omega
    ·injection h1 with e1 _ _
     exact⟨g,e1⟩
   have HO:Hd (wr.ownsRow base 116 7 (.slice (some ⟨gl,0,none⟩) n lcap) n xs):=HR0.o;have hk0:(0:Int)<=(j:Int):=by omega
   have hk1:(j:Int)<n:=by omega
   have c0:∃u,wr.cell? ⟨gl,j*7,none⟩=some u:=by
    have hl0:j*7<xs.length:=by rw [HO.o.1];omega
    exact⟨_,zk HO.o (lZ hl0)⟩
   obtain⟨old0,c0⟩:=c0;have z0:wr.frozen? ⟨gl,j*7,none⟩=false:=by obtain⟨cur,hc⟩:=zf HO.o (g:=gl) rfl;exact ze hc _
   have c1:∃u,wr.cell? ⟨gl,j*7+1,none⟩=some u:=by
    have hl1:j*7+1<xs.length:=by rw [HO.o.1];omega
    exact⟨_,zk HO.o (lZ hl1)⟩
   obtain⟨old1,c1⟩:=c1;have z1:wr.frozen? ⟨gl,j*7+1,none⟩=false:=by obtain⟨cur,hc⟩:=zf HO.o (g:=gl) rfl;exact ze hc _
   have c2:∃u,wr.cell? ⟨gl,j*7+2,none⟩=some u:=by
    have hl2:j*7+2<xs.length:=by rw [HO.o.1];omega
    exact⟨_,zk HO.o (lZ hl2)⟩
   obtain⟨old2,c2⟩:=c2;have z2:wr.frozen? ⟨gl,j*7+2,none⟩=false:=by obtain⟨cur,hc⟩:=zf HO.o (g:=gl) rfl;exact ze hc _
   have c3:∃u,wr.cell? ⟨gl,j*7+3,none⟩=some u:=by
    have hl3:j*7+3<xs.length:=by rw [HO.o.1];omega
    exact⟨_,zk HO.o (lZ hl3)⟩
   obtain⟨old3,c3⟩:=c3;have z3:wr.frozen? ⟨gl,j*7+3,none⟩=false:=by obtain⟨cur,hc⟩:=zf HO.o (g:=gl) rfl;exact ze hc _
   have c4:∃u,wr.cell? ⟨gl,j*7+4,none⟩=some u:=by
    have hl4:j*7+4<xs.length:=by rw [HO.o.1];omega
    exact⟨_,zk HO.o (lZ hl4)⟩
   obtain⟨old4,c4⟩:=c4;have z4:wr.frozen? ⟨gl,j*7+4,none⟩=false:=by obtain⟨cur,hc⟩:=zf HO.o (g:=gl) rfl;exact ze hc _
   have c5:∃u,wr.cell? ⟨gl,j*7+5,none⟩=some u:=by
    have hl5:j*7+5<xs.length:=by rw [HO.o.1];omega
    exact⟨_,zk HO.o (lZ hl5)⟩
   obtain⟨old5,c5⟩:=c5;have z5:wr.frozen? ⟨gl,j*7+5,none⟩=false:=by obtain⟨cur,hc⟩:=zf HO.o (g:=gl) rfl;exact ze hc _
   have c6:∃u,wr.cell? ⟨gl,j*7+6,none⟩=some u:=by
    have hl6:j*7+6<xs.length:=by rw [HO.o.1];omega
    exact⟨_,zk HO.o (lZ hl6)⟩
   obtain⟨old6,c6⟩:=c6;have z6:wr.frozen? ⟨gl,j*7+6,none⟩=false:=by obtain⟨cur,hc⟩:=zf HO.o (g:=gl) rfl;exact ze hc _
   have m0:wr.cell? ⟨mb,0,none⟩=some (.int .i64 0):=zc HM.o rfl;have m1:wr.cell? ⟨mb,1,none⟩=some (.int .i64 0):=zc HM.o rfl;have m2:wr.cell? ⟨mb,2,none⟩=some (.int .i64 0):=zc HM.o rfl;have m3:wr.cell? ⟨mb,3,none⟩=some (.int .i64 0):=zc HM.o rfl;have m4:wr.cell? ⟨mb,4,none⟩=some (.int .i64 mz):=zc HM.o rfl;have m5:wr.cell? ⟨mb,5,none⟩=some (.int .i64 0):=zc HM.o rfl;have m6:wr.cell? ⟨mb,6,none⟩=some (.int .i64 0):=zc HM.o rfl;have hgl:=lG wr _ c0;have hne:gl≠mb:=by have:=HLB.o gl rfl;have:=HMB.o;omega
   go_wp2
   go_roundw
   case rel=>
    refine⟨j+1,_,by omega,by go_num,(zI (zI (zI (zI (zI (zI (zI HO.o (j*7) _) (j*7+1) _) (j*7+2) _) (j*7+3) _) (j*7+4) _) (j*7+5) _) (j*7+6) _),Xf HO.o.1 hlt HMR.o,(lQ (S:=fun b=>lH (.slice (some ⟨gl,0,none⟩) n lcap)=some b) (p:=⟨gl,j*7+6,none⟩) (lQ (S:=fun b=>lH (.slice (some ⟨gl,0,none⟩) n lcap)=some b) (p:=⟨gl,j*7+5,none⟩) (lQ (S:=fun b=>lH (.slice (some ⟨gl,0,none⟩) n lcap)=some b) (p:=⟨gl,j*7+4,none⟩) (lQ (S:=fun b=>lH (.slice (some ⟨gl,0,none⟩) n lcap)=some b) (p:=⟨gl,j*7+3,none⟩) (lQ (S:=fun b=>lH (.slice (some ⟨gl,0,none⟩) n lcap)=some b) (p:=⟨gl,j*7+2,none⟩) (lQ (S:=fun b=>lH (.slice (some ⟨gl,0,none⟩) n lcap)=some b) (p:=⟨gl,j*7+1,none⟩) (lQ (S:=fun b=>lH (.slice (some ⟨gl,0,none⟩) n lcap)=some b) (p:=⟨gl,j*7,none⟩) HT.o (fun _=>rfl) _) (fun _=>rfl) _) (fun _=>rfl) _) (fun _=>rfl) _) (fun _=>rfl) _) (fun _=>rfl) _) (fun _=>rfl) _),(Turn.ref (S:=fun b=>b=gl) ((lQ (S:=fun b=>b=gl) (p:=⟨gl,j*7+6,none⟩) (lQ (S:=fun b=>b=gl) (p:=⟨gl,j*7+5,none⟩) (lQ (S:=fun b=>b=gl) (p:=⟨gl,j*7+4,none⟩) (lQ (S:=fun b=>b=gl) (p:=⟨gl,j*7+3,none⟩) (lQ (S:=fun b=>b=gl) (p:=⟨gl,j*7+2,none⟩) (lQ (S:=fun b=>b=gl) (p:=⟨gl,j*7+1,none⟩) (lQ (S:=fun b=>b=gl) (p:=⟨gl,j*7,none⟩) (rD _ wr) (fun _=>rfl) _) (fun _=>rfl) _) (fun _=>rfl) _) (fun _=>rfl) _) (fun _=>rfl) _) (fun _=>rfl) _) (fun _=>rfl) _)) HM.o (fun e=>hne e.symm))⟩
   case measure=>simp [intOf];omega
  ·obtain rfl:j=n:=by omega
   clear hlt hj;have y0:wr.cell? ⟨P,8,none⟩=some (.slice ba bn bcap):=HT.o.cell (HXW.o.cell y) (by intro e;exact HLP.o e);have m0:wr.cell? ⟨mb,0,none⟩=some (.int .i64 0):=zc HM.o rfl;have m1:wr.cell? ⟨mb,1,none⟩=some (.int .i64 0):=zc HM.o rfl;have m2:wr.cell? ⟨mb,2,none⟩=some (.int .i64 0):=zc HM.o rfl;have m3:wr.cell? ⟨mb,3,none⟩=some (.int .i64 0):=zc HM.o rfl;have m4:wr.cell? ⟨mb,4,none⟩=some (.int .i64 mz):=zc HM.o rfl;have m5:wr.cell? ⟨mb,5,none⟩=some (.int .i64 0):=zc HM.o rfl;have m6:wr.cell? ⟨mb,6,none⟩=some (.int .i64 0):=zc HM.o rfl;have hszr:=HT.o.size;have hWw:=HXW.o.le;have hmbw:=HMB.o;go_wp2_with (at_builtin;refine zD _ rfl _ _ 44 rfl base 116 i0 _ 7 56 underlying44 hi hz0 hz1 hz2 rfl (by decide) (.slice la j lcap) j xs rfl (rE (lK (lI _) _) HR0.o) ⟨_,0,none⟩ 1 1 [.int .i64 0,.int .i64 0,.int .i64 0,.int .i64 0,.int .i64 mz,.int .i64 0,.int .i64 0] rfl rfl (rI (zm (by simp))) (by simp [Value.oneCell']) (by decide) (by unfold maxLen;omega) (by omega) (by simp;omega) ?_)
   intro g1 cap1 w1 hown hkept hgrow hcase hlt;have HR1:=hid hown;have HK1:=hid hkept;have HT1:Hd (Turn (fun b=>lH (.slice la j lcap)=some b) wr w1):=rJ (Turn.alloc (rD _ _) _) hgrow (fun q hq _=>hq);have HC1:Hd (lH (.slice la j lcap)=some g1\/(Ext wr w1/\wr.heap.size<=g1)):=hcase.imp id (fun h=>⟨(lK (lI _) _).trans h.1,by have:=h.2;(try simp at this);omega⟩);have hsz1:=HT1.o.size;clear hown hkept hgrow hcase hlt;have m0:w1.cell? ⟨mb,0,none⟩=some (.int .i64 0):=HT1.o.cell m0 (by intro e;have:=HLB.o mb e;omega);have m1:w1.cell? ⟨mb,1,none⟩=some (.int .i64 0):=HT1.o.cell m1 (by intro e;have:=HLB.o mb e;omega);have m2:w1.cell? ⟨mb,2,none⟩=some (.int .i64 0):=HT1.o.cell m2 (by intro e;have:=HLB.o mb e;omega);have m3:w1.cell? ⟨mb,3,none⟩=some (.int .i64 0):=HT1.o.cell m3 (by intro e;have:=HLB.o mb e;omega);have m4:w1.cell? ⟨mb,4,none⟩=some (.int .i64 mz):=HT1.o.cell m4 (by intro e;have:=HLB.o mb e;omega);have m5:w1.cell? ⟨mb,5,none⟩=some (.int .i64 0):=HT1.o.cell m5 (by intro e;have:=HLB.o mb e;omega);have m6:w1.cell? ⟨mb,6,none⟩=some (.int .i64 0):=HT1.o.cell m6 (by intro e;have:=HLB.o mb e;omega);have y1:w1.cell? ⟨P,8,none⟩=some (.slice ba bn bcap):=HT1.o.cell y0 (by intro e;exact HLP.o e);go_wp2_with (at_builtin;refine zD _ rfl _ _ 44 rfl base 116 i0 _ 7 56 underlying44 hi hz0 hz1 hz2 rfl (by decide) (.slice la j lcap) j xs rfl (rE (lK (lI _) _) HK1.o) ⟨_,0,none⟩ 2 2 [.int .i64 0,.int .i64 0,.int .i64 0,.int .i64 0,.int .i64 mz,.int .i64 0,.int .i64 0,.int .i64 0,.int .i64 0,.int .i64 0,.int .i64 0,.int .i64 mz,.int .i64 0,.int .i64 0] rfl rfl (rI (zm (by simp))) (by simp [Value.oneCell']) (by decide) (by unfold maxLen;omega) (by omega) (by simp;omega) ?_)
   intro g2 cap2 w2 hown hkept hgrow hcase hlt;have HR2:=hid hown;have HK2:=hid hkept;have HT2:Hd (Turn (fun b=>lH (.slice la j lcap)=some b) w1 w2):=rJ (Turn.alloc (rD _ _) _) hgrow (fun q hq _=>hq);have HC2:Hd (lH (.slice la j lcap)=some g2\/(Ext w1 w2/\w1.heap.size<=g2)):=hcase.imp id (fun h=>⟨(lK (lI _) _).trans h.1,by have:=h.2;(try simp at this);omega⟩);have hsz2:=HT2.o.size;clear hown hkept hgrow hcase hlt;have m0:w2.cell? ⟨mb,0,none⟩=some (.int .i64 0):=HT2.o.cell m0 (by intro e;have:=HLB.o mb e;omega);have m1:w2.cell? ⟨mb,1,none⟩=some (.int .i64 0):=HT2.o.cell m1 (by intro e;have:=HLB.o mb e;omega);have m2:w2.cell? ⟨mb,2,none⟩=some (.int .i64 0):=HT2.o.cell m2 (by intro e;have:=HLB.o mb e;omega);have m3:w2.cell? ⟨mb,3,none⟩=some (.int .i64 0):=HT2.o.cell m3 (by intro e;have:=HLB.o mb e;omega);have m4:w2.cell? ⟨mb,4,none⟩=some (.int .i64 mz):=HT2.o.cell m4 (by intro e;have:=HLB.o mb e;omega);have m5:w2.cell? ⟨mb,5,none⟩=some (.int .i64 0):=HT2.o.cell m5 (by intro e;have:=HLB.o mb e;omega);have m6:w2.cell? ⟨mb,6,none⟩=some (.int .i64 0):=HT2.o.cell m6 (by intro e;have:=HLB.o mb e;omega);have y2:w2.cell? ⟨P,8,none⟩=some (.slice ba bn bcap):=HT2.o.cell y1 (by intro e;exact HLP.o e);go_wp2_with (at_builtin;refine zD _ rfl _ _ 44 rfl base 116 i0 _ 7 56 underlying44 hi hz0 hz1 hz2 rfl (by decide) (.slice la j lcap) j xs rfl (rE (lK (lI _) _) HK2.o) ⟨_,0,none⟩ 3 3 [.int .i64 0,.int .i64 0,.int .i64 0,.int .i64 0,.int .i64 mz,.int .i64 0,.int .i64 0,.int .i64 0,.int .i64 0,.int .i64 0,.int .i64 0,.int .i64 mz,.int .i64 0,.int .i64 0,.int .i64 0,.int .i64 0,.int .i64 0,.int .i64 0,.int .i64 mz,.int .i64 0,.int .i64 0] rfl rfl (rI (zm (by simp))) (by simp [Value.oneCell']) (by decide) (by unfold maxLen;omega) (by omega) (by simp;omega) ?_)
   intro g3 cap3 w3 hown hkept hgrow hcase hlt;have HR3:=hid hown;have HK3:=hid hkept;have HT3:Hd (Turn (fun b=>lH (.slice la j lcap)=some b) w2 w3):=rJ (Turn.alloc (rD _ _) _) hgrow (fun q hq _=>hq);have HC3:Hd (lH (.slice la j lcap)=some g3\/(Ext w2 w3/\w2.heap.size<=g3)):=hcase.imp id (fun h=>⟨(lK (lI _) _).trans h.1,by have:=h.2;(try simp at this);omega⟩);have hsz3:=HT3.o.size;clear hown hkept hgrow hcase hlt;have m0:w3.cell? ⟨mb,0,none⟩=some (.int .i64 0):=HT3.o.cell m0 (by intro e;have:=HLB.o mb e;omega);have m1:w3.cell? ⟨mb,1,none⟩=some (.int .i64 0):=HT3.o.cell m1 (by intro e;have:=HLB.o mb e;omega);have m2:w3.cell? ⟨mb,2,none⟩=some (.int .i64 0):=HT3.o.cell m2 (by intro e;have:=HLB.o mb e;omega);have m3:w3.cell? ⟨mb,3,none⟩=some (.int .i64 0):=HT3.o.cell m3 (by intro e;have:=HLB.o mb e;omega);have m4:w3.cell? ⟨mb,4,none⟩=some (.int .i64 mz):=HT3.o.cell m4 (by intro e;have:=HLB.o mb e;omega);have m5:w3.cell? ⟨mb,5,none⟩=some (.int .i64 0):=HT3.o.cell m5 (by intro e;have:=HLB.o mb e;omega);have m6:w3.cell? ⟨mb,6,none⟩=some (.int .i64 0):=HT3.o.cell m6 (by intro e;have:=HLB.o mb e;omega);have y3:w3.cell? ⟨P,8,none⟩=some (.slice ba bn bcap):=HT3.o.cell y2 (by intro e;exact HLP.o e);have HTA:Hd (Turn (fun b=>lH (.slice la j lcap)=some b) w w3):=(((lM HXW.o).trans HT.o).trans HT1.o).trans (HT2.o.trans HT3.o);have HB3:Hd (w3.ownsRow 0 44 1 (.slice ba bn bcap) bn vs):=HTA.o.owns HB.o (fun q hq e=>(HBB.o q hq).2 e);go_wp2_with (at_builtin;refine wpList_append_lies _ rfl _ _ 88 rfl 0 44 k0 _ 1 24 underlying88 hk0 hw0 hw1 hw2 rfl (by decide) (.slice ba bn bcap) bn vs rfl (rE (lK (lI _) _) HB3.o) ⟨_,0,none⟩ 4 4 [.slice la j lcap,.slice (some ⟨g1,0,none⟩) (j+1) cap1,.slice (some ⟨g2,0,none⟩) (j+2) cap2,.slice (some ⟨g3,0,none⟩) (j+3) cap3] rfl rfl (rI (zm (by simp))) (by simp [Value.oneCell']) (by decide) (by unfold maxLen;omega) (by omega) (lT _) _ rfl ?_)
   intro g5 cap5 w5 hown5 hgrow5 hat5 hlt5;have HT5:Hd (Turn (fun b=>lH (.slice ba bn bcap)=some b) w3 w5):=rJ (Turn.alloc (rD _ _) _) hgrow5 (fun q hq _=>hq);have HO5:=hid hown5;have HAT:Hd (lH (.slice ba bn bcap)=some g5\/w3.heap.size<g5+1):=hat5.imp id (fun h=>by(try simp at h);omega);have y5:w5.cell? ⟨P,8,none⟩=some (.slice ba bn bcap):=HT5.o.cell y3 (by intro e;exact HBP.o e);have hP5:w5.heap[P]?=some (.cells pcs 94 (0,0)):=HT5.o.ref (HTA.o.ref HP.o (fun e=>HLP.o e)) (fun e=>HBP.o e);have f5:=ze hP5 8;have HP5:Hd _:=hP5;have hPl5:=lG w5 _ y5;clear hown5 hgrow5 hat5 hP5;go_wp2;go_end0;have hbn:=HBN.o;obtain⟨hps,hpb,hGP⟩:=HPS.o;have hsz5:=HT5.o.size;have hszA:=HTA.o.size;have hA1:xs.length=j*7:=HR0.o.1;have hm1:=HMR.o.snoc rfl hA1;have hm2:=hm1.snoc rfl (by rw [lW,hA1,rO];rfl);have hm3:=hm2.snoc rfl (by rw [lW,lW,hA1,rO,rO];rfl);have r1:MkAt w1 7 [.int .i64 0,.int .i64 0,.int .i64 0,.int .i64 0,.int .i64 mz,.int .i64 0,.int .i64 0] g1 (j+1):=Zn HR1.o hm1;have r2:MkAt w2 7 [.int .i64 0,.int .i64 0,.int .i64 0,.int .i64 0,.int .i64 mz,.int .i64 0,.int .i64 0] g2 (j+2):=Zn HR2.o (by rw [show xs++[.int .i64 0,.int .i64 0,.int .i64 0,.int .i64 0,.int .i64 mz,.int .i64 0,.int .i64 0,.int .i64 0,.int .i64 0,.int .i64 0,.int .i64 0,.int .i64 mz,.int .i64 0,.int .i64 0]=(xs++[.int .i64 0,.int .i64 0,.int .i64 0,.int .i64 0,.int .i64 mz,.int .i64 0,.int .i64 0])++[.int .i64 0,.int .i64 0,.int .i64 0,.int .i64 0,.int .i64 mz,.int .i64 0,.int .i64 0] by simp];exact hm2);have r3:MkAt w3 7 [.int .i64 0,.int .i64 0,.int .i64 0,.int .i64 0,.int .i64 mz,.int .i64 0,.int .i64 0] g3 (j+3):=Zn HR3.o (by rw [show xs++[.int .i64 0,.int .i64 0,.int .i64 0,.int .i64 0,.int .i64 mz,.int .i64 0,.int .i64 0,.int .i64 0,.int .i64 0,.int .i64 0,.int .i64 0,.int .i64 mz,.int .i64 0,.int .i64 0,.int .i64 0,.int .i64 0,.int .i64 0,.int .i64 0,.int .i64 mz,.int .i64 0,.int .i64 0]=((xs++[.int .i64 0,.int .i64 0,.int .i64 0,.int .i64 0,.int .i64 mz,.int .i64 0,.int .i64 0])++[.int .i64 0,.int .i64 0,.int .i64 0,.int .i64 0,.int .i64 mz,.int .i64 0,.int .i64 0])++[.int .i64 0,.int .i64 0,.int .i64 0,.int .i64 0,.int .i64 mz,.int .i64 0,.int .i64 0] by simp];exact hm3)
   have r1':=(r1.app (by omega) r2 HT2.o HC2.o).app (by omega) r3 HT3.o HC3.o;have r2':=r2.app (by omega) r3 HT3.o HC3.o;obtain⟨w6,hw6⟩:∃w6,w5.setCell ⟨P,8,none⟩ (.slice (some ⟨g5,0,none⟩) (bn+4) cap5)=w6:=⟨_,rfl⟩
   have hT6:Turn (fun b=>b=P\/lH (.slice ba bn bcap)=some b) w3 w6:=by rw [<-hw6];exact lQ (S:=fun b=>b=P\/lH (.slice ba bn bcap)=some b) (p:=⟨P,8,none⟩) (HT5.o.mono (fun _ _ e=>.inr e)) (fun _=>.inl rfl) _
   have hP6:w6.heap[P]?=some (.cells (pcs.setIfInBounds 8 (.slice (some ⟨g5,0,none⟩) (bn+4) cap5)) 94 (0,0)):=by rw [<-hw6];exact zg HP5.o _
   have hg5P:g5≠P:=by
    rcases HAT.o with h|h
    ·exact fun e=>HBP.o (by rw [<-e];exact h)
    ·omega
   have hO6:=zi HO5.o (a:=⟨P,8,none⟩) (by simpa [lH] using hg5P) (.slice (some ⟨g5,0,none⟩) (bn+4) cap5);rw [hw6] at hO6;have hsz6:w6.heap.size=w5.heap.size:=by rw [<-hw6];simp
   rw [hw6]
   -- where the new lists lie
   have hwh:∀g nn cc,(∃xx w',(w'=w1\/w'=w2\/w'=w3)/\lR w' base 116 7 (.slice (some ⟨g,0,none⟩) nn cc) nn xx)->(lH (.slice la j lcap)=some g\/w.heap.size<=g)->g<w3.heap.size/\(lH (.slice la j lcap)=some g\/w.heap.size<=g):=fun g nn cc ⟨xx,w',hw',hoo⟩ hc=>⟨by
    have:=zx hoo (g:=g) rfl;have:=HT2.o.size;have:=HT3.o.size;rcases hw' with e|e|e<;>(subst e;omega),hc⟩
   have q1:=hwh g1 _ _ ⟨_,w1,.inl rfl,HR1.o⟩ (HC1.o.imp id (fun h=>by have:=h.2;omega));have q2:=hwh g2 _ _ ⟨_,w2,.inr (.inl rfl),HR2.o⟩ (HC2.o.imp id (fun h=>by have:=h.2;omega));have q3:=hwh g3 _ _ ⟨_,w3,.inr (.inr rfl),HR3.o⟩ (HC3.o.imp id (fun h=>by have:=h.2;omega));have hnn:∀g,(lH (.slice la j lcap)=some g\/w.heap.size<=g)->¬(g=P\/lH (.slice ba bn bcap)=some g):=fun g hg hor=>by
    rcases hor with e|e
    ·rcases hg with h|h
     ·exact HLP.o (by rw [<-e];exact h)
     ·omega
    ·rcases hg with h|h
     ·exact(HBB.o g e).2 h
     ·have:=(HBB.o g e).1;omega
   have hne5:∀g,(∃cur,w3.heap[g]?=some (.cells cur 116 (0,0)))->g≠g5:=fun g ⟨cur,hc⟩ e=>by
    subst e;rcases HAT.o with h|h
    ·obtain⟨cur2,hc2⟩:=zf HB3.o h;exact zh hc hc2 (by decide) rfl
    ·have:=(Array.getElem?_eq_some_iff.1 hc).1;omega
   have n1:=hne5 g1 (ya (ya (zf HR1.o (g:=g1) rfl) HT2.o HK2.o) HT3.o HK3.o);have n2:=hne5 g2 (ya (zf HR2.o (g:=g2) rfl) HT3.o HK3.o);have n3:=hne5 g3 (zf HR3.o (g:=g3) rfl);refine⟨rfl,.slice (some ⟨g5,0,none⟩) (bn+4) cap5,hP6,⟨fun q=>G q\/lH (.slice la j lcap)=some q\/(w.heap.size<=q/\q<w6.heap.size/\q≠g5),fun q hq=>.inl hq,fun q hq=>?_,fun q hq=>?_,?_,?_⟩,fun q hq=>?_,?_⟩
   ·rcases hq with hq|hq|hq
    ·exact .inl hq
    ·exact .inr (.inl hq)
    ·exact .inr (.inr ⟨by have:=hq.1;omega,hq.2.1⟩)
   ·have hq5:g5=q:=by simpa [lH] using hq
    subst hq5;rintro (hq|hq|hq)
    ·rcases HAT.o with h|h
     ·exact HG2.o _ h hq
     ·have:=HG3.o _ hq;omega
    ·rcases HAT.o with h|h
     ·exact(HBB.o _ h).2 hq
     ·have:=HLB.o _ hq;omega
    ·exact hq.2.2 rfl
   ·rintro (hq|hq|hq)
    ·exact hGP hq
    ·exact HLP.o hq
    ·omega
   ·have hmk:∀g nn cc,MkAt w3 7 [.int .i64 0,.int .i64 0,.int .i64 0,.int .i64 0,.int .i64 mz,.int .i64 0,.int .i64 0] g nn->nn<=200000000->(g<w3.heap.size/\(lH (.slice la j lcap)=some g\/w.heap.size<=g))->g≠g5->Marked w6 (fun q=>G q\/lH (.slice la j lcap)=some q\/(w.heap.size<=q/\q<w6.heap.size/\q≠g5)) 7 (mkS m) (.slice (some ⟨g,0,none⟩) nn cc):=fun g nn cc hmm hnb hg hg5=>by
     refine⟨some ⟨g,0,none⟩,nn,cc,rfl,hnb,.inr ⟨g,rfl,?_,?_⟩⟩
     ·rcases hg.2 with h|h
      ·exact .inr (.inl h)
      ·exact .inr (.inr ⟨h,by omega,hg5⟩)
     ·rw [HMZ.o];exact hmm.turn hT6 (hnn g hg.2)
    refine BookRow.keep (vs:=vs) (by rw [hbn];have:=HB.o.1;omega) (fun k hk=>?_) (by rw [hbn];exact hO6) ?_ (hmk g1 _ _ r1' (by omega) q1 n1) (hmk g2 _ _ r2' (by omega) q2 n2) (hmk g3 _ _ r3 (by omega) q3 n3)
    ·refine(((HV.o k hk).turn HTA.o (fun b hb e=>HG1.o b e hb)).turn hT6 (fun b hb hor=>?_)).mono (fun q hq=>.inl hq);rcases hor with e|e
     ·exact hGP (by rw [<-e];exact hb)
     ·exact HG2.o b e hb
    ·refine⟨la,j,lcap,rfl,by omega,?_⟩;rcases zw HK3.o with⟨_,h2,_⟩|⟨g,c,h1,_⟩
     ·exact .inl h2
     ·injection h1 with e1 _ e3
      subst e1;refine .inr ⟨g,rfl,.inr (.inl rfl),?_⟩;rw [HMZ.o];exact(Zn HK3.o HMR.o).turn hT6 (hnn g (.inl rfl))
   ·have hq5:g5=q:=by simpa [lH] using hq
    subst hq5;rcases HAT.o with h|h
    ·exact .inl h
    ·exact .inr (by omega)
   ·exact(HTA.o.mono (fun b _ e=>.inr (.inr e))).trans' hT6 (fun b _ e=>e.elim (fun e=>.inl e) (fun e=>.inr (.inl e)))
end
end Go.Proofs.YtmnjhhachdlmkaaGreat
