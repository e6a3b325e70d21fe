import Derived.Test.YtmnjhhachdlmkaaGreatK10
namespace Go.Proofs.YtmnjhhachdlmkaaGreat
set_option linter.all false
set_option maxRecDepth 100000
set_option maxHeartbeats 3200000
open Tryz
open List renaming flatten_cons -> sP, getElem_of_mem -> sK, getElem?_eq_getElem -> lZ, length_set -> rK, length_append -> lW, getElem?_set_self -> sA, getElem_set_self -> sQ, getElem?_set_ne -> lU, getD_eq_getElem?_getD -> rT
open World renaming alloc -> lP, ownsRow -> lR, setCell -> rC, news_of_block -> rI, cell?_setCell_far -> lX
open Turn renaming setCell -> lQ, of_ext -> lM, grown -> rJ
open AllReadyH renaming cons -> sD
open Ext renaming drew -> lJ, refl -> lI, alloc -> lK, grown -> rG, setCell -> rF
open Nat renaming le_trans -> rH, le_refl -> lO, zero_le -> lT, mul_le_mul -> rN
open Int renaming natCast_mul -> rQ
open Go.RowKit Go.Maps
open List renaming getElem_toArray -> lA, getElem_cons_succ -> lB, getElem_cons_zero -> lC, setIfInBounds_toArray -> lD, set_cons_zero -> lE, set_cons_succ -> lF
open World renaming block_lt_of_cell? -> lG
open Value renaming ownBlock -> lH
section
def Stk.lend (x:Stk)(c:Nat):Stk:={ x with leased:=x.leased+c }
theorem QI {css:List (List Value)}(h7:∀c∈css,c.length=7)(j:Nat)(i:Nat)(hi:i<7){cs:List Value}(hcs:css[j]?=some cs)(v:Value):(css.set j (cs.set i v)).flatten=css.flatten.set (j*7+i) v:=by
 induction css generalizing j with
 | nil=>simp at hcs
 | cons c t ih=>
  have hc:=h7 c (by simp);cases j with
  | zero=>
   simp at hcs;subst hcs;simp [List.set_append_left _ _ (show i<c.length by omega)]
  | succ j=>
   simp at hcs;rw [lF,sP,sP,List.set_append_right _ _ (by omega),hc,show (j+1)*7+i - 7=j*7+i by omega,ih (fun c hc=>h7 c (by simp [hc])) j hcs]
theorem qR {css:List (List Value)}{S:List Stk}{w:World}{G:Nat->Prop}(hl:css.length=S.length)(h:∀i (h:i<S.length),∃cs,css[i]?=some cs/\RefStk w G S[i] cs):∀c∈css,c.length=7:=fun c hc=>by
 obtain⟨q,hq,rfl⟩:=sK hc;obtain⟨cs',k1,tv,vs,k2,_⟩:=h q (by omega);rw [lZ hq] at k1;injection k1 with k1
 rw [k1,k2];rfl
theorem VS {G:Nat->Prop}(p ix c:Nat)(S:List Stk)(ls:List LsV)(kk s i kd m k n f pp:Int)(hS:S.length<=100)(hSm:∀x∈S,x.ts.length<=1000/\x.leased<=1000)(hls:ls.length<=900)(hf:ls.findIdx? (zE s i)=none)(hix:ix<S.length)(hfx:S.findIdx? (fun x=>x.is kd m k n)=some ix)(hcd:zV S ls kd m k n c=0)(w:World)(hGl:∀b,G b->b<w.heap.size)(h:RefAt w G p S ls) :
  Calls Tryz.prog 177 #[.pointer (some ⟨p,0,none⟩),zN kk s i kd m k n f c pp] w fun e w'=>∃q,e=.returned (.tuple #[.pointer (some ⟨q,0,none⟩),zr 0 S[ix].leased c (.slice none 0 0)])/\RefAt w' (ZO G w w') q (S.set ix (S[ix].lend c)) (ls++[⟨s,i,kd,m,k,n,S[ix].leased,c,false⟩])/\Ext w w':=by
 obtain⟨hcc,hfew,hfull⟩:¬((c:Int)<1\/40<(c:Int))/\¬((S[ix].ts.length:Int) - S[ix].leased<c)/\¬30<=ls.length:=by
  obtain⟨_,hfi⟩:=zU hfx;unfold zV at hcd;rw [hfi] at hcd;simp only at hcd;split at hcd
  ·simp at hcd
  ·rename_i h1
   split at hcd
   ·simp at hcd
   ·rename_i h2
    split at hcd
    ·simp at hcd
    ·rename_i h3
     exact⟨h1,h2,h3⟩
 have hc1:¬(c:Int)<1:=by omega
 have hc2:¬40<(c:Int):=by omega
 clear hcc hcd;have HL:Hd (∀w',Ext w w'->Calls Tryz.prog 187 #[.pointer (some ⟨p,0,none⟩),.int .i64 s,.int .i64 i] w' fun e w''=>e=.returned (.int .i64 (-1))/\Ext w' w''):=fun w' hx=>by have:=YE p S ls s i (by omega) w' (h.ext hx);rw [hf] at this;exact this
 have HFi:Hd (∀w',Ext w w'->Calls Tryz.prog 147 #[.pointer (some ⟨p,0,none⟩),.agg #[.int .i64 kd,.int .i64 m,.int .i64 k,.int .i64 n]] w' fun e w''=>e=.returned (.int .i64 (ix:Int))/\Ext w' w''):=fun w' hx=>by have:=yB p S ls kd m k n hS w' (h.ext hx);rw [hfx] at this;exact this
 have HCp:Hd (∀w',Ext w w'->_):=fun w' hx=>qT p S ls hS (by omega) w' (h.ext hx)
 obtain⟨stv,lsv,css0,h1,h2,h3,h4,h5,h6⟩:=h;have c0:w.cell? ⟨p,0,none⟩=some stv:=zc h1 rfl;have c1:w.cell? ⟨p,1,none⟩=some lsv:=zc h1 rfl;obtain⟨la,lcap,rfl⟩:=h6.slice;have hp:p<w.heap.size:=lG w _ c1;obtain⟨g,cap,ta,tcap,vs,rfl,hcap,_,⟨s0,s1,s2,s3,s4,s5,s6⟩,q1,q2,q3⟩:=Yw h3 h4 h5 ix hix;clear q1 q2 q3;obtain⟨hm1,hm2⟩:=hSm S[ix] (List.getElem_mem hix);have hgl:=lG w _ s0;obtain⟨len,hlen⟩:∃len,S.length=len:=⟨_,rfl⟩
 obtain⟨len2,hlen2⟩:∃len,ls.length=len:=⟨_,rfl⟩
 obtain⟨sl,hsl⟩:∃sl,S[ix].leased=sl:=⟨_,rfl⟩
 have HE:Hd (S.length=len/\ls.length=len2/\S[ix].leased=sl):=⟨hlen,hlen2,hsl⟩
 have HIX:=hid hix;have HG:=hid hGl;rw [hlen] at c0 hcap hix hS;rw [hlen2] at c1 hls hfull;rw [hsl] at s5 hfew hm2;have hk0:(0:Int)<=(ix:Int):=by omega
 have hk1:(ix:Int)<len:=by omega
 clear hf hfx h1 h2 h3 h4 h5 h6 hlen hlen2 hSm hsl hGl;generalize S[ix].gone=sg at *;generalize S[ix].ts.length=tn at *;generalize (S[ix].kd:Int)=x0 at *;generalize (S[ix].m:Int)=x1 at *;generalize (S[ix].k:Int)=x2 at *;generalize (S[ix].n:Int)=x3 at *;unfold zr;unfold zN;go_enter func177,ntmps177;go_wp2_with fail
 have hres0:=zf2 w kk s i kd m k n f c pp;have hreq0:=zf4 w kk s i kd m k n f c pp;have hXW:=zf3 w kk s i kd m k n f c pp;generalize lP (lP w _) _=W at hres0 hreq0 hXW ⊢;refine(HL.o W hXW).mono ?_;rintro e w1 ⟨rfl,hx1⟩;have HX1:Hd (Ext w w1):=hXW.trans hx1;have HRS:Hd _:=hx1.block hres0;have HRQ:Hd _:=hx1.block hreq0;clear hx1 hXW hres0 hreq0;have r1:w1.cell? ⟨w.heap.size,1,none⟩=some (.int .i64 s):=zc HRQ.o rfl;have r2:w1.cell? ⟨w.heap.size,2,none⟩=some (.int .i64 i):=zc HRQ.o rfl;have r3:w1.cell? ⟨w.heap.size,3,none⟩=some (.int .i64 kd):=zc HRQ.o rfl;have r4:w1.cell? ⟨w.heap.size,4,none⟩=some (.int .i64 m):=zc HRQ.o rfl;have r5:w1.cell? ⟨w.heap.size,5,none⟩=some (.int .i64 k):=zc HRQ.o rfl;have r6:w1.cell? ⟨w.heap.size,6,none⟩=some (.int .i64 n):=zc HRQ.o rfl;have r8:w1.cell? ⟨w.heap.size,8,none⟩=some (.int .i64 c):=zc HRQ.o rfl;have hrl:=lG w1 _ r1;go_wp2_with fail
 refine(HFi.o _ HX1.o).mono ?_;rintro e w2 ⟨rfl,hx2⟩;have HR2:Hd _:=hx2.block HRS.o;have HQ2:Hd _:=hx2.block HRQ.o;have HX2:Hd (Ext w w2):=HX1.o.trans hx2;have r8:=hx2.cell r8;have c0:=HX2.o.cell c0;have c1:=HX2.o.cell c1;have s0:=HX2.o.cell s0;have s1:=HX2.o.cell s1;have s2:=HX2.o.cell s2;have s3:=HX2.o.cell s3;have s4:=HX2.o.cell s4;have s5:=HX2.o.cell s5;have s6:=HX2.o.cell s6;have hl2:=HX2.o.le;have hrl2:=lG w2 _ r8;have hpl2:p<w2.heap.size:=lG w2 _ c1;clear hx2 HL HFi r1 r2 r3 r4 r5 r6;go_wp2_with fail
 have hz2:(w2.alloc (.cells #[.int .i64 x0,.int .i64 x1,.int .i64 x2,.int .i64 x3,.slice ta tn tcap,.int .i64 sl,.int .i64 sg] 198)).heap[w2.heap.size]?=some (.cells #[.int .i64 x0,.int .i64 x1,.int .i64 x2,.int .i64 x3,.slice ta tn tcap,.int .i64 sl,.int .i64 sg] 198 (0,0)):=heap_alloc_new _ _;refine(HCp.o _ (HX2.o.alloc _)).mono ?_;rintro e w3 ⟨q,v1,v2,css,rfl,q1,q2,q3,q4,q5,q6,hx3,q7,q8⟩;obtain⟨zb,hzb⟩:∃zb,w2.heap.size=zb:=⟨_,rfl⟩
 have HZ3:Hd (w3.heap[zb]?=some (.cells #[.int .i64 x0,.int .i64 x1,.int .i64 x2,.int .i64 x3,.slice ta tn tcap,.int .i64 sl,.int .i64 sg] 198 (0,0))):=by rw [<-hzb];exact hx3.block hz2
 have HR3:=hid (hx3.block (zC HR2.o));have HQ3:=hid (hx3.block (zC HQ2.o));have HX3:Hd (Ext w w3):=(HX2.o.alloc _).trans hx3;simp only [lP,Array.size_push] at q2 q3 q6;rw [HE.o.1] at q2 q7;rw [HE.o.2.1] at q3 q8;rw [hzb] at q2 q3 q6 hl2 hpl2 hrl2 ⊢;clear hx3 hz2 c0 c1 s0 s1 s2 s3 s4 s5 s6 r8 HR2 HQ2;obtain⟨g1,cap1,rfl,hg1w,hcap1,_⟩:∃g cap,v1=.slice (some ⟨g,0,none⟩) len cap/\zb+1<=g/\len<=cap/\cap<=maxLen:=by
  rcases zw q2 with⟨_,hn,_⟩|h
  ·omega
  ·exact h
 obtain⟨v2a,v2c,hv2⟩:=zo q3;have y0:w3.cell? ⟨q,0,none⟩=some (.slice (some ⟨g1,0,none⟩) len cap1):=zc q1 rfl;have hixE:ix<S.length:=HIX.o;have q5':∀i (h:i<S.length),∃cs,css[i]?=some cs/\RefStk w3 G S[i] cs:=fun i hi=>q5 i hi
 obtain⟨cs,hcs,tv,tvs,hcsE,htv⟩:=q5' ix hixE;have HTV:Hd _:=htv;clear htv;have b5:w3.cell? ⟨g1,ix*7+5,none⟩=some (.int .i64 sl):=zk q2 ((y9 q4 q5' ix hixE 5 (by omega) hcs).trans (by rw [hcsE,HE.o.2.2];rfl));have hcsE5:cs.set 5 (.int .i64 ((sl+c:Nat):Int))=[.int .i64 (S[ix].lend c).kd,.int .i64 (S[ix].lend c).m,.int .i64 (S[ix].lend c).k,.int .i64 (S[ix].lend c).n,tv,.int .i64 (S[ix].lend c).leased,.int .i64 (S[ix].lend c).gone]:=by rw [hcsE];simp [Stk.lend,HE.o.2.2,Stk.gone]
 have f5:w3.frozen? ⟨g1,ix*7+5,none⟩=false:=by obtain⟨cur,hc⟩:=zf q2 (g:=g1) rfl;exact ze hc _
 have hg1l:=lG w3 _ b5;have hql:=lG w3 _ y0;have r8:w3.cell? ⟨w.heap.size,8,none⟩=some (.int .i64 c):=zc HQ3.o rfl;have z5:w3.cell? ⟨zb,5,none⟩=some (.int .i64 sl):=zc HZ3.o rfl;have hne1:g1≠q:=by obtain⟨cur,hc⟩:=zf q2 (g:=g1) rfl;exact fun e=>zh q1 hc (by decide) e.symm
 have HCS:Hd _:=And.intro hcs hcsE5;have HQQ:Hd _:=And.intro q1 (And.intro q2 (And.intro q3 (And.intro q4 (And.intro q5' (And.intro q7 q8)))));clear q1 q2 q3 q4 q5 q5' q7 q8 hcs hcsE hcsE5;go_wp2_with fail
 go_region
 obtain⟨i0,hi,hz0,hz1,hz2⟩:=info_parts Y5;have hT34:Turn (fun b=>b=g1) w3 ((w3.setCell ⟨g1,ix*7+5,none⟩ (.int .i64 ((sl:Int)+c))).drew):=Turn.drew (lQ (S:=fun b=>b=g1) (p:=⟨g1,ix*7+5,none⟩) (Turn.refl _ w3) (fun _=>rfl) _);have hO1:((w3.setCell ⟨g1,ix*7+5,none⟩ (.int .i64 ((sl:Int)+c))).drew).ownsRow (zb+1) 198 7 (.slice (some ⟨g1,0,none⟩) len cap1) len (css.set ix (cs.set 5 (.int .i64 ((sl+c:Nat):Int)))).flatten:=by rw [QI (qR HQQ.o.2.2.2.1 HQQ.o.2.2.2.2.1) ix 5 (by omega) HCS.o.1];exact lR.drew (zI HQQ.o.2.1 _ _)
 generalize World.drew (rC w3 _ _)=w4 at hT34 hO1 ⊢;obtain⟨cur1,hcur1⟩:=zf HQQ.o.2.1 (g:=g1) rfl;have HB4:Hd (w4.heap[q]?=some (.cells #[.slice (some ⟨g1,0,none⟩) len cap1,v2] 98 (0,0))):=hT34.ref HQQ.o.1 (fun e=>hne1 e.symm);have HV4:Hd (w4.ownsRow (zb+1) 56 9 v2 len2 (zu ls)):=hT34.owns HQQ.o.2.2.1 (fun b hb e=>by obtain⟨cur',hc'⟩:=zf HQQ.o.2.2.1 hb;exact zh hc' hcur1 (by decide) e)
 have HR4:Hd (w4.heap[w.heap.size+1]?=some (.cells #[.int .i64 0,.int .i64 0,.int .i64 0,.slice none 0 0] 33 (0,0))):=hT34.ref HR3.o (fun e=>zh HR3.o hcur1 (by decide) e);have HQ4:Hd (w4.heap[w.heap.size]?=some (.cells #[.int .i64 kk,.int .i64 s,.int .i64 i,.int .i64 kd,.int .i64 m,.int .i64 k,.int .i64 n,.int .i64 f,.int .i64 c,.int .i64 pp] 51 (0,0))):=hT34.ref HQ3.o (fun e=>zh HQ3.o hcur1 (by decide) e);have HZ4:Hd (w4.heap[zb]?=some (.cells #[.int .i64 x0,.int .i64 x1,.int .i64 x2,.int .i64 x3,.slice ta tn tcap,.int .i64 sl,.int .i64 sg] 198 (0,0))):=hT34.ref HZ3.o (fun e=>by omega);have HT34:Hd _:=hT34;have HO1:Hd _:=hO1;have r1:w4.cell? ⟨w.heap.size,1,none⟩=some (.int .i64 s):=zc HQ4.o rfl;have r2:w4.cell? ⟨w.heap.size,2,none⟩=some (.int .i64 i):=zc HQ4.o rfl;have r3:w4.cell? ⟨w.heap.size,3,none⟩=some (.int .i64 kd):=zc HQ4.o rfl;have r4:w4.cell? ⟨w.heap.size,4,none⟩=some (.int .i64 m):=zc HQ4.o rfl;have r5:w4.cell? ⟨w.heap.size,5,none⟩=some (.int .i64 k):=zc HQ4.o rfl;have r6:w4.cell? ⟨w.heap.size,6,none⟩=some (.int .i64 n):=zc HQ4.o rfl;have r8:w4.cell? ⟨w.heap.size,8,none⟩=some (.int .i64 c):=zc HQ4.o rfl;have z5:w4.cell? ⟨zb,5,none⟩=some (.int .i64 sl):=zc HZ4.o rfl;have hql4:q<w4.heap.size:=(Array.getElem?_eq_some_iff.1 HB4.o).1;have hzl4:=lG w4 _ z5;have hsz4:=hT34.size;have HN2:Hd (∀b,v2.ownBlock=some b->b≠w.heap.size/\b≠zb/\b≠q/\zb+1<=b/\b≠g1/\b≠w.heap.size+1):=fun b hb=>by
  obtain⟨cur',hc'⟩:=zf HV4.o hb;have hb1:=(lR.lt HV4.o b hb).1;obtain⟨cur1',hcur1'⟩:=zf HO1.o (g:=g1) rfl;exact⟨by omega,by omega,zh hc' HB4.o (by decide),hb1,zh hc' hcur1' (by decide),by omega⟩
 have y1:w4.cell? ⟨q,1,none⟩=some v2:=zc HB4.o rfl;clear hT34 hO1 b5 f5 y0 hcur1 HRS HRQ;subst hv2;go_wp2_with fail
 have SD:Hd (∀w',Turn (fun b=>lH (.slice v2a len2 v2c)=some b) w4 w'->(fun w'=>w'.cell? ⟨w.heap.size,1,none⟩=some (.int .i64 s)/\w'.cell? ⟨w.heap.size,2,none⟩=some (.int .i64 i)/\w'.cell? ⟨w.heap.size,3,none⟩=some (.int .i64 kd)/\w'.cell? ⟨w.heap.size,4,none⟩=some (.int .i64 m)/\w'.cell? ⟨w.heap.size,5,none⟩=some (.int .i64 k)/\w'.cell? ⟨w.heap.size,6,none⟩=some (.int .i64 n)/\w'.cell? ⟨w.heap.size,8,none⟩=some (.int .i64 c)/\w'.cell? ⟨zb,5,none⟩=some (.int .i64 sl)) w'):=fun w' hx=>by
  have f0:¬lH (.slice v2a len2 v2c)=some w.heap.size:=fun e=>(HN2.o _ e).1 rfl
  have f1:¬lH (.slice v2a len2 v2c)=some zb:=fun e=>(HN2.o _ e).2.1 rfl
  exact⟨hx.cell r1 f0,hx.cell r2 f0,hx.cell r3 f0,hx.cell r4 f0,hx.cell r5 f0,hx.cell r6 f0,hx.cell r8 f0,hx.cell z5 f1⟩
 refine wp_region_held_drew (S:=(fun w'=>w'.cell? ⟨w.heap.size,1,none⟩=some (.int .i64 s)/\w'.cell? ⟨w.heap.size,2,none⟩=some (.int .i64 i)/\w'.cell? ⟨w.heap.size,3,none⟩=some (.int .i64 kd)/\w'.cell? ⟨w.heap.size,4,none⟩=some (.int .i64 m)/\w'.cell? ⟨w.heap.size,5,none⟩=some (.int .i64 k)/\w'.cell? ⟨w.heap.size,6,none⟩=some (.int .i64 n)/\w'.cell? ⟨w.heap.size,8,none⟩=some (.int .i64 c)/\w'.cell? ⟨zb,5,none⟩=some (.int .i64 sl))) (by kernel_rfl) ⟨r1,r2,r3,r4,r5,r6,r8,z5⟩ (fun hHeld=>?_);refine zT 0 hHeld ?_;refine zT 1 hHeld ?_;refine zT 2 hHeld ?_;refine zT 3 hHeld ?_;refine zT 5 hHeld ?_;refine zT 6 hHeld ?_;refine zT 7 hHeld ?_;refine zT 8 hHeld ?_;refine zT 9 hHeld ?_;refine zT 10 hHeld ?_;refine zT 11 hHeld ?_;refine zT 12 hHeld ?_;refine zT 13 hHeld ?_;refine zT 14 hHeld ?_;refine zT 15 hHeld ?_;refine wpAnyH_ready (rs:=[4,16]) (by kernel_rfl) (by simp) ?_;refine sD (o:=_) rfl (fun K hK=>?_) (sD (o:=_) rfl (fun K hK=>?_) AllReadyH.nil)
 ·skip
  (try simp only [lA,lB,lC])
  go_simp;refine hK.out _ _ ?hs1 (fun hHeld=>?_)
  case hs1=>exact SD.o _ (lM (lJ (lI _)))
  clear hK K
  try simp only [Act.put,lA,lB,lC,lD,lE,lF]
  refine zR 16 fun K hK=>?_
  (try simp only [lA,lB,lC])
  go_simp;refine hK.out _ _ ?hs2 (fun hHeld=>?_)
  case hs2=>exact SD.o _ (lM (lJ (lK (lI _) _)))
  clear hK K
  try simp only [Act.put,lA,lB,lC,lD,lE,lF]
  refine zR 17 fun K hK=>?_
  refine step_append_lies _ (by rfl) _ _ 38 (by rfl) (zb+1) 56 i0 _ 9 72 underlying38 hi hz0 hz1 hz2 (by rfl) (by decide) (.slice v2a len2 v2c) len2 (zu ls) (by rfl) (Ext.owns (lJ (lK (lI _) _)) HV4.o) ⟨_,0,none⟩ 1 1 (LsV.cells ⟨s,i,kd,m,k,n,sl,c,false⟩) (by rfl) (by rfl) (rI (zy (heap_alloc_new _ _))) (by simp [Value.oneCell',LsV.cells]) (by decide) (by unfold maxLen;omega) (by omega) (rH (show zb+1<=w4.heap.size by omega) (Ext.le (lJ (lK (lI _) _)))) _ rfl ?_;intro g cap w5 hown5 hgrow5 hat5 hlt5;have HT5:Hd (Turn (fun b=>lH (.slice v2a len2 v2c)=some b) w4 w5):=rJ (lM (lJ (lK (lI _) _))) hgrow5 (fun q hq _=>hq);have HOW:=hid hown5;have HAT:Hd (lH (.slice v2a len2 v2c)=some g\/w4.heap.size<=g):=by
   rcases hat5 with h|h
   ·exact .inl h
   ·exact .inr (by rw [h];exact(lM (lJ (lK (lI _) _)):Turn (fun _=>False) w4 _).size)
  have HB5:Hd (w5.heap[q]?=some (.cells #[.slice (some ⟨g1,0,none⟩) len cap1,.slice v2a len2 v2c] 98 (0,0))):=HT5.o.ref HB4.o (fun e=>(HN2.o _ e).2.2.1 rfl);have y1b:w5.cell? ⟨q,1,none⟩=some (.slice v2a len2 v2c):=zc HB5.o rfl;have f1b:=ze HB5.o 1;refine hK.out _ _ ?hs3 (fun hHeld=>?_)
  case hs3=>exact SD.o _ HT5.o
  clear hK K hown5 hgrow5 hat5
  try simp only [Act.put,lA,lB,lC,lD,lE,lF]
  refine zT 18 hHeld ?_;refine zT 19 hHeld ?_;refine zR 20 fun K hK=>?_
  (try simp only [lA,lB,lC])
  go_simp;refine hK.out _ _ ?hs4 (fun hHeld=>?_)
  case hs4=>
   have hnw:q≠w.heap.size:=by omega
   have hnz:q≠zb:=by omega
   obtain⟨s0,s1,s2,s3,s4,s5,s6,s7⟩:=SD.o _ HT5.o;exact⟨(lX _ _ _ _ hnw).trans s0,(lX _ _ _ _ hnw).trans s1,(lX _ _ _ _ hnw).trans s2,(lX _ _ _ _ hnw).trans s3,(lX _ _ _ _ hnw).trans s4,(lX _ _ _ _ hnw).trans s5,(lX _ _ _ _ hnw).trans s6,(lX _ _ _ _ hnz).trans s7⟩
  clear hK K
  try simp only [Act.put,lA,lB,lC,lD,lE,lF]
  refine wpAnyH_done (by kernel_rfl) ?_ _;have r8:=hHeld.2.2.2.2.2.2.1;have z5:=hHeld.2.2.2.2.2.2.2;have HG5:Hd (g≠q/\zb+1<=g/\g≠g1/\g≠w.heap.size+1):=by
   rcases HAT.o with h|h
   ·have:=HN2.o _ h;exact⟨this.2.2.1,this.2.2.2.1,this.2.2.2.2.1,this.2.2.2.2.2⟩
   ·exact⟨by omega,by omega,by omega,by omega⟩
  have hO2:(w5.setCell ⟨q,1,none⟩ (.slice (some ⟨g,0,none⟩) (len2+1) cap)).ownsRow (zb+1) 56 9 (.slice (some ⟨g,0,none⟩) (len2+1) cap) (len2+1) (zu (ls++[⟨s,i,kd,m,k,n,sl,c,false⟩])):=by
   rw [yQ];have e1:zu [⟨s,i,kd,m,k,n,sl,c,false⟩]=LsV.cells ⟨s,i,kd,m,k,n,sl,c,false⟩:=by simp [zu]
   rw [e1];exact zi HOW.o (by simpa [lH] using HG5.o.1) _
  have hB6:(w5.setCell ⟨q,1,none⟩ (.slice (some ⟨g,0,none⟩) (len2+1) cap)).heap[q]?=some (.cells #[.slice (some ⟨g1,0,none⟩) len cap1,.slice (some ⟨g,0,none⟩) (len2+1) cap] 98 (0,0)):=zg HB5.o _;have hT6:Turn (fun b=>b=q\/lH (.slice v2a len2 v2c)=some b) w4 (w5.setCell ⟨q,1,none⟩ (.slice (some ⟨g,0,none⟩) (len2+1) cap)):=lQ (S:=fun b=>b=q\/lH (.slice v2a len2 v2c)=some b) (p:=⟨q,1,none⟩) (HT5.o.mono (fun _ _ e=>.inr e)) (fun _=>.inl rfl) _;generalize rC w5 _ _=w6 at hO2 hB6 hT6 r8 z5 ⊢;have hR6:w6.heap[w.heap.size+1]?=some (.cells #[.int .i64 0,.int .i64 0,.int .i64 0,.slice none 0 0] 33 (0,0)):=hT6.ref HR4.o (by
   rintro (e|e)
   ·omega
   ·exact(HN2.o _ e).2.2.2.2.2 rfl)
  have o0:w6.cell? ⟨w.heap.size+1,0,none⟩=some (.int .i64 0):=zc hR6 rfl;have o1:w6.cell? ⟨w.heap.size+1,1,none⟩=some (.int .i64 0):=zc hR6 rfl;have o2:w6.cell? ⟨w.heap.size+1,2,none⟩=some (.int .i64 0):=zc hR6 rfl;have o3:w6.cell? ⟨w.heap.size+1,3,none⟩=some (.slice none 0 0):=zc hR6 rfl;have t0:=ze hR6 0;have t1:=ze hR6 1;have t2:=ze hR6 2;have t3:=ze hR6 3;have hne2:w.heap.size+1≠zb:=by have:=(Array.getElem?_eq_some_iff.1 HR4.o).1;exact fun e=>by have h1:=HR4.o;rw [e] at h1;exact zh h1 HZ4.o (by decide) rfl
  have HF6:Hd _:=And.intro hO2 (And.intro hB6 hT6);have HR6:Hd _:=hR6;clear hO2 hB6 hT6 hHeld y1b f1b y1 r1 r2 r3 r4 r5 r6 hR6;go_wp2_with fail
  go_region
  all_goals go_wp2
  all_goals refine bodyPost_ret (v:=.tuple #[.pointer (some ⟨q,0,none⟩),.agg #[.int .i64 0,.int .i64 sl,.int .i64 c,.slice none 0 0]]) (by simp [results,results177,go_sem,o0,o1,o2,o3]) rfl ⟨q,by rw [HE.o.2.2],?_⟩
  all_goals
   have hTY:=set4 (g:=w.heap.size+1) (lI w6) (.int .i64 0) (.int .i64 sl) (.int .i64 c) (.slice none 0 0);obtain⟨hO2,hB6,hT6⟩:=HF6.o;obtain⟨q1,q2,q3,q4,q5,q7,q8⟩:=HQQ.o;obtain⟨cur1,hcur1⟩:=zf q2 (g:=g1) rfl;have hT3:Turn (fun b=>b=g1\/b=q\/lH (.slice v2a len2 v2c)=some b\/b=w.heap.size+1) w3 _:=((HT34.o.mono (fun b _ e=>.inl e)).trans' (S':=fun b=>b=g1\/b=q\/lH (.slice v2a len2 v2c)=some b\/b=w.heap.size+1) (hT6.mono (fun b _ e=>by rcases e with e|e;exact .inr (.inl e);exact .inr (.inr (.inl e)))) (fun _ _ e=>e)).trans' hTY (fun b _ e=>.inr (.inr (.inr e)));have hlt:w.heap.size<=zb+1:=by omega
   have hgrowG:∀b,G b->¬(b=g1\/b=q\/lH (.slice v2a len2 v2c)=some b\/b=w.heap.size+1):=fun b hb hor=>by
    have hbw:=HG.o b hb;rcases hor with e|e|e|e
    ·omega
    ·omega
    ·have:=(HN2.o _ e).2.2.2.1;omega
    ·omega
   refine⟨YC (css:=css.set ix (cs.set 5 (.int .i64 ((sl+c:Nat):Int)))) (hTY.ref hB6 (fun e=>?_)) (zv (hTY.owns (hT6.owns ?_ ?_) ?_) hlt) (zv (hTY.owns ?_ ?_) hlt) (.inr (by rw [rK];omega)) (.inr (by simp)) (by rw [rK,rK];exact q4) (fun i' hi'=>?_) (by omega),?_⟩
   ·omega
   ·rw [rK,HE.o.1];exact HO1.o
   ·intro b hb hor;simp [lH] at hb;subst hb;rcases hor with e|e
    ·exact hne1 e
    ·exact(HN2.o _ e).2.2.2.2.1 rfl
   ·intro b hb e;simp [lH] at hb;omega
   ·rw [lW,HE.o.2.1,HE.o.2.2];exact hO2
   ·intro b hb e;simp [lH] at hb;subst hb;exact HG5.o.2.2.2 e
   ·have hi2:i'<S.length:=by simpa using hi'
    obtain⟨cs2,m1,m2⟩:=q5 i' hi2;by_cases hii:i'=ix
    ·subst hii;refine⟨cs.set 5 (.int .i64 ((sl+c:Nat):Int)),by rw [sA (by omega)],?_⟩;rw [HCS.o.2,sQ];obtain⟨k1,k2,k3⟩:=HTV.o;refine⟨tv,tvs,rfl,?_,k2,fun i2 hi2=>?_⟩
     ·exact(k1.turn hT3 hgrowG).mono (fun b hb=>.inl hb)
     ·obtain⟨v,n1,n2⟩:=k3 i2 hi2;exact⟨v,n1,(n2.turn hT3 hgrowG).mono (fun b hb=>.inl hb)⟩
    ·refine⟨cs2,by rw [lU (fun e=>hii e.symm)];exact m1,?_⟩;rw [List.getElem_set_ne (fun e=>hii e.symm)];exact(m2.turn hT3 hgrowG).mono (fun b hb=>.inl hb)
   ·exact Turn.ext ((lM (S:=fun _=>False) HX3.o).trans' hT3 (fun b hb hor=>by
     rcases hor with e|e|e|e
     ·omega
     ·omega
     ·have:=(HN2.o _ e).2.2.2.1;omega
     ·omega))
 ·skip
  (try simp only [lA,lB,lC])
  go_simp;refine hK.out _ _ ?hs1 (fun hHeld=>?_)
  case hs1=>exact SD.o _ (lM (lJ (lK (lI _) _)))
  clear hK K
  try simp only [Act.put,lA,lB,lC,lD,lE,lF]
  refine zR 4 fun K hK=>?_
  (try simp only [lA,lB,lC])
  go_simp;refine hK.out _ _ ?hs2 (fun hHeld=>?_)
  case hs2=>exact SD.o _ (lM (lJ (lK (lI _) _)))
  clear hK K
  try simp only [Act.put,lA,lB,lC,lD,lE,lF]
  refine zR 17 fun K hK=>?_
  refine step_append_lies _ (by rfl) _ _ 38 (by rfl) (zb+1) 56 i0 _ 9 72 underlying38 hi hz0 hz1 hz2 (by rfl) (by decide) (.slice v2a len2 v2c) len2 (zu ls) (by rfl) (Ext.owns (lJ (lK (lI _) _)) HV4.o) ⟨_,0,none⟩ 1 1 (LsV.cells ⟨s,i,kd,m,k,n,sl,c,false⟩) (by rfl) (by rfl) (rI (zy (heap_alloc_new _ _))) (by simp [Value.oneCell',LsV.cells]) (by decide) (by unfold maxLen;omega) (by omega) (rH (show zb+1<=w4.heap.size by omega) (Ext.le (lJ (lK (lI _) _)))) _ rfl ?_;intro g cap w5 hown5 hgrow5 hat5 hlt5;have HT5:Hd (Turn (fun b=>lH (.slice v2a len2 v2c)=some b) w4 w5):=rJ (lM (lJ (lK (lI _) _))) hgrow5 (fun q hq _=>hq);have HOW:=hid hown5;have HAT:Hd (lH (.slice v2a len2 v2c)=some g\/w4.heap.size<=g):=by
   rcases hat5 with h|h
   ·exact .inl h
   ·exact .inr (by rw [h];exact(lM (lJ (lK (lI _) _)):Turn (fun _=>False) w4 _).size)
  have HB5:Hd (w5.heap[q]?=some (.cells #[.slice (some ⟨g1,0,none⟩) len cap1,.slice v2a len2 v2c] 98 (0,0))):=HT5.o.ref HB4.o (fun e=>(HN2.o _ e).2.2.1 rfl);have y1b:w5.cell? ⟨q,1,none⟩=some (.slice v2a len2 v2c):=zc HB5.o rfl;have f1b:=ze HB5.o 1;refine hK.out _ _ ?hs3 (fun hHeld=>?_)
  case hs3=>exact SD.o _ HT5.o
  clear hK K hown5 hgrow5 hat5
  try simp only [Act.put,lA,lB,lC,lD,lE,lF]
  refine zT 18 hHeld ?_;refine zT 19 hHeld ?_;refine zR 20 fun K hK=>?_
  (try simp only [lA,lB,lC])
  go_simp;refine hK.out _ _ ?hs4 (fun hHeld=>?_)
  case hs4=>
   have hnw:q≠w.heap.size:=by omega
   have hnz:q≠zb:=by omega
   obtain⟨s0,s1,s2,s3,s4,s5,s6,s7⟩:=SD.o _ HT5.o;exact⟨(lX _ _ _ _ hnw).trans s0,(lX _ _ _ _ hnw).trans s1,(lX _ _ _ _ hnw).trans s2,(lX _ _ _ _ hnw).trans s3,(lX _ _ _ _ hnw).trans s4,(lX _ _ _ _ hnw).trans s5,(lX _ _ _ _ hnw).trans s6,(lX _ _ _ _ hnz).trans s7⟩
  clear hK K
  try simp only [Act.put,lA,lB,lC,lD,lE,lF]
  refine wpAnyH_done (by kernel_rfl) ?_ _;have r8:=hHeld.2.2.2.2.2.2.1;have z5:=hHeld.2.2.2.2.2.2.2;have HG5:Hd (g≠q/\zb+1<=g/\g≠g1/\g≠w.heap.size+1):=by
   rcases HAT.o with h|h
   ·have:=HN2.o _ h;exact⟨this.2.2.1,this.2.2.2.1,this.2.2.2.2.1,this.2.2.2.2.2⟩
   ·exact⟨by omega,by omega,by omega,by omega⟩
  have hO2:(w5.setCell ⟨q,1,none⟩ (.slice (some ⟨g,0,none⟩) (len2+1) cap)).ownsRow (zb+1) 56 9 (.slice (some ⟨g,0,none⟩) (len2+1) cap) (len2+1) (zu (ls++[⟨s,i,kd,m,k,n,sl,c,false⟩])):=by
   rw [yQ];have e1:zu [⟨s,i,kd,m,k,n,sl,c,false⟩]=LsV.cells ⟨s,i,kd,m,k,n,sl,c,false⟩:=by simp [zu]
   rw [e1];exact zi HOW.o (by simpa [lH] using HG5.o.1) _
  have hB6:(w5.setCell ⟨q,1,none⟩ (.slice (some ⟨g,0,none⟩) (len2+1) cap)).heap[q]?=some (.cells #[.slice (some ⟨g1,0,none⟩) len cap1,.slice (some ⟨g,0,none⟩) (len2+1) cap] 98 (0,0)):=zg HB5.o _;have hT6:Turn (fun b=>b=q\/lH (.slice v2a len2 v2c)=some b) w4 (w5.setCell ⟨q,1,none⟩ (.slice (some ⟨g,0,none⟩) (len2+1) cap)):=lQ (S:=fun b=>b=q\/lH (.slice v2a len2 v2c)=some b) (p:=⟨q,1,none⟩) (HT5.o.mono (fun _ _ e=>.inr e)) (fun _=>.inl rfl) _;generalize rC w5 _ _=w6 at hO2 hB6 hT6 r8 z5 ⊢;have hR6:w6.heap[w.heap.size+1]?=some (.cells #[.int .i64 0,.int .i64 0,.int .i64 0,.slice none 0 0] 33 (0,0)):=hT6.ref HR4.o (by
   rintro (e|e)
   ·omega
   ·exact(HN2.o _ e).2.2.2.2.2 rfl)
  have o0:w6.cell? ⟨w.heap.size+1,0,none⟩=some (.int .i64 0):=zc hR6 rfl;have o1:w6.cell? ⟨w.heap.size+1,1,none⟩=some (.int .i64 0):=zc hR6 rfl;have o2:w6.cell? ⟨w.heap.size+1,2,none⟩=some (.int .i64 0):=zc hR6 rfl;have o3:w6.cell? ⟨w.heap.size+1,3,none⟩=some (.slice none 0 0):=zc hR6 rfl;have t0:=ze hR6 0;have t1:=ze hR6 1;have t2:=ze hR6 2;have t3:=ze hR6 3;have hne2:w.heap.size+1≠zb:=by have:=(Array.getElem?_eq_some_iff.1 HR4.o).1;exact fun e=>by have h1:=HR4.o;rw [e] at h1;exact zh h1 HZ4.o (by decide) rfl
  have HF6:Hd _:=And.intro hO2 (And.intro hB6 hT6);have HR6:Hd _:=hR6;clear hO2 hB6 hT6 hHeld y1b f1b y1 r1 r2 r3 r4 r5 r6 hR6;go_wp2_with fail
  go_region
  all_goals go_wp2
  all_goals refine bodyPost_ret (v:=.tuple #[.pointer (some ⟨q,0,none⟩),.agg #[.int .i64 0,.int .i64 sl,.int .i64 c,.slice none 0 0]]) (by simp [results,results177,go_sem,o0,o1,o2,o3]) rfl ⟨q,by rw [HE.o.2.2],?_⟩
  all_goals
   have hTY:=set4 (g:=w.heap.size+1) (lI w6) (.int .i64 0) (.int .i64 sl) (.int .i64 c) (.slice none 0 0);obtain⟨hO2,hB6,hT6⟩:=HF6.o;obtain⟨q1,q2,q3,q4,q5,q7,q8⟩:=HQQ.o;obtain⟨cur1,hcur1⟩:=zf q2 (g:=g1) rfl;have hT3:Turn (fun b=>b=g1\/b=q\/lH (.slice v2a len2 v2c)=some b\/b=w.heap.size+1) w3 _:=((HT34.o.mono (fun b _ e=>.inl e)).trans' (S':=fun b=>b=g1\/b=q\/lH (.slice v2a len2 v2c)=some b\/b=w.heap.size+1) (hT6.mono (fun b _ e=>by rcases e with e|e;exact .inr (.inl e);exact .inr (.inr (.inl e)))) (fun _ _ e=>e)).trans' hTY (fun b _ e=>.inr (.inr (.inr e)));have hlt:w.heap.size<=zb+1:=by omega
   have hgrowG:∀b,G b->¬(b=g1\/b=q\/lH (.slice v2a len2 v2c)=some b\/b=w.heap.size+1):=fun b hb hor=>by
    have hbw:=HG.o b hb;rcases hor with e|e|e|e
    ·omega
    ·omega
    ·have:=(HN2.o _ e).2.2.2.1;omega
    ·omega
   refine⟨YC (css:=css.set ix (cs.set 5 (.int .i64 ((sl+c:Nat):Int)))) (hTY.ref hB6 (fun e=>?_)) (zv (hTY.owns (hT6.owns ?_ ?_) ?_) hlt) (zv (hTY.owns ?_ ?_) hlt) (.inr (by rw [rK];omega)) (.inr (by simp)) (by rw [rK,rK];exact q4) (fun i' hi'=>?_) (by omega),?_⟩
   ·omega
   ·rw [rK,HE.o.1];exact HO1.o
   ·intro b hb hor;simp [lH] at hb;subst hb;rcases hor with e|e
    ·exact hne1 e
    ·exact(HN2.o _ e).2.2.2.2.1 rfl
   ·intro b hb e;simp [lH] at hb;omega
   ·rw [lW,HE.o.2.1,HE.o.2.2];exact hO2
   ·intro b hb e;simp [lH] at hb;subst hb;exact HG5.o.2.2.2 e
   ·have hi2:i'<S.length:=by simpa using hi'
    obtain⟨cs2,m1,m2⟩:=q5 i' hi2;by_cases hii:i'=ix
    ·subst hii;refine⟨cs.set 5 (.int .i64 ((sl+c:Nat):Int)),by rw [sA (by omega)],?_⟩;rw [HCS.o.2,sQ];obtain⟨k1,k2,k3⟩:=HTV.o;refine⟨tv,tvs,rfl,?_,k2,fun i2 hi2=>?_⟩
     ·exact(k1.turn hT3 hgrowG).mono (fun b hb=>.inl hb)
     ·obtain⟨v,n1,n2⟩:=k3 i2 hi2;exact⟨v,n1,(n2.turn hT3 hgrowG).mono (fun b hb=>.inl hb)⟩
    ·refine⟨cs2,by rw [lU (fun e=>hii e.symm)];exact m1,?_⟩;rw [List.getElem_set_ne (fun e=>hii e.symm)];exact(m2.turn hT3 hgrowG).mono (fun b hb=>.inl hb)
   ·exact Turn.ext ((lM (S:=fun _=>False) HX3.o).trans' hT3 (fun b hb hor=>by
     rcases hor with e|e|e|e
     ·omega
     ·omega
     ·have:=(HN2.o _ e).2.2.2.1;omega
     ·omega))
end
section
theorem Qx {w w':World}{v0 v1 v2 v3:Value}{t:TypeId}(h:Ext (w.alloc (.cells #[v0,v1,v2,v3] t)) w'):w.heap.size<w'.heap.size:=by have:=h.le;simp at this;omega
theorem Gb (x:Int):0<=IntKind.u64.wrap x/\IntKind.u64.wrap x<=18446744073709551615:=by rw [IntKind.wrap_u64];omega
def ProdAt (A B:List Int)(k n MN i q:Nat)(D:List Int):Prop:=
 D.length=MN/\(∀j,j<i->D.getD j 0=qz false A B k n (j / n) (j % n) k)/\D.getD i 0=qz false A B k n (i / n) (i % n) q/\∀j,i<j->D.getD j 0=0
theorem ProdAt.start (A B:List Int)(k n MN:Nat):ProdAt A B k n MN 0 0 (List.replicate MN 0):=by
 refine⟨by simp,fun j hj=>by omega,?_,fun j _=>?_⟩
 ·simp [qz,rT,List.getElem?_replicate];split<;>rfl
 ·simp [rT,List.getElem?_replicate];split<;>rfl
theorem ProdAt.next {A B:List Int}{k n MN i:Nat}{D:List Int}(h:ProdAt A B k n MN i k D):ProdAt A B k n MN (i+1) 0 D:=by
 obtain⟨h1,h2,h3,h4⟩:=h;refine⟨h1,fun j hj=>?_,?_,fun j hj=>h4 j (by omega)⟩
 ·rcases Nat.lt_or_eq_of_le (Nat.le_of_lt_succ hj) with h|h
  ·exact h2 j h
  ·rw [h,h3]
 ·rw [h4 (i+1) (by omega)];rfl
theorem ProdAt.step {A B:List Int}{k n MN i q:Nat}{D:List Int}(h:ProdAt A B k n MN i q D)(hi:i<MN):ProdAt A B k n MN i (q+1) (D.set i (xA false (D.getD i 0) (qG false (A.getD (i / n*k+q) 0) (B.getD (q*n+i % n) 0)))):=by
 obtain⟨h1,h2,h3,h4⟩:=h;have hne:∀j v,j≠i->(D.set i v).getD j 0=D.getD j 0:=fun j v hj=>by simp [rT,Ne.symm hj]
 refine⟨by simp [h1],fun j hj=>?_,?_,fun j hj=>?_⟩
 ·rw [hne _ _ (by omega),h2 j hj]
 ·rw [h3];simp [rT,h1,hi,qz]
 ·rw [hne _ _ (by omega),h4 j hj]
def uK (A B:List Int)(k n MN:Nat):List Int:=(List.range MN).map fun i=>qz false A B k n (i / n) (i % n) k
theorem ProdAt.done {A B:List Int}{k n MN:Nat}{D:List Int}(h:ProdAt A B k n MN MN 0 D):D=uK A B k n MN:=by
 obtain⟨h1,h2,_,_⟩:=h;apply List.ext_getElem?;intro j;by_cases hj:j<MN
 ·have:=h2 j hj;rw [rT,lZ (by omega),Option.getD_some] at this;rw [lZ (by omega),this];simp [uK,hj]
 ·rw [List.getElem?_eq_none (by omega),List.getElem?_eq_none (by simp [uK];omega)]
def uD (A B:List Int):List Int:=List.zipWith (bits .and .u64) A B
def AndAt (A B:List Int)(M i:Nat)(D:List Int):Prop:=D.length=M/\∀j,j<i->D.getD j 0=bits .and .u64 (A.getD j 0) (B.getD j 0)
theorem AndAt.step {A B:List Int}{M i:Nat}{D:List Int}(h:AndAt A B M i D)(hi:i<M):AndAt A B M (i+1) (D.set i (bits .and .u64 (A.getD i 0) (B.getD i 0))):=by
 obtain⟨h1,h2⟩:=h;refine⟨by simp [h1],fun j hj=>?_⟩;by_cases hji:j=i
 ·subst hji;simp [rT,h1,hi]
 ·rw [<-h2 j (by omega)];simp [rT,Ne.symm hji]
theorem AndAt.done {A B:List Int}{M:Nat}{D:List Int}(hA:A.length=M)(hB:B.length=M)(h:AndAt A B M M D):D=uD A B:=by obtain⟨h1,h2⟩:=h;apply List.ext_getElem (by simp [uD,h1,hA,hB]);intro j hj1 hj2;have:=h2 j (by omega);rw [rT,lZ hj1,Option.getD_some] at this;rw [this];simp [uD,rT,lZ (show j<A.length by omega),lZ (show j<B.length by omega)]
theorem Jr {m k n:Nat}(hm1:1<=m)(hm:m<=3)(hn1:1<=n)(hn:n<=3)(A B:List Int)(hA:A.length=m*k)(hB:B.length=k*n):uK A B k n (m*n)=Yk ⟨false,1,m,k,n⟩ A B 1:=by
 have e1:qk A 0 (m*k)=A:=by rw [qk,Nat.zero_mul,List.drop_zero,<-hA,List.take_length]
 have e2:qk B 0 (k*n)=B:=by rw [qk,Nat.zero_mul,List.drop_zero,<-hB,List.take_length]
 have h1:Yk ⟨false,1,m,k,n⟩ A B 1=Y0 false A B k n m:=by
  rw [show (1:Nat)=0+1 from rfl,xf];show Yk _ A B 0++Y0 false (qk A 0 (m*k)) (qk B 0 (k*n)) k n m=_
  rw [e1,e2];simp [Yk]
 rw [h1];clear h1 e1 e2 hA hB;obtain rfl|rfl|rfl:m=1\/m=2\/m=3:=by omega
 all_goals (obtain rfl|rfl|rfl:n=1\/n=2\/n=3:=by omega)
 all_goals rfl
theorem jC (a:BitVec 64):IntKind.u64.wrap (a.toNat:Int)=a.toNat:=by rw [IntKind.wrap_u64];have:=a.isLt;omega
theorem Ul (x y:Int):bits .xor .u64 x y=((BitVec.ofInt 64 x ^^^ BitVec.ofInt 64 y).toNat:Int):=jC _
theorem Ke (x y:Int):bits .and .u64 x y=((BitVec.ofInt 64 x &&& BitVec.ofInt 64 y).toNat:Int):=jC _
theorem J7 (a:BitVec 64):0<=(a.toNat:Int)/\(a.toNat:Int)<=18446744073709551615:=by have:=a.isLt;omega
theorem JH (a:BitVec 64):BitVec.ofInt 64 (a.toNat:Int)=a:=by simp
theorem V8 (a b:Int):bits .xor .u64 0 (bits .and .u64 a b)=bits .and .u64 a b:=by rw [Ul,Ke,JH];simp
theorem Ur (bt:Bool)(x y:Int):0<=ZE bt x y/\ZE bt x y<=18446744073709551615:=by
 cases bt
 ·exact Gb _
 ·show 0<=bits .xor .u64 x y/\_;rw [show ZE true x y=bits .xor .u64 x y from rfl,Ul];exact J7 _
theorem inU64.take {D:List Int}(h:inU64 D)(n:Nat):inU64 (D.take n):=fun z hz=>h z (List.mem_of_mem_take hz)
theorem inU64.drop {D:List Int}(h:inU64 D)(n:Nat):inU64 (D.drop n):=fun z hz=>h z (List.mem_of_mem_drop hz)
theorem uS (s:Sh){D:List Int}(h:inU64 D):inU64 (Zw s D):=h.drop _
theorem uM (s:Sh)(D:List Int):inU64 (yF s D):=fun z hz=>by rw [yF] at hz;obtain⟨i,h,rfl⟩:=sK hz;rw [List.getElem_zipWith];exact Ur _ _ _
theorem Jj {M:Nat}(h1:1<=M)(h3:M<=3)(A B:List Int)(hA:A.length=M)(hB:B.length=M):uD A B=Yk ⟨true,M,1,1,1⟩ A B M:=by
 have hx:=V8;obtain rfl|rfl|rfl:M=1\/M=2\/M=3:=by omega
 ·obtain⟨a,rfl⟩:=List.length_eq_one_iff.1 hA;obtain⟨b,rfl⟩:=List.length_eq_one_iff.1 hB;exact congrArg (·::[]) (hx a b).symm
 ·match A,B,hA,hB with
  | [a0,a1],[b0,b1],_,_=>
   show [bits .and .u64 a0 b0,bits .and .u64 a1 b1]=[bits .xor .u64 0 (bits .and .u64 a0 b0),bits .xor .u64 0 (bits .and .u64 a1 b1)]
   rw [hx,hx]
 ·match A,B,hA,hB with
  | [a0,a1,a2],[b0,b1,b2],_,_=>
   show [bits .and .u64 a0 b0,bits .and .u64 a1 b1,bits .and .u64 a2 b2]=[bits .xor .u64 0 (bits .and .u64 a0 b0),bits .xor .u64 0 (bits .and .u64 a1 b1),bits .xor .u64 0 (bits .and .u64 a2 b2)]
   rw [hx,hx,hx]
theorem vq (M:Nat)(hm1:1<=M)(hm:M<=3)(b off cap b2 off2 cap2:Nat)(A B:List Int)(hA:A.length=M)(hB:B.length=M)(w:World)(hz:WordsAt w b off A)(hy:WordsAt w b2 off2 B) :
  Calls Tryz.prog 190 #[zJ 2 M 1 1,.slice (some ⟨b,off,none⟩) M cap,.slice (some ⟨b2,off2,none⟩) M cap2] w fun e w'=>∃g,e=.returned (.slice (some ⟨g,0,none⟩) M M)/\w'.ownsRow w.heap.size 146 1 (.slice (some ⟨g,0,none⟩) M M) M ((uD A B).map (Value.int .u64))/\Ext w w':=by
 obtain⟨i0,hi,hz0,hz1,hz2⟩:=info_parts ZS;have HS:Hd _:=YH (kd:=2) (m:=M) (k:=1) (n:=1) (s:=⟨true,M,1,1,1⟩) (.inl ⟨rfl,rfl,rfl,rfl⟩) ⟨hm1,hm,lO 1,(by show 1<=3;omega),lO 1,(by show 1<=3;omega),lO 1,(by show 1<=3;omega),.inr ⟨rfl,rfl,rfl⟩⟩;simp only [Sh.x,Sh.y,Sh.z,Nat.mul_one] at HS;have HZ:=hid hz;have HY:=hid hy;have HAB:Hd (A.length=M/\B.length=M):=⟨hA,hB⟩
 clear hz hy hA hB;unfold zJ at *;go_enter func190,ntmps190;go_wp2_with fail
 refine(HS.o _).mono ?_;rintro e w1 ⟨rfl,hx1⟩;obtain⟨d0,d1,d2,d3⟩:=ZQ hx1;have HX1:Hd (Ext w w1):=((lI w).alloc _).trans hx1;have hlt1:=Qx hx1;clear hx1;go_wp2_with (at_make;refine wpList_make_full _ rfl _ _ 31 rfl w1.heap.size 146 i0 (.int .u64 0) 1 underlying31 hi hz0 hz1 _ _ _ _ M rfl rfl rfl rfl (by rw [hz2];omega) (by unfold maxLen;omega) (lO _) ?_)
 intro w2 ho1 hg1;have hx2:Ext w1 w2:=rG (lI w1) hg1 (by simp);have ho2:w2.ownsRow w1.heap.size 146 1 (.slice (some ⟨w1.heap.size,0,none⟩) M M) M ((List.replicate M (0:Int)).map (Value.int .u64)):=by rw [List.map_replicate,<-toList_madeCells_one];simpa [Value.cells] using ho1
 have d0:=hx2.cell d0;obtain⟨g,hgE⟩:∃g,w1.heap.size=g:=⟨_,rfl⟩
 rw [hgE] at ho2 ⊢;have HO2:=hid ho2;have HX2:Hd (Ext w w2):=HX1.o.trans hx2;have hgw:w.heap.size<g:=by omega
 clear ho1 ho2 hg1 hx2 hgE hlt1 d1 d2 d3;have HC:Hd _:=d0;go_wp2_with fail
 clear d0
 go_loopw [11] (fun i wr=>∃(j:Nat) (D:List Int),j<=M/\i=.int .i64 j/\AndAt A B M j D/\wr.ownsRow g 146 1 (.slice (some ⟨g,0,none⟩) M M) M (D.map (Value.int .u64))/\Ext w wr/\wr.cell? ⟨w.heap.size,0,none⟩=some (.int .i64 2)) (fun i _=>M - (intOf i).toNat)
 case atStart=>exact⟨0,List.replicate M 0,lT _,rfl,⟨by simp,fun j hj=>absurd hj (Nat.not_lt_zero _)⟩,HO2.o,HX2.o,HC.o⟩
 case round=>
  obtain⟨j,D,hj,rfl,hP,ho,hx,d0⟩:=hrel;have HP:=hid hP;have HO:=hid ho;have HX:=hid hx;clear hP ho hx;by_cases hlt:j<M
  ·have hk0:(0:Int)<=(j:Int):=by omega
   have hk1:(j:Int)<M:=by omega
   have e0:=HX.o.cell (HZ.o j (by rw [HAB.o.1];exact hlt));have e1:=HX.o.cell (HY.o j (by rw [HAB.o.2];exact hlt));have hbw:=lG w _ (HZ.o j (by rw [HAB.o.1];exact hlt));have hb2w:=lG w _ (HY.o j (by rw [HAB.o.2];exact hlt));have c0:wr.cell? ⟨g,j,none⟩=some (.int .u64 (D.getD j 0)):=by have:=ZK HO.o j (by rw [HP.o.1];exact hlt);simpa using this
   have f0:wr.frozen? ⟨g,j,none⟩=false:=HO.o.frozenAt j;have HPn:Hd _:=HP.o.step hlt;generalize A.getD j 0=za at *;generalize B.getD j 0=zb at *;generalize hdd:D.getD j 0=dd at *;clear hdd;go_wp2
   go_region
   have HF:Hd (((wr.setCell ⟨g,j,none⟩ (.int .u64 (bits .and .u64 za zb))).drew).cell? ⟨w.heap.size,0,none⟩=some (.int .i64 2)):=(lX wr ⟨g,j,none⟩ ⟨w.heap.size,0,none⟩ _ (by show g≠w.heap.size;omega)).trans d0;go_wp2
   go_roundw
   case rel=>exact⟨j+1,_,by omega,by go_num,HPn.o,lR.drew (by rw [List.map_set];exact(HO.o.stored j _).1),lJ (rF HX.o (by show w.heap.size<=g;omega) _),HF.o⟩
   case measure=>simp [intOf];omega
  ·obtain rfl:j=M:=by omega
   go_wp2;go_ret;exact⟨g,rfl,by rw [<-HP.o.done HAB.o.1 HAB.o.2];exact zv HO.o (by omega),HX.o⟩
end
section
theorem gM {i j n:Nat}(h:j<n):(i*n+j) / n=i:=by rw [Nat.mul_comm,Nat.mul_add_div (by omega),Nat.div_eq_of_lt h,Nat.add_zero]
theorem gp {i j n:Nat}(h:j<n):(i*n+j) % n=j:=by rw [Nat.mul_comm,Nat.mul_add_mod,Nat.mod_eq_of_lt h]
theorem ProdAt.stepIJ {A B:List Int}{k n MN i j q:Nat}{D:List Int}(h:ProdAt A B k n MN (i*n+j) q D)(hj:j<n)(hi:i*n+j<MN):ProdAt A B k n MN (i*n+j) (q+1) (D.set (i*n+j) (xA false (D.getD (i*n+j) 0) (qG false (A.getD (i*k+q) 0) (B.getD (q*n+j) 0)))):=by
 have:=h.step hi
 rwa [gM hj,gp hj] at this
theorem vJ (kd m k n:Nat)(hkd:¬kd=2)(hm1:1<=m)(hm:m<=3)(hk1:1<=k)(hk:k<=3)(hn1:1<=n)(hn:n<=3)(s:Sh)(hc:ofCls kd m k n s)(hs:s.ok)(b off cap b2 off2 cap2 la lb:Nat)(A B:List Int)(hA:A.length=la)(hB:B.length=lb)(hla:la=m*k)(hlb:lb=k*n)(w:World)(hz:WordsAt w b off A)(hy:WordsAt w b2 off2 B) :
  Calls Tryz.prog 190 #[zJ kd m k n,.slice (some ⟨b,off,none⟩) la cap,.slice (some ⟨b2,off2,none⟩) lb cap2] w fun e w'=>∃g,e=.returned (.slice (some ⟨g,0,none⟩) (m*n) (m*n))/\w'.ownsRow w.heap.size 146 1 (.slice (some ⟨g,0,none⟩) (m*n) (m*n)) (m*n) ((uK A B k n (m*n)).map (Value.int .u64))/\Ext w w':=by
 obtain⟨i0,hi,hz0,hz1,hz2⟩:=info_parts ZS;have HS:Hd _:=YH hc hs;have HZ:=hid hz;have HY:=hid hy;have hzz:s.z=m*n:=by
  rcases hc with⟨h,_⟩|⟨_,rfl⟩
  ·exact absurd h hkd
  ·simp [Sh.z]
 rw [hzz] at HS;have hmn:=yJ hm hn;have hmn1:=rN hm1 hn1;have HAB:Hd (A.length=la/\B.length=lb/\la=m*k/\lb=k*n):=⟨hA,hB,hla,hlb⟩
 generalize s.x=x at *;generalize s.y=y at *;clear hz hy hc hs hzz hA hB hla hlb;generalize hMN:m*n=MN at *;have HMN:=hid hMN;clear hMN;unfold zJ at *;go_enter func190,ntmps190;go_wp2_with fail
 refine(HS.o _).mono ?_;rintro e w1 ⟨rfl,hx1⟩;obtain⟨d0,d1,d2,d3⟩:=ZQ hx1;have HX1:Hd (Ext w w1):=((lI w).alloc _).trans hx1;have hlt1:=Qx hx1;clear hx1;go_wp2_with (at_make;refine wpList_make_full _ rfl _ _ 31 rfl w1.heap.size 146 i0 (.int .u64 0) 1 underlying31 hi hz0 hz1 _ _ _ _ MN rfl rfl rfl rfl (by rw [hz2];omega) (by unfold maxLen;omega) (lO _) ?_)
 intro w2 ho1 hg1;have hx2:Ext w1 w2:=rG (lI w1) hg1 (by simp);have ho2:w2.ownsRow w1.heap.size 146 1 (.slice (some ⟨w1.heap.size,0,none⟩) MN MN) MN ((List.replicate MN (0:Int)).map (Value.int .u64)):=by rw [List.map_replicate,<-toList_madeCells_one];simpa [Value.cells] using ho1
 have d0:=hx2.cell d0;have d1:=hx2.cell d1;have d2:=hx2.cell d2;have d3:=hx2.cell d3;obtain⟨g,hgE⟩:∃g,w1.heap.size=g:=⟨_,rfl⟩
 rw [hgE] at ho2 ⊢;have HO2:=hid ho2;have HX2:Hd (Ext w w2):=HX1.o.trans hx2;have hgw:w.heap.size<g:=by omega
 clear ho1 ho2 hg1 hx2 hgE hlt1;have hkd2:¬((kd:Int)=2):=by omega
 clear hkd;have HD0:Hd _:=d0;have HC:Hd (w2.cell? ⟨w.heap.size,1,none⟩=some (.int .i64 m)/\w2.cell? ⟨w.heap.size,2,none⟩=some (.int .i64 k)/\w2.cell? ⟨w.heap.size,3,none⟩=some (.int .i64 n)):=⟨d1,d2,d3⟩
 clear d1 d2 d3;have hsz2:w.heap.size+1<=g:=hgw;go_wp2_with fail
 clear d0;rw [show ((kd:Int) == 2)=false from by simp;omega]
 go_loopw [12] (fun i wr=>∃(j:Nat) (D:List Int),j<=m/\i=.int .i64 j/\ProdAt A B k n MN (j*n) 0 D/\wr.ownsRow g 146 1 (.slice (some ⟨g,0,none⟩) MN MN) MN (D.map (Value.int .u64))/\Ext w wr/\wr.cell? ⟨w.heap.size,1,none⟩=some (.int .i64 m)/\wr.cell? ⟨w.heap.size,2,none⟩=some (.int .i64 k)/\wr.cell? ⟨w.heap.size,3,none⟩=some (.int .i64 n)) (fun i _=>m - (intOf i).toNat)
 case atStart=>exact⟨0,List.replicate MN 0,lT _,rfl,by rw [Nat.zero_mul];exact ProdAt.start _ _ _ _ _,HO2.o,HX2.o,HC.o⟩
 case round=>
  obtain⟨i,D,hi0,rfl,hP,ho,hx,d1,d2,d3⟩:=hrel;have HP:=hid hP;have HO:=hid ho;have HX:=hid hx;have HD:Hd _:=And.intro d1 (And.intro d2 d3);clear hP ho hx;by_cases hlt:i<m
  ·go_wp2;clear d1 d2 d3
   go_loopw [13] (fun i' ws=>∃(j:Nat) (D:List Int),j<=n/\i'=.int .i64 j/\ProdAt A B k n MN (i*n+j) 0 D/\ws.ownsRow g 146 1 (.slice (some ⟨g,0,none⟩) MN MN) MN (D.map (Value.int .u64))/\Ext w ws/\ws.cell? ⟨w.heap.size,1,none⟩=some (.int .i64 m)/\ws.cell? ⟨w.heap.size,2,none⟩=some (.int .i64 k)/\ws.cell? ⟨w.heap.size,3,none⟩=some (.int .i64 n)) (fun i' _=>n - (intOf i').toNat)
   case atStart=>exact⟨0,D,lT _,rfl,HP.o,HO.o,HX.o,HD.o⟩
   case round=>
    clear HP HO HX HD;clear D;obtain⟨j,D,hj,rfl,hP,ho,hx,d1,d2,d3⟩:=hrel
    rename World=>ws
    have HP:=hid hP;have HO:=hid ho;have HX:=hid hx;have HD:Hd _:=And.intro d1 (And.intro d2 d3);clear hP ho hx;by_cases hlj:j<n
    ·have hin:i*n+j<MN:=by rw [<-HMN.o];exact Zj hlt hlj
     obtain⟨x0,hx0⟩:∃x0,i*n+j=x0:=⟨_,rfl⟩
     have HX0:=hid hx0;have HSt:Hd (∀q D,ProdAt A B k n MN x0 q D->ProdAt A B k n MN x0 (q+1) (D.set x0 (xA false (D.getD x0 0) (qG false (A.getD (i*k+q) 0) (B.getD (q*n+j) 0))))):=fun q D h=>by rw [<-hx0] at h ⊢;exact h.stepIJ hlj hin
     have hP0:=HP.o;rw [hx0] at hP0 hin;have HP0:=hid hP0;clear hP0 hx0;go_wp2;clear d1 d2 d3
     go_loopw [14] (fun i' wt=>∃(q:Nat) (D:List Int),q<=k/\i'=.int .i64 q/\ProdAt A B k n MN x0 q D/\wt.ownsRow g 146 1 (.slice (some ⟨g,0,none⟩) MN MN) MN (D.map (Value.int .u64))/\Ext w wt/\wt.cell? ⟨w.heap.size,1,none⟩=some (.int .i64 m)/\wt.cell? ⟨w.heap.size,2,none⟩=some (.int .i64 k)/\wt.cell? ⟨w.heap.size,3,none⟩=some (.int .i64 n)) (fun i' _=>k - (intOf i').toNat)
     case atStart=>exact⟨0,D,lT _,rfl,HP0.o,HO.o,HX.o,HD.o⟩
     case round=>
      clear HP HO HX HD HP0;clear D;obtain⟨q,D,hq,rfl,hP,ho,hx,d1,d2,d3⟩:=hrel
      rename World=>wt
      have HP:=hid hP;have HO:=hid ho;have HX:=hid hx;have HD:Hd (D.length=MN):=hP.1;clear hP ho hx;by_cases hlq:q<k
      ·have hbw:=lG w _ (HZ.o (i*k+q) (by rw [HAB.o.1,HAB.o.2.2.1];exact Zj hlt hlq));have hb2w:=lG w _ (HY.o (q*n+j) (by rw [HAB.o.2.1,HAB.o.2.2.2];exact Zj hlq hlj));have e0:=HX.o.cell (HZ.o (i*k+q) (by rw [HAB.o.1,HAB.o.2.2.1];exact Zj hlt hlq));have e1:=HX.o.cell (HY.o (q*n+j) (by rw [HAB.o.2.1,HAB.o.2.2.2];exact Zj hlq hlj));have b0:i*k+q<la:=by rw [HAB.o.2.2.1];exact Zj hlt hlq
       have b1:q*n+j<lb:=by rw [HAB.o.2.2.2];exact Zj hlq hlj
       have hqn:=rN (show q<=2 by omega) hn;have hrk:=rN (show i<=2 by omega) hk;have hin':=rN (show i<=2 by omega) hn;obtain⟨im,him⟩:∃im,i*n=im:=⟨_,rfl⟩
       have v0:IntKind.i64.wrap ((i:Int)*(n:Int))=(im:Int):=by rw [<-rQ,him];exact zt (by omega)
       have v5:IntKind.i64.wrap ((im:Int)+(j:Int))=(x0:Int):=by have h0:=HX0.o;rw [him] at h0;rw [show (im:Int)+(j:Int)=((im+j:Nat):Int) by omega,h0];exact zt (by omega)
       have v1:IntKind.i64.wrap ((i:Int)*(k:Int))=((i*k:Nat):Int):=by rw [<-rQ];exact zt (by omega)
       have v2:IntKind.i64.wrap ((q:Int)*(n:Int))=((q*n:Nat):Int):=by rw [<-rQ];exact zt (by omega)
       have c0:wt.cell? ⟨g,x0,none⟩=some (.int .u64 (D.getD x0 0)):=by have:=ZK HO.o x0 (by rw [HD.o];exact hin);simpa using this
       have f0:wt.frozen? ⟨g,x0,none⟩=false:=HO.o.frozenAt x0;have HPn:=hid (HSt.o q D HP.o);generalize hzk:A.getD (i*k+q) 0=z at *;generalize hyk:B.getD (q*n+j) 0=zb at *;generalize hdd:D.getD x0 0=dd at *;clear hzk hyk hdd;generalize i*k=rk at *;generalize q*n=qn at *;have s1:(rk:Int)+(q:Int)=((rk+q:Nat):Int):=by omega
       have s2:(qn:Int)+(j:Int)=((qn+j:Nat):Int):=by omega
       have v3:IntKind.i64.wrap ((rk:Int)+(q:Int))=((rk+q:Nat):Int):=by rw [s1];exact zt (by omega)
       have v4:IntKind.i64.wrap ((qn:Int)+(j:Int))=((qn+j:Nat):Int):=by rw [s2];exact zt (by omega)
       generalize hx1:rk+q=x1 at *;generalize hx2:qn+j=x2 at *;clear s1 s2 hx1 hx2 hrk hqn hin' him;have t0:(0:Int)<=(x1:Int):=by omega
       have t1:(x1:Int)<la:=by omega
       have t2:(0:Int)<=(x2:Int):=by omega
       have t3:(x2:Int)<lb:=by omega
       have hk0:(0:Int)<=(x0:Int):=by omega
       have hk1':(x0:Int)<MN:=by omega
       go_wp2_with fail
       refine wp_region_held_drew (S:=(fun w'=>w'.cell? ⟨w.heap.size,2,none⟩=some (.int .i64 (k:Int))/\w'.cell? ⟨w.heap.size,3,none⟩=some (.int .i64 (n:Int))/\w'.cell? ⟨b,off+x1,none⟩=some (.int .u64 z)/\w'.cell? ⟨b2,off2+x2,none⟩=some (.int .u64 zb))) (by kernel_rfl) ⟨d2,d3,e0,e1⟩ (fun hHeld=>?_);refine zT 0 hHeld ?_;refine zT 1 hHeld ?_;refine zT 2 hHeld ?_;refine zT 3 hHeld ?_;refine zT 4 hHeld ?_;refine zT 5 hHeld ?_;refine zT 6 hHeld ?_;refine zT 7 hHeld ?_;refine zT 8 hHeld ?_;refine zT 9 hHeld ?_;refine zT 10 hHeld ?_;refine zT 11 hHeld ?_;refine zT 12 hHeld ?_;refine zT 13 hHeld ?_;refine zT 14 hHeld ?_;refine zT 16 hHeld ?_;refine zT 17 hHeld ?_;refine zT 18 hHeld ?_;refine zT 19 hHeld ?_;refine zT 20 hHeld ?_;refine zT 21 hHeld ?_;refine zT 22 hHeld ?_;refine zT 23 hHeld ?_;refine zT 24 hHeld ?_;refine zT 25 hHeld ?_;refine zT 26 hHeld ?_;refine zT 27 hHeld ?_;refine zT 28 hHeld ?_;refine zT 29 hHeld ?_;refine zT 30 hHeld ?_;refine zT 31 hHeld ?_;refine zT 32 hHeld ?_;refine zT 33 hHeld ?_;refine zT 34 hHeld ?_;refine zR 15 fun K hK=>?_
       (try simp only [lA,lB,lC])
       go_simp;refine hK.out _ _ ?hs1 (fun hHeld=>?_)
       case hs1=>exact⟨d2,d3,e0,e1⟩
       clear hK K
       try simp only [Act.put,lA,lB,lC,lD,lE,lF]
       refine zT 35 hHeld ?_;refine zT 36 hHeld ?_;refine zR 37 fun K hK=>?_
       (try simp only [lA,lB,lC])
       go_simp;refine hK.out _ _ ?hs4 (fun hHeld=>?_)
       case hs4=>
        have n1:g≠w.heap.size:=by omega
        have n2:g≠b:=by omega
        have n3:g≠b2:=by omega
        exact⟨(lX _ _ _ _ n1).trans d2,(lX _ _ _ _ n1).trans d3,(lX _ _ _ _ n2).trans e0,(lX _ _ _ _ n3).trans e1⟩
       clear hK K
       try simp only [Act.put,lA,lB,lC,lD,lE,lF]
       refine wpAnyH_done (by kernel_rfl) ?_ _;clear hHeld;have hfar:∀(p:Addr) v,p.block≠g->wt.cell? p=some v->((wt.setCell ⟨g,x0,none⟩ (.int .u64 (IntKind.u64.wrap (dd+IntKind.u64.wrap (z*zb))))).drew).cell? p=some v:=fun p v hp h=>(lX wt ⟨g,x0,none⟩ p _ (by show g≠p.block;exact fun e=>hp e.symm)).trans h
       have HF:Hd _:=And.intro (hfar _ _ (by show w.heap.size≠g;omega) d1) (And.intro (hfar _ _ (by show w.heap.size≠g;omega) d2) (hfar _ _ (by show w.heap.size≠g;omega) d3));clear hfar;go_wp2
       go_roundw
       case rel=>exact⟨q+1,_,by omega,by go_num,HPn.o,lR.drew (by rw [List.map_set];exact(HO.o.stored x0 _).1),lJ (rF HX.o (by show w.heap.size<=g;omega) _),HF.o⟩
       case measure=>simp [intOf];omega
      ·obtain rfl:q=k:=by omega
       go_wp2
       go_roundw
       case rel=>exact⟨j+1,D,by omega,by go_num,by have h:=HP.o.next;rw [<-HX0.o] at h;exact h,HO.o,HX.o,d1,d2,d3⟩
       case measure=>simp [intOf];omega
    ·obtain rfl:j=n:=by omega
     go_wp2
     go_roundw
     case rel=>exact⟨i+1,D,by omega,by go_num,by rw [Nat.add_mul,Nat.one_mul];exact HP.o,HO.o,HX.o,d1,d2,d3⟩
     case measure=>simp [intOf];omega
  ·obtain rfl:i=m:=by omega
   go_wp2;go_ret;exact⟨g,rfl,by have hp:=HP.o;rw [HMN.o] at hp;rw [<-hp.done];exact zv HO.o (by omega),HX.o⟩
theorem VP {kd m k n:Nat}{s:Sh}(hc:ofCls kd m k n s)(hs:s.ok)(b off cap b2 off2 cap2 la lb:Nat)(A B:List Int)(hla:la=s.x)(hlb:lb=s.y)(hA:A.length=la)(hB:B.length=lb)(w:World)(hz:WordsAt w b off A)(hy:WordsAt w b2 off2 B) :
  Calls Tryz.prog 190 #[zJ kd m k n,.slice (some ⟨b,off,none⟩) la cap,.slice (some ⟨b2,off2,none⟩) lb cap2] w fun e w'=>∃g,e=.returned (.slice (some ⟨g,0,none⟩) s.z s.z)/\w'.ownsRow w.heap.size 146 1 (.slice (some ⟨g,0,none⟩) s.z s.z) s.z ((Yk s A B s.p).map (Value.int .u64))/\Ext w w':=by
 rcases hc with⟨rfl,rfl,rfl,rfl⟩|⟨hk,rfl⟩
 ·simp only [Sh.x,Sh.y,Sh.z,Nat.mul_one] at *;obtain⟨h1,h2,_⟩:=hs;simp only at h1 h2;rw [hla] at hA ⊢;rw [hlb] at hB ⊢;rw [<-Jj h1 h2 A B hA hB];exact vq m h1 h2 b off cap b2 off2 cap2 A B hA hB w hz hy
 ·have hs':=hs;have hc':ofCls kd m k n ⟨false,1,m,k,n⟩:=.inr ⟨hk,rfl⟩;simp only [Sh.x,Sh.y,Sh.z,Nat.one_mul] at *;obtain⟨_,_,h3,h4,h5,h6,h7,h8,_⟩:=hs;simp only at h3 h4 h5 h6 h7 h8;rw [<-Jr h3 h4 h7 h8 A B (hA.trans hla) (hB.trans hlb)];exact vJ kd m k n (by omega) h3 h4 h5 h6 h7 h8 _ hc' hs' b off cap b2 off2 cap2 la lb A B hA hB hla hlb w hz hy
end
end Go.Proofs.YtmnjhhachdlmkaaGreat
