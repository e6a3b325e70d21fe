import Derived.Test.YtmnjhhachdlmkaaGreatK18
namespace Go.Proofs.YtmnjhhachdlmkaaGreat
set_option linter.all false
set_option maxRecDepth 100000
set_option maxHeartbeats 6400000
open Tryz
open List renaming flatten_cons -> sP, append_nil -> rL
open Nat renaming add_mul -> rO, le_refl -> lO, le_trans -> rH, lt_of_lt_of_le -> rA
open Ext renaming refl -> lI, drew -> lJ, grown -> rG, alloc -> lK
open Turn renaming setCell -> lQ, of_ext -> lM
open World renaming ownsRow -> lR, cell?_setCell_far -> lX, setCell -> rC, alloc -> lP, ownsRow_nil -> rB, news_of_block -> rI
open AllReadyH renaming cons -> sD
open Go.RowKit Go.Maps
open List renaming getElem_toArray -> lA, getElem_cons_succ -> lB, getElem_cons_zero -> lC, setIfInBounds_toArray -> lD, set_cons_zero -> lE, set_cons_succ -> lF
open World renaming block_lt_of_cell? -> lG
open Value renaming ownBlock -> lH
section
theorem Vp {N:Nat}{css:List (List Value)}(h7:∀c∈css,c.length=N)(j:Nat)(i:Nat)(hi:i<N){cs:List Value}(hcs:css[j]?=some cs)(v:Value):(css.set j (cs.set i v)).flatten=css.flatten.set (j*N+i) v:=by
 induction css generalizing j with
 | nil=>simp at hcs
 | cons c t ih=>
  have hc:=h7 c (by simp);cases j with
  | zero=>
   simp at hcs;subst hcs;simp [List.set_append_left _ _ (show i<c.length by omega)]
  | succ j=>
   simp at hcs;rw [lF,sP,sP,List.set_append_right _ _ (by rw [rO];omega),hc,show (j+1)*N+i - N=j*N+i by rw [rO];omega,ih (fun c hc=>h7 c (by simp [hc])) j hcs]
theorem uX {N:Nat}{css:List (List Value)}(h7:∀c∈css,c.length=N)(j:Nat)(i:Nat)(hi:i<N){cs:List Value}(hcs:css[j]?=some cs):css.flatten[j*N+i]?=cs[i]?:=by
 induction css generalizing j with
 | nil=>simp at hcs
 | cons c t ih=>
  have hc:=h7 c (by simp);cases j with
  | zero=>
   simp at hcs;subst hcs;simp [List.getElem?_append_left (show i<c.length by omega)]
  | succ j=>
   simp at hcs;rw [sP,List.getElem?_append_right (by rw [hc,rO];omega),hc,show (j+1)*N+i - N=j*N+i by rw [rO];omega];exact ih (fun c hc=>h7 c (by simp [hc])) j hcs
section
variable {w:World}{P B q c:Nat}{G:Nat->Prop}{v:GV}{S:List Stk}{ls:List LsV}{ops0:List OpV}
theorem QF (h:GameOf w P B G v q S ls ops0 c)(hc:c<=900000)(gw cw:Nat)(hw0:w.cell? ⟨gw,0,none⟩=some (.int .i64 0))(hwt:∃cur,w.heap[gw]?=some (.cells cur 3 (0,0))) :
  Calls Tryz.prog 150 #[.pointer (some ⟨P,0,none⟩),.slice (some ⟨gw,0,none⟩) 1 cw] w fun e w'=>e=.returned (.tuple #[])/\∃v' G',GameOf w' P B G' v' q S ls ops0 c/\GStep (fun b=>w.heap.size<=b) w w' P v v' G G'/\v'.ar=v.ar/\v'.fi=v.fi:=by
 have H:=hid h;obtain⟨gl,lcap,hwv,hgl,hlc⟩:=h.wrow;obtain⟨np,hnp,css,hpr,hcl,hpi⟩:=h.prow;obtain⟨pa,pcap,hpvE⟩:=zo hpr;have hblk:=h.blk;unfold Zp at hblk;rw [hpvE,hwv] at hblk;rw [hpvE] at hpr;have c1:w.cell? ⟨P,1,none⟩=some (.slice (some ⟨gl,0,none⟩) 1 lcap):=zc hblk rfl;have f1:=ze hblk 1;have hPl:=lG w _ c1;have HO1:Hd (∀w',Ext w w'->_):=fun w' hx=>kC gl gw 1 lcap cw (.pointer (some ⟨q,0,none⟩)) rfl (lO _) w' (hx.cell hlc) (hx.cell hw0) ⟨_,rfl⟩
 have HB:=hid hblk;have HPR:=hid hpr;have HPI:Hd (css.length=np/\∀c∈css,PartIs w G c):=⟨hcl,hpi⟩
 have HPV:=hid hpvE;have HPP:Hd (lH (.slice pa np pcap)≠some P):=Zk (B:=P) hblk hpr (by decide);have HGW:Hd (gw≠P/\lH (.slice pa np pcap)≠some gw/\w.cell? ⟨gw,0,none⟩=some (.int .i64 0)):=by obtain⟨cur,hcw⟩:=hwt;exact⟨fun e=>zh hcw hblk (by decide) e,Zk (B:=gw) hcw hpr (by decide),hw0⟩
 have hnpb:np<=900000:=by omega
 have HNP:=hid hnp;clear h hwv hgl hlc hpr hcl hpi hpvE hblk hw0 hwt hnp;go_enter func150,ntmps150;go_wp2_with fail
 refine(HO1.o _ (lI _)).mono ?_;rintro e w1 ⟨g1,cap1,rfl,hown1,hx1⟩;have HW1:=hid hown1;have HX1:=hid hx1;have hb1:=hx1.block HB.o;have d1:w1.cell? ⟨P,1,none⟩=some (.slice (some ⟨gl,0,none⟩) 1 lcap):=zc hb1 rfl;have e1:=ze hb1 1;have HB1:Hd _:=hb1;have hPl1:=lG w1 _ d1;clear hown1 hx1 hb1 c1 f1 HO1;go_wp2_with fail
 have HB2:Hd ((w1.setCell ⟨P,1,none⟩ (.slice (some ⟨g1,0,none⟩) 1 cap1)).heap[P]?=some (.cells #[.pointer (some ⟨B,0,none⟩),.slice (some ⟨g1,0,none⟩) 1 cap1,.slice none 0 0,v.ov,.slice pa np pcap,.bool v.ar,.int .i64 v.fi,v.bW,v.bS,v.bL,v.bO] 94 (0,0))):=zg HB1.o _;have HT2:Hd (Turn (fun b=>b=P\/lH (.slice pa np pcap)=some b) w (w1.setCell ⟨P,1,none⟩ (.slice (some ⟨g1,0,none⟩) 1 cap1))):=lQ (S:=fun b=>b=P\/lH (.slice pa np pcap)=some b) (p:=⟨P,1,none⟩) (lM HX1.o) (fun _=>.inl rfl) _;have HW2:Hd ((w1.setCell ⟨P,1,none⟩ (.slice (some ⟨g1,0,none⟩) 1 cap1)).cell? ⟨g1,0,none⟩=some (.pointer (some ⟨q,0,none⟩))/\w.heap.size<=g1/\g1<(w1.setCell ⟨P,1,none⟩ (.slice (some ⟨g1,0,none⟩) 1 cap1)).heap.size):=by have hg:=lR.lt HW1.o g1 rfl;exact⟨(lX w1 ⟨P,1,none⟩ ⟨g1,0,none⟩ _ (by show P≠g1;omega)).trans (zk HW1.o rfl),hg.1,by simpa using hg.2⟩
 have HP2:Hd ((w1.setCell ⟨P,1,none⟩ (.slice (some ⟨g1,0,none⟩) 1 cap1)).ownsRow 0 100 4 (.slice pa np pcap) np css.flatten):=zi (HX1.o.owns HPR.o) HPP.o _;generalize rC w1 _ _=W at HB2 HT2 HW2 HP2 ⊢
 go_loopw [4] (fun at_ wr=>∃(j:Nat) (cs':List (List Value)),j<=np/\at_=.int .i64 (j:Int)/\wr.heap[P]?=some (.cells #[.pointer (some ⟨B,0,none⟩),.slice (some ⟨g1,0,none⟩) 1 cap1,.slice none 0 0,v.ov,.slice pa np pcap,.bool v.ar,.int .i64 v.fi,v.bW,v.bS,v.bL,v.bO] 94 (0,0))/\wr.ownsRow 0 100 4 (.slice pa np pcap) np cs'.flatten/\cs'.length=np/\(∀cc∈cs',PartIs wr (fun b=>G b\/w.heap.size<=b/\b<wr.heap.size) cc)/\Turn (fun b=>b=P\/lH (.slice pa np pcap)=some b) w wr/\wr.cell? ⟨g1,0,none⟩=some (.pointer (some ⟨q,0,none⟩))/\g1<wr.heap.size) (fun at_ _=>np - (intOf at_).toNat)
 case atStart=>
  refine⟨0,css,Nat.zero_le _,rfl,HB2.o,HP2.o,HPI.o.1,fun cc hcc=>((HPI.o.2 cc hcc).turn HT2.o (fun b hb hor=>?_)).mono (fun b hb=>.inl hb),HT2.o,HW2.o.1,HW2.o.2.2⟩;rcases hor with e|e
  ·exact H.o.apart b (.inl e) hb
  ·exact H.o.apart b (.inr (.inl (by rw [HPV.o];exact e))) hb
 case round=>
  obtain⟨j,cs',hj,rfl,hb,hpr,hcl,hpi,ht,hg1,hg1l⟩:=hrel;have HBr:=hid hb;have HPr:=hid hpr;have HPi:Hd (cs'.length=np/\∀cc∈cs',PartIs wr (fun b=>G b\/w.heap.size<=b/\b<wr.heap.size) cc):=⟨hcl,hpi⟩
  have HTr:=hid ht;have HG1:Hd (wr.cell? ⟨g1,0,none⟩=some (.pointer (some ⟨q,0,none⟩))/\g1<wr.heap.size):=⟨hg1,hg1l⟩
  have d4:wr.cell? ⟨P,4,none⟩=some (.slice pa np pcap):=zc hb rfl;have hPlr:=lG wr _ d4;have hwr:=ht.size;by_cases hlt:j<np
  ·obtain⟨pg,rfl⟩:∃g,pa=some ⟨g,0,none⟩:=by
    rcases zw hpr with⟨_,h2,_⟩|⟨g,c,h1,_⟩
    ·omega
    ·injection h1 with e1 _ _
     exact⟨g,e1⟩
   have hjl:j<cs'.length:=by omega
   have H4:Hd (∀cc∈cs',cc.length=4):=fun cc hcc=>by obtain⟨_,_,_,_,_,e,_⟩:=hpi cc hcc;rw [e];rfl
   obtain⟨pf,pt,pw,pd,pq,hcs,gj,cj,rfl,hgj,hcj⟩:=hpi cs'[j] (List.getElem_mem hjl);have hcsj:cs'[j]?=some [.int .i64 pf,.int .i64 pt,.slice (some ⟨gj,0,none⟩) 1 cj,.bool pd]:=by rw [List.getElem?_eq_getElem hjl,hcs]
   have dw:wr.cell? ⟨pg,j*4+2,none⟩=some (.slice (some ⟨gj,0,none⟩) 1 cj):=zk hpr ((uX H4.o j 2 (by omega) hcsj).trans rfl);have fw:wr.frozen? ⟨pg,j*4+2,none⟩=false:=by obtain⟨cur,hcu⟩:=zf hpr (g:=pg) rfl;exact ze hcu _
   have hgwr:wr.cell? ⟨gw,0,none⟩=some (.int .i64 0):=ht.cell HGW.o.2.2 (fun hor=>hor.elim (fun e=>HGW.o.1 e) (fun e=>HGW.o.2.1 e));have HCJ:=hid hcsj;have HOJ:Hd (∀w',Ext wr w'->_):=fun w' hx=>kC gj gw 1 cj cw (.pointer (some ⟨pq,0,none⟩)) rfl (lO _) w' (hx.cell hcj) (hx.cell hgwr) ⟨_,rfl⟩
   have hk0:(0:Int)<=(j:Int):=by omega
   have hk1:(j:Int)<np:=by omega
   have hpgl:=lG wr _ dw;have hpgP:pg≠P:=fun e=>HPP.o (by rw [e];rfl)
   clear hb hpr hcl hpi ht hg1 hg1l hcs hgj hcj hcsj hgwr;go_wp2_with fail
   refine wp_region_held_drew (S:=(fun w'=>w'.cell? ⟨P,4,none⟩=some (.slice (some ⟨pg,0,none⟩) np pcap))) (by kernel_rfl) d4 (fun hHeld=>?_);refine zT 0 hHeld ?_;refine zT 1 hHeld ?_;refine zT 2 hHeld ?_;refine zT 3 hHeld ?_;refine zT 4 hHeld ?_;refine zT 5 hHeld ?_;refine zT 6 hHeld ?_;refine zT 7 hHeld ?_;refine zT 8 hHeld ?_;refine zT 9 hHeld ?_;refine zT 10 hHeld ?_;refine zT 11 hHeld ?_;refine zT 13 hHeld ?_
   try simp only [Act.put,lA,lB,lC,lD,lE,lF]
   refine zR 12 fun K hK=>?_
   (try simp only [lA,lB,lC])
   go_simp;refine hK.out _ _ ?hs1 (fun hHeld=>?_)
   case hs1=>exact d4
   clear hK K
   try simp only [Act.put,lA,lB,lC,lD,lE,lF]
   refine zR 14 fun K hK=>?_
   (try simp only [lA,lB,lC])
   go_simp;refine(HOJ.o _ (lJ (lI _))).mono ?_;rintro e w3 ⟨g3,cap3,rfl,hown3,hx3⟩;have HX3:Hd (Ext wr w3):=(lJ (lI wr)).trans hx3;have HO3:Hd (w3.ownsRow wr.heap.size 95 1 (.slice (some ⟨g3,0,none⟩) 1 cap3) 1 [.pointer (some ⟨pq,0,none⟩)]):=hown3;have d4:=HX3.o.cell d4;have dw:=HX3.o.cell dw;have fw:w3.frozen? ⟨pg,j*4+2,none⟩=false:=by obtain⟨cur,hcu⟩:=zf (HX3.o.owns HPr.o) (g:=pg) rfl;exact ze hcu _
   have hpg3:=lG w3 _ dw;clear hown3 hx3;refine hK.out _ _ ?hs2 (fun hHeld=>?_)
   case hs2=>exact d4
   clear hK K
   try simp only [Act.put,lA,lB,lC,lD,lE,lF]
   refine zT 15 hHeld ?_;refine zT 16 hHeld ?_;refine zR 17 fun K hK=>?_
   (try simp only [lA,lB,lC])
   go_simp;refine hK.out _ _ ?hs3 (fun hHeld=>?_)
   case hs3=>exact(lX w3 ⟨pg,j*4+2,none⟩ ⟨P,4,none⟩ _ hpgP).trans d4
   clear hK K
   try simp only [Act.put,lA,lB,lC,lD,lE,lF]
   refine wpAnyH_done (by kernel_rfl) ?_ _;go_wp2
   go_roundw
   case rel=>
    have hT:Turn (fun b=>b=P\/lH (.slice (some ⟨pg,0,none⟩) np pcap)=some b) wr (w3.setCell ⟨pg,j*4+2,none⟩ (.slice (some ⟨g3,0,none⟩) 1 cap3)):=lQ (S:=fun b=>b=P\/lH (.slice (some ⟨pg,0,none⟩) np pcap)=some b) (p:=⟨pg,j*4+2,none⟩) (lM HX3.o) (fun _=>.inr rfl) _;have hbb:(w3.setCell ⟨pg,j*4+2,none⟩ (.slice (some ⟨g3,0,none⟩) 1 cap3)).heap[P]?=some (.cells #[.pointer (some ⟨B,0,none⟩),.slice (some ⟨g1,0,none⟩) 1 cap1,.slice none 0 0,v.ov,.slice (some ⟨pg,0,none⟩) np pcap,.bool v.ar,.int .i64 v.fi,v.bW,v.bS,v.bL,v.bO] 94 (0,0)):=(lQ (S:=fun b=>b=pg) (p:=⟨pg,j*4+2,none⟩) (Turn.refl _ w3) (fun _=>rfl) _).ref (HX3.o.block HBr.o) (fun e=>hpgP e.symm);have hoo:=zI (HX3.o.owns HPr.o) (j*4+2) (.slice (some ⟨g3,0,none⟩) 1 cap3);rw [<-Vp H4.o j 2 (by omega) HCJ.o] at hoo;have hg3:=lR.lt HO3.o g3 rfl;have hpgw:=zx HPr.o (g:=pg) rfl;have hc3:(w3.setCell ⟨pg,j*4+2,none⟩ (.slice (some ⟨g3,0,none⟩) 1 cap3)).cell? ⟨g3,0,none⟩=some (.pointer (some ⟨pq,0,none⟩)):=(lX w3 ⟨pg,j*4+2,none⟩ ⟨g3,0,none⟩ _ (by show pg≠g3;omega)).trans (zk HO3.o rfl);have hwsz:=HTr.o.size;have hsz3:(w3.setCell ⟨pg,j*4+2,none⟩ (.slice (some ⟨g3,0,none⟩) 1 cap3)).heap.size=w3.heap.size:=by simp
    have hx3l:=HX3.o.le;have hpgold:pg<w.heap.size:=zx HPR.o (g:=pg) rfl;refine⟨j+1,cs'.set j ([.int .i64 pf,.int .i64 pt,.slice (some ⟨gj,0,none⟩) 1 cj,.bool pd].set 2 (.slice (some ⟨g3,0,none⟩) 1 cap3)),by omega,by go_num,hbb,hoo,by rw [List.length_set];exact HPi.o.1,fun cc hcc=>?_,HTr.o.trans hT,?_,by have:=HG1.o.2;omega⟩
    ·rcases List.mem_or_eq_of_mem_set hcc with hcc|hcc
     ·refine((HPi.o.2 cc hcc).turn hT (fun b hb hor=>?_)).mono (fun b hb=>hb.imp id (fun e=>⟨e.1,by omega⟩));rcases hb with hb|hb
      ·rcases hor with e|e
       ·exact H.o.apart b (.inl e) hb
       ·exact H.o.apart b (.inr (.inl (by rw [HPV.o];exact e))) hb
      ·rcases hor with e|e
       ·omega
       ·have:=zx HPR.o e;omega
     ·rw [hcc];exact⟨pf,pt,.slice (some ⟨g3,0,none⟩) 1 cap3,pd,pq,rfl,g3,cap3,rfl,.inr ⟨by omega,by omega⟩,hc3⟩
    ·refine hT.cell HG1.o.1 (fun hor=>?_);have:=HW2.o.2.1;rcases hor with e|e
     ·simp only at e;omega
     ·have:=zx HPR.o e;simp only at this;omega
   case measure=>simp [intOf];omega
  ·obtain rfl:j=np:=by omega
   clear hb hpr hcl hpi ht hg1 hg1l hlt hj;go_wp2;go_end0;have hT:Turn (fun b=>b=P\/v.pv.ownBlock=some b) w wr:=by rw [HPV.o];exact HTr.o
   have hfin:=H.o.upd (G':=fun b=>G b\/w.heap.size<=b/\b<wr.heap.size) (wv':=.slice (some ⟨g1,0,none⟩) 1 cap1) (pv':=.slice pa j pcap) (q':=q) (c':=c) (np':=j) (S':=S) (ls':=ls) hT HBr.o (fun b hb=>.inl hb) (fun b hb=>hb.imp id (fun e=>⟨e.1,e.2,fun e2=>by have:=zx HPR.o e2;omega⟩)) ⟨g1,cap1,rfl,.inr ⟨HW2.o.2.1,HG1.o.2⟩,HG1.o.1⟩ ((H.o.ref.turn hT (fun b hb hor=>hor.elim (fun e=>H.o.apart b (.inl e) hb) (fun e=>H.o.apart b (.inr (.inl e)) hb))).mono (fun b hb=>.inl hb)) ⟨cs',HPr.o,HPi.o.1,HPi.o.2⟩ HNP.o (lO _) (fun b hb=>.inl (by rw [HPV.o];exact hb));exact⟨rfl,_,_,hfin.1,hfin.2,rfl,rfl⟩
end
end
section
section
variable {w:World}{P B q c:Nat}{G F:Nat->Prop}{v:GV}{S:List Stk}{ls:List LsV}{ops0:List OpV}{fl:Bool}{ah:Int}
theorem GameOf.more {G':Nat->Prop}(h:GameOf w P B G v q S ls ops0 c)(hsub:∀b,G b->G' b)(hlt:∀b,G' b->b<w.heap.size)(ha:∀b,yZ P v b->¬G' b):GameOf w P B G' v q S ls ops0 c where
 blk:=h.blk
 wrow:=h.wrow.mono hsub
 ref:=h.ref.mono hsub
 orow:=h.orow.mono hsub
 prow:=let ⟨np,h1,h2⟩:=h.prow;⟨np,h1,h2.mono hsub⟩
 bW:=let ⟨m,h1,h2⟩:=h.bW;⟨m,h1,h2.mono hsub⟩
 bS:=let ⟨m,h1,h2⟩:=h.bS;⟨m,h1,h2.mono hsub⟩
 bL:=let ⟨m,h1,h2⟩:=h.bL;⟨m,h1,h2.mono hsub⟩
 bO:=let ⟨m,h1,h2⟩:=h.bO;⟨m,h1,h2.mono hsub⟩
 ltG:=hlt
 apart:=ha
theorem GameOf.count {c':Nat}(h:GameOf w P B G v q S ls ops0 c)(hc:c<=c'):GameOf w P B G v q S ls ops0 c' where
 blk:=h.blk
 wrow:=h.wrow
 ref:=h.ref
 orow:=h.orow
 prow:=let ⟨np,h1,h2⟩:=h.prow;⟨np,by omega,h2⟩
 bW:=let ⟨m,h1,h2⟩:=h.bW;⟨m,by omega,h2⟩
 bS:=let ⟨m,h1,h2⟩:=h.bS;⟨m,by omega,h2⟩
 bL:=let ⟨m,h1,h2⟩:=h.bL;⟨m,by omega,h2⟩
 bO:=let ⟨m,h1,h2⟩:=h.bO;⟨m,by omega,h2⟩
 ltG:=h.ltG
 apart:=h.apart
theorem jT:(Tryz.prog.info? 3).map (fun i=>(i.zero,i.size,i.bytes))=some (some (.int .i64 0),1,8):=by kernel_rfl
theorem UI {R:List StkR}{ls':List LsV}{ops new:List OpV}(A:Ans)(h:GameOf w P B G v q S ls ops0 c)(hc:c<=900000)(hst:StoreOk w B F R ls' ops fl ah)(hF:Far F G P v)(hn:ops.length<=1000000)(hnew:ops=ops0++new)(hno:A.next=none->new=[])(hyes:∀S' ls'',A.next=some (S',ls'')->new≠[]/\A.c=0)(hfi:v.ar=true->(new.length:Int)<=v.fi/\v.fi<=9223372036854775807)(hbr:A.c≠10)(kk s i kd m k n f cc pp:Int)(hR:∀w',Ext w w'->Calls Tryz.prog 149 #[.pointer (some ⟨q,0,none⟩),zN kk s i kd m k n f cc pp] w' fun e w''=>∃pv v,e=.returned (.tuple #[pv,zr A.c A.f A.n v])/\RefSo G A w' w'' pv v)(ra:Option Addr)(zl rc:Nat)(hzl:A.zs.length=zl)(hzb:zl<=100000000)(hrd:RdRow w ra zl (A.zs.map (Value.int .u64))) :
  Calls Tryz.prog 105 #[.pointer (some ⟨P,0,none⟩),zN kk s i kd m k n f cc pp,zr A.c A.f A.n (.slice ra zl rc)] w fun e w'=>e=.returned (.bool true)/\∃v' G' q',GameOf w' P B G' v' q' (A.next.getD (S,ls)).1 (A.next.getD (S,ls)).2 ops (c+2)/\GStep (fun b=>w.heap.size<=b) w w' P v v' G G'/\v'.ar=v.ar/\v'.fi=Zr v.ar v.fi new.length:=by
 obtain⟨i0,hi,hz0,hz1,hz2⟩:=info_parts jT;obtain⟨j0,hj0,hy0,hy1,hy2⟩:=info_parts Q7;have H:=hid h;have HST:Hd (StoreOk w B F R ls' ops fl ah/\Far F G P v/\ops.length<=1000000/\ops=ops0++new/\(A.next=none->new=[])/\(∀S' ls'',A.next=some (S',ls'')->new≠[]/\A.c=0)):=⟨hst,hF,hn,hnew,hno,hyes⟩
 have HFI:=hid hfi;obtain⟨gl,lcap,hwv,hgl,hlc⟩:=h.wrow;have hblk:=h.blk;unfold Zp at hblk;rw [hwv] at hblk;have c1:w.cell? ⟨P,1,none⟩=some (.slice (some ⟨gl,0,none⟩) 1 lcap):=zc hblk rfl;have hPl:=lG w _ c1;have hgll:=lG w _ hlc;have HR:=hid hR;have HNu:Hd (∀w',_):=fun w'=>xD A.c w'
 have HSR:Hd (∀w' ra2 rc2,Ext w w'->RdRow w' ra2 zl (A.zs.map (Value.int .u64))->Calls Tryz.prog 109 #[.agg #[.int .i64 A.c,.int .i64 A.f,.int .i64 A.n,.slice ra zl rc],.agg #[.int .i64 A.c,.int .i64 A.f,.int .i64 A.n,.slice ra2 zl rc2]] w' fun e w''=>e=.returned (.bool true)/\Ext w' w''):=fun w' ra2 rc2 hx h2=>by have:=qK A.c A.f A.n A.zs (by omega) ra ra2 rc rc2 w' (by rw [hzl];exact hrd.ext hx) (by rw [hzl];exact h2);rw [hzl] at this;exact this
 have hb10:(A.c == 10)=false:=by simpa using hbr
 have HZL:=hid hzl;clear h hst hF hn hnew hno hyes hfi hR hwv hgl hblk hrd hbr hzl;unfold zr zN at *;go_enter func105,ntmps105;go_wp2_with fail
 have hreq:((w.alloc (.cells #[.int .i64 kk,.int .i64 s,.int .i64 i,.int .i64 kd,.int .i64 m,.int .i64 k,.int .i64 n,.int .i64 f,.int .i64 cc,.int .i64 pp] 51)).alloc (.cells #[.int .i64 A.c,.int .i64 A.f,.int .i64 A.n,.slice ra zl rc] 33)).heap[w.heap.size]?=some (.cells #[.int .i64 kk,.int .i64 s,.int .i64 i,.int .i64 kd,.int .i64 m,.int .i64 k,.int .i64 n,.int .i64 f,.int .i64 cc,.int .i64 pp] 51 (0,0)):=zC (heap_alloc_new _ _);have hrep:((w.alloc (.cells #[.int .i64 kk,.int .i64 s,.int .i64 i,.int .i64 kd,.int .i64 m,.int .i64 k,.int .i64 n,.int .i64 f,.int .i64 cc,.int .i64 pp] 51)).alloc (.cells #[.int .i64 A.c,.int .i64 A.f,.int .i64 A.n,.slice ra zl rc] 33)).heap[w.heap.size+1]?=some (.cells #[.int .i64 A.c,.int .i64 A.f,.int .i64 A.n,.slice ra zl rc] 33 (0,0)):=zm (by simp);have hXW:Ext w ((w.alloc (.cells #[.int .i64 kk,.int .i64 s,.int .i64 i,.int .i64 kd,.int .i64 m,.int .i64 k,.int .i64 n,.int .i64 f,.int .i64 cc,.int .i64 pp] 51)).alloc (.cells #[.int .i64 A.c,.int .i64 A.f,.int .i64 A.n,.slice ra zl rc] 33)):=((lI w).alloc _).alloc _;generalize lP (lP w _) _=W at hreq hrep hXW ⊢;have p0:W.cell? ⟨w.heap.size+1,0,none⟩=some (.int .i64 A.c):=zc hrep rfl;have HRQ:=hid hreq;have HRP:=hid hrep;have HXW:=hid hXW;have hpl0:=lG W _ p0;have c1W:=hXW.cell c1;have hlcW:=hXW.cell hlc;clear hreq hrep hXW;go_wp2_with fail
 refine(HNu.o _).mono ?_;rintro e w0 ⟨rfl,rfl⟩;go_wp2_with fail
 refine wp_loop_rounds 2 ?_;rw [rounds_succ];have r0:W.cell? ⟨w.heap.size,0,none⟩=some (.int .i64 kk):=zc HRQ.o rfl;have r1:W.cell? ⟨w.heap.size,1,none⟩=some (.int .i64 s):=zc HRQ.o rfl;have r2:W.cell? ⟨w.heap.size,2,none⟩=some (.int .i64 i):=zc HRQ.o rfl;have r3:W.cell? ⟨w.heap.size,3,none⟩=some (.int .i64 kd):=zc HRQ.o rfl;have r4:W.cell? ⟨w.heap.size,4,none⟩=some (.int .i64 m):=zc HRQ.o rfl;have r5:W.cell? ⟨w.heap.size,5,none⟩=some (.int .i64 k):=zc HRQ.o rfl;have r6:W.cell? ⟨w.heap.size,6,none⟩=some (.int .i64 n):=zc HRQ.o rfl;have r7:W.cell? ⟨w.heap.size,7,none⟩=some (.int .i64 f):=zc HRQ.o rfl;have r8:W.cell? ⟨w.heap.size,8,none⟩=some (.int .i64 cc):=zc HRQ.o rfl;have r9:W.cell? ⟨w.heap.size,9,none⟩=some (.int .i64 pp):=zc HRQ.o rfl;have SF:Hd (∀w',Ext W w'->(fun w'=>w'.cell? ⟨P,1,none⟩=some (.slice (some ⟨gl,0,none⟩) 1 lcap)/\w'.cell? ⟨gl,0,none⟩=some (.pointer (some ⟨q,0,none⟩))/\w'.cell? ⟨w.heap.size,0,none⟩=some (.int .i64 kk)/\w'.cell? ⟨w.heap.size,1,none⟩=some (.int .i64 s)/\w'.cell? ⟨w.heap.size,2,none⟩=some (.int .i64 i)/\w'.cell? ⟨w.heap.size,3,none⟩=some (.int .i64 kd)/\w'.cell? ⟨w.heap.size,4,none⟩=some (.int .i64 m)/\w'.cell? ⟨w.heap.size,5,none⟩=some (.int .i64 k)/\w'.cell? ⟨w.heap.size,6,none⟩=some (.int .i64 n)/\w'.cell? ⟨w.heap.size,7,none⟩=some (.int .i64 f)/\w'.cell? ⟨w.heap.size,8,none⟩=some (.int .i64 cc)/\w'.cell? ⟨w.heap.size,9,none⟩=some (.int .i64 pp)) w'):=fun w' hx=>⟨hx.cell c1W,hx.cell hlcW,zc (hx.block HRQ.o) rfl,zc (hx.block HRQ.o) rfl,zc (hx.block HRQ.o) rfl,zc (hx.block HRQ.o) rfl,zc (hx.block HRQ.o) rfl,zc (hx.block HRQ.o) rfl,zc (hx.block HRQ.o) rfl,zc (hx.block HRQ.o) rfl,zc (hx.block HRQ.o) rfl,zc (hx.block HRQ.o) rfl⟩
 have hS0:=SF.o W (lI _);go_wp2_with fail
 refine wp_region_held_drew (S:=(fun w'=>w'.cell? ⟨P,1,none⟩=some (.slice (some ⟨gl,0,none⟩) 1 lcap)/\w'.cell? ⟨gl,0,none⟩=some (.pointer (some ⟨q,0,none⟩))/\w'.cell? ⟨w.heap.size,0,none⟩=some (.int .i64 kk)/\w'.cell? ⟨w.heap.size,1,none⟩=some (.int .i64 s)/\w'.cell? ⟨w.heap.size,2,none⟩=some (.int .i64 i)/\w'.cell? ⟨w.heap.size,3,none⟩=some (.int .i64 kd)/\w'.cell? ⟨w.heap.size,4,none⟩=some (.int .i64 m)/\w'.cell? ⟨w.heap.size,5,none⟩=some (.int .i64 k)/\w'.cell? ⟨w.heap.size,6,none⟩=some (.int .i64 n)/\w'.cell? ⟨w.heap.size,7,none⟩=some (.int .i64 f)/\w'.cell? ⟨w.heap.size,8,none⟩=some (.int .i64 cc)/\w'.cell? ⟨w.heap.size,9,none⟩=some (.int .i64 pp))) (by kernel_rfl) hS0 (fun hHeld=>?_);refine zT 0 hHeld ?_;refine zT 1 hHeld ?_;refine zT 2 hHeld ?_;refine zT 3 hHeld ?_;refine zT 4 hHeld ?_;refine zT 5 hHeld ?_;refine zT 6 hHeld ?_;refine zT 7 hHeld ?_;refine wpAnyH_ready (rs:=[8,12]) (by kernel_rfl) (by simp) ?_;refine sD (o:=_) rfl (fun K hK=>?_) (sD (o:=_) rfl (fun K hK=>?_) AllReadyH.nil)
 ·skip
  (try simp only [lA,lB,lC])
  go_simp;refine(HR.o _ (HXW.o.trans (lJ (lI W)))).mono ?_;rintro e w2 ⟨pv,rv,rfl,hso⟩;have hrow:=hso.row;rw [HZL.o] at hrow;obtain⟨ra2,rc2,rfl⟩:=zo hrow;obtain⟨pa,rfl⟩:∃pa,pv=.pointer pa:=by rcases hso.next with⟨_,e⟩|⟨_,_,_,_,e,_⟩<;>exact⟨_,e⟩
  have HSO:=hid hso;have HX2:Hd (Ext W w2):=(lJ (lI W)).trans hso.ext;have HRW:Hd (RdRow w2 ra2 zl (A.zs.map (Value.int .u64))):=yz hrow;clear hso hrow;refine hK.out _ _ ?hc2 (fun hHeld=>?_)
  case hc2=>exact SF.o _ HX2.o
  clear hK K
  try simp only [Act.put,lA,lB,lC,lD,lE,lF]
  refine zT 9 hHeld ?_;refine zT 10 hHeld ?_;refine zT 11 hHeld ?_;refine zR 12 fun K hK=>?_
  (try simp only [lA,lB,lC])
  go_simp;have HZB:Hd ((w2.alloc (.cells #[.int .i64 0,.int .i64 0,.int .i64 0,.slice none 0 0] 33)).heap[w2.heap.size]?=some (.cells #[.int .i64 0,.int .i64 0,.int .i64 0,.slice none 0 0] 33 (0,0))):=heap_alloc_new _ _;have HX2a:Hd (Ext w2 (w2.alloc (.cells #[.int .i64 0,.int .i64 0,.int .i64 0,.slice none 0 0] 33))):=(lI _).alloc _;refine hK.out _ _ ?hc3 (fun hHeld=>?_)
  case hc3=>exact SF.o _ (HX2.o.trans HX2a.o)
  clear hK K
  try simp only [Act.put,lA,lB,lC,lD,lE,lF]
  refine zT 13 hHeld ?_
  try simp only [Act.put,lA,lB,lC,lD,lE,lF]
  obtain⟨gb,hgb⟩:∃gb,w2.heap.size=gb:=⟨_,rfl⟩
  simp only [hgb] at HZB ⊢;generalize lP w2 _=w2a at HZB HX2a hHeld ⊢;have z0:w2a.cell? ⟨gb,0,none⟩=some (.int .i64 0):=zc HZB.o rfl;have z1:w2a.cell? ⟨gb,1,none⟩=some (.int .i64 0):=zc HZB.o rfl;have z2:w2a.cell? ⟨gb,2,none⟩=some (.int .i64 0):=zc HZB.o rfl;have z3:w2a.cell? ⟨gb,3,none⟩=some (.slice none 0 0):=zc HZB.o rfl;have y0:=ze HZB.o 0;have y1:=ze HZB.o 1;have y2:=ze HZB.o 2;have y3:=ze HZB.o 3;have hzl':=lG w2a _ z0;refine zR 14 fun K hK=>?_
  (try simp only [lA,lB,lC])
  go_simp;have HGB:Hd (((((w2a.setCell ⟨gb,0,none⟩ (.int .i64 A.c)).setCell ⟨gb,1,none⟩ (.int .i64 A.f)).setCell ⟨gb,2,none⟩ (.int .i64 A.n)).setCell ⟨gb,3,none⟩ (.slice ra2 zl rc2)).heap[gb]?=some (.cells #[.int .i64 A.c,.int .i64 A.f,.int .i64 A.n,.slice ra2 zl rc2] 33 (0,0))):=zg (zg (zg (zg HZB.o _) _) _) _;have HT3:Hd (Turn (fun b=>b=gb) w2 ((((w2a.setCell ⟨gb,0,none⟩ (.int .i64 A.c)).setCell ⟨gb,1,none⟩ (.int .i64 A.f)).setCell ⟨gb,2,none⟩ (.int .i64 A.n)).setCell ⟨gb,3,none⟩ (.slice ra2 zl rc2))):=yr HX2a.o _ _ _ _;refine hK.out _ _ ?hc4 (fun hHeld=>?_)
  case hc4=>
   have hgW:W.heap.size<=gb:=by rw [<-hgb];exact HX2.o.le
   exact SF.o _ (Z9 (HX2.o.trans HX2a.o) hgW _ _ _ _)
  clear hK K
  try simp only [Act.put,lA,lB,lC,lD,lE,lF]
  refine wpAnyH_done (by kernel_rfl) ?_ _;have HW3:Hd (Ext W ((((w2a.setCell ⟨gb,0,none⟩ (.int .i64 A.c)).setCell ⟨gb,1,none⟩ (.int .i64 A.f)).setCell ⟨gb,2,none⟩ (.int .i64 A.n)).setCell ⟨gb,3,none⟩ (.slice ra2 zl rc2))):=Z9 (HX2.o.trans HX2a.o) (by rw [<-hgb];exact HX2.o.le) _ _ _ _;have HGBn:=hid hgb;generalize rC (rC (rC (rC w2a _ _) _ _) _ _) _ _=w3 at HGB HT3 HW3 hHeld ⊢;have HRD:Hd (RdRow w3 ra2 zl (A.zs.map (Value.int .u64))):=by
   have h1:=HRW.o;rcases h1 with h1|⟨g,e,h1⟩
   ·exact .inl h1
   ·refine .inr ⟨g,e,fun a u hu=>HT3.o.cell (h1 a u hu) (fun e2=>?_)⟩;have h3:g=gb:=e2;have h4:g<w2.heap.size:=lG w2 _ (h1 a u hu);have:=HGBn.o;omega
  clear z0 z1 z2 z3 y0 y1 y2 y3 hzl' hgb;have HNX:Hd ((A.next=none/\pa=none)\/∃S' ls' q',A.next=some (S',ls')/\pa=some ⟨q',0,none⟩/\RefAt w3 (fun b=>G b\/w.heap.size<=b/\b<w3.heap.size) q' S' ls'):=by
   have hWl:=HXW.o.le;have hW.drew:w.heap.size<=W.drew.heap.size:=rH hWl (lJ (lI W)).le;rcases HSO.o.next with⟨h1,h2⟩|⟨S',ls'',q',h1,h2,h3⟩
   ·exact .inl ⟨h1,by injection h2⟩
   ·refine .inr ⟨S',ls'',q',h1,by injection h2,(h3.turn HT3.o (fun b hb e=>?_)).mono (fun b hb=>?_)⟩
    ·have hgb':=HGBn.o;have hbl:b<w2.heap.size:=by
      rcases hb with hb|hb
      ·have h1:=H.o.ltG b hb;have h2:=(HXW.o.trans HX2.o).le;omega
      ·exact hb.2
     omega
    ·rcases hb with hb|hb
     ·exact .inl hb
     ·exact .inr ⟨by omega,rA hb.2 HT3.o.size⟩
  have HX3:Hd (Ext w w3):=HXW.o.trans HW3.o;have p0:w3.cell? ⟨w.heap.size+1,0,none⟩=some (.int .i64 A.c):=zc (HW3.o.block HRP.o) rfl;have p1:w3.cell? ⟨w.heap.size+1,1,none⟩=some (.int .i64 A.f):=zc (HW3.o.block HRP.o) rfl;have p2:w3.cell? ⟨w.heap.size+1,2,none⟩=some (.int .i64 A.n):=zc (HW3.o.block HRP.o) rfl;have p3:w3.cell? ⟨w.heap.size+1,3,none⟩=some (.slice ra zl rc):=zc (HW3.o.block HRP.o) rfl;have b0:w3.cell? ⟨gb,0,none⟩=some (.int .i64 A.c):=zc HGB.o rfl;have b1:w3.cell? ⟨gb,1,none⟩=some (.int .i64 A.f):=zc HGB.o rfl;have b2:w3.cell? ⟨gb,2,none⟩=some (.int .i64 A.n):=zc HGB.o rfl;have b3:w3.cell? ⟨gb,3,none⟩=some (.slice ra2 zl rc2):=zc HGB.o rfl;have c13:=HW3.o.cell c1W;have hPl3:=lG w3 _ c13;have hpl3:=lG w3 _ p0;have hbl3:=lG w3 _ b0;clear hHeld;go_wp2_with fail
  refine(HSR.o _ ra2 rc2 HX3.o HRD.o).mono ?_;rintro e w4 ⟨rfl,hx4⟩;have HX4:Hd (Ext w w4):=HX3.o.trans hx4;have HX34:=hid hx4;have c14:=hx4.cell c13;have hle4:=HX4.o.le;clear hx4 b0 b1 b2 b3 p0 p1 p2 p3;go_wp2_with (at_builtin;refine wpList_append_lies _ rfl _ _ 101 rfl w.heap.size 3 i0 _ 1 8 underlying101 hi hz0 hz1 hz2 rfl (by decide) _ 0 [] rfl (rB _ _ _ _) ⟨_,0,none⟩ 1 1 [.int .i64 0] rfl rfl (rI (zm (by simp))) (by simp [Value.oneCell']) (by decide) (by simp [maxLen]) (by omega) (by simp;omega) _ rfl ?_)
  intro ga capa w5 hown5 hgrow5 hat5 hlt5;have HO5:Hd (w5.ownsRow w.heap.size 3 1 (.slice (some ⟨ga,0,none⟩) 1 capa) 1 [.int .i64 0]/\Ext w4 w5):=⟨by simpa using hown5,rG (lK (lI _) _) hgrow5 (by simp [lH])⟩
  have c15:=HO5.o.2.cell c14;have hle5:=HO5.o.2.le;clear hown5 hgrow5 hat5 hlt5;go_wp2_with (at_builtin;refine wpList_append_lies _ rfl _ _ 85 rfl w.heap.size 95 j0 _ 1 8 underlying85 hj0 hy0 hy1 hy2 rfl (by decide) _ 0 [] rfl (rB _ _ _ _) ⟨_,0,none⟩ 1 1 [.pointer pa] rfl rfl (rI (zm (by simp))) (by simp [Value.oneCell']) (by decide) (by simp [maxLen]) (by omega) (by simp;omega) _ rfl ?_)
  intro gN capN w6 hown6 hgrow6 hat6 hlt6;have HO6:Hd (w6.ownsRow w.heap.size 95 1 (.slice (some ⟨gN,0,none⟩) 1 capN) 1 [.pointer pa]/\Ext w5 w6):=⟨by simpa using hown6,rG (lK (lI _) _) hgrow6 (by simp [lH])⟩
  have c16:=HO6.o.2.cell c15;have hPl6:=lG w6 _ c16;have HX6:Hd (Ext w w6):=HX4.o.trans (HO5.o.2.trans HO6.o.2);have HX36:Hd (Ext w3 w6):=HX34.o.trans (HO5.o.2.trans HO6.o.2);clear hown6 hgrow6 hat6 hlt6 c13 c14 c15;go_wp2_with fail
  rw [rounds_succ];go_wp2_with fail
  have hsz6:=HX6.o.le;have HG6:Hd (GameOf w6 P B (fun b=>G b\/w.heap.size<=b/\b<w6.heap.size) v q S ls ops0 c):=(H.o.ext HX6.o).more (fun b hb=>.inl hb) (fun b hb=>hb.elim (fun h=>rA (H.o.ltG b h) hsz6) (fun h=>h.2)) (fun b hb hor=>hor.elim (H.o.apart b hb) (fun h=>by have:=H.o.lt hb;omega));have hST6:GStep (fun b=>w.heap.size<=b) w w6 P v v G (fun b=>G b\/w.heap.size<=b/\b<w6.heap.size):=⟨lM HX6.o,fun b hb=>.inl hb,fun b hb=>hb.imp id (fun h=>h.1),fun b hb=>.inl hb⟩
  have HS6:=hid hST6;clear hST6;refine(QF HG6.o hc ga capa (HO6.o.2.cell (zk HO5.o.1 rfl)) ?hnt).mono ?_
  case hnt=>
   obtain⟨cur,hcu⟩:=zf HO5.o.1 (g:=ga) rfl;exact⟨cur,HO6.o.2.block hcu⟩
  rintro e w7 ⟨rfl,v7,G7,hg7,hs7,har7,hfi7⟩;have HG7:=hid hg7;have HS7:=hid hs7;have hKeep:∀b,(G b\/w.heap.size<=b/\b<w6.heap.size)->¬(yZ P v b\/w6.heap.size<=b):=fun b hb hor=>by
   rcases hor with ho|ho
   ·exact HG6.o.apart b ho hb
   ·rcases hb with hb|hb
    ·have:=H.o.ltG b hb;omega
    ·omega
  have HKeep:Hd _:=hKeep;have hgN:=lR.lt HO6.o.1 gN rfl;have x0:w7.cell? ⟨gN,0,none⟩=some (.pointer pa):=hs7.turn.cell (zk HO6.o.1 rfl) (hKeep gN (.inr ⟨hgN.1,hgN.2⟩));have hWl2:w.heap.size+1<W.heap.size:=by have:=HRP.o;exact(Array.getElem?_eq_some_iff.1 this).1
  have hW6:W.heap.size<=w6.heap.size:=(HW3.o.trans HX36.o).le;have x1:w7.cell? ⟨w.heap.size+1,0,none⟩=some (.int .i64 A.c):=hs7.turn.cell (zc ((HW3.o.trans HX36.o).block HRP.o) rfl) (hKeep _ (.inr ⟨by simp,by show w.heap.size+1<w6.heap.size;omega⟩));have hPl7:P<w7.heap.size:=(Array.getElem?_eq_some_iff.1 hg7.blk).1;have hgN7:=lG w7 _ x0;have hx17:=lG w7 _ x1;have hs67:=hs7.turn.size;have HA7:Hd (v7.ar=v.ar/\v7.fi=v.fi):=⟨har7,hfi7⟩
  have HST7:Hd (StoreOk w7 B F R ls' ops fl ah/\Far F G7 P v7):=by have h1:=HST.o.1.step HS6.o HST.o.2.1 (fun b hb hl=>by have:=HST.o.1.lt b hb;omega);exact h1.1.step HS7.o h1.2 (fun b hb hl=>by have:=HST.o.1.lt b hb;omega)
  clear hg7 hs7 har7 hfi7 hKeep c16 c1W hlcW;rcases HNX.o with⟨hnx,rfl⟩|⟨S',ls2,q',hnx,rfl,href⟩
  ·have hnew0:ops=ops0:=by rw [HST.o.2.2.2.1,HST.o.2.2.2.2.1 hnx,rL]
   have HStl:Hd (∀w',w7=w'->_):=fun w' e=>by subst e;exact QB (R:=R) (ls':=ls') (F:=F) HG7.o hc (by rw [<-hnew0];exact HST7.o.1) (by rw [<-hnew0];exact HST.o.2.2.1)
   have HN0:Hd (A.next=none/\ops=ops0/\new=[]):=⟨hnx,hnew0,HST.o.2.2.2.2.1 hnx⟩
   clear hnx hnew0;go_wp2_with fail
   refine(HStl.o _ rfl).mono ?_;rintro e w8 ⟨rfl,v8,G8,hg8,hs8,_,_,ha8,hf8⟩;have HF:Hd _:=And.intro hg8 hs8;have HA8:Hd (v8.ar=v.ar/\v8.fi=v.fi):=⟨ha8.trans HA7.o.1,hf8.trans HA7.o.2⟩
   clear hg8 hs8 ha8 hf8;go_wp2;go_ret;refine⟨rfl,v8,G8,q,?_,(HS6.o.trans HS7.o (fun b hb=>by omega)).trans HF.o.2 (fun b hb=>by omega),HA8.o.1,by rw [HN0.o.2.2,List.length_nil,qQ];exact HA8.o.2⟩;rw [HN0.o.1,HN0.o.2.1];exact HF.o.1.count (by omega)
  ·obtain⟨hne,hc0⟩:=HST.o.2.2.2.2.2 S' ls2 hnx;have HN1:=hid hnx;have hone:OneIs w7 G7 (.slice (some ⟨gN,0,none⟩) 1 capN) q':=⟨gN,capN,rfl,HS7.o.sub gN (.inr ⟨hgN.1,hgN.2⟩),x0⟩
   have href7:RefAt w7 G7 q' S' ls2:=by have h1:RefAt w6 (fun b=>G b\/w.heap.size<=b/\b<w6.heap.size) q' S' ls2:=(href.turn (Sp:=fun _=>False) (lM HX36.o) (fun _ _=>id)).mono (fun b hb=>hb.imp id (fun h=>⟨h.1,rA h.2 HX36.o.le⟩));exact(h1.turn HS7.o.turn HKeep.o).mono HS7.o.sub
   have HCh:Hd (∀w',w7=w'->_):=fun w' e=>by subst e;exact Ys (R:=R) (F:=F) HG7.o hc HST7.o.1 HST.o.2.2.1 new HST.o.2.2.2.1 hne (by rw [HA7.o.1,HA7.o.2];exact HFI.o) _ q' S' hone href7 true
   have HNu0:Hd (∀w',_):=fun w'=>xD A.c w'
   have HC0:=hid hc0;clear hnx hne hone href7 href hc0;go_wp2_with fail
   refine(HNu0.o _).mono ?_;rintro e w8 ⟨rfl,rfl⟩;rw [HC0.o];go_wp2_with fail
   refine(HCh.o _ rfl).mono ?_;rintro e w8 ⟨rfl,v8,G8,hg8,hs8,ha8,hf8⟩;have HF:Hd _:=And.intro hg8 hs8;have HA8:Hd (v8.ar=v.ar/\v8.fi=Zr v.ar v.fi new.length):=⟨ha8.trans HA7.o.1,by rw [<-HA7.o.1,<-HA7.o.2];exact hf8⟩
   clear hg8 hs8 ha8 hf8;go_wp2;go_ret;refine⟨rfl,v8,G8,q',?_,(HS6.o.trans HS7.o (fun b hb=>by omega)).trans HF.o.2 (fun b hb=>by omega),HA8.o.1,HA8.o.2⟩;rw [HN1.o];exact HF.o.1.count (by omega)
 ·skip
  (try simp only [lA,lB,lC])
  go_simp;have HZ0:Hd ((W.alloc (.cells #[.int .i64 0,.int .i64 0,.int .i64 0,.slice none 0 0] 33)).drew.heap[W.heap.size]?=some (.cells #[.int .i64 0,.int .i64 0,.int .i64 0,.slice none 0 0] 33 (0,0))):=zy (heap_alloc_new _ _);have HXa:Hd (Ext W (W.alloc (.cells #[.int .i64 0,.int .i64 0,.int .i64 0,.slice none 0 0] 33)).drew):=lJ ((lI _).alloc _);obtain⟨gb,hgb⟩:∃gb,W.heap.size=gb:=⟨_,rfl⟩
  have HGBn:=hid hgb;simp only [hgb] at HZ0 ⊢;refine hK.out _ _ ?hd1 (fun hHeld=>?_)
  case hd1=>exact SF.o _ HXa.o
  clear hK K
  try simp only [Act.put,lA,lB,lC,lD,lE,lF]
  generalize World.drew (lP W _)=Wa at HZ0 HXa hHeld ⊢;refine zR 8 fun K hK=>?_
  (try simp only [lA,lB,lC])
  go_simp;refine(HR.o _ (HXW.o.trans HXa.o)).mono ?_;rintro e w2 ⟨pv,rv,rfl,hso⟩;have hrow:=hso.row;rw [HZL.o] at hrow;obtain⟨ra2,rc2,rfl⟩:=zo hrow;obtain⟨pa,rfl⟩:∃pa,pv=.pointer pa:=by rcases hso.next with⟨_,e⟩|⟨_,_,_,_,e,_⟩<;>exact⟨_,e⟩
  have HSO:=hid hso;have HX2:Hd (Ext W w2):=HXa.o.trans hso.ext;have HRW:Hd (RdRow w2 ra2 zl (A.zs.map (Value.int .u64))):=yz hrow;clear hso hrow;refine hK.out _ _ ?hc2 (fun hHeld=>?_)
  case hc2=>exact SF.o _ HX2.o
  clear hK K
  try simp only [Act.put,lA,lB,lC,lD,lE,lF]
  refine zT 9 hHeld ?_;refine zT 10 hHeld ?_;refine zT 11 hHeld ?_;refine zT 13 hHeld ?_;have HZB:=hid (HSO.o.ext.block HZ0.o);have z0:w2.cell? ⟨gb,0,none⟩=some (.int .i64 0):=zc HZB.o rfl;have z1:w2.cell? ⟨gb,1,none⟩=some (.int .i64 0):=zc HZB.o rfl;have z2:w2.cell? ⟨gb,2,none⟩=some (.int .i64 0):=zc HZB.o rfl;have z3:w2.cell? ⟨gb,3,none⟩=some (.slice none 0 0):=zc HZB.o rfl;have y0:=ze HZB.o 0;have y1:=ze HZB.o 1;have y2:=ze HZB.o 2;have y3:=ze HZB.o 3;have hzl':=lG w2 _ z0;refine zR 14 fun K hK=>?_
  (try simp only [lA,lB,lC])
  go_simp;have HGB:Hd (((((w2.setCell ⟨gb,0,none⟩ (.int .i64 A.c)).setCell ⟨gb,1,none⟩ (.int .i64 A.f)).setCell ⟨gb,2,none⟩ (.int .i64 A.n)).setCell ⟨gb,3,none⟩ (.slice ra2 zl rc2)).heap[gb]?=some (.cells #[.int .i64 A.c,.int .i64 A.f,.int .i64 A.n,.slice ra2 zl rc2] 33 (0,0))):=zg (zg (zg (zg HZB.o _) _) _) _;have HT3:Hd (Turn (fun b=>b=gb) w2 ((((w2.setCell ⟨gb,0,none⟩ (.int .i64 A.c)).setCell ⟨gb,1,none⟩ (.int .i64 A.f)).setCell ⟨gb,2,none⟩ (.int .i64 A.n)).setCell ⟨gb,3,none⟩ (.slice ra2 zl rc2))):=yr (lI _) _ _ _ _;have HW3:Hd (Ext W ((((w2.setCell ⟨gb,0,none⟩ (.int .i64 A.c)).setCell ⟨gb,1,none⟩ (.int .i64 A.f)).setCell ⟨gb,2,none⟩ (.int .i64 A.n)).setCell ⟨gb,3,none⟩ (.slice ra2 zl rc2))):=Z9 HX2.o (by rw [hgb];exact lO _) _ _ _ _;refine hK.out _ _ ?hd4 (fun hHeld=>?_)
  case hd4=>exact SF.o _ HW3.o
  clear hK K
  try simp only [Act.put,lA,lB,lC,lD,lE,lF]
  refine wpAnyH_done (by kernel_rfl) ?_ _;generalize rC (rC (rC (rC w2 _ _) _ _) _ _) _ _=w3 at HGB HT3 HW3 hHeld ⊢;have hgbW:gb<Wa.heap.size:=(Array.getElem?_eq_some_iff.1 HZ0.o).1;have HRD:Hd (RdRow w3 ra2 zl (A.zs.map (Value.int .u64))):=by
   have hrow:=HSO.o.row;rw [HZL.o] at hrow;exact yz (HT3.o.owns hrow (fun b hb e=>by have:=(lR.lt hrow b hb).1;omega))
  clear z0 z1 z2 z3 y0 y1 y2 y3 hzl' hgb;have HGBW:=hid hgbW;clear hgbW;have HNX:Hd ((A.next=none/\pa=none)\/∃S' ls' q',A.next=some (S',ls')/\pa=some ⟨q',0,none⟩/\RefAt w3 (fun b=>G b\/w.heap.size<=b/\b<w3.heap.size) q' S' ls'):=by
   have hWl:=HXW.o.le;have hWa:w.heap.size<=Wa.heap.size:=rH hWl HXa.o.le;rcases HSO.o.next with⟨h1,h2⟩|⟨S',ls'',q',h1,h2,h3⟩
   ·exact .inl ⟨h1,by injection h2⟩
   ·refine .inr ⟨S',ls'',q',h1,by injection h2,(h3.turn HT3.o (fun b hb e=>?_)).mono (fun b hb=>?_)⟩
    ·have hgb':=HGBn.o;have hgbl:=HGBW.o;rcases hb with hb|hb
     ·have h1:=H.o.ltG b hb;have h2:=HXW.o.le;omega
     ·have:=hb.1;omega
    ·rcases hb with hb|hb
     ·exact .inl hb
     ·exact .inr ⟨by omega,rA hb.2 HT3.o.size⟩
  have HX3:Hd (Ext w w3):=HXW.o.trans HW3.o;have p0:w3.cell? ⟨w.heap.size+1,0,none⟩=some (.int .i64 A.c):=zc (HW3.o.block HRP.o) rfl;have p1:w3.cell? ⟨w.heap.size+1,1,none⟩=some (.int .i64 A.f):=zc (HW3.o.block HRP.o) rfl;have p2:w3.cell? ⟨w.heap.size+1,2,none⟩=some (.int .i64 A.n):=zc (HW3.o.block HRP.o) rfl;have p3:w3.cell? ⟨w.heap.size+1,3,none⟩=some (.slice ra zl rc):=zc (HW3.o.block HRP.o) rfl;have b0:w3.cell? ⟨gb,0,none⟩=some (.int .i64 A.c):=zc HGB.o rfl;have b1:w3.cell? ⟨gb,1,none⟩=some (.int .i64 A.f):=zc HGB.o rfl;have b2:w3.cell? ⟨gb,2,none⟩=some (.int .i64 A.n):=zc HGB.o rfl;have b3:w3.cell? ⟨gb,3,none⟩=some (.slice ra2 zl rc2):=zc HGB.o rfl;have c13:=HW3.o.cell c1W;have hPl3:=lG w3 _ c13;have hpl3:=lG w3 _ p0;have hbl3:=lG w3 _ b0;clear hHeld;go_wp2_with fail
  refine(HSR.o _ ra2 rc2 HX3.o HRD.o).mono ?_;rintro e w4 ⟨rfl,hx4⟩;have HX4:Hd (Ext w w4):=HX3.o.trans hx4;have HX34:=hid hx4;have c14:=hx4.cell c13;have hle4:=HX4.o.le;clear hx4 b0 b1 b2 b3 p0 p1 p2 p3;go_wp2_with (at_builtin;refine wpList_append_lies _ rfl _ _ 101 rfl w.heap.size 3 i0 _ 1 8 underlying101 hi hz0 hz1 hz2 rfl (by decide) _ 0 [] rfl (rB _ _ _ _) ⟨_,0,none⟩ 1 1 [.int .i64 0] rfl rfl (rI (zm (by simp))) (by simp [Value.oneCell']) (by decide) (by simp [maxLen]) (by omega) (by simp;omega) _ rfl ?_)
  intro ga capa w5 hown5 hgrow5 hat5 hlt5;have HO5:Hd (w5.ownsRow w.heap.size 3 1 (.slice (some ⟨ga,0,none⟩) 1 capa) 1 [.int .i64 0]/\Ext w4 w5):=⟨by simpa using hown5,rG (lK (lI _) _) hgrow5 (by simp [lH])⟩
  have c15:=HO5.o.2.cell c14;have hle5:=HO5.o.2.le;clear hown5 hgrow5 hat5 hlt5;go_wp2_with (at_builtin;refine wpList_append_lies _ rfl _ _ 85 rfl w.heap.size 95 j0 _ 1 8 underlying85 hj0 hy0 hy1 hy2 rfl (by decide) _ 0 [] rfl (rB _ _ _ _) ⟨_,0,none⟩ 1 1 [.pointer pa] rfl rfl (rI (zm (by simp))) (by simp [Value.oneCell']) (by decide) (by simp [maxLen]) (by omega) (by simp;omega) _ rfl ?_)
  intro gN capN w6 hown6 hgrow6 hat6 hlt6;have HO6:Hd (w6.ownsRow w.heap.size 95 1 (.slice (some ⟨gN,0,none⟩) 1 capN) 1 [.pointer pa]/\Ext w5 w6):=⟨by simpa using hown6,rG (lK (lI _) _) hgrow6 (by simp [lH])⟩
  have c16:=HO6.o.2.cell c15;have hPl6:=lG w6 _ c16;have HX6:Hd (Ext w w6):=HX4.o.trans (HO5.o.2.trans HO6.o.2);have HX36:Hd (Ext w3 w6):=HX34.o.trans (HO5.o.2.trans HO6.o.2);clear hown6 hgrow6 hat6 hlt6 c13 c14 c15;go_wp2_with fail
  rw [rounds_succ];go_wp2_with fail
  have hsz6:=HX6.o.le;have HG6:Hd (GameOf w6 P B (fun b=>G b\/w.heap.size<=b/\b<w6.heap.size) v q S ls ops0 c):=(H.o.ext HX6.o).more (fun b hb=>.inl hb) (fun b hb=>hb.elim (fun h=>rA (H.o.ltG b h) hsz6) (fun h=>h.2)) (fun b hb hor=>hor.elim (H.o.apart b hb) (fun h=>by have:=H.o.lt hb;omega));have hST6:GStep (fun b=>w.heap.size<=b) w w6 P v v G (fun b=>G b\/w.heap.size<=b/\b<w6.heap.size):=⟨lM HX6.o,fun b hb=>.inl hb,fun b hb=>hb.imp id (fun h=>h.1),fun b hb=>.inl hb⟩
  have HS6:=hid hST6;clear hST6;refine(QF HG6.o hc ga capa (HO6.o.2.cell (zk HO5.o.1 rfl)) ?hnt).mono ?_
  case hnt=>
   obtain⟨cur,hcu⟩:=zf HO5.o.1 (g:=ga) rfl;exact⟨cur,HO6.o.2.block hcu⟩
  rintro e w7 ⟨rfl,v7,G7,hg7,hs7,har7,hfi7⟩;have HG7:=hid hg7;have HS7:=hid hs7;have hKeep:∀b,(G b\/w.heap.size<=b/\b<w6.heap.size)->¬(yZ P v b\/w6.heap.size<=b):=fun b hb hor=>by
   rcases hor with ho|ho
   ·exact HG6.o.apart b ho hb
   ·rcases hb with hb|hb
    ·have:=H.o.ltG b hb;omega
    ·omega
  have HKeep:Hd _:=hKeep;have hgN:=lR.lt HO6.o.1 gN rfl;have x0:w7.cell? ⟨gN,0,none⟩=some (.pointer pa):=hs7.turn.cell (zk HO6.o.1 rfl) (hKeep gN (.inr ⟨hgN.1,hgN.2⟩));have hWl2:w.heap.size+1<W.heap.size:=by have:=HRP.o;exact(Array.getElem?_eq_some_iff.1 this).1
  have hW6:W.heap.size<=w6.heap.size:=(HW3.o.trans HX36.o).le;have x1:w7.cell? ⟨w.heap.size+1,0,none⟩=some (.int .i64 A.c):=hs7.turn.cell (zc ((HW3.o.trans HX36.o).block HRP.o) rfl) (hKeep _ (.inr ⟨by simp,by show w.heap.size+1<w6.heap.size;omega⟩));have hPl7:P<w7.heap.size:=(Array.getElem?_eq_some_iff.1 hg7.blk).1;have hgN7:=lG w7 _ x0;have hx17:=lG w7 _ x1;have hs67:=hs7.turn.size;have HA7:Hd (v7.ar=v.ar/\v7.fi=v.fi):=⟨har7,hfi7⟩
  have HST7:Hd (StoreOk w7 B F R ls' ops fl ah/\Far F G7 P v7):=by have h1:=HST.o.1.step HS6.o HST.o.2.1 (fun b hb hl=>by have:=HST.o.1.lt b hb;omega);exact h1.1.step HS7.o h1.2 (fun b hb hl=>by have:=HST.o.1.lt b hb;omega)
  clear hg7 hs7 har7 hfi7 hKeep c16 c1W hlcW;rcases HNX.o with⟨hnx,rfl⟩|⟨S',ls2,q',hnx,rfl,href⟩
  ·have hnew0:ops=ops0:=by rw [HST.o.2.2.2.1,HST.o.2.2.2.2.1 hnx,rL]
   have HStl:Hd (∀w',w7=w'->_):=fun w' e=>by subst e;exact QB (R:=R) (ls':=ls') (F:=F) HG7.o hc (by rw [<-hnew0];exact HST7.o.1) (by rw [<-hnew0];exact HST.o.2.2.1)
   have HN0:Hd (A.next=none/\ops=ops0/\new=[]):=⟨hnx,hnew0,HST.o.2.2.2.2.1 hnx⟩
   clear hnx hnew0;go_wp2_with fail
   refine(HStl.o _ rfl).mono ?_;rintro e w8 ⟨rfl,v8,G8,hg8,hs8,_,_,ha8,hf8⟩;have HF:Hd _:=And.intro hg8 hs8;have HA8:Hd (v8.ar=v.ar/\v8.fi=v.fi):=⟨ha8.trans HA7.o.1,hf8.trans HA7.o.2⟩
   clear hg8 hs8 ha8 hf8;go_wp2;go_ret;refine⟨rfl,v8,G8,q,?_,(HS6.o.trans HS7.o (fun b hb=>by omega)).trans HF.o.2 (fun b hb=>by omega),HA8.o.1,by rw [HN0.o.2.2,List.length_nil,qQ];exact HA8.o.2⟩;rw [HN0.o.1,HN0.o.2.1];exact HF.o.1.count (by omega)
  ·obtain⟨hne,hc0⟩:=HST.o.2.2.2.2.2 S' ls2 hnx;have HN1:=hid hnx;have hone:OneIs w7 G7 (.slice (some ⟨gN,0,none⟩) 1 capN) q':=⟨gN,capN,rfl,HS7.o.sub gN (.inr ⟨hgN.1,hgN.2⟩),x0⟩
   have href7:RefAt w7 G7 q' S' ls2:=by have h1:RefAt w6 (fun b=>G b\/w.heap.size<=b/\b<w6.heap.size) q' S' ls2:=(href.turn (Sp:=fun _=>False) (lM HX36.o) (fun _ _=>id)).mono (fun b hb=>hb.imp id (fun h=>⟨h.1,rA h.2 HX36.o.le⟩));exact(h1.turn HS7.o.turn HKeep.o).mono HS7.o.sub
   have HCh:Hd (∀w',w7=w'->_):=fun w' e=>by subst e;exact Ys (R:=R) (F:=F) HG7.o hc HST7.o.1 HST.o.2.2.1 new HST.o.2.2.2.1 hne (by rw [HA7.o.1,HA7.o.2];exact HFI.o) _ q' S' hone href7 true
   have HNu0:Hd (∀w',_):=fun w'=>xD A.c w'
   have HC0:=hid hc0;clear hnx hne hone href7 href hc0;go_wp2_with fail
   refine(HNu0.o _).mono ?_;rintro e w8 ⟨rfl,rfl⟩;rw [HC0.o];go_wp2_with fail
   refine(HCh.o _ rfl).mono ?_;rintro e w8 ⟨rfl,v8,G8,hg8,hs8,ha8,hf8⟩;have HF:Hd _:=And.intro hg8 hs8;have HA8:Hd (v8.ar=v.ar/\v8.fi=Zr v.ar v.fi new.length):=⟨ha8.trans HA7.o.1,by rw [<-HA7.o.1,<-HA7.o.2];exact hf8⟩
   clear hg8 hs8 ha8 hf8;go_wp2;go_ret;refine⟨rfl,v8,G8,q',?_,(HS6.o.trans HS7.o (fun b hb=>by omega)).trans HF.o.2 (fun b hb=>by omega),HA8.o.1,HA8.o.2⟩;rw [HN1.o];exact HF.o.1.count (by omega)
end
end
end Go.Proofs.YtmnjhhachdlmkaaGreat
