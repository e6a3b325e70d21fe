import Derived.Test.YtmnjhhachdlmkaaGreatRows
import Derived.ProofKit
import Derived.OpenShut
import Derived.Lib.SmallJoins
import Derived.SizedLaws
import Derived.Deep.Slices
import Derived.Test.YtmnjhhachdlmkaaGreatK06
import Derived.Test.YtmnjhhachdlmkaaGreatK01
import Derived.Test.YtmnjhhachdlmkaaGreatK25
import Derived.Test.YtmnjhhachdlmkaaGreatK26
import Derived.Test.YtmnjhhachdlmkaaGreatK22
import Derived.Test.YtmnjhhachdlmkaaGreatK23
import Derived.Test.YtmnjhhachdlmkaaGreatK24
import Derived.Test.YtmnjhhachdlmkaaGreatK14
namespace Go.Proofs.YtmnjhhachdlmkaaGreat
set_option linter.all false
set_option maxRecDepth 100000
set_option maxHeartbeats 6400000
open World renaming alloc -> lP, ownsRow_nil -> rB, news_of_block -> rI, ownsRow -> lR, setCell -> rC, cell?_setCell_far -> lX
open Nat renaming zero_le -> lT
open Ext renaming refl -> lI, owns -> rE, alloc -> lK, drew -> lJ
open IntKind renaming wrap_i64 -> rP
open List renaming length_drop -> sN, length_take -> sF, map_append -> rY, getD_eq_getElem?_getD -> rT, getElem?_eq_getElem -> lZ, length_append -> lW, append_assoc -> sI, take_of_length_le -> rM, drop_drop -> rX, append_nil -> rL
open Turn renaming refl -> rD, of_ext -> lM, grown -> rJ, setCell -> lQ
open AllReadyH renaming cons -> sD
open Go.RowKit Go.Maps
open List renaming getElem_toArray -> lA, getElem_cons_succ -> lB, getElem_cons_zero -> lC, setIfInBounds_toArray -> lD, set_cons_zero -> lE, set_cons_succ -> lF
open World renaming block_lt_of_cell? -> lG
open Value renaming ownBlock -> lH
section
def w4 (D:List UInt8)(j:Nat):Nat:=be ((D.drop (1+4*j)).take 4)
theorem uI (l:List UInt8)(n:Nat)(h:l.length<=n):be l<256 ^ n:=by
 induction n generalizing l with
 | zero=>
  have:l=[]:=List.length_eq_zero_iff.1 (by omega);subst this;simp [be]
 | succ n ih=>
  rcases List.eq_nil_or_concat l with rfl|⟨t,c,rfl⟩
  ·simp [be];exact Nat.pow_pos (by omega)
  ·have h1:=ih t (by simp at h;omega);have h2:=c.toNat_lt;rw [List.concat_eq_append,xV,Nat.pow_succ];omega
theorem Kf:(Tryz.prog.info? 146).map (fun i=>(i.zero,i.size,i.bytes))=some (some (.int .u64 0),1,8):=by kernel_rfl
theorem KA (s:ByteArray)(m:Nat)(hs:s.size=9+8*m)(hm:m<=100000000)(w:World) :
  Calls Tryz.prog 108 #[.string s] w fun e w'=>∃ra rc,e=.returned (.tuple #[.agg #[.int .i64 ((s.data.toList.getD 0 0).toNat:Int),.int .i64 (w4 s.data.toList 0),.int .i64 (w4 s.data.toList 1),.slice ra m rc],.bool true])/\w'.ownsRow w.heap.size 146 1 (.slice ra m rc) m ((List.range m).map fun j=>.int .u64 ((w4 s.data.toList (2+2*j):Int)*4294967296+w4 s.data.toList (3+2*j)))/\Ext w w':=by
 obtain⟨i0,hi,hz0,hz1,hz2⟩:=info_parts Kf;obtain⟨D,hD⟩:∃D,s.data.toList=D:=⟨_,rfl⟩
 have HD:=hid hD;rw [hD];have hmod:((s.size:Int) % 8)=1:=by omega
 have hs9:¬s.size<9:=by omega
 have hsM:s.size<=1000000000:=by omega
 have HS:=hid hs;clear hD hs;go_enter Tryz.func108,Tryz.ntmps108;go_wp2_with fail
 have hres:(w.alloc (.cells #[.int .i64 0,.int .i64 0,.int .i64 0,.slice none 0 0] 33)).heap[w.heap.size]?=some (.cells #[.int .i64 0,.int .i64 0,.int .i64 0,.slice none 0 0] 33 (0,0)):=heap_alloc_new _ _;have hXW:=zf1 w;generalize lP w _=W at hres hXW ⊢;have HRS:=hid hres;have HXW:=hid hXW;have hWl:w.heap.size<W.heap.size:=(Array.getElem?_eq_some_iff.1 hres).1;clear hres hXW
 go_loopw [4,5,6,7] (fun lv iv _ _ wr=>∃j:Nat,j<=2+2*m/\iv=.int .i64 (1+4*(j:Int))/\wr.ownsRow W.heap.size 146 1 lv j ((List.range j).map fun t=>.int .u64 (w4 D t:Int))/\Ext W wr) (fun _ iv _ _ _=>s.size - (intOf iv).toNat)
 case atStart=>exact⟨0,lT _,rfl,rB _ _ _ _,lI _⟩
 case round=>
  obtain⟨j,hj,rfl,hown,hx⟩:=hrel;obtain⟨la,lc,rfl⟩:=zo hown;have HO:=hid hown;have HX:=hid hx;have hle:=hx.le;clear hown hx;by_cases hlt:j<2+2*m
  ·have hin:1+4*j<s.size:=by have:=HS.o;omega
   have hinI:1+4*(j:Int)<(s.size:Int):=by omega
   go_wp2_with fail
   go_loop [6,7] (fun nv kv=>∃k:Nat,k<=4/\kv=.int .i64 k/\nv=.int .u64 (be ((D.drop (1+4*j)).take k):Int)) (fun _ kv=>4 - (intOf kv).toNat)
   case atStart=>exact⟨0,by omega,rfl,rfl⟩
   case round=>
    obtain⟨k,hk,rfl,rfl⟩:=hrel;by_cases hk4:k<4
    ·have hix:1+4*j+k<s.size:=by have:=HS.o;omega
     have hw1:IntKind.i64.wrap (1+4*(j:Int)+(k:Int))=((1+4*j+k:Nat):Int):=by rw [rP];omega
     have HSt:Hd (IntKind.u64.wrap (IntKind.u64.wrap ((be ((D.drop (1+4*j)).take k):Int)*256)+IntKind.u64.wrap ((s[1+4*j+k]).toNat:Int))=(be ((D.drop (1+4*j)).take (k+1)):Int)):=by
      have hl:k<(D.drop (1+4*j)).length:=by rw [sN,<-HD.o,Array.length_toList,ByteArray.size_data];omega
      have hg:(D.drop (1+4*j))[k]=s[1+4*j+k]:=by
       simp only [<-HD.o,List.getElem_drop,Array.getElem_toList]
       rfl
      have hlt4:be ((D.drop (1+4*j)).take k)<256 ^ 3:=uI _ 3 (by rw [sF];omega);show _=_
      rw [List.take_succ_eq_append_getElem hl,xV,hg];have h2:=(s[1+4*j+k]).toNat_lt;generalize be ((D.drop (1+4*j)).take k)=b at *;generalize (s[1+4*j+k]).toNat=c at *;rw [IntKind.wrap_u64,IntKind.wrap_u64,IntKind.wrap_u64];omega
     generalize be ((D.drop (1+4*j)).take k)=b at *;go_wp2
     go_round
     case rel=>exact⟨k+1,by omega,by go_num,by rw [<-HSt.o]⟩
     case measure=>simp [intOf];omega
    ·have hk5:k=4:=by omega
     subst hk5;have HW:Hd ((be ((D.drop (1+4*j)).take 4):Int)=(w4 D j:Int)):=rfl;obtain⟨nn,hnn⟩:∃x:Int,(be ((D.drop (1+4*j)).take 4):Int)=x:=⟨_,rfl⟩
     have HNN:Hd ((w4 D j:Int)=nn):=hnn;rw [hnn];clear hnn HW;go_wp2_with (at_builtin;refine wpList_append_lies _ rfl _ _ 31 rfl W.heap.size 146 i0 _ 1 8 Tryz.underlying31 hi hz0 hz1 hz2 rfl (by decide) _ j _ rfl (rE (lK (lI _) _) HO.o) ⟨_,0,none⟩ 1 1 [.int .u64 nn] rfl rfl (rI (zm (by simp))) (by simp [Value.oneCell']) (by decide) (by unfold maxLen;omega) (by omega) (by simp;omega) _ rfl ?_)
     intro g cap w5 hown5 hgrow5 hat5 hlt5;have HF5:Hd (w5.ownsRow W.heap.size 146 1 (.slice (some ⟨g,0,none⟩) (j+1) cap) (j+1) ((List.range (j+1)).map fun t=>.int .u64 (w4 D t:Int))/\Ext W w5):=by refine⟨?_,Ext.grown (lK HX.o _) hgrow5 (fun q hq=>(lR.lt HO.o q hq).1)⟩;rw [List.range_succ,rY,List.map_singleton,HNN.o];exact hown5
     clear hown5 hgrow5 hat5 hlt5;go_wp2
     go_roundw
     case rel=>exact⟨j+1,by omega,by go_num,HF5.o.1,HF5.o.2⟩
     case measure=>simp [intOf];omega
  ·have hjj:j=2+2*m:=by omega
   have hin:¬(1+4*(j:Int)<(s.size:Int)):=by have:=HS.o;omega
   obtain⟨lg,lc',hle',_,_,_⟩:∃g cap,(Value.slice la j lc)=.slice (some ⟨g,0,none⟩) j cap/\W.heap.size<=g/\j<=cap/\cap<=maxLen:=by
    rcases zw HO.o with⟨_,hn,_⟩|h
    ·omega
    ·exact h
   injection hle' with e1 _ e3
   subst e1 e3;have hat:∀t,t<j->wr.cell? ⟨lg,t,none⟩=some (.int .u64 (w4 D t:Int)):=fun t ht=>zk HO.o (by rw [List.getElem?_map,List.getElem?_range ht];rfl)
   have HAt:=hid hat;have a0:=hat 0 (by omega);have a1:=hat 1 (by omega);have hj2:(2:Int)<=(j:Int):=by omega
   have hj0:0<j:=by omega
   have hj1:(1:Int)<(j:Int):=by omega
   have hs0:0<s.size:=by omega
   have hb4:∀t,w4 D t<4294967296:=fun t=>uI _ 4 (by rw [sF];omega)
   have HB4:=hid hb4;have hc0:IntKind.i64.wrap (w4 D 0:Int)=(w4 D 0:Int):=by rw [rP];have:=hb4 0;omega
   have hc1:IntKind.i64.wrap (w4 D 1:Int)=(w4 D 1:Int):=by rw [rP];have:=hb4 1;omega
   have hgl:=lG wr _ a0;have HJ:=hid hjj;clear hat hb4 hjj;go_wp2_with fail
   refine wp_region_held_drew (S:=(fun w'=>w'.cell? ⟨lg,0,none⟩=some (.int .u64 (w4 D 0:Int))/\w'.cell? ⟨lg,1,none⟩=some (.int .u64 (w4 D 1:Int)))) (by kernel_rfl) ⟨a0,a1⟩ (fun hHeld=>?_);refine zT 0 hHeld ?_;refine zT 1 hHeld ?_;refine zT 2 hHeld ?_;refine zT 3 hHeld ?_;refine zT 4 hHeld ?_;refine zT 5 hHeld ?_;refine zT 6 hHeld ?_;refine zT 7 hHeld ?_;refine zT 8 hHeld ?_;refine zT 9 hHeld ?_;refine zT 10 hHeld ?_;refine zT 11 hHeld ?_
   try simp only [Act.put,lA,lB,lC,lD,lE,lF]
   refine zR 12 fun K hK=>?_
   (try simp only [lA,lB,lC])
   go_simp;refine hK.out _ _ ?hs1 (fun hHeld=>?_)
   case hs1=>exact⟨(lJ (lK (lI wr) _)).cell a0,(lJ (lK (lI wr) _)).cell a1⟩
   have HZB:Hd ((wr.alloc (.cells #[.int .i64 0,.int .i64 0,.int .i64 0,.slice none 0 0] 33)).drew.heap[wr.heap.size]?=some (.cells #[.int .i64 0,.int .i64 0,.int .i64 0,.slice none 0 0] 33 (0,0))):=zy (heap_alloc_new _ _);have HXa:Hd (Ext wr (wr.alloc (.cells #[.int .i64 0,.int .i64 0,.int .i64 0,.slice none 0 0] 33)).drew):=lJ ((lI _).alloc _);obtain⟨rb,hrb⟩:∃rb,wr.heap.size=rb:=⟨_,rfl⟩
   have HRB:=hid hrb;simp only [hrb] at HZB ⊢;clear hK K;generalize World.drew (lP wr _)=Wa at HZB HXa hHeld ⊢;have z0:Wa.cell? ⟨rb,0,none⟩=some (.int .i64 0):=zc HZB.o rfl;have z1:Wa.cell? ⟨rb,1,none⟩=some (.int .i64 0):=zc HZB.o rfl;have z2:Wa.cell? ⟨rb,2,none⟩=some (.int .i64 0):=zc HZB.o rfl;have z3:Wa.cell? ⟨rb,3,none⟩=some (.slice none 0 0):=zc HZB.o rfl;have y0:=ze HZB.o 0;have y1:=ze HZB.o 1;have y2:=ze HZB.o 2;have y3:=ze HZB.o 3;have hzl:=lG Wa _ z0;have hgr:lg≠rb:=by omega
   try simp only [Act.put,lA,lB,lC,lD,lE,lF]
   refine zR 13 fun K hK=>?_
   (try simp only [lA,lB,lC])
   go_simp;have HGB:Hd (((((Wa.setCell ⟨rb,0,none⟩ (.int .i64 (IntKind.i64.wrap (s[0].toNat:Int)))).setCell ⟨rb,1,none⟩ (.int .i64 (w4 D 0:Int))).setCell ⟨rb,2,none⟩ (.int .i64 (w4 D 1:Int))).setCell ⟨rb,3,none⟩ (.slice none 0 0)).heap[rb]?=some (.cells #[.int .i64 (IntKind.i64.wrap (s[0].toNat:Int)),.int .i64 (w4 D 0:Int),.int .i64 (w4 D 1:Int),.slice none 0 0] 33 (0,0))):=zg (zg (zg (zg HZB.o _) _) _) _;have HT3:Hd (Turn (fun b=>b=rb) wr ((((Wa.setCell ⟨rb,0,none⟩ (.int .i64 (IntKind.i64.wrap (s[0].toNat:Int)))).setCell ⟨rb,1,none⟩ (.int .i64 (w4 D 0:Int))).setCell ⟨rb,2,none⟩ (.int .i64 (w4 D 1:Int))).setCell ⟨rb,3,none⟩ (.slice none 0 0))):=yr HXa.o _ _ _ _;refine hK.out _ _ ?hs2 (fun hHeld=>?_)
   case hs2=>exact⟨HT3.o.cell a0 hgr,HT3.o.cell a1 hgr⟩
   clear hK K
   try simp only [Act.put,lA,lB,lC,lD,lE,lF]
   refine wpAnyH_done (by kernel_rfl) ?_ _;generalize rC (rC (rC (rC Wa _ _) _ _) _ _) _ _=w3 at HGB HT3 hHeld ⊢;have HAt3:Hd (∀t,t<j->w3.cell? ⟨lg,t,none⟩=some (.int .u64 (w4 D t:Int))):=fun t ht=>HT3.o.cell (HAt.o t ht) hgr
   obtain⟨cc,hcc⟩:∃cc:Int,IntKind.i64.wrap (s[0].toNat:Int)=cc:=⟨_,rfl⟩
   have HCC:=hid hcc;rw [hcc] at HGB;have hw3:wr.heap.size<=w3.heap.size:=HT3.o.size;have hrb3:rb<w3.heap.size:=(Array.getElem?_eq_some_iff.1 HGB.o).1;have hlg3:lg<w3.heap.size:=by omega
   clear z0 z1 z2 z3 y0 y1 y2 y3 hzl hHeld a0 a1 hcc hrb HZB HXa;go_wp2_with fail
   go_loopw [9] (fun iv wz=>∃(t:Nat) (rv:Value),t<=m/\iv=.int .i64 (2+2*(t:Int))/\wz.heap[rb]?=some (.cells #[.int .i64 cc,.int .i64 (w4 D 0:Int),.int .i64 (w4 D 1:Int),rv] 33 (0,0))/\wz.ownsRow w3.heap.size 146 1 rv t ((List.range t).map fun u=>.int .u64 ((w4 D (2+2*u):Int)*4294967296+w4 D (3+2*u)))/\Turn (fun b=>b=rb) w3 wz) (fun iv _=>j - (intOf iv).toNat)
   case atStart=>exact⟨0,.slice none 0 0,lT _,rfl,HGB.o,rB _ _ _ _,rD _ _⟩
   case round=>
    obtain⟨t,rv,ht,rfl,hbz,hrow,hT⟩:=hrel;obtain⟨va,vc,rfl⟩:=zo hrow;by_cases hlt2:t<m
    ·have hti:(2+2*(t:Int))<(j:Int):=by have:=HJ.o;omega
     have l0:_:=hT.cell (HAt3.o (2+2*t) (by omega)) hgr;have l1:_:=hT.cell (HAt3.o (3+2*t) (by have:=HJ.o;omega)) hgr;have r3:wr.cell? ⟨rb,3,none⟩=some (.slice va t vc):=zc hbz rfl;have HBZ:=hid hbz;have HRZ:=hid hrow;have HTZ:=hid hT;have HNL:Hd (lH (.slice va t vc)≠some lg):=fun e=>by have:=(lR.lt hrow lg e).1;omega
     have HNR:Hd (lH (.slice va t vc)≠some rb):=fun e=>by have:=(lR.lt hrow rb e).1;omega
     have hw3z:=hT.size;have hrbz:rb<wr.heap.size:=(Array.getElem?_eq_some_iff.1 hbz).1;have q0:=HB4.o (2+2*t);have q1:=HB4.o (3+2*t);obtain⟨x0,hx0⟩:∃x:Int,(w4 D (2+2*t):Int)=x:=⟨_,rfl⟩
     obtain⟨x1,hx1⟩:∃x:Int,(w4 D (3+2*t):Int)=x:=⟨_,rfl⟩
     have hw1:IntKind.u64.wrap (x0*4294967296)=x0*4294967296:=by rw [IntKind.wrap_u64];omega
     have hw2:IntKind.u64.wrap (x0*4294967296+x1)=x0*4294967296+x1:=by rw [IntKind.wrap_u64];omega
     have hw3':IntKind.i64.wrap (2+2*(t:Int)+1)=3+2*(t:Int):=by rw [rP];omega
     have hti1:3+2*(t:Int)<(j:Int):=by have:=HJ.o;omega
     have hti2:(0:Int)<=3+2*(t:Int):=by omega
     have hz1':(3+2*(t:Int)).toNat=3+2*t:=by omega
     have hti0:(0:Int)<=2+2*(t:Int):=by omega
     have hz:(2+2*(t:Int)).toNat=2+2*t:=by omega
     have HX0:=hid hx0;have HX1:=hid hx1;rw [hx0] at l0;rw [hx1] at l1;clear hbz hrow hT hx0 hx1 q0 q1;go_wp2_with fail
     have SD:Hd (∀w',Turn (fun b=>lH (.slice va t vc)=some b) wr w'->(fun w'=>w'.cell? ⟨lg,2+2*t,none⟩=some (.int .u64 x0)/\w'.cell? ⟨lg,3+2*t,none⟩=some (.int .u64 x1)) w'):=fun w' hx=>⟨hx.cell l0 (fun e=>HNL.o e),hx.cell l1 (fun e=>HNL.o e)⟩
     refine wp_region_held_drew (S:=(fun w'=>w'.cell? ⟨lg,2+2*t,none⟩=some (.int .u64 x0)/\w'.cell? ⟨lg,3+2*t,none⟩=some (.int .u64 x1))) (by kernel_rfl) ⟨l0,l1⟩ (fun hHeld=>?_);refine zT 0 hHeld ?_;refine zT 2 hHeld ?_;refine zT 3 hHeld ?_;refine zT 4 hHeld ?_;refine zT 5 hHeld ?_;refine zT 6 hHeld ?_;refine zT 7 hHeld ?_;refine zT 8 hHeld ?_;refine zT 9 hHeld ?_;refine zT 10 hHeld ?_;refine zT 11 hHeld ?_;refine zT 12 hHeld ?_;refine wpAnyH_ready (rs:=[1,13]) (by kernel_rfl) (by simp) ?_;refine sD (o:=_) rfl (fun K hK=>?_) (sD (o:=_) rfl (fun K hK=>?_) AllReadyH.nil)
     ·skip
      (try simp only [lA,lB,lC])
      go_simp;refine hK.out _ _ ?hs1 (fun hHeld=>?_)
      case hs1=>exact SD.o _ (lM (lJ (lI _)))
      clear hK K
      try simp only [Act.put,lA,lB,lC,lD,lE,lF]
      refine zR 13 fun K hK=>?_
      (try simp only [lA,lB,lC])
      go_simp;refine hK.out _ _ ?hs2 (fun hHeld=>?_)
      case hs2=>exact SD.o _ (lM (lJ (lK (lI _) _)))
      clear hK K
      try simp only [Act.put,lA,lB,lC,lD,lE,lF]
      refine zR 14 fun K hK=>?_
      refine step_append_lies _ (by rfl) _ _ 31 (by rfl) w3.heap.size 146 i0 _ 1 8 Tryz.underlying31 hi hz0 hz1 hz2 (by rfl) (by decide) (.slice va t vc) t _ (by rfl) (rE (lJ (lK (lI _) _)) HRZ.o) ⟨_,0,none⟩ 1 1 [.int .u64 (x0*4294967296+x1)] (by rfl) (by rfl) (rI (zy (heap_alloc_new _ _))) (by simp [Value.oneCell']) (by decide) (by unfold maxLen;omega) (by omega) (by simp;omega) _ rfl ?_;intro g cap w5 hown5 hgrow5 hat5 hlt5;have HT5:Hd (Turn (fun b=>lH (.slice va t vc)=some b) wr w5):=rJ (lM (lJ (lK (lI _) _))) hgrow5 (fun q hq _=>hq);have HOW:=hid hown5;have HAT:Hd (lH (.slice va t vc)=some g\/wr.heap.size<=g):=by
       rcases hat5 with h|h
       ·exact .inl h
       ·exact .inr (by rw [h];exact(lM (lJ (lK (lI _) _)):Turn (fun _=>False) wr _).size)
      have HB5:Hd (w5.heap[rb]?=some (.cells #[.int .i64 cc,.int .i64 (w4 D 0:Int),.int .i64 (w4 D 1:Int),.slice va t vc] 33 (0,0))):=HT5.o.ref HBZ.o (fun e=>HNR.o e);have y1b:w5.cell? ⟨rb,3,none⟩=some (.slice va t vc):=zc HB5.o rfl;have f1b:=ze HB5.o 3;refine hK.out _ _ ?hs3 (fun hHeld=>?_)
      case hs3=>exact SD.o _ HT5.o
      clear hK K hown5 hgrow5 hat5
      try simp only [Act.put,lA,lB,lC,lD,lE,lF]
      refine zT 15 hHeld ?_;refine zR 16 fun K hK=>?_
      (try simp only [lA,lB,lC])
      go_simp;refine hK.out _ _ ?hs4 (fun hHeld=>?_)
      case hs4=>
       exact⟨(lX _ _ _ _ (fun e=>hgr e.symm)).trans hHeld.1,(lX _ _ _ _ (fun e=>hgr e.symm)).trans hHeld.2⟩
      clear hK K
      try simp only [Act.put,lA,lB,lC,lD,lE,lF]
      refine wpAnyH_done (by kernel_rfl) ?_ _;have hB6:(w5.setCell ⟨rb,3,none⟩ (.slice (some ⟨g,0,none⟩) (t+1) cap)).heap[rb]?=some (.cells #[.int .i64 cc,.int .i64 (w4 D 0:Int),.int .i64 (w4 D 1:Int),.slice (some ⟨g,0,none⟩) (t+1) cap] 33 (0,0)):=zg HB5.o _;have hgP:g≠rb:=by
       rcases HAT.o with h|h
       ·exact fun e=>HNR.o (by rw [<-e];exact h)
       ·have:=(Array.getElem?_eq_some_iff.1 HBZ.o).1;omega
      have hO6:(w5.setCell ⟨rb,3,none⟩ (.slice (some ⟨g,0,none⟩) (t+1) cap)).ownsRow w3.heap.size 146 1 (.slice (some ⟨g,0,none⟩) (t+1) cap) (t+1) ((List.range (t+1)).map fun u=>.int .u64 ((w4 D (2+2*u):Int)*4294967296+w4 D (3+2*u))):=by rw [List.range_succ,rY,List.map_singleton];rw [HX0.o,HX1.o];exact zi HOW.o (a:=⟨rb,3,none⟩) (by simpa [lH] using hgP) _
      have hT6:Turn (fun b=>b=rb) w3 (w5.setCell ⟨rb,3,none⟩ (.slice (some ⟨g,0,none⟩) (t+1) cap)):=lQ (S:=fun b=>b=rb) (p:=⟨rb,3,none⟩) (HTZ.o.trans' HT5.o (fun b hb e=>by have:=(lR.lt HRZ.o b e).1;omega)) (fun _=>rfl) _;have HF6:Hd _:=And.intro hB6 (And.intro hO6 hT6);clear hB6 hgP hO6 hT6 y1b f1b hHeld;generalize rC w5 _ _=w6 at HF6 ⊢;go_wp2
      go_roundw
      case rel=>exact⟨t+1,_,by omega,by go_num,HF6.o.1,HF6.o.2.1,HF6.o.2.2⟩
      case measure=>simp [intOf];omega
     ·skip
      (try simp only [lA,lB,lC])
      go_simp;refine hK.out _ _ ?hs1 (fun hHeld=>?_)
      case hs1=>exact SD.o _ (lM (lJ (lK (lI _) _)))
      clear hK K
      try simp only [Act.put,lA,lB,lC,lD,lE,lF]
      refine zR 1 fun K hK=>?_
      (try simp only [lA,lB,lC])
      go_simp;refine hK.out _ _ ?hs2 (fun hHeld=>?_)
      case hs2=>exact SD.o _ (lM (lJ (lK (lI _) _)))
      clear hK K
      try simp only [Act.put,lA,lB,lC,lD,lE,lF]
      refine zR 14 fun K hK=>?_
      refine step_append_lies _ (by rfl) _ _ 31 (by rfl) w3.heap.size 146 i0 _ 1 8 Tryz.underlying31 hi hz0 hz1 hz2 (by rfl) (by decide) (.slice va t vc) t _ (by rfl) (rE (lJ (lK (lI _) _)) HRZ.o) ⟨_,0,none⟩ 1 1 [.int .u64 (x0*4294967296+x1)] (by rfl) (by rfl) (rI (zy (heap_alloc_new _ _))) (by simp [Value.oneCell']) (by decide) (by unfold maxLen;omega) (by omega) (by simp;omega) _ rfl ?_;intro g cap w5 hown5 hgrow5 hat5 hlt5;have HT5:Hd (Turn (fun b=>lH (.slice va t vc)=some b) wr w5):=rJ (lM (lJ (lK (lI _) _))) hgrow5 (fun q hq _=>hq);have HOW:=hid hown5;have HAT:Hd (lH (.slice va t vc)=some g\/wr.heap.size<=g):=by
       rcases hat5 with h|h
       ·exact .inl h
       ·exact .inr (by rw [h];exact(lM (lJ (lK (lI _) _)):Turn (fun _=>False) wr _).size)
      have HB5:Hd (w5.heap[rb]?=some (.cells #[.int .i64 cc,.int .i64 (w4 D 0:Int),.int .i64 (w4 D 1:Int),.slice va t vc] 33 (0,0))):=HT5.o.ref HBZ.o (fun e=>HNR.o e);have y1b:w5.cell? ⟨rb,3,none⟩=some (.slice va t vc):=zc HB5.o rfl;have f1b:=ze HB5.o 3;refine hK.out _ _ ?hs3 (fun hHeld=>?_)
      case hs3=>exact SD.o _ HT5.o
      clear hK K hown5 hgrow5 hat5
      try simp only [Act.put,lA,lB,lC,lD,lE,lF]
      refine zT 15 hHeld ?_;refine zR 16 fun K hK=>?_
      (try simp only [lA,lB,lC])
      go_simp;refine hK.out _ _ ?hs4 (fun hHeld=>?_)
      case hs4=>
       exact⟨(lX _ _ _ _ (fun e=>hgr e.symm)).trans hHeld.1,(lX _ _ _ _ (fun e=>hgr e.symm)).trans hHeld.2⟩
      clear hK K
      try simp only [Act.put,lA,lB,lC,lD,lE,lF]
      refine wpAnyH_done (by kernel_rfl) ?_ _;have hB6:(w5.setCell ⟨rb,3,none⟩ (.slice (some ⟨g,0,none⟩) (t+1) cap)).heap[rb]?=some (.cells #[.int .i64 cc,.int .i64 (w4 D 0:Int),.int .i64 (w4 D 1:Int),.slice (some ⟨g,0,none⟩) (t+1) cap] 33 (0,0)):=zg HB5.o _;have hgP:g≠rb:=by
       rcases HAT.o with h|h
       ·exact fun e=>HNR.o (by rw [<-e];exact h)
       ·have:=(Array.getElem?_eq_some_iff.1 HBZ.o).1;omega
      have hO6:(w5.setCell ⟨rb,3,none⟩ (.slice (some ⟨g,0,none⟩) (t+1) cap)).ownsRow w3.heap.size 146 1 (.slice (some ⟨g,0,none⟩) (t+1) cap) (t+1) ((List.range (t+1)).map fun u=>.int .u64 ((w4 D (2+2*u):Int)*4294967296+w4 D (3+2*u))):=by rw [List.range_succ,rY,List.map_singleton];rw [HX0.o,HX1.o];exact zi HOW.o (a:=⟨rb,3,none⟩) (by simpa [lH] using hgP) _
      have hT6:Turn (fun b=>b=rb) w3 (w5.setCell ⟨rb,3,none⟩ (.slice (some ⟨g,0,none⟩) (t+1) cap)):=lQ (S:=fun b=>b=rb) (p:=⟨rb,3,none⟩) (HTZ.o.trans' HT5.o (fun b hb e=>by have:=(lR.lt HRZ.o b e).1;omega)) (fun _=>rfl) _;have HF6:Hd _:=And.intro hB6 (And.intro hO6 hT6);clear hB6 hgP hO6 hT6 y1b f1b hHeld;generalize rC w5 _ _=w6 at HF6 ⊢;go_wp2
      go_roundw
      case rel=>exact⟨t+1,_,by omega,by go_num,HF6.o.1,HF6.o.2.1,HF6.o.2.2⟩
      case measure=>simp [intOf];omega
    ·have htm:t=m:=by omega
     have hti:¬(2+2*(t:Int))<(j:Int):=by have:=HJ.o;omega
     have r0:wr.cell? ⟨rb,0,none⟩=some (.int .i64 cc):=zc hbz rfl;have r1:wr.cell? ⟨rb,1,none⟩=some (.int .i64 (w4 D 0:Int)):=zc hbz rfl;have r2:wr.cell? ⟨rb,2,none⟩=some (.int .i64 (w4 D 1:Int)):=zc hbz rfl;have r3:wr.cell? ⟨rb,3,none⟩=some (.slice va t vc):=zc hbz rfl;have hres:wr.heap[w.heap.size]?=some (.cells #[.int .i64 0,.int .i64 0,.int .i64 0,.slice none 0 0] 33 (0,0)):=hT.ref (HT3.o.ref (HX.o.block HRS.o) (fun e=>by have:=HRB.o;omega)) (fun e=>by have:=HRB.o;omega);have o0:=zc hres (i:=0) rfl;have o1:=zc hres (i:=1) rfl;have o2:=zc hres (i:=2) rfl;have o3:=zc hres (i:=3) rfl;have f0:=ze hres 0;have f1:=ze hres 1;have f2:=ze hres 2;have f3:=ze hres 3;have hol:=lG wr _ o0;have HRow:Hd _:=And.intro hrow hT;have HTM:=hid htm;clear hrow hT hbz hres htm;go_wp2;refine bodyPost_ret (v:=.tuple #[.agg #[.int .i64 cc,.int .i64 (w4 D 0:Int),.int .i64 (w4 D 1:Int),.slice va t vc],.bool true]) (by simp [results,Tryz.results108,go_sem,o0,o1,o2,o3]) rfl ?_;have hcc:cc=((D.getD 0 0).toNat:Int):=by
      have h1:s[0]=D.getD 0 0:=by
       have h2:(0:Nat)<s.data.toList.length:=by simpa using hs0
       rw [<-HD.o,rT,lZ h2]
       rfl
      have h3:=(s[0]).toNat_lt;rw [<-HCC.o,h1,rP];rw [h1] at h3;omega
     have hTY:=yr (g:=w.heap.size) (lI wr) (.int .i64 cc) (.int .i64 (w4 D 0:Int)) (.int .i64 (w4 D 1:Int)) (.slice va t vc);have hrow:=HRow.o.1;have hT:=HRow.o.2;have hrbw:=HRB.o;refine⟨va,vc,by rw [HTM.o,hcc];rfl,?_,?_⟩
     ·rw [HTM.o] at hrow;exact zv (hTY.owns hrow (fun b hb e=>by have:=(lR.lt hrow b hb).1;omega)) (by omega)
     ·exact Turn.ext (((((lM (S:=fun _=>False) (HXW.o.trans HX.o)).trans' HT3.o (fun b hb e=>by omega)).trans' hT (fun b hb e=>by omega)).trans' hTY (fun b hb e=>by omega)))
end
section
theorem be4 (n:Nat):be (zG n 4)=n % 4294967296:=by simp only [zG,be,List.foldl_cons,List.foldl_nil,UInt8.toNat_ofNat'];omega
theorem gy (n:Nat):be ((zG n 8).take 4)=n / 4294967296 % 4294967296:=by simp only [zG,be,List.take_succ_cons,List.take_zero,List.foldl_cons,List.foldl_nil,UInt8.toNat_ofNat'];omega
theorem gG (n:Nat):be (((zG n 8).drop 4).take 4)=n % 4294967296:=by simp only [zG,be,List.drop_succ_cons,List.drop_zero,List.take_succ_cons,List.take_zero,List.foldl_cons,List.foldl_nil,UInt8.toNat_ofNat'];omega
theorem vV:∀(zs:List Nat)(u:Nat)(h:u<zs.length),(zs.flatMap fun z=>zG z 8).drop (8*u)=zG zs[u] 8++(zs.drop (u+1)).flatMap fun z=>zG z 8
 | [],_,h=>by simp at h
 | z::t,0,_=>by simp
 | z::t,u+1,h=>by
  rw [List.flatMap_cons,show 8*(u+1)=(zG z 8).length+8*u by rw [ZG];omega,List.drop_append];rw [List.drop_eq_nil_of_le (by omega),List.nil_append,show (zG z 8).length+8*u - (zG z 8).length=8*u by omega];rw [vV t u (by simpa using h)]
  rfl
theorem jX (x:Int)(h0:0<=x)(h1:x<4294967296):(be (Zz x 4):Int)=x:=by unfold Zz;rw [be4];omega
theorem JB (c f n:Int)(zs:List Nat):(zF c f n zs).length=9+8*zs.length:=by unfold zF;rw [lW,lW,lW,Zd,Zd,Zd,xb]
theorem jt (c f n:Int)(zs:List Nat)(h0:0<=c)(h1:c<256):(((zF c f n zs).getD 0 0).toNat:Int)=c:=by
 show ((UInt8.ofNat ((c % 18446744073709551616).toNat / 2 ^ (8*0))).toNat:Int)=c
 rw [UInt8.toNat_ofNat'];simp only [Nat.mul_zero,Nat.pow_zero,Nat.div_one];omega
theorem KU (c f n:Int)(zs:List Nat):(zF c f n zs).drop 1=Zz f 4++(Zz n 4++zs.flatMap fun z=>zG z 8):=by
 unfold zF;rw [sI,sI,List.drop_append,List.drop_eq_nil_of_le (by rw [Zd];omega),Zd]
 rfl
theorem U4 (c f n:Int)(zs:List Nat)(h0:0<=f)(h1:f<4294967296):(w4 (zF c f n zs) 0:Int)=f:=by unfold w4;rw [show 1+4*0=1 from rfl,KU,List.take_append_of_le_length (by rw [Zd];omega),rM (by rw [Zd];omega)];exact jX f h0 h1
theorem KW (c f n:Int)(zs:List Nat):(zF c f n zs).drop 5=Zz n 4++zs.flatMap fun z=>zG z 8:=by
 have h:(zF c f n zs).drop 5=((zF c f n zs).drop 1).drop 4:=by rw [rX]
 rw [h,KU,List.drop_append,List.drop_eq_nil_of_le (by rw [Zd];omega),Zd]
 rfl
theorem Uf (c f n:Int)(zs:List Nat)(h0:0<=n)(h1:n<4294967296):(w4 (zF c f n zs) 1:Int)=n:=by unfold w4;rw [show 1+4*1=5 from rfl,KW,List.take_append_of_le_length (by rw [Zd];omega),rM (by rw [Zd];omega)];exact jX n h0 h1
theorem gR (c f n:Int)(zs:List Nat):(zF c f n zs).drop 9=zs.flatMap fun z=>zG z 8:=by
 have h:(zF c f n zs).drop 9=((zF c f n zs).drop 5).drop 4:=by rw [rX]
 rw [h,KW,List.drop_append,List.drop_eq_nil_of_le (by rw [Zd];omega),Zd]
 rfl
theorem jj (c f n:Int)(zs:List Nat)(u:Nat)(h:u<zs.length)(hz:zs[u]<=18446744073709551615):(w4 (zF c f n zs) (2+2*u):Int)*4294967296+w4 (zF c f n zs) (3+2*u)=(zs[u]:Int):=by
 have hd:(zF c f n zs).drop (9+8*u)=zG zs[u] 8++(zs.drop (u+1)).flatMap fun z=>zG z 8:=by rw [<-rX,gR,vV zs u h]
 have h1:w4 (zF c f n zs) (2+2*u)=zs[u] / 4294967296 % 4294967296:=by unfold w4;rw [show 1+4*(2+2*u)=9+8*u by omega,hd,List.take_append_of_le_length (by rw [ZG];omega)];exact gy _
 have h2:w4 (zF c f n zs) (3+2*u)=zs[u] % 4294967296:=by unfold w4;rw [show 1+4*(3+2*u)=(9+8*u)+4 by omega,<-rX,hd,List.drop_append_of_le_length (by rw [ZG];omega),List.take_append_of_le_length (by rw [sN,ZG];omega)];exact gG _
 rw [h1,h2];omega
theorem qE (c f n:Int)(zs:List Nat)(hc:0<=c/\c<256)(hf:0<=f/\f<4294967296)(hn:0<=n/\n<4294967296)(hz:∀z∈zs,z<=18446744073709551615)(hm:zs.length<=100000000)(w:World) :
  Calls Tryz.prog 108 #[.string ⟨(zF c f n zs).toArray⟩] w fun e w'=>∃ra rc,e=.returned (.tuple #[.agg #[.int .i64 c,.int .i64 f,.int .i64 n,.slice ra zs.length rc],.bool true])/\w'.ownsRow w.heap.size 146 1 (.slice ra zs.length rc) zs.length (zs.map fun z:Nat=>Value.int .u64 (z:Int))/\Ext w w':=by
 have h:=KA ⟨(zF c f n zs).toArray⟩ zs.length (by show (zF c f n zs).toArray.size=_;rw [List.size_toArray];exact JB c f n zs) hm w;have hl:(List.range zs.length).map (fun j=>Value.int .u64 ((w4 (zF c f n zs) (2+2*j):Int)*4294967296+w4 (zF c f n zs) (3+2*j)))=zs.map fun z:Nat=>Value.int .u64 (z:Int):=by
  apply List.ext_getElem (by simp);intro j h1 h2;have hj:j<zs.length:=by simpa using h2
  simp only [List.getElem_map,List.getElem_range];rw [jj c f n zs j hj (hz _ (List.getElem_mem hj))]
 refine h.mono ?_;rintro e w' ⟨ra,rc,he,ho,hx⟩;refine⟨ra,rc,?_,?_,hx⟩
 ·have h0:=jt c f n zs hc.1 hc.2;have h1:=U4 c f n zs hf.1 hf.2;have h2:=Uf c f n zs hn.1 hn.2;rw [he];show Ending.returned (.tuple #[.agg #[.int .i64 (((zF c f n zs).getD 0 0).toNat:Int),.int .i64 (w4 (zF c f n zs) 0:Int),.int .i64 (w4 (zF c f n zs) 1:Int),.slice ra zs.length rc],.bool true])=_
  rw [h0,h1,h2]
 ·rw [<-hl];exact ho
end
section
def yd (zs:List Int):List Nat:=zs.map Int.toNat
theorem vP {zs:List Int}(h:inU64 zs):(yd zs).map (fun z:Nat=>Value.int .u64 (z:Int))=zs.map (Value.int .u64):=by
 unfold yd;rw [List.map_map];apply List.map_congr_left;intro z hz;have:=(h z hz).1;show Value.int .u64 ((z.toNat:Nat):Int)=Value.int .u64 z
 rw [Int.toNat_of_nonneg this]
theorem Vu {zs:List Int}(h:inU64 zs):∀z∈yd zs,z<=18446744073709551615:=fun z hz=>by obtain⟨y,hy,rfl⟩:=List.mem_map.1 hz;have:=h y hy;omega
theorem JS {w:World}{base:Nat}{ra:Option Addr}{rl rc:Nat}{zs:List Int}(h:w.ownsRow base 146 1 (.slice ra rl rc) zs.length (zs.map (Value.int .u64)))(hz:inU64 zs)(hl:zs.length<=100000000):WordsIn w ra rl (yd zs):=by
 have hnl:(yd zs).length=zs.length:=by simp [yd]
 obtain⟨_,h2⟩:=h;rcases h2 with⟨e,h0⟩|⟨g,cap,cur,e,hb,hg,hc1,hc2,hcs,ht⟩
 ·injection e with e1 e2 e3
  subst e2;exact⟨by omega,by omega,Vu hz,.inl rfl⟩
 ·injection e with e1 e2 e3
  subst e1 e2 e3;refine⟨by omega,by omega,Vu hz,.inr ⟨g,0,rfl,fun i hi=>?_⟩⟩;have hrow:w.ownsRow base 146 1 (.slice (some ⟨g,0,none⟩) zs.length rc) zs.length (zs.map (Value.int .u64)):=⟨by simp,.inr ⟨g,rc,cur,rfl,hb,hg,hc1,hc2,hcs,ht⟩⟩
  have:=lR.cellAt hrow i (by omega);rw [Nat.zero_add,this,<-vP hz,List.getElem?_map,rT,lZ (by omega)]
  rfl
structure RepOk (c0 f0 n0:Int)(zs:List Int):Prop where
 c:0<=c0/\c0<256
 f:0<=f0/\f0<4294967296
 n:0<=n0/\n0<4294967296
 zs:inU64 zs
theorem AskNext.rep {A:Ans}{R:List StkR}{ls:List LsV}{fl:Bool}{ah:Int}{c0 f0 n0:Int}{zs:List Int}{R':List StkR}{ls':List LsV}{new:List OpV}{fl':Bool}{ah':Int}(h:AskNext A R ls fl ah c0 f0 n0 zs R' ls' new fl' ah')(hg:GoodA A):RepOk c0 f0 n0 zs:=by
 rcases h.ex with⟨h1,h⟩|⟨h1,h2,h3,h4,h5,h⟩|⟨h0,h1,h2,h3,h4,h5,h⟩
 ·cases h;exact⟨hg.c,hg.f,hg.n,hg.zs⟩
 ·cases h;exact⟨hg.c,hg.f,hg.n,hg.zs⟩
 ·cases h;exact⟨by decide,by decide,by decide,fun _ h=>by simp at h⟩
structure ServeSo (A:Ans)(w w':World)(B:Nat)(F:Nat->Prop)(R:List StkR)(ls:List LsV)(ops:List OpV)(fl:Bool)(ah:Int)(c0 f0 n0:Int)(zs:List Int)(R':List StkR)(ls':List LsV)(F':Nat->Prop)(new:List OpV)(fl':Bool)(ah':Int):Prop where
 store:StoreOk w' B F' R' ls' (ops++new) fl' ah'
 turn:Turn F w w'
 grows:∀b,F' b->F b\/w.heap.size<=b
 next:AskNext A R ls fl ah c0 f0 n0 zs R' ls' new fl' ah'
 len:zs.length<=100000000
 rep:RepOk c0 f0 n0 zs
section
variable {w:World}{B:Nat}{F:Nat->Prop}{R:List StkR}{ls:List LsV}{ops:List OpV}{fl:Bool}{ah:Int}{str:ByteArray}{kk s i kd m k n f c p:Int}
theorem vh {A:Ans}(hrd:OwnRead str kk s i kd m k n f c p)(hg:GoodA A)(hd:∀w',Ext w w'->AskDoes A B F R ls ops fl ah (X1 kk) (qW kk s i kd m k n f c p) (zN kk s i kd m k n f c p) w') :
  Calls Tryz.prog 25 #[.pointer (some ⟨B,0,none⟩),.string str] w fun e w'=>∃t,e=.returned (.string t)/\∃c0 f0 n0 zs R' ls' F' new fl' ah',t=⟨(zF c0 f0 n0 (yd zs)).toArray⟩/\ServeSo A w w' B F R ls ops fl ah c0 f0 n0 zs R' ls' F' new fl' ah':=by
 refine(xv B str w (M:=fun w1 w2 iv ec=>ec=0/\∃rb,iv=.iface (X1 kk) (.pointer (some ⟨rb,0,none⟩))/\qW kk s i kd m k n f c p w2 rb/\Ext w1 w2/\w1.heap.size<=rb) (N:=fun w2 w3 c0 f0 n0 ra rl rc zn=>∃zs R' ls' F' new fl' ah',zn=yd zs/\zs.length<=100000000/\AskSo A w2 w3 B F R ls ops fl ah c0 f0 n0 zs (.slice ra rl rc) R' ls' F' new fl' ah') (fun w' hx=>(hrd.own w').mono ?_) (fun w1 w2 iv ec hx hm=>?_)).mono ?_
 ·rintro e w2 ⟨rb,rfl,hq,hx2,hle⟩;exact⟨_,_,rfl,rfl,rb,rfl,hq,hx2,hle⟩
 ·obtain⟨rfl,rb,rfl,hq,hx2,hle⟩:=hm;refine((hd w1 hx).ans w2 rb hx2 hle hq).mono ?_;rintro e w3 ⟨c0,f0,n0,zs,ra,rl,rc,R',ls',F',new,fl',ah',rfl,hz,hso⟩;exact⟨c0,f0,n0,ra,rl,rc,yd zs,rfl,⟨zs,R',ls',F',new,fl',ah',rfl,hz,hso⟩,JS hso.row (hso.next.rep hg).zs hz⟩
 ·rintro e w4 ⟨w1,w2,w3,iv,ec,c0,f0,n0,ra,rl,rc,zn,rfl,hx1,⟨rfl,rb,rfl,hq,hx2,hle⟩,⟨zs,R',ls',F',new,fl',ah',rfl,hl,hso⟩,hx4⟩;exact⟨_,rfl,c0,f0,n0,zs,R',ls',F',new,fl',ah',rfl,⟨hso.store.ext hx4,((lM (hx1.trans hx2)).trans hso.turn).trans (lM hx4),fun b hb=>(hso.grows b hb).imp id (fun hl=>Nat.le_trans (hx1.trans hx2).le hl),hso.next,hl,hso.next.rep hg⟩⟩
theorem QV (w:World)(B:Nat)(hrd:BadRead str) :
  Calls Tryz.prog 25 #[.pointer (some ⟨B,0,none⟩),.string str] w fun e w'=>∃t,e=.returned (.string t)/\t=⟨(zF 1 0 0 []).toArray⟩/\Ext w w':=by
 refine(xv B str w (M:=fun w1 w2 iv ec=>iv=.nilIface/\ec=1/\Ext w1 w2) (N:=fun w2 w3 c0 f0 n0 ra rl rc zn=>c0=1/\f0=0/\n0=0/\zn=[]/\Ext w2 w3) (fun w' hx=>(hrd.own w').mono ?_) (fun w1 w2 iv ec hx hm=>?_)).mono ?_
 ·rintro e w2 ⟨rfl,hx2⟩;exact⟨_,_,rfl,rfl,rfl,hx2⟩
 ·obtain⟨rfl,rfl,hx2⟩:=hm;refine(xp B w2).mono ?_;rintro e w3 ⟨rfl,hx3⟩;exact⟨1,0,0,none,0,0,[],rfl,⟨rfl,rfl,rfl,rfl,hx3⟩,rfl,by decide,by simp,.inl rfl⟩
 ·rintro e w4 ⟨w1,w2,w3,iv,ec,c0,f0,n0,ra,rl,rc,zn,rfl,hx1,⟨rfl,rfl,hx2⟩,⟨rfl,rfl,rfl,rfl,hx3⟩,hx4⟩;exact⟨_,rfl,rfl,((hx1.trans hx2).trans hx3).trans hx4⟩
end
end
section
theorem KI {w:World}{base:Nat}{ra:Option Addr}{rc:Nat}{zs:List Int}(hz:inU64 zs)(h:w.ownsRow base 146 1 (.slice ra (yd zs).length rc) (yd zs).length ((yd zs).map fun z:Nat=>Value.int .u64 (z:Int))):RdRow w ra zs.length (zs.map (Value.int .u64)):=by
 have hl:(yd zs).length=zs.length:=by simp [yd]
 rw [vP hz,hl] at h;exact yz h
theorem UP {w:World}{P B N0 c:Nat}(h:Live w P B N0 c)(hc:c<=200000)(str:ByteArray)(hstr:str.size<=maxLen) :
  Calls Tryz.prog 71 #[.pointer (some ⟨P,0,none⟩),.string str] w fun e w'=>e=.returned (.bool true)/\Live w' P B N0 (c+3)/\Turn (fun b=>N0<=b) w w':=by
 obtain⟨G,v,q,R,ls,F,ops,fl,ah,h⟩:=h;have h5:=h.ops;have c0:w.cell? ⟨P,0,none⟩=some (.pointer (some ⟨B,0,none⟩)):=zc h.game.blk rfl;rcases JE str hstr with hbad|⟨kk,s,i,kd,m,k,n,f,cc,pp,hown⟩
 ·refine xP P B str w c0 (M:=fun w1 w2 t=>t=⟨(zF 1 0 0 []).toArray⟩/\Ext w1 w2) (L:=fun w3 w4 t c0 f0 n0 ra zl rc=>c0=1/\f0=0/\n0=0/\zl=0) (Fin:=fun w'=>Live w' P B N0 (c+3)/\Turn (fun b=>N0<=b) w w') (fun w' _=>QV w' B hbad) (fun w'=>hbad.ref w') ?_ ?_ ?_
  ·rintro w1 w2 w3 t hx1 ⟨rfl,hx2⟩ hx3;refine(qE 1 0 0 [] (by decide) (by decide) (by decide) (by simp) (by simp) w3).mono ?_;rintro e w4 ⟨ra,rc,rfl,hrow,hx4⟩;exact⟨1,0,0,ra,0,rc,rfl,hx4,rfl,rfl,rfl,rfl⟩
  ·rintro w3 w4 w5 t c0 f0 n0 ra zl rc ⟨rfl,rfl,rfl,rfl⟩ hx;exact qK 1 0 0 [] (by simp) ra none rc 0 w5 (.inl rfl) (.inl rfl)
  ·rintro w1 w2 w3 t hx1 ⟨rfl,hx2⟩ hx3;have hx:=(hx1.trans hx2).trans hx3;refine(QB (h.game.ext hx) (by omega) (h.store.ext hx) (by omega)).mono ?_;rintro e w' ⟨rfl,v',G',k1,k2,k3,k4,k5,k6⟩;have k7:=(h.store.ext hx).step k2 h.far (fun b hb hl=>by have:=(h.store.ext hx).lt b hb;omega);have hxl:=hx.le;refine⟨rfl,h.next (new:=[]) (c':=c+3) (by omega) (by rw [rL];exact k1.count (by omega)) (by rw [rL];exact k7.1) k7.2 (by simp) ⟨?_,fun b hb=>.inl hb,fun b hb=>(k2.own b hb).imp id (fun hl=>by omega)⟩ (h.ar.same k5 k6) h.ah h.inv⟩;exact(lM hx).trans' k2.turn (fun b hb hor=>hor.elim .inr (fun hl=>by omega))
 ·obtain⟨A,a1,a3,a4,a5⟩:=un (ops:=ops) h.inv (by omega) kk s i kd m k n f cc pp;refine VN P B str kk s i kd m k n f cc pp w c0 (M:=fun w1 w2 t=>∃c0 f0 n0 zs R' ls' F' new fl' ah',t=⟨(zF c0 f0 n0 (yd zs)).toArray⟩/\ServeSo A w1 w2 B F R ls ops fl ah c0 f0 n0 zs R' ls' F' new fl' ah') (L:=fun w3 w4 t c0 f0 n0 ra zl rc=>∃w1 w2 zs R' ls' F' new fl' ah',Ext w w1/\Ext w2 w3/\ServeSo A w1 w2 B F R ls ops fl ah c0 f0 n0 zs R' ls' F' new fl' ah'/\zl=zs.length/\RdRow w4 ra zl (zs.map (Value.int .u64))) (Fin:=fun w'=>Live w' P B N0 (c+3)/\Turn (fun b=>N0<=b) w w') (fun w' hx=>vh hown a1 (fun w2 hx2=>a3 w2 B F fl ah h.ah (h.store.ext (hx.trans hx2)))) (fun w'=>hown.ref w') ?_ ?_
  ·rintro w1 w2 w3 t hx1 ⟨c0,f0,n0,zs,R',ls',F',new,fl',ah',rfl,hso⟩ hx3;have hl:(yd zs).length=zs.length:=by simp [yd]
   have hzl:=hso.len;refine(qE c0 f0 n0 (yd zs) hso.rep.c hso.rep.f hso.rep.n (Vu hso.rep.zs) (by omega) w3).mono ?_;rintro e w4 ⟨ra,rc,rfl,hrow,hx4⟩;exact⟨c0,f0,n0,ra,_,rc,rfl,hx4,w1,w2,zs,R',ls',F',new,fl',ah',hx1,hx3,hso,hl,by rw [hl];exact KI hso.rep.zs hrow⟩
  ·rintro w1' w2' w3 w4 w5 t c0 f0 n0 ra zl rc - - - ⟨w1,w2,zs,R',ls',F',new,fl',ah',hx1,hx3,hso,rfl,hrd⟩ hx4 hx5;have hx25:Ext w2 w5:=(hx3.trans hx4).trans hx5;have hTF:Turn (fun b=>F b) w w5:=((lM hx1).trans hso.turn).trans (lM hx25);have hg5:GameOf w5 P B G v q (R.map StkR.abs) ls ops c:=h.game.turn hTF (fun b hb e=>(h.far b e).1 hb) (fun b hb e=>(h.far b e).2 hb);have hst5:StoreOk w5 B F' R' ls' (ops++new) fl' ah':=hso.store.ext hx25;have hx1l:=hx1.le;have hsz:=hTF.size;have hfar:Far F' G P v:=fun b hb=>by
    rcases hso.grows b hb with hf|hl
    ·exact h.far b hf
    ·exact⟨fun hg=>by have:=h.game.ltG b hg;omega,fun ho=>by have:=h.game.lt ho;omega⟩
   have hshort:=hso.next.short;refine(qO (F:=F') (R:=R') (ls':=ls') (ops:=ops++new) (new:=new) A hg5 (by omega) hst5 hfar (by rw [lW];omega) rfl c0 f0 n0 zs (hso.next.ans h.ar h.ah a1.ne) kk s i kd m k n f cc pp (fun w' hx=>a4 w' G q (hg5.ref.ext hx) (fun b hb=>Nat.lt_of_lt_of_le (hg5.ltG b hb) hx.le)) ra zs.length rc rfl hso.len (hrd.ext hx5)).mono ?_;rintro e w' ⟨rfl,v',G',q',S',ls'',k1,k2,k3⟩;obtain⟨e1,e2,e3,e4,e5⟩:=hso.next.out h.ar h.ah a1.ne k3;subst e1 e2;have k7:=hst5.step k2 hfar (fun b hb hl=>by have:=hst5.lt b hb;omega);refine⟨rfl,h.next (new:=new) (c':=c+3) (by omega) (k1.count (by omega)) k7.1 k7.2 hshort ⟨?_,fun b hb=>(hso.grows b hb).imp id (fun hl=>by omega),fun b hb=>(k2.own b hb).imp id (fun hl=>by omega)⟩ e3 e4 ?_⟩
   ·exact(hTF.mono (fun b _ hb=>.inl hb)).trans' k2.turn (fun b hb hor=>hor.elim .inr (fun hl=>by omega))
   ·rcases e5 with⟨e1,e2⟩|k8
    ·rw [e1,e2];exact h.inv
    ·exact a5 _ _ k8
end
section
theorem gK {w:World}{P B N0 c:Nat}(h:Live w P B N0 c)(hc:c<=200000)(sk sa sb kd m k n r0 r1 r2 r3 r4 r5 r6 r7 r8 r9 st:Int)(hsk:sk<=6)(hsa:sa<=9223372036854775807)(ss:ByteArray)(hss:ss.size<=maxLen)(ca:Option Addr)(cl ccap:Nat)(a:Option Addr)(len cap:Nat)(D:List Int)(hD:D.length=len)(hu:inU64 D)(hlen:len<=100000000)(hcap:len<=cap)(hd:DrawsAt w a len D)(hda:∀b off,len≠0/\a=some ⟨b,off,none⟩->b<N0) :
  Calls Tryz.prog 42 #[.pointer (some ⟨P,0,none⟩),.agg #[.int .i64 sk,.int .i64 sa,.int .i64 sb,.int .i64 kd,.int .i64 m,.int .i64 k,.int .i64 n,.slice a len cap,.int .i64 r0,.int .i64 r1,.int .i64 r2,.int .i64 r3,.int .i64 r4,.int .i64 r5,.int .i64 r6,.int .i64 r7,.int .i64 r8,.int .i64 r9,.string ss,.slice ca cl ccap,.int .i64 st]] w fun e w'=>e=.returned (.bool true)/\Live w' P B N0 (c+3)/\Turn (fun b=>N0<=b) w w':=by
 by_cases h1:sk=1
 ·exact U5 (Q:=fun w w'=>Live w' P B N0 (c+3)/\Turn (fun b=>N0<=b) w w') sk h1 (.int .i64 sa) (.int .i64 sb) (.int .i64 kd) (.int .i64 m) (.int .i64 k) (.int .i64 n) (.slice a len cap) (.int .i64 r0) (.int .i64 r1) (.int .i64 r2) (.int .i64 r3) (.int .i64 r4) (.int .i64 r5) (.int .i64 r6) (.int .i64 r7) (.int .i64 r8) (.int .i64 r9) (.string ss) (.slice ca cl ccap) (.int .i64 st) (fun w1 w2 w3 hx k=>⟨k.1,(lM hx).trans k.2⟩) (fun w' hx=>QT (h.ext hx) hc)
 by_cases h2:sk=2
 ·exact VH (Q:=fun w w'=>Live w' P B N0 (c+3)/\Turn (fun b=>N0<=b) w w') sk h2 _ rfl rfl (fun w1 w2 w3 hx k=>⟨k.1,(lM hx).trans k.2⟩) (fun w' hx=>uZ (h.ext hx) hc sk sa sb kd m k n r0 r1 r2 r3 r4 r5 r6 r7 r8 r9 st ss ca cl ccap a len cap D hD hu hlen hcap (hd.ext hx) hda)
 by_cases h3:sk=3
 ·exact Ji (Q:=fun w w'=>Live w' P B N0 (c+3)/\Turn (fun b=>N0<=b) w w') sk h3 (.int .i64 sa) (.int .i64 sb) (.int .i64 kd) (.int .i64 m) (.int .i64 k) (.int .i64 n) (.slice a len cap) (.int .i64 r0) (.int .i64 r1) (.int .i64 r2) (.int .i64 r3) (.int .i64 r4) (.int .i64 r5) (.int .i64 r6) (.int .i64 r7) (.int .i64 r8) (.int .i64 r9) (.string ss) (.slice ca cl ccap) (.int .i64 st) (fun w1 w2 w3 hx k=>⟨k.1,(lM hx).trans k.2⟩) (fun w' hx=>kj (h.ext hx) hc r0 r1 r2 r3 r4 r5 r6 r7 r8 r9)
 by_cases h4:sk=4
 ·exact Ux (Q:=fun w w'=>Live w' P B N0 (c+3)/\Turn (fun b=>N0<=b) w w') sk h4 (.int .i64 sa) (.int .i64 sb) (.int .i64 kd) (.int .i64 m) (.int .i64 k) (.int .i64 n) (.slice a len cap) (.int .i64 r0) (.int .i64 r1) (.int .i64 r2) (.int .i64 r3) (.int .i64 r4) (.int .i64 r5) (.int .i64 r6) (.int .i64 r7) (.int .i64 r8) (.int .i64 r9) (.string ss) (.slice ca cl ccap) (.int .i64 st) (fun w1 w2 w3 hx k=>⟨k.1,(lM hx).trans k.2⟩) (fun w' hx=>UP (h.ext hx) hc ss hss)
 by_cases h5:sk=5
 ·exact vn (Q:=fun w w'=>Live w' P B N0 (c+3)/\Turn (fun b=>N0<=b) w w') sk h5 (.int .i64 sa) (.int .i64 sb) (.int .i64 kd) (.int .i64 m) (.int .i64 k) (.int .i64 n) (.slice a len cap) (.int .i64 r0) (.int .i64 r1) (.int .i64 r2) (.int .i64 r3) (.int .i64 r4) (.int .i64 r5) (.int .i64 r6) (.int .i64 r7) (.int .i64 r8) (.int .i64 r9) (.string ss) (.slice ca cl ccap) (.int .i64 st) (fun w1 w2 w3 hx k=>⟨k.1,(lM hx).trans k.2⟩) (fun w' hx=>VX (h.ext hx) hc)
 by_cases h6:sk=6
 ·exact UY h sk sa h6 hsa (.int .i64 sb) (.int .i64 kd) (.int .i64 m) (.int .i64 k) (.int .i64 n) (.slice a len cap) (.int .i64 r0) (.int .i64 r1) (.int .i64 r2) (.int .i64 r3) (.int .i64 r4) (.int .i64 r5) (.int .i64 r6) (.int .i64 r7) (.int .i64 r8) (.int .i64 r9) (.string ss) (.slice ca cl ccap) (.int .i64 st)
 refine(js sk hsk (by omega) (.int .i64 sa) (.int .i64 sb) (.int .i64 kd) (.int .i64 m) (.int .i64 k) (.int .i64 n) (.slice a len cap) (.int .i64 r0) (.int .i64 r1) (.int .i64 r2) (.int .i64 r3) (.int .i64 r4) (.int .i64 r5) (.int .i64 r6) (.int .i64 r7) (.int .i64 r8) (.int .i64 r9) (.string ss) (.slice ca cl ccap) (.int .i64 st)).mono ?_;rintro e w' ⟨rfl,hx⟩;exact⟨rfl,(h.ext hx).count (by omega),lM hx⟩
end
section
section
variable {Pr:Program}
theorem X2 (w:World)(g off:Nat)(ty:TypeId)(cs:Array Value)(d:TypeDesc)(hc:∀j v,cs[j]?=some v->w.cell? ⟨g,off+j,none⟩=some v)
  (hu:Pr.underlying ty=some d) (hd:(match d with|.struct _|.array _ _=>true|_=>false)=true) (hi:(Pr.info? ty).map (·.size)=some cs.size) :
  (loadVar ty ⟨g,off,none⟩).run Pr w=.ok (.agg cs) w:=by
 have hl:(loadCells ⟨g,off,none⟩ cs.toList.length).run Pr w=.ok cs.toList.toArray w:=
  run_loadCells_list (P:=Pr) w ⟨g,off,none⟩ cs.toList (fun j v hv=>by rw [Z1];exact hc j v (by simpa using hv))
 cases hq:Pr.info? ty with
 | none=>simp [hq] at hi
 | some i=>
  have hs:i.size=cs.size:=by simpa [hq] using hi
  have hagg:(isAgg ty).run Pr w=.ok true w:=by unfold isAgg;rw [Sem.run_bind,run_underlying hu w];cases d<;>simp_all
  simp only [Array.length_toList,Array.toArray_toList] at hl;simp [loadVar,Sem.run_bind,hagg,sizeOf,typeInfo,hq,hs,hl]
theorem Xp {ops:Array Oper}{rest:List Oper}{o:Oper}{a:Act}{w:World}{Q:Exit->Act->World->Prop}(hgd:o.guard=none)(ty:TypeId)(x:Operand)(ho:o.op=.load ty x)
  (g off:Nat) (hx:a.eval x=.pointer (some ⟨g,off,none⟩)) (cs:Array Value) (d:TypeDesc) (hc:∀j v,cs[j]?=some v->w.cell? ⟨g,off+j,none⟩=some v)
  (hu:Pr.underlying ty=some d) (hd:(match d with|.struct _|.array _ _=>true|_=>false)=true) (hi:(Pr.info? ty).map (·.size)=some cs.size)
  (h:wpList Pr ops Q rest (a.put o.dst (.agg cs)) w):wpList Pr ops Q (o::rest) a w:=
 wpList_plain hgd fun _ hK=>by unfold Oper.wp execOp;simp only [ho,hx,Instr.loadAt,Instr.sureAddr,Sem.run_bind,Sem.run_pure,Result.andThen_ok,X2 w g off ty cs d hc hu hd hi];exact hK _ _ h
end
def StepIs (w:World)(N0:Nat)(cs:Array Value):Prop:=∃(sk sa sb kd m k n r0 r1 r2 r3 r4 r5 r6 r7 r8 r9 st:Int)(ss:ByteArray)(ca:Option Addr)(cl ccap:Nat)(a:Option Addr)(len cap:Nat)(D:List Int),
 cs=#[.int .i64 sk,.int .i64 sa,.int .i64 sb,.int .i64 kd,.int .i64 m,.int .i64 k,.int .i64 n,.slice a len cap,.int .i64 r0,.int .i64 r1,.int .i64 r2,.int .i64 r3,.int .i64 r4,.int .i64 r5,.int .i64 r6,.int .i64 r7,.int .i64 r8,.int .i64 r9,.string ss,.slice ca cl ccap,.int .i64 st]/\(sa<=9223372036854775807/\ss.size<=maxLen)/\D.length=len/\inU64 D/\len<=100000000/\len<=cap/\DrawsAt w a len D/\∀b off,len≠0/\a=some ⟨b,off,none⟩->b<N0
theorem StepIs.turn {w w':World}{N0:Nat}{cs:Array Value}(h:StepIs w N0 cs)(ht:Turn (fun b=>N0<=b) w w'):StepIs w' N0 cs:=by obtain⟨sk,sa,sb,kd,m,k,n,r0,r1,r2,r3,r4,r5,r6,r7,r8,r9,st,ss,ca,cl,ccap,a,len,cap,D,h1,h12,h2,h3,h4,h5,h6,h7⟩:=h;exact⟨sk,sa,sb,kd,m,k,n,r0,r1,r2,r3,r4,r5,r6,r7,r8,r9,st,ss,ca,cl,ccap,a,len,cap,D,h1,h12,h2,h3,h4,h5,h6.turn ht (fun b off e hl=>by have:=h7 b off e;omega),h7⟩
def ScriptAt (w:World)(N0:Nat)(sa:Option Addr)(n:Nat):Prop:=n=0\/∃b off,sa=some ⟨b,off,none⟩/\b<N0/\∀i,i<n->∃cs,StepIs w N0 cs/\∀j v,cs[j]?=some v->w.cell? ⟨b,off+i*21+j,none⟩=some v
theorem ScriptAt.turn {w w':World}{N0:Nat}{sa:Option Addr}{n:Nat}(h:ScriptAt w N0 sa n)(ht:Turn (fun b=>N0<=b) w w'):ScriptAt w' N0 sa n:=by
 rcases h with h|⟨b,off,e,hb,hc⟩
 ·exact .inl h
 ·refine .inr ⟨b,off,e,hb,fun i hi=>?_⟩;obtain⟨cs,h1,h2⟩:=hc i hi;exact⟨cs,h1.turn ht,fun j v hv=>ht.cell (h2 j v hv) (fun hl=>by simp only at hl;omega)⟩
theorem J5 {w:World}{P B N0 c:Nat}(h:Live w P B N0 c)(hc:c<=200000){cs:Array Value}(hs:StepIs w N0 cs){sk:Int}(h0:cs[0]?=some (.int .i64 sk))(hsk:sk<=6) :
  Calls Tryz.prog 42 #[.pointer (some ⟨P,0,none⟩),.agg cs] w fun e w'=>e=.returned (.bool true)/\Live w' P B N0 (c+3)/\Turn (fun b=>N0<=b) w w':=by
 obtain⟨sk',sa,sb,kd,m,k,n,r0,r1,r2,r3,r4,r5,r6,r7,r8,r9,st,ss,ca,cl,ccap,a,len,cap,D,h1,h12,h2,h3,h4,h5,h6,h7⟩:=hs;subst h1;have e:sk'=sk:=by
  have h0':some (Value.int .i64 sk')=some (Value.int .i64 sk):=h0;injection h0' with h0'
  injection h0'
 subst e;exact gK h hc sk' sa sb kd m k n r0 r1 r2 r3 r4 r5 r6 r7 r8 r9 st hsk h12.1 ss h12.2 ca cl ccap a len cap D h2 h3 h4 h5 h6 h7
end
section
theorem Uy {P:Program}{ops:Array Oper}{rest:List Oper}{o:Oper}{a:Act}{w:World}{Q:Exit->Act->World->Prop}(hg:o.guard=none)(v:Value)(h:(execOp a.eval o).run P w=.ok (.value v) w)(hn:wpList P ops Q rest (a.put o.dst v) w):wpList P ops Q (o::rest) a w:=
 wpList_plain hg fun K hK=>by unfold Oper.wp;rw [h];exact hK _ _ hn
theorem jJ (last:Int)(hlast:last<=6){w:World}{P B N0:Nat}(h:Live w P B N0 2)(sa:Option Addr)(n cap:Nat)(hn:n<=60000)(hs:ScriptAt w N0 sa n) :
  Calls Tryz.prog 12 #[.pointer (some ⟨P,0,none⟩),.pointer (some ⟨P,0,none⟩),.slice sa n cap,.int .i64 last] w fun e w'=>e=.returned (.bool true)/\Turn (fun b=>N0<=b) w w':=by
 have HL:=hid h;have HSc:=hid hs;have HLa:=hid hlast;clear h hs hlast;go_enter Tryz.func12,Tryz.ntmps12;go_wp2_with fail
 go_loopw [9,10,11,12] (fun at_ _ _ _ wr=>∃j:Nat,j<=n/\at_=.int .i64 (j:Int)/\Live wr P B N0 (2+3*j)/\Turn (fun b=>N0<=b) w wr) (fun at_ _ _ _ _=>n - (intOf at_).toNat)
 case atStart=>exact⟨0,lT _,rfl,HL.o,rD _ _⟩
 case round=>
  obtain⟨j,hj,rfl,hl,ht⟩:=hrel;have HLj:=hid hl;have HTj:=hid ht;by_cases hlt:j<n
  ·obtain⟨b,off,rfl,hb,hcs⟩:=(HSc.o.turn ht).resolve_left (by omega);obtain⟨cs,hsi,hcell⟩:=hcs j hlt;obtain⟨sk,st,h0,h20,hsz⟩:∃sk st,cs[0]?=some (.int .i64 sk)/\cs[20]?=some (.int .i64 st)/\cs.size=21:=by
    obtain⟨sk,sa,sb,kd,m,k,n',r0,r1,r2,r3,r4,r5,r6,r7,r8,r9,st,ss,ca,cl,ccap,a,len,cp,D,h1,_⟩:=hsi;subst h1;exact⟨sk,st,rfl,rfl,rfl⟩
   have e0:wr.cell? ⟨b,off+j*21,none⟩=some (.int .i64 sk):=hcell 0 _ h0;have e20:wr.cell? ⟨b,off+j*21+20,none⟩=some (.int .i64 st):=hcell 20 _ h20;have hbl:=lG wr _ e0;have hk0:(0:Int)<=(j:Int):=by omega
   have hk1:(j:Int)<n:=by omega
   have HCs:Hd (StepIs wr N0 cs/\(∀i v,cs[i]?=some v->wr.cell? ⟨b,off+j*21+i,none⟩=some v)/\cs[0]?=some (.int .i64 sk)):=⟨hsi,hcell,h0⟩
   have HI:Hd ((Tryz.prog.info? 103).map (·.size)=some cs.size):=by
    show _=_
    rw [hsz];kernel_rfl
   clear hl ht hsi hcell hcs h0 h20 hsz;by_cases hsk:sk<=last
   ·have hgt:¬last<sk:=by omega
    have HSt:Hd (∀w',wr=w'->_):=fun w' e=>by subst e;exact J5 HLj.o (by omega) HCs.o.1 HCs.o.2.2 (Int.le_trans hsk HLa.o)
    refine wp_seq_k (fun K1 hK1=>?_);have HK1:=hid hK1;clear hK1;go_wp2_with fail
    refine HK1.o _ _ ?_;refine wp_seq_k (fun K2 hK2=>?_);have HK2:=hid hK2;clear hK2;refine wp_block ?_;refine wp_seq_k (fun K3 hK3=>?_);have HK3:=hid hK3;clear hK3;go_wp2_with fail
    refine HK3.o _ _ ?_;refine wp_seq_k (fun K4 hK4=>?_);have HK4:=hid hK4;clear hK4;go_wp2_with fail
    refine HK4.o _ _ ?_;refine wp_seq_k (fun K5 hK5=>?_);have HK5:=hid hK5;clear hK5;go_wp2_with fail
    all_goals
     refine HK5.o _ _ ?_;refine wp_seq_k (fun K6 hK6=>?_);have HK6:=hid hK6;clear hK6;refine wp_region_lit ?_;refine YN rfl (.tmp 10) rfl (.pointer (some ⟨P,0,none⟩)) rfl ?_;refine YN rfl (.tmp 2) rfl (.slice (some ⟨b,off,none⟩) n cap) rfl ?_;refine YN rfl (.tmp 9) rfl (.int .i64 (j:Int)) rfl ?_;refine Uy rfl (.pointer (some ⟨b,off+j*21,none⟩)) (by go_simp) ?_;refine Xp rfl 103 _ rfl b (off+j*21) rfl cs _ HCs.o.2.1 Tryz.underlying103 rfl HI.o ?_;go_wp2_with fail
     refine(HSt.o _ rfl).mono ?_;rintro e w2 ⟨rfl,hl2,ht2⟩;have HL2:Hd (Live w2 P B N0 (2+3*j+3)/\Turn (fun b=>N0<=b) wr w2):=And.intro hl2 ht2;have HRd:Hd (∀w',w2=w'->_):=fun w' e=>by subst e;exact JL HL2.o.1 (by omega)
     clear hl2 ht2;go_wp2_with fail
     refine HK6.o _ _ ?_;go_wp2_with fail
     refine(HRd.o _ rfl).mono ?_;rintro e w3 ⟨rfl,hx3⟩;have HX3:=hid hx3;clear hx3;go_wp2_with fail
     refine HK2.o _ _ ?_;go_wp2
     go_roundw
     case rel=>exact⟨j+1,by omega,by go_num,by rw [show 2+3*(j+1)=2+3*j+3 by omega];exact HL2.o.1.ext HX3.o,HTj.o.trans (HL2.o.2.trans (lM HX3.o))⟩
     case measure=>simp [intOf];omega
   ·have hgt:last<sk:=by omega
    go_wp2
    go_roundw
    case rel=>exact⟨j+1,by omega,by go_num,HLj.o.count (by omega),HTj.o⟩
    case measure=>simp [intOf];omega
  ·obtain rfl:j=n:=by omega
   have HLk:Hd (∀w',wr=w'->_):=fun w' e=>by subst e;exact QT HLj.o (by omega)
   clear hl ht hlt hj;go_wp2_with fail
   refine(HLk.o _ rfl).mono ?_;rintro e w2 ⟨rfl,hl2,ht2⟩;have HL2:Hd _:=And.intro hl2 ht2;have HLk2:Hd (∀w',w2=w'->_):=fun w' e=>by subst e;exact QT HL2.o.1 (by omega)
   clear hl2 ht2;go_wp2_with fail
   refine(HLk2.o _ rfl).mono ?_;rintro e w3 ⟨rfl,hl3,ht3⟩;have HT3:=hid ht3;clear hl3 ht3;go_wp2;go_ret;exact⟨zH (by simp),HTj.o.trans (HL2.o.2.trans HT3.o)⟩
end
section
theorem uc (w:World)(sa:Option Addr)(n cap:Nat)(hn:n<=60000)(hs:ScriptAt w w.heap.size sa n) :
  Calls Tryz.prog 4 #[.slice sa n cap] w fun e w'=>e=.returned (.bool true)/\Ext w w':=by
 have HB:Hd (∀w',_):=fun w'=>jP w'
 have HS:=hid hs;clear hs;go_enter Tryz.func4,Tryz.ntmps4;go_wp2_with fail
 refine(HB.o _).mono ?_;rintro e w1 ⟨P,B,rfl,hl,hx⟩;have HP:Hd (∀w',w1=w'->_):=fun w' e=>by subst e;exact jJ 5 (by decide) hl sa n cap hn (HS.o.turn (lM hx))
 have HX:=hid hx;clear hl hx;go_wp2_with fail
 refine(HP.o _ rfl).mono ?_;rintro e w2 ⟨rfl,ht⟩;have HT:=hid ht;clear ht;go_wp2;go_ret;exact⟨rfl,Turn.ext ((lM (S:=fun _=>False) HX.o).trans' HT.o (fun b hb hl=>by omega))⟩
theorem UW (w:World)(sa:Option Addr)(n cap:Nat)(hn:n<=60000)(hs:ScriptAt w w.heap.size sa n) :
  Calls Tryz.prog 5 #[.slice sa n cap] w fun e w'=>e=.returned (.bool true)/\Ext w w':=by
 have HB:Hd (∀w',_):=fun w'=>jP w'
 have HS:=hid hs;clear hs;go_enter Tryz.func5,Tryz.ntmps5;go_wp2_with fail
 refine(HB.o _).mono ?_;rintro e w1 ⟨P,B,rfl,hl,hx⟩;have HP:Hd (∀w',w1=w'->_):=fun w' e=>by subst e;exact jJ 6 (by decide) hl sa n cap hn (HS.o.turn (lM hx))
 have HX:=hid hx;clear hl hx;go_wp2_with fail
 refine(HP.o _ rfl).mono ?_;rintro e w2 ⟨rfl,ht⟩;have HT:=hid ht;clear ht;go_wp2;go_ret;exact⟨rfl,Turn.ext ((lM (S:=fun _=>False) HX.o).trans' HT.o (fun b hb hl=>by omega))⟩
end
section
open Go.ChangeShapes Go.WideShapes Go.ChangeAt Go.RowKit Go.Joins
theorem Yl {H:Type}(d:DataW H):1<=Rows.uptoBulk d:=by
 cases d with
 | lit l=>cases l<;>simp [Rows.uptoBulk]
 | _=>simp [Rows.uptoBulk]
theorem xl {H:Type}(l:List (DataW H)):l.length<=Rows.uptoBulkAll l:=by
 induction l with
 | nil=>simp [Rows.uptoBulkAll]
 | cons x r ih=>have:=Yl x;simp only [Rows.uptoBulkAll,List.length_cons];omega
theorem Jv {H:Type}{d:DataW H}{l:List (DataW H)}(h:d∈l):Rows.uptoBulk d<=Rows.uptoBulkAll l:=by
 induction l with
 | nil=>cases h
 | cons x r ih=>
  simp only [Rows.uptoBulkAll];cases List.mem_cons.1 h with
  | inl e=>subst e;omega
  | inr e=>have:=ih e;omega
theorem UT {H:Type}(l:List (DataW H))(k:Nat)(h:∀d∈l,k<=Rows.uptoBulk d):k*l.length<=Rows.uptoBulkAll l:=by
 induction l with
 | nil=>simp
 | cons x r ih=>
  have h1:=h x (by simp);have h2:=ih (fun d hd=>h d (by simp [hd]));simp only [Rows.uptoBulkAll,List.length_cons,Nat.mul_add,Nat.mul_one];omega
theorem gY {cs:List Value}(h:cs.length=4):∃c0 c1 c2 c3,cs=[c0,c1,c2,c3]:=by
 match cs,h with
 | [c0,c1,c2,c3],_=>exact⟨c0,c1,c2,c3,rfl⟩
theorem gO {cs:List Value}(h:cs.length=10):∃c0 c1 c2 c3 c4 c5 c6 c7 c8 c9,cs=[c0,c1,c2,c3,c4,c5,c6,c7,c8,c9]:=by
 match cs,h with
 | [c0,c1,c2,c3,c4,c5,c6,c7,c8,c9],_=>exact⟨c0,c1,c2,c3,c4,c5,c6,c7,c8,c9,rfl⟩
theorem gd {cs:List Value}(h:cs.length=21):∃c0 c1 c2 c3 c4 c5 c6 c7 c8 c9 c10 c11 c12 c13 c14 c15 c16 c17 c18 c19 c20,cs=[c0,c1,c2,c3,c4,c5,c6,c7,c8,c9,c10,c11,c12,c13,c14,c15,c16,c17,c18,c19,c20]:=by
 match cs,h with
 | [c0,c1,c2,c3,c4,c5,c6,c7,c8,c9,c10,c11,c12,c13,c14,c15,c16,c17,c18,c19,c20],_=>exact⟨c0,c1,c2,c3,c4,c5,c6,c7,c8,c9,c10,c11,c12,c13,c14,c15,c16,c17,c18,c19,c20,rfl⟩
theorem gW {α:Type}{cs:List α}(h:cs.length=9):∃c0 c1 c2 c3 c4 c5 c6 c7 c8,cs=[c0,c1,c2,c3,c4,c5,c6,c7,c8]:=by
 match cs,h with
 | [c0,c1,c2,c3,c4,c5,c6,c7,c8],_=>exact⟨c0,c1,c2,c3,c4,c5,c6,c7,c8,rfl⟩
section
variable {H:Type}{enc:TypeId×Value->H}{W:World}{base:Nat}{spare:Nat->Bool}{held:Bool}
theorem QO:Tryz.prog.cellsOf 3=1:=by kernel_rfl
theorem Kc:Tryz.prog.cellsOf 146=1:=by kernel_rfl
theorem UF:Tryz.prog.cellsOf 31=1:=by kernel_rfl
theorem kE:Tryz.prog.cellsOf 9=1:=by kernel_rfl
theorem UM:Tryz.prog.cellsOf 101=1:=by kernel_rfl
theorem Xw:Tryz.prog.cellsOf 49=4:=by kernel_rfl
theorem ul:Tryz.prog.cellsOf 51=10:=by kernel_rfl
theorem vQ:Tryz.prog.cellsOf 103=21:=by kernel_rfl
theorem xo {t:TypeId}{fs:Array Field}{fuel:Nat}{cs:List Value}{x:DataW H×List MemPlace}(ht:Tryz.prog.underlying t=some (.struct fs))(h:DataW.trod enc Tryz.prog W base spare held fuel t cs=some x):fs.size+1<=Rows.uptoBulk x.1:=by obtain⟨xs,n,_,rfl,_,hl,_⟩:=DataW.trod_struct ht h;have:=xl (xs.map (·.1));simp only [List.length_map] at this;simp only [Rows.uptoBulk];omega
theorem ud {fuel:Nat}{cs:List Value}{x:DataW H×List MemPlace}(h:DataW.trod enc Tryz.prog W base spare held fuel 49 cs=some x) :
  ∃a b c d:Int,cs=[.int .i64 a,.int .i64 b,.int .i64 c,.int .i64 d]:=by
 obtain⟨y0,y1,y2,y3,n,_,hl,h0,h1,h2,h3⟩:=trod_struct4 Tryz.underlying49 h;rw [Xw] at hl;obtain⟨c0,c1,c2,c3,rfl⟩:=gY hl;clear hl h;simp [QO] at h0 h1 h2 h3;obtain⟨a,e0,_⟩:=DataW.trod_int Tryz.underlying3 h0;obtain⟨b,e1,_⟩:=DataW.trod_int Tryz.underlying3 h1;obtain⟨c,e2,_⟩:=DataW.trod_int Tryz.underlying3 h2;obtain⟨d,e3,_⟩:=DataW.trod_int Tryz.underlying3 h3;simp at e0 e1 e2 e3;exact⟨a,b,c,d,by rw [e0,e1,e2,e3]⟩
theorem Ka {fuel:Nat}{cs:List Value}{x:DataW H×List MemPlace}(h:DataW.trod enc Tryz.prog W base spare held fuel 51 cs=some x) :
  ∃k s i ck cm cl cn f c p:Int,cs=[.int .i64 k,.int .i64 s,.int .i64 i,.int .i64 ck,.int .i64 cm,.int .i64 cl,.int .i64 cn,.int .i64 f,.int .i64 c,.int .i64 p]:=by
 obtain⟨xs,n,_,_,hl,hxl,hf⟩:=DataW.trod_struct Tryz.underlying51 h;rw [ul] at hl;obtain⟨c0,c1,c2,c3,c4,c5,c6,c7,c8,c9,rfl⟩:=gO hl;clear hl h;have h0:=hf 0 _ rfl;have h1:=hf 1 _ rfl;have h2:=hf 2 _ rfl;have h3:=hf 3 _ rfl;have h4:=hf 4 _ rfl;have h5:=hf 5 _ rfl;have h6:=hf 6 _ rfl;have hx:∀j,j<7->∃y,xs[j]?=some y:=fun j hj=>⟨_,lZ (by rw [hxl];exact hj)⟩
 obtain⟨y0,e0⟩:=hx 0 (by decide);obtain⟨y1,e1⟩:=hx 1 (by decide);obtain⟨y2,e2⟩:=hx 2 (by decide);obtain⟨y3,e3⟩:=hx 3 (by decide);obtain⟨y4,e4⟩:=hx 4 (by decide);obtain⟨y5,e5⟩:=hx 5 (by decide);obtain⟨y6,e6⟩:=hx 6 (by decide);rw [e0] at h0;rw [e1] at h1;rw [e2] at h2;rw [e3] at h3;rw [e4] at h4;rw [e5] at h5;rw [e6] at h6;simp [QO,Xw] at h0 h1 h2 h3 h4 h5 h6;obtain⟨k,d0,_⟩:=DataW.trod_int Tryz.underlying3 h0;obtain⟨s,d1,_⟩:=DataW.trod_int Tryz.underlying3 h1;obtain⟨i,d2,_⟩:=DataW.trod_int Tryz.underlying3 h2;obtain⟨ck,cm,cl,cn,d3⟩:=ud h3;obtain⟨f,d4,_⟩:=DataW.trod_int Tryz.underlying3 h4;obtain⟨c,d5,_⟩:=DataW.trod_int Tryz.underlying3 h5;obtain⟨p,d6,_⟩:=DataW.trod_int Tryz.underlying3 h6;simp at d0 d1 d2 d3 d4 d5 d6;obtain⟨d3a,d3b,d3c,d3d⟩:=d3;exact⟨k,s,i,ck,cm,cl,cn,f,c,p,by rw [d0,d1,d2,d3a,d3b,d3c,d3d,d4,d5,d6]⟩
theorem Vt {fuel:Nat}{cs:List Value}{x:DataW H×List MemPlace}(h:DataW.trod enc Tryz.prog W base spare held fuel 103 cs=some x)(hb:Rows.uptoBulk x.1<=1048576) :
  18<=Rows.uptoBulk x.1/\∃(sk sa sb kd m k n r0 r1 r2 r3 r4 r5 r6 r7 r8 r9 st:Int) (ss:ByteArray) (ca:Option Addr) (cl ccap:Nat) (a:Option Addr) (len cap:Nat) (D:List Int),
   cs=[.int .i64 sk,.int .i64 sa,.int .i64 sb,.int .i64 kd,.int .i64 m,.int .i64 k,.int .i64 n,.slice a len cap,.int .i64 r0,.int .i64 r1,.int .i64 r2,.int .i64 r3,.int .i64 r4,.int .i64 r5,.int .i64 r6,.int .i64 r7,.int .i64 r8,.int .i64 r9,.string ss,.slice ca cl ccap,.int .i64 st]/\(sa<=9223372036854775807/\ss.size<=maxLen)/\D.length=len/\inU64 D/\len<=100000000/\len<=cap/\DrawsAt W a len D/\∀b off,len≠0/\a=some ⟨b,off,none⟩->b<W.heap.size:=by
 obtain⟨xs,n,_,rfl,hl,hxl,hf⟩:=DataW.trod_struct Tryz.underlying103 h;rw [vQ] at hl;obtain⟨c0,c1,c2,c3,c4,c5,c6,c7,c8,c9,c10,c11,c12,c13,c14,c15,c16,c17,c18,c19,c20,rfl⟩:=gd hl;have hxl9:xs.length=9:=hxl;obtain⟨y0,y1,y2,y3,y4,y5,y6,y7,y8,rfl⟩:=gW hxl9;clear hl h hxl hxl9;have h0:=hf 0 _ rfl;have h1:=hf 1 _ rfl;have h2:=hf 2 _ rfl;have h3:=hf 3 _ rfl;have h4:=hf 4 _ rfl;have h5:=hf 5 _ rfl;have h6:=hf 6 _ rfl;have h7:=hf 7 _ rfl;have h8:=hf 8 _ rfl;clear hf;simp [QO,Xw,UF,ul,kE,UM] at h0 h1 h2 h3 h4 h5 h6 h7 h8;have b3:5<=Rows.uptoBulk y3.1:=xo Tryz.underlying49 h3;have b5:8<=Rows.uptoBulk y5.1:=xo Tryz.underlying51 h5;have b0:=Yl y0.1;have b1:=Yl y1.1;have b2:=Yl y2.1;have b4:=Yl y4.1;have b6:=Yl y6.1;have b7:=Yl y7.1;have b8:=Yl y8.1;simp only [List.map_cons,List.map_nil,Rows.uptoBulk,Rows.uptoBulkAll] at hb ⊢;refine⟨by omega,?_⟩;have hb4:Rows.uptoBulk y4.1<=1048576:=by omega
 clear hb b0 b1 b2 b3 b4 b5 b6 b7 b8;obtain⟨sk,d0,_⟩:=DataW.trod_int Tryz.underlying3 h0;obtain⟨sa,d1,_,hsa⟩:=DataW.trod_int Tryz.underlying3 h1;obtain⟨sb,d2,_⟩:=DataW.trod_int Tryz.underlying3 h2;have hsa':sa<=9223372036854775807:=by have h:=hsa;simp [Lit.wf,IntKind.min,IntKind.max,IntKind.signed,IntKind.bits] at h;omega
 obtain⟨kd,m,k,n',d3⟩:=ud h3;obtain⟨r0,r1,r2,r3,r4,r5,r6,r7,r8,r9,d5⟩:=Ka h5;obtain⟨ss,d6,_,hss⟩:=DataW.trod_string Tryz.underlying9 h6;obtain⟨ca,cl,ccap,d7⟩:∃(ca:Option Addr) (cl ccap:Nat),[c19]=[Value.slice ca cl ccap]:=by
  rcases open_ints Tryz.underlying101 Tryz.underlying3 QO h7 with⟨hcs,_⟩|⟨x,l,c,zs,hcs,_⟩
  ·exact⟨none,0,0,hcs⟩
  ·exact⟨some x,l,c,hcs⟩
 obtain⟨st,d8,_⟩:=DataW.trod_int Tryz.underlying3 h8;obtain⟨a,len,cap,D,d4,e1,e2,e3,e4,e5,e6⟩:∃(a:Option Addr) (len cap:Nat) (D:List Int),[c7]=[Value.slice a len cap]/\D.length=len/\inU64 D/\len<=100000000/\len<=cap/\DrawsAt W a len D/\∀b off,len≠0/\a=some ⟨b,off,none⟩->b<W.heap.size:=by
  rcases open_ints Tryz.underlying31 Tryz.underlying146 Kc h4 with⟨hcs,_⟩|⟨x,l,c,zs,hcs,_,hl,hm,hz,hy,hcell,hwz⟩
  ·exact⟨none,0,0,[],hcs,rfl,fun z hz=>by simp at hz,by omega,by omega,.inl rfl,fun b off e=>by simp at e⟩
  ·have hle:l<=zs.length:=by rw [hz];split<;>omega
   rw [hy] at hb4;have hl4:l<=100000000:=by
    have h1:=xl (lits (H:=H) .u64 (zs.take l));simp only [Rows.uptoBulk] at hb4;have h2:(lits (H:=H) .u64 (zs.take l)).length=l:=by simp [lits];omega
    omega
   refine⟨some x,l,c,zs.take l,hcs,by simp;omega,?_,hl4,hl,?_,?_⟩
   ·intro z hz';simpa [Lit.wf,IntKind.min,IntKind.max,IntKind.signed,IntKind.bits] using hwz z (List.mem_of_mem_take hz')
   ·by_cases h0:l=0
    ·exact .inl h0
    ·right
     obtain⟨b,off,spot⟩:=x;have hc0:=hcell 0 (by omega);have hspot:spot=none:=by simpa [Addr.add] using World.cell?_spot hc0
     subst hspot;refine⟨b,off,rfl,fun i hi=>?_⟩;have hi':i<l:=by simp at hi;omega
     have hci:=hcell i (by omega);have e:(⟨b,off,none⟩:Addr).add i=⟨b,off+i,none⟩:=by unfold Addr.add;split<;>simp_all
     rw [e] at hci;rw [hci];simp [rT,hi']
   ·rintro b off ⟨hne,e⟩;have e':x=⟨b,off,none⟩:=by simpa using e
    have hc0:=hcell 0 (by omega);rw [e'] at hc0;exact lG W _ hc0
 simp at d0 d1 d2 d3 d4 d5 d6 d7 d8;obtain⟨d3a,d3b,d3c,d3d⟩:=d3;obtain⟨d50,d51,d52,d53,d54,d55,d56,d57,d58,d59⟩:=d5;exact⟨sk,sa,sb,kd,m,k,n',r0,r1,r2,r3,r4,r5,r6,r7,r8,r9,st,ss,ca,cl,ccap,a,len,cap,D,by rw [d0,d1,d2,d3a,d3b,d3c,d3d,d4,d50,d51,d52,d53,d54,d55,d56,d57,d58,d59,d6,d7,d8],⟨hsa',hss⟩,e1,e2,e3,e4,e5,e6⟩
end
end
end Go.Proofs.YtmnjhhachdlmkaaGreat
