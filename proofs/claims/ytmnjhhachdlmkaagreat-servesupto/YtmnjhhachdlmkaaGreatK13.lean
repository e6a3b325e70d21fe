import Derived.Laws.CopyOwn
import Derived.BigGuardPart
import Derived.Test.YtmnjhhachdlmkaaGreatK12
import Derived.Test.YtmnjhhachdlmkaaGreatK01
import Derived.Test.YtmnjhhachdlmkaaGreatK02
namespace Go.Proofs.YtmnjhhachdlmkaaGreat
set_option linter.all false
set_option maxRecDepth 100000
set_option maxHeartbeats 3200000
open Tryz
open Nat renaming le_refl -> lO, lt_of_lt_of_le -> rA, le_trans -> rH, zero_le -> lT, not_lt_zero -> sG, add_mul -> rO
open List renaming length_append -> lW, getElem?_append_left -> sL, getElem_append_left -> sM, getElem?_append_right -> sH, length_map -> rU, append_assoc -> sI, length_modify -> sR, length_set -> rK, getElem?_set_self -> sA, getElem?_set_ne -> lU, flatten_cons -> sP, append_nil -> rL
open Int renaming natCast_mul -> rQ
open Ext renaming refl -> lI, grown -> rG, owns -> rE, alloc -> lK, setCell -> rF, drew -> lJ
open World renaming ownsRow_nil -> rB, ownsRow -> lR, news_of_block -> rI, setCell -> rC, cell?_setCell_far -> lX
open Turn renaming grown -> rJ, refl -> rD, of_ext -> lM, setCell -> lQ
open AllReadyH renaming cons -> sD
open List renaming getElem_toArray -> lA, getElem_cons_succ -> lB, getElem_cons_zero -> lC, setIfInBounds_toArray -> lD, set_cons_zero -> lE, set_cons_succ -> lF
open World renaming block_lt_of_cell? -> lG
open Value renaming ownBlock -> lH
section
open Go.RowKit Go.Maps
theorem yD {w:World}{base g n:Nat}{e:TypeId}{xs:List Value}(h:w.ownsRow base e 1 (.slice (some ⟨g,0,none⟩) n n) n xs):w.heap[g]?=some (.cells xs.toArray e (0,0))/\xs.length=n/\base<=g/\n<=maxLen:=by
 obtain⟨hl,⟨h1,_⟩|⟨g',cap,cur,hv,hb,hg,hc,hm,hs,ht⟩⟩:=h
 ·simp at h1
 ·simp at hv;obtain⟨rfl,rfl⟩:=hv;have hcur:cur.toList=xs:=by
   rw [<-ht,List.take_of_length_le (by simp [hs])]
  refine⟨?_,by omega,hb,hm⟩;rw [hg,<-hcur]
theorem xU {w:World}{base g n:Nat}{e:TypeId}{xs:List Value}(h:w.heap[g]?=some (.cells xs.toArray e (0,0)))(hl:xs.length=n)(hb:base<=g)(hm:n<=maxLen):w.ownsRow base e 1 (.slice (some ⟨g,0,none⟩) n n) n xs:=
 ⟨by omega,.inr ⟨g,n,xs.toArray,rfl,hb,h,lO _,hm,by simp [hl],by simp [<-hl]⟩⟩
theorem Qf {L cs:List Value}(h:cs.length=L.length):splice L 0 cs=cs:=by simp [splice,h]
theorem kr:(Tryz.prog.info? 31).map (fun i=>(i.zero,i.size,i.bytes))=some (some (.slice none 0 0),1,24):=by kernel_rfl
def NewDraws (w:World)(base E:Nat)(v:Value)(D:List Int):Prop:=∃b,v=.slice (some ⟨b,0,none⟩) E E/\WordsU w b D/\base<=b/\b<w.heap.size
theorem NewDraws.turn {S:Nat->Prop}{w w':World}{base E:Nat}{v:Value}{D:List Int}(h:NewDraws w base E v D)(ht:Turn S w w')(hs:∀b cur,w.heap[b]?=some (.cells cur 146 (0,0))->¬S b):NewDraws w' base E v D:=by obtain⟨b,h1,h2,h3,h4⟩:=h;obtain⟨cur,hc⟩:=h2.2;exact⟨b,h1,h2.turn ht (hs b cur hc),h3,rA h4 ht.size⟩
theorem NewDraws.is {w:World}{G:Nat->Prop}{base E:Nat}{v:Value}{D:List Int}(h:NewDraws w base E v D)(hg:∀b,base<=b->b<w.heap.size->G b):DrawsIs w G E v D:=by obtain⟨b,h1,h2,h3,h4⟩:=h;exact⟨b,E,h1,lO _,h2.1,hg b h3 h4⟩
theorem qD {w:World}{G:Nat->Prop}{x:Stk}{base E cnt:Nat}{av:Value}{vs vsj:List Value}{us:List (List Int)}(hE:x.each=E)(hlv:vs.length=x.ts.length)(hold:∀i (h:i<x.ts.length),∃v,vs[i]?=some v/\DrawsIs w G E v x.ts[i].1)(hlj:vsj.length=cnt)(hus:us.length=cnt)(hnew:∀a (h:a<us.length),∃v,vsj[a]?=some v/\NewDraws w base E v us[a])
  (ho:w.ownsRow base 31 1 av (x.ts.length+cnt) (vs++vsj)) (h1:1<=x.ts.length+cnt) (hg:∀b,base<=b->b<w.heap.size->G b) :
  RefStk w G (x.more (Zc us)) [.int .i64 x.kd,.int .i64 x.m,.int .i64 x.k,.int .i64 x.n,av,.int .i64 x.leased,.int .i64 x.gone]:=by
 have hlen:(x.more (Zc us)).ts.length=x.ts.length+cnt:=by simp [Stk.more,Zc,hus]
 have hgone:(x.more (Zc us)).gone=x.gone:=by simp [Stk.more,Zc,Stk.gone]
 refine⟨av,vs++vsj,?_,?_,?_,fun i hi=>?_⟩
 ·rw [hgone];rfl
 ·rw [hlen];exact RowIs.of_owns ho (.inr h1) hg
 ·rw [hlen,lW,hlv,hlj]
 ·by_cases hit:i<x.ts.length
  ·obtain⟨v,k1,k2⟩:=hold i hit;refine⟨v,by rw [sL (by omega)];exact k1,?_⟩;have e:(x.more (Zc us)).ts[i]=x.ts[i]:=by simp [Stk.more,Zc,sM hit]
   rw [e,show (x.more (Zc us)).each=E from hE];exact k2
  ·have hia:i - x.ts.length<us.length:=by rw [hlen] at hi;omega
   obtain⟨v,k1,k2⟩:=hnew (i - x.ts.length) hia;refine⟨v,by rw [sH (by omega),hlv];exact k1,?_⟩;have e:(x.more (Zc us)).ts[i].1=us[i - x.ts.length]:=by simp [Stk.more,Zc,List.getElem_append_right (show x.ts.length<=i by omega)]
   rw [e,show (x.more (Zc us)).each=E from hE];exact k2.is hg
theorem vr {G:Nat->Prop}(p:Nat)(S:List Stk)(ls:List LsV)(kd m k n:Nat)(hcls:yb kd m k n=true)(b off len cap E cnt:Nat)(D:List Int)(hE:E=(zB kd m k n).x+(zB kd m k n).y+((zB kd m k n).x+(zB kd m k n).y+(zB kd m k n).z))(hl:D.length=len)(hcap:len<=cap)(hlen:len=cnt*E)(hc1:1<=cnt)(hc12:cnt<=12)(hS:S.length<=100)(hls:ls.length<=1000)(hSm:∀x∈S,1<=x.ts.length/\x.ts.length<=1000)(hcd:zY S kd m k n cnt=0)(w:World)(hGl:∀b,G b->b<w.heap.size)(h:RefAt w G p S ls)(hz:WordsAt w b off D) :
  Calls Tryz.prog 102 #[.pointer (some ⟨p,0,none⟩),zJ kd m k n,.slice (some ⟨b,off,none⟩) len cap] w fun e w'=>∃q,e=.returned (.tuple #[.pointer (some ⟨q,0,none⟩),.int .i64 0])/\RefAt w' (ZO G w w') q (Ye S kd m k n (Zc (zM D E cnt))) ls/\Ext w w':=by
 obtain⟨hc,hs⟩:=Yc hcls;have hle:=Sh.le hs;obtain⟨i0,hi,hz0,hz1,hz2⟩:=info_parts ZS;obtain⟨j0,hj0,hy0,hy1,hy2⟩:=info_parts kr;have HI:Hd (∀w,Calls Tryz.prog 145 #[zJ kd m k n] w fun e w'=>e=.returned (.bool true)/\Ext w w'):=fun w=>by have:=Yu kd m k n w;rw [hcls] at this;exact this
 have HDr:Hd _:=Qe hc hs;rw [<-hE] at HDr;have hE1:1<=E/\E<=45:=by omega
 have HFi:Hd (∀w',Ext w w'->Calls Tryz.prog 147 #[.pointer (some ⟨p,0,none⟩),zJ kd m k n] w' fun e w''=>e=.returned (.int .i64 (match S.findIdx? (fun x=>x.is kd m k n) with|some i=>(i:Int)|none=>-1))/\Ext w' w''):=fun w' hx=>yB p S ls kd m k n hS w' (h.ext hx)
 have HCp:Hd (∀w',Ext w w'->_):=fun w' hx=>qT p S ls hS hls w' (h.ext hx)
 have HGl:=hid hGl;have hlenb:len<=540:=by rw [hlen];exact rH (Nat.mul_le_mul hc12 hE1.2) (by omega)
 have hdiv:Int.tdiv (len:Int) (E:Int)=(cnt:Int):=by rw [hlen,rQ,Int.mul_tdiv_cancel _ (by omega)]
 have hwm:IntKind.i64.wrap ((cnt:Int)*(E:Int))=(len:Int):=by rw [<-rQ,<-hlen];exact zt (by omega)
 have hne:¬((E:Int)=0):=by omega
 have hn1:¬(cnt:Int)<1:=by omega
 have hn2:¬12<(cnt:Int):=by omega
 have HZ:=hid hz;have HL:Hd (D.length=cnt*E):=hl.trans hlen;have HLen:Hd (len=cnt*E/\len<=cap):=⟨hlen,hcap⟩
 obtain⟨stv,lsv,css0,h1,h2,h3,h4,h5,h6⟩:=h;have c0:w.cell? ⟨p,0,none⟩=some stv:=zc h1 rfl;have hp:p<w.heap.size:=lG w _ c0;cases hfx:S.findIdx? (fun x=>x.is kd m k n) with
 | some ix=>
  rw [hfx] at HFi;obtain⟨hix,hfi⟩:=zU hfx;have hbig:¬200<S[ix].ts.length+cnt:=fun hb=>by unfold zY at hcd;rw [hfi] at hcd;simp only at hcd;rw [if_pos hb] at hcd;simp at hcd
  have htm:=hSm _ (List.getElem_mem hix);have HMk:Hd (Ye S kd m k n (Zc (zM D E cnt))=S.modify ix (fun x=>x.more (Zc (zM D E cnt)))):=by
   show Ye S kd m k n (Zc (zM D E cnt))=_
   unfold Ye;rw [hfx]
  have hisx:S[ix].is kd m k n=true:=by have:=(List.findIdx?_eq_some_iff_getElem.1 hfx).2.1;exact this
  have HEach:Hd (S[ix].each=E):=by
   have e4:S[ix].kd=kd/\S[ix].m=m/\S[ix].k=k/\S[ix].n=n:=by simp [Stk.is] at hisx;omega
   show (zB S[ix].kd S[ix].m S[ix].k S[ix].n).x+(zB S[ix].kd S[ix].m S[ix].k S[ix].n).y+((zB S[ix].kd S[ix].m S[ix].k S[ix].n).x+(zB S[ix].kd S[ix].m S[ix].k S[ix].n).y+(zB S[ix].kd S[ix].m S[ix].k S[ix].n).z)=E
   rw [e4.1,e4.2.1,e4.2.2.1,e4.2.2.2,hE]
  obtain⟨g0,cap0,ta,tcap,vs0,rfl,hcap0,_,⟨_,_,_,_,s4,_,_⟩,_,_,_⟩:=Yw h3 h4 h5 ix hix;have hgl:=lG w _ s4;obtain⟨ln,hln⟩:∃ln,S.length=ln:=⟨_,rfl⟩
  obtain⟨tn,htn⟩:∃tn,S[ix].ts.length=tn:=⟨_,rfl⟩
  have HTN:=hid htn;have HLN:=hid hln;have HIX:=hid hix;rw [hln] at c0 hix hcap0;rw [htn] at s4 hbig htm;have hk0:(0:Int)<=(ix:Int):=by omega
  have hk1:(ix:Int)<ln:=by omega
  have hbg:¬(200:Int)<(tn:Int)+(cnt:Int):=by omega
  have hwb:IntKind.i64.wrap ((tn:Int)+(cnt:Int))=(tn:Int)+(cnt:Int):=by rw [IntKind.wrap_i64];omega
  clear hcls hc hs hE hle h1 h2 h3 h4 h5 h6 hlen hcd hfx hSm hS hln htn hfi hz hl hGl hls hcap hisx;unfold zJ at *;go_enter func102,ntmps102;go_wp2_with fail
  refine(HI.o _).mono ?_;rintro e w1 ⟨rfl,hx1⟩;obtain⟨d0,d1,d2,d3⟩:=ZQ hx1;have hlt1:=Qx hx1;have HX1:Hd (Ext w w1):=((lI w).alloc _).trans hx1;clear hx1;go_wp2_with fail
  refine(HDr.o _).mono ?_;rintro e w2 ⟨rfl,hx2⟩;have HX2:Hd (Ext w w2):=HX1.o.trans hx2;have hlt1:=rA hlt1 hx2.le;have d0:=hx2.cell d0;have d1:=hx2.cell d1;have d2:=hx2.cell d2;have d3:=hx2.cell d3;clear hx2 HX1;go_wp2_with fail
  refine(HFi.o _ HX2.o).mono ?_;rintro e w3 ⟨rfl,hx3⟩;have HX3:Hd (Ext w w3):=HX2.o.trans hx3;have hlt1:=rA hlt1 hx3.le;have c0:=HX3.o.cell c0;have d0:=hx3.cell d0;have d1:=hx3.cell d1;have d2:=hx3.cell d2;have d3:=hx3.cell d3;have s4:=HX3.o.cell s4;clear hx3 HX2;go_wp2_with fail
  refine(HCp.o _ HX3.o).mono ?_;rintro e V ⟨q,v1,v2,css,rfl,q1,q2,q3,q4,q5,q6,hx4,q7,q8⟩;have hwq:w.heap.size<=q:=rH HX3.o.le q6;have hVX:Ext w V:=HX3.o.trans hx4;have hw3:=HX3.o.le;have q2:=zv q2 hw3;have q3:=zv q3 hw3;have d0:=hx4.cell d0;have d1:=hx4.cell d1;have d2:=hx4.cell d2;have d3:=hx4.cell d3;clear hx4 c0 s4;rw [HLN.o] at q2 q7;obtain⟨g1,cap1,rfl,hg1w,hcap1,_⟩:∃g cap,v1=.slice (some ⟨g,0,none⟩) ln cap/\w.heap.size<=g/\ln<=cap/\cap<=maxLen:=by
   rcases zw q2 with⟨_,hn,_⟩|h
   ·omega
   ·exact h
  obtain⟨cs,hcs,tv,vs,hcsE,hrow,hvl,hdr⟩:=q5 ix HIX.o;rw [HTN.o] at hrow hvl;have hb4:V.cell? ⟨g1,ix*7+4,none⟩=some tv:=zk q2 ((y9 q4 q5 ix HIX.o 4 (by omega) hcs).trans (by rw [hcsE];rfl));obtain⟨tg,tcp,rfl,htcp,htG,htc,_⟩:∃g cap,tv=.slice (some ⟨g,0,none⟩) tn cap/\tn<=cap/\G g/\(∀i u,vs[i]?=some u->V.cell? ⟨g,i,none⟩=some u)/\1<=tn:=by
   rcases hrow with⟨_,hn⟩|h
   ·omega
   ·exact h
  have y0:V.cell? ⟨q,0,none⟩=some (.slice (some ⟨g1,0,none⟩) ln cap1):=zc q1 rfl;have hql:=lG V _ y0;have hgl1:=lG V _ hb4;have HVs:Hd (vs.length=tn/\(∀u∈vs,u.oneCell'=true)/\∀i u,vs[i]?=some u->V.cell? ⟨tg,i,none⟩=some u):=⟨hvl,fun u hu=>by
   obtain⟨i',hi',rfl⟩:=List.getElem_of_mem hu;obtain⟨v,k1,b',c',rfl,_⟩:=hdr i' (by rw [HTN.o];omega);rw [List.getElem?_eq_getElem hi'] at k1;injection k1 with k1
   rw [k1];rfl,htc⟩
  have HVQ:Hd _:=And.intro q1 (And.intro q2 q3);have HSx:Hd (css.length=S.length/\S.length=ln/\∀i (h:i<S.length),∃cs,css[i]?=some cs/\RefStk V G S[i] cs):=⟨q4,HLN.o,q5⟩
  have HCS:Hd (css[ix]?=some cs/\∀av,cs.set 4 av=[.int .i64 S[ix].kd,.int .i64 S[ix].m,.int .i64 S[ix].k,.int .i64 S[ix].n,av,.int .i64 S[ix].leased,.int .i64 S[ix].gone]):=⟨hcs,fun av=>by rw [hcsE];rfl⟩
  have HOld:Hd (vs.length=S[ix].ts.length/\∀i (h:i<S[ix].ts.length),∃v,vs[i]?=some v/\DrawsIs V G E v S[ix].ts[i].1):=⟨hvl.trans HTN.o.symm,fun i hi=>by obtain⟨v,k1,k2⟩:=hdr i hi;rw [HEach.o] at k2;exact⟨v,k1,k2⟩⟩
  have HTV:=hid hb4;have HG1:=hid hg1w;have HQW:=hid hwq;have HN2:=hid q8;have b4:=hb4;obtain⟨v2a,v2c,hv2⟩:=zo q3;clear q1 q2 q3 q4 q5 q6 q7 q8 hcs hcsE hrow hvl hdr htc d0 d1 d2 d3 hb4 HCp HFi HDr HI;go_wp2_with (at_builtin;refine wpList_append_lies _ rfl _ _ 87 rfl V.heap.size 31 j0 _ 1 24 underlying87 hj0 hy0 hy1 hy2 rfl (by decide) _ 0 [] rfl (rB _ _ _ _) ⟨tg,0,none⟩ tn tcp vs rfl ?c1 ?c2 HVs.o.2.1 ?c3 ?c4 ?c5 (lO _) _ rfl ?_)
  case c1=>rw [HVs.o.1];omega
  case c2=>intro a u hu;rw [Z1];simpa using HVs.o.2.2 a u hu
  case c3=>omega
  case c4=>unfold maxLen;omega
  case c5=>omega
  intro g5 c5 V1 hown5 hgrow5 hat5 hlt5;have HAV:Hd (V1.ownsRow V.heap.size 31 1 (.slice (some ⟨g5,0,none⟩) tn c5) tn vs/\Ext V V1):=⟨by simpa using hown5,rG (lI V) hgrow5 (by simp [lH])⟩
  have hzz:0+tn=tn:=Nat.zero_add _;clear hown5 hgrow5 hat5 hlt5;go_wp2_with fail
  have HEX:=hid hVX
  go_loopw [13,14,15] (fun av at_ _ wr=>∃(j:Nat) (vsj:List Value),j<=cnt/\at_=.int .i64 (j:Int)/\vsj.length=j/\wr.ownsRow V.heap.size 31 1 av (tn+j) (vs++vsj)/\(∀a:Nat,a<j->∃v,vsj[a]?=some v/\NewDraws wr V.heap.size E v (ZL D E a))/\Ext V wr) (fun _ at_ _ _=>cnt - (intOf at_).toNat)
  case atStart=>exact⟨0,[],lT _,rfl,rfl,by simpa using HAV.o.1,fun a ha=>absurd ha (sG _),HAV.o.2⟩
  case round=>
   obtain⟨j,vsj,hj,rfl,hvl,ho,hnw,hx⟩:=hrel;have HO:=hid ho;have HN:=hid hnw;have HX:=hid hx;have HVL:=hid hvl;have hVle:=hx.le;clear ho hnw hx hvl;by_cases hlt:j<cnt
   ·obtain⟨lo,hlo⟩:∃lo,j*E=lo:=⟨_,rfl⟩
    obtain⟨hi',hhi⟩:∃hi',(j+1)*E=hi':=⟨_,rfl⟩
    have hlh:lo+E=hi':=by rw [<-hlo,<-hhi,rO,Nat.one_mul]
    have hhl:hi'<=len:=by rw [<-hhi,HLen.o.1];exact Nat.mul_le_mul_right E hlt
    have v1:IntKind.i64.wrap ((j:Int)*(E:Int))=(lo:Int):=by rw [<-rQ,hlo];exact zt (by omega)
    have v3:IntKind.i64.wrap (((j:Int)+1)*(E:Int))=(hi':Int):=by rw [show ((j:Int)+1)*(E:Int)=(((j+1)*E:Nat):Int) by simp,hhi];exact zt (by omega)
    have tS:∀W,(Instr.slice 31 (.slice (some ⟨b,off,none⟩) len cap) (some (.int .i64 (lo:Int))) (some (.int .i64 (hi':Int))) none).run Tryz.prog W=.ok (.slice (some ⟨b,off+lo,none⟩) E (cap - lo)) W:=fun W=>by rw [yI b off len cap lo hi' (by omega) (by have:=HLen.o.2;omega),show hi' - lo=E by omega]
    have HU:Hd ((ZL D E j).length=E/\(∀w',Ext V w'->WordsAt w' b (off+lo) (ZL D E j))/\E<=cap - lo):=by refine⟨Yx HL.o hlt,fun w' hx=>?_,by have:=HLen.o.2;omega⟩;have h1:=((HZ.o.ext (HEX.o.trans hx)).drop lo).take E;rw [<-hlo] at h1 ⊢;exact h1
    clear hlo hhi;have hEI:(0:Int)<=(E:Int):=by omega
    go_wp2_with (at_make;refine wpList_make_full _ rfl _ _ 31 rfl wr.heap.size 146 i0 (.int .u64 0) 1 underlying31 hi hz0 hz1 _ _ _ _ E rfl rfl (by omega) (by omega) (by rw [hz2];omega) (by unfold maxLen;omega) (lO _) ?_)
    intro w6 ho6 hg6;have hx6:Ext wr w6:=rG (lI wr) hg6 (by simp);have ho6':w6.ownsRow wr.heap.size 146 1 (.slice (some ⟨wr.heap.size,0,none⟩) E E) E ((List.replicate E (0:Int)).map (Value.int .u64)):=by rw [List.map_replicate,<-toList_madeCells_one];simpa [Value.cells] using ho6
    obtain⟨gm,hgm⟩:∃gm,wr.heap.size=gm:=⟨_,rfl⟩
    rw [hgm] at ho6' hVle ⊢;have HM6:=hid ho6';have HX6:=hid hx6;clear ho6 ho6' hg6 hx6;obtain⟨cs,hcs⟩:∃cs,cs=(ZL D E j).map (Value.int .u64):=⟨_,rfl⟩
    have hcsl:cs.length=E:=by rw [hcs,rU,HU.o.1]
    have HCs:=hid hcs;clear hcs;go_wp2_with (refine wpList_copy_splice rfl _ _ 31 31 rfl 146 underlying31 (by rw [hi];simp [hz1]) _ _ E E E (cap - lo) rfl rfl gm 0 ((List.replicate E (0:Int)).map (Value.int .u64)) 146 (yD HM6.o).1 cs (by rw [hcsl];simp) ?s1 (by simp [hcsl]) ?s2 gm wr (by rw [<-hgm];exact HX6.o) (lO _) ?_)
    case s1=>
     intro _ a v h;rw [HCs.o] at h;have e:=(HU.o.2.1 _ (HX.o.trans HX6.o)).cells a v h;rw [Z1] at e;exact e
    case s2=>rw [HCs.o];exact ZJ _
    intro w7 HG7 hb7;have hx7:Ext wr w7:=by rw [<-hgm] at hb7;exact hb7
    have HM7:Hd (w7.ownsRow gm 146 1 (.slice (some ⟨gm,0,none⟩) E E) E cs):=by have h:=HG7.out;rw [Qf (by simp [hcsl])] at h;exact xU h hcsl (lO _) (by unfold maxLen;omega)
    have HX7:=hid hx7;have hle7:=hx7.le;rw [hgm] at hle7;have HNB:Hd (∀q,u13.ownBlock=some q->V.heap.size<=q/\q<gm):=fun q hq=>by have:=lR.lt HO.o q hq;rw [hgm] at this;exact this
    clear HG7 hb7 hx7 HM6 HX6;go_wp2_with (at_builtin;refine wpList_append_lies _ rfl _ _ 87 rfl V.heap.size 31 j0 _ 1 24 underlying87 hj0 hy0 hy1 hy2 rfl (by decide) u13 (tn+j) (vs++vsj) rfl (rE (lK (lI _) _) (HX7.o.owns HO.o)) ⟨_,0,none⟩ 1 1 [.slice (some ⟨gm,0,none⟩) E E] rfl rfl (rI (zm (by simp))) (by simp [Value.oneCell']) (by decide) ?c4 ?c5 ?c6 _ rfl ?_)
    case c4=>unfold maxLen;omega
    case c5=>omega
    case c6=>simp;omega
    intro gv cv w8 hown8 hgrow8 hat8 hlt8;have HT8:Hd (Turn (fun q=>u13.ownBlock=some q) w7 w8):=rJ (Turn.alloc (rD _ _) _) hgrow8 (fun q hq _=>hq);have HO8:Hd (w8.ownsRow V.heap.size 31 1 (.slice (some ⟨gv,0,none⟩) (tn+j+1) cv) (tn+j+1) (vs++(vsj++[.slice (some ⟨gm,0,none⟩) E E]))):=by
     show lR _ _ _ _ _ _ _
     first|exact hown8|(rw [<-sI];exact hown8)
    clear hown8 hgrow8 hat8;go_wp2
    go_roundw
    case rel=>
     have hb13:∀b cur,w7.heap[b]?=some (.cells cur 146 (0,0))->¬u13.ownBlock=some b:=fun b cur hc e=>by obtain⟨cur',hc'⟩:=zf (HX7.o.owns HO.o) e;exact zh hc hc' (by decide) rfl
     refine⟨j+1,vsj++[.slice (some ⟨gm,0,none⟩) E E],by omega,by go_num,by rw [lW,HVL.o];rfl,?_,fun a ha=>?_,?_⟩
     ·exact HO8.o
     ·by_cases haj:a<j
      ·obtain⟨v,k1,k2⟩:=HN.o a haj;exact⟨v,by rw [sL (by rw [HVL.o];exact haj)];exact k1,(k2.turn (lM (S:=fun q=>u13.ownBlock=some q) HX7.o) (fun b cur hc e=>by obtain⟨cur',hc'⟩:=zf HO.o e;exact zh hc hc' (by decide) rfl)).turn HT8.o hb13⟩
      ·obtain rfl:a=j:=by omega
       refine⟨_,by rw [sH (by rw [HVL.o];exact lO _),HVL.o,Nat.sub_self];rfl,gm,rfl,?_,hVle,?_⟩
       ·have hwu:WordsU w7 gm (ZL D E a):=Yj (by rw [<-HCs.o];exact HM7.o);obtain⟨cur,hc⟩:=hwu.2;exact hwu.turn HT8.o (hb13 _ _ hc)
       ·have hg7:gm<w7.heap.size:=(Array.getElem?_eq_some_iff.1 (yD HM7.o).1).1;exact rA hg7 HT8.o.size
     ·exact Turn.ext ((lM (S:=fun _=>False) (HX.o.trans HX7.o)).trans' HT8.o (fun q hq e=>by have:=(HNB.o q e).1;omega))
    case measure=>simp [intOf];omega
   ·obtain rfl:j=cnt:=by omega
    have hncl:¬(j:Int)<(j:Int):=by omega
    have hVq:wr.heap[q]?=some (.cells #[.slice (some ⟨g1,0,none⟩) ln cap1,v2] 98 (0,0)):=HX.o.block HVQ.o.1;have y0:wr.cell? ⟨q,0,none⟩=some (.slice (some ⟨g1,0,none⟩) ln cap1):=zc hVq rfl;have hr1:=HX.o.owns HVQ.o.2.1;have f4:wr.frozen? ⟨g1,ix*7+4,none⟩=false:=by obtain⟨cur,hc⟩:=zf hr1 (g:=g1) rfl;exact ze hc _
    have b4:=HX.o.cell HTV.o;have hql:=lG wr _ y0;have hgl1:=lG wr _ b4;obtain⟨av,acp,hav⟩:=zo HO.o;subst hav;have HVQ2:Hd _:=And.intro hVq hr1;have hk0:(0:Int)<=(ix:Int):=by omega
    have hk1:(ix:Int)<(ln:Int):=by omega
    clear hVq hr1;go_wp2;go_ret2;refine⟨q,by simp,?_,?_⟩
    ·skip
     have hTn:Turn (fun b=>b=g1) wr (wr.setCell ⟨g1,ix*7+4,none⟩ (.slice av (tn+j) acp)):=lQ (S:=fun b=>b=g1) (p:=⟨g1,ix*7+4,none⟩) (rD _ wr) (fun _=>rfl) _;obtain⟨cur1,hcur1⟩:=zf HVQ2.o.2 (g:=g1) rfl;have hG1:=HG1.o;have hlnx:=HSx.o.2.1;have hixx:ix<S.length:=by omega
     have hGt:∀b,G b->¬b=g1:=fun b hb e=>by have:=HGl.o b hb;omega
     have hV0:w.heap.size<=V.heap.size:=HEX.o.le;have hO2:=hTn.owns HO.o (fun b hb e=>by obtain⟨cur',hc'⟩:=zf HO.o hb;exact zh hc' hcur1 (by decide) e)
     have hO2':(wr.setCell ⟨g1,ix*7+4,none⟩ (.slice av (tn+j) acp)).ownsRow w.heap.size 198 7 (.slice (some ⟨g1,0,none⟩) ln cap1) ln (css.set ix (cs.set 4 (.slice av (tn+j) acp))).flatten:=by rw [QI (qR HSx.o.1 HSx.o.2.2) ix 4 (by omega) HCS.o.1];exact zI HVQ2.o.2 _ _
     have hTQ:=hTn.ref HVQ2.o.1 (fun e=>zh HVQ2.o.1 hcur1 (by decide) e);have hTL:=hTn.owns (HX.o.owns HVQ.o.2.2) (fun b hb e=>by obtain⟨cur',hc'⟩:=zf (HX.o.owns HVQ.o.2.2) hb;exact zh hc' hcur1 (by decide) e)
     have hsize:=hTn.size;have hnewT:∀a:Nat,a<j->∃v,vsj[a]?=some v/\NewDraws (wr.setCell ⟨g1,ix*7+4,none⟩ (.slice av (tn+j) acp)) V.heap.size E v (ZL D E a):=fun a ha=>by obtain⟨v,k1,k2⟩:=HN.o a ha;exact⟨v,k1,k2.turn hTn (fun b cur hc e=>zh hc hcur1 (by decide) e)⟩
     have hTV:=(lM (S:=fun b=>b=g1) HX.o).trans hTn;generalize rC wr _ _=wF at hTn hO2 hO2' hTQ hTL hsize hnewT hTV ⊢;rw [HMk.o];refine YC (css:=css.set ix (cs.set 4 (.slice av (tn+j) acp))) hTQ (by rw [sR,hlnx];exact hO2') hTL (.inr (by rw [sR];omega)) HN2.o (by rw [rK,sR];exact HSx.o.1) (fun i' hi'=>?_) HQW.o;have hi2:i'<S.length:=by simpa using hi'
     by_cases hii:i'=ix
     ·subst hii;refine⟨cs.set 4 (.slice av (tn+j) acp),by rw [sA (by rw [HSx.o.1];exact hi2)],?_⟩;rw [List.getElem_modify,if_pos rfl,HCS.o.2];obtain⟨k2,k3⟩:=HOld.o;exact qD (base:=V.heap.size) (E:=E) (cnt:=j) (vs:=vs) (vsj:=vsj) HEach.o k2 (fun i3 hi3=>by
       obtain⟨v,n1,n2⟩:=k3 i3 hi3;exact⟨v,n1,(n2.turn hTV hGt).mono (fun b hb=>.inl hb)⟩) HVL.o (Zm _ _ _) (fun a ha=>by
       have ha2:a<j:=by rw [Zm] at ha;exact ha
       obtain⟨v,n1,n2⟩:=hnewT a ha2;refine⟨v,n1,?_⟩;have e:(zM D E j)[a]=ZL D E a:=by simp [zM]
       rw [e];exact n2) (by rw [HTN.o];exact hO2) (by omega) (fun b h1 h2=>.inr ⟨rH hV0 h1,h2⟩)
     ·obtain⟨cs2,m1,m2⟩:=HSx.o.2.2 i' hi2;refine⟨cs2,by rw [lU (fun e=>hii e.symm)];exact m1,?_⟩;rw [List.getElem_modify,if_neg (fun e=>hii e.symm)];exact(m2.turn hTV hGt).mono (fun b hb=>.inl hb)
    ·exact rF (HEX.o.trans HX.o) (by show w.heap.size<=g1;exact HG1.o) _
 | none=>
  rw [hfx] at HFi;have HFx:=hid hfx;have hfull:¬6<=S.length:=fun hb=>by unfold zY at hcd;rw [z9 hfx] at hcd;simp only at hcd;rw [if_pos (.inl hb)] at hcd;simp at hcd
  have HE:=hid hE;obtain⟨k0,hk0i,hw0,hw1,hw2⟩:=info_parts uh;obtain⟨sa,scap,rfl⟩:=h3.slice;obtain⟨ln0,hln0⟩:∃ln,S.length=ln:=⟨_,rfl⟩
  have HLN:=hid hln0;have HSL0:Hd (ln0=S.length/\S.length=ln0):=⟨hln0.symm,hln0⟩
  rw [hln0] at c0 hfull;have hfl:¬(6:Int)<=(ln0:Int):=by omega
  clear hcls hc hs hE hle h1 h2 h3 h4 h5 h6 hlen hcd hfx hSm hS hln0 hz hl hGl hls hcap;unfold zJ at *;go_enter func102,ntmps102;go_wp2_with fail
  refine(HI.o _).mono ?_;rintro e w1 ⟨rfl,hx1⟩;obtain⟨d0,d1,d2,d3⟩:=ZQ hx1;have hlt1:=Qx hx1;have HX1:Hd (Ext w w1):=((lI w).alloc _).trans hx1;clear hx1;go_wp2_with fail
  refine(HDr.o _).mono ?_;rintro e w2 ⟨rfl,hx2⟩;have HX2:Hd (Ext w w2):=HX1.o.trans hx2;have hlt1:=rA hlt1 hx2.le;have d0:=hx2.cell d0;have d1:=hx2.cell d1;have d2:=hx2.cell d2;have d3:=hx2.cell d3;clear hx2 HX1;go_wp2_with fail
  refine(HFi.o _ HX2.o).mono ?_;rintro e w3 ⟨rfl,hx3⟩;have HX3:Hd (Ext w w3):=HX2.o.trans hx3;have hlt1:=rA hlt1 hx3.le;have c0:=HX3.o.cell c0;have d0:=hx3.cell d0;have d1:=hx3.cell d1;have d2:=hx3.cell d2;have d3:=hx3.cell d3;clear hx3 HX2;go_wp2_with fail
  refine(HCp.o _ HX3.o).mono ?_;rintro e W4 ⟨q,v1,v2,css0,rfl,q1,q2,q3,q4,q5,q6,hx4,q7,q8⟩;have hwq:w.heap.size<=q:=rH HX3.o.le q6;have hVX:Ext w W4:=HX3.o.trans hx4;have hw3:=HX3.o.le;have q2o:=q2;have q2:=zv q2 hw3;have q3:=zv q3 hw3;have d0:=hx4.cell d0;have d1:=hx4.cell d1;have d2:=hx4.cell d2;have d3:=hx4.cell d3;clear hx4 c0;rw [HLN.o] at q2 q7 q2o;obtain⟨v1a,v1c,rfl⟩:=zo q2;have HQ2o:=hid q2o;have HV1:=hid q2;have HV2:=hid q3;have HB4:=hid q1;have HQ5:Hd (css0.length=S.length/\∀i (h:i<S.length),∃cs,css0[i]?=some cs/\RefStk W4 G S[i] cs):=⟨q4,q5⟩
  have HX4:=hid hVX;have HN2:=hid q8;have y0:W4.cell? ⟨q,0,none⟩=some (.slice v1a ln0 v1c):=zc q1 rfl;have hql4:=lG W4 _ y0;have hW4:=hVX.le;have hwW:=lG W4 _ d0;have HNV1:Hd (∀b,lH (.slice v1a ln0 v1c)=some b->w.heap.size<=b/\b≠w.heap.size/\b≠q):=fun b hb=>by obtain⟨cur',hc'⟩:=zf HV1.o hb;have hb1:=(lR.lt HV1.o b hb).1;have hb3:=(lR.lt HQ2o.o b hb).1;exact⟨hb1,by omega,zh hc' HB4.o (by decide)⟩
  have hqw3:w3.heap.size<=q:=q6;clear q1 q2 q2o q3 q4 q5 q6 q7 q8 hVX HCp HFi HDr HI;go_wp2_with fail
  have SDx:Hd (∀w',Turn (fun b=>lH (.slice v1a ln0 v1c)=some b) W4 w'->(fun w'=>w'.cell? ⟨w.heap.size,0,none⟩=some (.int .i64 (kd:Int))/\w'.cell? ⟨w.heap.size,1,none⟩=some (.int .i64 (m:Int))/\w'.cell? ⟨w.heap.size,2,none⟩=some (.int .i64 (k:Int))/\w'.cell? ⟨w.heap.size,3,none⟩=some (.int .i64 (n:Int))) w'):=fun w' hx=>by
   have f0:¬lH (.slice v1a ln0 v1c)=some w.heap.size:=fun e=>(HNV1.o _ e).2.1 rfl
   exact⟨hx.cell d0 f0,hx.cell d1 f0,hx.cell d2 f0,hx.cell d3 f0⟩
  refine wp_region_held_drew (S:=(fun w'=>w'.cell? ⟨w.heap.size,0,none⟩=some (.int .i64 (kd:Int))/\w'.cell? ⟨w.heap.size,1,none⟩=some (.int .i64 (m:Int))/\w'.cell? ⟨w.heap.size,2,none⟩=some (.int .i64 (k:Int))/\w'.cell? ⟨w.heap.size,3,none⟩=some (.int .i64 (n:Int)))) (by kernel_rfl) ⟨d0,d1,d2,d3⟩ (fun hHeld=>?_);refine zT 0 hHeld ?_;refine zT 1 hHeld ?_;refine zT 2 hHeld ?_;refine zT 3 hHeld ?_;refine zT 5 hHeld ?_;refine zT 6 hHeld ?_;refine wpAnyH_ready (rs:=[4,7]) (by kernel_rfl) (by simp) ?_;refine sD (o:=_) rfl (fun K hK=>?_) (sD (o:=_) rfl (fun K hK=>?_) AllReadyH.nil)
  ·skip
   (try simp only [lA,lB,lC])
   go_simp;refine hK.out _ _ ?hs1 (fun hHeld=>?_)
   case hs1=>exact SDx.o _ (lM (lJ (lI _)))
   clear hK K
   try simp only [Act.put,lA,lB,lC,lD,lE,lF]
   refine zR 7 fun K hK=>?_
   (try simp only [lA,lB,lC])
   go_simp;refine hK.out _ _ ?hs2 (fun hHeld=>?_)
   case hs2=>exact SDx.o _ (lM (lJ (lK (lI _) _)))
   clear hK K
   try simp only [Act.put,lA,lB,lC,lD,lE,lF]
   refine zR 8 fun K hK=>?_
   refine step_append_lies _ (by rfl) _ _ 96 (by rfl) w.heap.size 198 k0 _ 7 72 underlying96 hk0i hw0 hw1 hw2 (by rfl) (by decide) (.slice v1a ln0 v1c) ln0 css0.flatten (by rfl) (rE (lJ (lK (lI _) _)) HV1.o) ⟨_,0,none⟩ 1 1 [.int .i64 (kd:Int),.int .i64 (m:Int),.int .i64 (k:Int),.int .i64 (n:Int),.slice none 0 0,.int .i64 0,.int .i64 0] (by rfl) (by rfl) (rI (zy (heap_alloc_new _ _))) (by simp [Value.oneCell']) (by decide) (by unfold maxLen;omega) (by omega) (rH hW4 (Ext.le (lJ (lK (lI _) _)))) _ rfl ?_;intro gx capx w5x hown5 hgrow5 hat5 hlt5;have HT5x:Hd (Turn (fun b=>lH (.slice v1a ln0 v1c)=some b) W4 w5x):=rJ (lM (lJ (lK (lI _) _))) hgrow5 (fun q hq _=>hq);have HOWx:=hid hown5;have HATx:Hd (lH (.slice v1a ln0 v1c)=some gx\/W4.heap.size<=gx):=by
    rcases hat5 with h|h
    ·exact .inl h
    ·exact .inr (by rw [h];exact(lM (lJ (lK (lI _) _)):Turn (fun _=>False) W4 _).size)
   have HB5:Hd (w5x.heap[q]?=some (.cells #[.slice v1a ln0 v1c,v2] 98 (0,0))):=HT5x.o.ref HB4.o (fun e=>(HNV1.o _ e).2.2 rfl);have y1b:w5x.cell? ⟨q,0,none⟩=some (.slice v1a ln0 v1c):=zc HB5.o rfl;have f1b:=ze HB5.o 0;refine hK.out _ _ ?hs3 (fun hHeld=>?_)
   case hs3=>exact SDx.o _ HT5x.o
   clear hK K hown5 hgrow5 hat5
   try simp only [Act.put,lA,lB,lC,lD,lE,lF]
   refine zT 9 hHeld ?_;refine zT 10 hHeld ?_;refine zR 11 fun K hK=>?_
   (try simp only [lA,lB,lC])
   go_simp;refine hK.out _ _ ?hs4 (fun hHeld=>?_)
   case hs4=>
    have hnw:q≠w.heap.size:=by omega
    obtain⟨s0,s1,s2,s3⟩:=SDx.o _ HT5x.o;exact⟨(lX _ _ _ _ hnw).trans s0,(lX _ _ _ _ hnw).trans s1,(lX _ _ _ _ hnw).trans s2,(lX _ _ _ _ hnw).trans s3⟩
   clear hK K
   try simp only [Act.put,lA,lB,lC,lD,lE,lF]
   refine wpAnyH_done (by kernel_rfl) ?_ _;have HG5:Hd (gx≠q/\w.heap.size<=gx):=by
    rcases HATx.o with h|h
    ·exact⟨(HNV1.o _ h).2.2,(HNV1.o _ h).1⟩
    ·exact⟨by omega,by omega⟩
   have hO2:(w5x.setCell ⟨q,0,none⟩ (.slice (some ⟨gx,0,none⟩) (ln0+1) capx)).ownsRow w.heap.size 198 7 (.slice (some ⟨gx,0,none⟩) (ln0+1) capx) (ln0+1) (css0++[(([.int .i64 (kd:Int),.int .i64 (m:Int),.int .i64 (k:Int),.int .i64 (n:Int),.slice none 0 0,.int .i64 0,.int .i64 0]:List Value))]).flatten:=by rw [List.flatten_append,sP,List.flatten_nil,rL];exact zi HOWx.o (by simpa [lH] using HG5.o.1) _
   have hB6:(w5x.setCell ⟨q,0,none⟩ (.slice (some ⟨gx,0,none⟩) (ln0+1) capx)).heap[q]?=some (.cells #[.slice (some ⟨gx,0,none⟩) (ln0+1) capx,v2] 98 (0,0)):=zg HB5.o _;have hT6:Turn (fun b=>b=q\/lH (.slice v1a ln0 v1c)=some b) W4 (w5x.setCell ⟨q,0,none⟩ (.slice (some ⟨gx,0,none⟩) (ln0+1) capx)):=lQ (S:=fun b=>b=q\/lH (.slice v1a ln0 v1c)=some b) (p:=⟨q,0,none⟩) (HT5x.o.mono (fun _ _ e=>.inr e)) (fun _=>.inl rfl) _;generalize rC w5x _ _=V at hO2 hB6 hT6 hHeld ⊢;have hVX:Ext w V:=Turn.ext ((lM (S:=fun _=>False) HX4.o).trans' hT6 (fun b hb hor=>by
    rcases hor with e|e
    ·omega
    ·have:=(HNV1.o _ e).1;omega))
   have hL6:V.ownsRow w.heap.size 56 9 v2 ls.length (zu ls):=hT6.owns HV2.o (fun b hb hor=>by
    obtain⟨cur',hc'⟩:=zf HV2.o hb;rcases hor with e|e
    ·exact zh hc' HB4.o (by decide) e
    ·obtain⟨cur2,hc2⟩:=zf HV1.o e;exact zh hc' hc2 (by decide) rfl)
   obtain⟨ln,hln⟩:∃ln,ln0+1=ln:=⟨_,rfl⟩
   rw [hln] at hO2 hB6 ⊢;obtain⟨css,hcssE⟩:∃css,css0++[(([.int .i64 (kd:Int),.int .i64 (m:Int),.int .i64 (k:Int),.int .i64 (n:Int),.slice none 0 0,.int .i64 0,.int .i64 0]:List Value))]=css:=⟨_,rfl⟩
   rw [hcssE] at hO2;obtain⟨Sx,hSxE⟩:∃Sx,S++[⟨kd,m,k,n,[],0⟩]=Sx:=⟨_,rfl⟩
   have HSL:Hd (ln0=S.length/\S.length=ln0):=HSL0.o;have hSxl:Sx.length=ln:=by rw [<-hSxE,lW,HSL.o.2,<-hln];rfl
   have hixx:ln0<Sx.length:=by rw [hSxl,<-hln,HSL.o.1,HSL.o.2];omega
   have hSxi:Sx[ln0]=⟨kd,m,k,n,[],0⟩:=by simp only [<-hSxE,HSL.o.1];simp
   have hGq:∀b,G b->¬(b=q\/lH (.slice v1a ln0 v1c)=some b):=fun b hb hor=>by
    have hbw:=HGl.o b hb;rcases hor with e|e
    ·omega
    ·have:=(HNV1.o _ e).1;omega
   have hSxs:∀i (h:i<Sx.length),∃cs,css[i]?=some cs/\RefStk V G Sx[i] cs:=fun i hi=>by
    by_cases hil:i<S.length
    ·obtain⟨cs,k1,k2⟩:=HQ5.o.2 i hil;refine⟨cs,by rw [<-hcssE,sL (by rw [HQ5.o.1];exact hil)];exact k1,?_⟩;have e:Sx[i]=S[i]:=by simp only [<-hSxE];rw [sM hil]
     rw [e];exact k2.turn hT6 hGq
    ·have hie:ln0=i:=by rw [hSxl,<-hln] at hi;have:=HSL.o.2;omega
     subst hie;refine⟨([.int .i64 (kd:Int),.int .i64 (m:Int),.int .i64 (k:Int),.int .i64 (n:Int),.slice none 0 0,.int .i64 0,.int .i64 0]:List Value),by rw [<-hcssE,sH (by rw [HQ5.o.1,HSL.o.1];exact lO _),HQ5.o.1,HSL.o.1,Nat.sub_self];rfl,?_⟩;rw [hSxi];exact⟨.slice none 0 0,[],rfl,.inl ⟨rfl,rfl⟩,rfl,fun a ha=>absurd ha (sG _)⟩
   have hcss:css.length=Sx.length:=by rw [<-hcssE,lW,HQ5.o.1,hSxl,HSL.o.2,<-hln];rfl
   obtain⟨tv,htvE⟩:∃tv:Value,tv=.slice none 0 0:=⟨_,rfl⟩
   obtain⟨vs,hvsE⟩:∃vs:List Value,vs=[]:=⟨_,rfl⟩
   obtain⟨tn,htnE⟩:∃tn:Nat,tn=0:=⟨_,rfl⟩
   obtain⟨cs,hcsE⟩:∃cs:List Value,cs=([.int .i64 (kd:Int),.int .i64 (m:Int),.int .i64 (k:Int),.int .i64 (n:Int),.slice none 0 0,.int .i64 0,.int .i64 0]:List Value):=⟨_,rfl⟩
   have hcsi:css[ln0]?=some cs:=by rw [hcsE,<-hcssE,sH (by rw [HQ5.o.1,HSL.o.1];exact lO _),HQ5.o.1,HSL.o.1,Nat.sub_self];rfl
   have hb4:V.cell? ⟨gx,ln0*7+4,none⟩=some (.slice none 0 0):=zk hO2 ((y9 hcss hSxs ln0 hixx 4 (by omega) hcsi).trans (by rw [hcsE];rfl));have HMk:Hd (Ye S kd m k n (Zc (zM D E cnt))=Sx.modify ln0 (fun x=>x.more (Zc (zM D E cnt)))):=by
    show Ye S kd m k n (Zc (zM D E cnt))=_
    unfold Ye;rw [HFx.o,<-hSxE,HSL.o.1];simp [List.modify_eq_take_drop,Stk.more]
   have HEach:Hd (Sx[ln0].each=E):=by
    show Sx[ln0].each=E
    rw [hSxi,HE.o];rfl
   have HTN:Hd (Sx[ln0].ts.length=tn):=by
    show Sx[ln0].ts.length=tn
    rw [hSxi,htnE];rfl
   have HVQ:Hd _:=And.intro hB6 (And.intro hO2 hL6);have HSx:Hd (css.length=Sx.length/\Sx.length=ln/\∀i (h:i<Sx.length),∃cs,css[i]?=some cs/\RefStk V G Sx[i] cs):=⟨hcss,hSxl,hSxs⟩
   have HCS:Hd (css[ln0]?=some cs/\∀av,cs.set 4 av=[.int .i64 Sx[ln0].kd,.int .i64 Sx[ln0].m,.int .i64 Sx[ln0].k,.int .i64 Sx[ln0].n,av,.int .i64 Sx[ln0].leased,.int .i64 Sx[ln0].gone]):=⟨hcsi,fun av=>by rw [hcsE,hSxi];rfl⟩
   have HOld:Hd (vs.length=Sx[ln0].ts.length/\∀i (h:i<Sx[ln0].ts.length),∃v,vs[i]?=some v/\DrawsIs V G E v Sx[ln0].ts[i].1):=⟨by rw [hSxi,hvsE];rfl,fun i hi=>by rw [HTN.o,htnE] at hi;omega⟩
   have HTV:Hd (V.cell? ⟨gx,ln0*7+4,none⟩=some tv):=by
    show _=_
    rw [htvE];exact hb4
   have HG1:Hd (w.heap.size<=gx):=HG5.o.2;have HQW:=hid hwq;have HAV:Hd (V.ownsRow V.heap.size 31 1 (.slice none 0 0) tn vs/\Ext V V):=⟨by rw [htnE,hvsE];exact rB _ _ _ _,lI V⟩
   have y0:V.cell? ⟨q,0,none⟩=some (.slice (some ⟨gx,0,none⟩) ln capx):=zc hB6 rfl;have hql:=lG V _ y0;have hgl1:=lG V _ hb4;have b4:=hb4;have hix:ln0<ln:=by omega
   have hk0:(0:Int)<=(ln0:Int):=by omega
   have hk1:(ln0:Int)<ln:=by omega
   have htm:tn<=1000:=by omega
   clear hO2 hB6 hT6 hL6 hHeld hcss hSxs hSxi hGq hb4 y1b f1b hcsi HOWx HB5 HT5x HATx;clear hSxE hcssE htvE hvsE htnE hcsE hln hSxl;go_wp2;have HEX:=hid hVX
   go_loopw [13,14,15] (fun av at_ _ wr=>∃(j:Nat) (vsj:List Value),j<=cnt/\at_=.int .i64 (j:Int)/\vsj.length=j/\wr.ownsRow V.heap.size 31 1 av (tn+j) (vs++vsj)/\(∀a:Nat,a<j->∃v,vsj[a]?=some v/\NewDraws wr V.heap.size E v (ZL D E a))/\Ext V wr) (fun _ at_ _ _=>cnt - (intOf at_).toNat)
   case atStart=>exact⟨0,[],lT _,rfl,rfl,by simpa using HAV.o.1,fun a ha=>absurd ha (sG _),HAV.o.2⟩
   case round=>
    obtain⟨j,vsj,hj,rfl,hvl,ho,hnw,hx⟩:=hrel;have HO:=hid ho;have HN:=hid hnw;have HX:=hid hx;have HVL:=hid hvl;have hVle:=hx.le;clear ho hnw hx hvl;by_cases hlt:j<cnt
    ·obtain⟨lo,hlo⟩:∃lo,j*E=lo:=⟨_,rfl⟩
     obtain⟨hi',hhi⟩:∃hi',(j+1)*E=hi':=⟨_,rfl⟩
     have hlh:lo+E=hi':=by rw [<-hlo,<-hhi,rO,Nat.one_mul]
     have hhl:hi'<=len:=by rw [<-hhi,HLen.o.1];exact Nat.mul_le_mul_right E hlt
     have v1:IntKind.i64.wrap ((j:Int)*(E:Int))=(lo:Int):=by rw [<-rQ,hlo];exact zt (by omega)
     have v3:IntKind.i64.wrap (((j:Int)+1)*(E:Int))=(hi':Int):=by rw [show ((j:Int)+1)*(E:Int)=(((j+1)*E:Nat):Int) by simp,hhi];exact zt (by omega)
     have tS:∀W,(Instr.slice 31 (.slice (some ⟨b,off,none⟩) len cap) (some (.int .i64 (lo:Int))) (some (.int .i64 (hi':Int))) none).run Tryz.prog W=.ok (.slice (some ⟨b,off+lo,none⟩) E (cap - lo)) W:=fun W=>by rw [yI b off len cap lo hi' (by omega) (by have:=HLen.o.2;omega),show hi' - lo=E by omega]
     have HU:Hd ((ZL D E j).length=E/\(∀w',Ext V w'->WordsAt w' b (off+lo) (ZL D E j))/\E<=cap - lo):=by refine⟨Yx HL.o hlt,fun w' hx=>?_,by have:=HLen.o.2;omega⟩;have h1:=((HZ.o.ext (HEX.o.trans hx)).drop lo).take E;rw [<-hlo] at h1 ⊢;exact h1
     clear hlo hhi;have hEI:(0:Int)<=(E:Int):=by omega
     go_wp2_with (at_make;refine wpList_make_full _ rfl _ _ 31 rfl wr.heap.size 146 i0 (.int .u64 0) 1 underlying31 hi hz0 hz1 _ _ _ _ E rfl rfl (by omega) (by omega) (by rw [hz2];omega) (by unfold maxLen;omega) (lO _) ?_)
     intro w6 ho6 hg6;have hx6:Ext wr w6:=rG (lI wr) hg6 (by simp);have ho6':w6.ownsRow wr.heap.size 146 1 (.slice (some ⟨wr.heap.size,0,none⟩) E E) E ((List.replicate E (0:Int)).map (Value.int .u64)):=by rw [List.map_replicate,<-toList_madeCells_one];simpa [Value.cells] using ho6
     obtain⟨gm,hgm⟩:∃gm,wr.heap.size=gm:=⟨_,rfl⟩
     rw [hgm] at ho6' hVle ⊢;have HM6:=hid ho6';have HX6:=hid hx6;clear ho6 ho6' hg6 hx6;obtain⟨cs,hcs⟩:∃cs,cs=(ZL D E j).map (Value.int .u64):=⟨_,rfl⟩
     have hcsl:cs.length=E:=by rw [hcs,rU,HU.o.1]
     have HCs:=hid hcs;clear hcs;go_wp2_with (refine wpList_copy_splice rfl _ _ 31 31 rfl 146 underlying31 (by rw [hi];simp [hz1]) _ _ E E E (cap - lo) rfl rfl gm 0 ((List.replicate E (0:Int)).map (Value.int .u64)) 146 (yD HM6.o).1 cs (by rw [hcsl];simp) ?s1 (by simp [hcsl]) ?s2 gm wr (by rw [<-hgm];exact HX6.o) (lO _) ?_)
     case s1=>
      intro _ a v h;rw [HCs.o] at h;have e:=(HU.o.2.1 _ (HX.o.trans HX6.o)).cells a v h;rw [Z1] at e;exact e
     case s2=>rw [HCs.o];exact ZJ _
     intro w7 HG7 hb7;have hx7:Ext wr w7:=by rw [<-hgm] at hb7;exact hb7
     have HM7:Hd (w7.ownsRow gm 146 1 (.slice (some ⟨gm,0,none⟩) E E) E cs):=by have h:=HG7.out;rw [Qf (by simp [hcsl])] at h;exact xU h hcsl (lO _) (by unfold maxLen;omega)
     have HX7:=hid hx7;have hle7:=hx7.le;rw [hgm] at hle7;have HNB:Hd (∀q,u13.ownBlock=some q->V.heap.size<=q/\q<gm):=fun q hq=>by have:=lR.lt HO.o q hq;rw [hgm] at this;exact this
     clear HG7 hb7 hx7 HM6 HX6;go_wp2_with (at_builtin;refine wpList_append_lies _ rfl _ _ 87 rfl V.heap.size 31 j0 _ 1 24 underlying87 hj0 hy0 hy1 hy2 rfl (by decide) u13 (tn+j) (vs++vsj) rfl (rE (lK (lI _) _) (HX7.o.owns HO.o)) ⟨_,0,none⟩ 1 1 [.slice (some ⟨gm,0,none⟩) E E] rfl rfl (rI (zm (by simp))) (by simp [Value.oneCell']) (by decide) ?c4 ?c5 ?c6 _ rfl ?_)
     case c4=>unfold maxLen;omega
     case c5=>omega
     case c6=>simp;omega
     intro gv cv w8 hown8 hgrow8 hat8 hlt8;have HT8:Hd (Turn (fun q=>u13.ownBlock=some q) w7 w8):=rJ (Turn.alloc (rD _ _) _) hgrow8 (fun q hq _=>hq);have HO8:Hd (w8.ownsRow V.heap.size 31 1 (.slice (some ⟨gv,0,none⟩) (tn+j+1) cv) (tn+j+1) (vs++(vsj++[.slice (some ⟨gm,0,none⟩) E E]))):=by
      show lR _ _ _ _ _ _ _
      first|exact hown8|(rw [<-sI];exact hown8)
     clear hown8 hgrow8 hat8;go_wp2
     go_roundw
     case rel=>
      have hb13:∀b cur,w7.heap[b]?=some (.cells cur 146 (0,0))->¬u13.ownBlock=some b:=fun b cur hc e=>by obtain⟨cur',hc'⟩:=zf (HX7.o.owns HO.o) e;exact zh hc hc' (by decide) rfl
      refine⟨j+1,vsj++[.slice (some ⟨gm,0,none⟩) E E],by omega,by go_num,by rw [lW,HVL.o];rfl,?_,fun a ha=>?_,?_⟩
      ·exact HO8.o
      ·by_cases haj:a<j
       ·obtain⟨v,k1,k2⟩:=HN.o a haj;exact⟨v,by rw [sL (by rw [HVL.o];exact haj)];exact k1,(k2.turn (lM (S:=fun q=>u13.ownBlock=some q) HX7.o) (fun b cur hc e=>by obtain⟨cur',hc'⟩:=zf HO.o e;exact zh hc hc' (by decide) rfl)).turn HT8.o hb13⟩
       ·obtain rfl:a=j:=by omega
        refine⟨_,by rw [sH (by rw [HVL.o];exact lO _),HVL.o,Nat.sub_self];rfl,gm,rfl,?_,hVle,?_⟩
        ·have hwu:WordsU w7 gm (ZL D E a):=Yj (by rw [<-HCs.o];exact HM7.o);obtain⟨cur,hc⟩:=hwu.2;exact hwu.turn HT8.o (hb13 _ _ hc)
        ·have hg7:gm<w7.heap.size:=(Array.getElem?_eq_some_iff.1 (yD HM7.o).1).1;exact rA hg7 HT8.o.size
      ·exact Turn.ext ((lM (S:=fun _=>False) (HX.o.trans HX7.o)).trans' HT8.o (fun q hq e=>by have:=(HNB.o q e).1;omega))
     case measure=>simp [intOf];omega
    ·obtain rfl:j=cnt:=by omega
     have hncl:¬(j:Int)<(j:Int):=by omega
     have hVq:wr.heap[q]?=some (.cells #[.slice (some ⟨gx,0,none⟩) ln capx,v2] 98 (0,0)):=HX.o.block HVQ.o.1;have y0:wr.cell? ⟨q,0,none⟩=some (.slice (some ⟨gx,0,none⟩) ln capx):=zc hVq rfl;have hr1:=HX.o.owns HVQ.o.2.1;have f4:wr.frozen? ⟨gx,ln0*7+4,none⟩=false:=by obtain⟨cur,hc⟩:=zf hr1 (g:=gx) rfl;exact ze hc _
     have b4:=HX.o.cell HTV.o;have hql:=lG wr _ y0;have hgl1:=lG wr _ b4;obtain⟨av,acp,hav⟩:=zo HO.o;subst hav;have HVQ2:Hd _:=And.intro hVq hr1;have hk0:(0:Int)<=(ln0:Int):=by omega
     have hk1:(ln0:Int)<(ln:Int):=by omega
     clear hVq hr1;go_wp2;go_ret2;refine⟨q,by simp,?_,?_⟩
     ·skip
      have hTn:Turn (fun b=>b=gx) wr (wr.setCell ⟨gx,ln0*7+4,none⟩ (.slice av (tn+j) acp)):=lQ (S:=fun b=>b=gx) (p:=⟨gx,ln0*7+4,none⟩) (rD _ wr) (fun _=>rfl) _;obtain⟨cur1,hcur1⟩:=zf HVQ2.o.2 (g:=gx) rfl;have hG1:=HG1.o;have hlnx:=HSx.o.2.1;have hixx:ln0<Sx.length:=by omega
      have hGt:∀b,G b->¬b=gx:=fun b hb e=>by have:=HGl.o b hb;omega
      have hV0:w.heap.size<=V.heap.size:=HEX.o.le;have hO2:=hTn.owns HO.o (fun b hb e=>by obtain⟨cur',hc'⟩:=zf HO.o hb;exact zh hc' hcur1 (by decide) e)
      have hO2':(wr.setCell ⟨gx,ln0*7+4,none⟩ (.slice av (tn+j) acp)).ownsRow w.heap.size 198 7 (.slice (some ⟨gx,0,none⟩) ln capx) ln (css.set ln0 (cs.set 4 (.slice av (tn+j) acp))).flatten:=by rw [QI (qR HSx.o.1 HSx.o.2.2) ln0 4 (by omega) HCS.o.1];exact zI HVQ2.o.2 _ _
      have hTQ:=hTn.ref HVQ2.o.1 (fun e=>zh HVQ2.o.1 hcur1 (by decide) e);have hTL:=hTn.owns (HX.o.owns HVQ.o.2.2) (fun b hb e=>by obtain⟨cur',hc'⟩:=zf (HX.o.owns HVQ.o.2.2) hb;exact zh hc' hcur1 (by decide) e)
      have hsize:=hTn.size;have hnewT:∀a:Nat,a<j->∃v,vsj[a]?=some v/\NewDraws (wr.setCell ⟨gx,ln0*7+4,none⟩ (.slice av (tn+j) acp)) V.heap.size E v (ZL D E a):=fun a ha=>by obtain⟨v,k1,k2⟩:=HN.o a ha;exact⟨v,k1,k2.turn hTn (fun b cur hc e=>zh hc hcur1 (by decide) e)⟩
      have hTV:=(lM (S:=fun b=>b=gx) HX.o).trans hTn;generalize rC wr _ _=wF at hTn hO2 hO2' hTQ hTL hsize hnewT hTV ⊢;rw [HMk.o];refine YC (css:=css.set ln0 (cs.set 4 (.slice av (tn+j) acp))) hTQ (by rw [sR,hlnx];exact hO2') hTL (.inr (by rw [sR];omega)) HN2.o (by rw [rK,sR];exact HSx.o.1) (fun i' hi'=>?_) HQW.o;have hi2:i'<Sx.length:=by simpa using hi'
      by_cases hii:i'=ln0
      ·subst hii;refine⟨cs.set 4 (.slice av (tn+j) acp),by rw [sA (by rw [HSx.o.1];exact hi2)],?_⟩;rw [List.getElem_modify,if_pos rfl,HCS.o.2];obtain⟨k2,k3⟩:=HOld.o;exact qD (base:=V.heap.size) (E:=E) (cnt:=j) (vs:=vs) (vsj:=vsj) HEach.o k2 (fun i3 hi3=>by
        obtain⟨v,n1,n2⟩:=k3 i3 hi3;exact⟨v,n1,(n2.turn hTV hGt).mono (fun b hb=>.inl hb)⟩) HVL.o (Zm _ _ _) (fun a ha=>by
        have ha2:a<j:=by rw [Zm] at ha;exact ha
        obtain⟨v,n1,n2⟩:=hnewT a ha2;refine⟨v,n1,?_⟩;have e:(zM D E j)[a]=ZL D E a:=by simp [zM]
        rw [e];exact n2) (by rw [HTN.o];exact hO2) (by omega) (fun b h1 h2=>.inr ⟨rH hV0 h1,h2⟩)
      ·obtain⟨cs2,m1,m2⟩:=HSx.o.2.2 i' hi2;refine⟨cs2,by rw [lU (fun e=>hii e.symm)];exact m1,?_⟩;rw [List.getElem_modify,if_neg (fun e=>hii e.symm)];exact(m2.turn hTV hGt).mono (fun b hb=>.inl hb)
     ·exact rF (HEX.o.trans HX.o) (by show w.heap.size<=gx;exact HG1.o) _
  ·skip
   (try simp only [lA,lB,lC])
   go_simp;refine hK.out _ _ ?hs1 (fun hHeld=>?_)
   case hs1=>exact SDx.o _ (lM (lJ (lK (lI _) _)))
   clear hK K
   try simp only [Act.put,lA,lB,lC,lD,lE,lF]
   refine zR 4 fun K hK=>?_
   (try simp only [lA,lB,lC])
   go_simp;refine hK.out _ _ ?hs2 (fun hHeld=>?_)
   case hs2=>exact SDx.o _ (lM (lJ (lK (lI _) _)))
   clear hK K
   try simp only [Act.put,lA,lB,lC,lD,lE,lF]
   refine zR 8 fun K hK=>?_
   refine step_append_lies _ (by rfl) _ _ 96 (by rfl) w.heap.size 198 k0 _ 7 72 underlying96 hk0i hw0 hw1 hw2 (by rfl) (by decide) (.slice v1a ln0 v1c) ln0 css0.flatten (by rfl) (rE (lJ (lK (lI _) _)) HV1.o) ⟨_,0,none⟩ 1 1 [.int .i64 (kd:Int),.int .i64 (m:Int),.int .i64 (k:Int),.int .i64 (n:Int),.slice none 0 0,.int .i64 0,.int .i64 0] (by rfl) (by rfl) (rI (zy (heap_alloc_new _ _))) (by simp [Value.oneCell']) (by decide) (by unfold maxLen;omega) (by omega) (rH hW4 (Ext.le (lJ (lK (lI _) _)))) _ rfl ?_;intro gx capx w5x hown5 hgrow5 hat5 hlt5;have HT5x:Hd (Turn (fun b=>lH (.slice v1a ln0 v1c)=some b) W4 w5x):=rJ (lM (lJ (lK (lI _) _))) hgrow5 (fun q hq _=>hq);have HOWx:=hid hown5;have HATx:Hd (lH (.slice v1a ln0 v1c)=some gx\/W4.heap.size<=gx):=by
    rcases hat5 with h|h
    ·exact .inl h
    ·exact .inr (by rw [h];exact(lM (lJ (lK (lI _) _)):Turn (fun _=>False) W4 _).size)
   have HB5:Hd (w5x.heap[q]?=some (.cells #[.slice v1a ln0 v1c,v2] 98 (0,0))):=HT5x.o.ref HB4.o (fun e=>(HNV1.o _ e).2.2 rfl);have y1b:w5x.cell? ⟨q,0,none⟩=some (.slice v1a ln0 v1c):=zc HB5.o rfl;have f1b:=ze HB5.o 0;refine hK.out _ _ ?hs3 (fun hHeld=>?_)
   case hs3=>exact SDx.o _ HT5x.o
   clear hK K hown5 hgrow5 hat5
   try simp only [Act.put,lA,lB,lC,lD,lE,lF]
   refine zT 9 hHeld ?_;refine zT 10 hHeld ?_;refine zR 11 fun K hK=>?_
   (try simp only [lA,lB,lC])
   go_simp;refine hK.out _ _ ?hs4 (fun hHeld=>?_)
   case hs4=>
    have hnw:q≠w.heap.size:=by omega
    obtain⟨s0,s1,s2,s3⟩:=SDx.o _ HT5x.o;exact⟨(lX _ _ _ _ hnw).trans s0,(lX _ _ _ _ hnw).trans s1,(lX _ _ _ _ hnw).trans s2,(lX _ _ _ _ hnw).trans s3⟩
   clear hK K
   try simp only [Act.put,lA,lB,lC,lD,lE,lF]
   refine wpAnyH_done (by kernel_rfl) ?_ _;have HG5:Hd (gx≠q/\w.heap.size<=gx):=by
    rcases HATx.o with h|h
    ·exact⟨(HNV1.o _ h).2.2,(HNV1.o _ h).1⟩
    ·exact⟨by omega,by omega⟩
   have hO2:(w5x.setCell ⟨q,0,none⟩ (.slice (some ⟨gx,0,none⟩) (ln0+1) capx)).ownsRow w.heap.size 198 7 (.slice (some ⟨gx,0,none⟩) (ln0+1) capx) (ln0+1) (css0++[(([.int .i64 (kd:Int),.int .i64 (m:Int),.int .i64 (k:Int),.int .i64 (n:Int),.slice none 0 0,.int .i64 0,.int .i64 0]:List Value))]).flatten:=by rw [List.flatten_append,sP,List.flatten_nil,rL];exact zi HOWx.o (by simpa [lH] using HG5.o.1) _
   have hB6:(w5x.setCell ⟨q,0,none⟩ (.slice (some ⟨gx,0,none⟩) (ln0+1) capx)).heap[q]?=some (.cells #[.slice (some ⟨gx,0,none⟩) (ln0+1) capx,v2] 98 (0,0)):=zg HB5.o _;have hT6:Turn (fun b=>b=q\/lH (.slice v1a ln0 v1c)=some b) W4 (w5x.setCell ⟨q,0,none⟩ (.slice (some ⟨gx,0,none⟩) (ln0+1) capx)):=lQ (S:=fun b=>b=q\/lH (.slice v1a ln0 v1c)=some b) (p:=⟨q,0,none⟩) (HT5x.o.mono (fun _ _ e=>.inr e)) (fun _=>.inl rfl) _;generalize rC w5x _ _=V at hO2 hB6 hT6 hHeld ⊢;have hVX:Ext w V:=Turn.ext ((lM (S:=fun _=>False) HX4.o).trans' hT6 (fun b hb hor=>by
    rcases hor with e|e
    ·omega
    ·have:=(HNV1.o _ e).1;omega))
   have hL6:V.ownsRow w.heap.size 56 9 v2 ls.length (zu ls):=hT6.owns HV2.o (fun b hb hor=>by
    obtain⟨cur',hc'⟩:=zf HV2.o hb;rcases hor with e|e
    ·exact zh hc' HB4.o (by decide) e
    ·obtain⟨cur2,hc2⟩:=zf HV1.o e;exact zh hc' hc2 (by decide) rfl)
   obtain⟨ln,hln⟩:∃ln,ln0+1=ln:=⟨_,rfl⟩
   rw [hln] at hO2 hB6 ⊢;obtain⟨css,hcssE⟩:∃css,css0++[(([.int .i64 (kd:Int),.int .i64 (m:Int),.int .i64 (k:Int),.int .i64 (n:Int),.slice none 0 0,.int .i64 0,.int .i64 0]:List Value))]=css:=⟨_,rfl⟩
   rw [hcssE] at hO2;obtain⟨Sx,hSxE⟩:∃Sx,S++[⟨kd,m,k,n,[],0⟩]=Sx:=⟨_,rfl⟩
   have HSL:Hd (ln0=S.length/\S.length=ln0):=HSL0.o;have hSxl:Sx.length=ln:=by rw [<-hSxE,lW,HSL.o.2,<-hln];rfl
   have hixx:ln0<Sx.length:=by rw [hSxl,<-hln,HSL.o.1,HSL.o.2];omega
   have hSxi:Sx[ln0]=⟨kd,m,k,n,[],0⟩:=by simp only [<-hSxE,HSL.o.1];simp
   have hGq:∀b,G b->¬(b=q\/lH (.slice v1a ln0 v1c)=some b):=fun b hb hor=>by
    have hbw:=HGl.o b hb;rcases hor with e|e
    ·omega
    ·have:=(HNV1.o _ e).1;omega
   have hSxs:∀i (h:i<Sx.length),∃cs,css[i]?=some cs/\RefStk V G Sx[i] cs:=fun i hi=>by
    by_cases hil:i<S.length
    ·obtain⟨cs,k1,k2⟩:=HQ5.o.2 i hil;refine⟨cs,by rw [<-hcssE,sL (by rw [HQ5.o.1];exact hil)];exact k1,?_⟩;have e:Sx[i]=S[i]:=by simp only [<-hSxE];rw [sM hil]
     rw [e];exact k2.turn hT6 hGq
    ·have hie:ln0=i:=by rw [hSxl,<-hln] at hi;have:=HSL.o.2;omega
     subst hie;refine⟨([.int .i64 (kd:Int),.int .i64 (m:Int),.int .i64 (k:Int),.int .i64 (n:Int),.slice none 0 0,.int .i64 0,.int .i64 0]:List Value),by rw [<-hcssE,sH (by rw [HQ5.o.1,HSL.o.1];exact lO _),HQ5.o.1,HSL.o.1,Nat.sub_self];rfl,?_⟩;rw [hSxi];exact⟨.slice none 0 0,[],rfl,.inl ⟨rfl,rfl⟩,rfl,fun a ha=>absurd ha (sG _)⟩
   have hcss:css.length=Sx.length:=by rw [<-hcssE,lW,HQ5.o.1,hSxl,HSL.o.2,<-hln];rfl
   obtain⟨tv,htvE⟩:∃tv:Value,tv=.slice none 0 0:=⟨_,rfl⟩
   obtain⟨vs,hvsE⟩:∃vs:List Value,vs=[]:=⟨_,rfl⟩
   obtain⟨tn,htnE⟩:∃tn:Nat,tn=0:=⟨_,rfl⟩
   obtain⟨cs,hcsE⟩:∃cs:List Value,cs=([.int .i64 (kd:Int),.int .i64 (m:Int),.int .i64 (k:Int),.int .i64 (n:Int),.slice none 0 0,.int .i64 0,.int .i64 0]:List Value):=⟨_,rfl⟩
   have hcsi:css[ln0]?=some cs:=by rw [hcsE,<-hcssE,sH (by rw [HQ5.o.1,HSL.o.1];exact lO _),HQ5.o.1,HSL.o.1,Nat.sub_self];rfl
   have hb4:V.cell? ⟨gx,ln0*7+4,none⟩=some (.slice none 0 0):=zk hO2 ((y9 hcss hSxs ln0 hixx 4 (by omega) hcsi).trans (by rw [hcsE];rfl));have HMk:Hd (Ye S kd m k n (Zc (zM D E cnt))=Sx.modify ln0 (fun x=>x.more (Zc (zM D E cnt)))):=by
    show Ye S kd m k n (Zc (zM D E cnt))=_
    unfold Ye;rw [HFx.o,<-hSxE,HSL.o.1];simp [List.modify_eq_take_drop,Stk.more]
   have HEach:Hd (Sx[ln0].each=E):=by
    show Sx[ln0].each=E
    rw [hSxi,HE.o];rfl
   have HTN:Hd (Sx[ln0].ts.length=tn):=by
    show Sx[ln0].ts.length=tn
    rw [hSxi,htnE];rfl
   have HVQ:Hd _:=And.intro hB6 (And.intro hO2 hL6);have HSx:Hd (css.length=Sx.length/\Sx.length=ln/\∀i (h:i<Sx.length),∃cs,css[i]?=some cs/\RefStk V G Sx[i] cs):=⟨hcss,hSxl,hSxs⟩
   have HCS:Hd (css[ln0]?=some cs/\∀av,cs.set 4 av=[.int .i64 Sx[ln0].kd,.int .i64 Sx[ln0].m,.int .i64 Sx[ln0].k,.int .i64 Sx[ln0].n,av,.int .i64 Sx[ln0].leased,.int .i64 Sx[ln0].gone]):=⟨hcsi,fun av=>by rw [hcsE,hSxi];rfl⟩
   have HOld:Hd (vs.length=Sx[ln0].ts.length/\∀i (h:i<Sx[ln0].ts.length),∃v,vs[i]?=some v/\DrawsIs V G E v Sx[ln0].ts[i].1):=⟨by rw [hSxi,hvsE];rfl,fun i hi=>by rw [HTN.o,htnE] at hi;omega⟩
   have HTV:Hd (V.cell? ⟨gx,ln0*7+4,none⟩=some tv):=by
    show _=_
    rw [htvE];exact hb4
   have HG1:Hd (w.heap.size<=gx):=HG5.o.2;have HQW:=hid hwq;have HAV:Hd (V.ownsRow V.heap.size 31 1 (.slice none 0 0) tn vs/\Ext V V):=⟨by rw [htnE,hvsE];exact rB _ _ _ _,lI V⟩
   have y0:V.cell? ⟨q,0,none⟩=some (.slice (some ⟨gx,0,none⟩) ln capx):=zc hB6 rfl;have hql:=lG V _ y0;have hgl1:=lG V _ hb4;have b4:=hb4;have hix:ln0<ln:=by omega
   have hk0:(0:Int)<=(ln0:Int):=by omega
   have hk1:(ln0:Int)<ln:=by omega
   have htm:tn<=1000:=by omega
   clear hO2 hB6 hT6 hL6 hHeld hcss hSxs hSxi hGq hb4 y1b f1b hcsi HOWx HB5 HT5x HATx;clear hSxE hcssE htvE hvsE htnE hcsE hln hSxl;go_wp2;have HEX:=hid hVX
   go_loopw [13,14,15] (fun av at_ _ wr=>∃(j:Nat) (vsj:List Value),j<=cnt/\at_=.int .i64 (j:Int)/\vsj.length=j/\wr.ownsRow V.heap.size 31 1 av (tn+j) (vs++vsj)/\(∀a:Nat,a<j->∃v,vsj[a]?=some v/\NewDraws wr V.heap.size E v (ZL D E a))/\Ext V wr) (fun _ at_ _ _=>cnt - (intOf at_).toNat)
   case atStart=>exact⟨0,[],lT _,rfl,rfl,by simpa using HAV.o.1,fun a ha=>absurd ha (sG _),HAV.o.2⟩
   case round=>
    obtain⟨j,vsj,hj,rfl,hvl,ho,hnw,hx⟩:=hrel;have HO:=hid ho;have HN:=hid hnw;have HX:=hid hx;have HVL:=hid hvl;have hVle:=hx.le;clear ho hnw hx hvl;by_cases hlt:j<cnt
    ·obtain⟨lo,hlo⟩:∃lo,j*E=lo:=⟨_,rfl⟩
     obtain⟨hi',hhi⟩:∃hi',(j+1)*E=hi':=⟨_,rfl⟩
     have hlh:lo+E=hi':=by rw [<-hlo,<-hhi,rO,Nat.one_mul]
     have hhl:hi'<=len:=by rw [<-hhi,HLen.o.1];exact Nat.mul_le_mul_right E hlt
     have v1:IntKind.i64.wrap ((j:Int)*(E:Int))=(lo:Int):=by rw [<-rQ,hlo];exact zt (by omega)
     have v3:IntKind.i64.wrap (((j:Int)+1)*(E:Int))=(hi':Int):=by rw [show ((j:Int)+1)*(E:Int)=(((j+1)*E:Nat):Int) by simp,hhi];exact zt (by omega)
     have tS:∀W,(Instr.slice 31 (.slice (some ⟨b,off,none⟩) len cap) (some (.int .i64 (lo:Int))) (some (.int .i64 (hi':Int))) none).run Tryz.prog W=.ok (.slice (some ⟨b,off+lo,none⟩) E (cap - lo)) W:=fun W=>by rw [yI b off len cap lo hi' (by omega) (by have:=HLen.o.2;omega),show hi' - lo=E by omega]
     have HU:Hd ((ZL D E j).length=E/\(∀w',Ext V w'->WordsAt w' b (off+lo) (ZL D E j))/\E<=cap - lo):=by refine⟨Yx HL.o hlt,fun w' hx=>?_,by have:=HLen.o.2;omega⟩;have h1:=((HZ.o.ext (HEX.o.trans hx)).drop lo).take E;rw [<-hlo] at h1 ⊢;exact h1
     clear hlo hhi;have hEI:(0:Int)<=(E:Int):=by omega
     go_wp2_with (at_make;refine wpList_make_full _ rfl _ _ 31 rfl wr.heap.size 146 i0 (.int .u64 0) 1 underlying31 hi hz0 hz1 _ _ _ _ E rfl rfl (by omega) (by omega) (by rw [hz2];omega) (by unfold maxLen;omega) (lO _) ?_)
     intro w6 ho6 hg6;have hx6:Ext wr w6:=rG (lI wr) hg6 (by simp);have ho6':w6.ownsRow wr.heap.size 146 1 (.slice (some ⟨wr.heap.size,0,none⟩) E E) E ((List.replicate E (0:Int)).map (Value.int .u64)):=by rw [List.map_replicate,<-toList_madeCells_one];simpa [Value.cells] using ho6
     obtain⟨gm,hgm⟩:∃gm,wr.heap.size=gm:=⟨_,rfl⟩
     rw [hgm] at ho6' hVle ⊢;have HM6:=hid ho6';have HX6:=hid hx6;clear ho6 ho6' hg6 hx6;obtain⟨cs,hcs⟩:∃cs,cs=(ZL D E j).map (Value.int .u64):=⟨_,rfl⟩
     have hcsl:cs.length=E:=by rw [hcs,rU,HU.o.1]
     have HCs:=hid hcs;clear hcs;go_wp2_with (refine wpList_copy_splice rfl _ _ 31 31 rfl 146 underlying31 (by rw [hi];simp [hz1]) _ _ E E E (cap - lo) rfl rfl gm 0 ((List.replicate E (0:Int)).map (Value.int .u64)) 146 (yD HM6.o).1 cs (by rw [hcsl];simp) ?s1 (by simp [hcsl]) ?s2 gm wr (by rw [<-hgm];exact HX6.o) (lO _) ?_)
     case s1=>
      intro _ a v h;rw [HCs.o] at h;have e:=(HU.o.2.1 _ (HX.o.trans HX6.o)).cells a v h;rw [Z1] at e;exact e
     case s2=>rw [HCs.o];exact ZJ _
     intro w7 HG7 hb7;have hx7:Ext wr w7:=by rw [<-hgm] at hb7;exact hb7
     have HM7:Hd (w7.ownsRow gm 146 1 (.slice (some ⟨gm,0,none⟩) E E) E cs):=by have h:=HG7.out;rw [Qf (by simp [hcsl])] at h;exact xU h hcsl (lO _) (by unfold maxLen;omega)
     have HX7:=hid hx7;have hle7:=hx7.le;rw [hgm] at hle7;have HNB:Hd (∀q,u13.ownBlock=some q->V.heap.size<=q/\q<gm):=fun q hq=>by have:=lR.lt HO.o q hq;rw [hgm] at this;exact this
     clear HG7 hb7 hx7 HM6 HX6;go_wp2_with (at_builtin;refine wpList_append_lies _ rfl _ _ 87 rfl V.heap.size 31 j0 _ 1 24 underlying87 hj0 hy0 hy1 hy2 rfl (by decide) u13 (tn+j) (vs++vsj) rfl (rE (lK (lI _) _) (HX7.o.owns HO.o)) ⟨_,0,none⟩ 1 1 [.slice (some ⟨gm,0,none⟩) E E] rfl rfl (rI (zm (by simp))) (by simp [Value.oneCell']) (by decide) ?c4 ?c5 ?c6 _ rfl ?_)
     case c4=>unfold maxLen;omega
     case c5=>omega
     case c6=>simp;omega
     intro gv cv w8 hown8 hgrow8 hat8 hlt8;have HT8:Hd (Turn (fun q=>u13.ownBlock=some q) w7 w8):=rJ (Turn.alloc (rD _ _) _) hgrow8 (fun q hq _=>hq);have HO8:Hd (w8.ownsRow V.heap.size 31 1 (.slice (some ⟨gv,0,none⟩) (tn+j+1) cv) (tn+j+1) (vs++(vsj++[.slice (some ⟨gm,0,none⟩) E E]))):=by
      show lR _ _ _ _ _ _ _
      first|exact hown8|(rw [<-sI];exact hown8)
     clear hown8 hgrow8 hat8;go_wp2
     go_roundw
     case rel=>
      have hb13:∀b cur,w7.heap[b]?=some (.cells cur 146 (0,0))->¬u13.ownBlock=some b:=fun b cur hc e=>by obtain⟨cur',hc'⟩:=zf (HX7.o.owns HO.o) e;exact zh hc hc' (by decide) rfl
      refine⟨j+1,vsj++[.slice (some ⟨gm,0,none⟩) E E],by omega,by go_num,by rw [lW,HVL.o];rfl,?_,fun a ha=>?_,?_⟩
      ·exact HO8.o
      ·by_cases haj:a<j
       ·obtain⟨v,k1,k2⟩:=HN.o a haj;exact⟨v,by rw [sL (by rw [HVL.o];exact haj)];exact k1,(k2.turn (lM (S:=fun q=>u13.ownBlock=some q) HX7.o) (fun b cur hc e=>by obtain⟨cur',hc'⟩:=zf HO.o e;exact zh hc hc' (by decide) rfl)).turn HT8.o hb13⟩
       ·obtain rfl:a=j:=by omega
        refine⟨_,by rw [sH (by rw [HVL.o];exact lO _),HVL.o,Nat.sub_self];rfl,gm,rfl,?_,hVle,?_⟩
        ·have hwu:WordsU w7 gm (ZL D E a):=Yj (by rw [<-HCs.o];exact HM7.o);obtain⟨cur,hc⟩:=hwu.2;exact hwu.turn HT8.o (hb13 _ _ hc)
        ·have hg7:gm<w7.heap.size:=(Array.getElem?_eq_some_iff.1 (yD HM7.o).1).1;exact rA hg7 HT8.o.size
      ·exact Turn.ext ((lM (S:=fun _=>False) (HX.o.trans HX7.o)).trans' HT8.o (fun q hq e=>by have:=(HNB.o q e).1;omega))
     case measure=>simp [intOf];omega
    ·obtain rfl:j=cnt:=by omega
     have hncl:¬(j:Int)<(j:Int):=by omega
     have hVq:wr.heap[q]?=some (.cells #[.slice (some ⟨gx,0,none⟩) ln capx,v2] 98 (0,0)):=HX.o.block HVQ.o.1;have y0:wr.cell? ⟨q,0,none⟩=some (.slice (some ⟨gx,0,none⟩) ln capx):=zc hVq rfl;have hr1:=HX.o.owns HVQ.o.2.1;have f4:wr.frozen? ⟨gx,ln0*7+4,none⟩=false:=by obtain⟨cur,hc⟩:=zf hr1 (g:=gx) rfl;exact ze hc _
     have b4:=HX.o.cell HTV.o;have hql:=lG wr _ y0;have hgl1:=lG wr _ b4;obtain⟨av,acp,hav⟩:=zo HO.o;subst hav;have HVQ2:Hd _:=And.intro hVq hr1;have hk0:(0:Int)<=(ln0:Int):=by omega
     have hk1:(ln0:Int)<(ln:Int):=by omega
     clear hVq hr1;go_wp2;go_ret2;refine⟨q,by simp,?_,?_⟩
     ·skip
      have hTn:Turn (fun b=>b=gx) wr (wr.setCell ⟨gx,ln0*7+4,none⟩ (.slice av (tn+j) acp)):=lQ (S:=fun b=>b=gx) (p:=⟨gx,ln0*7+4,none⟩) (rD _ wr) (fun _=>rfl) _;obtain⟨cur1,hcur1⟩:=zf HVQ2.o.2 (g:=gx) rfl;have hG1:=HG1.o;have hlnx:=HSx.o.2.1;have hixx:ln0<Sx.length:=by omega
      have hGt:∀b,G b->¬b=gx:=fun b hb e=>by have:=HGl.o b hb;omega
      have hV0:w.heap.size<=V.heap.size:=HEX.o.le;have hO2:=hTn.owns HO.o (fun b hb e=>by obtain⟨cur',hc'⟩:=zf HO.o hb;exact zh hc' hcur1 (by decide) e)
      have hO2':(wr.setCell ⟨gx,ln0*7+4,none⟩ (.slice av (tn+j) acp)).ownsRow w.heap.size 198 7 (.slice (some ⟨gx,0,none⟩) ln capx) ln (css.set ln0 (cs.set 4 (.slice av (tn+j) acp))).flatten:=by rw [QI (qR HSx.o.1 HSx.o.2.2) ln0 4 (by omega) HCS.o.1];exact zI HVQ2.o.2 _ _
      have hTQ:=hTn.ref HVQ2.o.1 (fun e=>zh HVQ2.o.1 hcur1 (by decide) e);have hTL:=hTn.owns (HX.o.owns HVQ.o.2.2) (fun b hb e=>by obtain⟨cur',hc'⟩:=zf (HX.o.owns HVQ.o.2.2) hb;exact zh hc' hcur1 (by decide) e)
      have hsize:=hTn.size;have hnewT:∀a:Nat,a<j->∃v,vsj[a]?=some v/\NewDraws (wr.setCell ⟨gx,ln0*7+4,none⟩ (.slice av (tn+j) acp)) V.heap.size E v (ZL D E a):=fun a ha=>by obtain⟨v,k1,k2⟩:=HN.o a ha;exact⟨v,k1,k2.turn hTn (fun b cur hc e=>zh hc hcur1 (by decide) e)⟩
      have hTV:=(lM (S:=fun b=>b=gx) HX.o).trans hTn;generalize rC wr _ _=wF at hTn hO2 hO2' hTQ hTL hsize hnewT hTV ⊢;rw [HMk.o];refine YC (css:=css.set ln0 (cs.set 4 (.slice av (tn+j) acp))) hTQ (by rw [sR,hlnx];exact hO2') hTL (.inr (by rw [sR];omega)) HN2.o (by rw [rK,sR];exact HSx.o.1) (fun i' hi'=>?_) HQW.o;have hi2:i'<Sx.length:=by simpa using hi'
      by_cases hii:i'=ln0
      ·subst hii;refine⟨cs.set 4 (.slice av (tn+j) acp),by rw [sA (by rw [HSx.o.1];exact hi2)],?_⟩;rw [List.getElem_modify,if_pos rfl,HCS.o.2];obtain⟨k2,k3⟩:=HOld.o;exact qD (base:=V.heap.size) (E:=E) (cnt:=j) (vs:=vs) (vsj:=vsj) HEach.o k2 (fun i3 hi3=>by
        obtain⟨v,n1,n2⟩:=k3 i3 hi3;exact⟨v,n1,(n2.turn hTV hGt).mono (fun b hb=>.inl hb)⟩) HVL.o (Zm _ _ _) (fun a ha=>by
        have ha2:a<j:=by rw [Zm] at ha;exact ha
        obtain⟨v,n1,n2⟩:=hnewT a ha2;refine⟨v,n1,?_⟩;have e:(zM D E j)[a]=ZL D E a:=by simp [zM]
        rw [e];exact n2) (by rw [HTN.o];exact hO2) (by omega) (fun b h1 h2=>.inr ⟨rH hV0 h1,h2⟩)
      ·obtain⟨cs2,m1,m2⟩:=HSx.o.2.2 i' hi2;refine⟨cs2,by rw [lU (fun e=>hii e.symm)];exact m1,?_⟩;rw [List.getElem_modify,if_neg (fun e=>hii e.symm)];exact(m2.turn hTV hGt).mono (fun b hb=>.inl hb)
     ·exact rF (HEX.o.trans HX.o) (by show w.heap.size<=gx;exact HG1.o) _
end
section
open Go.RowKit
def inB (s i ck cm cl cn f c p:Int)(z:Bool):Bool:=Yr s && (Yr i && (Yr f && (Yr c && (Ym p && (Ym ck && (Ym cm && (Ym cl && (Ym cn && z))))))))
theorem kU (w:World):Calls Tryz.prog 151 #[.int .i64 1] w fun e w'=>e=.returned (.string ⟨#[83,73,75,67]⟩)/\w=w':=Q3 1 w
theorem QS (s i ck cm cl cn f c p:Int)(w:World) :
  Calls Tryz.prog 153 #[.agg #[.int .i64 1,.int .i64 s,.int .i64 i,.int .i64 ck,.int .i64 cm,.int .i64 cl,.int .i64 cn,.int .i64 f,.int .i64 c,.int .i64 p]] w fun e w'=>
   e=.returned (.bool (inB s i ck cm cl cn f c p (f == 0 && p == 0)))/\Ext w w':=by
 have heq:=qv;go_enter func153,ntmps153;go_wp2_with (go_at_call 151;refine(kU _).mono ?_;rintro e w1 ⟨rfl,rfl⟩)
 refine wp_loop_rounds 5 ?_;rw [rounds_succ];go_wp2;rw [rounds_succ];go_wp2;rw [rounds_succ];go_wp2;rw [rounds_succ];go_wp2;rw [rounds_succ];go_wp2_with (first
  | (go_at_call 181;refine(qs _ _).mono ?_;rintro e w1 ⟨rfl,rfl⟩)
  | (go_at_call 182;refine(QG _ _).mono ?_;rintro e w1 ⟨rfl,rfl⟩))
 all_goals go_ret
 all_goals refine⟨zH ?_,((lI _).alloc _).alloc _⟩
 all_goals simp [inB, *]
theorem Kh (w:World):Calls Tryz.prog 151 #[.int .i64 2] w fun e w'=>e=.returned (.string ⟨#[83,75,70,67,80]⟩)/\w=w':=Q3 2 w
theorem Qw (s i ck cm cl cn f c p:Int)(w:World) :
  Calls Tryz.prog 153 #[.agg #[.int .i64 2,.int .i64 s,.int .i64 i,.int .i64 ck,.int .i64 cm,.int .i64 cl,.int .i64 cn,.int .i64 f,.int .i64 c,.int .i64 p]] w fun e w'=>
   e=.returned (.bool (inB s i ck cm cl cn f c p (i == 0)))/\Ext w w':=by
 have heq:=qv;go_enter func153,ntmps153;go_wp2_with (go_at_call 151;refine(Kh _).mono ?_;rintro e w1 ⟨rfl,rfl⟩)
 refine wp_loop_rounds 6 ?_;rw [rounds_succ];go_wp2;rw [rounds_succ];go_wp2;rw [rounds_succ];go_wp2;rw [rounds_succ];go_wp2;rw [rounds_succ];go_wp2;rw [rounds_succ];go_wp2_with (first
  | (go_at_call 181;refine(qs _ _).mono ?_;rintro e w1 ⟨rfl,rfl⟩)
  | (go_at_call 182;refine(QG _ _).mono ?_;rintro e w1 ⟨rfl,rfl⟩))
 all_goals go_ret
 all_goals refine⟨zH ?_,((lI _).alloc _).alloc _⟩
 all_goals simp [inB, *]
theorem ke (w:World):Calls Tryz.prog 151 #[.int .i64 3] w fun e w'=>e=.returned (.string ⟨#[83,73]⟩)/\w=w':=Q3 3 w
theorem QQ (s i ck cm cl cn f c p:Int)(w:World) :
  Calls Tryz.prog 153 #[.agg #[.int .i64 3,.int .i64 s,.int .i64 i,.int .i64 ck,.int .i64 cm,.int .i64 cl,.int .i64 cn,.int .i64 f,.int .i64 c,.int .i64 p]] w fun e w'=>
   e=.returned (.bool (inB s i ck cm cl cn f c p ((ck == 0 && (cm == 0 && (cl == 0 && cn == 0))) && (f == 0 && (c == 0 && p == 0)))))/\Ext w w':=by
 have heq:=qv;go_enter func153,ntmps153;go_wp2_with (go_at_call 151;refine(ke _).mono ?_;rintro e w1 ⟨rfl,rfl⟩)
 refine wp_loop_rounds 3 ?_;rw [rounds_succ];go_wp2;rw [rounds_succ];go_wp2;rw [rounds_succ];go_wp2_with (first
  | (go_at_call 181;refine(qs _ _).mono ?_;rintro e w1 ⟨rfl,rfl⟩)
  | (go_at_call 182;refine(QG _ _).mono ?_;rintro e w1 ⟨rfl,rfl⟩))
 all_goals go_ret
 all_goals refine⟨zH ?_,((lI _).alloc _).alloc _⟩
 all_goals simp [inB, *]
theorem JT (w:World):Calls Tryz.prog 151 #[.int .i64 4] w fun e w'=>e=.returned (.string ⟨#[75]⟩)/\w=w':=Q3 4 w
theorem Qv (s i ck cm cl cn f c p:Int)(w:World) :
  Calls Tryz.prog 153 #[.agg #[.int .i64 4,.int .i64 s,.int .i64 i,.int .i64 ck,.int .i64 cm,.int .i64 cl,.int .i64 cn,.int .i64 f,.int .i64 c,.int .i64 p]] w fun e w'=>
   e=.returned (.bool (inB s i ck cm cl cn f c p (s == 0 && (i == 0 && (f == 0 && (c == 0 && p == 0))))))/\Ext w w':=by
 have heq:=qv;go_enter func153,ntmps153;go_wp2_with (go_at_call 151;refine(JT _).mono ?_;rintro e w1 ⟨rfl,rfl⟩)
 refine wp_loop_rounds 2 ?_;rw [rounds_succ];go_wp2;rw [rounds_succ];go_wp2_with (first
  | (go_at_call 181;refine(qs _ _).mono ?_;rintro e w1 ⟨rfl,rfl⟩)
  | (go_at_call 182;refine(QG _ _).mono ?_;rintro e w1 ⟨rfl,rfl⟩))
 all_goals go_ret
 all_goals refine⟨zH ?_,((lI _).alloc _).alloc _⟩
 all_goals simp [inB, *]
theorem Un (k s i ck cm cl cn f c p:Int)(h:Qm k=⟨#[]⟩)(w:World) :
  Calls Tryz.prog 153 #[.agg #[.int .i64 k,.int .i64 s,.int .i64 i,.int .i64 ck,.int .i64 cm,.int .i64 cl,.int .i64 cn,.int .i64 f,.int .i64 c,.int .i64 p]] w fun e w'=>
   e=.returned (.bool false)/\Ext w w':=by
 have HU:=hid h;clear h;go_enter func153,ntmps153;go_wp2_with (go_at_call 151;refine(Q3 k _).mono ?_;rw [HU.o];rintro e w1 ⟨rfl,rfl⟩)
 go_ret;exact⟨rfl,((lI _).alloc _).alloc _⟩
end
end Go.Proofs.YtmnjhhachdlmkaaGreat
