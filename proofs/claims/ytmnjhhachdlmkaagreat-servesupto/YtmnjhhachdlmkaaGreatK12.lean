import Derived.Test.YtmnjhhachdlmkaaGreatK11
namespace Go.Proofs.YtmnjhhachdlmkaaGreat
set_option linter.all false
set_option maxRecDepth 100000
set_option maxHeartbeats 1600000
open Tryz
open List renaming getD_eq_getElem?_getD -> rT, getElem?_eq_getElem -> lZ, length_map -> rU, length_drop -> sN, length_take -> sF, map_append -> rY, getElem_mem -> lV
open Nat renaming le_refl -> lO, zero_le -> lT, add_mul -> rO, le_trans -> rH, mul_le_mul -> rN
open Ext renaming refl -> lI, grown -> rG, drew -> lJ, setCell -> rF, alloc -> lK
open World renaming ownsRow_nil -> rB, ownsRow -> lR, cell?_setCell_far -> lX, alloc -> lP
open Turn renaming grown -> rJ, refl -> rD, of_ext -> lM
open IntKind renaming wrap_i64 -> rP
open Int renaming natCast_mul -> rQ
open Go.RowKit Go.Maps
open World renaming block_lt_of_cell? -> lG
open Value renaming ownBlock -> lH
section
def MinAt (bt:Bool)(W P:List Int)(L i:Nat)(D:List Int):Prop:=D.length=L/\(∀j,j<i->D.getD j 0=ZE bt (W.getD j 0) (P.getD j 0))/\∀j,i<=j->D.getD j 0=W.getD j 0
theorem MinAt.start {bt:Bool}{W P:List Int}{L:Nat}(h:W.length=L):MinAt bt W P L 0 W:=⟨h,fun _j hj=>absurd hj (Nat.not_lt_zero _),fun _ _=>rfl⟩
theorem MinAt.step {bt:Bool}{W P:List Int}{L i:Nat}{D:List Int}(h:MinAt bt W P L i D)(hi:i<L):MinAt bt W P L (i+1) (D.set i (ZE bt (D.getD i 0) (P.getD i 0))):=by
 obtain⟨h1,h2,h3⟩:=h;have hne:∀j v,j≠i->(D.set i v).getD j 0=D.getD j 0:=fun j v hj=>by simp [rT,Ne.symm hj]
 refine⟨by simp [h1],fun j hj=>?_,fun j hj=>?_⟩
 ·by_cases hji:j=i
  ·subst hji;rw [h3 j (lO _)];simp [rT,h1,hi]
  ·rw [hne _ _ hji,h2 j (by omega)]
 ·rw [hne _ _ (by omega),h3 j (by omega)]
theorem MinAt.done {bt:Bool}{W P:List Int}{L:Nat}{D:List Int}(hW:W.length=L)(hP:P.length=L)(h:MinAt bt W P L L D):D=List.zipWith (ZE bt) W P:=by obtain⟨h1,h2,_⟩:=h;apply List.ext_getElem (by simp [h1,hW,hP]);intro j hj1 hj2;have:=h2 j (by omega);rw [rT,lZ hj1,Option.getD_some] at this;rw [this];simp [rT,lZ (show j<W.length by omega),lZ (show j<P.length by omega)]
theorem VF {kd m k n:Nat}{s:Sh}(hc:ofCls kd m k n s)(hs:s.ok)(b off cap len:Nat)(D:List Int)(hl:D.length=len)(hlen:len=s.x+s.y+(s.x+s.y+s.z))(hcap:len<=cap)(w:World)(hz:WordsAt w b off D) :
  Calls Tryz.prog 189 #[zJ kd m k n,.slice (some ⟨b,off,none⟩) len cap,.int .i64 0] w fun e w'=>∃g cp,e=.returned (.slice (some ⟨g,0,none⟩) (s.x+s.y+s.z) cp)/\w'.ownsRow w.heap.size 146 1 (.slice (some ⟨g,0,none⟩) (s.x+s.y+s.z) cp) (s.x+s.y+s.z) ((Zw s D).map (Value.int .u64))/\Ext w w':=by
 obtain⟨i0,hi,hq0,hq1,hq2⟩:=info_parts ZS;have hle:=Sh.le hs;have HS:Hd _:=YH hc hs;have HP0:Hd (Zw s D=D.drop (s.x+s.y)):=rfl;have HZ:=hid hz;have HD:=hid hl;clear hl hz hs hc;subst hlen;generalize s.x=x at *;generalize s.y=y at *;generalize s.z=z at *;unfold zJ at *;go_enter func189,ntmps189;go_wp2_with fail
 refine(HS.o _).mono ?_;rintro e w1 ⟨rfl,hx1⟩;have HX1:Hd (Ext w w1):=((lI w).alloc _).trans hx1;have hle1:=HX1.o.le;clear hx1;have v1:IntKind.i64.wrap ((x:Int)+(y:Int))=((x+y:Nat):Int):=by rw [show (x:Int)+y=((x+y:Nat):Int) by omega];exact zt (by omega)
 have t1:∀W,(Instr.slice 31 (.slice (some ⟨b,off,none⟩) (x+y+(x+y+z)) cap) (some (.int .i64 ((x+y:Nat):Int))) none none).run Tryz.prog W=.ok (.slice (some ⟨b,off+(x+y),none⟩) (x+y+z) (cap - (x+y))) W:=fun W=>by rw [V3 b off _ cap (x+y) (by omega) hcap,show x+y+(x+y+z) - (x+y)=x+y+z by omega]
 have t3:∀W,(Instr.slice 31 (.slice (some ⟨b,off,none⟩) (x+y+(x+y+z)) cap) none (some (.int .i64 (x:Int))) none).run Tryz.prog W=.ok (.slice (some ⟨b,off,none⟩) x cap) W:=fun W=>xS b off _ cap x (by omega) (by omega) W
 have t4:∀W,(Instr.slice 31 (.slice (some ⟨b,off,none⟩) (x+y+(x+y+z)) cap) (some (.int .i64 (x:Int))) (some (.int .i64 ((x+y:Nat):Int))) none).run Tryz.prog W=.ok (.slice (some ⟨b,off+x,none⟩) y (cap - x)) W:=fun W=>by rw [yI b off _ cap x (x+y) (by omega) (by omega),show x+y - x=y by omega]
 generalize hxy:x+y=xy at *;have HXY:=hid hxy;clear hxy;generalize hxz:xy+z=xyz at *;have HXZ:=hid hxz;clear hxz;go_wp2_with (at_builtin;refine wpList_append_lies _ rfl _ _ 31 rfl w.heap.size 146 i0 _ 1 8 underlying31 hi hq0 hq1 hq2 rfl (by decide) _ 0 [] rfl (rB _ _ _ _) ⟨b,off+xy,none⟩ xyz (cap - xy) ((Zw s D).map (Value.int .u64)) rfl ?c1 ?c2 (ZJ _) ?c3 ?c4 ?c5 ?c6 _ rfl ?_)
 case c1=>rw [rU,HP0.o,sN,HD.o];omega
 case c2=>rw [HP0.o];exact WordsAt.cells ((HZ.o.drop xy).ext HX1.o)
 case c3=>have:=HXZ.o;have:=HXY.o;omega
 case c4=>have:=HXZ.o;have:=HXY.o;unfold maxLen;omega
 case c5=>have:=HXZ.o;have:=HXY.o;omega
 case c6=>exact hle1
 intro g cp w2 hown hgrow hat hlt;have HF:Hd (w2.ownsRow w.heap.size 146 1 (.slice (some ⟨g,0,none⟩) xyz cp) xyz ((Zw s D).map (Value.int .u64))/\Ext w w2):=⟨by simpa using hown,HX1.o.trans (rG (lI w1) hgrow (by simp [lH]))⟩
 have hzz:0+xyz=xyz:=Nat.zero_add _;clear hown hgrow hat;go_wp2;go_ret;exact⟨g,cp,by rw [HXY.o,HXZ.o];simp,by rw [HXY.o,HXZ.o];exact HF.o.1,HF.o.2⟩
theorem VL {kd m k n:Nat}{s:Sh}(hc:ofCls kd m k n s)(hs:s.ok)(b off cap len:Nat)(D:List Int)(hl:D.length=len)(hlen:len=s.x+s.y+(s.x+s.y+s.z))(hcap:len<=cap)(w:World)(hz:WordsAt w b off D) :
  Calls Tryz.prog 189 #[zJ kd m k n,.slice (some ⟨b,off,none⟩) len cap,.int .i64 1] w fun e w'=>∃g cp,e=.returned (.slice (some ⟨g,0,none⟩) (s.x+s.y+s.z) cp)/\w'.ownsRow w.heap.size 146 1 (.slice (some ⟨g,0,none⟩) (s.x+s.y+s.z) cp) (s.x+s.y+s.z) ((yF s D).map (Value.int .u64))/\Ext w w':=by
 obtain⟨i0,hi,hq0,hq1,hq2⟩:=info_parts ZS;have hle:=Sh.le hs;have HS:Hd _:=YH hc hs;have HPd:Hd (∀w',Ext w w'->Calls Tryz.prog 190 #[zJ kd m k n,.slice (some ⟨b,off,none⟩) s.x cap,.slice (some ⟨b,off+s.x,none⟩) s.y (cap - s.x)] w' fun e w''=>∃g,e=.returned (.slice (some ⟨g,0,none⟩) s.z s.z)/\w''.ownsRow w'.heap.size 146 1 (.slice (some ⟨g,0,none⟩) s.z s.z) s.z ((Yk s (D.take s.x) ((D.drop s.x).take s.y) s.p).map (Value.int .u64))/\Ext w' w''):=fun w' hx=>
  VP hc hs b off cap b (off+s.x) (cap - s.x) s.x s.y (D.take s.x) ((D.drop s.x).take s.y) rfl rfl (by rw [sF];omega) (by rw [sF,sN];omega) w' ((hz.take _).ext hx) (((hz.drop _).take _).ext hx)
 have HP0:Hd (Zw s D=D.drop (s.x+s.y)):=rfl;have HP1:Hd (yF s D=List.zipWith (ZE s.bt) (ZY s D) (Zw s D)):=rfl;have HW:Hd (ZY s D=(D.take s.x++(D.drop s.x).take s.y)++Yk s (D.take s.x) ((D.drop s.x).take s.y) s.p):=by
  show ZY s D=_
  rw [ZY,List.take_add]
 have HML:Hd ((Yk s (D.take s.x) ((D.drop s.x).take s.y) s.p).length=s.z):=by
  show _=_
  rw [VY];exact(Nat.mul_assoc _ _ _).symm
 have HWL:Hd ((ZY s D).length=s.x+s.y+s.z):=YZ s D (hl.trans hlen);have HZ:=hid hz;have HD:=hid hl;have hkd:s.bt=decide ((kd:Int)=2):=by
  rcases hc with⟨rfl,rfl,_⟩|⟨h,rfl⟩
  ·rfl
  ·simp;omega
 clear hl hz hs hc;subst hlen;generalize s.x=x at *;generalize s.y=y at *;generalize s.z=z at *;unfold zJ at *;go_enter func189,ntmps189;go_wp2_with fail
 refine(HS.o _).mono ?_;rintro e w1 ⟨rfl,hx1⟩;obtain⟨d0,d1,d2,d3⟩:=ZQ hx1;have HX1:Hd (Ext w w1):=((lI w).alloc _).trans hx1;have hlt1:=Qx hx1;clear hx1;have v1:IntKind.i64.wrap ((x:Int)+(y:Int))=((x+y:Nat):Int):=by rw [show (x:Int)+y=((x+y:Nat):Int) by omega];exact zt (by omega)
 have v2:IntKind.i64.wrap (((x+y:Nat):Int)+(z:Int))=((x+y+z:Nat):Int):=by rw [show ((x+y:Nat):Int)+(z:Int)=((x+y+z:Nat):Int) by omega];exact zt (by omega)
 have t1:∀W,(Instr.slice 31 (.slice (some ⟨b,off,none⟩) (x+y+(x+y+z)) cap) (some (.int .i64 ((x+y:Nat):Int))) none none).run Tryz.prog W=.ok (.slice (some ⟨b,off+(x+y),none⟩) (x+y+z) (cap - (x+y))) W:=fun W=>by rw [V3 b off _ cap (x+y) (by omega) hcap,show x+y+(x+y+z) - (x+y)=x+y+z by omega]
 have t3:∀W,(Instr.slice 31 (.slice (some ⟨b,off,none⟩) (x+y+(x+y+z)) cap) none (some (.int .i64 (x:Int))) none).run Tryz.prog W=.ok (.slice (some ⟨b,off,none⟩) x cap) W:=fun W=>xS b off _ cap x (by omega) (by omega) W
 have t4:∀W,(Instr.slice 31 (.slice (some ⟨b,off,none⟩) (x+y+(x+y+z)) cap) (some (.int .i64 (x:Int))) (some (.int .i64 ((x+y:Nat):Int))) none).run Tryz.prog W=.ok (.slice (some ⟨b,off+x,none⟩) y (cap - x)) W:=fun W=>by rw [yI b off _ cap x (x+y) (by omega) (by omega),show x+y - x=y by omega]
 generalize hxy:x+y=xy at *;have HXY:=hid hxy;clear hxy;generalize hxz:xy+z=xyz at *;have HXZ:=hid hxz;clear hxz;have HB1:Hd (xy+xyz<=cap/\xyz<=27/\xyz<=cap - xy):=⟨by omega,by have:=HXZ.o;have:=HXY.o;omega,by omega⟩
 clear hcap;go_wp2_with fail
 refine(HPd.o _ HX1.o).mono ?_;rintro e w2 ⟨pg,rfl,hp2,hx2⟩;have HP2:Hd _:=hp2;have HX2:Hd (Ext w w2):=HX1.o.trans hx2;have d0:=hx2.cell d0;have hle2:=HX2.o.le;have hle12:=hx2.le;clear hp2 hx2 d1 d2 d3;obtain⟨XA,hXA⟩:∃XA,(D.take x).map (Value.int .u64)=XA:=⟨_,rfl⟩
 obtain⟨XB,hXB⟩:∃XB,((D.drop x).take y).map (Value.int .u64)=XB:=⟨_,rfl⟩
 obtain⟨XC,hXC⟩:∃XC,(Yk s (D.take x) ((D.drop x).take y) s.p).map (Value.int .u64)=XC:=⟨_,rfl⟩
 have HXA:Hd (XA.length=x/\(∀u∈XA,u.oneCell'=true)/\∀w',Ext w w'->∀j u,XA[j]?=some u->w'.cell? ((⟨b,off,none⟩:Addr).add j)=some u):=by subst hXA;exact⟨by rw [rU,sF,HD.o];have:=HXY.o;omega,ZJ _,fun w' hx=>WordsAt.cells ((HZ.o.take x).ext hx)⟩
 have HXB:Hd (XB.length=y/\(∀u∈XB,u.oneCell'=true)/\∀w',Ext w w'->∀j u,XB[j]?=some u->w'.cell? ((⟨b,off+x,none⟩:Addr).add j)=some u):=by subst hXB;exact⟨by rw [rU,sF,sN,HD.o];have:=HXY.o;omega,ZJ _,fun w' hx=>WordsAt.cells (((HZ.o.drop x).take y).ext hx)⟩
 have HXC:Hd (XC.length=z/\(∀u∈XC,u.oneCell'=true)/\∀w',Ext w2 w'->∀j u,XC[j]?=some u->w'.cell? ((⟨pg,0,none⟩:Addr).add j)=some u):=by subst hXC;exact⟨by rw [rU,HML.o],ZJ _,fun w' hx=>WordsAt.cells ((ZK HP2.o).ext hx)⟩
 have HWM:Hd ((ZY s D).map (Value.int .u64)=(XA++XB)++XC):=by
  show _=_
  rw [HW.o,rY,rY,hXA,hXB,hXC]
 clear hXA hXB hXC;go_wp2_with (at_builtin;refine wpList_append_lies _ rfl _ _ 31 rfl w2.heap.size 146 i0 _ 1 8 underlying31 hi hq0 hq1 hq2 rfl (by decide) _ 0 [] rfl (rB _ _ _ _) ⟨b,off,none⟩ x cap XA rfl ?c1 ?c2 HXA.o.2.1 ?c3 ?c4 ?c5 (lO _) _ rfl ?_)
 case c1=>rw [HXA.o.1];omega
 case c2=>exact HXA.o.2.2 _ HX2.o
 case c3=>omega
 case c4=>unfold maxLen;omega
 case c5=>omega
 intro g3 c3 w3 hown3 hgrow3 hat3 hlt3;have hx3:Ext w2 w3:=rG (lI w2) hgrow3 (by simp [lH]);have HO3:Hd (w3.ownsRow w2.heap.size 146 1 (.slice (some ⟨g3,0,none⟩) x c3) x XA):=(by show lR _ _ _ _ _ _ _;simpa using hown3)
 have HX3:Hd (Ext w w3):=HX2.o.trans hx3;have HX23:=hid hx3;have d0:=hx3.cell d0;clear hown3 hgrow3 hat3 hx3;go_wp2_with (at_builtin;refine wpList_append_lies _ rfl _ _ 31 rfl w2.heap.size 146 i0 _ 1 8 underlying31 hi hq0 hq1 hq2 rfl (by decide) _ x XA rfl HO3.o ⟨b,off+x,none⟩ y (cap - x) XB rfl ?c1 ?c2 HXB.o.2.1 ?c3 ?c4 ?c5 ?c6 _ rfl ?_)
 case c1=>rw [HXB.o.1];omega
 case c2=>exact HXB.o.2.2 _ HX3.o
 case c3=>omega
 case c4=>unfold maxLen;omega
 case c5=>omega
 case c6=>exact HX23.o.le
 intro g4 c4 w4 hown4 hgrow4 hat4 hlt4;have hx4:Ext w2 w4:=rG HX23.o hgrow4 (fun q hq=>(lR.lt HO3.o q hq).1);have HO4:Hd (w4.ownsRow w2.heap.size 146 1 (.slice (some ⟨g4,0,none⟩) (x+y) c4) (x+y) (XA++XB)):=(by show lR _ _ _ _ _ _ _;simpa using hown4)
 have HX24:=hid hx4;have d0:w4.cell? ⟨w.heap.size,0,none⟩=some (.int .i64 (kd:Int)):=(rJ (S:=fun q=>lH (.slice (some ⟨g3,0,none⟩) x c3)=some q) (rD _ w3) hgrow4 (fun q hq _=>hq)).cell d0 (fun e=>by have:=(lR.lt HO3.o _ e).1;simp only at this;omega);clear hown4 hgrow4 hat4 hx4;go_wp2_with (at_builtin;refine wpList_append_lies _ rfl _ _ 31 rfl w2.heap.size 146 i0 _ 1 8 underlying31 hi hq0 hq1 hq2 rfl (by decide) _ (x+y) (XA++XB) rfl HO4.o ⟨pg,0,none⟩ z z XC rfl ?c1 ?c2 HXC.o.2.1 ?c3 ?c4 ?c5 ?c6 _ rfl ?_)
 case c1=>rw [HXC.o.1];omega
 case c2=>exact HXC.o.2.2 _ HX24.o
 case c3=>omega
 case c4=>unfold maxLen;omega
 case c5=>omega
 case c6=>exact HX24.o.le
 intro g5 c5 w5 hown5 hgrow5 hat5 hlt5;have hx5:Ext w2 w5:=rG HX24.o hgrow5 (fun q hq=>(lR.lt HO4.o q hq).1);have hxe:x+y+z=xyz:=by have:=HXZ.o;have:=HXY.o;omega
 have HO5:Hd (w5.ownsRow w2.heap.size 146 1 (.slice (some ⟨g5,0,none⟩) xyz c5) xyz ((ZY s D).map (Value.int .u64))):=by
  rw [HWM.o];rw [hxe] at hown5;show lR _ _ _ _ _ _ _
  simpa using hown5
 have HX5:Hd (Ext w w5):=HX2.o.trans hx5;have d0:w5.cell? ⟨w.heap.size,0,none⟩=some (.int .i64 (kd:Int)):=(rJ (S:=fun q=>lH (.slice (some ⟨g4,0,none⟩) (x+y) c4)=some q) (rD _ w4) hgrow5 (fun q hq _=>hq)).cell d0 (fun e=>by have:=(lR.lt HO4.o _ e).1;simp only at this;omega);have HD0:Hd _:=d0;have hg5w:w2.heap.size<=g5:=(lR.lt HO5.o g5 rfl).1;clear hown5 hgrow5 hat5 hx5 d0 hlt5 hlt4 hlt3;rw [hxe];clear hxe;have hgw:w.heap.size<g5:=by omega
 have HCT:Hd (WordsAt w b (off+xy) (Zw s D)/\(Zw s D).length=xyz):=⟨by rw [HP0.o];exact HZ.o.drop xy,by rw [HP0.o,sN,HD.o];omega⟩
 have hb27:xyz<=27:=HB1.o.2.1;go_wp2_with fail
 go_loopw [15] (fun i wr=>∃(j:Nat) (E:List Int),j<=xyz/\i=.int .i64 j/\MinAt s.bt (ZY s D) (Zw s D) xyz j E/\wr.ownsRow g5 146 1 (.slice (some ⟨g5,0,none⟩) xyz c5) xyz (E.map (Value.int .u64))/\Ext w wr/\wr.cell? ⟨w.heap.size,0,none⟩=some (.int .i64 (kd:Int))) (fun i _=>xyz - (intOf i).toNat)
 case atStart=>
  refine⟨0,ZY s D,lT _,rfl,MinAt.start (by rw [HWL.o]),?_,HX5.o,HD0.o⟩;rcases HO5.o with⟨q1,⟨q2,_⟩|⟨g',cap',cur,q2,q3,r⟩⟩
  ·simp at q2
  ·simp only [Value.slice.injEq,Option.some.injEq,Addr.mk.injEq,and_true,true_and] at q2;exact⟨q1,.inr ⟨g',cap',cur,by simp [q2],by omega,r⟩⟩
 case round=>
  obtain⟨j,E,hj,rfl,hP,ho,hx,d0⟩:=hrel;have HP:=hid hP;have HO:=hid ho;have HX:=hid hx;clear hP ho hx;by_cases hlt:j<xyz
  ·have hk0:(0:Int)<=(j:Int):=by omega
   have hk1:(j:Int)<xyz:=by omega
   have e0:=HX.o.cell (HCT.o.1 j (by rw [HCT.o.2];exact hlt));have hbw:=lG w _ (HCT.o.1 j (by rw [HCT.o.2];exact hlt));have c0:wr.cell? ⟨g5,j,none⟩=some (.int .u64 (E.getD j 0)):=by have:=ZK HO.o j (by rw [HP.o.1];exact hlt);simpa using this
   have f0:wr.frozen? ⟨g5,j,none⟩=false:=HO.o.frozenAt j;have HPn:Hd _:=HP.o.step hlt;generalize (Zw s D).getD j 0=zp at *;generalize hdd:E.getD j 0=dd at *;clear hdd;by_cases hk2:(kd:Int)=2
   ·have hbt:s.bt=true:=by rw [hkd];exact decide_eq_true hk2
    have HPn2:Hd (MinAt s.bt (ZY s D) (Zw s D) xyz (j+1) (E.set j (bits .xor .u64 dd zp))):=by have:=HPn.o;rw [show ZE s.bt dd zp=bits .xor .u64 dd zp by rw [hbt];rfl] at this;exact this
    clear hbt HPn;rw [hk2] at d0;have HK2:=hid hk2;clear hk2;go_wp2
    go_region
    have HF:Hd (((wr.setCell ⟨g5,j,none⟩ (.int .u64 (bits .xor .u64 dd zp))).drew).cell? ⟨w.heap.size,0,none⟩=some (.int .i64 (kd:Int))):=(lX wr ⟨g5,j,none⟩ ⟨w.heap.size,0,none⟩ _ (by show g5≠w.heap.size;omega)).trans (by rw [HK2.o];exact d0);go_wp2
    go_roundw
    case rel=>exact⟨j+1,_,by omega,by go_num,HPn2.o,lR.drew (by rw [List.map_set];exact(HO.o.stored j _).1),lJ (rF HX.o (by show w.heap.size<=g5;omega) _),HF.o⟩
    case measure=>simp [intOf];omega
   ·have hbt:s.bt=false:=by rw [hkd];exact decide_eq_false hk2
    have HPn2:Hd (MinAt s.bt (ZY s D) (Zw s D) xyz (j+1) (E.set j (IntKind.u64.wrap (dd - zp)))):=by have:=HPn.o;rw [show ZE s.bt dd zp=IntKind.u64.wrap (dd - zp) by rw [hbt];rfl] at this;exact this
    clear hbt HPn;go_wp2
    go_region
    have HF:Hd (((wr.setCell ⟨g5,j,none⟩ (.int .u64 (IntKind.u64.wrap (dd - zp)))).drew).cell? ⟨w.heap.size,0,none⟩=some (.int .i64 (kd:Int))):=(lX wr ⟨g5,j,none⟩ ⟨w.heap.size,0,none⟩ _ (by show g5≠w.heap.size;omega)).trans d0;go_wp2
    go_roundw
    case rel=>exact⟨j+1,_,by omega,by go_num,HPn2.o,lR.drew (by rw [List.map_set];exact(HO.o.stored j _).1),lJ (rF HX.o (by show w.heap.size<=g5;omega) _),HF.o⟩
    case measure=>simp [intOf];omega
  ·obtain rfl:j=xyz:=by omega
   go_wp2;go_ret;exact⟨g5,c5,by rw [HXY.o,HXZ.o];simp,by rw [HXY.o,HXZ.o,HP1.o,<-HP.o.done (by rw [HWL.o]) HCT.o.2];exact zv HO.o (by omega),HX.o⟩
end
section
section
variable {P:Program}(w:World)
theorem Jf {w:World}{base:Nat}{e:TypeId}{size g n m cap:Nat}{xs ys:List Value}(hx:xs.length=n*size)(h:w.ownsRow base e size (.slice (some ⟨g,0,none⟩) (n+m) cap) (n+m) (xs++ys)):w.ownsRow base e size (.slice (some ⟨g,0,none⟩) n cap) n xs:=by
 rcases h.2 with⟨h1,_⟩|⟨g',cap',cur,h1,h2,h3,h4,h5,h6,h7⟩
 ·cases h1
 ·injection h1 with e1 e2 e3
  injection e1 with e1
  injection e1 with e1
  subst e1 e3;refine⟨hx,.inr ⟨g,cap,cur,rfl,h2,h3,by omega,h5,h6,?_⟩⟩;have h8:=congrArg (List.take (n*size)) h7;rw [List.take_take,Nat.min_eq_left (by rw [rO];omega),List.take_left' hx] at h8;exact h8
theorem xg (t ty:TypeId)(base:Nat)(e:TypeId)(i:TypeInfo)(z:Value)(size bytes:Nat)(ht:P.underlying t=some (.slice e))(hi:P.info? e=some i)(hz:i.zero=some z)
  (hsize:i.size=size) (hby:i.bytes=bytes) (hzs:z.cells.size=size) (hsz:0<size)
  (v:Value) (n:Nat) (xs:List Value) (hown:w.ownsRow base e size v n xs)
  (ad:Addr) (m c:Nat) (news:List Value) (hl:news.length=m*size) (hnews:∀j u,news[j]?=some u->w.cell? (ad.add j)=some u) (h1:∀u∈news,u.oneCell'=true)
  (hm:0<m) (h63:n+m<=maxLen) (hbytes:(n+m)*bytes<=140737488355328) (hbase:base<=w.heap.size) :
  ∃g cap w',(Builtin.append_ #[t,t] ty #[v,.slice (some ad) m c]).run P w=.ok (.slice (some ⟨g,0,none⟩) (n+m) cap) w'/\
   w'.ownsRow base e size (.slice (some ⟨g,0,none⟩) (n+m) cap) (n+m) (xs++news)/\w'.ownsRow base e size v n xs/\w.grownBy w' v.ownBlock/\(v.ownBlock=some g\/(Ext w w'/\w.heap.size<=g))/\g<w'.heap.size:=by
 obtain⟨g,cap,w',hr,h2,h3,h4,h5⟩:=run_append_lies (P:=P) w t ty base e i z size bytes ht hi hz hsize hby hzs hsz v n xs hown ad m c news hl hnews h1 hm h63 hbytes hbase _ rfl;have hsmall:n+m<=9223372036854775807:=by simp only [maxLen] at h63;omega
 subst hsize;subst hby;rcases hown.2 with⟨rfl,rfl⟩|⟨g0,cap0,cur,rfl,hbg,hg,hnc,hcm,hcs,htake⟩
 ·have hx:xs=[]:=List.eq_nil_of_length_eq_zero (by simpa using hown.1);subst hx;refine⟨g,cap,w',hr,h2,rB _ _ _ _,h3,.inr ⟨rG (lI w) h3 (by simp [lH]),?_⟩,h5⟩;rcases h4 with h4|h4
  ·simp [lH] at h4
  ·omega
 ·by_cases hroom:n+m<=cap0
  ·have hfit:n*i.size+news.length<=cur.size:=by rw [hl,hcs,<-rO];exact Nat.mul_le_mul_right _ hroom
   have hr2:=run_append_room (P:=P) w t ty e i ht hi g0 n cap0 cur hg ad m c news hl hnews h1 hroom hfit;rw [hr] at hr2;injection hr2 with e1 e2
   have hgg:g=g0:=by
    injection e1 with e1 _ _
    injection e1 with e1
    injection e1
   have h2':=h2;rw [e1] at h2';exact⟨g,cap,w',hr,h2,Jf hown.1 h2',h3,.inl (by rw [hgg];rfl),h5⟩
  ·have holds:∀j u,xs[j]?=some u->w.cell? ((⟨g0,0,none⟩:Addr).add j)=some u:=hown.cells (g:=g0) rfl;have hr2:=run_append_grow (P:=P) w t ty e i z ht hi hz ⟨g0,0,none⟩ n cap0 xs hown.1 holds ad m c news hl hnews (by omega) (by omega) (growslice_fits (by omega) hbytes);have hr3:=hr2;rw [hr] at hr2;injection hr2 with e1 e2
   have hgg:g=w.heap.size:=by
    injection e1 with e1 _ _
    injection e1 with e1
    injection e1
   have hxx:Ext w w':=by rw [e2];exact lK (lJ (lI w)) _
   exact⟨g,cap,w',hr,h2,Ext.owns hxx hown,h3,.inr ⟨hxx,by omega⟩,h5⟩
theorem zD {ops:Array Oper}{rest:List Oper}{o:Oper}{a:Act}{Q:Exit->Act->World->Prop}(hgd:o.guard=none)(s x:Operand)(t:TypeId)
  (ho:o.op=.call { callee:=.builtin .append,args:=#[s,x],argTypes:=#[t,t] })
  (base:Nat) (e:TypeId) (i:TypeInfo) (z:Value) (size bytes:Nat) (ht:P.underlying t=some (.slice e)) (hi:P.info? e=some i) (hz:i.zero=some z)
  (hsize:i.size=size) (hby:i.bytes=bytes) (hzs:z.cells.size=size) (hsz:0<size)
  (v:Value) (n:Nat) (xs:List Value) (hs:a.eval s=v) (hown:w.ownsRow base e size v n xs)
  (ad:Addr) (m c:Nat) (news:List Value) (hx:a.eval x=.slice (some ad) m c) (hl:news.length=m*size) (hnews:∀j u,news[j]?=some u->w.cell? (ad.add j)=some u) (h1:∀u∈news,u.oneCell'=true)
  (hm:0<m) (h63:n+m<=maxLen) (hbytes:(n+m)*bytes<=140737488355328) (hbase:base<=w.heap.size)
  (h:∀g cap w',w'.ownsRow base e size (.slice (some ⟨g,0,none⟩) (n+m) cap) (n+m) (xs++news)->w'.ownsRow base e size v n xs->w.grownBy w' v.ownBlock->(v.ownBlock=some g\/(Ext w w'/\w.heap.size<=g))->g<w'.heap.size->wpList P ops Q rest (a.put o.dst (.slice (some ⟨g,0,none⟩) (n+m) cap)) w'):wpList P ops Q (o::rest) a w:=by
 refine wpList_plain hgd fun K hK=>?_
 obtain⟨g,cap,w',hr,h2,h2',h3,h4,h5⟩:=xg (P:=P) w t o.type base e i z size bytes ht hi hz hsize hby hzs hsz v n xs hown ad m c news hl hnews h1 hm h63 hbytes hbase;unfold Oper.wp execOp;simp only [ho,resolve,invoke,builtin,Sem.run_bind,Sem.run_pure,Result.andThen_ok,List.map_toArray,List.map_cons,List.map_nil,hs,hx,hr];exact hK _ _ (h g cap w' h2 h2' h3 h4 h5)
end
end
section
theorem Jo (x:Stk):(x.ts.filter (·.2)).length+x.gone=x.ts.length:=by
 unfold Stk.gone
 induction x.ts with
 | nil=>rfl
 | cons t l ih=>
  cases h:t.2<;>simp [h]<;>omega
theorem Uj {G:Nat->Prop}(p:Nat)(S:List Stk)(ls:List LsV)(w:World)(h:RefAt w G p S ls) :
  Calls Tryz.prog 75 #[.pointer (some ⟨p,0,none⟩)] w fun e w'=>∃v,e=.returned v/\RowIs w G v ls.length (zu ls)/\w=w':=by
 obtain⟨stv,lsv,css,h1,h2,h3,h4,h5,h6⟩:=h;have c1:w.cell? ⟨p,1,none⟩=some lsv:=zc h1 rfl;have hp:=lG w _ c1;have H6:Hd _:=h6;clear h1 h3 h4 h5 h6;go_enter func75,ntmps75;go_wp2;go_ret;exact⟨_,rfl,H6.o,rfl⟩
theorem VE {G:Nat->Prop}(p:Nat)(S:List Stk)(ls:List LsV)(hS:S.length<=100)(hSm:∀x∈S,x.ts.length<=1000)(w:World)(h:RefAt w G p S ls) :
  Calls Tryz.prog 74 #[.pointer (some ⟨p,0,none⟩)] w fun e w'=>∃v',e=.returned v'/\w'.ownsRow w.heap.size 116 7 v' S.length (Za S)/\Ext w w':=by
 obtain⟨i0,hi,hz0,hz1,hz2⟩:=info_parts xd;obtain⟨stv,lsv,css,h1,h2,h3,h4,h5,h6⟩:=h;have c0:w.cell? ⟨p,0,none⟩=some stv:=zc h1 rfl;have hp:=lG w _ c0;obtain⟨sa,scap,hsv⟩:=h3.slice;have HPt:Hd (∀j (hj:j<S.length),∃g tv,sa=some ⟨g,0,none⟩/\g<w.heap.size/\(∃a cap,tv=.slice a S[j].ts.length cap)/\w.cell? ⟨g,j*7,none⟩=some (.int .i64 (S[j].kd:Int))/\w.cell? ⟨g,j*7+1,none⟩=some (.int .i64 (S[j].m:Int))/\w.cell? ⟨g,j*7+2,none⟩=some (.int .i64 (S[j].k:Int))/\w.cell? ⟨g,j*7+3,none⟩=some (.int .i64 (S[j].n:Int))/\w.cell? ⟨g,j*7+4,none⟩=some tv/\w.cell? ⟨g,j*7+5,none⟩=some (.int .i64 (S[j].leased:Int))/\w.cell? ⟨g,j*7+6,none⟩=some (.int .i64 (S[j].gone:Int))):=fun j hj=>by
  rcases h3 with⟨_,hn⟩|⟨g,cap,e,_,_,hc,_⟩
  ·omega
  ·rw [e] at hsv;injection hsv with e1 _ _
   obtain⟨cs,hcs,tv,vs,rfl,hrow,_,_⟩:=h5 j hj;have hh:=fun i hi=>y9 h4 h5 j hj i hi hcs
   have g0:=hc (j*7+0) _ ((hh 0 (by omega)).trans rfl);refine⟨g,tv,e1.symm,lG w _ g0,hrow.slice,g0,hc (j*7+1) _ ((hh 1 (by omega)).trans rfl),hc (j*7+2) _ ((hh 2 (by omega)).trans rfl),hc (j*7+3) _ ((hh 3 (by omega)).trans rfl),hc (j*7+4) _ ((hh 4 (by omega)).trans rfl),hc (j*7+5) _ ((hh 5 (by omega)).trans rfl),hc (j*7+6) _ ((hh 6 (by omega)).trans rfl)⟩
 have HSm:Hd _:=hSm;subst hsv;clear h1 h3 h4 h5 h6 hSm;obtain⟨len,hlen⟩:∃len,S.length=len:=⟨_,rfl⟩
 have HLEN:=hid hlen;rw [hlen] at c0 hS ⊢;clear hlen;go_enter func74,ntmps74;go_wp2
 go_loopw [3,4,5] (fun u i _ wr=>∃j:Nat,j<=len/\i=.int .i64 j/\wr.ownsRow w.heap.size 116 7 u j (Za (S.take j))/\Ext w wr) (fun _ i _ _=>len - (intOf i).toNat)
 case atStart=>exact⟨0,lT _,rfl,rB _ _ _ _,lI _⟩
 case round=>
  obtain⟨j,hj,rfl,ho,hx⟩:=hrel;have HO:=hid ho;have HX:=hid hx;have c0:=hx.cell c0;have hwl:=hx.le;clear ho hx;by_cases hlt:j<len
  ·have hjl:j<S.length:=by rw [HLEN.o];exact hlt
   obtain⟨g,tv,rfl,hgl,⟨ta,tcap,rfl⟩,e0,e1,e2,e3,e4,e5,e6⟩:=HPt.o j hjl;have HTk:Hd (S.take (j+1)=S.take j++[S[j]]):=List.take_succ_eq_append_getElem hjl;have hkg:=Jo S[j];have hsm:=HSm.o S[j] (lV hjl);obtain⟨x0,hx0⟩:∃x0,S[j].kd=x0:=⟨_,rfl⟩
   obtain⟨x1,hx1⟩:∃x1,S[j].m=x1:=⟨_,rfl⟩
   obtain⟨x2,hx2⟩:∃x2,S[j].k=x2:=⟨_,rfl⟩
   obtain⟨x3,hx3⟩:∃x3,S[j].n=x3:=⟨_,rfl⟩
   obtain⟨x4,hx4⟩:∃x4,S[j].ts.length=x4:=⟨_,rfl⟩
   obtain⟨x5,hx5⟩:∃x5,S[j].leased=x5:=⟨_,rfl⟩
   obtain⟨x6,hx6⟩:∃x6,(S[j].ts.filter (·.2)).length=x6:=⟨_,rfl⟩
   obtain⟨x7,hx7⟩:∃x7,S[j].gone=x7:=⟨_,rfl⟩
   have HTd:Hd (S[j].told=[.int .i64 (x0:Int),.int .i64 (x1:Int),.int .i64 (x2:Int),.int .i64 (x3:Int),.int .i64 (x4:Int),.int .i64 (x5:Int),.int .i64 (x6:Int)]):=by rw [<-hx0,<-hx1,<-hx2,<-hx3,<-hx4,<-hx5,<-hx6];rfl
   rw [hx6,hx7,hx4] at hkg;rw [hx4] at hsm e4;rw [hx0] at e0;rw [hx1] at e1;rw [hx2] at e2;rw [hx3] at e3;rw [hx5] at e5;rw [hx7] at e6;have e0:=HX.o.cell e0;have e1:=HX.o.cell e1;have e2:=HX.o.cell e2;have e3:=HX.o.cell e3;have e4:=HX.o.cell e4;have e5:=HX.o.cell e5;have e6:=HX.o.cell e6;have hsub:IntKind.i64.wrap ((x4:Int) - (x7:Int))=(x6:Int):=by rw [show (x4:Int) - x7=((x6:Nat):Int) by omega];exact zt (by omega)
   have HG:Hd (∀q,u3.ownBlock=some q->w.heap.size<=q/\q<wr.heap.size):=fun q hq=>lR.lt HO.o q hq
   clear hkg hx0 hx1 hx2 hx3 hx4 hx5 hx6 hx7;go_wp2_with (at_builtin;refine wpList_append_lies _ rfl _ _ 44 rfl w.heap.size 116 i0 _ 7 56 underlying44 hi hz0 hz1 hz2 rfl (by decide) u3 j (Za (S.take j)) rfl (Ext.owns (lK (lK (lI _) _) _) HO.o) ⟨_,0,none⟩ 1 1 [.int .i64 (x0:Int),.int .i64 (x1:Int),.int .i64 (x2:Int),.int .i64 (x3:Int),.int .i64 (x4:Int),.int .i64 (x5:Int),.int .i64 (x6:Int)] rfl rfl (World.news_of_block (zm (by simp))) (by simp [Value.oneCell']) (by decide) (by simp [maxLen];omega) (by omega) (by simp;omega) _ rfl ?_)
   intro gv cv w3 hown3 hgrow hat hlt3;have HQ:Hd (w3.ownsRow w.heap.size 116 7 (.slice (some ⟨gv,0,none⟩) (j+1) cv) (j+1) (Za (S.take j)++[.int .i64 (x0:Int),.int .i64 (x1:Int),.int .i64 (x2:Int),.int .i64 (x3:Int),.int .i64 (x4:Int),.int .i64 (x5:Int),.int .i64 (x6:Int)])/\Ext w w3):=And.intro hown3 (rG (lK (lK HX.o _) _) hgrow (fun q hq=>(HG.o q hq).1));clear hown3 hgrow hat;go_wp2
   go_roundw
   case rel=>
    refine⟨j+1,by omega,by go_num,?_,HQ.o.2⟩;rw [HTk.o,QK,HTd.o];exact HQ.o.1
   case measure=>simp [intOf];omega
  ·obtain rfl:j=len:=by omega
   have HF:Hd (wr.ownsRow w.heap.size 116 7 u3 j (Za S)):=by have h1:=HO.o;rw [List.take_of_length_le (by rw [HLEN.o];exact lO _)] at h1;exact h1
   go_wp2;go_ret;exact⟨_,rfl,HF.o,HX.o⟩
end
section
theorem VI {G:Nat->Prop}(p:Nat)(S:List Stk)(ls:List LsV)(kk s i kd m k n f c pp cd:Int)(hS:S.length<=100)(hcd:(S.findIdx? (fun x=>x.is kd m k n)=none/\cd=2)\/(∃ix,S.findIdx? (fun x=>x.is kd m k n)=some ix)/\((c<1\/40<c)/\cd=5\/1<=c/\c<=40/\1<pp/\cd=9))(w:World)(h:RefAt w G p S ls) :
  Calls Tryz.prog 178 #[.pointer (some ⟨p,0,none⟩),zN kk s i kd m k n f c pp] w fun e w'=>e=.returned (zr cd 0 0 (.slice none 0 0))/\Ext w w':=by
 have HFi:Hd (∀w',Ext w w'->Calls Tryz.prog 147 #[.pointer (some ⟨p,0,none⟩),.agg #[.int .i64 kd,.int .i64 m,.int .i64 k,.int .i64 n]] w' fun e w''=>e=.returned (.int .i64 (match S.findIdx? (fun x=>x.is kd m k n) with|some i=>(i:Int)|none=>-1))/\Ext w' w''):=fun w' hx=>yB p S ls kd m k n hS w' (h.ext hx)
 clear h;rcases hcd with⟨hn,rfl⟩|⟨⟨ix,hs⟩,hcd⟩
 ·rw [hn] at HFi;have HCo:Hd (∀w',_):=fun w'=>yn 2 w'
  clear hn;unfold zr at *;unfold zN;go_enter func178,ntmps178;go_wp2_with fail
  have hres0:=zf2 w kk s i kd m k n f c pp;have hreq0:=zf4 w kk s i kd m k n f c pp;have hXW:=zf3 w kk s i kd m k n f c pp;generalize lP (lP w _) _=W at hres0 hreq0 hXW ⊢;refine(HFi.o W hXW).mono ?_;rintro e w1 ⟨rfl,hx1⟩;have HX1:Hd (Ext w w1):=hXW.trans hx1;have HRS:Hd _:=hx1.block hres0;have HRQ:Hd _:=hx1.block hreq0;clear hx1 hXW hres0 hreq0;have r1:w1.cell? ⟨w.heap.size,1,none⟩=some (.int .i64 s):=zc HRQ.o rfl;have r3:w1.cell? ⟨w.heap.size,3,none⟩=some (.int .i64 kd):=zc HRQ.o rfl;have r4:w1.cell? ⟨w.heap.size,4,none⟩=some (.int .i64 m):=zc HRQ.o rfl;have r5:w1.cell? ⟨w.heap.size,5,none⟩=some (.int .i64 k):=zc HRQ.o rfl;have r6:w1.cell? ⟨w.heap.size,6,none⟩=some (.int .i64 n):=zc HRQ.o rfl;have r7:w1.cell? ⟨w.heap.size,7,none⟩=some (.int .i64 f):=zc HRQ.o rfl;have r8:w1.cell? ⟨w.heap.size,8,none⟩=some (.int .i64 c):=zc HRQ.o rfl;have r9:w1.cell? ⟨w.heap.size,9,none⟩=some (.int .i64 pp):=zc HRQ.o rfl;have hrl:=lG w1 _ r1;go_wp2_with fail
  refine(HCo.o _).mono ?_;rintro e w9 ⟨rfl,hx9⟩;have hr9:=hx9.block HRS.o;have o0:=zc hr9 (i:=0) rfl;have f0:=ze hr9 0;have o1:=zc hr9 (i:=1) rfl;have f1:=ze hr9 1;have o2:=zc hr9 (i:=2) rfl;have f2:=ze hr9 2;have o3:=zc hr9 (i:=3) rfl;have f3:=ze hr9 3;have HX9:Hd (Ext w w9):=HX1.o.trans hx9;clear hr9 hx9;go_wp2;refine bodyPost_ret (v:=.agg #[.int .i64 2,.int .i64 0,.int .i64 0,.slice none 0 0]) (by simp [results,results178,go_sem,o0,o1,o2,o3]) rfl ⟨rfl,?_⟩;exact Z9 HX9.o (by omega) _ _ _ _
 ·rw [hs] at HFi;clear hs;rcases hcd with⟨hcc,rfl⟩|⟨hc1,hc2,hpp,rfl⟩
  ·have HCo:Hd (∀w',_):=fun w'=>yn 5 w'
   rcases hcc with hcc|hcc
   ·skip
    unfold zr at *;unfold zN;go_enter func178,ntmps178;go_wp2_with fail
    have hres0:=zf2 w kk s i kd m k n f c pp;have hreq0:=zf4 w kk s i kd m k n f c pp;have hXW:=zf3 w kk s i kd m k n f c pp;generalize lP (lP w _) _=W at hres0 hreq0 hXW ⊢;refine(HFi.o W hXW).mono ?_;rintro e w1 ⟨rfl,hx1⟩;have HX1:Hd (Ext w w1):=hXW.trans hx1;have HRS:Hd _:=hx1.block hres0;have HRQ:Hd _:=hx1.block hreq0;clear hx1 hXW hres0 hreq0;have r1:w1.cell? ⟨w.heap.size,1,none⟩=some (.int .i64 s):=zc HRQ.o rfl;have r3:w1.cell? ⟨w.heap.size,3,none⟩=some (.int .i64 kd):=zc HRQ.o rfl;have r4:w1.cell? ⟨w.heap.size,4,none⟩=some (.int .i64 m):=zc HRQ.o rfl;have r5:w1.cell? ⟨w.heap.size,5,none⟩=some (.int .i64 k):=zc HRQ.o rfl;have r6:w1.cell? ⟨w.heap.size,6,none⟩=some (.int .i64 n):=zc HRQ.o rfl;have r7:w1.cell? ⟨w.heap.size,7,none⟩=some (.int .i64 f):=zc HRQ.o rfl;have r8:w1.cell? ⟨w.heap.size,8,none⟩=some (.int .i64 c):=zc HRQ.o rfl;have r9:w1.cell? ⟨w.heap.size,9,none⟩=some (.int .i64 pp):=zc HRQ.o rfl;have hrl:=lG w1 _ r1;go_wp2_with fail
    refine(HCo.o _).mono ?_;rintro e w9 ⟨rfl,hx9⟩;have hr9:=hx9.block HRS.o;have o0:=zc hr9 (i:=0) rfl;have f0:=ze hr9 0;have o1:=zc hr9 (i:=1) rfl;have f1:=ze hr9 1;have o2:=zc hr9 (i:=2) rfl;have f2:=ze hr9 2;have o3:=zc hr9 (i:=3) rfl;have f3:=ze hr9 3;have HX9:Hd (Ext w w9):=HX1.o.trans hx9;clear hr9 hx9;go_wp2;refine bodyPost_ret (v:=.agg #[.int .i64 5,.int .i64 0,.int .i64 0,.slice none 0 0]) (by simp [results,results178,go_sem,o0,o1,o2,o3]) rfl ⟨rfl,?_⟩;exact Z9 HX9.o (by omega) _ _ _ _
   ·have hc1:¬c<1:=by omega
    unfold zr at *;unfold zN;go_enter func178,ntmps178;go_wp2_with fail
    have hres0:=zf2 w kk s i kd m k n f c pp;have hreq0:=zf4 w kk s i kd m k n f c pp;have hXW:=zf3 w kk s i kd m k n f c pp;generalize lP (lP w _) _=W at hres0 hreq0 hXW ⊢;refine(HFi.o W hXW).mono ?_;rintro e w1 ⟨rfl,hx1⟩;have HX1:Hd (Ext w w1):=hXW.trans hx1;have HRS:Hd _:=hx1.block hres0;have HRQ:Hd _:=hx1.block hreq0;clear hx1 hXW hres0 hreq0;have r1:w1.cell? ⟨w.heap.size,1,none⟩=some (.int .i64 s):=zc HRQ.o rfl;have r3:w1.cell? ⟨w.heap.size,3,none⟩=some (.int .i64 kd):=zc HRQ.o rfl;have r4:w1.cell? ⟨w.heap.size,4,none⟩=some (.int .i64 m):=zc HRQ.o rfl;have r5:w1.cell? ⟨w.heap.size,5,none⟩=some (.int .i64 k):=zc HRQ.o rfl;have r6:w1.cell? ⟨w.heap.size,6,none⟩=some (.int .i64 n):=zc HRQ.o rfl;have r7:w1.cell? ⟨w.heap.size,7,none⟩=some (.int .i64 f):=zc HRQ.o rfl;have r8:w1.cell? ⟨w.heap.size,8,none⟩=some (.int .i64 c):=zc HRQ.o rfl;have r9:w1.cell? ⟨w.heap.size,9,none⟩=some (.int .i64 pp):=zc HRQ.o rfl;have hrl:=lG w1 _ r1;go_wp2_with fail
    refine(HCo.o _).mono ?_;rintro e w9 ⟨rfl,hx9⟩;have hr9:=hx9.block HRS.o;have o0:=zc hr9 (i:=0) rfl;have f0:=ze hr9 0;have o1:=zc hr9 (i:=1) rfl;have f1:=ze hr9 1;have o2:=zc hr9 (i:=2) rfl;have f2:=ze hr9 2;have o3:=zc hr9 (i:=3) rfl;have f3:=ze hr9 3;have HX9:Hd (Ext w w9):=HX1.o.trans hx9;clear hr9 hx9;go_wp2;refine bodyPost_ret (v:=.agg #[.int .i64 5,.int .i64 0,.int .i64 0,.slice none 0 0]) (by simp [results,results178,go_sem,o0,o1,o2,o3]) rfl ⟨rfl,?_⟩;exact Z9 HX9.o (by omega) _ _ _ _
  ·have HCo:Hd (∀w',_):=fun w'=>yn 9 w'
   have hc1:¬c<1:=by omega
   have hc2:¬40<c:=by omega
   unfold zr at *;unfold zN;go_enter func178,ntmps178;go_wp2_with fail
   have hres0:=zf2 w kk s i kd m k n f c pp;have hreq0:=zf4 w kk s i kd m k n f c pp;have hXW:=zf3 w kk s i kd m k n f c pp;generalize lP (lP w _) _=W at hres0 hreq0 hXW ⊢;refine(HFi.o W hXW).mono ?_;rintro e w1 ⟨rfl,hx1⟩;have HX1:Hd (Ext w w1):=hXW.trans hx1;have HRS:Hd _:=hx1.block hres0;have HRQ:Hd _:=hx1.block hreq0;clear hx1 hXW hres0 hreq0;have r1:w1.cell? ⟨w.heap.size,1,none⟩=some (.int .i64 s):=zc HRQ.o rfl;have r3:w1.cell? ⟨w.heap.size,3,none⟩=some (.int .i64 kd):=zc HRQ.o rfl;have r4:w1.cell? ⟨w.heap.size,4,none⟩=some (.int .i64 m):=zc HRQ.o rfl;have r5:w1.cell? ⟨w.heap.size,5,none⟩=some (.int .i64 k):=zc HRQ.o rfl;have r6:w1.cell? ⟨w.heap.size,6,none⟩=some (.int .i64 n):=zc HRQ.o rfl;have r7:w1.cell? ⟨w.heap.size,7,none⟩=some (.int .i64 f):=zc HRQ.o rfl;have r8:w1.cell? ⟨w.heap.size,8,none⟩=some (.int .i64 c):=zc HRQ.o rfl;have r9:w1.cell? ⟨w.heap.size,9,none⟩=some (.int .i64 pp):=zc HRQ.o rfl;have hrl:=lG w1 _ r1;go_wp2_with fail
   refine(HCo.o _).mono ?_;rintro e w9 ⟨rfl,hx9⟩;have hr9:=hx9.block HRS.o;have o0:=zc hr9 (i:=0) rfl;have f0:=ze hr9 0;have o1:=zc hr9 (i:=1) rfl;have f1:=ze hr9 1;have o2:=zc hr9 (i:=2) rfl;have f2:=ze hr9 2;have o3:=zc hr9 (i:=3) rfl;have f3:=ze hr9 3;have HX9:Hd (Ext w w9):=HX1.o.trans hx9;clear hr9 hx9;go_wp2;refine bodyPost_ret (v:=.agg #[.int .i64 9,.int .i64 0,.int .i64 0,.slice none 0 0]) (by simp [results,results178,go_sem,o0,o1,o2,o3]) rfl ⟨rfl,?_⟩;exact Z9 HX9.o (by omega) _ _ _ _
end
section
theorem V6 (x:Stk)(hcls:yb x.kd x.m x.k x.n=true)(pp:Int)(hp:pp=0\/pp=1)(b cap j:Nat)(hj:j<x.ts.length)(hl:x.ts[j].1.length=x.each)(hcap:x.each<=cap)(w:World)(hz:WordsAt w b 0 x.ts[j].1) :
  Calls Tryz.prog 189 #[zJ x.kd x.m x.k x.n,.slice (some ⟨b,0,none⟩) x.each cap,.int .i64 pp] w fun e w'=>∃g cp,e=.returned (.slice (some ⟨g,0,none⟩) (x.sh.x+x.sh.y+x.sh.z) cp)/\w'.ownsRow w.heap.size 146 1 (.slice (some ⟨g,0,none⟩) (x.sh.x+x.sh.y+x.sh.z) cp) (x.sh.x+x.sh.y+x.sh.z) ((ZN x pp j).map (Value.int .u64))/\Ext w w':=by
 obtain⟨hc,hs⟩:=Yc hcls;have hz1:1<=x.sh.z:=by
  have h:=Sh.le hs;show 1<=(zB x.kd x.m x.k x.n).z
  omega
 have hge:(x.ts.getD j ([],false)).1=x.ts[j].1:=by rw [rT,lZ hj];rfl
 unfold ZN;rw [hge];rcases hp with rfl|rfl
 ·rw [if_pos rfl,YW hl hz1];exact VF hc hs b 0 cap x.each x.ts[j].1 hl rfl hcap w hz
 ·rw [if_neg (by decide),Y6 hl hz1];exact VL hc hs b 0 cap x.each x.ts[j].1 hl rfl hcap w hz
theorem jy {G:Nat->Prop}(p ix f c L:Nat)(S:List Stk)(ls:List LsV)(kk s i kd m k n pp:Int)(hS:S.length<=100)(hls:ls.length<=1000)(hfc:∀l∈ls,0<=l.f/\l.f<=1000/\0<=l.c/\l.c<=1000)(hf:f<=2147483647)(hc1:1<=c)(hc40:c<=40)(hpp:pp=0\/pp=1)(hix:ix<S.length)(hfx:S.findIdx? (fun x=>x.is kd m k n)=some ix)
  (hkd:(S[ix].kd:Int)=kd) (hm:(S[ix].m:Int)=m) (hk:(S[ix].k:Int)=k) (hn:(S[ix].n:Int)=n) (hcls:yb kd m k n=true) (hL:L=S[ix].sh.x+S[ix].sh.y+S[ix].sh.z) (hL1:1<=L) (hL2:L<=27)
  (_hmost:S[ix].ts.length<=1000) (hlen:∀j (h:j<S[ix].ts.length),S[ix].ts[j].1.length=S[ix].each) (hin:∀j:Nat,ls.any (Zx s kd m k n j)=true->j<S[ix].ts.length) (w:World) (h:RefAt w G p S ls) :
  Calls Tryz.prog 178 #[.pointer (some ⟨p,0,none⟩),zN kk s i kd m k n f c pp] w fun e w'=>
   ((∃j:Nat,j<c/\ls.any (Zx s kd m k n ((f+j:Nat):Int))=false)/\e=.returned (zr 8 0 0 (.slice none 0 0))/\Ext w w')\/
   ((∀j:Nat,j<c->ls.any (Zx s kd m k n ((f+j:Nat):Int))=true)/\∃v,e=.returned (zr 0 f c v)/\w'.ownsRow w.heap.size 146 1 v (c*L) ((ZX S[ix] pp f c).map (Value.int .u64))/\Ext w w'):=by
 obtain⟨i0,hi,hq0,hq1,hq2⟩:=info_parts ZS;have HFi:Hd (∀w',Ext w w'->Calls Tryz.prog 147 #[.pointer (some ⟨p,0,none⟩),.agg #[.int .i64 kd,.int .i64 m,.int .i64 k,.int .i64 n]] w' fun e w''=>e=.returned (.int .i64 (ix:Int))/\Ext w' w''):=fun w' hx=>by have:=yB p S ls kd m k n hS w' (h.ext hx);rw [hfx] at this;exact this
 have HH:Hd (∀num:Int,∀w',Ext w w'->Calls Tryz.prog 188 #[.pointer (some ⟨p,0,none⟩),.int .i64 s,.agg #[.int .i64 kd,.int .i64 m,.int .i64 k,.int .i64 n],.int .i64 num] w' fun e w''=>e=.returned (.bool (ls.any (Zx s kd m k n num)))/\Ext w' w''):=fun num w' hx=>Jw p S ls s kd m k n num hls hfc w' (h.ext hx)
 have HCo:Hd (∀w',_):=fun w'=>yn 8 w'
 obtain⟨stv,lsv,css0,h1,h2,h3,h4,h5,h6⟩:=h;have c0:w.cell? ⟨p,0,none⟩=some stv:=zc h1 rfl;have hp:p<w.heap.size:=lG w _ c0;obtain⟨g,cap,ta,tcap,vs,rfl,hcap,_,⟨_,_,_,_,s4,_,_⟩,q1,q2,q3⟩:=Yw h3 h4 h5 ix hix;have hgl:=lG w _ s4;have HTr:Hd (∀j:Nat,j<S[ix].ts.length->∃tg b bcap,ta=some ⟨tg,0,none⟩/\tg<w.heap.size/\w.cell? ⟨tg,j,none⟩=some (.slice (some ⟨b,0,none⟩) S[ix].each bcap)/\∀w',Ext w w'->Calls Tryz.prog 189 #[.agg #[.int .i64 kd,.int .i64 m,.int .i64 k,.int .i64 n],.slice (some ⟨b,0,none⟩) S[ix].each bcap,.int .i64 pp] w' fun e w''=>∃g cp,e=.returned (.slice (some ⟨g,0,none⟩) L cp)/\w''.ownsRow w'.heap.size 146 1 (.slice (some ⟨g,0,none⟩) L cp) L ((ZN S[ix] pp j).map (Value.int .u64))/\Ext w' w''):=fun j hj=>by
  obtain⟨v,hv,b,bcap,rfl,k2,k3,k4⟩:=q3 j hj;rcases q1 with⟨_,hn0⟩|⟨tg,tc,e,_,_,hcell,_⟩
  ·omega
  ·injection e with e1 _ _
   have hcj:=hcell j _ hv;refine⟨tg,b,bcap,e1,lG w _ hcj,hcj,fun w' hx=>?_⟩;have:=V6 S[ix] (by rw [hkd,hm,hk,hn];exact hcls) pp hpp b bcap j hj (hlen j hj) k2 w' (k3.ext hx);rw [zJ,hkd,hm,hk,hn,<-hL] at this;exact this
 have HIn:Hd _:=hin;obtain⟨A,hA⟩:∃A,ZX S[ix] pp f=A:=⟨_,rfl⟩
 obtain⟨Sw,hSw⟩:∃Sw,ZN S[ix] pp=Sw:=⟨_,rfl⟩
 have HAs:Hd (∀j,A (j+1)=A j++Sw (f+j)):=fun j=>by rw [<-hA,<-hSw];exact qc _ _ _ _
 have HA0:Hd (A 0=[]):=by rw [<-hA];rfl
 have HSl:Hd (∀j:Nat,j<S[ix].ts.length->(Sw j).length=L):=fun j hj=>by
  have hge:(S[ix].ts.getD j ([],false)).1=S[ix].ts[j].1:=by rw [rT,lZ hj];rfl
  have hl:S[ix].ts[j].1.length=S[ix].sh.x+S[ix].sh.y+(S[ix].sh.x+S[ix].sh.y+S[ix].sh.z):=hlen j hj;have hp0:(Zw S[ix].sh S[ix].ts[j].1).length=L:=by rw [Zw,sN];omega
  have hp1:(yF S[ix].sh S[ix].ts[j].1).length=L:=by rw [yF,List.length_zipWith,YZ _ _ hl,hp0];omega
  have hz1:1<=S[ix].sh.z:=by
   have h:=Sh.le (Yc (show yb S[ix].kd S[ix].m S[ix].k S[ix].n=true by rw [hkd,hm,hk,hn];exact hcls)).2;show 1<=(zB S[ix].kd S[ix].m S[ix].k S[ix].n).z
   omega
  rw [<-hSw,ZN,hge,YW hl hz1,Y6 hl hz1];split
  ·exact hp0
  ·exact hp1
 rw [hA];rw [hSw] at HTr;obtain⟨len,hl⟩:∃len,S.length=len:=⟨_,rfl⟩
 obtain⟨tn,htn⟩:∃tn,S[ix].ts.length=tn:=⟨_,rfl⟩
 obtain⟨E,hE⟩:∃E,S[ix].each=E:=⟨_,rfl⟩
 rw [hl] at c0 hix hcap;rw [htn] at s4 HTr HIn _hmost HSl;rw [hE] at HTr;have hk0:(0:Int)<=(ix:Int):=by omega
 have hk1:(ix:Int)<len:=by omega
 have hcc1:¬(c:Int)<1:=by omega
 have hcc2:¬40<(c:Int):=by omega
 have hppn:¬1<pp:=by rcases hpp with rfl|rfl<;>omega
 obtain⟨fc,hfcn⟩:∃fc,f+c=fc:=⟨_,rfl⟩
 have hwfc:IntKind.i64.wrap ((f:Int)+(c:Int))=(fc:Int):=by rw [rP];omega
 have HFC:=hid hfcn;have hfcb:fc<=2147483700:=by omega
 clear h1 h2 h3 h4 h5 h6 q1 q2 q3 hfx hlen hin hA hSw hl htn hE hL hfc hkd hm hk hn hS hls hfcn hcls hpp;unfold zr at *;unfold zN;go_enter func178,ntmps178;go_wp2_with fail
 have hres0:=zf2 w kk s i kd m k n f c pp;have hreq0:=zf4 w kk s i kd m k n f c pp;have hXW:=zf3 w kk s i kd m k n f c pp;generalize lP (lP w _) _=W at hres0 hreq0 hXW ⊢;refine(HFi.o W hXW).mono ?_;rintro e w1 ⟨rfl,hx1⟩;have HX1:Hd (Ext w w1):=hXW.trans hx1;have HRS:Hd _:=hx1.block hres0;have HRQ:Hd _:=hx1.block hreq0;clear hx1 hXW hres0 hreq0;have r7:w1.cell? ⟨w.heap.size,7,none⟩=some (.int .i64 (f:Int)):=zc HRQ.o rfl;have r8:w1.cell? ⟨w.heap.size,8,none⟩=some (.int .i64 (c:Int)):=zc HRQ.o rfl;have r9:w1.cell? ⟨w.heap.size,9,none⟩=some (.int .i64 pp):=zc HRQ.o rfl;have hrl1:w.heap.size+1<w1.heap.size:=(Array.getElem?_eq_some_iff.1 HRS.o).1;have hrl:=lG w1 _ r7;go_wp2_with fail
 have HB0:Hd ((w1.alloc (.cells #[.int .i64 0,.int .i64 f,.int .i64 c,.slice none 0 0] 33)).heap[w1.heap.size]?=some (.cells #[.int .i64 0,.int .i64 f,.int .i64 c,.slice none 0 0] 33 (0,0))/\Ext w1 (w1.alloc (.cells #[.int .i64 0,.int .i64 f,.int .i64 c,.slice none 0 0] 33))/\(w1.alloc (.cells #[.int .i64 0,.int .i64 f,.int .i64 c,.slice none 0 0] 33)).heap.size=w1.heap.size+1):=⟨heap_alloc_new _ _,(lI _).alloc _,by simp⟩
 generalize hV:lP w1 _=V at HB0 ⊢;clear hV
 go_loopw [7,8,9] (fun at_ _ _ wr=>∃(j fj:Nat) (v:Value),j<=c/\f+j=fj/\at_=.int .i64 (fj:Int)/\(∀a:Nat,a<j->ls.any (Zx s kd m k n ((f+a:Nat):Int))=true)/\wr.heap[w.heap.size]?=some (.cells #[.int .i64 kk,.int .i64 s,.int .i64 i,.int .i64 kd,.int .i64 m,.int .i64 k,.int .i64 n,.int .i64 f,.int .i64 c,.int .i64 pp] 51 (0,0))/\wr.heap[w.heap.size+1]?=some (.cells #[.int .i64 0,.int .i64 0,.int .i64 0,.slice none 0 0] 33 (0,0))/\wr.heap[w1.heap.size]?=some (.cells #[.int .i64 0,.int .i64 f,.int .i64 c,v] 33 (0,0))/\wr.ownsRow (w1.heap.size+1) 146 1 v (j*L) ((A j).map (Value.int .u64))/\Ext w wr/\w1.heap.size+1<=wr.heap.size) (fun i _ _ _=>fc - (intOf i).toNat)
 case atStart=>exact⟨0,f,_,lT _,rfl,rfl,fun a ha=>absurd ha (Nat.not_lt_zero _),HB0.o.2.1.block HRQ.o,HB0.o.2.1.block HRS.o,HB0.o.1,by rw [HA0.o,Nat.zero_mul];exact rB _ _ _ _,HX1.o.trans HB0.o.2.1,Nat.le_of_eq HB0.o.2.2.symm⟩
 case round=>
  obtain⟨j,fj,v,hj,hfj,rfl,hall,b0,b1,b2,ho,hx,hsz⟩:=hrel;clear r7 r8 r9;have HO:=hid ho;have HX:=hid hx;have HB:Hd _:=And.intro b0 (And.intro b1 b2);have HAll:Hd _:=hall;have HFJ:=hid hfj;have r7:wr.cell? ⟨w.heap.size,7,none⟩=some (.int .i64 (f:Int)):=zc b0 rfl;have r8:wr.cell? ⟨w.heap.size,8,none⟩=some (.int .i64 (c:Int)):=zc b0 rfl;have r1:wr.cell? ⟨w.heap.size,1,none⟩=some (.int .i64 s):=zc b0 rfl;have r3:wr.cell? ⟨w.heap.size,3,none⟩=some (.int .i64 kd):=zc b0 rfl;have r4:wr.cell? ⟨w.heap.size,4,none⟩=some (.int .i64 m):=zc b0 rfl;have r5:wr.cell? ⟨w.heap.size,5,none⟩=some (.int .i64 k):=zc b0 rfl;have r6:wr.cell? ⟨w.heap.size,6,none⟩=some (.int .i64 n):=zc b0 rfl;have hjfc:=HFC.o;by_cases hlt:j<c
  ·have hltf:(fj:Int)<(fc:Int):=by omega
   have hfjb:fj<=2147483700:=by omega
   clear b0 b1 b2 ho hx hall hfj hjfc;go_wp2_with fail
   refine(HH.o _ _ HX.o).mono ?_;rintro e w2 ⟨rfl,hx2⟩;cases hb:ls.any (Zx s kd m k n (fj:Int)) with
   | false=>
    have HRS2:Hd _:=hx2.block HB.o.2.1;have HX2:Hd (Ext w w2):=HX.o.trans hx2;have HEx:Hd (∃j:Nat,j<c/\ls.any (Zx s kd m k n ((f+j:Nat):Int))=false):=⟨j,hlt,by rw [HFJ.o];exact hb⟩
    clear hx2 hb;go_wp2_with fail
    refine(HCo.o _).mono ?_;rintro e w9 ⟨rfl,hx9⟩;have hr9:=hx9.block HRS2.o;have o0:=zc hr9 (i:=0) rfl;have o1:=zc hr9 (i:=1) rfl;have o2:=zc hr9 (i:=2) rfl;have o3:=zc hr9 (i:=3) rfl;have f0:=ze hr9 0;have f1:=ze hr9 1;have f2:=ze hr9 2;have f3:=ze hr9 3;have HX9:Hd (Ext w w9):=HX2.o.trans hx9;clear hr9 hx9;go_wp2;refine bodyPost_ret (v:=.agg #[.int .i64 8,.int .i64 0,.int .i64 0,.slice none 0 0]) (by simp [results,results178,go_sem,o0,o1,o2,o3]) rfl (.inl ⟨HEx.o,rfl,?_⟩);exact Z9 HX9.o (by omega) _ _ _ _
   | true=>
    have hfjt:fj<tn:=HIn.o fj hb;obtain⟨tg,b,bcap,rfl,htg,t1,hsh⟩:=HTr.o fj hfjt;have HSh:=hid hsh;have HHb:=hid hb;have HXp:Hd (Ext w w2):=HX.o.trans hx2;have HX22:=hid hx2;have SF:Hd (∀w',Ext w2 w'->(w'.cell? ⟨p,0,none⟩=some (.slice (some ⟨g,0,none⟩) len cap)/\w'.cell? ⟨g,ix*7+4,none⟩=some (.slice (some ⟨tg,0,none⟩) tn tcap)/\w'.cell? ⟨tg,fj,none⟩=some (.slice (some ⟨b,0,none⟩) E bcap)/\w'.cell? ⟨w.heap.size,3,none⟩=some (.int .i64 kd)/\w'.cell? ⟨w.heap.size,4,none⟩=some (.int .i64 m)/\w'.cell? ⟨w.heap.size,5,none⟩=some (.int .i64 k)/\w'.cell? ⟨w.heap.size,6,none⟩=some (.int .i64 n)/\w'.cell? ⟨w.heap.size,9,none⟩=some (.int .i64 pp))):=fun w' hx=>by have hq:=HXp.o.trans hx;have hb0:=(HX22.o.trans hx).block HB.o.1;exact⟨hq.cell c0,hq.cell s4,hq.cell t1,zc hb0 rfl,zc hb0 rfl,zc hb0 rfl,zc hb0 rfl,zc hb0 rfl⟩
    have hS0:=SF.o w2 (lI _);have hj0:(0:Int)<=(fj:Int):=by omega
    have hj1:(fj:Int)<(tn:Int):=by omega
    clear hb hx2 hsh r1 r3 r4 r5 r6 r7 r8 c0 s4 t1;go_wp2_with fail
    go_region_held3 (fun w'=>w'.cell? ⟨p,0,none⟩=some (.slice (some ⟨g,0,none⟩) len cap)/\w'.cell? ⟨g,ix*7+4,none⟩=some (.slice (some ⟨tg,0,none⟩) tn tcap)/\w'.cell? ⟨tg,fj,none⟩=some (.slice (some ⟨b,0,none⟩) E bcap)/\w'.cell? ⟨w.heap.size,3,none⟩=some (.int .i64 kd)/\w'.cell? ⟨w.heap.size,4,none⟩=some (.int .i64 m)/\w'.cell? ⟨w.heap.size,5,none⟩=some (.int .i64 k)/\w'.cell? ⟨w.heap.size,6,none⟩=some (.int .i64 n)/\w'.cell? ⟨w.heap.size,9,none⟩=some (.int .i64 pp))
     (first|exact hS0|exact SF.o _ (lJ (lI _))|exact SF.o _ hx3')
     (first
       | (go_at_call 189
          refine(HSh.o _ (lJ HXp.o)).mono ?_;rintro e w3 ⟨sg,scp,rfl,hown3,hx3⟩;have hx3':=(lJ (lI w2)).trans hx3))
    have hjl:∃jl,j*L=jl:=⟨_,rfl⟩
    obtain⟨jl,hjl⟩:=hjl;have hjlb:jl<=1080:=by rw [<-hjl];exact rH (rN (Nat.le_of_lt (Nat.lt_of_lt_of_le hlt hc40)) hL2) (by omega)
    have HJL:=hid hjl;have HX3:Hd (Ext wr w3):=HX22.o.trans hx3';have HO3:Hd (w3.ownsRow (w1.heap.size+1) 146 1 v jl ((A j).map (Value.int .u64))):=by rw [<-hjl];exact HX3.o.owns HO.o
    have HSO:=hid hown3;have HSL:Hd ((Sw fj).length=L):=HSl.o fj hfjt;have b2:=HX3.o.block HB.o.2.2;have d3:w3.cell? ⟨w1.heap.size,3,none⟩=some v:=zc b2 rfl;have hw3l:=HX3.o.le;clear hown3 hx3 hx3' hjl hS0;go_wp2_with (at_builtin;refine wpList_append_lies _ rfl _ _ 31 rfl (w1.heap.size+1) 146 i0 (.int .u64 0) 1 8 underlying31 hi hq0 hq1 hq2 rfl (by decide) v jl ((A j).map (Value.int .u64)) rfl HO3.o ⟨sg,0,none⟩ L scp ((Sw fj).map (Value.int .u64)) rfl ?c1 ?c2 (ZJ _) ?c3 ?c4 ?c5 ?c6 _ rfl ?_)
    case c1=>rw [rU,HSL.o];omega
    case c2=>exact WordsAt.cells (ZK HSO.o)
    case c3=>omega
    case c4=>unfold maxLen;omega
    case c5=>omega
    case c6=>omega
    intro gv cv w4 hown4 hgrow4 hat4 hlt4;have HT4:Hd (Turn (fun q=>v.ownBlock=some q) w3 w4):=rJ (rD _ _) hgrow4 (fun q hq _=>hq);have HNB:Hd (∀q,v.ownBlock=some q->w1.heap.size+1<=q):=fun q hq=>(lR.lt HO3.o q hq).1
    have HO4:Hd _:=hown4;have b2':=HT4.o.ref b2 (fun e=>by have:=HNB.o _ e;omega);have e3:w4.cell? ⟨w1.heap.size,3,none⟩=some v:=zc b2' rfl;have f3:=ze b2' 3;have HB2:Hd _:=b2';have hw4l:=HT4.o.size;clear hown4 hgrow4 hat4 b2 b2' d3;go_wp2
    go_roundw
    case rel=>
     have hne:∀q,q<w1.heap.size+1->¬v.ownBlock=some q:=fun q hq e=>by have:=HNB.o _ e;omega
     have hT:Turn (fun q=>q=w1.heap.size\/v.ownBlock=some q) wr (w4.setCell ⟨w1.heap.size,3,none⟩ (.slice (some ⟨gv,0,none⟩) (jl+L) cv)):=Turn.setCell ((lM HX3.o).trans' HT4.o (fun q _ hq=>.inr hq)) (fun _=>.inl rfl) _;refine⟨j+1,fj+1,.slice (some ⟨gv,0,none⟩) (jl+L) cv,by omega,by have:=HFJ.o;omega,by go_num,fun a ha=>?_,hT.ref HB.o.1 (fun e=>e.elim (fun e=>by omega) (fun e=>hne _ (by omega) e)),hT.ref HB.o.2.1 (fun e=>e.elim (fun e=>by omega) (fun e=>hne _ (by omega) e)),zg HB2.o _,?_,?_,?_⟩
     ·by_cases haj:a<j
      ·exact HAll.o a haj
      ·obtain rfl:a=j:=by omega
       rw [HFJ.o];exact HHb.o
     ·rw [HAs.o,HFJ.o,rY,show (j+1)*L=jl+L by rw [rO,Nat.one_mul,HJL.o]];exact zi HO4.o (fun e=>by have:=(lR.lt HO4.o _ e).1;simp only at this;omega) _
     ·exact Turn.ext ((lM (S:=fun _=>False) HX.o).trans' hT (fun q hq e=>e.elim (fun e=>by omega) (fun e=>hne _ (by omega) e)))
     ·exact rH hsz hT.size
    case measure=>simp [intOf];omega
  ·obtain rfl:j=c:=by omega
   have hltf:¬(fj:Int)<(fc:Int):=by omega
   have o0:=zc b1 (i:=0) rfl;have o1:=zc b1 (i:=1) rfl;have o2:=zc b1 (i:=2) rfl;have o3:=zc b1 (i:=3) rfl;have f0:=ze b1 0;have f1:=ze b1 1;have f2:=ze b1 2;have f3:=ze b1 3;have d0:=zc b2 (i:=0) rfl;have d1:=zc b2 (i:=1) rfl;have d2:=zc b2 (i:=2) rfl;have d3:=zc b2 (i:=3) rfl;have HNE:Hd (v.ownBlock≠some (w.heap.size+1)):=fun e=>by have:=(lR.lt HO.o _ e).1;omega
   clear b0 b1 b2 ho hx hall hfj hjfc HB;obtain⟨va,vcap,rfl⟩:=zo HO.o;obtain⟨jl,hjl⟩:∃jl,j*L=jl:=⟨_,rfl⟩
   rw [hjl] at HO HNE d3;have HJL:=hid hjl;clear hjl;go_wp2;refine bodyPost_ret (v:=.agg #[.int .i64 0,.int .i64 f,.int .i64 j,.slice va jl vcap]) (by simp [results,results178,go_sem,o0,o1,o2,o3]) rfl (.inr ⟨by simpa using HAll.o,.slice va jl vcap,rfl,?_,?_⟩)
   ·refine zi (a:=⟨w.heap.size+1,3,none⟩) ?_ HNE.o _;refine zi (a:=⟨w.heap.size+1,2,none⟩) ?_ HNE.o _;refine zi (a:=⟨w.heap.size+1,1,none⟩) ?_ HNE.o _;refine zi (a:=⟨w.heap.size+1,0,none⟩) ?_ HNE.o _;rw [HJL.o];exact zv HO.o (show w.heap.size<=w1.heap.size+1 by omega)
   ·exact Z9 HX.o (by omega) _ _ _ _
end
section
theorem Q0 (p:Nat)(kd m k n:Int)(hcls:yb kd m k n=false)(a:Option Addr)(len cap:Nat)(w:World) :
  Calls Tryz.prog 102 #[.pointer (some ⟨p,0,none⟩),zJ kd m k n,.slice a len cap] w fun e w'=>e=.returned (.tuple #[.pointer none,.int .i64 2])/\Ext w w':=by
 have HI:Hd (∀w,Calls Tryz.prog 145 #[zJ kd m k n] w fun e w'=>e=.returned (.bool false)/\Ext w w'):=fun w=>by have:=Yu kd m k n w;rw [hcls] at this;exact this
 unfold zJ at *;clear hcls;go_enter func102,ntmps102;go_wp2_with fail
 refine(HI.o _).mono ?_;rintro e w1 ⟨rfl,hx1⟩;have HX1:Hd (Ext w w1):=((lI w).alloc _).trans hx1;clear hx1;go_wp2;go_ret2;exact⟨rfl,HX1.o⟩
theorem Qo (p:Nat)(kd m k n:Nat)(hcls:yb kd m k n=true)(a:Option Addr)(len cap E:Nat)(hE:E=(zB kd m k n).x+(zB kd m k n).y+((zB kd m k n).x+(zB kd m k n).y+(zB kd m k n).z))(hlen:len<=1000000000000000)(hno:len % E≠0\/len / E<1\/12<len / E)(w:World) :
  Calls Tryz.prog 102 #[.pointer (some ⟨p,0,none⟩),zJ kd m k n,.slice a len cap] w fun e w'=>e=.returned (.tuple #[.pointer none,.int .i64 3])/\Ext w w':=by
 obtain⟨hc,hs⟩:=Yc hcls;have hle:=Sh.le hs;have HI:Hd (∀w,Calls Tryz.prog 145 #[zJ kd m k n] w fun e w'=>e=.returned (.bool true)/\Ext w w'):=fun w=>by have:=Yu kd m k n w;rw [hcls] at this;exact this
 have HDr:Hd _:=Qe hc hs;rw [<-hE] at HDr;have hE1:1<=E/\E<=45:=by omega
 unfold zJ at *;clear hcls hc hs hE hle;have hdiv:Int.tdiv (len:Int) (E:Int)=((len / E:Nat):Int):=by rw [Int.tdiv_eq_ediv_of_nonneg (by omega)];rfl
 have hne:¬((E:Int)=0):=by omega
 have hdm:E*(len / E)+len % E=len:=Nat.div_add_mod len E;have hdl:len / E<=len:=Nat.div_le_self _ _;have hml:len / E*E<=len:=Nat.div_mul_le_self len E;have HNo:Hd _:=hno;generalize len / E=qd at *;generalize len % E=qm at *;have hwd:IntKind.i64.wrap (qd:Int)=(qd:Int):=by rw [rP];omega
 obtain⟨qe,hqe⟩:∃qe,qd*E=qe:=⟨_,rfl⟩
 have hwm:IntKind.i64.wrap ((qd:Int)*(E:Int))=(qe:Int):=by rw [<-rQ,hqe,rP];omega
 have HQ:Hd (qe+qm=len):=by
  show qe+qm=len
  rw [Nat.mul_comm E qd,hqe] at hdm;exact hdm
 clear hno hdm hml hqe;go_enter func102,ntmps102;go_wp2_with fail
 refine(HI.o _).mono ?_;rintro e w1 ⟨rfl,hx1⟩;obtain⟨d0,d1,d2,d3⟩:=ZQ hx1;have HX1:Hd (Ext w w1):=((lI w).alloc _).trans hx1;clear hx1;go_wp2_with fail
 refine(HDr.o _).mono ?_;rintro e w2 ⟨rfl,hx2⟩;have HX2:Hd (Ext w w2):=HX1.o.trans hx2;clear hx2 HX1 d0 d1 d2 d3;go_wp2_with fail
 all_goals first
  | (go_ret2;exact⟨rfl,HX2.o⟩)
  | (exfalso;have:=HNo.o;have:=HQ.o;omega)
theorem QN {G:Nat->Prop}(p:Nat)(S:List Stk)(ls:List LsV)(kd m k n:Nat)(hcls:yb kd m k n=true)(a:Option Addr)(len cap E cnt:Nat)(hE:E=(zB kd m k n).x+(zB kd m k n).y+((zB kd m k n).x+(zB kd m k n).y+(zB kd m k n).z))(hlen:len=cnt*E)(hc1:1<=cnt)(hc12:cnt<=12)(hS:S.length<=100)(hSm:∀x∈S,x.ts.length<=1000)(hcd:zY S kd m k n cnt≠0)(w:World)(h:RefAt w G p S ls) :
  Calls Tryz.prog 102 #[.pointer (some ⟨p,0,none⟩),zJ kd m k n,.slice a len cap] w fun e w'=>e=.returned (.tuple #[.pointer none,.int .i64 4])/\Ext w w':=by
 obtain⟨hc,hs⟩:=Yc hcls;have hle:=Sh.le hs;have HI:Hd (∀w,Calls Tryz.prog 145 #[zJ kd m k n] w fun e w'=>e=.returned (.bool true)/\Ext w w'):=fun w=>by have:=Yu kd m k n w;rw [hcls] at this;exact this
 have HDr:Hd _:=Qe hc hs;rw [<-hE] at HDr;have hE1:1<=E/\E<=45:=by omega
 have HFi:Hd (∀w',Ext w w'->Calls Tryz.prog 147 #[.pointer (some ⟨p,0,none⟩),zJ kd m k n] w' fun e w''=>e=.returned (.int .i64 (match S.findIdx? (fun x=>x.is kd m k n) with|some i=>(i:Int)|none=>-1))/\Ext w' w''):=fun w' hx=>yB p S ls kd m k n hS w' (h.ext hx)
 have hlenb:len<=540:=by rw [hlen];exact rH (rN hc12 hE1.2) (by omega)
 have hdiv:Int.tdiv (len:Int) (E:Int)=(cnt:Int):=by rw [hlen,rQ,Int.mul_tdiv_cancel _ (by omega)]
 have hwm:IntKind.i64.wrap ((cnt:Int)*(E:Int))=(len:Int):=by rw [<-rQ,<-hlen];exact zt (by omega)
 have hne:¬((E:Int)=0):=by omega
 have hn1:¬(cnt:Int)<1:=by omega
 have hn2:¬12<(cnt:Int):=by omega
 obtain⟨stv,lsv,css0,h1,h2,h3,h4,h5,h6⟩:=h;have c0:w.cell? ⟨p,0,none⟩=some stv:=zc h1 rfl;have hp:p<w.heap.size:=lG w _ c0;cases hfx:S.findIdx? (fun x=>x.is kd m k n) with
 | none=>
  rw [hfx] at HFi;have h6:6<=S.length:=by
   unfold zY at hcd;rw [z9 hfx] at hcd;simp only at hcd;split at hcd
   ·rename_i hor;omega
   ·simp at hcd
  obtain⟨sa,scap,rfl⟩:=h3.slice;obtain⟨ln,hln⟩:∃ln,S.length=ln:=⟨_,rfl⟩
  rw [hln] at c0 h6;have h6':(6:Int)<=(ln:Int):=by omega
  unfold zJ at *;clear hcls hc hs hE hle h1 h2 h3 h4 h5 hlen hcd hfx hSm hS hln;go_enter func102,ntmps102;go_wp2_with fail
  refine(HI.o _).mono ?_;rintro e w1 ⟨rfl,hx1⟩;obtain⟨d0,d1,d2,d3⟩:=ZQ hx1;have HX1:Hd (Ext w w1):=((lI w).alloc _).trans hx1;clear hx1;go_wp2_with fail
  refine(HDr.o _).mono ?_;rintro e w2 ⟨rfl,hx2⟩;have HX2:Hd (Ext w w2):=HX1.o.trans hx2;have d0:=hx2.cell d0;have d1:=hx2.cell d1;have d2:=hx2.cell d2;have d3:=hx2.cell d3;clear hx2 HX1;go_wp2_with fail
  refine(HFi.o _ HX2.o).mono ?_;rintro e w3 ⟨rfl,hx3⟩;have HX3:Hd (Ext w w3):=HX2.o.trans hx3;have c0:=HX3.o.cell c0;clear hx3 HX2 d0 d1 d2 d3;go_wp2;go_ret2;exact⟨rfl,HX3.o⟩
 | some ix=>
  rw [hfx] at HFi;obtain⟨hix,hfi⟩:=zU hfx;have hbig:200<S[ix].ts.length+cnt:=by
   unfold zY at hcd;rw [hfi] at hcd;simp only at hcd;split at hcd
   ·assumption
   ·simp at hcd
  have htm:=hSm _ (lV hix);obtain⟨g,cap1,ta,tcap,vs,rfl,hcap1,_,⟨_,_,_,_,s4,_,_⟩,_,_,_⟩:=Yw h3 h4 h5 ix hix;have hgl:=lG w _ s4;obtain⟨ln,hln⟩:∃ln,S.length=ln:=⟨_,rfl⟩
  obtain⟨tn,htn⟩:∃tn,S[ix].ts.length=tn:=⟨_,rfl⟩
  rw [hln] at c0 hix hcap1;rw [htn] at s4 hbig htm;have hk0:(0:Int)<=(ix:Int):=by omega
  have hk1:(ix:Int)<ln:=by omega
  have hbg:(200:Int)<(tn:Int)+(cnt:Int):=by omega
  have hwb:IntKind.i64.wrap ((tn:Int)+(cnt:Int))=(tn:Int)+(cnt:Int):=by rw [rP];omega
  unfold zJ at *;clear hcls hc hs hE hle h1 h2 h3 h4 h5 h6 hlen hcd hfx hSm hS hln htn hfi;go_enter func102,ntmps102;go_wp2_with fail
  refine(HI.o _).mono ?_;rintro e w1 ⟨rfl,hx1⟩;obtain⟨d0,d1,d2,d3⟩:=ZQ hx1;have HX1:Hd (Ext w w1):=((lI w).alloc _).trans hx1;clear hx1;go_wp2_with fail
  refine(HDr.o _).mono ?_;rintro e w2 ⟨rfl,hx2⟩;have HX2:Hd (Ext w w2):=HX1.o.trans hx2;have d0:=hx2.cell d0;have d1:=hx2.cell d1;have d2:=hx2.cell d2;have d3:=hx2.cell d3;clear hx2 HX1;go_wp2_with fail
  refine(HFi.o _ HX2.o).mono ?_;rintro e w3 ⟨rfl,hx3⟩;have HX3:Hd (Ext w w3):=HX2.o.trans hx3;have c0:=HX3.o.cell c0;have s4:=HX3.o.cell s4;clear hx3 HX2 d0 d1 d2 d3;go_wp2;go_ret2;exact⟨rfl,HX3.o⟩
end
end Go.Proofs.YtmnjhhachdlmkaaGreat
