import Derived.Test.YtmnjhhachdlmkaaGreatK03
import Derived.Test.YtmnjhhachdlmkaaGreatK02
import Derived.Test.YtmnjhhachdlmkaaGreatK01
namespace Go.Proofs.YtmnjhhachdlmkaaGreat
set_option linter.all false
set_option maxRecDepth 100000
set_option maxHeartbeats 8000000
open Tryz
open List renaming take_succ_eq_append_getElem -> rV, append_assoc -> sI, getElem_mem -> lV, take_of_length_le -> rM, getD_eq_getElem?_getD -> rT, getElem?_eq_getElem -> lZ, length_append -> lW, append_nil -> rL
open Ext renaming refl -> lI, grown -> rG, alloc -> lK, block -> rW, drew -> lJ, chain -> lY
open Turn renaming of_ext -> lM
open Nat renaming zero_le -> lT, le_refl -> lO
open World renaming ownsRow -> lR, alloc -> lP
open World renaming block_lt_of_cell? -> lG
section
open Go.RowKit Go.Maps Go.ChangeMaps Go.MapKept
section
variable {B:Nat}{F:Nat->Prop}{sv lv dv:Value}{R:List StkR}{ls:List LsV}{ops:List OpV}{fl:Bool}{ah:Int}{kn:Bool}
def jO (w w'':World)(B:Nat)(F:Nat->Prop)(sv lv dv:Value)(ls:List LsV)(ops:List OpV)(fl:Bool)(ah:Int)(kn:Bool)(P:List StkR->Nat->Prop)(R1:List StkR)(sv1:Value)(ix:Nat)(F1:Nat->Prop)(hix:ix<R1.length):Prop:=
 StoreOf w'' B F1 sv1 lv dv R1 ls ops fl ah kn/\P R1 ix/\Turn (fun b=>b=B\/sv.ownBlock=some b) w w''/\(∀b,F b->F1 b)/\(∀b,F1 b->F b\/w.heap.size<=b)/\R1[ix].ts.length<=1000
theorem YX (x:StkR)(us:List (List Int×Bool))(j:Nat)(hj:j<us.length):{ x.more (us.take j) with ts:=(x.more (us.take j)).ts++[us[j]] }=x.more (us.take (j+1)):=by unfold StkR.more;rw [rV hj,<-sI]
theorem J9 (x:StkR):x.more []=x:=by cases x;simp [StkR.more]
theorem yP {R:List StkR}{i:Nat}(h:i<R.length)(x:StkR):x∈R.set i x:=by rw [List.mem_iff_getElem];exact⟨i,by simpa using h,by simp⟩
theorem VZ {R:List StkR}{i:Nat}{x y:StkR}:(R.set i x).set i y=R.set i y:=by simp
theorem vI (kd m k n:Nat)(s:Sh)(hsx:1<=s.x+s.y+s.z/\s.x+s.y+s.z<=27)(gt tcap:Nat)(us:List (List Int×Bool))(t:Nat)(hus:us.length=t)(ht2:t<=1000)(P:List StkR->Nat->Prop)(hP:∀R1 ix,P R1 ix->∀h:ix<R1.length,R1[ix].sh=s)(w:World)(hB0:B<w.heap.size)
  (hsf:∀w',Ext w w'->Calls Tryz.prog 208 #[.pointer (some ⟨B,0,none⟩),zJ kd m k n] w' fun e w''=>∃R1 sv1 ix F1,∃hix:ix<R1.length,e=.returned (.pointer (some ⟨R1[ix].blk,0,none⟩))/\jO w' w'' B F sv lv dv ls ops fl ah kn P R1 sv1 ix F1 hix)
  (htr:TriRow w F gt s us) (hgt:gt≠B/\sv.ownBlock≠some gt) (hsvw:∀q,sv.ownBlock=some q->∃cur,w.heap[q]?=some (.cells cur 151 (0,0))) (hBt:∃s1 l1 d1 f1 a1 k1,DealAt w B s1 l1 d1 f1 a1 k1) :
  Calls Tryz.prog 207 #[.agg #[.int .i64 kd,.int .i64 m,.int .i64 k,.int .i64 n,.slice (some ⟨gt,0,none⟩) t tcap],.pointer (some ⟨B,0,none⟩)] w fun e w'=>∃R1 sv1 ix F1,∃hix:ix<R1.length,e=.returned (.tuple #[])/\
   StoreOf w' B F1 sv1 lv dv (R1.set ix (R1[ix].more us)) ls ops fl ah kn/\P R1 ix/\(∀b,F b->F1 b)/\(∀b,F1 b->F b\/w.heap.size<=b)/\Turn (fun b=>b=B\/sv.ownBlock=some b\/F1 b) w w':=by
 have HTR:=hid htr;have HSF:=hid hsf;have HU:=hid hus;have HP:Hd _:=hP;have HSV:Hd _:=And.intro hgt (And.intro hsvw hBt);unfold zJ at HSF;clear htr hsf hus hP hgt hsvw hBt;generalize hL:s.x+s.y+s.z=L at *;have HL:=hid hL;clear hL;go_enter func207,ntmps207;go_wp2_with fail
 refine(HSF.o _ ((lI w).alloc _)).mono ?_;rintro e w1 ⟨R1,sv1,ix,F1,hix,rfl,hS1,hP1,ht1,hf1,hf2,hlen1⟩;have m4:w1.cell? ⟨w.heap.size,4,none⟩=some (.slice (some ⟨gt,0,none⟩) t tcap):=ht1.cell (Z5 (lI _) 4 rfl) (by
  rintro (e|e)
  ·have:w.heap.size=B:=e;omega
  ·obtain⟨cur,hc⟩:=HSV.o.2.1 _ e;have:=(Array.getElem?_eq_some_iff.1 hc).1;simp at this)
 have HF12:Hd ((∀b,F b->F1 b)/\(∀b,F1 b->F b\/w.heap.size<=b)/\P R1 ix):=⟨hf1,fun b hb=>(hf2 b hb).imp id (fun h=>by simp at h;omega),hP1⟩
 have HT1:Hd (Turn (fun b=>b=B\/sv.ownBlock=some b) w w1):=(lM ((lI w).alloc _)).trans ht1;have HTR1:Hd (TriRow w1 F1 gt s us):=(HTR.o.turn HT1.o (fun hor=>by
   rcases hor with e|e
   ·exact HSV.o.1.1 e
   ·exact HSV.o.1.2 e) (fun b cur hc hor=>by
   rcases hor with e|e
   ·obtain⟨_,_,_,_,_,_,hc'⟩:=HSV.o.2.2;exact hc'.tne hc (by decide) e
   ·obtain⟨cur',hc'⟩:=HSV.o.2.1 _ e;exact zh hc hc' (by decide) rfl)).mono hf1
 have hwl:w.heap.size<w1.heap.size:=lG w1 _ m4;have hxi:=hS1.stk R1[ix] (lV hix);have hsh:R1[ix].sh=s:=HP.o R1 ix hP1 hix;have HS1:=hid hS1;have hwblk:w.heap.size≠R1[ix].blk:=fun e=>by
  have h1:w1.heap[w.heap.size]?=_:=ht1.ref (heap_alloc_new w _) (by
   rintro (e|e)
   ·have:w.heap.size=B:=e;omega
   ·obtain⟨cur,hc⟩:=HSV.o.2.1 _ e;have:=(Array.getElem?_eq_some_iff.1 hc).1;simp at this)
  exact zh h1 hxi.blk (by decide) e
 have hwmb:w.heap.size≠R1[ix].mb:=fun e=>by
  have h1:w1.heap[w.heap.size]?=_:=ht1.ref (heap_alloc_new w _) (by
   rintro (e|e)
   ·have:w.heap.size=B:=e;omega
   ·obtain⟨cur,hc⟩:=HSV.o.2.1 _ e;have:=(Array.getElem?_eq_some_iff.1 hc).1;simp at this)
  obtain⟨D,hD,_⟩:=hxi.map;exact yt h1 hD e
 have HGT:Hd (gt≠R1[ix].blk/\gt≠R1[ix].mb):=by obtain⟨cur,hc⟩:=HTR1.o.2;obtain⟨D,hD,_⟩:=hxi.map;exact⟨zh hc hxi.blk (by decide),yt hc hD⟩
 have HBM:Hd (R1[ix].blk≠R1[ix].mb):=by obtain⟨D,hD,_⟩:=hxi.map;exact yt hxi.blk hD
 have HSH:=hid hsh;have hbl1:=(Array.getElem?_eq_some_iff.1 hxi.blk).1;obtain⟨D0,hD0,_⟩:=hxi.map;have hmb1:=hD0.lt;clear hS1 hP1 ht1 hf1 hf2 hxi hsh hD0;obtain⟨X,hX⟩:∃X,R1[ix]=X:=⟨_,rfl⟩
 have HX:=hid hX;rw [hX] at hlen1 hwblk hwmb HGT HBM HSH hbl1 hmb1 ⊢;clear hX;go_wp2_with fail
 go_loopw [14] (fun i wr=>∃j:Nat,j<=t/\i=.int .i64 j/\StoreOf wr B F1 sv1 lv dv (R1.set ix (X.more (us.take j))) ls ops fl ah kn/\Turn (fun b=>b=X.blk\/b=X.mb) w1 wr) (fun i _=>t - (intOf i).toNat)
 case atStart=>
  refine⟨0,lT _,rfl,?_,Turn.refl _ _⟩;have e:R1.set ix (X.more (us.take 0))=R1:=by rw [List.take_zero,J9,<-HX.o,List.set_getElem_self]
  rw [e];exact HS1.o
 case round=>
  obtain⟨j,hj,rfl,hs,ht⟩:=hrel;have HS:=hid hs;have HT:=hid ht;have m4:=ht.cell m4 (fun hor=>by
   rcases hor with e|e
   ·exact hwblk e
   ·exact hwmb e)
  clear hs ht;by_cases hlt:j<t
  ·have hju:j<us.length:=by rw [HU.o];exact hlt
   have hTr:=HTR1.o.turn HT.o (fun hor=>by
    rcases hor with e|e
    ·exact HGT.o.1 e
    ·exact HGT.o.2 e) (fun b cur hc hor=>by
    have hxi:=HS1.o.stk R1[ix] (lV hix);rw [HX.o] at hxi;obtain⟨D,hD,_⟩:=hxi.map;rcases hor with e|e
    ·exact zh hc hxi.blk (by decide) e
    ·exact yt hc hD e)
   rcases hTr.1 j hju with⟨hk,a0,c0,a1,c1,t0,t1,hw0,hw1,ha0,ha1⟩|⟨hk,t0,t1⟩
   ·have HKB2:Hd ((us[j].1,true)=us[j]):=by show (us[j].1,true)=us[j];rw [<-hk]
    clear hk;rw [HL.o] at t0 t1;have HSa:Hd (∀W S,Turn S wr W->(∀b cur,wr.heap[b]?=some (.cells cur 146 (0,0))->¬S b)->SharesAt W F1 s us[j].1 (.agg #[.slice (some ⟨a0,0,none⟩) L c0,.slice (some ⟨a1,0,none⟩) L c1])):=fun W S hT hS=>
     SharesAt.turn' ⟨a0,c0,a1,c1,by rw [HL.o],hw0,hw1,ha0,ha1⟩ hT hS
    have hgl:=lG wr _ t0;have hxj:=HS.o.stk _ (yP hix (X.more (us.take j)));have hmax:(X.more (us.take j)).ts.length=X.ts.length+j:=by simp [StkR.more];omega
    obtain⟨D,hD,hK⟩:=hxj.map;rw [show (X.more (us.take j)).mb=X.mb from rfl] at hD;have hkb:wr.heap[X.blk]?=some (.cells #[.int .i64 X.kd,.int .i64 X.m,.int .i64 X.k,.int .i64 X.n,.int .i64 (X.ts.length+j:Nat),.int .i64 X.leased,.map (some X.mb)] 154 (0,0)):=by have h:=hxj.blk;unfold StkR.row at h;rw [hmax] at h;exact h
    have HK:Hd (Kept wr F1 s (X.more (us.take j)).ts D):=by rw [show (X.more (us.take j)).sh=s from HSH.o] at hK;exact hK
    have HD:Hd (wr.ownsMap Tryz.prog 3 zX X.mb (X.ts.length+j) D):=by rw [hmax] at hD;exact hD
    have HKB:Hd _:=hkb;have HMX:=hid hmax;clear hTr hw0 hw1 ha0 ha1 hxj hK hD hmax hkb;obtain⟨nn,hnn⟩:∃nn,X.ts.length+j=nn:=⟨_,rfl⟩
    rw [hnn] at HKB HD HMX;have HNN:=hid hnn;have hnm:nn<=2000:=by omega
    clear hnn;obtain⟨blk,hbl⟩:∃blk,X.blk=blk:=⟨_,rfl⟩
    obtain⟨mb,hmbE⟩:∃mb,X.mb=mb:=⟨_,rfl⟩
    have HBL:Hd (X.blk=blk/\X.mb=mb):=⟨hbl,hmbE⟩
    rw [hbl] at HKB HGT HBM hbl1 hwblk ⊢;rw [hmbE] at HKB HD HGT HBM hmb1 hwmb;clear hbl hmbE;go_wp2_with fail
    have hone:(Value.slice (some ⟨a1,0,none⟩) L c1).oneCell'=true:=rfl;refine(Yb (some ⟨a0,0,none⟩) L c0 _ hone _).mono ?_;rintro e w2 ⟨rfl,hx2⟩;have HX2:Hd (Ext wr w2):=((lI wr).alloc _).trans hx2;have v0:=Z5 hx2 0 rfl;have v1:=Z5 hx2 1 rfl;have hk2:=HX2.o.block HKB.o;have k4:w2.cell? ⟨blk,4,none⟩=some (.int .i64 (nn:Int)):=by rw [cell_of_row w2 _ 4 _ _ _ hk2];rfl
    have k6:w2.cell? ⟨blk,6,none⟩=some (.map (some mb)):=by rw [cell_of_row w2 _ 6 _ _ _ hk2];rfl
    have hn0:((L:Int) == 0)=false:=by simp;omega
    have hown2:(w2.drew).ownsMap Tryz.prog 3 zX mb nn D:=(Yg (S:=fun _=>False) HD.o (lM HX2.o) id).drew;obtain⟨w3,hrun,hown3,hgrow3⟩:=hown2.update (t:=152) (e:=176) Q5 underlying152 (by unfold maxLen;omega) (keyOf_int_mk underlying3 (a:=(nn:Int)) (by simp [Lit.wf,IntKind.min,IntKind.max,IntKind.signed,IntKind.bits];omega)) (val:=.agg #[.slice (some ⟨a0,0,none⟩) L c0,.slice (some ⟨a1,0,none⟩) L c1]) rfl;have HO3:Hd _:=And.intro hown3 hgrow3;have HTD:Hd (Tidy D):=hown2.tidy Q5;have hw12:=HX2.o.le;have hwrl:blk<wr.heap.size/\mb<wr.heap.size:=by have h1:=HT.o.size;omega
    have hsg:wr.heap.size≠mb:=by omega
    have HT3:Hd (Turn (fun b=>b=mb) wr w3):=Turn.grown (lM HX2.o).drew hgrow3 (fun q hq _=>by simp at hq;exact hq.symm);clear hx2 hk2 hown2 hown3 hgrow3;have hbm:=HBM.o;have far:∀p:Nat,p<wr.heap.size+1->p≠mb->w3.heap[p]?=w2.heap[p]?:=fun p hp hne=>HO3.o.2.block p (by show p<w2.heap.size;have:=lG w2 _ v0;simp at this;omega) (by simpa using hne)
    have hk3:w3.heap[blk]?=_:=(far blk (by omega) hbm).trans (HX2.o.block HKB.o);have k4':w3.cell? ⟨blk,4,none⟩=some (.int .i64 (nn:Int)):=by rw [cell_of_row w3 _ 4 _ _ _ hk3];rfl
    have k6':w3.cell? ⟨blk,6,none⟩=some (.map (some mb)):=by rw [cell_of_row w3 _ 6 _ _ _ hk3];rfl
    have v0':=(World.cell?_of_block (w:=w2) (a:=⟨wr.heap.size,0,none⟩) (far wr.heap.size (by omega) hsg)).trans v0;have v1':=(World.cell?_of_block (w:=w2) (a:=⟨wr.heap.size,1,none⟩) (far wr.heap.size (by omega) hsg)).trans v1;have f4:=ze hk3 4;have HK3:Hd _:=hk3;clear far hk3;go_wp2_with fail
    go_region_held3 (fun w'=>w'.cell? ⟨blk,4,none⟩=some (.int .i64 (nn:Int))/\w'.cell? ⟨blk,6,none⟩=some (.map (some mb))/\w'.cell? ⟨wr.heap.size,0,none⟩=some (.slice (some ⟨a0,0,none⟩) L c0)/\w'.cell? ⟨wr.heap.size,1,none⟩=some (.slice (some ⟨a1,0,none⟩) L c1))
     (first|exact⟨k4,k6,v0,v1⟩|exact⟨k4',k6',v0',v1'⟩) (fail)
    clear k4 k6 v0 v1 v0' v1' k6' hrun;go_wp2
    go_roundw
    case rel=>
     have ht4:Turn (fun b=>b=X.blk\/b=X.mb) wr (w3.setCell ⟨blk,4,none⟩ (.int .i64 ((nn:Int)+1))):=by rw [HBL.o.1,HBL.o.2];exact(HT3.o.mono (fun _ _ e=>.inr e)).setCell (p:=⟨blk,4,none⟩) (fun _=>.inl rfl) _
     have hU:∀b cur,wr.heap[b]?=some (.cells cur 146 (0,0))->¬(b=X.blk\/b=X.mb):=fun b cur hc hor=>by
      rcases hor with e|e
      ·rw [HBL.o.1] at e;exact zh hc HKB.o (by decide) e
      ·rw [HBL.o.2] at e;exact yt hc HD.o e
     have hxj:=HS.o.stk _ (yP hix (X.more (us.take j)));have hrow:(X.more (us.take (j+1))).row=#[.int .i64 X.kd,.int .i64 X.m,.int .i64 X.k,.int .i64 X.n,.int .i64 ((nn:Int)+1),.int .i64 X.leased,.map (some mb)]:=by
      have e1:(X.more (us.take (j+1))).ts.length=nn+1:=by rw [<-YX X us j hju];simp [HMX.o]
      unfold StkR.row;rw [e1];show #[Value.int .i64 X.kd,.int .i64 X.m,.int .i64 X.k,.int .i64 X.n,.int .i64 ((nn+1:Nat):Int),.int .i64 X.leased,.map (some X.mb)]=_
      rw [HBL.o.2]
      rfl
     have hx':StkAt (w3.setCell ⟨blk,4,none⟩ (.int .i64 ((nn:Int)+1))) F1 (X.more (us.take (j+1))):=by
      refine⟨?_,⟨D.put (.int .i64 (nn:Int)) (.held (.agg #[.slice (some ⟨a0,0,none⟩) L c0,.slice (some ⟨a1,0,none⟩) L c1])),?_,?_⟩,hxj.fb,hxj.fm⟩
      ·rw [hrow];show (w3.setCell _ _).heap[X.blk]?=_
       rw [HBL.o.1];exact zg HK3.o _
      ·have e1:(X.more (us.take (j+1))).ts.length=nn+1:=by
        rw [<-YX X us j hju];simp [HMX.o]
       rw [e1];show (w3.setCell _ _).ownsMap _ _ _ X.mb _ _
       rw [HBL.o.2];exact World.ownsMap.setCell HO3.o.1 (by show mb≠blk;exact fun e=>HBM.o e.symm) _
      ·have h1:=Kept.put (HK.o.turn' ht4 hU) HTD.o (HSa.o _ _ ht4 hU);rw [HMX.o] at h1;show Kept _ _ (X.more (us.take (j+1))).sh _ _
       rw [show (X.more (us.take (j+1))).sh=s from HSH.o,<-YX X us j hju];rw [show (us[j].1,true)=us[j] from HKB2.o] at h1;exact h1
     refine⟨j+1,by omega,by go_num,?_,?_⟩
     ·have h:=HS.o.setStk ix (by simpa using hix) (X.more (us.take (j+1))) (by simp [StkR.more]) (by simp [StkR.more]) (by simpa [StkR.more] using ht4) hx';rw [VZ] at h;exact h
     ·have h:=HT.o.trans ht4;rw [HBL.o.1] at h;exact h
    case measure=>simp [intOf];omega
   ·have HKB2:Hd ((us[j].1,false)=us[j]):=by show (us[j].1,false)=us[j];rw [<-hk]
    clear hk;have hgl:=lG wr _ t0;have hxj:=HS.o.stk _ (yP hix (X.more (us.take j)));have hmax:(X.more (us.take j)).ts.length=X.ts.length+j:=by simp [StkR.more];omega
    obtain⟨D,hD,hK⟩:=hxj.map;rw [show (X.more (us.take j)).mb=X.mb from rfl] at hD;have hkb:wr.heap[X.blk]?=some (.cells #[.int .i64 X.kd,.int .i64 X.m,.int .i64 X.k,.int .i64 X.n,.int .i64 (X.ts.length+j:Nat),.int .i64 X.leased,.map (some X.mb)] 154 (0,0)):=by have h:=hxj.blk;unfold StkR.row at h;rw [hmax] at h;exact h
    have HK:Hd (Kept wr F1 s (X.more (us.take j)).ts D):=by rw [show (X.more (us.take j)).sh=s from HSH.o] at hK;exact hK
    have HD:Hd (wr.ownsMap Tryz.prog 3 zX X.mb (X.ts.length+j) D):=by rw [hmax] at hD;exact hD
    have HKB:Hd _:=hkb;have HMX:=hid hmax;clear hTr hxj hK hD hmax hkb;obtain⟨nn,hnn⟩:∃nn,X.ts.length+j=nn:=⟨_,rfl⟩
    rw [hnn] at HKB HD HMX;have HNN:=hid hnn;have hnm:nn<=2000:=by omega
    clear hnn;obtain⟨blk,hbl⟩:∃blk,X.blk=blk:=⟨_,rfl⟩
    obtain⟨mb,hmbE⟩:∃mb,X.mb=mb:=⟨_,rfl⟩
    have HBL:Hd (X.blk=blk/\X.mb=mb):=⟨hbl,hmbE⟩
    rw [hbl] at HKB HGT HBM hbl1 hwblk ⊢;rw [hmbE] at HKB HD HGT HBM hmb1 hwmb;clear hbl hmbE;go_wp2_with fail
    have hone:(Value.slice none 0 0).oneCell'=true:=rfl;refine(Yb none 0 0 _ hone _).mono ?_;rintro e w2 ⟨rfl,hx2⟩;have HX2:Hd (Ext wr w2):=((lI wr).alloc _).trans hx2;have hk2:=HX2.o.block HKB.o;have k4:w2.cell? ⟨blk,4,none⟩=some (.int .i64 (nn:Int)):=by rw [cell_of_row w2 _ 4 _ _ _ hk2];rfl
    have f4:=ze hk2 4;have HK2:Hd _:=hk2;have hbl2:blk<w2.heap.size:=lG w2 _ k4;clear hx2 hk2 t0 t1;go_wp2
    go_roundw
    case rel=>
     have ht4:Turn (fun b=>b=X.blk\/b=X.mb) wr (w2.setCell ⟨blk,4,none⟩ (.int .i64 ((nn:Int)+1))):=by rw [HBL.o.1,HBL.o.2];exact(lM HX2.o).setCell (p:=⟨blk,4,none⟩) (fun _=>.inl rfl) _
     have hU:∀b cur,wr.heap[b]?=some (.cells cur 146 (0,0))->¬(b=X.blk\/b=X.mb):=fun b cur hc hor=>by
      rcases hor with e|e
      ·rw [HBL.o.1] at e;exact zh hc HKB.o (by decide) e
      ·rw [HBL.o.2] at e;exact yt hc HD.o e
     have hxj:=HS.o.stk _ (yP hix (X.more (us.take j)));have e1:(X.more (us.take (j+1))).ts.length=nn+1:=by rw [<-YX X us j hju];simp [HMX.o]
     have hrow:(X.more (us.take (j+1))).row=#[.int .i64 X.kd,.int .i64 X.m,.int .i64 X.k,.int .i64 X.n,.int .i64 ((nn:Int)+1),.int .i64 X.leased,.map (some mb)]:=by
      unfold StkR.row;rw [e1];show #[Value.int .i64 X.kd,.int .i64 X.m,.int .i64 X.k,.int .i64 X.n,.int .i64 ((nn+1:Nat):Int),.int .i64 X.leased,.map (some X.mb)]=_
      rw [HBL.o.2]
      rfl
     have hx':StkAt (w2.setCell ⟨blk,4,none⟩ (.int .i64 ((nn:Int)+1))) F1 (X.more (us.take (j+1))):=by
      refine⟨?_,⟨D,?_,?_⟩,hxj.fb,hxj.fm⟩
      ·rw [hrow];show (w2.setCell _ _).heap[X.blk]?=_
       rw [HBL.o.1];exact zg HK2.o _
      ·rw [e1];show (w2.setCell _ _).ownsMap _ _ _ X.mb _ _
       rw [HBL.o.2];exact World.ownsMap.setCell (J1 (Yg (S:=fun _=>False) HD.o (lM HX2.o) id) (Nat.le_succ _)) (by show mb≠blk;exact fun e=>HBM.o e.symm) _
      ·have h1:=Kept.skip (U:=us[j].1) (HK.o.turn' ht4 hU);show Kept _ _ (X.more (us.take (j+1))).sh _ _
       rw [show (X.more (us.take (j+1))).sh=s from HSH.o,<-YX X us j hju];rw [show (us[j].1,false)=us[j] from HKB2.o] at h1;exact h1
     refine⟨j+1,by omega,by go_num,?_,?_⟩
     ·have h:=HS.o.setStk ix (by simpa using hix) (X.more (us.take (j+1))) (by simp [StkR.more]) (by simp [StkR.more]) (by simpa [StkR.more] using ht4) hx';rw [VZ] at h;exact h
     ·have h:=HT.o.trans ht4;rw [HBL.o.1] at h;exact h
    case measure=>simp [intOf];omega
  ·obtain rfl:j=t:=by omega
   have HFin:Hd (StoreOf wr B F1 sv1 lv dv (R1.set ix (R1[ix].more us)) ls ops fl ah kn):=by have h:=HS.o;rw [rM (by rw [HU.o];exact lO _),<-HX.o] at h;exact h
   have HTf:Hd (Turn (fun b=>b=B\/sv.ownBlock=some b\/F1 b) w wr):=by
    have hxi:=HS1.o.stk R1[ix] (lV hix);rw [HX.o] at hxi;refine(HT1.o.mono (fun b _ h=>?_)).trans (HT.o.mono (fun b _ h=>?_))
    ·rcases h with h|h
     ·exact .inl h
     ·exact .inr (.inl h)
    ·rcases h with rfl|rfl
     ·exact .inr (.inr hxi.fb)
     ·exact .inr (.inr hxi.fm)
   clear HS HT;go_wp2;go_end0;exact⟨R1,sv1,ix,F1,hix,rfl,HFin.o,HF12.o.2.2,HF12.o.1,HF12.o.2.1,HTf.o⟩
end
end
section
open Go.RowKit Go.Maps
def yl (w:World)(base:Nat)(u:Value)(l:List UInt8):Prop:=w.ownsRow base 5 1 u l.length (Ze l)
theorem ui (zs:List Int)(q:Nat)(h:q<zs.length):zs.getD q 0∈zs:=by rw [rT,lZ h];exact lV h
theorem JW (base:Nat)(u:Value)(l:List UInt8)(z:Int)(h0:0<=z)(h1:z<=18446744073709551615)(w:World)(hb:base<=w.heap.size)(ho:yl w base u l)(hl:l.length<=1000000) :
  Calls Tryz.prog 86 #[u,.int .u64 z,.int .i64 8] w fun e w'=>∃v',e=.returned v'/\yl w' base v' (l++Zz z 8)/\Below base w w':=by
 refine(KX base l.length u (Ze l) z 8 (by omega) h0 h1 w ho hb (by omega)).mono ?_;rintro e w' ⟨v',rfl,ho',hbe,_⟩;refine⟨v',rfl,?_,hbe⟩;unfold yl;rw [lW,Zd,yk,<-gU z 8 (by omega)];exact ho'
def Zs (zs:List Int):List UInt8:=zs.flatMap fun z=>Zz z 8
theorem qr (zs:List Int):(Zs zs).length=zs.length*8:=by
 induction zs with
 | nil=>rfl
 | cons z t ih=>simp [Zs,Zd] at ih ⊢;omega
theorem xC (zs:List Int)(q:Nat)(h:q<zs.length):Zs (zs.take (q+1))=Zs (zs.take q)++Zz (zs.getD q 0) 8:=by
 rw [rV h,Zs,List.flatMap_append,List.flatMap_singleton,rT,lZ h]
 rfl
def X5 (s:Sh)(u:List Int×Bool):List UInt8:=if u.2=true then [1]++(Zs (sh0 s u.1)++Zs (sh1 s u.1)) else [0]
def Yq (s:Sh)(us:List (List Int×Bool)):List UInt8:=us.flatMap (X5 s)
def qy (kd m k n:Nat):List UInt8:=[0,UInt8.ofNat kd,UInt8.ofNat m,UInt8.ofNat k,UInt8.ofNat n]
def yM (kd m k n:Nat)(s:Sh)(us:List (List Int×Bool)):List UInt8:=qy kd m k n++Yq s us
theorem UO (s:Sh)(us:List (List Int×Bool))(a:Nat)(h:a<us.length):Yq s (us.take (a+1))=Yq s (us.take a)++X5 s us[a]:=by
 rw [rV h,Yq,List.flatMap_append,List.flatMap_singleton]
 rfl
theorem kX {s:Sh}{u:List Int×Bool}(hs:s.x+s.y+s.z<=27)(h:OkT s u):(X5 s u).length<=433:=by
 unfold X5;split
 ·rename_i hk
  obtain⟨h0,h1,_⟩:=h hk;simp [qr,h0,h1];omega
 ·simp
theorem Q2 {s:Sh}{us:List (List Int×Bool)}(hs:s.x+s.y+s.z<=27)(h:∀u∈us,OkT s u):(Yq s us).length<=us.length*433:=by
 induction us with
 | nil=>simp [Yq]
 | cons u t ih=>
  have h1:=kX hs (h u (by simp));have h2:=ih (fun x hx=>h x (by simp [hx]));simp [Yq] at h2 ⊢;omega
def KS (z0 z1:List Int):Nat->List UInt8
 | 0=>[]
 | 1=>Zs z0
 | _=>Zs z0++Zs z1
theorem qI (kd m k n gt tcap t:Nat)(F:Nat->Prop)(s:Sh)(hs1:1<=s.x+s.y+s.z)(hs2:s.x+s.y+s.z<=27)(us:List (List Int×Bool))(hus:us.length=t)(ht:t<=200)(hul:∀u∈us,OkT s u)(w:World)(htr:TriRow w F gt s us) :
  Calls Tryz.prog 131 #[.agg #[.int .i64 kd,.int .i64 m,.int .i64 k,.int .i64 n,.slice (some ⟨gt,0,none⟩) t tcap]] w fun e w'=>e=.returned (.string ⟨(yM kd m k n s us).toArray⟩)/\Ext w w':=by
 obtain⟨i0,hi,hq0,hq1,hq2⟩:=info_parts Q6;have HTR:=hid htr;have HUL:=hid hul;have HUS:=hid hus;have HS2:=hid hs2;clear htr hul hus;generalize hL:s.x+s.y+s.z=L at *;have HLL:=hid hL;have hL1:=hs1;have hL2:=hs2;clear hL hs1 hs2;go_enter func131,ntmps131;go_wp2_with fail
 have HR0:Hd (yl ((w.alloc (.cells #[.int .i64 kd,.int .i64 m,.int .i64 k,.int .i64 n,.slice (some ⟨gt,0,none⟩) t tcap] 174)).alloc (.cells #[.int .u8 0,.int .u8 ((kd:Int) % 256),.int .u8 ((m:Int) % 256),.int .u8 ((k:Int) % 256),.int .u8 ((n:Int) % 256)] 5)) w.heap.size (.slice (some ⟨w.heap.size+1,0,none⟩) 5 5) (qy kd m k n)):=by
  have:=World.ownsRow_lit (base:=w.heap.size) (size:=1) (e:=5) (w.alloc (.cells #[.int .i64 kd,.int .i64 m,.int .i64 k,.int .i64 n,.slice (some ⟨gt,0,none⟩) t tcap] 174)) #[.int .u8 0,.int .u8 ((kd:Int) % 256),.int .u8 ((m:Int) % 256),.int .u8 ((k:Int) % 256),.int .u8 ((n:Int) % 256)] 5 (by simp) (by unfold maxLen;omega) rfl;rw [World.size_alloc] at this;have e:∀x:Nat,((UInt8.ofNat x).toNat:Int)=(x:Int) % 256:=fun x=>by simp
  show lR _ _ _ _ _ _ _
  simpa [Ze,qy,e] using this
 have HX0:Hd (Ext w ((w.alloc (.cells #[.int .i64 kd,.int .i64 m,.int .i64 k,.int .i64 n,.slice (some ⟨gt,0,none⟩) t tcap] 174)).alloc (.cells #[.int .u8 0,.int .u8 ((kd:Int) % 256),.int .u8 ((m:Int) % 256),.int .u8 ((k:Int) % 256),.int .u8 ((n:Int) % 256)] 5))):=((lI w).alloc _).alloc _;generalize lP (lP w _) _=W at HR0 HX0 ⊢
 go_loopw [3,30] (fun u i wr=>∃a:Nat,a<=t/\i=.int .i64 a/\yl wr w.heap.size u (qy kd m k n++Yq s (us.take a))/\Ext w wr) (fun _ i _=>t - (intOf i).toNat)
 case atStart=>exact⟨0,lT _,rfl,by rw [List.take_zero,show Yq s []=[] from rfl,rL];exact HR0.o,HX0.o⟩
 case round=>
  obtain⟨a,ha,rfl,hob,hx⟩:=hrel;by_cases hat:a<t
  ·have hau:a<us.length:=by rw [HUS.o];exact hat
   have HNX:Hd (qy kd m k n++Yq s (us.take (a+1))=(qy kd m k n++Yq s (us.take a))++X5 s us[a]):=by
    show qy kd m k n++Yq s (us.take (a+1))=_
    rw [UO s us a hau,sI]
   have hPl:(qy kd m k n++Yq s (us.take a)).length<=5+a*433:=by
    have h1:=Q2 (by rw [HLL.o];exact hL2) (fun u (hu:u∈us.take a)=>HUL.o u (List.mem_of_mem_take hu));rw [List.length_take] at h1;have h2:min a us.length=a:=by omega
    rw [h2] at h1;rw [lW];show 5+_<=_
    omega
   generalize qy kd m k n++Yq s (us.take a)=P at *;have HOB:=hid hob;have HX:=hid hx;have hwx:=hx.le;have hk0:(0:Int)<=(a:Int):=by omega
   have hk1:(a:Int)<t:=by omega
   clear hob hx HR0 HX0;have hlow:=fun q hq=>(lR.lt HOB.o q hq).1
   have HLOW:Hd _:=hlow;clear hlow;rcases HTR.o.1 a hau with⟨hkp,a0,c0,a1,c1,ht0,ht1,hw0,hw1,_,_⟩|⟨hkp,ht0,ht1⟩
   ·have HTB:Hd (X5 s us[a]=[1]++(Zs (sh0 s us[a].1)++Zs (sh1 s us[a].1))):=by
     show X5 s us[a]=_
     rw [X5,if_pos hkp]
    rw [HLL.o] at ht0 ht1;have HZ:Hd ((sh0 s us[a].1).length=L/\(sh1 s us[a].1).length=L/\inU64 (sh0 s us[a].1)/\inU64 (sh1 s us[a].1)):=by have:=HUL.o us[a] (lV hau) hkp;rw [HLL.o] at this;exact this
    have HW0:=hid (hw0.1);have HW1:=hid (hw1.1);have t0:=HX.o.cell ht0;have t1:=HX.o.cell ht1;clear ht0 ht1 hw0 hw1 hkp;generalize sh0 s us[a].1=z0 at *;generalize sh1 s us[a].1=z1 at *;have hone:(Value.slice (some ⟨a1,0,none⟩) L c1).oneCell'=true:=rfl;have hix0:∀w,(Instr.index 176 (.agg #[.slice (some ⟨a0,0,none⟩) L c0,.slice (some ⟨a1,0,none⟩) L c1]) (.int .i64 0)).run Tryz.prog w=.ok (.slice (some ⟨a0,0,none⟩) L c0) w:=fun w=>by kernel_rfl
    have hix1:∀w,(Instr.index 176 (.agg #[.slice (some ⟨a0,0,none⟩) L c0,.slice (some ⟨a1,0,none⟩) L c1]) (.int .i64 1)).run Tryz.prog w=.ok (.slice (some ⟨a1,0,none⟩) L c1) w:=fun w=>by kernel_rfl
    have hL0:((L:Int) == 0)=false:=by simp;omega
    go_wp2_with fail
    refine(Yb (some ⟨a0,0,none⟩) L c0 _ hone _).mono ?_;rintro e w2 ⟨rfl,hx2⟩;have v0:=Z5 hx2 0 rfl;have v1:=Z5 hx2 1 rfl;have HX2:Hd (Ext wr w2):=((lI wr).alloc _).trans hx2;have hw2:=HX2.o.le;have hlv:=lG w2 _ v0;clear hx2;go_wp2_with (at_builtin;refine wpList_append_own _ rfl _ _ 136 rfl w.heap.size 5 i0 (.int .u8 0) 1 1 underlying136 hi hq0 hq1 hq2 rfl (by decide) _ _ _ rfl (lR.alloc (Ext.owns HX2.o HOB.o) _) ⟨_,0,none⟩ 1 1 [.int .u8 1] rfl rfl ?c1 ?c2 ?c3 ?c4 ?c5 ?_)
    case c1=>exact cell_one_new _ _ _
    case c2=>intro u hu;simp at hu;subst hu;rfl
    case c3=>unfold maxLen;omega
    case c4=>omega
    case c5=>simp;omega
    intro v3 w3 ho3 hg3 _;have HX3:Hd (Ext w w3):=rG (lK (HX.o.trans HX2.o) _) hg3 (fun q hq=>(lR.lt HOB.o q hq).1);have HO3:Hd (yl w3 w.heap.size v3 (P++[1])):=by
     show lR _ _ _ _ _ _ _
     rw [lW,yk];exact ho3
    have hne:u3.ownBlock≠some wr.heap.size:=fun e=>by have:=(lR.lt HOB.o _ e).2;omega
    have v0':w3.cell? ⟨wr.heap.size,0,none⟩=some (.slice (some ⟨a0,0,none⟩) L c0):=by rw [hg3.cell_far _ (by simp at hlv ⊢;omega) (fun e=>hne e.symm)];exact(lK (lI _) _).cell v0
    have v1':w3.cell? ⟨wr.heap.size,1,none⟩=some (.slice (some ⟨a1,0,none⟩) L c1):=by rw [hg3.cell_far _ (by simp at hlv ⊢;omega) (fun e=>hne e.symm)];exact(lK (lI _) _).cell v1
    clear ho3 hg3 v0 v1 t0 t1;go_wp2_with fail
    go_loopw [3,43] (fun u i ws=>∃j:Nat,j<=2/\i=.int .i64 j/\yl ws w.heap.size u ((P++[1])++KS z0 z1 j)/\Ext w ws) (fun _ i _=>2 - (intOf i).toNat)
    case atStart=>exact⟨0,lT _,rfl,by show yl _ _ _ ((P++[1])++[]);rw [rL];exact HO3.o,HX3.o⟩
    case round=>
     obtain⟨j,hj,rfl,hob4,hx4⟩:=hrel;have HOB4:=hid hob4;have HX4:=hid hx4;clear hob4 hx4;by_cases hlt:j<2
     ·have hj2:j=0\/j=1:=by omega
      have X4:Ext w wr:=HX4.o;rcases hj2 with rfl|rfl
      ·obtain⟨Q,hQ⟩:∃Q,(P++[1])++KS z0 z1 0=Q:=⟨_,rfl⟩
       have hQl:Q.length<=6+a*433:=by rw [<-hQ];simp [KS];omega
       have HQ:=hid hQ;rw [hQ] at HOB4;clear hQ;go_wp2_with fail
       go_loopw [3,48] (fun u i wt=>∃q:Nat,q<=L/\i=.int .i64 q/\yl wt w.heap.size u (Q++Zs (z0.take q))/\Ext w wt) (fun _ i _=>L - (intOf i).toNat)
       case atStart=>exact⟨0,lT _,rfl,by rw [List.take_zero,show Zs []=[] from rfl,rL];exact HOB4.o,X4⟩
       case round=>
        obtain⟨q,hq,rfl,hob5,hx5⟩:=hrel;have HOB5:=hid hob5;have HX5:=hid hx5;clear hob5 hx5;by_cases hlq:q<L
        ·have q0:=HX5.o.cell (HW0.o q (by rw [HZ.o.1];exact hlq));have HB:Hd (0<=z0.getD q 0/\z0.getD q 0<=18446744073709551615):=HZ.o.2.2.1 _ (ui z0 q (by rw [HZ.o.1];exact hlq));have HST:Hd (Zs (z0.take (q+1))=Zs (z0.take q)++Zz (z0.getD q 0) 8):=xC z0 q (by rw [HZ.o.1];exact hlq);have HLN:Hd ((Q++Zs (z0.take q)).length<=1000000):=by
          have h1:=qr (z0.take q);have h2:(z0.take q).length<=q:=by simp;omega
          show (Q++Zs (z0.take q)).length<=1000000
          rw [lW,h1];omega
         rw [Nat.zero_add] at q0;generalize z0.getD q 0=y0 at *;have hwl:=HX5.o.le;go_wp2_with fail
         refine(JW w.heap.size _ _ y0 HB.o.1 HB.o.2 _ hwl HOB5.o HLN.o).mono ?_;rintro e w6 ⟨v6,rfl,hob6,hbe6⟩;have HR6:Hd _:=And.intro hob6 (Below.trans HX5.o hbe6);clear hob6 hbe6;go_wp2
         go_roundw
         case rel=>exact⟨_,_,_,_,_,_,_,_,_,_,⟨q+1,by omega,by go_num,by rw [HST.o,<-sI];exact HR6.o.1,HR6.o.2⟩,rfl⟩
         case measure=>simp [intOf];omega
        ·obtain rfl:q=L:=by omega
         have HR7:Hd (yl wr w.heap.size u3 (Q++Zs z0)):=by have h:=HOB5.o;rw [rM (by rw [HZ.o.1];exact lO _)] at h;exact h
         go_wp2
         go_roundw
         case rel=>
          exact⟨1,by omega,by go_num,by have h:=HR7.o;rw [<-HQ.o,sI] at h;exact h,HX5.o⟩
         case measure=>simp [intOf]
      ·obtain⟨Q,hQ⟩:∃Q,(P++[1])++KS z0 z1 1=Q:=⟨_,rfl⟩
       have hQl:Q.length<=222+a*433:=by
        rw [<-hQ];have h1:=qr z0;rw [HZ.o.1] at h1;rw [lW,lW];show P.length+1+(Zs z0).length<=_
        omega
       have HQ:=hid hQ;rw [hQ] at HOB4;clear hQ;go_wp2_with fail
       go_loopw [3,48] (fun u i wt=>∃q:Nat,q<=L/\i=.int .i64 q/\yl wt w.heap.size u (Q++Zs (z1.take q))/\Ext w wt) (fun _ i _=>L - (intOf i).toNat)
       case atStart=>exact⟨0,lT _,rfl,by rw [List.take_zero,show Zs []=[] from rfl,rL];exact HOB4.o,X4⟩
       case round=>
        obtain⟨q,hq,rfl,hob5,hx5⟩:=hrel;have HOB5:=hid hob5;have HX5:=hid hx5;clear hob5 hx5;by_cases hlq:q<L
        ·have q0:=HX5.o.cell (HW1.o q (by rw [HZ.o.2.1];exact hlq));have HB:Hd (0<=z1.getD q 0/\z1.getD q 0<=18446744073709551615):=HZ.o.2.2.2 _ (ui z1 q (by rw [HZ.o.2.1];exact hlq));have HST:Hd (Zs (z1.take (q+1))=Zs (z1.take q)++Zz (z1.getD q 0) 8):=xC z1 q (by rw [HZ.o.2.1];exact hlq);have HLN:Hd ((Q++Zs (z1.take q)).length<=1000000):=by
          have h1:=qr (z1.take q);have h2:(z1.take q).length<=q:=by simp;omega
          show (Q++Zs (z1.take q)).length<=1000000
          rw [lW,h1];omega
         rw [Nat.zero_add] at q0;generalize z1.getD q 0=y0 at *;have hwl:=HX5.o.le;go_wp2_with fail
         refine(JW w.heap.size _ _ y0 HB.o.1 HB.o.2 _ hwl HOB5.o HLN.o).mono ?_;rintro e w6 ⟨v6,rfl,hob6,hbe6⟩;have HR6:Hd _:=And.intro hob6 (Below.trans HX5.o hbe6);clear hob6 hbe6;go_wp2
         go_roundw
         case rel=>exact⟨_,_,_,_,_,_,_,_,_,_,⟨q+1,by omega,by go_num,by rw [HST.o,<-sI];exact HR6.o.1,HR6.o.2⟩,rfl⟩
         case measure=>simp [intOf];omega
        ·obtain rfl:q=L:=by omega
         have HR7:Hd (yl wr w.heap.size u3 (Q++Zs z1)):=by have h:=HOB5.o;rw [rM (by rw [HZ.o.2.1];exact lO _)] at h;exact h
         go_wp2
         go_roundw
         case rel=>
          exact⟨2,by omega,by go_num,by have h:=HR7.o;rw [<-HQ.o,sI] at h;exact h,HX5.o⟩
         case measure=>simp [intOf]
     ·obtain rfl:j=2:=by omega
      go_wp2
      go_roundw
      case rel=>
       refine⟨a+1,by omega,by go_num,?_,HX4.o⟩;rw [HNX.o,HTB.o,<-sI];exact HOB4.o
      case measure=>simp [intOf];omega
   ·have HTB:Hd (X5 s us[a]=[0]):=by
     show X5 s us[a]=_
     rw [X5,if_neg (by rw [hkp];decide)]
    have t0:=HX.o.cell ht0;have t1:=HX.o.cell ht1;clear ht0 ht1 hkp;have hone:(Value.slice none 0 0).oneCell'=true:=rfl;go_wp2_with fail
    refine(Yb none 0 0 _ hone _).mono ?_;rintro e w2 ⟨rfl,hx2⟩;have HX2:Hd (Ext wr w2):=((lI wr).alloc _).trans hx2;have hw2:=HX2.o.le;clear hx2 t0 t1;go_wp2_with (at_builtin;refine wpList_append_own _ rfl _ _ 136 rfl w.heap.size 5 i0 (.int .u8 0) 1 1 underlying136 hi hq0 hq1 hq2 rfl (by decide) _ _ _ rfl (lR.alloc (Ext.owns HX2.o HOB.o) _) ⟨_,0,none⟩ 1 1 [.int .u8 0] rfl rfl ?c1 ?c2 ?c3 ?c4 ?c5 ?_)
    case c1=>exact cell_one_new _ _ _
    case c2=>intro u hu;simp at hu;subst hu;rfl
    case c3=>unfold maxLen;omega
    case c4=>omega
    case c5=>simp;omega
    intro v3 w3 ho3 hg3 _;have HX3:Hd (Ext w w3):=rG (lK (HX.o.trans HX2.o) _) hg3 (fun q hq=>(lR.lt HOB.o q hq).1);have HO3:Hd (yl w3 w.heap.size v3 (P++[0])):=by
     show lR _ _ _ _ _ _ _
     rw [lW,yk];exact ho3
    clear ho3 hg3;go_wp2
    go_roundw
    case rel=>
     refine⟨a+1,by omega,by go_num,?_,HX3.o⟩;rw [HNX.o,HTB.o];exact HO3.o
    case measure=>simp [intOf];omega
  ·obtain rfl:a=t:=by omega
   have HM:Hd (qy kd m k n++Yq s (us.take a)=yM kd m k n s us):=by
    show qy kd m k n++Yq s (us.take a)=_
    rw [rM (by rw [HUS.o];exact lO _),yM]
   rw [HM.o] at hob;obtain⟨MB,hMB⟩:∃MB,yM kd m k n s us=MB:=⟨_,rfl⟩
   have HMB:=hid hMB;have hne:MB.length≠0:=by rw [<-hMB];simp [yM,qy]
   rw [hMB] at hob;clear hMB HM;rcases zw hob with⟨_,h2,_⟩|⟨g,cp,rfl,_,_,_⟩
   ·exact absurd h2 hne
   ·have hcv:=YG rfl hob;have HXX:=hid hx;clear hob hx;go_wp2;go_ret;exact⟨by rw [HMB.o];rfl,HXX.o⟩
end
section
open Go.RowKit
theorem Yd (b:Nat)(w:World):Calls Tryz.prog 210 #[.pointer (some ⟨b,0,none⟩)] w fun e w'=>Made w 7 (fl b leaseL) e w':=by
 go_enter func210,ntmps210;go_wp2
 go_region_with (first
  | (go_at_call_of 212 (2:Nat);refine(ym _ 2 [⟨b,0,none⟩,⟨b,1,none⟩] _ rfl (by decide) (by decide) ?_).mono ?_;exact yK _ (by repeat (first|(with_reducible refine zy ?_)|((with_reducible refine zm ?_);(simp;done))|(with_reducible refine zC ?_)|(with_reducible (apply rW;assumption)))) (by rfl);rintro e w1 ⟨g1,cap1,rfl,ho1,hx1⟩)
  | (go_at_call 213;refine(qV b 2 _).mono ?_;rintro e w2 ⟨g2,cap2,rfl,ho2,hx2⟩)
  | (go_at_call_of 212 (1:Nat);refine(ym _ 1 [⟨b,6,none⟩] _ rfl (by decide) (by decide) ?_).mono ?_;exact yK _ (by repeat (first|(with_reducible refine zy ?_)|((with_reducible refine zm ?_);(simp;done))|(with_reducible refine zC ?_)|(with_reducible (apply rW;assumption)))) (by rfl);rintro e w3 ⟨g3,cap3,rfl,ho3,hx3⟩)
  | (go_at_call 211;refine(uB _ 3 [⟨g1,2,cap1,_⟩,⟨g2,4,cap2,_⟩,⟨g3,1,cap3,_⟩] _ 7 (fl b leaseL) rfl (by decide) (by decide) rfl (by decide) ?_ (J0 (X3 ho1 (by decide) (by decide) (by repeat (first|(with_reducible exact lI _)|(with_reducible assumption)|(with_reducible refine lJ ?_)|(with_reducible refine lK ?_ _)|(with_reducible (apply lY;assumption))))) (X3 ho2 (by decide) (by decide) (by repeat (first|(with_reducible exact lI _)|(with_reducible assumption)|(with_reducible refine lJ ?_)|(with_reducible refine lK ?_ _)|(with_reducible (apply lY;assumption))))) (X3 ho3 (by decide) (by decide) (by repeat (first|(with_reducible exact lI _)|(with_reducible assumption)|(with_reducible refine lJ ?_)|(with_reducible refine lK ?_ _)|(with_reducible (apply lY;assumption)))))) ?_).mono ?_;rfl;exact jA _ (by with_reducible exact zm (by simp)) (by rfl);rintro e w4 ⟨g4,cap4,rfl,ho4,hx4⟩))
 all_goals go_wp2
 all_goals go_ret
 all_goals exact⟨g4,cap4,rfl,zv ho4 (Ext.le (by repeat (first|(with_reducible exact lI _)|(with_reducible assumption)|(with_reducible refine lJ ?_)|(with_reducible refine lK ?_ _)|(with_reducible (apply lY;assumption))))),Ext.trans (by repeat (first|(with_reducible exact lI _)|(with_reducible assumption)|(with_reducible refine lJ ?_)|(with_reducible refine lK ?_ _)|(with_reducible (apply lY;assumption)))) hx4⟩
end
section
open Go.RowKit
theorem qJ:U8 leaseL:=by intro x hx;simp only [leaseL,List.mem_cons,List.not_mem_nil,or_false] at hx;rcases hx with rfl|rfl|rfl|rfl|rfl|rfl|rfl<;>decide
theorem u6 {W:World}{b:Nat}{s i ck cm cl cn c:Nat}{vals:Nat->Nat}(hW:W.heap[b]?=some (.cells #[.int .i64 (s:Int),.int .i64 (i:Int),.int .i64 (ck:Int),.int .i64 (cm:Int),.int .i64 (cl:Int),.int .i64 (cn:Int),.int .i64 (c:Int)] 210 (0,0)))(hv:vals 0=s/\vals 1=i/\vals 2=ck/\vals 3=cm/\vals 4=cl/\vals 5=cn/\vals 6=c):∀x∈leaseL,W.cell? ⟨b,x.1,none⟩=some (.int .i64 (vals x.1:Int)):=by
 obtain⟨v0,v1,v2,v3,v4,v5,v6⟩:=hv;intro x hx;simp only [leaseL,List.mem_cons,List.not_mem_nil,or_false] at hx;rcases hx with rfl|rfl|rfl|rfl|rfl|rfl|rfl
 ·show W.cell? ⟨b,0,none⟩=some (.int .i64 (vals 0:Int));rw [v0];exact zc hW rfl
 ·show W.cell? ⟨b,1,none⟩=some (.int .i64 (vals 1:Int));rw [v1];exact zc hW rfl
 ·show W.cell? ⟨b,2,none⟩=some (.int .i64 (vals 2:Int));rw [v2];exact zc hW rfl
 ·show W.cell? ⟨b,3,none⟩=some (.int .i64 (vals 3:Int));rw [v3];exact zc hW rfl
 ·show W.cell? ⟨b,4,none⟩=some (.int .i64 (vals 4:Int));rw [v4];exact zc hW rfl
 ·show W.cell? ⟨b,5,none⟩=some (.int .i64 (vals 5:Int));rw [v5];exact zc hW rfl
 ·show W.cell? ⟨b,6,none⟩=some (.int .i64 (vals 6:Int));rw [v6];exact zc hW rfl
theorem Uc (b:Nat)(s i ck cm cl cn c:Nat)(vals:Nat->Nat)(hv:vals 0=s/\vals 1=i/\vals 2=ck/\vals 3=cm/\vals 4=cl/\vals 5=cn/\vals 6=c)(hmax:∀j,vals j<=2147483647)(w:World)(hb:w.heap[b]?=some (.cells #[.int .i64 (s:Int),.int .i64 (i:Int),.int .i64 (ck:Int),.int .i64 (cm:Int),.int .i64 (cl:Int),.int .i64 (cn:Int),.int .i64 (c:Int)] 210 (0,0))) :
  Calls Tryz.prog 57 #[.iface 201 (.pointer (some ⟨b,0,none⟩))] w fun e w'=>e=.returned (.string ⟨([1]++ZW vals leaseL).toArray⟩)/\Ext w w':=by
 have HV:=hid hv;have HB:Hd _:=hb;have HMX:=hid hmax;have hm1:=Y8;have hm2:=YS;have hfk:=Xt;clear hv hb hmax;go_enter func57,ntmps57;go_wp2_with (first
  | (go_at_call 209;refine(Yv b s i ck cm cl cn c _ (by exact HB.o)).mono ?_;rintro e w1 ⟨rfl,hx1⟩)
  | (go_at_call 210;refine(Yd b _).mono ?_;rintro e w2 ⟨g,cap,rfl,ho,hx2⟩))
 obtain⟨g0,hg0⟩:∃g0,g0=w1.heap.size:=⟨_,rfl⟩
 have HO0:Hd (w2.ownsRow w.heap.size 5 1 (.slice (some ⟨w1.heap.size,0,none⟩) 1 1) 1 (Ze [1])):=(hx2.owns (World.ownsRow_lit w1 #[.int .u8 1] 1 hx1.le (by unfold maxLen;omega) rfl):_)
 have HX2:Ext w w2:=(hx1.alloc _).trans hx2;have HB2:Hd (w2.heap[b]?=some (.cells #[.int .i64 (s:Int),.int .i64 (i:Int),.int .i64 (ck:Int),.int .i64 (cm:Int),.int .i64 (cl:Int),.int .i64 (cn:Int),.int .i64 (c:Int)] 210 (0,0))):=HX2.block (by exact HB.o);have HF2:Hd (∃cur:Array Value,w2.heap[g]?=some (.cells cur 162 (0,0))/\∀j,j<7*3->cur[j]?=(fl b leaseL)[j]?):=by
  rcases ho.2 with⟨h0,_⟩|⟨g1,cap1,cur,h0,_,hh,_,_,_,ht⟩
  ·simp at h0
  ·simp only [Value.slice.injEq,Option.some.injEq,Addr.mk.injEq,and_true,true_and] at h0;obtain⟨rfl,rfl⟩:=h0;exact⟨cur,hh,fun j hj=>by rw [<-ht,List.getElem?_take,if_pos hj];simp⟩
 clear ho hx1 hx2 hg0 g0
 go_loopw [3,5,14] (fun u _ i wr=>∃(k n g' cap':Nat),k<=7/\u=.slice (some ⟨g',0,none⟩) n cap'/\i=.int .i64 k/\([(1:UInt8)]++ZW vals (leaseL.take k)).length=n/\wr.ownsRow w.heap.size 5 1 (.slice (some ⟨g',0,none⟩) n cap') n (Ze ([1]++ZW vals (leaseL.take k)))/\Below w.heap.size w2 wr/\Keeps w2 wr) (fun _ _ i _=>7 - (intOf i).toNat)
 case atStart=>exact⟨0,1,_,_,lT _,rfl,rfl,rfl,HO0.o,Below.refl _ _,Keeps.refl _⟩
 case round=>
  obtain⟨k,n,g',cap',hk,rfl,rfl,hn,hor,hbel,hkp⟩:=hrel;have HN:=hid hn;have hn1:1<=n:=by rw [<-hn];simp
  have hn2:n<=65:=by have h1:=qS vals (leaseL.take k) (fun x hx=>qJ x (List.mem_of_mem_take hx));have h2:(leaseL.take k).length<=8:=Nat.le_trans (List.length_take_le' _ _) (by decide);rw [<-hn];simp;omega
  clear hn;by_cases hlt:k<7
  ·have hkl:k<leaseL.length:=hlt;have HX:Hd (leaseL.take (k+1)=leaseL.take k++[leaseL[k]]):=rV hkl;obtain⟨cur,hg2,hcur⟩:=HF2.o;have hgr:=hkp.block g _ _ _ hg2 (by decide);have hbr:=hkp.block b _ _ _ HB2.o (by decide);obtain⟨f0,f1,f2⟩:=jU b leaseL k hkl;have e0:wr.cell? ⟨g,k*3,none⟩=some (.pointer (some ⟨b,leaseL[k].1,none⟩)):=zc hgr ((hcur _ (by omega)).trans f0);have e1:wr.cell? ⟨g,k*3+1,none⟩=some (.int .i64 leaseL[k].2.1):=zc hgr ((hcur _ (by omega)).trans f1);have e2:wr.cell? ⟨g,k*3+2,none⟩=some (.int .i64 leaseL[k].2.2):=zc hgr ((hcur _ (by omega)).trans f2);have e3:=u6 hbr HV.o leaseL[k] (lV hkl);have hmx:=HMX.o leaseL[k].1;have hs8:=qJ leaseL[k] (lV hkl);have HFB:Hd (ZW vals (leaseL.take (k+1))=ZW vals (leaseL.take k)++zG (vals leaseL[k].1) leaseL[k].2.1.toNat):=by
    show ZW vals (leaseL.take (k+1))=_
    rw [HX.o,XN]
   have hgl:g<wr.heap.size:=lG wr _ e0;have hbl:b<wr.heap.size:=lG wr _ e3;obtain⟨sz,hsz⟩:∃sz:Nat,leaseL[k].2.1=(sz:Int):=⟨leaseL[k].2.1.toNat,by omega⟩
   rw [hsz] at e1 hs8 HFB;rw [Int.toNat_natCast] at HFB;clear hsz f0 f1 f2 hcur hg2 HX hgr hbr;generalize vals leaseL[k].1=x at *;generalize leaseL[k].2.2=mo at *;generalize leaseL[k].1=o at *;have hwr:IntKind.u64.wrap (x:Int)=(x:Int):=by rw [IntKind.wrap_u64];omega
   have hszr:=hbel.size;have hszw:=HX2.le;go_wp2
   go_region_with (go_at_call 86;refine(jQ w.heap.size n g' cap' ([1]++ZW vals (leaseL.take k)) x sz (by omega) (by omega) (by omega) _ (by exact hor.alloc _) (by simp;omega) (by omega)).mono ?_;rintro e w3 ⟨g3,cap3,rfl,ho3,hb3,hk3⟩)
   all_goals
    have R1:w3.ownsRow w.heap.size 5 1 (.slice (some ⟨g3,0,none⟩) (n+sz) cap3) (n+sz) (Ze ([1]++ZW vals (leaseL.take (k+1)))):=by rw [HFB.o,<-sI];exact ho3
    have R2:Below w.heap.size w2 w3:=(hbel.alloc (by omega) _).drew.trans hb3;have R3:Keeps w2 w3:=((hkp.alloc _).drew).trans hk3;have R4:([(1:UInt8)]++ZW vals (leaseL.take (k+1))).length=n+sz:=by rw [HFB.o,<-sI,lW,HN.o,ZG]
    have HR4:Hd _:=R4;clear R4 ho3 hb3 hk3 hor hbel hkp;go_wp2
    go_roundw
    case rel=>exact⟨k+1,n+sz,g3,cap3,by omega,rfl,by go_num,HR4.o,R1,R2,R3⟩
    case measure=>simp [intOf];omega
  ·obtain rfl:k=7:=by omega
   have hcv:=YG HN.o hor;have HE:Ext w wr:=Below.trans HX2 hbel;rw [show leaseL.take 7=leaseL from rfl] at hcv;clear hor hbel hkp;go_wp2;go_ret;exact⟨rfl,HE⟩
end
section
open Go.RowKit Go.Maps
theorem Vf (n:Int)(w:World):Calls Tryz.prog 185 #[.int .i64 n] w fun e w'=>e=.returned (.bool (decide (1<=n) && decide (n<=40)))/\w=w':=by
 go_enter func185,ntmps185;go_wp2
 all_goals go_ret
 all_goals (refine⟨zH ?_,rfl⟩;simp [*];try omega)
theorem UU {a b:World}{p1 p2 p3 p4:Addr}{v1 v2 v3 v4:Value}(h1:a.cell? p1=some v1)(h2:a.cell? p2=some v2)(h3:a.cell? p3=some v3)(h4:a.cell? p4=some v4)(h:Ext a b) :
  (b.cell? p1=some v1/\b.cell? p2=some v2/\b.cell? p3=some v3/\b.cell? p4=some v4)/\Ext a b:=⟨⟨h.cell h1,h.cell h2,h.cell h3,h.cell h4⟩,h⟩
def Zh (w:World)(rb:Nat)(ss ii kd m k n c:Int):Prop:=w.heap[rb]?=some (.cells #[.int .i64 ss,.int .i64 ii,.int .i64 kd,.int .i64 m,.int .i64 k,.int .i64 n,.int .i64 c] 210 (0,0))
def ZH (R:List StkR)(ls:List LsV)(kd m k n c:Int):Int:=match R.find? (fun x=>x.is kd m k n) with
 | none=>2
 | some x=>if c<1\/40<c then 5 else if (x.ts.length:Int) - x.leased<c then 7 else if 30<=ls.length then 4 else 0
section
variable {B:Nat}{F:Nat->Prop}{sv lv dv:Value}{R:List StkR}{ls:List LsV}{ops:List OpV}{fl:Bool}{ah:Int}{kn:Bool}
theorem Y3 (rb:Nat)(kd m k n ss ii c:Int)(hR:R.length<=100)(hls:ls.length<=1000)(hRm:∀x∈R,x.ts.length<=1000/\x.leased<=1000)(hno:ls.findIdx? (zE ss ii)=none)(w:World)(h:StoreOf w B F sv lv dv R ls ops fl ah kn)(hr:Zh w rb ss ii kd m k n c) :
  Calls Tryz.prog 223 #[.agg #[.pointer (some ⟨rb,0,none⟩)],.pointer (some ⟨B,0,none⟩)] w fun e w'=>e=.returned (.int .i64 (ZH R ls kd m k n c))/\Ext w w':=by
 have H:Hd _:=h;have HR:=hid hr;have r0:=zc hr (i:=0) rfl;have r1:=zc hr (i:=1) rfl;have r2:=zc hr (i:=2) rfl;have r3:=zc hr (i:=3) rfl;have r4:=zc hr (i:=4) rfl;have r5:=zc hr (i:=5) rfl;have r6:=zc hr (i:=6) rfl;have hrl:=lG w _ r0;have HN:Hd (∀w',Ext w w'->Calls Tryz.prog 165 #[.pointer (some ⟨B,0,none⟩),.int .i64 ss,.int .i64 ii] w' fun e w''=>e=.returned (.pointer none)/\Ext w' w''):=fun w' hx=>by
  have:=Y9 B ls ss ii sv lv dv fl ah kn w' (h.deal.ext hx) (h.lrow.ext hx) hls
  rwa [hno] at this
 have HF:Hd (∀w',Ext w w'->_):=fun w' hx=>Yt kd m k n hR w' (h.ext hx)
 unfold zJ at HF;obtain⟨la,lcap,hlv⟩:=zo h.lrow;subst hlv;clear h hr hno;have HCd:Hd (ZH R ls kd m k n c=match R.find? (fun x=>x.is kd m k n) with
  | none=>2
  | some x=>if c<1\/40<c then 5 else if (x.ts.length:Int) - x.leased<c then 7 else if 30<=ls.length then 4 else 0):=rfl
 generalize ZH R ls kd m k n c=cd at *;cases hf:R.find? (fun x=>x.is kd m k n) with
 | none=>
  have hp:Zy R kd m k n=.pointer none:=by rw [Zy,hf]
  rw [hp] at HF;rw [hf] at HCd;clear hp hf;go_enter func223,ntmps223;go_wp2_with fail
  refine(HF.o _ ((lI w).alloc _)).mono ?_;rintro e w1 ⟨rfl,hx1⟩;have q0:=Z5 hx1 0 rfl;have HX1:Hd (Ext w w1):=((lI w).alloc _).trans hx1;have r0:=HX1.o.cell r0;have r1:=HX1.o.cell r1;have r6:=HX1.o.cell r6;clear hx1 r2 r3 r4 r5;go_wp2_with fail
  go_region_held3 (fun w'=>(w'.cell? ⟨w.heap.size,0,none⟩=some (.pointer (some ⟨rb,0,none⟩))/\w'.cell? ⟨rb,0,none⟩=some (.int .i64 ss)/\w'.cell? ⟨rb,1,none⟩=some (.int .i64 ii)/\w'.cell? ⟨rb,6,none⟩=some (.int .i64 c))/\Ext w1 w')
   ((refine UU q0 r0 r1 r6 ?_;(repeat (first|with_reducible exact lI _|with_reducible assumption|with_reducible refine lJ ?_|with_reducible refine lK ?_ _|with_reducible (apply lY;assumption)));done))
   (first|(go_at_call 165;refine(HN.o _ (HX1.o.trans (lJ (lI w1)))).mono ?_;rintro e w1' ⟨rfl,hx2⟩))
  rename_i hh
  have HX2:Hd (Ext w w1'):=HX1.o.trans hh.2;clear hh hx2;go_wp2;go_ret;exact⟨by rw [HCd.o];rfl,HX2.o⟩
 | some x=>
  have hp:Zy R kd m k n=.pointer (some ⟨x.blk,0,none⟩):=by rw [Zy,hf]
  rw [hp] at HF;rw [hf] at HCd;have hxR:x∈R:=List.mem_of_find?_eq_some hf;have hb:=(H.o.stk x hxR).blk;have k4:w.cell? ⟨x.blk,4,none⟩=some (.int .i64 x.ts.length):=(cell_of_row w x.blk 4 _ _ _ hb).trans rfl;have k5:w.cell? ⟨x.blk,5,none⟩=some (.int .i64 x.leased):=(cell_of_row w x.blk 5 _ _ _ hb).trans rfl;obtain⟨_,c1,_⟩:=H.o.deal.cells;have hmx:=hRm x hxR;have HCd2:Hd (cd=if c<1\/40<c then 5 else if (x.ts.length:Int) - x.leased<c then 7 else if 30<=ls.length then 4 else 0):=HCd.o;have HWr:Hd (IntKind.i64.wrap ((x.ts.length:Int) - (x.leased:Int))=(x.ts.length:Int) - x.leased):=by
   show IntKind.i64.wrap ((x.ts.length:Int) - (x.leased:Int))=(x.ts.length:Int) - x.leased
   rw [IntKind.wrap_i64];omega
  clear hp hf hb HCd;generalize x.ts.length=tl at *;generalize x.leased=le at *;generalize x.blk=blk at *;clear hxR H HR hRm;go_enter func223,ntmps223;go_wp2_with fail
  refine(HF.o _ ((lI w).alloc _)).mono ?_;rintro e w1 ⟨rfl,hx1⟩;have q0:=Z5 hx1 0 rfl;have HX1:Hd (Ext w w1):=((lI w).alloc _).trans hx1;have r0:=HX1.o.cell r0;have r1:=HX1.o.cell r1;have r6:=HX1.o.cell r6;have k4:=HX1.o.cell k4;have k5:=HX1.o.cell k5;have c1:=HX1.o.cell c1;clear hx1 r2 r3 r4 r5;go_wp2_with fail
  go_region_held3 (fun w'=>(w'.cell? ⟨w.heap.size,0,none⟩=some (.pointer (some ⟨rb,0,none⟩))/\w'.cell? ⟨rb,0,none⟩=some (.int .i64 ss)/\w'.cell? ⟨rb,1,none⟩=some (.int .i64 ii)/\w'.cell? ⟨rb,6,none⟩=some (.int .i64 c))/\Ext w1 w')
   ((refine UU q0 r0 r1 r6 ?_;(repeat (first|with_reducible exact lI _|with_reducible assumption|with_reducible refine lJ ?_|with_reducible refine lK ?_ _|with_reducible (apply lY;assumption)));done))
   (first|(go_at_call 165;refine(HN.o _ (HX1.o.trans (lJ (lI w1)))).mono ?_;rintro e w2 ⟨rfl,hx2⟩))
  rename_i hh
  have hD:Ext w1 w2:=hh.2;clear hh hx2;have HX2:Hd (Ext w w2):=HX1.o.trans hD;have q0:=hD.cell q0;have r6:=hD.cell r6;have k4:=hD.cell k4;have k5:=hD.cell k5;have c1:=hD.cell c1;clear hD r0 r1;go_wp2_with fail
  refine(Vf c w2).mono ?_;rintro e w1' ⟨rfl,rfl⟩;by_cases hc:c<1\/40<c
  ·have hb:(decide (1<=c) && decide (c<=40))=false:=by simp;omega
   rw [hb];go_wp2;go_ret;exact⟨by rw [HCd2.o];simp [hc],HX2.o⟩
  ·have hb:(decide (1<=c) && decide (c<=40))=true:=by simp;omega
   rw [hb];go_wp2
   go_region_held3 (fun w'=>(w'.cell? ⟨w.heap.size,0,none⟩=some (.pointer (some ⟨rb,0,none⟩))/\w'.cell? ⟨blk,4,none⟩=some (.int .i64 tl)/\w'.cell? ⟨blk,5,none⟩=some (.int .i64 le)/\w'.cell? ⟨rb,6,none⟩=some (.int .i64 c))/\Ext w2 w')
    ((refine UU q0 k4 k5 r6 ?_;(repeat (first|with_reducible exact lI _|with_reducible assumption|with_reducible refine lJ ?_|with_reducible refine lK ?_ _|with_reducible (apply lY;assumption)));done))
    (fail)
   rename_i hh
   have hD:Ext w2 w2.drew:=hh.2;clear hh;generalize w2.drew=w3 at hD ⊢;have HX3:Hd (Ext w w3):=HX2.o.trans hD;have c1:=hD.cell c1;clear hD;go_wp2
   all_goals go_ret
   all_goals refine⟨?_,HX3.o⟩
   all_goals rw [HCd2.o]
   all_goals have hwr:=HWr.o
   all_goals simp only [if_neg hc]
   all_goals split
   all_goals first|rfl|(exfalso;omega)|(split<;>first|rfl|(exfalso;omega))
end
end
end Go.Proofs.YtmnjhhachdlmkaaGreat
