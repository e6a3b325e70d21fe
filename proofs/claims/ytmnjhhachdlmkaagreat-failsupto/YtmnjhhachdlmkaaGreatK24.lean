import Derived.Test.YtmnjhhachdlmkaaGreatK23
import Derived.Test.YtmnjhhachdlmkaaGreatK22
namespace Go.Proofs.YtmnjhhachdlmkaaGreat
set_option linter.all false
set_option maxRecDepth 100000
set_option maxHeartbeats 6400000
open Tryz
open List renaming length_append -> lW, mem_append -> sE, mem_singleton -> sJ, map_append -> rY, mem_map -> sC, getElem_mem -> lV, take_succ_eq_append_getElem -> rV, take_of_length_le -> rM, length_map -> rU, getElem_of_mem -> sK, getElem?_eq_getElem -> lZ, getD_eq_getElem?_getD -> rT, append_nil -> rL
open Nat renaming lt_of_lt_of_le -> rA, le_refl -> lO, zero_le -> lT
open StkR renaming abs -> lL
open Ext renaming refl -> lI, alloc -> lK, drew -> lJ, chain -> lY
open Int renaming eq_ofNat_of_zero_le -> rZ
open Turn renaming of_ext -> lM, setCell -> lQ, refl -> rD
open World renaming setCell -> rC, ownsRow_nil -> rB, alloc -> lP, news_of_block -> rI, ownsRow -> lR
open Go.RowKit Go.Maps
open World renaming block_lt_of_cell? -> lG
open Value renaming ownBlock -> lH
section
section
variable {B:Nat}{F:Nat->Prop}{sv lv dv:Value}{R:List StkR}{ls:List LsV}{ops:List OpV}{fl:Bool}{ah:Int}{kn:Bool}
theorem StoreOf.addCopy {w w3:World}{gs cs:Nat}{x:StkR}(h:StoreOf w B F sv lv dv R ls ops fl ah kn)
  (ht:Turn (fun b=>b=B\/sv.ownBlock=some b) w w3) (hd:DealAt w3 B (.slice (some ⟨gs,0,none⟩) (R.length+1) cs) lv dv fl ah kn)
  (hs:w3.ownsRow 0 151 1 (.slice (some ⟨gs,0,none⟩) (R.length+1) cs) (R.length+1) (Zt R++[.pointer (some ⟨x.blk,0,none⟩)]))
  (hx:StkAt w3 (ZO F w w3) x) (hgk:w.heap.size<=x.blk) (hmb:w.heap.size<=x.mb) (hgs:sv.ownBlock=some gs\/w.heap.size<=gs) :
  StoreOf w3 B (ZO F w w3) (.slice (some ⟨gs,0,none⟩) (R.length+1) cs) lv dv (R++[x]) ls ops fl ah kn:=by
 have hfar:∀b cur t,w.heap[b]?=some (.cells cur t (0,0))->t≠114/\t≠112->t≠151->¬(b=B\/sv.ownBlock=some b):=fun b cur t hc h1 h2 hor=>by
  rcases hor with e|e
  ·exact h.deal.tne hc h1 e
  ·obtain⟨cur',hc'⟩:=zf h.srow e;exact zh hc hc' h2 rfl
 have hfm:∀b D n,w.ownsMap Tryz.prog 3 zX b n D->¬(b=B\/sv.ownBlock=some b):=fun b D n hc hor=>by
  rcases hor with e|e
  ·exact h.deal.mne hc e.symm
  ·obtain⟨cur',hc'⟩:=zf h.srow e;exact yt hc' hc rfl
 have hg:∀b,F b->ZO F w w3 b:=fun b hb=>.inl hb
 have ltn:∀{b:Nat} {o:Obj},w3.heap[b]?=some o->b<w3.heap.size:=fun hb=>(Array.getElem?_eq_some_iff.1 hb).1
 have old:∀x∈R,x.blk<w.heap.size/\x.mb<w.heap.size:=fun x hx=>⟨h.lt _ (h.stk x hx).fb,h.lt _ (h.stk x hx).fm⟩
 refine⟨hd,?_,ht.owns h.lrow (fun q hq=>let ⟨cur,hc⟩:=zf h.lrow hq;hfar q cur _ hc (by decide) (by decide)),ht.owns h.orow (fun q hq=>let ⟨cur,hc⟩:=zf h.orow hq;hfar q cur _ hc (by decide) (by decide)),?_,?_,?_,.inl h.fB,?_,fun q hq=>.inl (h.fl' q hq),fun q hq=>.inl (h.fd q hq),?_,h.lnil,h.dnil⟩
 ·have e:Zt (R++[x])=Zt R++[.pointer (some ⟨x.blk,0,none⟩)]:=by simp [Zt]
  rw [e,lW];exact hs
 ·intro y hy;rcases sE.1 hy with hy|hy
  ·have hyk:=h.stk y hy;obtain⟨D,hD,_⟩:=hyk.map;exact(hyk.turn' ht (hfar _ _ _ hyk.blk (by decide) (by decide)) (hfm _ _ _ hD) (fun b cur hc=>hfar b cur _ hc (by decide) (by decide))).mono hg
  ·rw [sJ.1 hy];exact hx
 ·rw [rY,List.nodup_append];refine⟨h.nb,by simp,?_⟩;intro a ha b hb;obtain⟨x,hx,rfl⟩:=sC.1 ha;simp at hb;have:=(old x hx).1;omega
 ·rw [rY,List.nodup_append];refine⟨h.nm,by simp,?_⟩;intro a ha b hb;obtain⟨x,hx,rfl⟩:=sC.1 ha;simp at hb;have:=(old x hx).2;omega
 ·intro q hq;simp [lH] at hq;subst hq;rcases hgs with e|e
  ·exact .inl (h.fs _ e)
  ·exact .inr ⟨e,by obtain⟨cur,hc⟩:=zf hs (g:=gs) rfl;exact ltn hc⟩
 ·intro b hb;rcases hb with hb|hb
  ·exact rA (h.lt b hb) ht.size
  ·exact hb.2
structure CopyAt (w wr:World)(NB:Nat)(F:Nat->Prop)(lv:Value)(ls:List LsV)(R:List StkR)(sv1:Value)(R1:List StkR):Prop where
 st:StoreOf wr NB (ZO F w wr) sv1 lv (.slice none 0 0) R1 ls [] false 0 false
 abs:R1.map lL=R.map lL
 new:∀x∈R1,w.heap.size<=x.blk/\w.heap.size<=x.mb
 sv:∀q,sv1.ownBlock=some q->w.heap.size<=q
 ext:Ext w wr
def Zo (S:List Stk)(l:LsV):List Stk:=match S.findIdx? (fun x=>x.is l.kd l.m l.k l.n) with
 | some ix=>S.modify ix (fun x=>x.forget l.f.toNat l.c.toNat)
 | none=>S
def zq (S:List Stk)(ls:List LsV):List Stk:=ls.foldl (fun S l=>if l.r=true then Zo S l else S) S
theorem vm (S:List Stk)(ls:List LsV)(l:LsV):zq S (ls++[l])=if l.r=true then Zo (zq S ls) l else zq S ls:=by simp [zq]
theorem xq (S:List Stk)(l:LsV):(Zo S l).length=S.length:=by unfold Zo;split<;>simp
theorem ZR (S:List Stk)(ls:List LsV):(zq S ls).length=S.length:=by
 induction ls generalizing S with
 | nil=>rfl
 | cons l t ih=>
  show (zq (if l.r=true then Zo S l else S) t).length=_
  rw [ih];split
  ·exact xq _ _
  ·rfl
theorem Qh {α:Type}(l:List α)(i:Nat)(h:i<l.length)(g:α->α):l.modify i g=l.set i (g l[i]):=by
 apply List.ext_getElem (by simp);intro j a b;rw [List.getElem_modify,List.getElem_set];split
 ·rename_i e;subst e;rfl
 ·rfl
theorem Kp {α:Type}{p:α->Bool}{l:List α}{i:Nat}(hi:i<l.length){y:α}(h:p y=p l[i]):(l.set i y).any p=l.any p:=by
 have e:∀l:List α,l.any p=(l.map p).any id:=fun l=>by rw [List.any_map];rfl
 rw [e,e l,List.map_set,h];congr 1;apply List.ext_getElem (by simp);intro j a b;rw [List.getElem_set];split
 ·rename_i e;subst e;simp
 ·rfl
theorem U6 (S:List Stk)(l:LsV)(kd m k n:Int):(Zo S l).any (fun x=>x.is kd m k n)=S.any (fun x=>x.is kd m k n):=by
 unfold Zo;split
 ·rename_i ix hix
  obtain⟨hi,_⟩:=zU hix;rw [Qh _ _ hi];exact Kp hi rfl
 ·rfl
theorem ug (S:List Stk)(ls:List LsV)(kd m k n:Int):(zq S ls).any (fun x=>x.is kd m k n)=S.any (fun x=>x.is kd m k n):=by
 induction ls generalizing S with
 | nil=>rfl
 | cons l t ih=>
  show (zq (if l.r=true then Zo S l else S) t).any _=_
  rw [ih];split
  ·exact U6 _ _ _ _ _ _
  ·rfl
structure CompAt (w wr:World)(NB:Nat)(F:Nat->Prop)(lv:Value)(ls:List LsV)(S:List Stk)(sv1:Value)(R1:List StkR):Prop where
 st:StoreOf wr NB (ZO F w wr) sv1 lv (.slice none 0 0) R1 ls [] false 0 false
 abs:R1.map lL=S
 new:∀x∈R1,w.heap.size<=x.blk/\w.heap.size<=x.mb
 sv:∀q,sv1.ownBlock=some q->w.heap.size<=q
 ext:Ext w wr
 nb:w.heap.size<=NB
theorem CompAt.alloc {w wr:World}{NB:Nat}{lv1 sv1:Value}{S:List Stk}{R1:List StkR}(h:CompAt w wr NB F lv1 ls S sv1 R1)(o:Obj):CompAt w (wr.alloc o) NB F lv1 ls S sv1 R1 where
 st:=(h.st.ext ((lI wr).alloc o)).mono (fun b hb=>hb.imp id (fun h=>⟨h.1,by simp;omega⟩)) (fun b hb=>by
  rcases hb with hb|hb
  ·have:=h.st.lt b (.inl hb);simp;omega
  ·exact hb.2)
 abs:=h.abs
 new:=h.new
 sv:=h.sv
 ext:=h.ext.alloc o
 nb:=h.nb
theorem CompAt.more {w wr w':World}{NB:Nat}{lv1 sv1:Value}{S:List Stk}{R1:List StkR}(h:CompAt w wr NB F lv1 ls S sv1 R1)(hx:Ext wr w'):CompAt w w' NB F lv1 ls S sv1 R1 where
 st:=(h.st.ext hx).mono (fun b hb=>hb.imp id (fun h=>⟨h.1,rA h.2 hx.le⟩)) (fun b hb=>by
  rcases hb with hb|hb
  ·exact rA (h.st.lt b (.inl hb)) hx.le
  ·exact hb.2)
 abs:=h.abs
 new:=h.new
 sv:=h.sv
 ext:=h.ext.trans hx
 nb:=h.nb
theorem CompAt.forget {w wr:World}{NB:Nat}{lv1 sv1:Value}{R1 R0:List StkR}{t:List LsV}(h:CompAt w wr NB F lv1 ls (zq (R0.map lL) t) sv1 R1)(l:LsV)(b0:0<=l.f)(b1:l.f<=1000)(b2:0<=l.c)(b3:l.c<=1000)(b4:(R1.map lL).any (fun x=>x.is l.kd l.m l.k l.n)=true)(hR1:R1.length<=100)(w':World)(hx:Ext wr w') :
  Calls Tryz.prog 164 #[.pointer (some ⟨NB,0,none⟩),.agg #[.int .i64 l.s,.int .i64 l.i,.int .i64 l.kd,.int .i64 l.m,.int .i64 l.k,.int .i64 l.n,.int .i64 l.f,.int .i64 l.c,.bool true]] w' fun e w''=>e=.returned (.tuple #[])/\∃R3,CompAt w w'' NB F lv1 ls (Zo (zq (R0.map lL) t) l) sv1 R3:=by
 have h':=h.more hx;obtain⟨f,hf⟩:=rZ b0;obtain⟨c,hc⟩:=rZ b2;rw [hf,hc];cases hix:R1.findIdx? (fun x=>x.is l.kd l.m l.k l.n) with
 | none=>
  rw [<-YP] at hix;have h1:=List.findIdx?_eq_none_iff.1 hix;obtain⟨x,hxm,hxp⟩:=List.any_eq_true.1 b4;rw [h1 x hxm] at hxp;cases hxp
 | some ix=>
  obtain⟨hi,hfi⟩:=zU hix;refine(kW l.s l.i l.kd l.m l.k l.n f c true ix (by omega) (by omega) hR1 hi hfi w' h'.st).mono ?_;rintro e w'' ⟨he,hst,ht⟩;have hn:=h'.new R1[ix] (lV hi);have hs:=ht.size;refine⟨he,_,⟨hst.mono (fun b hb=>hb.imp id (fun h=>⟨h.1,by omega⟩)) (fun b hb=>?_),?_,fun y hy=>?_,h'.sv,?_,h'.nb⟩⟩
  ·rcases hb with hb|hb
   ·exact hst.lt b (.inl hb)
   ·exact hb.2
  ·rw [<-h.abs];unfold Zo;rw [YP,hix];simp only;rw [Qh _ _ (by simpa using hi),List.map_set,hf,hc];congr 1;simp
   rfl
  ·rcases List.mem_or_eq_of_mem_set hy with hy|rfl
   ·exact h'.new y hy
   ·exact hn
  ·exact Turn.ext ((lM (S:=fun _=>False) h'.ext).trans' ht (fun b hb e=>by omega))
theorem JK {w wr V w4:World}{NB j rl g1 cap1 ob mb clock s1c:Nat}{s1a:Option Addr}{es:Array MapEntry}{R R1:List StkR}{X:StkR}{D:DataW Value}{lv1:Value}(hc:CopyAt w wr NB F lv1 ls (R.take j) (.slice s1a rl s1c) R1)(hj:j<R.length)(hX:R[j]=X)(hrl:R1.length=rl)
  (hV0:V.heap[ob]?=some (.cells #[.int .i64 (X.kd:Int),.int .i64 (X.m:Int),.int .i64 (X.k:Int),.int .i64 (X.n:Int),.int .i64 (X.ts.length:Int),.int .i64 (X.leased:Int),.map (some X.mb)] 154 (0,0))) (hV1:V.heap[mb]?=some (.map es clock)) (hXV:Ext wr V)
  (hfit:WideElems.Fit Tryz.prog 3 zX es clock/\es.size<=X.ts.length/\D=.map (List.foldr DataW.insert [] (List.map (WideElems.rg Tryz.prog 3 zX) es.toList))) (hK:Kept wr F X.sh X.ts D) (hob:wr.heap.size=ob/\wr.heap.size+1=mb) (hNBw:w.heap.size<=NB)
  (hown:w4.ownsRow 0 151 1 (.slice (some ⟨g1,0,none⟩) (rl+1) cap1) (rl+1) (Zt R1++[.pointer (some ⟨ob,0,none⟩)]))
  (hgrow:((V.setCell ⟨ob,6,none⟩ (.map (some mb))).alloc (.cells #[.pointer (some ⟨ob,0,none⟩)] 151)).grownBy w4 (lH (.slice s1a rl s1c))) (hat:lH (.slice s1a rl s1c)=some g1\/g1=V.heap.size+1) :
  DealAt w4 NB (.slice s1a rl s1c) lv1 (.slice none 0 0) false 0 false/\CopyAt w (w4.setCell ⟨NB,0,none⟩ (.slice (some ⟨g1,0,none⟩) (rl+1) cap1)) NB F lv1 ls (R.take (j+1)) (.slice (some ⟨g1,0,none⟩) (rl+1) cap1) (R1++[{ X with blk:=ob,mb:=mb }]):=by
 subst hrl;have hst:=hc.st;have hNB:=hst.deal.lt;have hsz:V.heap.size=(V.setCell ⟨ob,6,none⟩ (.map (some mb))).heap.size:=by simp [rC]
 have hle:=hXV.le;have hT1:Turn (fun b=>b=ob) V (V.setCell ⟨ob,6,none⟩ (.map (some mb))):=lQ (S:=fun b=>b=ob) (p:=⟨ob,6,none⟩) (rD _ V) (fun _=>rfl) _;have hT2:Turn (fun b=>b=NB\/lH (.slice s1a R1.length s1c)=some b) wr w4:=
  Turn.grown (((lM (S:=fun b=>b=NB\/lH (.slice s1a R1.length s1c)=some b) hXV).trans' hT1 (fun b hb e=>by omega)).alloc _) hgrow (fun q hq _=>.inr hq)
 have hsv:=hst.srow;have hnsv:∀b,wr.heap.size<=b->¬lH (.slice s1a R1.length s1c)=some b:=fun b hb e=>by have:=zx hsv e;omega
 have hD4:DealAt w4 NB (.slice s1a R1.length s1c) lv1 (.slice none 0 0) false 0 false:=by have h1:DealAt (V.setCell ⟨ob,6,none⟩ (.map (some mb))) NB (.slice s1a R1.length s1c) lv1 (.slice none 0 0) false 0 false:=(hst.deal.ext hXV).turn hT1 (by omega);exact(h1.ext ((lI _).alloc _)).same (hgrow.block NB (by simp;omega) (fun e=>hst.deal.rne hsv (by decide) e.symm))
 refine⟨hD4,?_⟩;have hT3:Turn (fun b=>b=NB) w4 (w4.setCell ⟨NB,0,none⟩ (.slice (some ⟨g1,0,none⟩) (R1.length+1) cap1)):=lQ (S:=fun b=>b=NB) (p:=⟨NB,0,none⟩) (rD _ w4) (fun _=>rfl) _;have hT:Turn (fun b=>b=NB\/lH (.slice s1a R1.length s1c)=some b) wr (w4.setCell ⟨NB,0,none⟩ (.slice (some ⟨g1,0,none⟩) (R1.length+1) cap1)):=hT2.trans (hT3.mono (fun _ _ e=>.inl e));have hg1:g1≠NB:=fun e=>by obtain⟨cur,hcur⟩:=zf hown (g:=g1) rfl;exact hD4.tne hcur (by decide) e
 have hob4:w4.heap[ob]?=some (.cells ({ X with blk:=ob,mb:=mb }:StkR).row 154 (0,0)):=by rw [hgrow.block ob (by simp;omega) (fun e=>hnsv ob (by omega) e.symm)];exact zC (zg hV0 _)
 have hmb4:w4.heap[mb]?=some (.map es clock):=by have hml:=(Array.getElem?_eq_some_iff.1 hV1).1;rw [hgrow.block mb (by simp;omega) (fun e=>hnsv mb (by omega) e.symm)];exact zC (hT1.ref hV1 (by omega))
 have hs4:w4.heap.size=(w4.setCell ⟨NB,0,none⟩ (.slice (some ⟨g1,0,none⟩) (R1.length+1) cap1)).heap.size:=by simp [rC]
 have hU:∀b cur,wr.heap[b]?=some (.cells cur 146 (0,0))->¬(b=NB\/lH (.slice s1a R1.length s1c)=some b):=fun b cur hcur hor=>by
  rcases hor with e|e
  ·exact hst.deal.tne hcur (by decide) e
  ·obtain⟨cur',hc'⟩:=zf hsv e;exact zh hcur hc' (by decide) rfl
 have hx:StkAt (w4.setCell ⟨NB,0,none⟩ (.slice (some ⟨g1,0,none⟩) (R1.length+1) cap1)) (ZO (ZO F w wr) wr (w4.setCell ⟨NB,0,none⟩ (.slice (some ⟨g1,0,none⟩) (R1.length+1) cap1))) { X with blk:=ob,mb:=mb }:=by
  refine⟨hT3.ref hob4 (show ¬ob=NB by omega),⟨D,⟨es,clock,hT3.ref hmb4 (show ¬mb=NB by omega),hfit⟩,(hK.turn' hT hU).mono (fun b hb=>.inl (.inl hb))⟩,.inr ⟨by show wr.heap.size<=ob;omega,?_⟩,.inr ⟨by show wr.heap.size<=mb;omega,?_⟩⟩
  ·show ob<_
   rw [<-hs4];exact(Array.getElem?_eq_some_iff.1 hob4).1
  ·show mb<_
   rw [<-hs4];exact(Array.getElem?_eq_some_iff.1 hmb4).1
 have hwr:=hc.ext.le;have hst2:=StoreOf.addCopy hst hT (hD4.set0 _) (zi hown (by simpa [lH] using hg1) _) hx (by show wr.heap.size<=ob;omega) (by show wr.heap.size<=mb;omega) (hat.imp id (fun h=>by omega));refine⟨hst2.mono (fun b hb=>?_) (fun b hb=>?_),?_,fun y hy=>?_,fun q hq=>?_,?_⟩
 ·have hl:=hst2.lt b hb;rcases hb with hb|hb
  ·rcases hb with hb|hb
   ·exact .inl hb
   ·exact .inr ⟨hb.1,hl⟩
  ·exact .inr ⟨by omega,hl⟩
 ·rcases hb with hb|hb
  ·exact hst2.lt b (.inl (.inl hb))
  ·exact hb.2
 ·rw [rY,hc.abs,rV hj,rY,hX]
  rfl
 ·rcases sE.1 hy with hy|hy
  ·exact hc.new y hy
  ·rw [sJ.1 hy];exact⟨by show w.heap.size<=ob;omega,by show w.heap.size<=mb;omega⟩
 ·simp [lH] at hq;subst hq;rcases hat with e|e
  ·exact hc.sv _ e
  ·omega
 ·exact Turn.ext ((lM (S:=fun _=>False) hc.ext).trans' hT (fun b hb hor=>by
   rcases hor with e|e
   ·omega
   ·have:=hc.sv b e;omega))
theorem uY (hR:R.length<=100)(hls:ls.length<=900)(hof:∀l∈ls,0<=l.f/\l.f<=1000/\0<=l.c/\l.c<=1000/\(R.map lL).any (fun x=>x.is l.kd l.m l.k l.n)=true)(w:World)(h:StoreOf w B F sv lv dv R ls ops fl ah kn) :
  Calls Tryz.prog 117 #[.pointer (some ⟨B,0,none⟩)] w fun e w'=>∃NB sv1 R1,e=.returned (.pointer (some ⟨NB,0,none⟩))/\CompAt w w' NB F lv ls (zq (R.map lL) ls) sv1 R1:=by
 have HOF:Hd _:=hof;clear hof;obtain⟨i0,hi,hz0,hz1,hz2⟩:=info_parts Xb;obtain⟨c0,c1,_⟩:=h.deal.cells;have hB:=h.deal.lt;have H:Hd _:=h;obtain⟨sa,sc,hsv⟩:=zo h.srow;obtain⟨la,lc,hlv⟩:=zo h.lrow;subst hsv hlv;clear h;obtain⟨rn,hrn⟩:∃rn,R.length=rn:=⟨_,rfl⟩
 obtain⟨ln,hln⟩:∃ln,ls.length=ln:=⟨_,rfl⟩
 have HRN:=hid hrn;have HLN:=hid hln;rw [hrn] at c0 hR;rw [hln] at c1 hls;clear hrn hln;go_enter func117,ntmps117;go_wp2_with fail
 have HC0:Hd (CopyAt w (w.alloc (.cells #[.slice none 0 0,.slice la ln lc,.slice none 0 0,.bool false,.int .i64 0,.bool false] 112)) w.heap.size F (.slice la ls.length lc) ls [] (.slice none 0 0) []):=by
  have hX:Ext w (w.alloc (.cells #[.slice none 0 0,.slice la ln lc,.slice none 0 0,.bool false,.int .i64 0,.bool false] 112)):=(lI w).alloc _;refine⟨⟨⟨_,.inr rfl,by rw [HLN.o];exact heap_alloc_new _ _⟩,rB _ _ _ _,H.o.lrow.ext hX,rB _ _ _ _,fun x hx=>by simp at hx,by simp,by simp,.inr ⟨lO _,by simp⟩,fun q hq=>by simp [lH] at hq,fun q hq=>.inl (H.o.fl' q hq),fun q hq=>by simp [lH] at hq,fun b hb=>?_,H.o.lnil,.inl rfl⟩,rfl,fun x hx=>by simp at hx,fun q hq=>by simp [lH] at hq,hX⟩;rcases hb with hb|hb
  ·exact rA (H.o.lt b hb) hX.le
  ·exact hb.2
 generalize lP w _=W at HC0 ⊢;obtain⟨NB,hNB⟩:∃NB,w.heap.size=NB:=⟨_,rfl⟩
 rw [hNB] at HC0 ⊢;have hNBw:w.heap.size<=NB:=by omega
 have HNB:=hid hNB;clear hNB
 go_loopw [20] (fun i wr=>∃(j:Nat) (sv1:Value) (R1:List StkR),j<=rn/\i=.int .i64 j/\CopyAt w wr NB F (.slice la ls.length lc) ls (R.take j) sv1 R1) (fun i _=>rn - (intOf i).toNat)
 case atStart=>exact⟨0,_,[],lT _,rfl,HC0.o⟩
 case round=>
  obtain⟨j,sv1,R1,hj,rfl,hcp⟩:=hrel;have HC:=hid hcp;have hx:=hcp.ext;have hwl:=hx.le;by_cases hlt:j<rn
  ·have hjR:j<R.length:=by rw [HRN.o];exact hlt
   have hsr:=H.o.srow;rcases zw hsr with⟨_,h0,_⟩|⟨g,cap,hg,_,_,_⟩
   ·omega
   ·injection hg with hg1 hg2 hg3
    subst hg1 hg3;rw [HRN.o] at hsr;have e0:wr.cell? ⟨g,j,none⟩=some (.pointer (some ⟨R[j].blk,0,none⟩)):=hx.cell (zk hsr (by simp [Zt,hjR]));have hgl:=lG wr _ e0;have hxs:=(H.o.ext hx).stk R[j] (lV hjR);have hkb:=hxs.blk;have k0:wr.cell? ⟨R[j].blk,0,none⟩=some (.int .i64 (R[j].kd:Int)):=zc hkb rfl;have k1:wr.cell? ⟨R[j].blk,1,none⟩=some (.int .i64 (R[j].m:Int)):=zc hkb rfl;have k2:wr.cell? ⟨R[j].blk,2,none⟩=some (.int .i64 (R[j].k:Int)):=zc hkb rfl;have k3:wr.cell? ⟨R[j].blk,3,none⟩=some (.int .i64 (R[j].n:Int)):=zc hkb rfl;have k4:wr.cell? ⟨R[j].blk,4,none⟩=some (.int .i64 (R[j].ts.length:Int)):=zc hkb rfl;have k5:wr.cell? ⟨R[j].blk,5,none⟩=some (.int .i64 (R[j].leased:Int)):=zc hkb rfl;have k6:wr.cell? ⟨R[j].blk,6,none⟩=some (.map (some R[j].mb)):=zc hkb rfl;have hbl:=lG wr _ k0;obtain⟨D,hD,hK⟩:=hxs.map;have hml:=hD.lt;obtain⟨es,clock,hmb,hfit⟩:=hD;have HMB:=hid hmb;have HFit:Hd _:=hfit;have HK:=hid hK;have hnb:=hcp.st.deal.cells.1;have hNBl:=hcp.st.deal.lt;obtain⟨s1a,s1c,hs1⟩:=zo hcp.st.srow;subst hs1;clear hcp hsr hxs hkb hmb hfit hK hx;obtain⟨X,hX⟩:∃X,R[j]=X:=⟨_,rfl⟩
    have HXJ:=hid hX;rw [hX] at e0 k0 k1 k2 k3 k4 k5 k6 hbl hml HMB HFit HK;clear hX;go_wp2_with fail
    refine(jk X.mb es clock _ (zC HMB.o)).mono ?_;rintro e w2 ⟨rfl,rfl⟩;rw [World.size_alloc];have hV0:((wr.alloc (.cells #[.int .i64 (X.kd:Int),.int .i64 (X.m:Int),.int .i64 (X.k:Int),.int .i64 (X.n:Int),.int .i64 (X.ts.length:Int),.int .i64 (X.leased:Int),.map (some X.mb)] 154)).alloc (.map es clock)).heap[wr.heap.size]?=some (.cells #[.int .i64 (X.kd:Int),.int .i64 (X.m:Int),.int .i64 (X.k:Int),.int .i64 (X.n:Int),.int .i64 (X.ts.length:Int),.int .i64 (X.leased:Int),.map (some X.mb)] 154 (0,0)):=zC (heap_alloc_new _ _);have hV1:((wr.alloc (.cells #[.int .i64 (X.kd:Int),.int .i64 (X.m:Int),.int .i64 (X.k:Int),.int .i64 (X.n:Int),.int .i64 (X.ts.length:Int),.int .i64 (X.leased:Int),.map (some X.mb)] 154)).alloc (.map es clock)).heap[wr.heap.size+1]?=some (.map es clock):=zm (by simp);have hXV:Ext wr ((wr.alloc (.cells #[.int .i64 (X.kd:Int),.int .i64 (X.m:Int),.int .i64 (X.k:Int),.int .i64 (X.n:Int),.int .i64 (X.ts.length:Int),.int .i64 (X.leased:Int),.map (some X.mb)] 154)).alloc (.map es clock)):=((lI wr).alloc _).alloc _;generalize lP (lP wr _) _=V at hV0 hV1 hXV ⊢;obtain⟨ob,hob⟩:∃ob,wr.heap.size=ob:=⟨_,rfl⟩
    obtain⟨mb,hmbE⟩:∃mb,wr.heap.size+1=mb:=⟨_,rfl⟩
    rw [hmbE] at hV1 ⊢;rw [hob] at hV0 ⊢;have hlo:wr.heap.size<=ob/\wr.heap.size<=mb/\ob≠mb:=by omega
    have o6:V.cell? ⟨ob,6,none⟩=some (.map (some X.mb)):=zc hV0 rfl;have f6:=ze hV0 6;have hobl:=lG V _ o6;have hnbo:NB≠ob:=by omega
    have hnb:=hXV.cell hnb;have hNBl2:=rA hNBl hXV.le;have HV:Hd _:=And.intro hV0 (And.intro hV1 hXV);have HHB:Hd (wr.heap.size=ob/\wr.heap.size+1=mb):=⟨hob,hmbE⟩
    clear hV0 hV1 hXV hob hmbE e0 k0 k1 k2 k3 k4 k5 k6;have hsV:=HV.o.2.2.owns HC.o.st.srow;have HSV:=hid hsV;have HR1L:Hd (R1.length=j):=by
     have h1:=congrArg List.length HC.o.abs;simp at h1;show R1.length=j
     omega
    obtain⟨rl,hrl⟩:∃rl,R1.length=rl:=⟨_,rfl⟩
    have HRL:=hid hrl;have hrlb:rl<=100:=by rw [<-hrl,HR1L.o];omega
    rw [hrl] at HSV hnb;have HNE:Hd (lH (.slice s1a rl s1c)≠some ob):=fun e=>by have:=zx HSV.o e;have:=zx HC.o.st.srow (g:=ob) (by rw [hrl];exact e);omega
    clear hsV hrl;go_wp2_with (at_builtin;refine wpList_append_lies _ rfl _ _ 106 rfl 0 151 i0 _ 1 8 underlying106 hi hz0 hz1 hz2 rfl (by decide) (.slice s1a rl s1c) rl (Zt R1) rfl (Ext.owns (lK (lI _) _) (zi HSV.o HNE.o _)) ⟨_,0,none⟩ 1 1 [.pointer (some ⟨ob,0,none⟩)] rfl rfl (rI (zm (by simp))) (by simp [Value.oneCell']) (by decide) (by unfold maxLen;omega) (by omega) (lT _) _ rfl ?_)
    intro g1 cap1 w4 hown4 hgrow4 hat4 hlt4;have hcs:=JK (by rw [<-HRL.o];exact HC.o) hjR HXJ.o HRL.o HV.o.1 HV.o.2.1 HV.o.2.2 HFit.o HK.o HHB.o hNBw hown4 hgrow4 hat4;have n0:=hcs.1.cells.1;have fn0:=hcs.1.frozen 0;have hNB4:=hcs.1.lt;have HCS:Hd _:=hcs.2;clear hcs hown4 hgrow4 hat4;go_wp2
    go_roundw
    case rel=>exact⟨j+1,_,_,by omega,by go_num,HCS.o⟩
    case measure=>simp [intOf];omega
  ·obtain rfl:j=rn:=by omega
   have HC1:Hd (CompAt w wr NB F (.slice la ls.length lc) ls (R.map lL) sv1 R1):=by have h:=hcp;rw [rM (by rw [HRN.o];exact lO _)] at h;exact⟨h.st,h.abs,h.new,h.sv,h.ext,hNBw⟩
   have c1:=hx.cell c1;have hBr:=rA hB hwl;clear hcp hx HC;go_wp2
   go_loopw [48] (fun i wr=>∃(q:Nat) (R2:List StkR),q<=ln/\i=.int .i64 q/\CompAt w wr NB F (.slice la ls.length lc) ls (zq (R.map lL) (ls.take q)) sv1 R2) (fun i _=>ln - (intOf i).toNat)
   case atStart=>exact⟨0,R1,lT _,rfl,HC1.o⟩
   case round=>
    clear c1 hBr hwl;obtain⟨q,R2,hq,rfl,hcp⟩:=hrel;have HC:=hid hcp;have hx:=hcp.ext;have hwl:=hx.le;clear hcp;by_cases hlt:q<ln
    ·have hqL:q<ls.length:=by rw [HLN.o];exact hlt
     have hlr:=H.o.lrow;rcases zw hlr with⟨_,h0,_⟩|⟨g,cap,hg,_,_,_⟩
     ·omega
     ·injection hg with hg1 hg2 hg3
      subst hg1 hg3;obtain⟨l0,l1,l2,l3,l4,l5,l6,l7,l8⟩:=(hlr.ext hx).cells q hqL;have hgl:=lG wr _ l0;have hnx:zq (R.map lL) (ls.take (q+1))=if ls[q].r=true then Zo (zq (R.map lL) (ls.take q)) ls[q] else zq (R.map lL) (ls.take q):=by rw [rV hqL,vm]
      obtain⟨b0,b1,b2,b3,b4⟩:=HOF.o ls[q] (lV hqL);rw [<-ug _ (ls.take q),<-HC.o.abs] at b4;have hNBl:=HC.o.st.deal.lt;have hR2:R2.length<=100:=by have h1:=congrArg List.length HC.o.abs;rw [ZR,rU,rU,HRN.o] at h1;omega
      clear hlr hx;cases hrr:ls[q].r with
      | false=>
       rw [hrr] at l8;have HNx:Hd (zq (R.map lL) (ls.take (q+1))=zq (R.map lL) (ls.take q)):=by
        show _=_
        rw [hnx,hrr]
        rfl
       generalize ls[q]=l at *;clear hnx hrr;go_wp2
       go_roundw
       case rel=>
        refine⟨q+1,R2,by omega,by go_num,?_⟩;rw [HNx.o];exact HC.o.alloc _
       case measure=>simp [intOf];omega
      | true=>
       rw [hrr] at l8;obtain⟨l,hl⟩:∃l,ls[q]=l:=⟨_,rfl⟩
       rw [hl] at l0 l1 l2 l3 l4 l5 l6 l7 hnx hrr b0 b1 b2 b3 b4;have HFg:Hd (∀w',Ext wr w'->_):=fun w' hx=>HC.o.forget l b0 b1 b2 b3 b4 hR2 w' hx
       have HNx:Hd (zq (R.map lL) (ls.take (q+1))=Zo (zq (R.map lL) (ls.take q)) l):=by
        show _=_
        rw [hnx,if_pos hrr]
       obtain⟨lf,ef⟩:=rZ b0;obtain⟨lc',ec⟩:=rZ b2;clear hnx hrr hl b0 b1 b2 b3 b4 ef ec;go_wp2_with fail
       refine(HFg.o _ ((lI wr).alloc _)).mono ?_;rintro e w3 ⟨rfl,R3,hc3⟩;have HC3:Hd _:=hc3;clear hc3;go_wp2
       go_roundw
       case rel=>exact⟨q+1,R3,by omega,by go_num,by rw [HNx.o];exact HC3.o⟩
       case measure=>simp [intOf];omega
    ·obtain rfl:q=ln:=by omega
     have HF:Hd (CompAt w wr NB F (.slice la ls.length lc) ls (zq (R.map lL) ls) sv1 R2):=by have h:=HC.o;rw [rM (by rw [HLN.o];exact lO _)] at h;exact h
     go_wp2;go_ret;exact⟨_,_,_,rfl,HF.o⟩
end
end
section
theorem J3 {s:Sh}{u:List Int×Bool}:OkT s (YJ u):=fun h=>by simp [YJ] at h
theorem VQ {x:Stk}(h:StkOk x)(f c:Nat):StkOk (x.forget f c) where
 sh:=h.sh
 made:=by have e:(x.forget f c).ts.length=x.ts.length:=yh _ _ _;rw [e];exact h.made
 ts:=fun u hu=>by
  obtain⟨i,hi,rfl⟩:=sK hu;have h1:=XY x.ts f c i;have hi':i<x.ts.length:=by have e:(x.forget f c).ts.length=x.ts.length:=yh _ _ _;omega
  have h2:(x.forget f c).ts[i]?=some (x.forget f c).ts[i]:=lZ hi;have h3:(x.forget f c).ts[i]?=(yw x.ts f c)[i]?:=rfl;rw [h3,h1,lZ hi'] at h2;simp only [Option.map_some,Option.some.injEq] at h2;rw [<-h2];split
  ·exact J3
  ·exact h.ts _ (lV hi')
theorem vj {S:List Stk}(h:∀x∈S,StkOk x)(l:LsV):∀x∈Zo S l,StkOk x:=by
 unfold Zo;split
 ·rename_i ix hix
  obtain⟨hi,_⟩:=zU hix;rw [Qh _ _ hi];intro x hx;rcases List.mem_or_eq_of_mem_set hx with hx|rfl
  ·exact h x hx
  ·exact VQ (h _ (lV hi)) _ _
 ·exact h
theorem vz {S:List Stk}(h:∀x∈S,StkOk x)(ls:List LsV):∀x∈zq S ls,StkOk x:=by
 induction ls generalizing S with
 | nil=>exact h
 | cons l t ih=>
  show ∀x∈zq (if l.r=true then Zo S l else S) t,StkOk x
  apply ih;split
  ·exact vj h l
  ·exact h
section
variable {B:Nat}{F:Nat->Prop}{sv lv dv:Value}{R:List StkR}{ls:List LsV}{ops:List OpV}{fl:Bool}{ah:Int}{kn:Bool}
theorem StoreOf.swap {w w2 w3:World}{NB:Nat}{sv1 dv':Value}{R1:List StkR}{S1:List Stk}{ops':List OpV}{fl':Bool}{ah':Int}{kn':Bool}(h:StoreOf w B F sv lv dv R ls ops fl ah kn)(hc:CompAt w w2 NB F lv ls S1 sv1 R1)
  (ht:Turn (fun b=>b=B\/dv.ownBlock=some b) w2 w3) (hd:DealAt w3 B sv lv dv' fl' ah' kn') (ho:jY w3 dv' ops') (hq:∀q,dv'.ownBlock=some q->q<w2.heap.size->dv.ownBlock=some q) (hdn:dv'=.slice none 0 0\/1<=ops'.length) :
  DoPost w (w3.setCell ⟨B,0,none⟩ sv1) B F R1 ls ops' fl' ah' kn':=by
 have hle:=hc.ext.le;have hsz:=ht.size;have hBw:=h.deal.lt;have hT3:Turn (fun b=>b=B) w3 (w3.setCell ⟨B,0,none⟩ sv1):=lQ (S:=fun b=>b=B) (p:=⟨B,0,none⟩) (rD _ w3) (fun _=>rfl) _;have hT:Turn (fun b=>b=B\/dv.ownBlock=some b) w2 (w3.setCell ⟨B,0,none⟩ sv1):=ht.trans (hT3.mono (fun _ _ e=>.inl e));have hold:∀b,(b=B\/dv.ownBlock=some b)->b<w.heap.size:=fun b hb=>hb.elim (fun e=>e▸hBw) (fun e=>zx h.orow e)
 have hs3:w3.heap.size=(w3.setCell ⟨B,0,none⟩ sv1).heap.size:=by simp [rC]
 have hst:=hc.st;have hdB:∀b cur t,w2.heap[b]?=some (.cells cur t (0,0))->(t≠114/\t≠112)->t≠134->¬(b=B\/dv.ownBlock=some b):=fun b cur t hcu h1 h2 hor=>by
  rcases hor with e|e
  ·exact(h.deal.ext hc.ext).tne hcu h1 e
  ·obtain⟨cur',hc'⟩:=zf h.orow e;exact zh hcu (hc.ext.block hc') h2 rfl
 refine⟨sv1,lv,dv',⟨hd.set0 _,hT.owns hst.srow (fun q hqq hor=>by have:=hc.sv q hqq;have:=hold q hor;omega),?_,?_,fun y hy=>?_,hst.nb,hst.nm,.inl h.fB,fun q hqq=>.inr ⟨hc.sv q hqq,?_⟩,fun q hqq=>.inl (h.fl' q hqq),fun q hqq=>?_,fun b hb=>?_,h.lnil,hdn⟩,(lM hc.ext).trans' hT (fun b hb hor=>hor.elim (fun e=>e▸h.fB) (fun e=>h.fd b e))⟩
 ·refine hT.owns hst.lrow (fun q hqq=>?_);obtain⟨cur,hcu⟩:=zf hst.lrow hqq;exact hdB q cur _ hcu (by decide) (by decide)
 ·exact zi ho (hd.rne ho (by decide)) _
 ·have hyk:=hst.stk y hy;have hn:=hc.new y hy;refine(hyk.turn' hT (fun hor=>by have:=hold _ hor;omega) (fun hor=>by have:=hold _ hor;omega) (fun b cur hcu=>hdB b cur _ hcu (by decide) (by decide))).mono (fun b hb=>hb.imp id (fun h=>⟨h.1,by omega⟩))
 ·rw [<-hs3];have:=zx hst.srow hqq;omega
 ·by_cases e:q<w2.heap.size
  ·exact .inl (h.fd _ (hq q hqq e))
  ·exact .inr ⟨by omega,by rw [<-hs3];exact zx ho hqq⟩
 ·rcases hb with hb|hb
  ·have:=h.lt b hb;rw [<-hs3];omega
  ·exact hb.2
def gc (B:Nat)(F:Nat->Prop)(R:List StkR)(ls:List LsV)(ops:List OpV)(fl:Bool)(ah:Int)(k1 k0:Nat)(S1:List Stk)(recs:List ByteArray)(ok:Bool)(w w':World)(c:Int):Prop:=
 (k1=k0/\c=0/\Ext w w')\/(k1≠k0/\c=(if ok then 0 else 10)/\∃R',DoPost w w' B F R' ls (ops++ZM fl ah (yH (yf recs))) (ZZ fl ah 4) (ye fl ah 4) ok/\R'.map lL=if ok then S1 else R.map lL)
theorem XJ (hR:R.length<=100)(hRm:∀x∈R,x.ts.length<=1000)(hls:ls.length<=900)(hops:ops.length<=1000000)(hah:yv fl ah)(hok:∀x∈R,StkOk x.abs)(hlok:∀l∈ls,xH l)(hof:∀l∈ls,0<=l.f/\l.f<=1000/\0<=l.c/\l.c<=1000/\(R.map lL).any (fun x=>x.is l.kd l.m l.k l.n)=true)(w:World)(h:StoreOf w B F sv lv dv R ls ops fl ah kn) :
  Calls Tryz.prog 81 #[.pointer (some ⟨B,0,none⟩)] w fun e w'=>∃c,e=.returned (.int .i64 c)/\gc B F R ls ops fl ah (yq (zq (R.map lL) ls)) (yq (R.map lL)) (zq (R.map lL) ls) (yR (zq (R.map lL) ls) ls) (Zg fl ah 4) w w' c:=by
 have HCo:Hd _:=uY hR hls hof w h;have hok':=vz (S:=R.map lL) (fun x hx=>by obtain⟨y,hy,rfl⟩:=sC.1 hx;exact hok y hy) ls;have hlen':=ZR (R.map lL) ls;obtain⟨S1,hS1⟩:∃S1,zq (R.map lL) ls=S1:=⟨_,rfl⟩
 rw [hS1] at HCo hok' hlen' ⊢;have HKp:Hd (∀w',Ext w w'->Calls Tryz.prog 118 #[.pointer (some ⟨B,0,none⟩)] w' fun e w''=>e=.returned (.int .i64 (yq (R.map lL)))/\Ext w' w''):=fun w' hx=>kF hR hRm w' (h.ext hx)
 have hlR1:∀R1:List StkR,R1.map lL=S1->R1.length<=100:=fun R1 e=>by have:=congrArg List.length e;rw [hlen',rU,rU] at this;omega
 have HKn:Hd (∀w2 NB sv1 R1,CompAt w w2 NB F lv ls S1 sv1 R1->∀w',Ext w2 w'->Calls Tryz.prog 118 #[.pointer (some ⟨NB,0,none⟩)] w' fun e w''=>e=.returned (.int .i64 (yq S1))/\Ext w' w''):=fun w2 NB sv1 R1 hc w' hx=>by
  have:=kF (hlR1 R1 hc.abs) (fun x hx=>by have:=(hok' x.abs (by rw [<-hc.abs];exact sC.2 ⟨x,hx,rfl⟩)).made.2;have e:x.abs.ts.length=x.ts.length:=rfl;omega) w' (hc.st.ext hx)
  rwa [hc.abs] at this
 have HRe:Hd (∀w2 NB sv1 R1,CompAt w w2 NB F lv ls S1 sv1 R1->∀w',Ext w2 w'->Calls Tryz.prog 92 #[.pointer (some ⟨NB,0,none⟩)] w' fun e w''=>∃v,e=.returned v/\yX w'' w'.heap.size v (yR S1 ls)/\Ext w' w''):=fun w2 NB sv1 R1 hc w' hx=>by
  have:=Vs (hlR1 R1 hc.abs) hls (fun x hx=>hok' x.abs (by rw [<-hc.abs];exact sC.2 ⟨x,hx,rfl⟩)) hlok w' (hc.st.ext hx)
  rwa [hc.abs] at this
 have HSz:Hd (∀q∈yR S1 ls,q.size<=100000):=vS hok';have hrl:(yR S1 ls).length<=1900:=by have h1:=List.length_filter_le (·.r) ls;simp only [yR,lW,rU];rw [rU] at hlen';omega
 have H:=hid h;have HAH:=hid hah;have HOps:=hid hops;have hB:=h.deal.lt;obtain⟨kk0,hkk0⟩:∃kk0,yq (R.map lL)=kk0:=⟨_,rfl⟩
 obtain⟨kk1,hkk1⟩:∃kk1,yq S1=kk1:=⟨_,rfl⟩
 rw [hkk0] at HKp ⊢;rw [hkk1] at HKn ⊢;obtain⟨ok,hdk⟩:∃ok,Zg fl ah 4=ok:=⟨_,rfl⟩
 have HOK:=hid hdk;rw [hdk];generalize yR S1 ls=recs at *;clear h hok hlok hof hok' hlen' hlR1 hS1 hah hops hkk0 hkk1 hdk hRm hls hR;go_enter func81,ntmps81;go_wp2_with fail
 refine Calls.mono HCo.o ?_;rintro e w2 ⟨NB,sv1,R1,rfl,hc⟩;have HC:=hid hc;have hNB:=hc.st.deal.lt;have hw2:=hc.ext.le;have HKn2:=hid (HKn.o w2 NB sv1 R1 hc);have HRe2:=hid (HRe.o w2 NB sv1 R1 hc);have HKp2:Hd (∀w',Ext w2 w'->_):=fun w' hx=>HKp.o w' (hc.ext.trans hx)
 clear hc;go_wp2_with fail
 refine(HKn2.o _ (lI _)).mono ?_;rintro e w3 ⟨rfl,hx3⟩;have HX3:=hid hx3;clear hx3;go_wp2_with fail
 refine(HKp2.o _ HX3.o).mono ?_;rintro e w4 ⟨rfl,hx4⟩;have HX4:Hd (Ext w2 w4):=HX3.o.trans hx4;clear hx4;by_cases hkk:kk1=kk0
 ·subst hkk;have HXf:Hd (Ext w w4):=HC.o.ext.trans HX4.o;go_wp2;go_ret;exact⟨0,rfl,.inl ⟨rfl,rfl,HXf.o⟩⟩
 ·have hkb:((kk1:Int) == (kk0:Int))=false:=by simp;omega
  have HKK:=hid hkk;clear hkk;have HRp:Hd (∀(w5:World) (va:Option Addr) (vc:Nat),Ext w2 w5->yX w5 w4.heap.size (.slice va recs.length vc) recs->Calls Tryz.prog 91 #[.pointer (some ⟨B,2,none⟩),.slice va recs.length vc] w5 fun e w'=>
   ∃dv',e=.returned (.bool (Zg fl ah 4))/\DidOps B sv lv dv fl ah (Zg fl ah 4) ops.length (zz ops) (yH (yf recs)) w5 w' dv'):=fun w5 va vc hx5 ho5=>by
   refine vT B vc recs.length ops.length va recs sv lv dv fl ah kn HAH.o (zz ops) w5 (H.o.deal.ext (HC.o.ext.trans hx5)) ((HC.o.ext.trans hx5).owns H.o.orow) rfl (by omega) HSz.o ?dc HOps.o
   case dc=>
    intro i hi';rcases zw ho5 with⟨_,h0,_⟩|⟨g,cap,hg,_,_,_⟩
    ·omega
    ·injection hg with hg1 hg2 hg3
     subst hg1;refine⟨g,rfl,?_⟩;have:=lR.cellAt ho5 i (by omega);rw [this,xm,List.getElem?_map,lZ hi']
     rfl
  rw [HOK.o] at HRp;have hB4:B<w4.heap.size:=rA hB (Nat.le_trans hw2 HX4.o.le);have hb4:=HX4.o.le;go_wp2_with fail
  go_region_held3 (fun _=>True) (trivial) (first
   | (go_at_call 92;refine(HRe2.o _ (lJ HX4.o)).mono ?_;rintro e w5 ⟨v,rfl,ho5,hx5⟩;obtain⟨va,vc,hv⟩:=zo ho5;subst hv)
   | (go_at_call 91;refine(HRp.o _ _ _ (lY hx5 (lJ HX4.o)) ho5).mono ?_;rintro e w6 ⟨dv',rfl,hd6⟩))
  have HX5:Hd (Ext w2 w5):=lY hx5 (lJ HX4.o);clear hx5 ho5;have HC5:=hid (HC.o.more HX5.o);have HO6:Hd (jY w6 dv' (ops++ZM fl ah (yH (yf recs)))):=by
   show lR _ 0 134 4 dv' _ _
   rw [YA,lW,Y7 fl ah HAH.o];exact hd6.row
  cases ok with
  | false=>
   have HP:Hd (DoPost w w6 B F R ls (ops++ZM fl ah (yH (yf recs))) (ZZ fl ah 4) (ye fl ah 4) false):=
    DoPost.disk ((H.o.ext HC5.o.ext).did HAH.o hd6) H.o.lt HC5.o.ext hd6.turn (fun b _ hb=>hb.elim (fun e=>e▸H.o.fB) (fun e=>H.o.fd b e))
   clear hd6;go_wp2;go_ret;exact⟨10,rfl,.inr ⟨HKK.o,rfl,R,HP.o,rfl⟩⟩
  | true=>
   have HP:=hid (H.o.swap HC5.o hd6.turn hd6.deal HO6.o hd6.own (jK HAH.o H.o.dnil hd6));have b0:=hd6.deal.cells.1;have fb0:=hd6.deal.frozen 0;have hB6:=hd6.deal.lt;have hNB5:=HC5.o.st.deal.cells.1;have n0:w6.cell? ⟨NB,0,none⟩=some sv1:=hd6.turn.cell hNB5 (fun hor=>by
    have h1:=HC5.o.nb;rcases hor with e|e
    ·have:NB=B:=e;omega
    ·have:=zx H.o.orow (show dv.ownBlock=some NB from e);omega)
   have hNB6:=lG w6 _ n0;have HAb:=hid (HC5.o.abs);obtain⟨s1a,s1c,hs1⟩:=zo HC5.o.st.srow;obtain⟨s0a,s0c,hs0⟩:=zo H.o.srow;rw [hs1] at n0 HP;rw [hs0] at b0;clear hd6 hNB5 hs1 hs0;go_wp2;go_ret;exact⟨0,rfl,.inr ⟨HKK.o,rfl,R1,HP.o,HAb.o⟩⟩
theorem xF {Q:World->Int->Prop}(w:World)(h:Calls Tryz.prog 81 #[.pointer (some ⟨B,0,none⟩)] w fun e w'=>∃c,e=.returned (.int .i64 c)/\Q w' c) :
  Calls Tryz.prog 46 #[.pointer (some ⟨B,0,none⟩)] w fun e w'=>∃c,e=.returned (.int .i64 c)/\Q w' c:=by
 have HC:Hd _:=h;clear h;go_enter func46,ntmps46;go_wp2_with fail
 refine Calls.mono HC.o ?_;rintro e w2 ⟨c,rfl,hq⟩;have HQ:Hd _:=hq;clear hq;go_wp2;go_ret;exact⟨c,rfl,HQ.o⟩
end
end
section
def qH (x:Stk)(t:Nat)(l:LsV):Bool:=l.r && (x.is l.kd l.m l.k l.n && (decide (l.f.toNat<=t) && decide (t<l.f.toNat+l.c.toNat)))
def up (S:List Stk):Prop:=∀i j (hi:i<S.length)(hj:j<S.length),S[i].is S[j].kd S[j].m S[j].k S[j].n=true->i=j
structure ForgotBy (p:Nat->Bool)(x y:Stk):Prop where
 same:SameBut x y
 flag:∀t (h:t<x.ts.length) (h':t<y.ts.length),y.ts[t].2=(x.ts[t].2 && !p t)
theorem SameBut.is {x y:Stk}(h:SameBut x y)(kd m k n:Int):y.is kd m k n=x.is kd m k n:=by unfold Stk.is;rw [h.kd,h.m,h.k,h.n]
theorem SameBut.refl (x:Stk):SameBut x x:=⟨rfl,rfl,rfl,rfl,rfl,rfl,fun _ _ _=>rfl⟩
theorem SameBut.trans {x y z:Stk}(h:SameBut x y)(g:SameBut y z):SameBut x z:=⟨g.kd.trans h.kd,g.m.trans h.m,g.k.trans h.k,g.n.trans h.n,g.leased.trans h.leased,g.len.trans h.len,fun i hi hi'=>(g.ts i (by rw [h.len];exact hi) hi').trans (h.ts i hi _)⟩
theorem ForgotBy.refl (x:Stk):ForgotBy (fun _=>false) x x:=⟨.refl x,fun t h h'=>by simp⟩
theorem ForgotBy.trans {p q:Nat->Bool}{x y z:Stk}(h:ForgotBy p x y)(g:ForgotBy q y z):ForgotBy (fun t=>p t || q t) x z:=
 ⟨h.same.trans g.same,fun t ht ht'=>by rw [g.flag t (by rw [h.same.len];exact ht) ht',h.flag t ht _];cases x.ts[t].2<;>cases p t<;>cases q t<;>rfl⟩
theorem vv (x:Stk)(f c:Nat):ForgotBy (fun t=>decide (f<=t) && decide (t<f+c)) x (x.forget f c):=by
 have hl:(x.forget f c).ts.length=x.ts.length:=yh _ _ _;have hat:∀t (h:t<x.ts.length) (h':t<(x.forget f c).ts.length),(x.forget f c).ts[t]=if f<=t/\t<f+c then YJ x.ts[t] else x.ts[t]:=fun t h h'=>by have h1:=XY x.ts f c t;have h2:(yw x.ts f c)[t]?=some (x.forget f c).ts[t]:=lZ h';rw [h2,lZ h] at h1;injection h1
 refine⟨⟨rfl,rfl,rfl,rfl,rfl,hl,fun i hi hi'=>?_⟩,fun t h h'=>?_⟩
 ·rw [hat i hi hi'];split<;>rfl
 ·rw [hat t h h'];by_cases hc:f<=t/\t<f+c
  ·rw [if_pos hc];simp [YJ,hc.1,hc.2]
  ·rw [if_neg hc];have:(decide (f<=t) && decide (t<f+c))=false:=by
    cases hq:(decide (f<=t) && decide (t<f+c))
    ·rfl
    ·simp at hq;exact absurd hq hc
   simp only [this];cases x.ts[t].2<;>rfl
theorem jZ {S T:List Stk}(h:up S)(hl:T.length=S.length)(hs:∀i (hi:i<S.length)(hi':i<T.length),SameBut S[i] T[i]):up T:=fun i j hi hj hh=>by
 have hi2:i<S.length:=by omega
 have hj2:j<S.length:=by omega
 have h1:=hs i hi2 hi;have h2:=hs j hj2 hj;rw [h1.is,h2.kd,h2.m,h2.k,h2.n] at hh;exact h i j hi2 hj2 hh
theorem jI {x y:Stk}{kd m k n:Int}(h1:x.is kd m k n=true)(h2:y.is kd m k n=true):x.is y.kd y.m y.k y.n=true:=by simp [Stk.is] at h1 h2 ⊢;omega
theorem uq {S:List Stk}(hu:up S)(l:LsV)(i:Nat)(hi:i<S.length):∃y,(Zo S l)[i]?=some y/\ForgotBy (fun t=>S[i].is l.kd l.m l.k l.n && (decide (l.f.toNat<=t) && decide (t<l.f.toNat+l.c.toNat))) S[i] y:=by
 unfold Zo;cases hf:S.findIdx? (fun x=>x.is l.kd l.m l.k l.n) with
 | none=>
  have hno:S[i].is l.kd l.m l.k l.n=false:=by have:=List.findIdx?_eq_none_iff.1 hf S[i] (lV hi);simpa using this
  simp only [hno,Bool.false_and];exact⟨S[i],lZ hi,.refl _⟩
 | some ix=>
  obtain⟨hix,hxi,_⟩:=List.findIdx?_eq_some_iff_getElem.1 hf;by_cases e:ix=i
  ·subst e;simp only [hxi,Bool.true_and];exact⟨_,by rw [List.getElem?_modify_eq,lZ hi];rfl,vv _ _ _⟩
  ·have hno:S[i].is l.kd l.m l.k l.n=false:=by
    cases hq:S[i].is l.kd l.m l.k l.n
    ·rfl
    ·exact absurd (hu ix i hix hi (jI hxi hq)) e
   simp only [hno,Bool.false_and];exact⟨S[i],by rw [List.getElem?_modify_ne _ _ e,lZ hi],.refl _⟩
theorem Xa {S:List Stk}(hu:up S)(l:LsV)(i:Nat)(hi:i<S.length)(hi':i<(Zo S l).length):ForgotBy (fun t=>S[i].is l.kd l.m l.k l.n && (decide (l.f.toNat<=t) && decide (t<l.f.toNat+l.c.toNat))) S[i] (Zo S l)[i]:=by
 obtain⟨y,h1,h2⟩:=uq hu l i hi;rw [lZ hi'] at h1;injection h1 with h1
 rw [h1];exact h2
theorem ForgotBy.congr {p q:Nat->Bool}{x y:Stk}(h:ForgotBy p x y)(e:∀t,p t=q t):ForgotBy q x y:=⟨h.same,fun t ht ht'=>by rw [h.flag t ht ht',e]⟩
theorem ZF (ls:List LsV):∀{S:List Stk},up S->∀i (hi:i<S.length)(hi':i<(zq S ls).length),ForgotBy (fun t=>ls.any (qH S[i] t)) S[i] (zq S ls)[i]:=by
 induction ls with
 | nil=>
  intro S _ i hi _;exact .refl _
 | cons l t ih=>
  intro S hu i hi hi';have hstep:zq S (l::t)=zq (if l.r=true then Zo S l else S) t:=rfl;by_cases hr:l.r=true
  ·have hl2:=xq S l;have hu2:up (Zo S l):=jZ hu hl2 (fun j hj hj'=>(Xa hu l j hj hj').same);have h1:=Xa hu l i hi (by omega);have h2:=ih hu2 i (by omega) (by rw [ZR];omega);have h3:=h1.trans h2;have e:zq S (l::t)=zq (Zo S l) t:=by rw [hstep,if_pos hr]
   simp only [e];refine h3.congr (fun u=>?_);rw [List.any_cons];congr 1
   ·simp [qH,hr]
   ·congr 1
    funext l'
    unfold qH;rw [h1.same.is]
  ·have e:zq S (l::t)=zq S t:=by rw [hstep,if_neg hr]
   have h2:=ih hu i hi (by rw [ZR];omega);simp only [e];refine h2.congr (fun u=>?_);rw [List.any_cons];have:qH S[i] u l=false:=by simp [qH,hr]
   rw [this]
   rfl
theorem Qs {α:Type}(p:α->Bool)(d:α)(l:List α):l.countP p=(List.range l.length).countP (fun i=>p (l.getD i d)):=by
 have h:l=(List.range l.length).map (fun i=>l.getD i d):=by apply List.ext_getElem (by simp);intro i h1 h2;simp [rT,lZ h1]
 conv=>lhs;rw [h]
 rw [List.countP_map]
 rfl
theorem JD {α:Type}(p q:α->Bool)(l:List α)(h:∀x∈l,¬(p x=true/\q x=true)):l.countP (fun x=>p x || q x)=l.countP p+l.countP q:=by
 induction l with
 | nil=>rfl
 | cons a t ih=>
  have h1:=ih (fun x hx=>h x (by simp [hx]));have h2:=h a (by simp);simp only [List.countP_cons,h1];cases hp:p a<;>cases hq:q a<;>simp [hp,hq] at h2 ⊢<;>omega
theorem UE (f c n:Nat):(List.range n).countP (fun t=>decide (f<=t) && decide (t<f+c))=min n (f+c) - min n f:=by
 induction n with
 | zero=>simp
 | succ n ih=>
  rw [List.range_succ,List.countP_append,ih];simp only [List.countP_cons,List.countP_nil];by_cases h1:f<=n
  ·by_cases h2:n<f+c
   ·simp [h1,h2];omega
   ·simp [h2];omega
  ·simp [h1];omega
theorem UV (x:Stk):x.gone=(List.range x.ts.length).countP (fun t=>!(x.ts.getD t ([],false)).2):=by
 show (x.ts.filter (fun t=>!t.2)).length=_
 rw [<-List.countP_eq_length_filter];exact Qs _ _ _
theorem qh (x:Stk):(x.ts.filter (·.2)).length=(List.range x.ts.length).countP (fun t=>(x.ts.getD t ([],false)).2):=by rw [<-List.countP_eq_length_filter];exact Qs (fun t:List Int×Bool=>t.2) _ _
theorem vB {α:Type}{p q:α->Bool}{l:List α}(h:∀x∈l,p x=q x):l.countP p=l.countP q:=by
 induction l with
 | nil=>rfl
 | cons a t ih=>
  rw [List.countP_cons,List.countP_cons,ih (fun x hx=>h x (by simp [hx])),h a (by simp)]
theorem Jd {S:List Stk}{ls:List LsV}(h:InvS S ls)(i:Nat)(hi:i<S.length):∀j,j<=ls.length->((List.range S[i].ts.length).countP (fun t=>(ls.take j).any (qH S[i] t)):Int)=Z3 S[i] (ls.take j):=by
 intro j
 induction j with
 | zero=>
  intro _;simp [Z3]
 | succ j ih=>
  intro hj;have hjl:j<ls.length:=by omega
  rw [XZ S[i] ls j hjl,<-ih (by omega),rV hjl];have e1:∀t,((ls.take j)++[ls[j]]).any (qH S[i] t)=((ls.take j).any (qH S[i] t) || qH S[i] t ls[j]):=fun t=>by rw [List.any_append,List.any_cons,List.any_nil,Bool.or_false]
  simp only [e1];rw [JD]
  ·obtain⟨h1,h2,h3,x,h4,h5⟩:=h.of ls[j] (lV hjl);by_cases hc:(S[i].is ls[j].kd ls[j].m ls[j].k ls[j].n && ls[j].r)=true
   ·rw [if_pos hc];simp at hc;have hx:S[i]=x:=by
     have hxi:x.is ls[j].kd ls[j].m ls[j].k ls[j].n=true:=by simpa using List.find?_some h4
     obtain⟨b,hb,hbe⟩:=sK (List.mem_of_find?_eq_some h4);subst hbe;have:=h.uniq i b hi hb (jI hc.1 hxi);subst this
     rfl
    have hm:=h.made S[i] (lV hi);rw [<-hx] at h5;have e2:∀t,qH S[i] t ls[j]=(decide (ls[j].f.toNat<=t) && decide (t<ls[j].f.toNat+ls[j].c.toNat)):=fun t=>by simp [qH,hc.1,hc.2]
    simp only [e2];rw [UE];omega
   ·rw [if_neg hc];have e2:∀t,qH S[i] t ls[j]=false:=fun t=>by
     cases hq:qH S[i] t ls[j]
     ·rfl
     ·simp [qH] at hq;exact absurd (by simp [hq.1,hq.2.1]) hc
    simp only [e2];rw [List.countP_false];simp
  ·intro t _ hh;obtain⟨l,hl,hlc⟩:=List.any_eq_true.1 hh.1;obtain⟨a,ha,hae⟩:=sK hl;have ha':a<j:=by rw [List.length_take] at ha;omega
   rw [List.getElem_take] at hae;subst hae;have h2:=hh.2;simp [qH,Stk.is] at hlc h2;have h3:=h.of ls[a] (lV (by omega));have h4:=h.of ls[j] (lV hjl);have:=h.apart a j (by omega) hjl ha' (by omega);omega
theorem InvS.uniq' {S:List Stk}{ls:List LsV}(h:InvS S ls):up S:=h.uniq
theorem qi {x:Stk}{t:Nat}(h:t<x.ts.length):(x.ts.getD t ([],false))=x.ts[t]:=by rw [rT,lZ h];rfl
theorem QL {S:List Stk}{ls:List LsV}(h:InvS S ls)(i:Nat)(hi:i<S.length)(hi':i<(zq S ls).length):SameBut S[i] (zq S ls)[i]/\(((zq S ls)[i].gone:Nat):Int)=Z3 S[i] ls:=by
 have hf:=ZF ls h.uniq' i hi hi';refine⟨hf.same,?_⟩;have hc:=Jd h i hi ls.length (lO _);rw [List.take_length] at hc;rw [<-hc,UV,hf.same.len];congr 1;refine vB (fun t ht=>?_);have ht1:t<S[i].ts.length:=List.mem_range.1 ht;have ht2:t<(zq S ls)[i].ts.length:=by rw [hf.same.len];exact ht1
 rw [qi ht2,hf.flag t ht1 ht2];cases hk:S[i].ts[t].2 with
 | true=>simp
 | false=>
  obtain⟨l,hl,h1,h2,h3,h4⟩:=h.kept S[i] (lV hi) t ht1 hk;have h5:=(h.of l hl).1;simp only [Bool.false_and,Bool.not_false]
  symm
  refine List.any_eq_true.2 ⟨l,hl,?_⟩;simp [qH,h1,h2];omega
theorem Vo:∀{f g:List Nat},f.length=g.length->(∀i (h1:i<f.length)(h2:i<g.length),f[i]<=g[i])->f.sum=g.sum->f=g
 | [],[],_,_,_=>rfl
 | a::f,b::g,hl,hle,hs=>by
  have h0:a<=b:=hle 0 (by simp) (by simp);have ht:∀i (h1:i<f.length) (h2:i<g.length),f[i]<=g[i]:=fun i h1 h2=>hle (i+1) (by simpa using h1) (by simpa using h2)
  have hsl:f.sum<=g.sum:=sum_le (by simpa using hl) ht;simp only [List.sum_cons] at hs;have ha:a=b:=by omega
  have hf:f=g:=Vo (by simpa using hl) ht (by omega);rw [ha,hf]
 where
 sum_le:∀{f g:List Nat},f.length=g.length->(∀i (h1:i<f.length) (h2:i<g.length),f[i]<=g[i])->f.sum<=g.sum
 | [],[],_,_=>lO _
 | a::f,b::g,hl,hle=>by have h0:a<=b:=hle 0 (by simp) (by simp);have:=sum_le (f:=f) (g:=g) (by simpa using hl) (fun i h1 h2=>hle (i+1) (by simpa using h1) (by simpa using h2));simp only [List.sum_cons];omega
theorem Qu {α:Type}{p q:α->Bool}{l:List α}(h:∀x∈l,q x=true->p x=true):l.countP q<=l.countP p:=by
 induction l with
 | nil=>simp
 | cons a t ih=>
  have h1:=ih (fun x hx=>h x (by simp [hx]));have h2:=h a (by simp);rw [List.countP_cons,List.countP_cons];cases hq:q a<;>cases hp:p a<;>simp [hq,hp] at h2 ⊢<;>omega
theorem UZ {α:Type}{p q:α->Bool}{l:List α}(h:∀x∈l,q x=true->p x=true)(he:l.countP q=l.countP p):∀x∈l,q x=p x:=by
 induction l with
 | nil=>intro x hx;cases hx
 | cons a t ih=>
  have h1:=Qu (p:=p) (q:=q) (l:=t) (fun x hx=>h x (by simp [hx]));have h2:=h a (by simp);rw [List.countP_cons,List.countP_cons] at he;have hqa:q a=p a:=by cases hq:q a<;>cases hp:p a<;>simp [hq,hp] at h2 he ⊢;omega
  intro x hx;rcases List.mem_cons.1 hx with rfl|hx
  ·exact hqa
  ·rw [hqa] at he;exact ih (fun x hx=>h x (by simp [hx])) (by omega) x hx
theorem VK {S:List Stk}{ls:List LsV}(h:up S)(hk:yq (zq S ls)=yq S):zq S ls=S:=by
 have hl:=ZR S ls;have hle:∀i (h1:i<S.length) (h2:i<(zq S ls).length),((zq S ls)[i].ts.filter (·.2)).length<=(S[i].ts.filter (·.2)).length:=fun i h1 h2=>by
  have hf:=ZF ls h i h1 h2;rw [qh,qh,hf.same.len];refine Qu (fun t ht hq=>?_);have ht1:t<S[i].ts.length:=List.mem_range.1 ht;have ht2:t<(zq S ls)[i].ts.length:=by rw [hf.same.len];exact ht1
  rw [qi ht2,hf.flag t ht1 ht2] at hq;rw [qi ht1];simp at hq;exact hq.1
 have heq:=Vo (f:=(zq S ls).map fun x=>(x.ts.filter (fun t=>t.2)).length) (g:=S.map fun x=>(x.ts.filter (fun t=>t.2)).length) (by simp [hl]) (fun i h1 h2=>by simp only [List.getElem_map];exact hle i (by simpa using h2) (by simpa using h1)) (by unfold yq at hk;exact hk)
 apply List.ext_getElem hl;intro i h1 h2;have hf:=ZF ls h i h2 h1;have hc:((zq S ls)[i].ts.filter (·.2)).length=(S[i].ts.filter (·.2)).length:=by have:=congrArg (fun l=>l[i]?) heq;simpa [lZ h1,lZ h2] using this
 rw [qh,qh,hf.same.len] at hc;have hall:=UZ (fun t ht hq=>by
  have ht1:t<S[i].ts.length:=List.mem_range.1 ht;have ht2:t<(zq S ls)[i].ts.length:=by rw [hf.same.len];exact ht1
  rw [qi ht2,hf.flag t ht1 ht2] at hq;rw [qi ht1];simp at hq;exact hq.1) hc
 have hts:(zq S ls)[i].ts=S[i].ts:=by apply List.ext_getElem hf.same.len;intro t ht2 ht1;have:=hall t (List.mem_range.2 ht1);rw [qi ht2,qi ht1] at this;exact Prod.ext (hf.same.ts t ht1 ht2) this
 generalize (zq S ls)[i]=y at *;generalize S[i]=x at *;obtain⟨a1,a2,a3,a4,a5,a6⟩:=x;obtain⟨b1,b2,b3,b4,b5,b6⟩:=y;have e1:b1=a1:=hf.same.kd;have e2:b2=a2:=hf.same.m;have e3:b3=a3:=hf.same.k;have e4:b4=a4:=hf.same.n;have e6:b6=a6:=hf.same.leased;have e5:b5=a5:=hts;subst e1 e2 e3 e4 e5 e6
 rfl
theorem InvS.compact {S:List Stk}{ls:List LsV}(h:InvS S ls):InvS (zq S ls) ls:=by
 have hl:=ZR S ls;have hat:∀y∈zq S ls,∃i,∃hi:i<S.length,∃hi':i<(zq S ls).length,(zq S ls)[i]=y:=fun y hy=>by obtain⟨i,hi,rfl⟩:=sK hy;exact⟨i,by omega,hi,rfl⟩
 refine⟨by rw [hl];exact h.stocks,fun y hy=>?_,fun y hy=>?_,fun y hy t ht=>?_,fun y hy j hj hk=>?_,jZ h.uniq' hl (fun i hi hi'=>(ZF ls h.uniq' i hi hi').same),h.lok,h.leases,fun l hl2=>?_,h.apart⟩
 ·obtain⟨i,hi,hi',rfl⟩:=hat y hy;have hs:=(ZF ls h.uniq' i hi hi').same;rw [hs.kd,hs.m,hs.k,hs.n];exact h.cls S[i] (lV hi)
 ·obtain⟨i,hi,hi',rfl⟩:=hat y hy;have hs:=(ZF ls h.uniq' i hi hi').same;rw [hs.len,hs.leased];exact h.made S[i] (lV hi)
 ·obtain⟨i,hi,hi',rfl⟩:=hat y hy;have hs:=(ZF ls h.uniq' i hi hi').same;obtain⟨a,ha,rfl⟩:=sK ht;have ha':a<S[i].ts.length:=by rw [<-hs.len];exact ha
  rw [hs.ts a ha' ha,hs.each];exact h.ts S[i] (lV hi) _ (lV ha')
 ·obtain⟨i,hi,hi',rfl⟩:=hat y hy;have hf:=ZF ls h.uniq' i hi hi';have hj':j<S[i].ts.length:=by rw [<-hf.same.len];exact hj
  rw [hf.flag j hj' hj] at hk;cases hq:S[i].ts[j].2 with
  | false=>
   obtain⟨l,hl,h1,h2,h3⟩:=h.kept S[i] (lV hi) j hj' hq;exact⟨l,hl,h1,by rw [hf.same.is];exact h2,h3⟩
  | true=>
   rw [hq] at hk;simp only [Bool.true_and,Bool.not_eq_false'] at hk;obtain⟨l,hl,hc⟩:=List.any_eq_true.1 hk;have h0:=h.of l hl;simp [qH] at hc;exact⟨l,hl,hc.1,by rw [hf.same.is];exact hc.2.1,by omega,by omega⟩
 ·obtain⟨h1,h2,h3,x,h4,h5⟩:=h.of l hl2;refine⟨h1,h2,h3,?_⟩;have hm:(zq S ls).map (fun x=>x.is l.kd l.m l.k l.n)=S.map (fun x=>x.is l.kd l.m l.k l.n):=by
   apply List.ext_getElem (by simp [hl]);intro i g1 g2;simp only [List.getElem_map];exact(ZF ls h.uniq' i (by simpa using g2) (by simpa using g1)).same.is _ _ _ _
  cases hx:S.findIdx? (fun x=>x.is l.kd l.m l.k l.n) with
  | none=>rw [z9 hx] at h4;cases h4
  | some ix=>
   obtain⟨hix,hfx⟩:=zU hx;rw [h4] at hfx;injection hfx with hfx
   have hx2:(zq S ls).findIdx? (fun x=>x.is l.kd l.m l.k l.n)=some ix:=by rw [xW,hm,<-xW];exact hx
   obtain⟨hix2,hfx2⟩:=zU hx2;refine⟨_,hfx2,?_⟩;rw [(ZF ls h.uniq' ix hix hix2).same.leased,<-hfx];exact h5
end
section
section
variable {w:World}{P B q c:Nat}{G F:Nat->Prop}{v:GV}{S:List Stk}{ls:List LsV}{ops0:List OpV}{fl:Bool}{ah:Int}
theorem jd {R:List StkR}{ls' lsx:List LsV}{ops new:List OpV}(A:Ans)(h:GameOf w P B G v q S ls ops0 c)(hc:c<=900000)(hst:StoreOk w B F R lsx ops fl ah)(hn:ops.length<=1000000)(hnew:ops=ops0++new)(c0 f0 n0:Int)(zs:List Int)(hin:AnsIn A new v c0 f0 n0 zs)(nv:Value)(q':Nat)(S':List Stk)(hnx:A.next=some (S',ls'))(hone:OneIs w G nv q')(href:RefAt w G q' S' ls')(sm:Bool) :
  Calls Tryz.prog 104 #[.pointer (some ⟨P,0,none⟩),.int .i64 c0,nv,.bool sm] w fun e w'=>e=.returned (.bool true)/\∃v' G' q'' S'' ls'',GameOf w' P B G' v' q'' S'' ls'' ops (c+1)/\GStep (fun b=>w.heap.size<=b) w w' P v v' G G'/\AnsOut A new v v' S ls c0 S'' ls'':=by
 rcases hin.ex with⟨h1,h2,h3,h4,h9⟩|⟨h1,h2,h3,h4,h5,h9⟩
 ·cases h9
  obtain⟨hne,h0⟩:=h3 _ _ hnx;have:=Ys (F:=F) h hc hst hn new hnew hne h4 nv q' S' hone href sm;rw [<-h0] at this;refine this.mono ?_;rintro e w' ⟨rfl,v',G',h5,h6,h7,h8⟩;exact⟨rfl,v',G',q',_,_,h5,h6,⟨fun _=>⟨by rw [hnx];rfl,by rw [hnx];rfl,h7,h8⟩,fun e=>absurd e h1⟩⟩
 ·cases h9
  refine(YL (F:=F) h hc hst hn new hnew h4 h5 nv q' S' hone href sm).mono ?_;rintro e w' ⟨rfl,v',G',h6,h7,h8⟩;exact⟨rfl,v',G',q,_,_,h6,h7,⟨fun e=>absurd rfl e,fun _=>⟨rfl,rfl,h8⟩⟩⟩
end
theorem JR {S:List Stk}{ls:List LsV}(h:InvS S ls)(he:zq S ls=S):(S.any fun x=>Z3 x ls != (x.gone:Int))=false:=by rw [List.any_eq_false];intro x hx;obtain⟨i,hi,rfl⟩:=sK hx;have h1:=(QL h i hi (by rw [ZR];exact hi)).2;simp only [he] at h1;simp [h1]
def vW (S:List Stk)(ls:List LsV):Ans:=⟨0,0,0,[],some (zq S ls,ls)⟩
structure CompDid (w w':World)(B:Nat)(F:Nat->Prop)(R:List StkR)(ls:List LsV)(ops:List OpV)(fl:Bool)(ah:Int)(c0:Int)(R':List StkR)(F':Nat->Prop)(new:List OpV)(fl':Bool)(ah':Int):Prop where
 store:StoreOk w' B F' R' ls (ops++new) fl' ah'
 turn:Turn F w w'
 grows:∀b,F' b->F b\/w.heap.size<=b
 next:(zq (R.map lL) ls=R.map lL/\c0=0/\new=[]/\R'=R/\fl'=fl/\ah'=ah)\/AskNext (vW (R.map lL) ls) R ls fl ah c0 0 0 [] R' ls new fl' ah'
theorem QW {w:World}{B:Nat}{F:Nat->Prop}{R:List StkR}{ls:List LsV}{ops:List OpV}{fl:Bool}{ah:Int}(hI:InvS (R.map lL) ls)(hops:ops.length<=1000000)(hah:yv fl ah)(h:StoreOk w B F R ls ops fl ah) :
  Calls Tryz.prog 46 #[.pointer (some ⟨B,0,none⟩)] w fun e w'=>∃c,e=.returned (.int .i64 c)/\∃R' F' new fl' ah',CompDid w w' B F R ls ops fl ah c R' F' new fl' ah':=by
 obtain⟨sv,lv,dv,kn,h1⟩:=h.ex;have hsm:=hI.small;refine(xF (Q:=fun w' c=>_) w (XJ hsm.stocks (fun x hx=>(hsm.made x hx).1) hsm.leases hops hah hsm.ok hsm.lok (fun l hl=>by have h2:=hsm.fc l hl;obtain⟨_,_,_,x,h4,_⟩:=hI.of l hl;exact⟨h2.1,h2.2.1,h2.2.2.1,h2.2.2.2,List.any_eq_true.2 ⟨x,List.mem_of_find?_eq_some h4,by simpa using List.find?_some h4⟩⟩) w h1)).mono ?_
 rintro e w' ⟨c,rfl,hc⟩;refine⟨c,rfl,?_⟩;rcases hc with⟨hk,rfl,hx⟩|⟨_,hc,R',hd,hm⟩
 ·exact⟨R,F,[],fl,ah,by rw [rL];exact h.ext hx,lM hx,fun b hb=>.inl hb,.inl ⟨VK hI.uniq' hk,rfl,rfl,rfl,rfl,rfl⟩⟩
 ·have hk:∀o∈ZM fl ah (yH (yf (yR (zq (R.map lL) ls) ls))),0<=o.k/\o.k<=5:=fun o ho=>by
   have h1:=List.mem_of_mem_take ho;simp only [yH,List.mem_cons,List.not_mem_nil,or_false] at h1;rcases h1 with rfl|rfl|rfl|rfl<;>simp
  obtain⟨hs,ht⟩:=hd.ok h.kinds hk;rcases XP (kn:=kn) hah (show (yH (yf (yR (zq (R.map lL) ls) ls))).length=4 from rfl) (by omega) (by omega) with⟨g1,g2,g3,g4,g5,g6⟩|⟨g1,g2,g3,g4,g5⟩
  ·rw [g5,g6] at hs;rw [g1,if_pos rfl] at hc hm;rw [hc];exact⟨R',ZO F w w',_,fl,_,hs,ht,fun b hb=>hb.imp id (fun h=>h.1),.inr (⟨.inr (.inl ⟨by rw [hm];rfl,g2,g3,rfl,g4,rfl⟩)⟩)⟩
  ·rw [g5] at hs;rw [g1,if_neg (by decide)] at hc hm;rw [hc];exact⟨R',ZO F w w',_,false,_,hs,ht,fun b hb=>hb.imp id (fun h=>h.1),.inr (⟨.inr (.inr ⟨hm,by simp [vW],rfl,g2,g3,g4,rfl⟩)⟩)⟩
theorem VX {w:World}{P B N0 c:Nat}(h:Live w P B N0 c)(hc:c<=200000) :
  Calls Tryz.prog 72 #[.pointer (some ⟨P,0,none⟩)] w fun e w'=>e=.returned (.bool true)/\Live w' P B N0 (c+3)/\Turn (fun b=>N0<=b) w w':=by
 obtain⟨G,v,q,R,ls,F,ops,fl,ah,h⟩:=h;have HL:=hid h;have hol:ops.length<=800000:=by have:=h.ops;omega
 have HOL0:=hid hol;have HP:Hd (∀w',Ext w w'->_):=fun w' hx=>QW h.inv (by omega) h.ah (h.store.ext hx)
 have HR:Hd (∀w',RefAt w' G q (R.map lL) ls->(∀b,G b->b<w'.heap.size)->_):=fun w' hr hG=>Xx q (R.map lL) (zq (R.map lL) ls) ls (by have:=h.inv.stocks;omega) (by have:=h.inv.leases;omega) (fun l hl=>by have:=h.inv.of l hl;omega) (ZR _ _) (fun i hi hi'=>QL h.inv i hi hi') w' hG hr
 obtain⟨j0,hj0,hy0,hy1,hy2⟩:=info_parts Q7;obtain⟨gl,lcap,hwv,hgl,hlc⟩:=h.game.wrow;have HGL:=hid hgl;have hblk:=h.game.blk;unfold Zp at hblk;rw [hwv] at hblk;have c0:w.cell? ⟨P,0,none⟩=some (.pointer (some ⟨B,0,none⟩)):=zc hblk rfl;have c1:w.cell? ⟨P,1,none⟩=some (.slice (some ⟨gl,0,none⟩) 1 lcap):=zc hblk rfl;have hPl:=lG w _ c1;clear h hwv hgl hblk hol;go_enter func72,ntmps72;go_wp2_with fail
 refine(HP.o _ (lI _)).mono ?_;rintro e w1 ⟨cd,rfl,R',F',new,fl',ah',hcd⟩;have HCD:=hid hcd;have hTF:Turn F w w1:=hcd.turn;have HTF:=hid hTF;have HG1:Hd (GameOf w1 P B G v q (R.map lL) ls ops c):=HL.o.game.turn hTF (fun b hb e=>(HL.o.far b e).1 hb) (fun b hb e=>(HL.o.far b e).2 hb);have hGF:∀b,G b->¬F b:=fun b hb e=>(HL.o.far b e).1 hb
 have hPF:¬F P:=fun e=>(HL.o.far P e).2 (.inl rfl)
 have k1:w1.cell? ⟨P,1,none⟩=some (.slice (some ⟨gl,0,none⟩) 1 lcap):=hTF.cell c1 hPF;have k2:w1.cell? ⟨gl,0,none⟩=some (.pointer (some ⟨q,0,none⟩)):=hTF.cell hlc (hGF gl HGL.o);have hPl1:=lG w1 _ k1;have hgl1:=lG w1 _ k2;have HRw:Hd (∀w',w1=w'->_):=fun w' e=>by subst e;exact HR.o w1 HG1.o.ref HG1.o.ltG
 clear hcd hTF hGF hPF c0 c1 hlc;go_wp2_with fail
 refine wp_loop_rounds 2 ?_;rw [rounds_succ];go_wp2_with fail
 refine(HRw.o _ rfl).mono ?_;rintro e w2 ⟨q',rfl,href,hx2⟩;have HREF:=hid href;have HX2:=hid hx2;obtain⟨sm,hsm⟩:∃b,((R.map lL).any fun x=>Z3 x ls != (x.gone:Int))=b:=⟨_,rfl⟩
 have HSM:=hid hsm;rw [hsm];have k12:=hx2.cell k1;have hPl2:=lG w2 _ k12;have h12:=hx2.le;clear href hx2 hsm;go_wp2_with (at_builtin;refine wpList_append_lies _ rfl _ _ 85 rfl w1.heap.size 95 j0 _ 1 8 underlying85 hj0 hy0 hy1 hy2 rfl (by decide) _ 0 [] rfl (rB _ _ _ _) ⟨_,0,none⟩ 1 1 [.pointer (some ⟨q',0,none⟩)] rfl rfl (rI (zm (by simp))) (by simp [Value.oneCell']) (by decide) (by simp [maxLen]) (by omega) (by simp;omega) _ rfl ?_)
 intro gN capN w3 hown hgrow hat hlt;have HO:Hd (w3.ownsRow w1.heap.size 95 1 (.slice (some ⟨gN,0,none⟩) 1 capN) 1 [.pointer (some ⟨q',0,none⟩)]/\Ext w2 w3):=⟨by simpa using hown,Ext.grown (lK (lI _) _) hgrow (by simp [lH])⟩
 have HX3:Hd (Ext w1 w3):=HX2.o.trans HO.o.2;have k13:=HO.o.2.cell k12;have hPl3:=lG w3 _ k13;have h13:=HX3.o.le;clear hown hgrow hat hlt k12;go_wp2_with fail
 rw [rounds_succ];have HG3:Hd (GameOf w3 P B (fun b=>G b\/w1.heap.size<=b/\b<w3.heap.size) v q (R.map lL) ls ops c):=(HG1.o.ext HX3.o).more (fun b hb=>.inl hb) (fun b hb=>hb.elim (fun h=>rA (HG1.o.ltG b h) h13) (fun h=>h.2)) (fun b hb hor=>hor.elim (HG1.o.apart b hb) (fun h=>by have:=HG1.o.lt hb;omega));have HS3:Hd (GStep (fun b=>w1.heap.size<=b) w1 w3 P v v G (fun b=>G b\/w1.heap.size<=b/\b<w3.heap.size)):=⟨lM HX3.o,fun b hb=>.inl hb,fun b hb=>hb.imp id (fun h=>h.1),fun b hb=>.inl hb⟩
 have hw1:=HTF.o.size;have HFar:Hd (Far F' G P v):=fun b hb=>by
  rcases HCD.o.grows b hb with e|e
  ·exact HL.o.far b e
  ·exact⟨fun hg=>by have:=HL.o.game.ltG b hg;omega,fun ho=>by have:=HL.o.game.lt ho;omega⟩
 have HST3:Hd (StoreOk w3 B F' R' ls (ops++new) fl' ah'/\Far F' (fun b=>G b\/w1.heap.size<=b/\b<w3.heap.size) P v):=HCD.o.store.step HS3.o HFar.o (fun b hb hl=>by have:=HCD.o.store.lt b hb;omega);have hnb:new.length<=4:=by
  rcases HCD.o.next with h|h
  ·rw [h.2.2.1];simp
  ·exact h.short
 have HNB:=hid hnb;have HOL:Hd ((ops++new).length<=1000000):=by show _<=_;rw [lW];have:=HOL0.o;omega
 have HNu:Hd (∀w',_):=fun w'=>xD cd w'
 have hgN:=lR.lt HO.o.1 gN rfl;have HONE:Hd (OneIs w3 (fun b=>G b\/w1.heap.size<=b/\b<w3.heap.size) (.slice (some ⟨gN,0,none⟩) 1 capN) q'):=⟨gN,capN,rfl,.inr hgN,zk HO.o.1 rfl⟩
 have HRF3:Hd (RefAt w3 (fun b=>G b\/w1.heap.size<=b/\b<w3.heap.size) q' (zq (R.map lL) ls) ls):=(HREF.o.ext HO.o.2).mono (fun b hb=>hb.imp id (fun h=>⟨h.1,rA h.2 HO.o.2.le⟩));have HCh:Hd (∀w',w3=w'->Calls Tryz.prog 104 #[.pointer (some ⟨P,0,none⟩),.int .i64 cd,.slice (some ⟨gN,0,none⟩) 1 capN,.bool sm] w' fun e w'=>e=.returned (.bool true)/\∃v' G' q'',GameOf w' P B G' v' q'' (R'.map lL) ls (ops++new) (c+1)/\GStep (fun b=>w3.heap.size<=b) w3 w' P v v' (fun b=>G b\/w1.heap.size<=b/\b<w3.heap.size) G'/\ArIs v' fl' ah'/\yv fl' ah'/\InvS (R'.map lL) ls):=by
  intro w' e;subst e;rcases HCD.o.next with⟨e1,e2,e3,e4,e5,e6⟩|hnx
  ·have hst:=HST3.o.1;have href:=HRF3.o;have hgo:=HG3.o;have hone:=HONE.o;have hs0:sm=false:=by rw [<-HSM.o];exact JR HL.o.inv e1
   rw [e1] at href;subst e2 e3 e4 e5 e6;rw [rL] at hst ⊢;rw [hs0];refine(V2 (F:=F') hgo (by omega) hst (by have:=HOL0.o;omega) (fun hf=>?_) _ q' _ hone href).mono ?_
   ·have hf':=HL.o.ar.1▸hf;rw [HL.o.ar.2 hf'];exact HL.o.ah hf'
   ·rintro e w' ⟨rfl,v',G',g1,g2,g3,g4⟩;exact⟨rfl,v',G',q',g1,g2,HL.o.ar.same g3 g4,HL.o.ah,HL.o.inv⟩
  ·refine(jd (F:=F') (vW (R.map lL) ls) HG3.o (by omega) HST3.o.1 HOL.o rfl cd 0 0 [] (hnx.ans HL.o.ar HL.o.ah (by simp [vW])) _ q' _ rfl HONE.o HRF3.o sm).mono ?_;rintro e w' ⟨rfl,v',G',q'',S'',ls'',g1,g2,g3⟩;obtain⟨o1,o2,o3,o4,o5⟩:=hnx.out HL.o.ar HL.o.ah (by simp [vW]) g3;rw [o1,o2] at g1;refine⟨rfl,v',G',q'',g1,g2,o3,o4,?_⟩;rcases o5 with⟨o5,_⟩|o5
   ·rw [o5];exact HL.o.inv
   ·simp only [vW] at o5;injection o5 with o5
    injection o5 with o5 _
    rw [<-o5];exact HL.o.inv.compact
 clear hnb hgN;go_wp2_with fail
 refine(HNu.o _).mono ?_;rintro e w9 ⟨rfl,rfl⟩;go_wp2_with fail
 refine(HCh.o _ rfl).mono ?_;rintro e w4 ⟨rfl,v4,G4,q4,g1,g2,g3,g4,g5⟩;have HF:Hd _:=And.intro g1 (And.intro g2 (And.intro g3 (And.intro g4 g5)));clear g1 g2 g3 g4 g5;go_wp2;go_ret;obtain⟨g1,g2,g3,g4,g5⟩:=HF.o;have hst:=HST3.o.1.step g2 HST3.o.2 (fun b hb hl=>by have:=HST3.o.1.lt b hb;omega);have hGS:=HS3.o.trans g2 (fun b hb=>by omega);have hold:Old w w4 F F' P v v4:=⟨(HTF.o.mono (fun b _ hb=>.inl hb)).trans' hGS.turn (fun b hb hor=>hor.elim .inr (fun hl=>by omega)),fun b hb=>HCD.o.grows b hb,fun b hb=>(hGS.own b hb).imp id (fun hl=>by omega)⟩
 exact⟨rfl,HL.o.next (by omega) (g1.count (by omega)) hst.1 hst.2 HNB.o hold g3 g4 g5⟩
end
section
section
variable {B:Nat}{F:Nat->Prop}{sv lv dv:Value}{R:List StkR}{ls:List LsV}{ops:List OpV}{fl:Bool}{ah:Int}{kn:Bool}
theorem StoreOf.fail {w:World}(h:StoreOf w B F sv lv dv R ls ops fl ah kn)(f:Bool)(a:Int):StoreOf ((w.setCell ⟨B,3,none⟩ (.bool f)).setCell ⟨B,4,none⟩ (.int .i64 a)) B F sv lv dv R ls ops f a kn/\Turn (fun b=>b=B) w ((w.setCell ⟨B,3,none⟩ (.bool f)).setCell ⟨B,4,none⟩ (.int .i64 a)):=by have hT:Turn (fun b=>b=B) w ((w.setCell ⟨B,3,none⟩ (.bool f)).setCell ⟨B,4,none⟩ (.int .i64 a)):=lQ (S:=fun b=>b=B) (p:=⟨B,4,none⟩) (lQ (S:=fun b=>b=B) (p:=⟨B,3,none⟩) (rD _ w) (fun _=>rfl) _) (fun _=>rfl) _;refine⟨⟨(h.deal.set3 f).set4 a,hT.owns h.srow (fun q hq e=>h.deal.rne h.srow (by decide) (e▸hq)),hT.owns h.lrow (fun q hq e=>h.deal.rne h.lrow (by decide) (e▸hq)),hT.owns h.orow (fun q hq e=>h.deal.rne h.orow (by decide) (e▸hq)),fun x hx=>?_,h.nb,h.nm,h.fB,h.fs,h.fl',h.fd,fun b hb=>rA (h.lt b hb) hT.size,h.lnil,h.dnil⟩,hT⟩;have hxk:=h.stk x hx;obtain⟨D,hD,_⟩:=hxk.map;exact hxk.turn' hT (fun e=>h.deal.tne hxk.blk (by decide) e) (fun e=>h.deal.mne hD e.symm) (fun b cur hc e=>h.deal.tne hc (by decide) e)
theorem Vz (n:Int)(w:World)(h:StoreOf w B F sv lv dv R ls ops fl ah kn) :
  Calls Tryz.prog 94 #[.pointer (some ⟨B,2,none⟩),.int .i64 n] w fun e w'=>e=.returned (.tuple #[])/\StoreOf w' B F sv lv dv R ls ops (decide (0<=n)) n kn/\Turn (fun b=>b=B) w w':=by
 obtain⟨_,_,_,c3,c4,_⟩:=h.deal.cells;have hB:=h.deal.lt;have f3:=h.deal.frozen 3;have f4:=h.deal.frozen 4;have H:Hd _:=h.fail (decide (0<=n)) n;clear h;go_enter func94,ntmps94;go_wp2;go_end0;exact⟨rfl,H.o.1,H.o.2⟩
theorem vx (n:Int)(w:World)(h:StoreOf w B F sv lv dv R ls ops fl ah kn) :
  Calls Tryz.prog 64 #[.pointer (some ⟨B,0,none⟩),.int .i64 n] w fun e w'=>e=.returned (.tuple #[])/\StoreOf w' B F sv lv dv R ls ops (decide (0<=n)) n kn/\Turn (fun b=>b=B) w w':=by
 have HD:Hd (∀w',Ext w w'->_):=fun w' hx=>Vz n w' (h.ext hx)
 have hB:=h.deal.lt;clear h;go_enter func64,ntmps64;go_wp2_with fail
 refine(HD.o _ (lI _)).mono ?_;rintro e w1 ⟨rfl,h1,h2⟩;have HR:Hd _:=And.intro h1 h2;clear h1 h2;go_wp2;go_end0;exact⟨rfl,HR.o.1,HR.o.2⟩
theorem Xg (n:Int)(w:World)(h:StoreOf w B F sv lv dv R ls ops fl ah kn) :
  Calls Tryz.prog 33 #[.pointer (some ⟨B,0,none⟩),.int .i64 n] w fun e w'=>e=.returned (.tuple #[])/\StoreOf w' B F sv lv dv R ls ops (decide (0<=n)) n kn/\Turn (fun b=>b=B) w w':=by
 have HD:Hd (∀w',Ext w w'->_):=fun w' hx=>vx n w' (h.ext hx)
 have hB:=h.deal.lt;clear h;go_enter func33,ntmps33;go_wp2_with fail
 refine(HD.o _ (lI _)).mono ?_;rintro e w1 ⟨rfl,h1,h2⟩;have HR:Hd _:=And.intro h1 h2;clear h1 h2;go_wp2;go_end0;exact⟨rfl,HR.o.1,HR.o.2⟩
end
end
end Go.Proofs.YtmnjhhachdlmkaaGreat
