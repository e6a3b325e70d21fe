import Derived.Test.YtmnjhhachdlmkaaGreatK05
namespace Go.Proofs.YtmnjhhachdlmkaaGreat
set_option linter.all false
set_option maxRecDepth 100000
set_option maxHeartbeats 3200000
open Tryz
open Nat renaming lt_of_lt_of_le -> rA, add_mul -> rO, le_trans -> rH, mul_le_mul -> rN, le_refl -> lO
open List renaming length_take -> sF, length_append -> lW, length_map -> rU, mem_map -> sC, getElem_mem -> lV, length_drop -> sN, getElem?_append_right -> sH, getElem?_append_left -> sL
open World renaming ownsRow -> lR, news_of_block -> rI, cell?_setCell_far -> lX
open StkR renaming abs -> lL
open Ext renaming refl -> lI, owns -> rE, alloc -> lK, chain -> lY, drew -> lJ, setCell -> rF
open Turn renaming of_ext -> lM, refl -> rD, setCell -> lQ, grown -> rJ
open IntKind renaming wrap_i64 -> rP
open Int renaming natCast_mul -> rQ
open AllReadyH renaming cons -> sD
open Go.RowKit Go.Maps
open List renaming getElem_toArray -> lA, getElem_cons_succ -> lB, getElem_cons_zero -> lC, setIfInBounds_toArray -> lD, set_cons_zero -> lE, set_cons_succ -> lF
open World renaming block_lt_of_cell? -> lG
open Value renaming ownBlock -> lH
section
theorem X0 (a b c d e : Value) (w : World) : (method 417 174 (.agg #[a, b, c, d, e]) "dealer/store.against").run Tryz.prog w = .ok (206, .agg #[a, b, c, d, e]) w := by kernel_rfl
theorem Jy (a b c d e : Value) (w : World) : (method 417 174 (.agg #[a, b, c, d, e]) "dealer/store.record").run Tryz.prog w = .ok (131, .agg #[a, b, c, d, e]) w := by kernel_rfl
theorem kc (a b c d e : Value) (w : World) : (method 417 174 (.agg #[a, b, c, d, e]) "dealer/store.apply").run Tryz.prog w = .ok (207, .agg #[a, b, c, d, e]) w := by kernel_rfl
theorem Jk (a b c d e : Value) (w : World) : (nilAhead 417 174 (.agg #[a, b, c, d, e]) "dealer/store.record").run Tryz.prog w = .ok (some false) w := by kernel_rfl
theorem XH (a : Value) (w : World) : (method 417 233 (.agg #[a]) "dealer/store.against").run Tryz.prog w = .ok (223, .agg #[a]) w := by kernel_rfl
theorem Jl (a : Value) (w : World) : (method 417 233 (.agg #[a]) "dealer/store.record").run Tryz.prog w = .ok (132, .agg #[a]) w := by kernel_rfl
theorem ko (a : Value) (w : World) : (method 417 233 (.agg #[a]) "dealer/store.apply").run Tryz.prog w = .ok (224, .agg #[a]) w := by kernel_rfl
section
variable {B:Nat}{F:Nat->Prop}{sv lv dv:Value}{R:List StkR}{ls:List LsV}{ops:List OpV}{fl:Bool}{ah:Int}{kn:Bool}
theorem StoreOf.setDv {w w3:World}{dv':Value}{ops':List OpV}{fl':Bool}{ah':Int}{kn':Bool}(h:StoreOf w B F sv lv dv R ls ops fl ah kn)(ht:Turn (fun b=>b=B\/dv.ownBlock=some b) w w3)(hd:DealAt w3 B sv lv dv' fl' ah' kn')(hl:jY w3 dv' ops')(hq:∀q,dv'.ownBlock=some q->q<w.heap.size->dv.ownBlock=some q)(hdn:dv'=.slice none 0 0\/1<=ops'.length) :
  StoreOf w3 B (ZO F w w3) sv lv dv' R ls ops' fl' ah' kn':=by
 have hfar:∀b cur t,w.heap[b]?=some (.cells cur t (0,0))->t≠114/\t≠112->t≠134->¬(b=B\/dv.ownBlock=some b):=fun b cur t hc h1 h2 hor=>by
  rcases hor with e|e
  ·exact h.deal.tne hc h1 e
  ·obtain⟨cur',hc'⟩:=zf h.orow e;exact zh hc hc' h2 rfl
 have hfm:∀b D n,w.ownsMap Tryz.prog 3 zX b n D->¬(b=B\/dv.ownBlock=some b):=fun b D n hc hor=>by
  rcases hor with e|e
  ·exact h.deal.mne hc e.symm
  ·obtain⟨cur',hc'⟩:=zf h.orow e;exact yt hc' hc rfl
 have hg:∀b,F b->ZO F w w3 b:=fun b hb=>.inl hb
 refine⟨hd,ht.owns h.srow (fun q hq=>let ⟨cur,hc⟩:=zf h.srow hq;hfar q cur _ hc (by decide) (by decide)),ht.owns h.lrow (fun q hq=>let ⟨cur,hc⟩:=zf h.lrow hq;hfar q cur _ hc (by decide) (by decide)),hl,fun y hy=>?_,h.nb,h.nm,.inl h.fB,fun q hq=>.inl (h.fs q hq),fun q hq=>.inl (h.fl' q hq),fun q hq'=>?_,fun b hb=>?_,h.lnil,hdn⟩
 ·have hyk:=h.stk y hy;obtain⟨D,hD,_⟩:=hyk.map;exact(hyk.turn' ht (hfar _ _ _ hyk.blk (by decide) (by decide)) (hfm _ _ _ hD) (fun b cur hc=>hfar b cur _ hc (by decide) (by decide))).mono hg
 ·by_cases e:q<w.heap.size
  ·exact .inl (h.fd _ (hq q hq' e))
  ·exact .inr ⟨by omega,zx hl hq'⟩
 ·rcases hb with hb|hb
  ·exact rA (h.lt b hb) ht.size
  ·exact hb.2
def ZA (kn:Bool)(S:List Stk)(ls:List LsV)(r:ByteArray):List OpV:=if kn=true then xY (ZV r.data.toList) else yH (yf (yR S ls++[r]))
theorem XV (kn:Bool)(S:List Stk)(ls:List LsV)(r:ByteArray):(ZA kn S ls r).length=if kn=true then 2 else 4:=by unfold ZA;split<;>rfl
def ZM (fl:Bool)(ah:Int)(l:List OpV):List OpV:=l.take (YI fl ah l.length)
def yv (fl:Bool)(ah:Int):Prop:=fl=true->0<=ah/\ah<=9223372036854775807
theorem Y7 (fl:Bool)(ah:Int)(hah:yv fl ah)(l:List OpV):(ZM fl ah l).length=YI fl ah l.length:=by
 unfold ZM;rw [sF];unfold YI;split
 ·rename_i h
  have:=hah h.1;omega
 ·omega
theorem jK {w w':World}{kn':Bool}{k:Nat}{xs:List Value}{l:List OpV}{dv':Value}(hah:yv fl ah)(h:dv=.slice none 0 0\/1<=ops.length)(hd:DidOps B sv lv dv fl ah kn' k xs l w w' dv'):dv'=.slice none 0 0\/1<=(ops++ZM fl ah l).length:=by
 by_cases e:YI fl ah l.length=0
 ·rcases h with h|h
  ·exact .inl (by rw [hd.same e];exact h)
  ·exact .inr (by rw [lW];omega)
 ·exact .inr (by rw [lW,Y7 fl ah hah];omega)
theorem StoreOf.did {w w':World}{kn':Bool}{l:List OpV}{dv':Value}(hah:yv fl ah)(h:StoreOf w B F sv lv dv R ls ops fl ah kn)(hd:DidOps B sv lv dv fl ah kn' ops.length (zz ops) l w w' dv') :
  StoreOf w' B (ZO F w w') sv lv dv' R ls (ops++ZM fl ah l) (ZZ fl ah l.length) (ye fl ah l.length) kn':=by
 refine h.setDv hd.turn hd.deal ?_ hd.own (jK hah h.dnil hd);show lR _ 0 134 4 dv' _ _
 rw [YA,lW,Y7 fl ah hah];exact hd.row
theorem kD (r:ByteArray)(hr:r.size<=100000)(hops:ops.length<=1000000)(hah:yv fl ah)(hR:R.length<=100)(hls:ls.length<=900)(hok:∀x∈R,StkOk x.abs)(hlok:∀l∈ls,xH l)(w:World)(h:StoreOf w B F sv lv dv R ls ops fl ah false) :
  Calls Tryz.prog 144 #[.pointer (some ⟨B,2,none⟩),.string r,.func (.func 92) #[.pointer (some ⟨B,0,none⟩)] #[]] w fun e w'=>
   ∃dv',e=.returned (.bool (Zg fl ah 4))/\DidOps B sv lv dv fl ah (Zg fl ah 4) ops.length (zz ops) (yH (yf (yR (R.map lL) ls++[r]))) w w' dv':=by
 obtain⟨i0,hi,hz0,hz1,hz2⟩:=info_parts jS;have HRe:Hd (∀w',Ext w w'->_):=fun w' hx=>Vs hR hls hok hlok w' (h.ext hx)
 have hrl:(yR (R.map lL) ls).length<=1900:=by have h1:=List.length_filter_le (·.r) ls;simp only [yR,lW,rU];omega
 have HSz:Hd (∀q∈yR (R.map lL) ls++[r],q.size<=100000):=fun q hq=>by
  rcases List.mem_append.1 hq with hq|hq
  ·exact vS (fun x hx=>by obtain⟨y,hy,rfl⟩:=sC.1 hx;exact hok y hy) q hq
  ·rw [List.mem_singleton.1 hq];exact hr
 have HD:=hid (h.deal);have HO:=hid (h.orow);have HAH:=hid hah;obtain⟨_,_,_,_,_,c5⟩:=h.deal.cells;obtain⟨ok,hok'⟩:∃ok,Zg fl ah 4=ok:=⟨_,rfl⟩
 rw [hok'];have HOK:=hid hok';clear h hok hlok hah hok';generalize yR (R.map lL) ls=P at *;go_enter func144,ntmps144;go_wp2_with fail
 refine(HRe.o _ (lI _)).mono ?_;rintro e w1 ⟨v,rfl,ho1,hx1⟩;have HX1:=hid hx1;have HO1:=hid ho1;obtain⟨va,vc,hv⟩:=zo ho1;subst hv;have hw1:=hx1.le;clear ho1 hx1;go_wp2_with (at_builtin;refine wpList_append_lies _ rfl _ _ 166 rfl w.heap.size 9 i0 _ 1 16 underlying166 hi hz0 hz1 hz2 rfl (by decide) _ P.length _ rfl (rE (lK (lI _) _) HO1.o) ⟨_,0,none⟩ 1 1 [.string r] rfl rfl (rI (heap_alloc_new _ _)) (by simp [Value.oneCell']) (by decide) (by unfold maxLen;omega) (by omega) ?cb _ rfl ?_)
 case cb=>simp;omega
 intro g cap3 w2 hown2 hgrow hat hlt1;have HX2:Hd (Ext w w2):=Ext.grown (lK HX1.o _) hgrow (fun q hq=>(lR.lt HO1.o q hq).1);have HOW:Hd (w2.ownsRow w.heap.size 9 1 (.slice (some ⟨g,0,none⟩) (P.length+1) cap3) (P.length+1) (xm (P++[r]))):=by
  show lR _ _ _ _ _ _ _
  rw [xm,List.map_append];exact hown2
 clear hown2 hgrow hat;go_wp2_with fail
 refine(vT B cap3 (P.length+1) ops.length (some ⟨g,0,none⟩) (P++[r]) sv lv dv fl ah false HAH.o (zz ops) w2 (HD.o.ext HX2.o) (HX2.o.owns HO.o) (by simp) (by omega) HSz.o ?dc hops).mono ?_
 case dc=>
  intro i hi';refine⟨g,rfl,?_⟩;have:=lR.cellAt HOW.o i (by simp at hi';omega);rw [this,xm,List.getElem?_map,List.getElem?_eq_getElem hi']
  rfl
 rintro e w3 ⟨dv',rfl,hd3⟩;have HRR:Hd (DidOps B sv lv dv fl ah ok ops.length (zz ops) (yH (yf (P++[r]))) w w3 dv'):=by rw [HOK.o] at hd3;exact⟨hd3.deal,hd3.row,(lM HX2.o).trans hd3.turn,fun q hq hl=>hd3.own q hq (rA hl HX2.o.le),hd3.same⟩
 clear hd3;rw [HOK.o];go_wp2;go_ret;exact⟨dv',rfl,HRR.o⟩
theorem kK (r:ByteArray)(hr:r.size<=100000)(hops:ops.length<=1000000)(hah:yv fl ah)(hR:R.length<=100)(hls:ls.length<=900)(hok:∀x∈R,StkOk x.abs)(hlok:∀l∈ls,xH l)(w:World)(h:StoreOf w B F sv lv dv R ls ops fl ah kn) :
  Calls Tryz.prog 144 #[.pointer (some ⟨B,2,none⟩),.string r,.func (.func 92) #[.pointer (some ⟨B,0,none⟩)] #[]] w fun e w'=>
   ∃dv',e=.returned (.bool (Zg fl ah (ZA kn (R.map lL) ls r).length))/\StoreOf w' B (ZO F w w') sv lv dv' R ls (ops++ZM fl ah (ZA kn (R.map lL) ls r)) (ZZ fl ah (ZA kn (R.map lL) ls r).length) (ye fl ah (ZA kn (R.map lL) ls r).length) (Zg fl ah (ZA kn (R.map lL) ls r).length)/\Turn (fun b=>b=B\/dv.ownBlock=some b) w w':=by
 cases kn with
 | true=>
  refine(UN B ops.length r _ sv lv dv fl ah hah (zz ops) w h.deal h.orow hr hops).mono ?_;rintro e w' ⟨dv',rfl,hd⟩;exact⟨dv',rfl,h.did hah hd,hd.turn⟩
 | false=>
  refine(kD r hr hops hah hR hls hok hlok w h).mono ?_;rintro e w' ⟨dv',rfl,hd⟩;exact⟨dv',rfl,h.did hah hd,hd.turn⟩
end
end
section
def DoPost (w w'':World)(B:Nat)(F:Nat->Prop)(R':List StkR)(ls':List LsV)(ops':List OpV)(fl':Bool)(ah':Int)(kn':Bool):Prop:=
 ∃sv' lv' dv',StoreOf w'' B (ZO F w w'') sv' lv' dv' R' ls' ops' fl' ah' kn'/\Turn F w w''
theorem DoPost.of {w w2 w3 w4:World}{B:Nat}{F F4 T:Nat->Prop}{sv' lv' dv':Value}{R':List StkR}{ls':List LsV}{ops':List OpV}{fl':Bool}{ah':Int}{kn':Bool}(h:StoreOf w4 B F4 sv' lv' dv' R' ls' ops' fl' ah' kn')(hF:∀b,F b->b<w.heap.size)(hx:Ext w w2)(ht3:Turn F w w3)(hs3:w2.heap.size<=w3.heap.size)(ht:Turn T w3 w4)(hf:∀b,F4 b->F b\/w2.heap.size<=b)(hT:∀b,b<w.heap.size->T b->F b):DoPost w w4 B F R' ls' ops' fl' ah' kn':=by
 have h1:=hx.le;have h2:=ht.size;refine⟨sv',lv',dv',h.mono (fun b hb=>?_) (fun b hb=>?_),ht3.trans' ht hT⟩
 ·rcases hf b hb with h3|h3
  ·exact .inl h3
  ·exact .inr ⟨by omega,h.lt b hb⟩
 ·rcases hb with hb|hb
  ·have:=hF b hb;omega
  ·exact hb.2
theorem DoPost.disk {w w2 w3:World}{B:Nat}{F T:Nat->Prop}{sv' lv' dv':Value}{R':List StkR}{ls':List LsV}{ops':List OpV}{fl':Bool}{ah':Int}{kn':Bool}(h:StoreOf w3 B (ZO F w2 w3) sv' lv' dv' R' ls' ops' fl' ah' kn')(hF:∀b,F b->b<w.heap.size)(hx:Ext w w2)(ht:Turn T w2 w3)(hT:∀b,b<w.heap.size->T b->F b):DoPost w w3 B F R' ls' ops' fl' ah' kn':=by refine DoPost.of (w2:=w2) (w3:=w3) (T:=fun _=>False) h hF hx ((lM hx).trans' ht hT) ht.size (rD _ _) (fun b hb=>hb.imp id (fun h=>h.1)) (fun b _ h=>h.elim)
def QJ (kn fl:Bool)(ah:Int)(S:List Stk)(ls:List LsV)(rec:ByteArray)(e:Ending)(Q:Bool->Bool->Int->List OpV->Prop):Prop:=
 e=.returned (.int .i64 (if Zg fl ah (ZA kn S ls rec).length then 0 else 10))/\Q (Zg fl ah (ZA kn S ls rec).length) (ZZ fl ah (ZA kn S ls rec).length) (ye fl ah (ZA kn S ls rec).length) (ZM fl ah (ZA kn S ls rec))
section
variable {B:Nat}{F:Nat->Prop}{sv lv dv:Value}{R:List StkR}{ls:List LsV}{ops:List OpV}{fl:Bool}{ah:Int}{kn:Bool}
theorem Ug (rb:Nat)(kd m k n ss ii c:Int)(hR:R.length<=100)(hls:ls.length<=1000)(hRm:∀x∈R,x.ts.length<=1000/\x.leased<=1000)(hno:ls.findIdx? (zE ss ii)=none)(hcd:ZH R ls kd m k n c≠0)(w:World)(h:StoreOf w B F sv lv dv R ls ops fl ah kn)(hr:Zh w rb ss ii kd m k n c) :
  Calls Tryz.prog 98 #[.pointer (some ⟨B,0,none⟩),.iface 233 (.agg #[.pointer (some ⟨rb,0,none⟩)])] w fun e w'=>e=.returned (.int .i64 (ZH R ls kd m k n c))/\Ext w w':=by
 have h1:=XH;have HA:Hd (∀w',Ext w w'->_):=fun w' hx=>Y3 rb kd m k n ss ii c hR hls hRm hno w' (h.ext hx) (hx.block hr)
 clear h hr hRm hno;generalize ZH R ls kd m k n c=cd at *;go_enter func98,ntmps98;go_wp2_with fail
 refine(HA.o _ (lI _)).mono ?_;rintro e w1 ⟨rfl,hx1⟩;go_wp2;go_ret;exact⟨rfl,hx1⟩
theorem JN (rb ix kd m k n ss ii c:Nat)(hss:ss<=2147483647)(hii:ii<=2147483647)(hkd:kd<=255/\m<=255/\k<=255/\n<=255)(hc:c<=100)(hR:R.length<=100)(hls:ls.length<=900)(hops:ops.length<=1000000)(hah:yv fl ah)(hok:∀x∈R,StkOk x.abs)(hlok:∀l∈ls,xH l)(hRm:∀x∈R,x.ts.length<=1000/\x.leased<=1000)(hno:ls.findIdx? (zE ss ii)=none)(hcd:ZH R ls kd m k n c=0)(hix:ix<R.length)(hf:R.find? (fun x=>x.is kd m k n)=some R[ix])(w:World)(h:StoreOf w B F sv lv dv R ls ops fl ah kn)(hr:Zh w rb ss ii kd m k n c)(hrF:¬F rb) :
  Calls Tryz.prog 98 #[.pointer (some ⟨B,0,none⟩),.iface 233 (.agg #[.pointer (some ⟨rb,0,none⟩)])] w fun e w'=>QJ kn fl ah (R.map lL) ls (Z0 ss ii kd m k n c) e fun ok fl' ah' new=>DoPost w w' B F (if ok then R.set ix (R[ix].lend c) else R) (if ok then ls++[⟨ss,ii,kd,m,k,n,R[ix].leased,c,false⟩] else ls) (ops++new) fl' ah' ok:=by
 have h1:=XH;have h2:=Jl;have h3:=ko;have HA:Hd (∀w',Ext w w'->_):=fun w' hx=>Y3 rb kd m k n ss ii c hR (by omega) hRm hno w' (h.ext hx) (hx.block hr)
 rw [hcd] at HA;have HRc:Hd (∀w',Ext w w'->_):=fun w' hx=>qu rb ss ii kd m k n c hss hii hkd.1 hkd.2.1 hkd.2.2.1 hkd.2.2.2 (by omega) w' (hx.block hr)
 have HAd:Hd (∀w',Ext w w'->_):=fun w' hx=>kK (Z0 ss ii kd m k n c) (qY _ _ _ _ _ _ _) hops hah hR hls hok hlok w' (h.ext hx)
 have H:Hd _:=h;have HR:=hid hr;have HAp:Hd (∀(w':World) (F':Nat->Prop) (dv':Value) (ops':List OpV) (fl':Bool) (ah':Int),StoreOf w' B F' sv lv dv' R ls ops' fl' ah' true->Zh w' rb ss ii kd m k n c->_):=fun w' F' dv' ops' fl' ah' h hr=>XK rb ix kd m k n ss ii c hc hR (by omega) hix hf (hRm R[ix] (lV hix)).2 w' h hr
 have HXB:Hd (F R[ix].blk):=(h.stk R[ix] (lV hix)).fb;have HNF:=hid hrF;clear h hr hRm hno hcd hf hrF hops hss hii hkd hls hR hah hok hlok;unfold QJ;generalize R[ix]=X at *;generalize Z0 ss ii kd m k n c=rec at *;generalize ZA kn (R.map lL) ls rec=full at *;generalize ZZ fl ah full.length=fl1 at *;generalize ye fl ah full.length=ah1 at *;generalize ZM fl ah full=did at *;generalize Zg fl ah full.length=ok at *;go_enter func98,ntmps98;go_wp2_with fail
 refine(HA.o _ (lI _)).mono ?_;rintro e w1 ⟨rfl,hx1⟩;have HX1:=hid hx1;clear hx1;go_wp2_with fail
 go_region_held3 (fun _=>True) (trivial) (first
  | (go_at_call 132;refine(HRc.o _ (lY HX1.o (lI _)).drew).mono ?_;rintro e w2 ⟨rfl,hx2⟩)
  | (go_at_call 144;refine(HAd.o _ (lY hx2 (lJ HX1.o))).mono ?_;rintro e w3 ⟨dv',rfl,hS3,ht3⟩))
 all_goals
  have HX2:Hd (Ext w w2):=lY hx2 (lJ HX1.o);have HTT:Hd (Turn (fun b=>b=B\/dv.ownBlock=some b) w w3):=(lM HX2.o).trans ht3;have HTF:Hd (Turn F w w3):=HTT.o.mono (fun b _ hb=>hb.elim (fun e=>e▸H.o.fB) (fun e=>H.o.fd b e));have HR3:=hid (HTF.o.ref HR.o HNF.o);have HS3:=hid hS3;have HDk:Hd (DoPost w w3 B F R ls (ops++did) fl1 ah1 ok):=DoPost.disk hS3 H.o.lt HX2.o ht3 (fun b _ hb=>hb.elim (fun e=>e▸H.o.fB) (fun e=>H.o.fd b e));have hs23:=ht3.size;clear hx2 hS3 ht3;cases ok with
  | false=>
   go_wp2;go_ret;exact⟨rfl,HDk.o⟩
  | true=>
   go_wp2_with fail
   refine(HAp.o w3 _ dv' _ _ _ HS3.o HR3.o).mono ?_;rintro e w4 ⟨lv',rfl,q1,q2⟩;have HQ:Hd _:=And.intro q1 q2;clear q1 q2;go_wp2;go_ret;obtain⟨q1,q2⟩:=HQ.o;refine⟨rfl,DoPost.of q1 H.o.lt HX2.o HTF.o hs23 q2 (fun b hb=>?_) (fun b hb hor=>?_)⟩
   ·rcases hb with hb|hb
    ·exact hb.imp id (fun h=>h.1)
    ·exact .inr (by omega)
   ·rcases hor with e|e|e
    ·exact e▸H.o.fB
    ·exact H.o.fl' b e
    ·exact e▸HXB.o
end
end
section
def Ye (S:List Stk)(kd m k n:Nat)(us:List (List Int×Bool)):List Stk:=match S.findIdx? (fun x=>x.is kd m k n) with
 | some i=>S.modify i (fun x=>x.more us)
 | none=>S++[⟨kd,m,k,n,us,0⟩]
theorem zU {α:Type}{p:α->Bool}{l:List α}{i:Nat}(h:l.findIdx? p=some i):∃hi:i<l.length,l.find? p=some l[i]:=by obtain⟨hi,h1,h2⟩:=List.findIdx?_eq_some_iff_getElem.1 h;refine⟨hi,?_⟩;rw [List.find?_eq_some_iff_getElem];exact⟨h1,i,hi,rfl,fun j hj=>by simpa using h2 j hj⟩
theorem z9 {α:Type}{p:α->Bool}{l:List α}(h:l.findIdx? p=none):l.find? p=none:=by rw [List.find?_eq_none];intro x hx;have:=List.findIdx?_eq_none_iff.1 h x hx;simp [this]
theorem YP (R:List StkR)(kd m k n:Int):(R.map lL).findIdx? (fun x=>x.is kd m k n)=R.findIdx? (fun x=>x.is kd m k n):=by
 rw [List.findIdx?_map]
 rfl
section
variable {B:Nat}{F:Nat->Prop}{sv lv dv:Value}{R:List StkR}{ls:List LsV}{ops:List OpV}{fl:Bool}{ah:Int}{kn:Bool}
def zY (S:List Stk)(kd m k n:Int)(t:Nat):Int:=match S.find? (fun x=>x.is kd m k n) with
 | some x=>if 200<x.ts.length+t then 4 else 0
 | none=>if 6<=S.length\/200<t then 4 else 0
theorem QH (R:List StkR)(kd m k n:Int)(t:Nat):zY (R.map lL) kd m k n t=match R.find? (fun x=>x.is kd m k n) with|some x=>if 200<x.ts.length+t then 4 else 0|none=>if 6<=R.length\/200<t then 4 else 0:=by
 unfold zY;rw [List.find?_map,rU];show (match Option.map lL (R.find? fun x=>x.is kd m k n) with|some x=>_|none=>_)=_
 cases R.find? (fun x=>x.is kd m k n)<;>rfl
theorem VB (kd m k n:Nat)(tv:Option Addr)(t tcap:Nat)(ht:t<=1000)(hR:R.length<=100)(hRm:∀x∈R,x.ts.length<=1000)(hcd:zY (R.map lL) kd m k n t≠0)(w:World)(h:StoreOf w B F sv lv dv R ls ops fl ah kn) :
  Calls Tryz.prog 98 #[.pointer (some ⟨B,0,none⟩),.iface 174 (.agg #[.int .i64 kd,.int .i64 m,.int .i64 k,.int .i64 n,.slice tv t tcap])] w fun e w'=>e=.returned (.int .i64 (zY (R.map lL) kd m k n t))/\Ext w w':=by
 have h1:=X0;have HA:Hd (∀w',Ext w w'->Calls Tryz.prog 206 #[.agg #[.int .i64 kd,.int .i64 m,.int .i64 k,.int .i64 n,.slice tv t tcap],.pointer (some ⟨B,0,none⟩)] w' fun e w''=>e=.returned (.int .i64 (zY (R.map lL) kd m k n t))/\Ext w' w''):=fun w' hx=>by have:=qx kd m k n tv t tcap ht hR hRm w' (h.ext hx);exact this.mono fun e w'' h=>⟨h.1.trans (by rw [QH];cases R.find? (fun x:StkR=>x.is (kd:Int) m k n)<;>rfl),h.2⟩
 clear h hRm;generalize zY (R.map lL) kd m k n t=cd at *;go_enter func98,ntmps98;go_wp2_with fail
 refine(HA.o _ (lI _)).mono ?_;rintro e w1 ⟨rfl,hx1⟩;go_wp2;go_ret;exact⟨rfl,hx1⟩
def ForP (R:List StkR)(kd m k n:Nat)(R1:List StkR)(ix:Nat):Prop:=
 (R1=R/\R.findIdx? (fun x=>x.is kd m k n)=some ix)\/(R.findIdx? (fun x=>x.is kd m k n)=none/\ix=R.length/\∃gk mb,R1=R++[⟨gk,mb,kd,m,k,n,[],0⟩])
theorem K7 {x:StkR}{kd m k n:Nat}(h:x.is kd m k n=true):x.kd=kd/\x.m=m/\x.k=k/\x.n=n:=by
 have h2:(x.kd:Int)=kd/\(x.m:Int)=m/\(x.k:Int)=k/\(x.n:Int)=n:=by simpa [StkR.is,StkR.v,StkV.is] using h
 omega
theorem ForP.sh {kd m k n:Nat}{R1:List StkR}{ix:Nat}(h:ForP R kd m k n R1 ix)(hi:ix<R1.length):R1[ix].sh=zB kd m k n:=by
 rcases h with⟨rfl,h⟩|⟨_,rfl,gk,mb,rfl⟩
 ·obtain⟨_,h1,_⟩:=List.findIdx?_eq_some_iff_getElem.1 h;obtain⟨e1,e2,e3,e4⟩:=K7 h1;rw [StkR.sh,e1,e2,e3,e4]
 ·simp [StkR.sh]
theorem jb (kd m k n:Nat)(hR:R.length<=100)(hRm:∀x∈R,x.ts.length<=1000)(w:World)(h:StoreOf w B F sv lv dv R ls ops fl ah kn) :
  Calls Tryz.prog 208 #[.pointer (some ⟨B,0,none⟩),zJ kd m k n] w fun e w''=>∃R1 sv1 ix F1,∃hix:ix<R1.length,e=.returned (.pointer (some ⟨R1[ix].blk,0,none⟩))/\jO w w'' B F sv lv dv ls ops fl ah kn (ForP R kd m k n) R1 sv1 ix F1 hix:=by
 cases hf:R.findIdx? (fun x=>x.is kd m k n) with
 | some ix=>
  obtain⟨hi,hfi⟩:=zU hf;refine(Up kd m k n hR R[ix] hfi w h).mono ?_;rintro e w' ⟨rfl,hx⟩;exact⟨R,sv,ix,F,hi,rfl,h.ext hx,.inl ⟨rfl,hf⟩,lM hx,fun _ hb=>hb,fun _ hb=>.inl hb,hRm _ (lV hi)⟩
 | none=>
  refine(UB kd m k n hR (z9 hf) w h).mono ?_;rintro e w' ⟨gk,mb,sv',rfl,hs,ht⟩;refine⟨_,sv',R.length,ZO F w w',by simp,by simp,hs,.inr ⟨hf,rfl,gk,mb,rfl⟩,ht,fun _ hb=>.inl hb,fun _ hb=>hb.imp id (fun h=>h.1),by simp⟩
theorem JZ {kd m k n:Nat}{R1:List StkR}{ix:Nat}{us:List (List Int×Bool)}(h:ForP R kd m k n R1 ix)(hi:ix<R1.length):(R1.set ix (R1[ix].more us)).map lL=Ye (R.map lL) kd m k n us:=by
 unfold Ye;rw [YP];rcases h with⟨rfl,h⟩|⟨h,rfl,gk,mb,rfl⟩
 ·rw [h];apply List.ext_getElem (by simp);intro j h1 h2;simp only [List.getElem_map,List.getElem_set,List.getElem_modify];by_cases e:ix=j
  ·subst e;simp [lL,StkR.more,Stk.more]
  ·simp [e]
 ·rw [h];simp [lL,StkR.more]
theorem U9 (kd m k n gt tcap t:Nat)(us:List (List Int×Bool))(hus:us.length=t)(ht1:t<=200)(hsx:1<=(zB kd m k n).x+(zB kd m k n).y+(zB kd m k n).z/\(zB kd m k n).x+(zB kd m k n).y+(zB kd m k n).z<=27)
  (hul:∀u∈us,OkT (zB kd m k n) u) (hR:R.length<=100) (hRm:∀x∈R,x.ts.length<=1000) (hls:ls.length<=900) (hops:ops.length<=1000000) (hah:yv fl ah) (hok:∀x∈R,StkOk x.abs) (hlok:∀l∈ls,xH l) (hcd:zY (R.map lL) kd m k n t=0) (w:World) (h:StoreOf w B F sv lv dv R ls ops fl ah kn) (htr:TriRow w F gt (zB kd m k n) us) :
  Calls Tryz.prog 98 #[.pointer (some ⟨B,0,none⟩),.iface 174 (.agg #[.int .i64 kd,.int .i64 m,.int .i64 k,.int .i64 n,.slice (some ⟨gt,0,none⟩) t tcap])] w fun e w'=>QJ kn fl ah (R.map lL) ls ⟨(yM kd m k n (zB kd m k n) us).toArray⟩ e fun ok fl' ah' new=>∃R',DoPost w w' B F R' ls (ops++new) fl' ah' ok/\R'.map lL=if ok then Ye (R.map lL) kd m k n us else R.map lL:=by
 have h1:=X0;have h2:=Jy;have h3:=kc;have h4:=Jk;have HA:Hd (∀w',Ext w w'->Calls Tryz.prog 206 #[.agg #[.int .i64 kd,.int .i64 m,.int .i64 k,.int .i64 n,.slice (some ⟨gt,0,none⟩) t tcap],.pointer (some ⟨B,0,none⟩)] w' fun e w''=>e=.returned (.int .i64 0)/\Ext w' w''):=fun w' hx=>by
  have:=qx kd m k n (some ⟨gt,0,none⟩) t tcap (by omega) hR hRm w' (h.ext hx);have t2:=this.mono (R':=fun e w''=>e=.returned (.int .i64 (zY (R.map lL) kd m k n t))/\Ext w' w'') fun e w'' h=>⟨h.1.trans (by rw [QH];cases R.find? (fun x:StkR=>x.is (kd:Int) m k n)<;>rfl),h.2⟩
  rwa [hcd] at t2
 have htE:∀w',Ext w w'->TriRow w' F gt (zB kd m k n) us:=fun w' hx=>htr.turn (S:=fun _=>False) (lM hx) id (fun _ _ _=>id)
 have HRc:Hd (∀w',Ext w w'->_):=fun w' hx=>qI kd m k n gt tcap t F (zB kd m k n) hsx.1 hsx.2 us hus ht1 hul w' (htE w' hx)
 have hsz:(⟨(yM kd m k n (zB kd m k n) us).toArray⟩:ByteArray).size<=100000:=by
  show (yM kd m k n (zB kd m k n) us).toArray.size<=100000
  have h1:=Q2 hsx.2 hul;have h3:us.length*433<=200*433:=Nat.mul_le_mul_right _ (by omega);rw [List.size_toArray,yM,lW];show 5+_<=_
  omega
 have HAd:Hd (∀w',Ext w w'->_):=fun w' hx=>kK ⟨(yM kd m k n (zB kd m k n) us).toArray⟩ hsz hops hah hR hls hok hlok w' (h.ext hx)
 have H:Hd _:=h;have HTR:=hid htr;have HAp:Hd (∀(w':World) (F':Nat->Prop) (dv':Value) (ops':List OpV) (fl':Bool) (ah':Int),StoreOf w' B F' sv lv dv' R ls ops' fl' ah' true->TriRow w' F' gt (zB kd m k n) us->_):=fun w' F' dv' ops' fl' ah' h ht=>
  vI (F:=F') (sv:=sv) (lv:=lv) (dv:=dv') (ls:=ls) (ops:=ops') (fl:=fl') (ah:=ah') (kn:=true) kd m k n (zB kd m k n) hsx gt tcap us t hus (by omega) (ForP R kd m k n) (fun R1 ix hp hi=>hp.sh hi) w' h.deal.lt (fun w'' hx=>jb kd m k n hR hRm w'' (h.ext hx)) ht
   ⟨by obtain⟨cur,hc⟩:=ht.2;exact h.deal.tne hc (by decide),fun e=>by obtain⟨cur,hc⟩:=ht.2;obtain⟨cur',hc'⟩:=zf h.srow e;exact zh hc hc' (by decide) rfl⟩ (fun q hq=>zf h.srow hq) ⟨_,_,_,_,_,_,h.deal⟩
 clear h htr hRm hcd hops hul hus htE hsz hah hok hlok;unfold QJ;generalize (⟨(yM kd m k n (zB kd m k n) us).toArray⟩:ByteArray)=rec at *;generalize ZA kn (R.map lL) ls rec=full at *;generalize ZZ fl ah full.length=fl1 at *;generalize ye fl ah full.length=ah1 at *;generalize ZM fl ah full=did at *;generalize Zg fl ah full.length=ok at *;go_enter func98,ntmps98;go_wp2_with fail
 refine(HA.o _ (lI _)).mono ?_;rintro e w1 ⟨rfl,hx1⟩;have HX1:=hid hx1;clear hx1;go_wp2_with fail
 go_region_held3 (fun _=>True) (trivial) (first
  | (go_at_call 131;refine(HRc.o _ (lY HX1.o (lI _)).drew).mono ?_;rintro e w2 ⟨rfl,hx2⟩)
  | (go_at_call 144;refine(HAd.o _ (lY hx2 (lJ HX1.o))).mono ?_;rintro e w3 ⟨dv',rfl,hS3,ht3⟩))
 all_goals
  have HX2:Hd (Ext w w2):=lY hx2 (lJ HX1.o);have HTT:Hd (Turn (fun b=>b=B\/dv.ownBlock=some b) w w3):=(lM HX2.o).trans ht3;have HTF:Hd (Turn F w w3):=HTT.o.mono (fun b _ hb=>hb.elim (fun e=>e▸H.o.fB) (fun e=>H.o.fd b e));have HTR3:Hd (TriRow w3 (ZO F w2 w3) gt (zB kd m k n) us):=by
   refine(HTR.o.turn HTT.o (fun hor=>?_) (fun b cur hc hor=>?_)).mono (fun b hb=>.inl hb)
   ·obtain⟨cur,hc⟩:=HTR.o.2;rcases hor with e|e
    ·exact H.o.deal.tne hc (by decide) e
    ·obtain⟨cur',hc'⟩:=zf H.o.orow e;exact zh hc hc' (by decide) rfl
   ·rcases hor with e|e
    ·exact H.o.deal.tne hc (by decide) e
    ·obtain⟨cur',hc'⟩:=zf H.o.orow e;exact zh hc hc' (by decide) rfl
  have HS3:=hid hS3;have HDk:Hd (DoPost w w3 B F R ls (ops++did) fl1 ah1 ok):=DoPost.disk hS3 H.o.lt HX2.o ht3 (fun b _ hb=>hb.elim (fun e=>e▸H.o.fB) (fun e=>H.o.fd b e));have hs23:=ht3.size;clear hx2 hS3 ht3;cases ok with
  | false=>
   go_wp2;go_ret;exact⟨rfl,R,HDk.o,rfl⟩
  | true=>
   go_wp2_with fail
   refine(HAp.o w3 _ dv' _ _ _ HS3.o HTR3.o).mono ?_;rintro e w4 ⟨R1,sv1,ix,F1,hix,rfl,q1,q2,q3,q4,q5⟩;have HQ:Hd _:=And.intro q1 (And.intro q2 (And.intro q3 (And.intro q4 q5)));clear q1 q2 q3 q4 q5;go_wp2;go_ret;obtain⟨q1,q2,q3,q4,q5⟩:=HQ.o;have hs2:=HX2.o.le;have hs3:=HTT.o.size;refine⟨rfl,_,DoPost.of q1 H.o.lt HX2.o HTF.o hs23 q5 (fun b hb=>?_) (fun b hb hor=>?_),JZ q2 hix⟩
   ·rcases q4 b hb with hb|hb
    ·exact hb.imp id (fun h=>h.1)
    ·exact .inr (by omega)
   ·rcases hor with e|e|e
    ·exact e▸H.o.fB
    ·exact H.o.fs b e
    ·rcases q4 b e with e|e
     ·rcases e with e|e
      ·exact e
      ·omega
     ·omega
end
end
section
theorem jo:(Tryz.prog.info? 176).map (fun i=>(i.zero,i.size,i.bytes))=some (some (.agg #[.slice none 0 0,.slice none 0 0]),2,48):=by kernel_rfl
section
variable {B:Nat}{F:Nat->Prop}{sv lv dv:Value}{R:List StkR}{ls:List LsV}{ops:List OpV}{fl:Bool}{ah:Int}{kn:Bool}
theorem uF (kd m k n:Int)(hcls:yb kd m k n=false)(a:Option Addr)(len cap B:Nat)(w:World) :
  Calls Tryz.prog 65 #[.pointer (some ⟨B,0,none⟩),zJ kd m k n,.slice a len cap] w fun e w'=>e=.returned (.int .i64 2)/\Ext w w':=by
 have HI:Hd (∀w,Calls Tryz.prog 95 #[zJ kd m k n] w fun e w'=>e=.returned (.bool false)/\Ext w w'):=fun w=>by have:=QY kd m k n w;rw [hcls] at this;exact this
 unfold zJ at *;clear hcls;go_enter func65,ntmps65;go_wp2_with fail
 refine(HI.o _).mono ?_;rintro e w1 ⟨rfl,hx1⟩;have HX1:Hd (Ext w w1):=((lI w).alloc _).trans hx1;clear hx1;go_wp2;go_ret;exact⟨rfl,HX1.o⟩
theorem vH (kd m k n:Nat)(hcls:yb kd m k n=true)(a:Option Addr)(len cap B E:Nat)(hE:E=(zB kd m k n).x+(zB kd m k n).y+((zB kd m k n).x+(zB kd m k n).y+(zB kd m k n).z))(hlen:len<=1000000000000000)(hno:len % E≠0\/len / E<1\/12<len / E)(w:World) :
  Calls Tryz.prog 65 #[.pointer (some ⟨B,0,none⟩),zJ kd m k n,.slice a len cap] w fun e w'=>e=.returned (.int .i64 3)/\Ext w w':=by
 obtain⟨hc,hs⟩:=Yc hcls;have hle:=Sh.le hs;have HI:Hd (∀w,Calls Tryz.prog 95 #[zJ kd m k n] w fun e w'=>e=.returned (.bool true)/\Ext w w'):=fun w=>by have:=QY kd m k n w;rw [hcls] at this;exact this
 have HDr:Hd _:=vX hc hs;rw [<-hE] at HDr;have hE1:1<=E/\E<=45:=by omega
 unfold zJ at *;clear hcls hc hs hE hle;have hdiv:Int.tdiv (len:Int) (E:Int)=((len / E:Nat):Int):=by rw [Int.tdiv_eq_ediv_of_nonneg (by omega)];rfl
 have hmod:Int.tmod (len:Int) (E:Int)=((len % E:Nat):Int):=by rw [Int.tmod_eq_emod_of_nonneg (by omega)];rfl
 have hne:¬((E:Int)=0):=by omega
 have hdl:len / E<=len:=Nat.div_le_self _ _;have HNo:Hd _:=hno;generalize len / E=qd at *;generalize len % E=qm at *;have hwd:IntKind.i64.wrap (qd:Int)=(qd:Int):=by rw [rP];omega
 clear hno;go_enter func65,ntmps65;go_wp2_with fail
 refine(HI.o _).mono ?_;rintro e w1 ⟨rfl,hx1⟩;obtain⟨d0,d1,d2,d3⟩:=ZQ hx1;have HX1:Hd (Ext w w1):=((lI w).alloc _).trans hx1;clear hx1;go_wp2_with fail
 refine(HDr.o _).mono ?_;rintro e w2 ⟨rfl,hx2⟩;have HX2:Hd (Ext w w2):=HX1.o.trans hx2;clear hx2 HX1 d0 d1 d2 d3;go_wp2_with fail
 all_goals first
  | (go_ret;exact⟨rfl,HX2.o⟩)
  | (exfalso;have:=HNo.o;omega)
def ZL (D:List Int)(E j:Nat):List Int:=(D.drop (j*E)).take E
def zM (D:List Int)(E c:Nat):List (List Int):=(List.range c).map (ZL D E)
theorem Zm (D:List Int)(E c:Nat):(zM D E c).length=c:=by simp [zM]
theorem Yx {D:List Int}{E j c:Nat}(h:D.length=c*E)(hj:j<c):(ZL D E j).length=E:=by have h1:(j+1)*E<=c*E:=Nat.mul_le_mul_right E hj;rw [rO,Nat.one_mul] at h1;rw [ZL,sF,sN];omega
theorem Uv {D:List Int}(h:inU64 D)(E j:Nat):inU64 (ZL D E j):=fun z hz=>h z (List.mem_of_mem_drop (List.mem_of_mem_take hz))
def KV (w:World)(base:Nat)(tv:Value)(j:Nat)(s:Sh)(us:List (List Int)):Prop:=
 ∃xs,w.ownsRow base 176 2 tv j xs/\us.length=j/\∀i (h:i<us.length),∃a0 c0 a1 c1,xs[i*2]?=some (.slice (some ⟨a0,0,none⟩) (s.x+s.y+s.z) c0)/\xs[i*2+1]?=some (.slice (some ⟨a1,0,none⟩) (s.x+s.y+s.z) c1)/\WordsU w a0 (Zw s us[i])/\WordsU w a1 (yF s us[i])/\base<=a0/\base<=a1
theorem qq {w wr w3 w4:World}{mv j cnt E g cap3 a0 c0 a1 c1 L kd m k n:Nat}{ta:Option Addr}{tcp:Nat}{D:List Int}{xs:List Value}
  (hx:Ext w wr) (hmr:wr.heap[mv]?=some (.cells #[.int .i64 (kd:Int),.int .i64 m,.int .i64 k,.int .i64 n,.slice ta j tcp] 174 (0,0)))
  (htv:wr.ownsRow w.heap.size 176 2 (.slice ta j tcp) j xs)
  (hxs:∀i (h:i<(zM D E j).length),∃a0 c0 a1 c1,xs[i*2]?=some (.slice (some ⟨a0,0,none⟩) ((zB kd m k n).x+(zB kd m k n).y+(zB kd m k n).z) c0)/\xs[i*2+1]?=some (.slice (some ⟨a1,0,none⟩) ((zB kd m k n).x+(zB kd m k n).y+(zB kd m k n).z) c1)/\WordsU wr a0 (Zw (zB kd m k n) (zM D E j)[i])/\WordsU wr a1 (yF (zB kd m k n) (zM D E j)[i])/\w.heap.size<=a0/\w.heap.size<=a1)
  (hcr:wr.heap[w.heap.size]?=some (.cells #[.int .i64 (kd:Int),.int .i64 m,.int .i64 k,.int .i64 n] 49 (0,0))) (hmvw:w.heap.size<=mv) (hL:(zB kd m k n).x+(zB kd m k n).y+(zB kd m k n).z=L)
  (hx3:Ext wr w3) (ht34:Turn (fun q=>lH (.slice ta j tcp)=some q) w3 w4) (ht4:Turn (fun q=>lH (.slice ta j tcp)=some q) wr w4)
  (hm4:w4.heap[mv]?=some (.cells #[.int .i64 (kd:Int),.int .i64 m,.int .i64 k,.int .i64 n,.slice ta j tcp] 174 (0,0)))
  (how:w4.ownsRow w.heap.size 176 2 (.slice (some ⟨g,0,none⟩) (j+1) cap3) (j+1) (xs++[.slice (some ⟨a0,0,none⟩) L c0,.slice (some ⟨a1,0,none⟩) L c1]))
  (h0:w3.ownsRow wr.heap.size 146 1 (.slice (some ⟨a0,0,none⟩) L c0) L ((Zw (zB kd m k n) (ZL D E j)).map (Value.int .u64)))
  (h1:w3.ownsRow wr.heap.size 146 1 (.slice (some ⟨a1,0,none⟩) L c1) L ((yF (zB kd m k n) (ZL D E j)).map (Value.int .u64)))
  (_hcl:(ZL D E j).length=E) (hlt:j<cnt) :
  ∃(j_1:Nat) (tv:Value),j_1<=cnt/\Value.int .i64 ((j:Int)+1)=Value.int .i64 (j_1:Int)/\(w4.setCell ⟨mv,4,none⟩ (.slice (some ⟨g,0,none⟩) (j+1) cap3)).heap[mv]?=some (.cells #[.int .i64 (kd:Int),.int .i64 m,.int .i64 k,.int .i64 n,tv] 174 (0,0))/\
   KV (w4.setCell ⟨mv,4,none⟩ (.slice (some ⟨g,0,none⟩) (j+1) cap3)) w.heap.size tv j_1 (zB kd m k n) (zM D E j_1)/\Ext w (w4.setCell ⟨mv,4,none⟩ (.slice (some ⟨g,0,none⟩) (j+1) cap3))/\
   (w4.setCell ⟨mv,4,none⟩ (.slice (some ⟨g,0,none⟩) (j+1) cap3)).heap[w.heap.size]?=some (.cells #[.int .i64 (kd:Int),.int .i64 m,.int .i64 k,.int .i64 n] 49 (0,0)):=by
 have hTm:Turn (fun q=>q=mv) w4 (w4.setCell ⟨mv,4,none⟩ (.slice (some ⟨g,0,none⟩) (j+1) cap3)):=lQ (S:=fun q=>q=mv) (p:=⟨mv,4,none⟩) (rD _ w4) (fun _=>rfl) _;have hwm:∀{b:Nat} {zs:List Int},WordsU w4 b zs->WordsU (w4.setCell ⟨mv,4,none⟩ (.slice (some ⟨g,0,none⟩) (j+1) cap3)) b zs:=fun {b zs} h=>h.turn hTm (by obtain⟨cur,hc⟩:=h.2;exact zh hc hm4 (by decide))
 have hold:∀{b:Nat} {zs:List Int},WordsU wr b zs->WordsU w4 b zs:=fun {b zs} h=>h.turn ht4 (fun e=>by obtain⟨cur,hc⟩:=h.2;obtain⟨cur',hc'⟩:=zf htv e;exact zh hc hc' (by decide) rfl)
 have hnew:∀{b:Nat} {zs:List Int},WordsU w3 b zs->WordsU w4 b zs:=fun {b zs} h=>h.turn ht34 (fun e=>by obtain⟨cur,hc⟩:=h.2;obtain⟨cur',hc'⟩:=zf htv e;exact zh hc (hx3.block hc') (by decide) rfl)
 have hxl:xs.length=j*2:=htv.1;have hgm:g≠mv:=by obtain⟨cur,hc⟩:=zf how (g:=g) rfl;exact zh hc hm4 (by decide)
 have htw:¬lH (.slice ta j tcp)=some w.heap.size:=Zk (B:=w.heap.size) hcr htv (by decide);have hwl:=hx.le;refine⟨j+1,.slice (some ⟨g,0,none⟩) (j+1) cap3,by omega,by simp,zg hm4 _,⟨xs++[.slice (some ⟨a0,0,none⟩) L c0,.slice (some ⟨a1,0,none⟩) L c1],zi how (by simpa [lH] using hgm) _,Zm _ _ _,fun i hi=>?_⟩,?_,?_⟩
 ·rw [Zm] at hi;by_cases e:i=j
  ·subst e;have hg:(zM D E (i+1))[i]'(by rw [Zm];omega)=ZL D E i:=by simp [zM]
   refine⟨a0,c0,a1,c1,?_,?_,?_,?_,rH hwl (h0.lt a0 rfl).1,rH hwl (h1.lt a1 rfl).1⟩
   ·rw [sH (by omega),hxl,hL];simp
   ·rw [sH (by omega),hxl,hL,show i*2+1 - i*2=1 by omega];simp
   ·rw [hg];exact hwm (hnew (Yj h0))
   ·rw [hg];exact hwm (hnew (Yj h1))
  ·have hi':i<(zM D E j).length:=by rw [Zm];omega
   have hg:(zM D E (j+1))[i]'(by rw [Zm];omega)=(zM D E j)[i]:=by simp [zM]
   obtain⟨b0,d0,b1,d1,k1,k2,k3,k4,k5,k6⟩:=hxs i hi';refine⟨b0,d0,b1,d1,?_,?_,?_,?_,k5,k6⟩
   ·rw [sL (by omega)];exact k1
   ·rw [sL (by omega)];exact k2
   ·rw [hg];exact hwm (hold k3)
   ·rw [hg];exact hwm (hold k4)
 ·refine rF ?_ (by show w.heap.size<=mv;exact hmvw) _;exact Turn.ext ((lM (S:=fun _=>False) hx).trans' ht4 (fun i hi e=>by have:=(htv.lt i e).1;omega))
 ·rw [Below.heap_setCell _ _ _ _ (fun e=>zh hcr hmr (by decide) e)];exact ht4.ref hcr htw
def Zc (us:List (List Int)):List (List Int×Bool):=us.map fun u=>(u,true)
theorem YW {s:Sh}{u:List Int}(h:u.length=s.x+s.y+(s.x+s.y+s.z))(hz:1<=s.z):sh0 s u=Zw s u:=by unfold sh0;rw [if_neg (by omega)]
theorem Y6 {s:Sh}{u:List Int}(h:u.length=s.x+s.y+(s.x+s.y+s.z))(hz:1<=s.z):sh1 s u=yF s u:=by unfold sh1;rw [if_neg (by omega)]
theorem Vn {s:Sh}{u:List Int}(h:u.length=s.x+s.y+(s.x+s.y+s.z))(hz:1<=s.z)(h0:inU64 (Zw s u))(h1:inU64 (yF s u))(b:Bool):OkT s (u,b):=fun _=>by
 show (sh0 s u).length=_/\(sh1 s u).length=_/\inU64 (sh0 s u)/\inU64 (sh1 s u)
 rw [YW h hz,Y6 h hz];have e0:(Zw s u).length=s.x+s.y+s.z:=by rw [Zw,sN];omega
 exact⟨e0,by rw [yF,List.length_zipWith,YZ _ _ h,e0];omega,h0,h1⟩
theorem DoPost.lift {w wr w5:World}{B:Nat}{F:Nat->Prop}{R':List StkR}{ls':List LsV}{ops':List OpV}{fl':Bool}{ah':Int}{kn':Bool}(h:DoPost wr w5 B (ZO F w wr) R' ls' ops' fl' ah' kn')(hx:Ext w wr)(hF:∀b,F b->b<w.heap.size):DoPost w w5 B F R' ls' ops' fl' ah' kn':=by
 obtain⟨sv',lv',dv',h1,h2⟩:=h;have e1:=hx.le;have e2:=h2.size;refine⟨sv',lv',dv',h1.mono (fun b hb=>?_) (fun b hb=>?_),(lM hx).trans' h2 (fun b hb hor=>?_)⟩
 ·rcases hb with hb|hb
  ·rcases hb with hb|hb
   ·exact .inl hb
   ·exact .inr ⟨hb.1,by omega⟩
  ·exact .inr ⟨by omega,hb.2⟩
 ·rcases hb with hb|hb
  ·have:=hF b hb;omega
  ·exact hb.2
 ·rcases hor with h|h
  ·exact h
  ·omega
def jg (kn fl:Bool)(ah:Int)(R:List StkR)(ls:List LsV)(ops:List OpV)(kd m k n:Nat)(us:List (List Int×Bool))(B:Nat)(F:Nat->Prop)(w w':World)(e:Ending):Prop:=
 QJ kn fl ah (R.map lL) ls ⟨(yM kd m k n (zB kd m k n) us).toArray⟩ e fun ok fl' ah' new=>∃R',DoPost w w' B F R' ls (ops++new) fl' ah' ok/\R'.map lL=if ok then Ye (R.map lL) kd m k n us else R.map lL
theorem uL (kd m k n:Nat)(hcls:yb kd m k n=true)(b off len cap cnt E:Nat)(D:List Int)(hE:E=(zB kd m k n).x+(zB kd m k n).y+((zB kd m k n).x+(zB kd m k n).y+(zB kd m k n).z))(hl:D.length=len)(hcap:len<=cap)(hlen:len=cnt*E)(hc1:1<=cnt)(hc12:cnt<=12)(hu:inU64 D)(hu01:∀u,u.length=E->inU64 u->inU64 (Zw (zB kd m k n) u)/\inU64 (yF (zB kd m k n) u))
  (hR:R.length<=100) (hRm:∀x∈R,x.ts.length<=1000) (hls:ls.length<=900) (hops:ops.length<=1000000) (hah:yv fl ah) (hok:∀x∈R,StkOk x.abs) (hlok:∀l∈ls,xH l) (w:World) (h:StoreOf w B F sv lv dv R ls ops fl ah kn) (hz:WordsAt w b off D) :
  Calls Tryz.prog 65 #[.pointer (some ⟨B,0,none⟩),zJ kd m k n,.slice (some ⟨b,off,none⟩) len cap] w fun e w'=>
   (zY (R.map lL) kd m k n cnt≠0/\e=.returned (.int .i64 (zY (R.map lL) kd m k n cnt))/\Ext w w')\/
   (zY (R.map lL) kd m k n cnt=0/\jg kn fl ah R ls ops kd m k n (Zc (zM D E cnt)) B F w w' e):=by
 obtain⟨i0,hi,hz0,hz1,hz2⟩:=info_parts jo;obtain⟨hc,hs⟩:=Yc hcls;have hle:=Sh.le hs;have HI:Hd (∀w,Calls Tryz.prog 95 #[zJ kd m k n] w fun e w'=>e=.returned (.bool true)/\Ext w w'):=fun w=>by have:=QY kd m k n w;rw [hcls] at this;exact this
 have HDr:Hd _:=vX hc hs;rw [<-hE] at HDr;have HM:Hd (∀(off' cap':Nat) (U:List Int),U.length=E->E<=cap'->∀w,WordsAt w b off' U->_):=fun off' cap' U hU hcap' w hz=>gf hc hs b off' E cap' U hU hE hcap' w hz
 have hE1:5<=E/\E<=45:=by omega
 have hz1':1<=(zB kd m k n).z:=by have:=Sh.le hs;omega
 have hEq:∀u∈zM D E cnt,u.length=(zB kd m k n).x+(zB kd m k n).y+((zB kd m k n).x+(zB kd m k n).y+(zB kd m k n).z)/\inU64 u:=fun u hu'=>by obtain⟨j,hj,rfl⟩:=sC.1 hu';exact⟨(Yx (hl.trans hlen) (List.mem_range.1 hj)).trans hE,Uv hu E j⟩
 have HEq:Hd (∀u∈zM D E cnt,sh0 (zB kd m k n) u=Zw (zB kd m k n) u/\sh1 (zB kd m k n) u=yF (zB kd m k n) u):=fun u hu=>⟨YW (hEq u hu).1 hz1',Y6 (hEq u hu).1 hz1'⟩
 have HDo:Hd (∀(w':World) (gt tcap:Nat) (F':Nat->Prop),StoreOf w' B F' sv lv dv R ls ops fl ah kn->TriRow w' F' gt (zB kd m k n) (Zc (zM D E cnt))->
   Calls Tryz.prog 98 #[.pointer (some ⟨B,0,none⟩),.iface 174 (.agg #[.int .i64 (kd:Int),.int .i64 m,.int .i64 k,.int .i64 n,.slice (some ⟨gt,0,none⟩) cnt tcap])] w' fun e w''=>
   (zY (R.map lL) kd m k n cnt≠0/\e=.returned (.int .i64 (zY (R.map lL) kd m k n cnt))/\Ext w' w'')\/
   (zY (R.map lL) kd m k n cnt=0/\jg kn fl ah R ls ops kd m k n (Zc (zM D E cnt)) B F' w' w'' e)):=fun w' gt tcap F' hst htr=>by
  by_cases hcd:zY (R.map lL) kd m k n cnt=0
  ·refine(U9 kd m k n gt tcap cnt (Zc (zM D E cnt)) (by simp [Zc,Zm]) (by omega) (by omega) ?_ hR hRm hls hops hah hok hlok hcd w' hst htr).mono fun e w'' h=>.inr ⟨hcd,h⟩
   intro u hu';obtain⟨v,hv,rfl⟩:=sC.1 hu';have h0:=hEq v hv;have h1:=hu01 v (h0.1.trans hE.symm) h0.2;exact Vn h0.1 hz1' h1.1 h1.2 true
  ·exact(VB kd m k n (some ⟨gt,0,none⟩) cnt tcap (by omega) hR hRm hcd w' hst).mono fun e w'' h=>.inl ⟨hcd,h⟩
 have H:Hd _:=h;have HZ:=hid hz;have HL:Hd (D.length=cnt*E):=hl.trans hlen;have HB0:Hd (b<w.heap.size):=lG w _ (hz 0 (by rw [hl,hlen];have:=rN hc1 hE1.1;omega));have hlenb:len<=540:=by rw [hlen];exact rH (rN hc12 hE1.2) (by omega)
 have hdiv:Int.tdiv (len:Int) (E:Int)=(cnt:Int):=by rw [hlen,rQ,Int.mul_tdiv_cancel _ (by omega)]
 have hmod:Int.tmod (len:Int) (E:Int)=0:=by rw [hlen,rQ];exact Int.mul_tmod_left _ _
 have hne:¬((E:Int)=0):=by omega
 have HLen:Hd (len=cnt*E/\len<=cap):=⟨hlen,hcap⟩
 unfold zJ at *;clear hcls hc hs hE hle hRm hops h hz hu hu01 hl hlen hcap hah hok hlok hz1' hEq;generalize hsL:(zB kd m k n).x+(zB kd m k n).y+(zB kd m k n).z=L at *;have HSL:=hid hsL;clear hsL;go_enter func65,ntmps65;go_wp2_with fail
 refine(HI.o _).mono ?_;rintro e w1 ⟨rfl,hx1⟩;obtain⟨d0,d1,d2,d3⟩:=ZQ hx1;have hcb:w1.heap[w.heap.size]?=some (.cells #[.int .i64 (kd:Int),.int .i64 m,.int .i64 k,.int .i64 n] 49 (0,0)):=hx1.block (heap_alloc_new w _);have HX1:Hd (Ext w w1):=((lI w).alloc _).trans hx1;clear hx1;go_wp2_with fail
 refine(HDr.o _).mono ?_;rintro e w2 ⟨rfl,hx2⟩;have d0:=hx2.cell d0;have d1:=hx2.cell d1;have d2:=hx2.cell d2;have d3:=hx2.cell d3;have HX2:Hd (Ext w w2):=HX1.o.trans hx2;have hc0:=lG w2 _ d0;have HCB:=hid (hx2.block hcb);clear hx2 HX1 hcb;go_wp2_with fail
 have hmv:(w2.alloc (.cells #[.int .i64 (kd:Int),.int .i64 m,.int .i64 k,.int .i64 n,.slice none 0 0] 174)).heap[w2.heap.size]?=some (.cells #[.int .i64 (kd:Int),.int .i64 m,.int .i64 k,.int .i64 n,.slice none 0 0] 174 (0,0)):=heap_alloc_new w2 _;have hXV:Ext w2 (w2.alloc (.cells #[.int .i64 (kd:Int),.int .i64 m,.int .i64 k,.int .i64 n,.slice none 0 0] 174)):=(lI w2).alloc _;generalize World.alloc w2 _=V at hmv hXV ⊢;obtain⟨mv,hmvE⟩:∃mv,w2.heap.size=mv:=⟨_,rfl⟩
 rw [hmvE] at hmv;have hmvw:w.heap.size<=mv:=by rw [<-hmvE];exact HX2.o.le
 have hccm:w.heap.size<mv:=by rw [<-hmvE];exact hc0
 have HXV:Hd (Ext w V):=HX2.o.trans hXV;have HMV:=hid hmv;have hmvl:mv<V.heap.size:=(Array.getElem?_eq_some_iff.1 hmv).1;have HC:=hid (hXV.block HCB.o);simp only [hmvE];clear hXV hmv HX2 hmvE hdiv hmod hne hc0 d0 d1 d2 d3
 go_loopw [36] (fun i wr=>∃(j:Nat) (tv:Value),j<=cnt/\i=.int .i64 j/\wr.heap[mv]?=some (.cells #[.int .i64 (kd:Int),.int .i64 m,.int .i64 k,.int .i64 n,tv] 174 (0,0))/\KV wr w.heap.size tv j (zB kd m k n) (zM D E j)/\Ext w wr/\wr.heap[w.heap.size]?=some (.cells #[.int .i64 (kd:Int),.int .i64 m,.int .i64 k,.int .i64 n] 49 (0,0))) (fun i _=>cnt - (intOf i).toNat)
 case atStart=>exact⟨0,.slice none 0 0,Nat.zero_le _,rfl,HMV.o,⟨[],World.ownsRow_nil _ _ _ _,rfl,fun i hi=>by simp [zM] at hi⟩,HXV.o,HC.o⟩
 case round=>
  obtain⟨j,tv,hj,rfl,hmvr,htso,hx,hcb⟩:=hrel;have HCr:=hid hcb;have d0:wr.cell? ⟨w.heap.size,0,none⟩=some (.int .i64 (kd:Int)):=zc hcb rfl;have d1:wr.cell? ⟨w.heap.size,1,none⟩=some (.int .i64 (m:Int)):=zc hcb rfl;have d2:wr.cell? ⟨w.heap.size,2,none⟩=some (.int .i64 (k:Int)):=zc hcb rfl;have d3:wr.cell? ⟨w.heap.size,3,none⟩=some (.int .i64 (n:Int)):=zc hcb rfl;have HMR:Hd _:=hmvr;have HTS:=hid htso;have HX:=hid hx;clear hmvr htso hx hcb;by_cases hlt:j<cnt
  -- ROUND
  ·skip
   have hju:j<(zM D E cnt).length:=by rw [Zm];exact hlt
   obtain⟨lo,hlo⟩:∃lo,j*E=lo:=⟨_,rfl⟩
   obtain⟨hi',hhi⟩:∃hi',(j+1)*E=hi':=⟨_,rfl⟩
   have hlh:lo+E=hi':=by rw [<-hlo,<-hhi,rO,Nat.one_mul]
   have hhl:hi'<=len:=by rw [<-hhi,HLen.o.1];exact Nat.mul_le_mul_right E hlt
   have v1:IntKind.i64.wrap ((j:Int)*(E:Int))=(lo:Int):=by rw [<-rQ,hlo];exact zt (by omega)
   have v3:IntKind.i64.wrap (((j:Int)+1)*(E:Int))=(hi':Int):=by rw [show ((j:Int)+1)*(E:Int)=(((j+1)*E:Nat):Int) by simp,hhi];exact zt (by omega)
   have v4:IntKind.i64.wrap (IntKind.i64.wrap ((j:Int)+1)*(E:Int))=(hi':Int):=by rw [show IntKind.i64.wrap ((j:Int)+1)=(j:Int)+1 by rw [rP];omega];exact v3
   have tS:∀W,(Instr.slice 31 (.slice (some ⟨b,off,none⟩) len cap) (some (.int .i64 (lo:Int))) (some (.int .i64 (hi':Int))) none).run Tryz.prog W=.ok (.slice (some ⟨b,off+lo,none⟩) E (cap - lo)) W:=fun W=>by rw [yI b off len cap lo hi' (by omega) (by have:=HLen.o.2;omega),show hi' - lo=E by omega]
   have HU:Hd ((ZL D E j).length=E/\WordsAt wr b (off+lo) (ZL D E j)/\E<=cap - lo):=by refine⟨Yx HL.o hlt,?_,by have:=HLen.o.2;omega⟩;have h1:=((HZ.o.ext HX.o).drop lo).take E;rw [<-hlo] at h1 ⊢;exact h1
   obtain⟨xs,htv,_,hxs⟩:=HTS.o;obtain⟨ta,tcp,htvE⟩:=zo htv;have HTV:=hid htv;have HXS:Hd _:=hxs;have e4:wr.cell? ⟨mv,4,none⟩=some tv:=zc HMR.o rfl;have hwl:=HX.o.le;have hmvr:mv<wr.heap.size:=lG wr _ e4;have HTM:Hd (tv.ownBlock≠some mv):=Zk (B:=mv) HMR.o htv (by decide);have HTW:Hd (tv.ownBlock≠some w.heap.size):=Zk (B:=w.heap.size) HCr.o htv (by decide);clear htv hxs hlo hhi;subst htvE;have SD:Hd (∀W,Turn (fun q=>lH (.slice ta j tcp)=some q) wr W->(fun w'=>w'.cell? ⟨w.heap.size,0,none⟩=some (.int .i64 (kd:Int))/\w'.cell? ⟨w.heap.size,1,none⟩=some (.int .i64 (m:Int))/\w'.cell? ⟨w.heap.size,2,none⟩=some (.int .i64 (k:Int))/\w'.cell? ⟨w.heap.size,3,none⟩=some (.int .i64 (n:Int))) W):=fun W hT=>⟨hT.cell d0 HTW.o,hT.cell d1 HTW.o,hT.cell d2 HTW.o,hT.cell d3 HTW.o⟩
   go_wp2_with fail
   refine wp_region_held_drew (S:=(fun w'=>w'.cell? ⟨w.heap.size,0,none⟩=some (.int .i64 (kd:Int))/\w'.cell? ⟨w.heap.size,1,none⟩=some (.int .i64 (m:Int))/\w'.cell? ⟨w.heap.size,2,none⟩=some (.int .i64 (k:Int))/\w'.cell? ⟨w.heap.size,3,none⟩=some (.int .i64 (n:Int)))) (by kernel_rfl) ⟨d0,d1,d2,d3⟩ (fun hHeld=>?_);refine zT 0 hHeld ?_;refine zT 2 hHeld ?_;refine zT 3 hHeld ?_;refine zT 4 hHeld ?_;refine zT 5 hHeld ?_;refine zT 6 hHeld ?_;refine zT 7 hHeld ?_;refine zT 8 hHeld ?_;refine zT 9 hHeld ?_;refine zT 10 hHeld ?_;refine zT 11 hHeld ?_;refine wpAnyH_ready (rs:=[1,12]) (by kernel_rfl) (by simp) ?_;refine sD (o:=_) rfl (fun K hK=>?_) (sD (o:=_) rfl (fun K hK=>?_) AllReadyH.nil)
   ·skip
    (try simp only [lA,lB,lC])
    go_simp;refine hK.out _ _ ?ha1 (fun hHeld=>?_)
    case ha1=>exact SD.o _ (lM (lJ (lI _)))
    clear hK K
    try simp only [Act.put,lA,lB,lC,lD,lE,lF]
    refine zR 12 fun K hK=>?_
    (try simp only [lA,lB,lC])
    go_simp;refine(HM.o _ _ _ HU.o.1 HU.o.2.2 _ (HU.o.2.1.ext (lJ (lI _)))).mono ?_;rintro e w3 ⟨a0,c0,a1,c1,rfl,h0,h1,hx3⟩;have hX3:Ext wr w3:=(lJ (lI wr)).trans hx3;have HX3:=hid hX3;have HH:Hd _:=And.intro h0 h1;have e4:=hX3.cell e4;have hl3:=lG w3 _ e4;have hw3:=hX3.le;clear h0 h1 hx3;refine hK.out _ _ ?hc1 (fun hHeld=>?_)
    case hc1=>exact SD.o _ (lM hX3)
    clear hK K hX3
    try simp only [Act.put,lA,lB,lC,lD,lE,lF]
    refine zR 13 fun K hK=>?_
    (try simp only [lA,lB,lC])
    go_simp;refine hK.out _ _ ?hb1 (fun hHeld=>?_)
    case hb1=>exact SD.o _ (lM (lK HX3.o _))
    clear hK K
    try simp only [Act.put,lA,lB,lC,lD,lE,lF]
    refine zR 14 fun K hK=>?_
    refine step_append_lies _ (by rfl) _ _ 172 (by rfl) w.heap.size 176 i0 _ 2 48 underlying172 hi hz0 hz1 hz2 (by rfl) (by decide) (.slice ta j tcp) j xs (by rfl) (rE (lK HX3.o _) HTV.o) ⟨_,0,none⟩ 1 1 [.slice (some ⟨a0,0,none⟩) L c0,.slice (some ⟨a1,0,none⟩) L c1] (by rfl) (by rfl) (rI (heap_alloc_new _ _)) (by simp [Value.oneCell']) (by decide) (by unfold maxLen;omega) (by omega) ?hbase1 _ rfl ?_
    case hbase1=>exact rH hwl (Ext.le (lK HX3.o _))
    intro g cap3 w4 hown4 hgrow4 hat4 hlt4;have ht4:Turn (fun q=>lH (.slice ta j tcp)=some q) wr w4:=rJ (lM (lK HX3.o _)) hgrow4 (fun q hq _=>hq);have HT4:=hid ht4;have hm4:w4.heap[mv]?=some (.cells #[.int .i64 (kd:Int),.int .i64 m,.int .i64 k,.int .i64 n,.slice ta j tcp] 174 (0,0)):=ht4.ref HMR.o HTM.o;have HM4:=hid hm4;have e4d:w4.cell? ⟨mv,4,none⟩=some (.slice ta j tcp):=zc hm4 rfl;have f4d:=ze hm4 4;have HOW:=hid hown4;have HGR:Hd _:=And.intro hgrow4 hat4;refine hK.out _ _ ?hd1 (fun hHeld=>?_)
    case hd1=>exact SD.o _ ht4
    clear hK K hown4 hgrow4 hat4 ht4 hm4
    try simp only [Act.put,lA,lB,lC,lD,lE,lF]
    refine zT 15 hHeld ?_;refine zR 16 fun K hK=>?_
    (try simp only [lA,lB,lC])
    go_simp;refine hK.out _ _ ?he1 (fun hHeld=>?_)
    case he1=>
     obtain⟨s0,s1,s2,s3⟩:=SD.o _ HT4.o;have hne:mv≠w.heap.size:=by omega
     exact⟨(lX _ _ _ _ hne).trans s0,(lX _ _ _ _ hne).trans s1,(lX _ _ _ _ hne).trans s2,(lX _ _ _ _ hne).trans s3⟩
    clear hK K
    try simp only [Act.put,lA,lB,lC,lD,lE,lF]
    refine wpAnyH_done (by kernel_rfl) ?_ _;clear hHeld e4d f4d d0 d1 d2 d3 e4;go_wp2
    go_roundw
    case rel=>
     have hT34:Turn (fun q=>lH (.slice ta j tcp)=some q) w3 w4:=rJ (lM (lK (lI w3) _)) HGR.o.1 (fun q hq _=>hq);obtain⟨h0,h1⟩:=HH.o;exact qq HX.o HMR.o HTV.o HXS.o HCr.o hmvw HSL.o HX3.o hT34 HT4.o HM4.o HOW.o h0 h1 HU.o.1 hlt
    case measure=>simp [intOf];omega
   ·skip
    (try simp only [lA,lB,lC])
    go_simp;refine(HM.o _ _ _ HU.o.1 HU.o.2.2 _ (HU.o.2.1.ext (lJ (lI _)))).mono ?_;rintro e w3 ⟨a0,c0,a1,c1,rfl,h0,h1,hx3⟩;have hX3:Ext wr w3:=(lJ (lI wr)).trans hx3;have HX3:=hid hX3;have HH:Hd _:=And.intro h0 h1;have e4:=hX3.cell e4;have hl3:=lG w3 _ e4;have hw3:=hX3.le;clear h0 h1 hx3;refine hK.out _ _ ?hc2 (fun hHeld=>?_)
    case hc2=>exact SD.o _ (lM hX3)
    clear hK K hX3
    try simp only [Act.put,lA,lB,lC,lD,lE,lF]
    refine wpAnyH_ready (rs:=[1,13]) (by kernel_rfl) (by simp) ?_;refine sD (o:=_) rfl (fun K hK=>?_) (sD (o:=_) rfl (fun K hK=>?_) AllReadyH.nil)
    ·skip
     (try simp only [lA,lB,lC])
     go_simp;refine hK.out _ _ ?ha2 (fun hHeld=>?_)
     case ha2=>exact SD.o _ (lM (HX3.o))
     clear hK K
     try simp only [Act.put,lA,lB,lC,lD,lE,lF]
     refine zR 13 fun K hK=>?_
     (try simp only [lA,lB,lC])
     go_simp;refine hK.out _ _ ?hb2 (fun hHeld=>?_)
     case hb2=>exact SD.o _ (lM (lK HX3.o _))
     clear hK K
     try simp only [Act.put,lA,lB,lC,lD,lE,lF]
     refine zR 14 fun K hK=>?_
     refine step_append_lies _ (by rfl) _ _ 172 (by rfl) w.heap.size 176 i0 _ 2 48 underlying172 hi hz0 hz1 hz2 (by rfl) (by decide) (.slice ta j tcp) j xs (by rfl) (rE (lK HX3.o _) HTV.o) ⟨_,0,none⟩ 1 1 [.slice (some ⟨a0,0,none⟩) L c0,.slice (some ⟨a1,0,none⟩) L c1] (by rfl) (by rfl) (rI (heap_alloc_new _ _)) (by simp [Value.oneCell']) (by decide) (by unfold maxLen;omega) (by omega) ?hbase2 _ rfl ?_
     case hbase2=>exact rH hwl (Ext.le (lK HX3.o _))
     intro g cap3 w4 hown4 hgrow4 hat4 hlt4;have ht4:Turn (fun q=>lH (.slice ta j tcp)=some q) wr w4:=rJ (lM (lK HX3.o _)) hgrow4 (fun q hq _=>hq);have HT4:=hid ht4;have hm4:w4.heap[mv]?=some (.cells #[.int .i64 (kd:Int),.int .i64 m,.int .i64 k,.int .i64 n,.slice ta j tcp] 174 (0,0)):=ht4.ref HMR.o HTM.o;have HM4:=hid hm4;have e4d:w4.cell? ⟨mv,4,none⟩=some (.slice ta j tcp):=zc hm4 rfl;have f4d:=ze hm4 4;have HOW:=hid hown4;have HGR:Hd _:=And.intro hgrow4 hat4;refine hK.out _ _ ?hd2 (fun hHeld=>?_)
     case hd2=>exact SD.o _ ht4
     clear hK K hown4 hgrow4 hat4 ht4 hm4
     try simp only [Act.put,lA,lB,lC,lD,lE,lF]
     refine zT 15 hHeld ?_;refine zR 16 fun K hK=>?_
     (try simp only [lA,lB,lC])
     go_simp;refine hK.out _ _ ?he2 (fun hHeld=>?_)
     case he2=>
      obtain⟨s0,s1,s2,s3⟩:=SD.o _ HT4.o;have hne:mv≠w.heap.size:=by omega
      exact⟨(lX _ _ _ _ hne).trans s0,(lX _ _ _ _ hne).trans s1,(lX _ _ _ _ hne).trans s2,(lX _ _ _ _ hne).trans s3⟩
     clear hK K
     try simp only [Act.put,lA,lB,lC,lD,lE,lF]
     refine wpAnyH_done (by kernel_rfl) ?_ _;clear hHeld e4d f4d d0 d1 d2 d3 e4;go_wp2
     go_roundw
     case rel=>
      have hT34:Turn (fun q=>lH (.slice ta j tcp)=some q) w3 w4:=rJ (lM (lK (lI w3) _)) HGR.o.1 (fun q hq _=>hq);obtain⟨h0,h1⟩:=HH.o;exact qq HX.o HMR.o HTV.o HXS.o HCr.o hmvw HSL.o HX3.o hT34 HT4.o HM4.o HOW.o h0 h1 HU.o.1 hlt
     case measure=>simp [intOf];omega
    ·skip
     (try simp only [lA,lB,lC])
     go_simp;refine hK.out _ _ ?hb3 (fun hHeld=>?_)
     case hb3=>exact SD.o _ (lM (lK HX3.o _))
     clear hK K
     try simp only [Act.put,lA,lB,lC,lD,lE,lF]
     refine zR 1 fun K hK=>?_
     (try simp only [lA,lB,lC])
     go_simp;refine hK.out _ _ ?ha3 (fun hHeld=>?_)
     case ha3=>exact SD.o _ (lM (lK HX3.o _))
     clear hK K
     try simp only [Act.put,lA,lB,lC,lD,lE,lF]
     refine zR 14 fun K hK=>?_
     refine step_append_lies _ (by rfl) _ _ 172 (by rfl) w.heap.size 176 i0 _ 2 48 underlying172 hi hz0 hz1 hz2 (by rfl) (by decide) (.slice ta j tcp) j xs (by rfl) (rE (lK HX3.o _) HTV.o) ⟨_,0,none⟩ 1 1 [.slice (some ⟨a0,0,none⟩) L c0,.slice (some ⟨a1,0,none⟩) L c1] (by rfl) (by rfl) (rI (heap_alloc_new _ _)) (by simp [Value.oneCell']) (by decide) (by unfold maxLen;omega) (by omega) ?hbase3 _ rfl ?_
     case hbase3=>exact rH hwl (Ext.le (lK HX3.o _))
     intro g cap3 w4 hown4 hgrow4 hat4 hlt4;have ht4:Turn (fun q=>lH (.slice ta j tcp)=some q) wr w4:=rJ (lM (lK HX3.o _)) hgrow4 (fun q hq _=>hq);have HT4:=hid ht4;have hm4:w4.heap[mv]?=some (.cells #[.int .i64 (kd:Int),.int .i64 m,.int .i64 k,.int .i64 n,.slice ta j tcp] 174 (0,0)):=ht4.ref HMR.o HTM.o;have HM4:=hid hm4;have e4d:w4.cell? ⟨mv,4,none⟩=some (.slice ta j tcp):=zc hm4 rfl;have f4d:=ze hm4 4;have HOW:=hid hown4;have HGR:Hd _:=And.intro hgrow4 hat4;refine hK.out _ _ ?hd3 (fun hHeld=>?_)
     case hd3=>exact SD.o _ ht4
     clear hK K hown4 hgrow4 hat4 ht4 hm4
     try simp only [Act.put,lA,lB,lC,lD,lE,lF]
     refine zT 15 hHeld ?_;refine zR 16 fun K hK=>?_
     (try simp only [lA,lB,lC])
     go_simp;refine hK.out _ _ ?he3 (fun hHeld=>?_)
     case he3=>
      obtain⟨s0,s1,s2,s3⟩:=SD.o _ HT4.o;have hne:mv≠w.heap.size:=by omega
      exact⟨(lX _ _ _ _ hne).trans s0,(lX _ _ _ _ hne).trans s1,(lX _ _ _ _ hne).trans s2,(lX _ _ _ _ hne).trans s3⟩
     clear hK K
     try simp only [Act.put,lA,lB,lC,lD,lE,lF]
     refine wpAnyH_done (by kernel_rfl) ?_ _;clear hHeld e4d f4d d0 d1 d2 d3 e4;go_wp2
     go_roundw
     case rel=>
      have hT34:Turn (fun q=>lH (.slice ta j tcp)=some q) w3 w4:=rJ (lM (lK (lI w3) _)) HGR.o.1 (fun q hq _=>hq);obtain⟨h0,h1⟩:=HH.o;exact qq HX.o HMR.o HTV.o HXS.o HCr.o hmvw HSL.o HX3.o hT34 HT4.o HM4.o HOW.o h0 h1 HU.o.1 hlt
     case measure=>simp [intOf];omega
  -- DONE
  ·obtain rfl:j=cnt:=by omega
   obtain⟨xs,htv,_,hxs⟩:=HTS.o;obtain⟨gt,tcap,rfl,_,_,_⟩:∃gt tcap,tv=.slice (some ⟨gt,0,none⟩) j tcap/\w.heap.size<=gt/\j<=tcap/\tcap<=maxLen:=by
    rcases zw htv with⟨_,h,_⟩|h
    ·omega
    ·exact h
   have HST:Hd (StoreOf wr B (ZO F w wr) sv lv dv R ls ops fl ah kn):=(H.o.ext HX.o).mono (fun b hb=>.inl hb) (fun b hb=>by
    rcases hb with hb|hb
    ·exact rA (H.o.lt b hb) HX.o.le
    ·exact hb.2)
   have HTR:Hd (TriRow wr (ZO F w wr) gt (zB kd m k n) (Zc (zM D E j))):=by
    refine⟨fun i hi=>?_,zf htv rfl⟩;have hi2:i<(zM D E j).length:=by simpa [Zc] using hi
    obtain⟨a0,c0,a1,c1,k1,k2,k3,k4,k5,k6⟩:=hxs i hi2;obtain⟨q0,q1⟩:=HEq.o _ (lV hi2);have hku:(Zc (zM D E j))[i]=((zM D E j)[i],true):=by simp [Zc]
    rw [hku];rw [HSL.o] at k1 k2;refine .inl ⟨rfl,a0,c0,a1,c1,by rw [HSL.o];exact zk htv k1,by rw [HSL.o];exact zk htv k2,by show WordsU _ _ (sh0 _ _);rw [q0];exact k3,by show WordsU _ _ (sh1 _ _);rw [q1];exact k4,.inr ⟨k5,?_⟩,.inr ⟨k6,?_⟩⟩
    ·obtain⟨cur,hc⟩:=k3.2;exact(Array.getElem?_eq_some_iff.1 hc).1
    ·obtain⟨cur,hc⟩:=k4.2;exact(Array.getElem?_eq_some_iff.1 hc).1
   have m0:wr.cell? ⟨mv,0,none⟩=some (.int .i64 (kd:Int)):=zc HMR.o rfl;have m1:wr.cell? ⟨mv,1,none⟩=some (.int .i64 (m:Int)):=zc HMR.o rfl;have m2:wr.cell? ⟨mv,2,none⟩=some (.int .i64 (k:Int)):=zc HMR.o rfl;have m3:wr.cell? ⟨mv,3,none⟩=some (.int .i64 (n:Int)):=zc HMR.o rfl;have m4:wr.cell? ⟨mv,4,none⟩=some (.slice (some ⟨gt,0,none⟩) j tcap):=zc HMR.o rfl;clear htv hxs HTS d0 d1 d2 d3;go_wp2_with fail
   refine(HDo.o wr gt tcap _ HST.o HTR.o).mono ?_;rintro e w5 hpost;have HPo:Hd _:=hpost;clear hpost;obtain⟨cd,hcd⟩:∃cd,e=.returned (.int .i64 cd):=by
    rcases HPo.o with⟨_,h,_⟩|⟨_,h,_⟩
    ·exact⟨_,h⟩
    ·exact⟨_,h⟩
   subst hcd;go_wp2;go_ret;rcases HPo.o with⟨h1,h2,h3⟩|⟨h1,h2,R',h3,h4⟩
   ·exact .inl ⟨h1,h2,HX.o.trans h3⟩
   ·exact .inr ⟨h1,h2,R',h3.lift HX.o H.o.lt,h4⟩
end
end
section
def zr (c f n:Int)(v:Value):Value:=.agg #[.int .i64 c,.int .i64 f,.int .i64 n,v]
theorem set4 {w1 w2:World}{g:Nat}(hx:Ext w1 w2)(a b c d:Value):Turn (fun q=>q=g) w1 (World.drew ((((w2.setCell ⟨g,0,none⟩ a).setCell ⟨g,1,none⟩ b).setCell ⟨g,2,none⟩ c).setCell ⟨g,3,none⟩ d)):=
 Turn.drew (lQ (S:=fun q=>q=g) (p:=⟨g,3,none⟩) (lQ (S:=fun q=>q=g) (p:=⟨g,2,none⟩) (lQ (S:=fun q=>q=g) (p:=⟨g,1,none⟩) (lQ (S:=fun q=>q=g) (p:=⟨g,0,none⟩) (lM hx) (fun _=>rfl) a) (fun _=>rfl) b) (fun _=>rfl) c) (fun _=>rfl) d)
theorem yr {w1 w2:World}{g:Nat}(hx:Ext w1 w2)(a b c d:Value):Turn (fun q=>q=g) w1 ((((w2.setCell ⟨g,0,none⟩ a).setCell ⟨g,1,none⟩ b).setCell ⟨g,2,none⟩ c).setCell ⟨g,3,none⟩ d):=
 lQ (S:=fun q=>q=g) (p:=⟨g,3,none⟩) (lQ (S:=fun q=>q=g) (p:=⟨g,2,none⟩) (lQ (S:=fun q=>q=g) (p:=⟨g,1,none⟩) (lQ (S:=fun q=>q=g) (p:=⟨g,0,none⟩) (lM hx) (fun _=>rfl) a) (fun _=>rfl) b) (fun _=>rfl) c) (fun _=>rfl) d
theorem Z9 {w w1:World}{g:Nat}(h:Ext w w1)(hg:w.heap.size<=g)(a b c d:Value):Ext w ((((w1.setCell ⟨g,0,none⟩ a).setCell ⟨g,1,none⟩ b).setCell ⟨g,2,none⟩ c).setCell ⟨g,3,none⟩ d):=
 rF (rF (rF (rF h hg _) hg _) hg _) hg _
section
variable {B:Nat}{F:Nat->Prop}{sv lv dv:Value}{R:List StkR}{ls:List LsV}{ops:List OpV}{fl:Bool}{ah:Int}{kn:Bool}
theorem DoPost.step {w w1 w2 w3:World}{g:Nat}{R':List StkR}{ls':List LsV}{ops':List OpV}{fl':Bool}{ah':Int}{kn':Bool}(h:DoPost w1 w2 B F R' ls' ops' fl' ah' kn')(hx:Ext w w1)(ht:Turn (fun q=>q=g) w2 w3)(hF:∀b,F b->b<w.heap.size)(hg0:w.heap.size<=g)(hg1:g<w1.heap.size):DoPost w w3 B F R' ls' ops' fl' ah' kn':=by
 obtain⟨sv',lv',dv',h1,h3⟩:=h;have e1:=hx.le;have e2:=h3.size;have e3:=ht.size;refine⟨sv',lv',dv',(h1.turn ht (fun b hb e=>?_)).mono (fun b hb=>?_) (fun b hb=>?_),((lM hx).trans h3).trans' ht (fun b hb e=>?_)⟩
 ·rcases hb with hb|hb
  ·have:=hF b hb;omega
  ·omega
 ·rcases hb with hb|hb
  ·exact .inl hb
  ·exact .inr ⟨by omega,by omega⟩
 ·rcases hb with hb|hb
  ·have:=hF b hb;omega
  ·exact hb.2
 ·omega
theorem YQ {Q:World->World->Prop}(hQt:∀w1 w2,Q w1 w2->Turn F w1 w2)(hQs:∀w w1 w2 w3 g,(∀b,F b->b<w.heap.size)->Ext w w1->Q w1 w2->Turn (fun q=>q=g) w2 w3->w.heap.size<=g->g<w1.heap.size->Q w w3)(cv:Value)(_hcv:cv.oneCell'=true)(cd ss ii:Int)(hcd:cd≠0)(w:World)(hF:∀b,F b->b<w.heap.size)(hdo:∀w',Ext w w'->Calls Tryz.prog 98 #[.pointer (some ⟨B,0,none⟩),cv] w' fun e w''=>e=.returned (.int .i64 cd)/\Q w' w'') :
  Calls Tryz.prog 167 #[.pointer (some ⟨B,0,none⟩),cv,.int .i64 ss,.int .i64 ii] w fun e w'=>e=.returned (zr cd 0 0 (.slice none 0 0))/\Q w w':=by
 have HDo:=hid hdo;have HF:=hid hF;have HQ:Hd _:=And.intro hQt hQs;clear hdo hF hQt hQs;unfold zr;go_enter func167,ntmps167;go_wp2_with fail
 refine(HDo.o _ ((lI w).alloc _)).mono ?_;rintro e w1 ⟨rfl,hq1⟩;have hT:=HQ.o.1 _ _ hq1;have hr2:w1.heap[w.heap.size]?=some (.cells #[.int .i64 0,.int .i64 0,.int .i64 0,.slice none 0 0] 33 (0,0)):=hT.ref (heap_alloc_new _ _) (fun e=>by have:=HF.o _ e;omega)
 have o0:=zc hr2 (i:=0) rfl;have o1:=zc hr2 (i:=1) rfl;have o2:=zc hr2 (i:=2) rfl;have o3:=zc hr2 (i:=3) rfl;have f0:=ze hr2 0;have f1:=ze hr2 1;have f2:=ze hr2 2;have f3:=ze hr2 3;have HQ1:Hd _:=hq1;clear hq1 hr2 hT;go_wp2;refine bodyPost_ret (v:=.agg #[.int .i64 cd,.int .i64 0,.int .i64 0,.slice none 0 0]) (by simp [results,results167,go_sem,o0,o1,o2,o3]) rfl ⟨rfl,?_⟩;exact HQ.o.2 _ _ _ _ _ HF.o ((lI w).alloc _) HQ1.o (yr (lI _) _ _ _ _) (lO _) (by simp)
theorem XW (cv:Value)(_hcv:cv.oneCell'=true)(ss ii:Int)(R':List StkR)(ls':List LsV)(ix:Nat)(hix:ix<ls'.length)(hn:ls'.findIdx? (zE ss ii)=some ix)(hls:ls'.length<=1000)(w:World){ops':List OpV}{fl':Bool}{ah':Int}{kn':Bool}(h:StoreOf w B F sv lv dv R ls ops fl ah kn)
  (hdo:∀w',Ext w w'->Calls Tryz.prog 98 #[.pointer (some ⟨B,0,none⟩),cv] w' fun e w''=>e=.returned (.int .i64 0)/\DoPost w' w'' B F R' ls' ops' fl' ah' kn') :
  Calls Tryz.prog 167 #[.pointer (some ⟨B,0,none⟩),cv,.int .i64 ss,.int .i64 ii] w fun e w'=>e=.returned (zr 0 ls'[ix].f ls'[ix].c (.slice none 0 0))/\DoPost w w' B F R' ls' ops' fl' ah' kn':=by
 have HDo:=hid hdo;have HF:=hid (h.lt);have hB:=h.deal.lt;have HN:=hid hn;clear hdo h hn;unfold zr;go_enter func167,ntmps167;go_wp2_with fail
 refine(HDo.o _ ((lI w).alloc _)).mono ?_;rintro e w1 ⟨rfl,hpo⟩;have HPo:Hd _:=hpo;obtain⟨sv',lv',dv',hS,hT⟩:=hpo;have hres:w1.heap[w.heap.size]?=some (.cells #[.int .i64 0,.int .i64 0,.int .i64 0,.slice none 0 0] 33 (0,0)):=hT.ref (heap_alloc_new _ _) (fun e=>by have:=HF.o _ e;omega)
 obtain⟨la,lcap,hlv⟩:=zo hS.lrow;have HNm:Hd (∀w',Ext w1 w'->Calls Tryz.prog 165 #[.pointer (some ⟨B,0,none⟩),.int .i64 ss,.int .i64 ii] w' fun e w''=>e=.returned (qB lv' (some ix))/\Ext w' w''):=fun w' hx=>by
  have:=Y9 B ls' ss ii sv' lv' dv' fl' ah' kn' w' (hS.deal.ext hx) (hS.lrow.ext hx) hls
  rwa [HN.o] at this
 obtain⟨g,cap,rfl,_⟩:∃g cap,lv'=.slice (some ⟨g,0,none⟩) ls'.length cap/\True:=by
  rcases LeasesAt.form hS.lrow with⟨_,e⟩|⟨g,cap,e,_⟩
  ·rw [e] at hix;simp at hix
  ·exact⟨g,cap,e,trivial⟩
 obtain⟨_,_,_,_,_,_,l6,l7,_⟩:=LeasesAt.cells hS.lrow ix hix;have hgw:w.heap.size≠g:=fun e=>by obtain⟨cur,hc⟩:=zf hS.lrow (g:=g) rfl;exact zh hres hc (by decide) e
 have hgl:=lG w1 _ l6;have HRes:Hd _:=hres;clear hS hT hres hlv;unfold qB at HNm;go_wp2_with fail
 refine(HNm.o _ (lI _)).mono ?_;rintro e w2 ⟨rfl,hx2⟩;have l6:=hx2.cell l6;have l7:=hx2.cell l7;have hr2:=hx2.block HRes.o;have o0:=zc hr2 (i:=0) rfl;have o1:=zc hr2 (i:=1) rfl;have o2:=zc hr2 (i:=2) rfl;have o3:=zc hr2 (i:=3) rfl;have f0:=ze hr2 0;have f1:=ze hr2 1;have f2:=ze hr2 2;have f3:=ze hr2 3;have HX2:=hid hx2;have hgl2:=lG w2 _ l6;clear hx2 hr2;obtain⟨lf,hlf⟩:∃lf,ls'[ix].f=lf:=⟨_,rfl⟩
 obtain⟨lc,hlc⟩:∃lc,ls'[ix].c=lc:=⟨_,rfl⟩
 have HLF:Hd (ls'[ix].f=lf/\ls'[ix].c=lc):=⟨hlf,hlc⟩
 rw [hlf] at l6;rw [hlc] at l7;clear hlf hlc;go_wp2
 go_region
 all_goals go_wp2
 all_goals refine bodyPost_ret (v:=.agg #[.int .i64 0,.int .i64 lf,.int .i64 lc,.slice none 0 0]) (by simp [results,results167,go_sem,o0,o1,o2,o3]) rfl ⟨by rw [HLF.o.1,HLF.o.2],?_⟩
 all_goals exact DoPost.step HPo.o ((lI w).alloc _) (set4 HX2.o _ _ _ _) HF.o (lO _) (by simp)
end
end
end Go.Proofs.YtmnjhhachdlmkaaGreat
