import Derived.Test.YtmnjhhachdlmkaaGreatK06
import Derived.Test.YtmnjhhachdlmkaaGreatK05
namespace Go.Proofs.YtmnjhhachdlmkaaGreat
set_option linter.all false
set_option maxRecDepth 100000
set_option maxHeartbeats 1600000
open Tryz
open Ext renaming refl -> lI, drew -> lJ, alloc -> lK, chain -> lY
open World renaming alloc -> lP, cell?_setCell_far -> lX
open List renaming length_set -> rK
open Turn renaming of_ext -> lM
open StkR renaming abs -> lL
open Nat renaming le_refl -> lO, zero_le -> lT, not_lt_zero -> sG
open IntKind renaming wrap_i64 -> rP
open Go.RowKit Go.Maps
open World renaming block_lt_of_cell? -> lG
open Value renaming ownBlock -> lH
section
theorem Kb {a b:World}{p1 p2:Addr}{v1 v2:Value}(h1:a.cell? p1=some v1)(h2:a.cell? p2=some v2)(h:Ext a b):(b.cell? p1=some v1/\b.cell? p2=some v2)/\Ext a b:=⟨⟨h.cell h1,h.cell h2⟩,h⟩
theorem kh {a b:World}{p1 p2 p3:Addr}{v1 v2 v3:Value}(h1:a.cell? p1=some v1)(h2:a.cell? p2=some v2)(h3:a.cell? p3=some v3)(h:Ext a b):(b.cell? p1=some v1/\b.cell? p2=some v2/\b.cell? p3=some v3)/\Ext a b:=⟨⟨h.cell h1,h.cell h2,h.cell h3⟩,h⟩
def zP (ls:List LsV)(ss ii:Int):Int:=match ls.find? (zE ss ii) with
 | none=>8
 | some l=>if l.r then 8 else 0
theorem XQ (a : Value) (w : World) : (method 417 235 (.agg #[a]) "dealer/store.against").run Tryz.prog w = .ok (225, .agg #[a]) w := by kernel_rfl
theorem Jg (a : Value) (w : World) : (method 417 235 (.agg #[a]) "dealer/store.record").run Tryz.prog w = .ok (133, .agg #[a]) w := by kernel_rfl
theorem Kd (a : Value) (w : World) : (method 417 235 (.agg #[a]) "dealer/store.apply").run Tryz.prog w = .ok (226, .agg #[a]) w := by kernel_rfl
section
variable {B:Nat}{F:Nat->Prop}{sv lv dv:Value}{R:List StkR}{ls:List LsV}{ops:List OpV}{fl:Bool}{ah:Int}{kn:Bool}
theorem Yy (rb:Nat)(ss ii:Int)(hls:ls.length<=1000)(w:World)(h:StoreOf w B F sv lv dv R ls ops fl ah kn)(hr:Zf w rb ss ii) :
  Calls Tryz.prog 225 #[.agg #[.pointer (some ⟨rb,0,none⟩)],.pointer (some ⟨B,0,none⟩)] w fun e w'=>e=.returned (.int .i64 (zP ls ss ii))/\Ext w w':=by
 have H:Hd _:=h;have r0:=zc hr (i:=0) rfl;have r1:=zc hr (i:=1) rfl;have hrl:=lG w _ r0;have HN:Hd (∀w',Ext w w'->Calls Tryz.prog 165 #[.pointer (some ⟨B,0,none⟩),.int .i64 ss,.int .i64 ii] w' fun e w''=>e=.returned (qB lv (ls.findIdx? (zE ss ii)))/\Ext w' w''):=fun w' hx=>
  Y9 B ls ss ii sv lv dv fl ah kn w' (h.deal.ext hx) (h.lrow.ext hx) hls
 have HCd:Hd (zP ls ss ii=match ls.find? (zE ss ii) with
  | none=>8
  | some l=>if l.r then 8 else 0):=rfl
 generalize zP ls ss ii=cd at *;clear h hr;cases hf:ls.findIdx? (zE ss ii) with
 | none=>
  rw [z9 hf] at HCd;rw [hf] at HN;unfold qB at HN;clear hf;go_enter func225,ntmps225;go_wp2_with fail
  have q0:(w.alloc (.cells #[.pointer (some ⟨rb,0,none⟩)] 235)).cell? ⟨w.heap.size,0,none⟩=some (.pointer (some ⟨rb,0,none⟩)):=Z5 (lI _) 0 rfl;have hXW:Ext w (w.alloc (.cells #[.pointer (some ⟨rb,0,none⟩)] 235)):=(lI w).alloc _;generalize lP w _=W at q0 hXW ⊢;have r0:=hXW.cell r0;have r1:=hXW.cell r1;have HXW:=hid hXW;clear hXW
  go_region_held3 (fun w'=>(w'.cell? ⟨w.heap.size,0,none⟩=some (.pointer (some ⟨rb,0,none⟩))/\w'.cell? ⟨rb,0,none⟩=some (.int .i64 ss)/\w'.cell? ⟨rb,1,none⟩=some (.int .i64 ii))/\Ext W w')
   ((refine kh q0 r0 r1 ?_;(repeat (first|with_reducible exact lI _|with_reducible assumption|with_reducible refine lJ ?_|with_reducible refine lK ?_ _|with_reducible (apply lY;assumption)));done))
   (first|(go_at_call 165;refine(HN.o _ (lJ HXW.o)).mono ?_;rintro e w1' ⟨rfl,hx2⟩))
  rename_i hh
  have HX2:Hd (Ext w w1'):=HXW.o.trans hh.2;clear hh hx2;go_wp2;go_ret;exact⟨by rw [HCd.o];rfl,HX2.o⟩
 | some ix=>
  obtain⟨hix,hfi⟩:=zU hf;rw [hfi] at HCd;rw [hf] at HN;obtain⟨g,cap,hlv⟩:∃g cap,lv=.slice (some ⟨g,0,none⟩) ls.length cap:=by
   rcases LeasesAt.form H.o.lrow with⟨_,e⟩|⟨g,cap,e,_⟩
   ·rw [e] at hix;simp at hix
   ·exact⟨g,cap,e⟩
  rw [hlv] at HN;unfold qB at HN;have hlr:=H.o.lrow;rw [hlv] at hlr;obtain⟨_,_,_,_,_,_,_,_,l8⟩:=LeasesAt.cells hlr ix hix;have HCd2:Hd (cd=if ls[ix].r then 8 else 0):=HCd.o;generalize ls[ix].r=rel at *;clear hf hfi hlr HCd hlv H;go_enter func225,ntmps225;go_wp2_with fail
  have q0:(w.alloc (.cells #[.pointer (some ⟨rb,0,none⟩)] 235)).cell? ⟨w.heap.size,0,none⟩=some (.pointer (some ⟨rb,0,none⟩)):=Z5 (lI _) 0 rfl;have hXW:Ext w (w.alloc (.cells #[.pointer (some ⟨rb,0,none⟩)] 235)):=(lI w).alloc _;generalize lP w _=W at q0 hXW ⊢;have r0:=hXW.cell r0;have r1:=hXW.cell r1;have l8:=hXW.cell l8;have HXW:=hid hXW;clear hXW
  go_region_held3 (fun w'=>(w'.cell? ⟨w.heap.size,0,none⟩=some (.pointer (some ⟨rb,0,none⟩))/\w'.cell? ⟨rb,0,none⟩=some (.int .i64 ss)/\w'.cell? ⟨rb,1,none⟩=some (.int .i64 ii))/\Ext W w')
   ((refine kh q0 r0 r1 ?_;(repeat (first|with_reducible exact lI _|with_reducible assumption|with_reducible refine lJ ?_|with_reducible refine lK ?_ _|with_reducible (apply lY;assumption)));done))
   (first|(go_at_call 165;refine(HN.o _ (lJ HXW.o)).mono ?_;rintro e w1' ⟨rfl,hx2⟩))
  rename_i hh
  have l8:=hh.2.cell l8;have HX2:Hd (Ext w w1'):=HXW.o.trans hh.2;clear hh hx2;cases rel
  ·go_wp2;go_ret;exact⟨by rw [HCd2.o];rfl,HX2.o⟩
  ·go_wp2;go_ret;exact⟨by rw [HCd2.o];rfl,HX2.o⟩
end
end
section
def LsV.free (l:LsV):LsV:={ l with r:=true }
theorem zI {w:World}{base:Nat}{e:TypeId}{size g n cap:Nat}{xs:List Value}(h:w.ownsRow base e size (.slice (some ⟨g,0,none⟩) n cap) n xs)(i:Nat)(v:Value):(w.setCell ⟨g,i,none⟩ v).ownsRow base e size (.slice (some ⟨g,0,none⟩) n cap) n (xs.set i v):=by
 obtain⟨hl,⟨h1,_⟩|⟨g',cap',cur,he,hb,hg,hc,hm,hs,ht⟩⟩:=h
 ·simp at h1
 ·simp at he;obtain⟨rfl,rfl⟩:=he;refine⟨by rw [rK];exact hl,.inr ⟨_,_,cur.setIfInBounds i v,rfl,hb,zg hg v,hc,hm,by simp [hs],?_⟩⟩;rw [Array.toList_setIfInBounds,<-ht,List.take_set]
theorem QD (l:List LsV)(j:Nat)(hj:j<l.length):zu (l.set j l[j].free)=(zu l).set (j*9+8) (.bool true):=by
 have e:l=l.take j++(l[j]::l.drop (j+1)):=by simp
 have h1:(zu (l.take j)).length=j*9:=by rw [qF];simp;omega
 have h2:zu l=zu (l.take j)++(l[j].cells++zu (l.drop (j+1))):=by
  have h3:zu (l.take j++(l[j]::l.drop (j+1)))=zu (l.take j)++(l[j].cells++zu (l.drop (j+1))):=by simp only [zu,List.flatMap_append,List.flatMap_cons]
  rw [<-e] at h3;exact h3
 have h4:l.set j l[j].free=l.take j++(l[j].free::l.drop (j+1)):=by rw [List.set_eq_take_append_cons_drop,if_pos hj]
 rw [h4,h2,List.set_append_right _ _ (by omega),h1,show j*9+8 - j*9=8 by omega];simp only [zu,List.flatMap_append,List.flatMap_cons]
 rfl
section
variable {B:Nat}{F:Nat->Prop}{sv lv dv:Value}{R:List StkR}{ls:List LsV}{ops:List OpV}{fl:Bool}{ah:Int}{kn:Bool}
theorem QX (rb ix:Nat)(ss ii:Int)(hls:ls.length<=1000)(hix:ix<ls.length)(hf:ls.findIdx? (zE ss ii)=some ix)(w:World)(h:StoreOf w B F sv lv dv R ls ops fl ah kn)(hr:Zf w rb ss ii) :
  Calls Tryz.prog 226 #[.agg #[.pointer (some ⟨rb,0,none⟩)],.pointer (some ⟨B,0,none⟩)] w fun e w'=>e=.returned (.tuple #[])/\StoreOf w' B (ZO F w w') sv lv dv R (ls.set ix ls[ix].free) ops fl ah kn/\Turn (fun b=>b=B\/lv.ownBlock=some b) w w':=by
 have H:Hd _:=h;have r0:=zc hr (i:=0) rfl;have r1:=zc hr (i:=1) rfl;have hrl:=lG w _ r0;obtain⟨g,cap,rfl⟩:∃g cap,lv=.slice (some ⟨g,0,none⟩) ls.length cap:=by
  rcases LeasesAt.form h.lrow with⟨_,e⟩|⟨g,cap,e,_⟩
  ·rw [e] at hix;simp at hix
  ·exact⟨g,cap,e⟩
 have HN:Hd (∀w',Ext w w'->Calls Tryz.prog 165 #[.pointer (some ⟨B,0,none⟩),.int .i64 ss,.int .i64 ii] w' fun e w''=>e=.returned (.pointer (some ⟨g,ix*9,none⟩))/\Ext w' w''):=fun w' hx=>by
  have:=Y9 B ls ss ii sv _ dv fl ah kn w' (h.deal.ext hx) (h.lrow.ext hx) hls
  rwa [hf] at this
 obtain⟨_,_,_,_,_,_,_,_,l8⟩:=LeasesAt.cells h.lrow ix hix;obtain⟨cur,hcur⟩:=zf h.lrow (g:=g) rfl;have f8:=ze hcur (ix*9+8);have hgl:=lG w _ l8;have HLS:Hd (ls.length<=1000/\ix<ls.length):=⟨hls,hix⟩
 clear h hr hf hcur;generalize hrel:ls[ix].r=rel at *;clear hrel;go_enter func226,ntmps226;go_wp2_with fail
 have q0:(w.alloc (.cells #[.pointer (some ⟨rb,0,none⟩)] 235)).cell? ⟨w.heap.size,0,none⟩=some (.pointer (some ⟨rb,0,none⟩)):=Z5 (lI _) 0 rfl;have hXW:Ext w (w.alloc (.cells #[.pointer (some ⟨rb,0,none⟩)] 235)):=(lI w).alloc _;generalize lP w _=W at q0 hXW ⊢;have r0:=hXW.cell r0;have r1:=hXW.cell r1;have l8:=hXW.cell l8;have f8:=(hXW.frozen hgl).trans f8;have hgl2:=Nat.lt_of_lt_of_le hgl hXW.le;have HXW:=hid hXW;clear hXW
 go_region_with (first|(go_at_call 165;refine(HN.o _ (lJ HXW.o)).mono ?_;rintro e w1' ⟨rfl,hx2⟩;have l8c:=(lY hx2 (lJ (lI W))).cell l8;have f8c:=((lY hx2 (lJ (lI W))).frozen hgl2).trans f8))
 all_goals
  have HXf:Hd (Ext w w1'):=HXW.o.trans (lY hx2 (lJ (lI W)));clear hx2 l8c f8c;go_end0;have hT:Turn (fun b=>b=B\/lH (.slice (some ⟨g,0,none⟩) ls.length cap)=some b) w (w1'.setCell ⟨g,ix*9+8,none⟩ (.bool true)):=Turn.setCell (p:=⟨g,ix*9+8,none⟩) (lM HXf.o) (fun _=>.inr rfl) _;refine⟨rfl,H.o.setLv hT ?_ ?_ (fun q hq=>.inl hq) (by rw [rK];have:=HLS.o.2;omega),hT⟩
  ·exact(H.o.deal.ext HXf.o).same (Below.heap_setCell _ _ _ B (fun e=>by obtain⟨cur,hc⟩:=zf H.o.lrow (g:=g) rfl;exact H.o.deal.tne hc (by decide) e.symm))
  ·show World.ownsRow _ 0 56 9 _ _ _
   rw [QD ls ix HLS.o.2,rK];exact zI (HXf.o.owns H.o.lrow) _ _
theorem vw (rb:Nat)(ss ii:Int)(hls:ls.length<=1000)(hcd:zP ls ss ii≠0)(w:World)(h:StoreOf w B F sv lv dv R ls ops fl ah kn)(hr:Zf w rb ss ii) :
  Calls Tryz.prog 98 #[.pointer (some ⟨B,0,none⟩),.iface 235 (.agg #[.pointer (some ⟨rb,0,none⟩)])] w fun e w'=>e=.returned (.int .i64 (zP ls ss ii))/\Ext w w':=by
 have h1:=XQ;have HA:Hd (∀w',Ext w w'->_):=fun w' hx=>Yy rb ss ii hls w' (h.ext hx) (hx.block hr)
 clear h hr;generalize zP ls ss ii=cd at *;go_enter func98,ntmps98;go_wp2_with fail
 refine(HA.o _ (lI _)).mono ?_;rintro e w1 ⟨rfl,hx1⟩;go_wp2;go_ret;exact⟨rfl,hx1⟩
theorem Uq (rb ix ss ii:Nat)(hss:ss<=2147483647)(hii:ii<=2147483647)(hR:R.length<=100)(hls:ls.length<=900)(hops:ops.length<=1000000)(hah:yv fl ah)(hok:∀x∈R,StkOk x.abs)(hlok:∀l∈ls,xH l)(hcd:zP ls ss ii=0)(hix:ix<ls.length)(hf:ls.findIdx? (zE ss ii)=some ix)(w:World)(h:StoreOf w B F sv lv dv R ls ops fl ah kn)(hr:Zf w rb ss ii)(hrF:¬F rb) :
  Calls Tryz.prog 98 #[.pointer (some ⟨B,0,none⟩),.iface 235 (.agg #[.pointer (some ⟨rb,0,none⟩)])] w fun e w'=>QJ kn fl ah (R.map lL) ls (yT ss ii) e fun ok fl' ah' new=>DoPost w w' B F R (if ok then ls.set ix ls[ix].free else ls) (ops++new) fl' ah' ok:=by
 have h1:=XQ;have h2:=Jg;have h3:=Kd;have HA:Hd (∀w',Ext w w'->Calls Tryz.prog 225 #[.agg #[.pointer (some ⟨rb,0,none⟩)],.pointer (some ⟨B,0,none⟩)] w' fun e w''=>e=.returned (.int .i64 0)/\Ext w' w''):=fun w' hx=>by
  have:=Yy rb ss ii (by omega) w' (h.ext hx) (hx.block hr)
  rwa [hcd] at this
 have HRc:Hd (∀w',Ext w w'->_):=fun w' hx=>YO rb ss ii hss hii w' (hx.block hr)
 have HAd:Hd (∀w',Ext w w'->_):=fun w' hx=>kK (yT ss ii) (xt _ _) hops hah hR hls hok hlok w' (h.ext hx)
 have H:Hd _:=h;have HR:=hid hr;have HAp:Hd (∀(w':World) (F':Nat->Prop) (dv':Value) (ops':List OpV) (fl':Bool) (ah':Int),StoreOf w' B F' sv lv dv' R ls ops' fl' ah' true->Zf w' rb ss ii->_):=fun w' F' dv' ops' fl' ah' h hr=>QX rb ix ss ii (by omega) hix hf w' h hr
 have HNF:=hid hrF;clear h hr hcd hf hrF hops hss hii hls hR hah hok hlok;unfold QJ;generalize ls.set ix ls[ix].free=ls1 at *;generalize yT ss ii=rec at *;generalize ZA kn (R.map lL) ls rec=full at *;generalize ZZ fl ah full.length=fl1 at *;generalize ye fl ah full.length=ah1 at *;generalize ZM fl ah full=did at *;generalize Zg fl ah full.length=ok at *;go_enter func98,ntmps98;go_wp2_with fail
 refine(HA.o _ (lI _)).mono ?_;rintro e w1 ⟨rfl,hx1⟩;have HX1:=hid hx1;clear hx1;go_wp2_with fail
 go_region_held3 (fun _=>True) (trivial) (first
  | (go_at_call 133;refine(HRc.o _ (lY HX1.o (lI _)).drew).mono ?_;rintro e w2 ⟨rfl,hx2⟩)
  | (go_at_call 144;refine(HAd.o _ (lY hx2 (lJ HX1.o))).mono ?_;rintro e w3 ⟨dv',rfl,hS3,ht3⟩))
 all_goals
  have HX2:Hd (Ext w w2):=lY hx2 (lJ HX1.o);have HTT:Hd (Turn (fun b=>b=B\/dv.ownBlock=some b) w w3):=(lM HX2.o).trans ht3;have HTF:Hd (Turn F w w3):=HTT.o.mono (fun b _ hb=>hb.elim (fun e=>e▸H.o.fB) (fun e=>H.o.fd b e));have HR3:=hid (HTF.o.ref HR.o HNF.o);have HS3:=hid hS3;have HDk:Hd (DoPost w w3 B F R ls (ops++did) fl1 ah1 ok):=DoPost.disk hS3 H.o.lt HX2.o ht3 (fun b _ hb=>hb.elim (fun e=>e▸H.o.fB) (fun e=>H.o.fd b e));have hs23:=ht3.size;clear hx2 hS3 ht3;cases ok with
  | false=>
   go_wp2;go_ret;exact⟨rfl,HDk.o⟩
  | true=>
   go_wp2_with fail
   refine(HAp.o w3 _ dv' _ _ _ HS3.o HR3.o).mono ?_;rintro e w4 ⟨rfl,q1,q2⟩;have HQ:Hd _:=And.intro q1 q2;clear q1 q2;go_wp2;go_ret;obtain⟨q1,q2⟩:=HQ.o;refine⟨rfl,DoPost.of q1 H.o.lt HX2.o HTF.o hs23 q2 (fun b hb=>?_) (fun b hb hor=>?_)⟩
   ·rcases hb with hb|hb
    ·exact hb.imp id (fun h=>h.1)
    ·exact .inr (by omega)
   ·rcases hor with e|e
    ·exact e▸H.o.fB
    ·exact H.o.fl' b e
end
end
section
def Z6 (l:LsV)(kd m k n c:Int):Bool:=(l.kd == kd && (l.m == m && (l.k == k && l.n == n))) && l.c == c
theorem Xz (g o rb:Nat)(l:LsV)(ss ii kd m k n c:Int)(w:World)(hr:Zh w rb ss ii kd m k n c)(_hg:g≠rb)
  (hl:w.cell? ⟨g,o,none⟩=some (.int .i64 l.s)/\w.cell? ⟨g,o+1,none⟩=some (.int .i64 l.i)/\w.cell? ⟨g,o+2,none⟩=some (.int .i64 l.kd)/\w.cell? ⟨g,o+3,none⟩=some (.int .i64 l.m)/\w.cell? ⟨g,o+4,none⟩=some (.int .i64 l.k)/\
  w.cell? ⟨g,o+5,none⟩=some (.int .i64 l.n)/\w.cell? ⟨g,o+6,none⟩=some (.int .i64 l.f)/\w.cell? ⟨g,o+7,none⟩=some (.int .i64 l.c)/\w.cell? ⟨g,o+8,none⟩=some (.bool l.r)) :
  Calls Tryz.prog 166 #[.pointer (some ⟨g,o,none⟩),.pointer (some ⟨rb,0,none⟩)] w fun e w'=>e=.returned (if Z6 l kd m k n c then zr 0 l.f l.c (.slice none 0 0) else zr 6 0 0 (.slice none 0 0))/\Ext w w':=by
 obtain⟨l0,l1,l2,l3,l4,l5,l6,l7,l8⟩:=hl;have r2:w.cell? ⟨rb,2,none⟩=some (.int .i64 kd):=zc hr rfl;have r3:w.cell? ⟨rb,3,none⟩=some (.int .i64 m):=zc hr rfl;have r4:w.cell? ⟨rb,4,none⟩=some (.int .i64 k):=zc hr rfl;have r5:w.cell? ⟨rb,5,none⟩=some (.int .i64 n):=zc hr rfl;have r6:w.cell? ⟨rb,6,none⟩=some (.int .i64 c):=zc hr rfl;have hrl:=lG w _ r2;have hgl:=lG w _ l2;have heq:=fun (a b c e a' b' c' e':Int) (w:World)=>Ya 9998 a b c e a' b' c' e' w
 have HB:Hd (Z6 l kd m k n c=((l.kd == kd && (l.m == m && (l.k == k && l.n == n))) && l.c == c)):=rfl;clear hr l0 l1 l8;unfold zr;generalize hbc:Z6 l kd m k n c=bc at *;clear hbc;obtain⟨_,_,lkd,lm,lk,ln,lf,lc,_⟩:=l;simp only at *;by_cases hb1:(lkd == kd && (lm == m && (lk == k && ln == n)))=true
 ·by_cases hc:lc=c
  ·have hbt:bc=true:=by rw [HB.o,hb1,hc];simp
   subst hbt;subst hc;rw [if_pos rfl];clear HB;go_enter func166,ntmps166;go_wp2;have hres0:=zf0 w;have hXW:=zf1 w;generalize lP w _=W at hres0 hXW ⊢;have l2:=hXW.cell l2;have l3:=hXW.cell l3;have l4:=hXW.cell l4;have l5:=hXW.cell l5;have l6:=hXW.cell l6;have l7:=hXW.cell l7;have r2:=hXW.cell r2;have r3:=hXW.cell r3;have r4:=hXW.cell r4;have r5:=hXW.cell r5;have r6:=hXW.cell r6;have o0:W.cell? ⟨w.heap.size,0,none⟩=some (.int .i64 0):=zc hres0 rfl;have o1:W.cell? ⟨w.heap.size,1,none⟩=some (.int .i64 0):=zc hres0 rfl;have o2:W.cell? ⟨w.heap.size,2,none⟩=some (.int .i64 0):=zc hres0 rfl;have o3:W.cell? ⟨w.heap.size,3,none⟩=some (.slice none 0 0):=zc hres0 rfl;have f0:=ze hres0 0;have f1:=ze hres0 1;have f2:=ze hres0 2;have f3:=ze hres0 3;have hgw:w.heap.size≠g:=by omega
   have HXW:=hid hXW;clear hXW hres0;go_quiet (fail)
   go_wp2
   go_region
   all_goals go_wp2
   all_goals refine bodyPost_ret (v:=.agg #[.int .i64 0,.int .i64 lf,.int .i64 lc,.slice none 0 0]) (by simp [results,results166,go_sem,o0,o1,o2,o3]) rfl ⟨rfl,?_⟩
   all_goals first|exact lJ (Z9 (Ext.drewN HXW.o _) (lO _) _ _ _ _)|exact Z9 (Ext.drewN HXW.o _) (lO _) _ _ _ _
  ·have hbt:bc=false:=by rw [HB.o,hb1];simpa using hc
   subst hbt;rw [if_neg (by simp)];clear HB;go_enter func166,ntmps166;go_wp2;have hres0:=zf0 w;have hXW:=zf1 w;generalize lP w _=W at hres0 hXW ⊢;have l2:=hXW.cell l2;have l3:=hXW.cell l3;have l4:=hXW.cell l4;have l5:=hXW.cell l5;have l6:=hXW.cell l6;have l7:=hXW.cell l7;have r2:=hXW.cell r2;have r3:=hXW.cell r3;have r4:=hXW.cell r4;have r5:=hXW.cell r5;have r6:=hXW.cell r6;have o0:W.cell? ⟨w.heap.size,0,none⟩=some (.int .i64 0):=zc hres0 rfl;have o1:W.cell? ⟨w.heap.size,1,none⟩=some (.int .i64 0):=zc hres0 rfl;have o2:W.cell? ⟨w.heap.size,2,none⟩=some (.int .i64 0):=zc hres0 rfl;have o3:W.cell? ⟨w.heap.size,3,none⟩=some (.slice none 0 0):=zc hres0 rfl;have f0:=ze hres0 0;have f1:=ze hres0 1;have f2:=ze hres0 2;have f3:=ze hres0 3;have hgw:w.heap.size≠g:=by omega
   have HXW:=hid hXW;clear hXW hres0;go_quiet (fail)
   go_wp2
   all_goals refine bodyPost_ret (v:=.agg #[.int .i64 6,.int .i64 0,.int .i64 0,.slice none 0 0]) (by simp [results,results166,go_sem,o0,o1,o2,o3]) rfl ⟨rfl,?_⟩
   all_goals first|exact lJ (Z9 (Ext.drewN HXW.o _) (lO _) _ _ _ _)|exact Z9 (Ext.drewN HXW.o _) (lO _) _ _ _ _
 ·have hb2:(lkd == kd && (lm == m && (lk == k && ln == n)))=false:=by simpa using hb1
  have hbt:bc=false:=by rw [HB.o,hb2];rfl
  subst hbt;rw [if_neg (by simp)];clear HB hb1;go_enter func166,ntmps166;go_wp2;have hres0:=zf0 w;have hXW:=zf1 w;generalize lP w _=W at hres0 hXW ⊢;have l2:=hXW.cell l2;have l3:=hXW.cell l3;have l4:=hXW.cell l4;have l5:=hXW.cell l5;have l6:=hXW.cell l6;have l7:=hXW.cell l7;have r2:=hXW.cell r2;have r3:=hXW.cell r3;have r4:=hXW.cell r4;have r5:=hXW.cell r5;have r6:=hXW.cell r6;have o0:W.cell? ⟨w.heap.size,0,none⟩=some (.int .i64 0):=zc hres0 rfl;have o1:W.cell? ⟨w.heap.size,1,none⟩=some (.int .i64 0):=zc hres0 rfl;have o2:W.cell? ⟨w.heap.size,2,none⟩=some (.int .i64 0):=zc hres0 rfl;have o3:W.cell? ⟨w.heap.size,3,none⟩=some (.slice none 0 0):=zc hres0 rfl;have f0:=ze hres0 0;have f1:=ze hres0 1;have f2:=ze hres0 2;have f3:=ze hres0 3;have hgw:w.heap.size≠g:=by omega
  have HXW:=hid hXW;clear hXW hres0;go_quiet (fail)
  go_wp2
  all_goals refine bodyPost_ret (v:=.agg #[.int .i64 6,.int .i64 0,.int .i64 0,.slice none 0 0]) (by simp [results,results166,go_sem,o0,o1,o2,o3]) rfl ⟨rfl,?_⟩
  all_goals first|exact lJ (Z9 (Ext.drewN HXW.o _) (lO _) _ _ _ _)|exact Z9 (Ext.drewN HXW.o _) (lO _) _ _ _ _
end
section
structure AnsOk (F:Nat->Prop)(n0:Nat)(Pp:World->World->Int->Int->Int->Value->Prop):Prop where
 lt:∀b,F b->b<n0
 turn:∀w1 w2 c f n v,Pp w1 w2 c f n v->Turn F w1 w2
 step:∀w w1 w2 w3 g c f n v,n0<=w.heap.size->Ext w w1->Pp w1 w2 c f n v->Turn (fun q=>q=g) w2 w3->w.heap.size<=g->g<w1.heap.size->Pp w w3 c f n v
def zA (f:FuncId)(args:Array Value)(w:World)(Pp:World->World->Int->Int->Int->Value->Prop):Prop:=
 Calls Tryz.prog f args w fun e w'=>∃c fr n a l cp,e=.returned (zr c fr n (.slice a l cp))/\Pp w w' c fr n (.slice a l cp)
theorem qj {w:World}{g b j:Nat}(a0 a1 a2 a3:Value)(hne:g≠b){v:Value}(h:w.cell? ⟨b,j,none⟩=some v):((((w.setCell ⟨g,0,none⟩ a0).setCell ⟨g,1,none⟩ a1).setCell ⟨g,2,none⟩ a2).setCell ⟨g,3,none⟩ a3).cell? ⟨b,j,none⟩=some v:=by rw [lX _ _ _ _ hne,lX _ _ _ _ hne,lX _ _ _ _ hne,lX _ _ _ _ hne];exact h
theorem Y2 {F:Nat->Prop}{n0:Nat}{Pp:World->World->Int->Int->Int->Value->Prop}(hok:AnsOk F n0 Pp)(B rb:Nat)(ss ii kd m k n c:Int)(w:World)(hn0:n0<=w.heap.size)(hr:Zh w rb ss ii kd m k n c)(hrF:¬F rb)
  (hnm:∀w',Ext w w'->Calls Tryz.prog 165 #[.pointer (some ⟨B,0,none⟩),.int .i64 ss,.int .i64 ii] w' fun e w''=>e=.returned (.pointer none)/\Ext w' w'')
  (hdt:∀w',Ext w w'->zA 167 #[.pointer (some ⟨B,0,none⟩),.iface 233 (.agg #[.pointer (some ⟨rb,0,none⟩)]),.int .i64 ss,.int .i64 ii] w' Pp) :
  zA 119 #[.pointer (some ⟨B,0,none⟩),.pointer (some ⟨rb,0,none⟩)] w Pp:=by
 unfold zA at *;have HOk:=hid hok;have HNm:=hid hnm;have HDt:=hid hdt;have HNF:=hid hrF;have r0:w.cell? ⟨rb,0,none⟩=some (.int .i64 ss):=zc hr rfl;have r1:w.cell? ⟨rb,1,none⟩=some (.int .i64 ii):=zc hr rfl;have hrl:=lG w _ r0;clear hok hnm hdt hr hrF;unfold zr at HDt ⊢;go_enter func119,ntmps119;go_wp2_with fail
 have hres0:=zf0 w;have hXW:=zf1 w;generalize lP w _=W at hres0 hXW ⊢;have r0:=hXW.cell r0;have r1:=hXW.cell r1;have HXW:=hid hXW;have HRS:=hid hres0;clear hXW hres0
 go_region_held3 (fun w'=>(w'.cell? ⟨rb,0,none⟩=some (.int .i64 ss)/\w'.cell? ⟨rb,1,none⟩=some (.int .i64 ii))/\Ext W w')
  ((refine Kb r0 r1 ?_;(repeat (first|with_reducible exact lI _|with_reducible assumption|with_reducible refine lJ ?_|with_reducible refine lK ?_ _|with_reducible (apply lY;assumption)));done))
  (first|(go_at_call 165;refine(HNm.o _ (lJ HXW.o)).mono ?_;rintro e V ⟨rfl,hx1⟩))
 rename_i hh
 have hD:Ext W V:=hh.2;clear hh hx1;have r0:=hD.cell r0;have r1:=hD.cell r1;have HXV:Hd (Ext w V):=HXW.o.trans hD;have HRV:=hid (hD.block HRS.o);have hVl:=(Array.getElem?_eq_some_iff.1 HRV.o).1;clear hD HXW HRS;go_wp2_with fail
 go_region_held3 (fun w'=>w'.cell? ⟨rb,0,none⟩=some (.int .i64 ss)/\w'.cell? ⟨rb,1,none⟩=some (.int .i64 ii))
  (first|exact⟨r0,r1⟩|exact S2|exact⟨qj _ _ _ _ (by omega) S2.1,qj _ _ _ _ (by omega) S2.2⟩)
  (first
    | (go_at_call 167
       refine(HDt.o _ (lJ HXV.o)).mono ?_;rintro e w2 ⟨cc,cf,cn,va,vl,vc,rfl,hl2⟩;have HL2:Hd _:=hl2;have q3:=HOk.o.turn _ _ _ _ _ _ hl2;have hr2:w2.heap[w.heap.size]?=some (.cells #[.int .i64 0,.int .i64 0,.int .i64 0,.slice none 0 0] 33 (0,0)):=q3.ref (zy HRV.o) (fun e=>by have:=HOk.o.lt _ e;omega);have o0:=zc hr2 (i:=0) rfl;have o1:=zc hr2 (i:=1) rfl;have o2:=zc hr2 (i:=2) rfl;have o3:=zc hr2 (i:=3) rfl;have f0:=ze hr2 0;have f1:=ze hr2 1;have f2:=ze hr2 2;have f3:=ze hr2 3;have S2:w2.cell? ⟨rb,0,none⟩=some (.int .i64 ss)/\w2.cell? ⟨rb,1,none⟩=some (.int .i64 ii):=⟨q3.cell r0 HNF.o,q3.cell r1 HNF.o⟩
       clear q3 hr2 hl2))
 go_wp2;refine bodyPost_ret (v:=.agg #[.int .i64 cc,.int .i64 cf,.int .i64 cn,.slice va vl vc]) (by simp [results,results119,go_sem,o0,o1,o2,o3]) rfl ⟨cc,cf,cn,va,vl,vc,rfl,?_⟩;exact HOk.o.step _ _ _ _ w.heap.size _ _ _ _ hn0 (lJ HXV.o) HL2.o (yr (lI _) _ _ _ _) (lO _) hVl
end
section
theorem k9 (a:Addr)(w:World):(Instr.typeAssert (.iface 201 (.pointer (some a))) 122 201 true).run Tryz.prog w=.ok (.tuple #[.pointer (some a),.bool true]) w:=by kernel_rfl
theorem Ja (a:Addr)(w:World):(Instr.typeAssert (.iface 203 (.pointer (some a))) 122 201 true).run Tryz.prog w=.ok (.tuple #[.pointer none,.bool false]) w:=by kernel_rfl
theorem J6 (a:Addr)(w:World):(Instr.typeAssert (.iface 203 (.pointer (some a))) 122 203 true).run Tryz.prog w=.ok (.tuple #[.pointer (some a),.bool true]) w:=by kernel_rfl
theorem uT (a:Addr)(w:World):(Instr.typeAssert (.iface 205 (.pointer (some a))) 122 201 true).run Tryz.prog w=.ok (.tuple #[.pointer none,.bool false]) w:=by kernel_rfl
theorem uz (a:Addr)(w:World):(Instr.typeAssert (.iface 205 (.pointer (some a))) 122 203 true).run Tryz.prog w=.ok (.tuple #[.pointer none,.bool false]) w:=by kernel_rfl
theorem UL (a:Addr)(w:World):(Instr.typeAssert (.iface 205 (.pointer (some a))) 122 205 true).run Tryz.prog w=.ok (.tuple #[.pointer (some a),.bool true]) w:=by kernel_rfl
theorem UG (a:Addr)(w:World):(Instr.typeAssert (.iface 207 (.pointer (some a))) 122 201 true).run Tryz.prog w=.ok (.tuple #[.pointer none,.bool false]) w:=by kernel_rfl
theorem Uz (a:Addr)(w:World):(Instr.typeAssert (.iface 207 (.pointer (some a))) 122 203 true).run Tryz.prog w=.ok (.tuple #[.pointer none,.bool false]) w:=by kernel_rfl
theorem je (a:Addr)(w:World):(Instr.typeAssert (.iface 207 (.pointer (some a))) 122 205 true).run Tryz.prog w=.ok (.tuple #[.pointer none,.bool false]) w:=by kernel_rfl
theorem JM (a:Addr)(w:World):(Instr.typeAssert (.iface 207 (.pointer (some a))) 122 207 true).run Tryz.prog w=.ok (.tuple #[.pointer (some a),.bool true]) w:=by kernel_rfl
theorem Qd {F:Nat->Prop}{n0:Nat}{Pp:World->World->Int->Int->Int->Value->Prop}(hok:AnsOk F n0 Pp)(B rb:Nat)(w:World)(hn0:n0<=w.heap.size)
  (hin:∀w',Ext w w'->zA 119 #[.pointer (some ⟨B,0,none⟩),.pointer (some ⟨rb,0,none⟩)] w' Pp) :
  zA 83 #[.pointer (some ⟨B,0,none⟩),.iface 201 (.pointer (some ⟨rb,0,none⟩))] w Pp:=by
 unfold zA at *;have HOk:=hid hok;have HIn:=hid hin;have t0:=k9;clear hok hin;unfold zr at HIn ⊢;go_enter func83,ntmps83;go_wp2_with fail
 have hres0:=zf0 w;have hXW:=zf1 w;have hWl:w.heap.size<(w.alloc (.cells #[.int .i64 0,.int .i64 0,.int .i64 0,.slice none 0 0] 33)).heap.size:=by simp
 generalize lP w _=W at hres0 hXW hWl ⊢;refine(HIn.o _ hXW).mono ?_;rintro e w2 ⟨cc,cf,cn,va,vl,vc,rfl,hl2⟩;have HL2:Hd _:=hl2;have q3:=HOk.o.turn _ _ _ _ _ _ hl2;have hr2:w2.heap[w.heap.size]?=some (.cells #[.int .i64 0,.int .i64 0,.int .i64 0,.slice none 0 0] 33 (0,0)):=q3.ref hres0 (fun e=>by have:=HOk.o.lt _ e;omega);have o0:=zc hr2 (i:=0) rfl;have o1:=zc hr2 (i:=1) rfl;have o2:=zc hr2 (i:=2) rfl;have o3:=zc hr2 (i:=3) rfl;have f0:=ze hr2 0;have f1:=ze hr2 1;have f2:=ze hr2 2;have f3:=ze hr2 3;have HXW:=hid hXW;clear q3 hr2 hl2 hres0 hXW;go_wp2;refine bodyPost_ret (v:=.agg #[.int .i64 cc,.int .i64 cf,.int .i64 cn,.slice va vl vc]) (by simp [results,results83,go_sem,o0,o1,o2,o3]) rfl ⟨cc,cf,cn,va,vl,vc,rfl,?_⟩;exact HOk.o.step _ _ _ _ w.heap.size _ _ _ _ hn0 HXW.o HL2.o (yr (lI _) _ _ _ _) (lO _) hWl
theorem Qa {F:Nat->Prop}{n0:Nat}{Pp:World->World->Int->Int->Int->Value->Prop}(hok:AnsOk F n0 Pp)(B rb:Nat)(w:World)(hn0:n0<=w.heap.size)
  (hin:∀w',Ext w w'->zA 83 #[.pointer (some ⟨B,0,none⟩),.iface 201 (.pointer (some ⟨rb,0,none⟩))] w' Pp) :
  zA 54 #[.pointer (some ⟨B,0,none⟩),.iface 201 (.pointer (some ⟨rb,0,none⟩)),.int .i64 0] w Pp:=by
 unfold zA at *;have HOk:=hid hok;have HIn:=hid hin;clear hok hin;unfold zr at HIn ⊢;go_enter func54,ntmps54;go_wp2_with fail
 have hres0:=zf0 w;have hXW:=zf1 w;have hWl:w.heap.size<(w.alloc (.cells #[.int .i64 0,.int .i64 0,.int .i64 0,.slice none 0 0] 33)).heap.size:=by simp
 generalize lP w _=W at hres0 hXW hWl ⊢;refine(HIn.o _ hXW).mono ?_;rintro e w2 ⟨cc,cf,cn,va,vl,vc,rfl,hl2⟩;have HL2:Hd _:=hl2;have q3:=HOk.o.turn _ _ _ _ _ _ hl2;have hr2:w2.heap[w.heap.size]?=some (.cells #[.int .i64 0,.int .i64 0,.int .i64 0,.slice none 0 0] 33 (0,0)):=q3.ref hres0 (fun e=>by have:=HOk.o.lt _ e;omega);have o0:=zc hr2 (i:=0) rfl;have o1:=zc hr2 (i:=1) rfl;have o2:=zc hr2 (i:=2) rfl;have o3:=zc hr2 (i:=3) rfl;have f0:=ze hr2 0;have f1:=ze hr2 1;have f2:=ze hr2 2;have f3:=ze hr2 3;have HXW:=hid hXW;clear q3 hr2 hl2 hres0 hXW;go_wp2;refine bodyPost_ret (v:=.agg #[.int .i64 cc,.int .i64 cf,.int .i64 cn,.slice va vl vc]) (by simp [results,results54,go_sem,o0,o1,o2,o3]) rfl ⟨cc,cf,cn,va,vl,vc,rfl,?_⟩;exact HOk.o.step _ _ _ _ w.heap.size _ _ _ _ hn0 HXW.o HL2.o (yr (lI _) _ _ _ _) (lO _) hWl
theorem vg {F:Nat->Prop}{n0:Nat}{Pp:World->World->Int->Int->Int->Value->Prop}(hok:AnsOk F n0 Pp)(B rb:Nat)(w:World)(hn0:n0<=w.heap.size)
  (hin:∀w',Ext w w'->zA 120 #[.pointer (some ⟨B,0,none⟩),.pointer (some ⟨rb,0,none⟩)] w' Pp) :
  zA 83 #[.pointer (some ⟨B,0,none⟩),.iface 203 (.pointer (some ⟨rb,0,none⟩))] w Pp:=by
 unfold zA at *;have HOk:=hid hok;have HIn:=hid hin;have t0:=Ja;have t1:=J6;clear hok hin;unfold zr at HIn ⊢;go_enter func83,ntmps83;go_wp2_with fail
 have hres0:=zf0 w;have hXW:=zf1 w;have hWl:w.heap.size<(w.alloc (.cells #[.int .i64 0,.int .i64 0,.int .i64 0,.slice none 0 0] 33)).heap.size:=by simp
 generalize lP w _=W at hres0 hXW hWl ⊢;refine(HIn.o _ hXW).mono ?_;rintro e w2 ⟨cc,cf,cn,va,vl,vc,rfl,hl2⟩;have HL2:Hd _:=hl2;have q3:=HOk.o.turn _ _ _ _ _ _ hl2;have hr2:w2.heap[w.heap.size]?=some (.cells #[.int .i64 0,.int .i64 0,.int .i64 0,.slice none 0 0] 33 (0,0)):=q3.ref hres0 (fun e=>by have:=HOk.o.lt _ e;omega);have o0:=zc hr2 (i:=0) rfl;have o1:=zc hr2 (i:=1) rfl;have o2:=zc hr2 (i:=2) rfl;have o3:=zc hr2 (i:=3) rfl;have f0:=ze hr2 0;have f1:=ze hr2 1;have f2:=ze hr2 2;have f3:=ze hr2 3;have HXW:=hid hXW;clear q3 hr2 hl2 hres0 hXW;go_wp2;refine bodyPost_ret (v:=.agg #[.int .i64 cc,.int .i64 cf,.int .i64 cn,.slice va vl vc]) (by simp [results,results83,go_sem,o0,o1,o2,o3]) rfl ⟨cc,cf,cn,va,vl,vc,rfl,?_⟩;exact HOk.o.step _ _ _ _ w.heap.size _ _ _ _ hn0 HXW.o HL2.o (yr (lI _) _ _ _ _) (lO _) hWl
theorem vk {F:Nat->Prop}{n0:Nat}{Pp:World->World->Int->Int->Int->Value->Prop}(hok:AnsOk F n0 Pp)(B rb:Nat)(w:World)(hn0:n0<=w.heap.size)
  (hin:∀w',Ext w w'->zA 83 #[.pointer (some ⟨B,0,none⟩),.iface 203 (.pointer (some ⟨rb,0,none⟩))] w' Pp) :
  zA 54 #[.pointer (some ⟨B,0,none⟩),.iface 203 (.pointer (some ⟨rb,0,none⟩)),.int .i64 0] w Pp:=by
 unfold zA at *;have HOk:=hid hok;have HIn:=hid hin;clear hok hin;unfold zr at HIn ⊢;go_enter func54,ntmps54;go_wp2_with fail
 have hres0:=zf0 w;have hXW:=zf1 w;have hWl:w.heap.size<(w.alloc (.cells #[.int .i64 0,.int .i64 0,.int .i64 0,.slice none 0 0] 33)).heap.size:=by simp
 generalize lP w _=W at hres0 hXW hWl ⊢;refine(HIn.o _ hXW).mono ?_;rintro e w2 ⟨cc,cf,cn,va,vl,vc,rfl,hl2⟩;have HL2:Hd _:=hl2;have q3:=HOk.o.turn _ _ _ _ _ _ hl2;have hr2:w2.heap[w.heap.size]?=some (.cells #[.int .i64 0,.int .i64 0,.int .i64 0,.slice none 0 0] 33 (0,0)):=q3.ref hres0 (fun e=>by have:=HOk.o.lt _ e;omega);have o0:=zc hr2 (i:=0) rfl;have o1:=zc hr2 (i:=1) rfl;have o2:=zc hr2 (i:=2) rfl;have o3:=zc hr2 (i:=3) rfl;have f0:=ze hr2 0;have f1:=ze hr2 1;have f2:=ze hr2 2;have f3:=ze hr2 3;have HXW:=hid hXW;clear q3 hr2 hl2 hres0 hXW;go_wp2;refine bodyPost_ret (v:=.agg #[.int .i64 cc,.int .i64 cf,.int .i64 cn,.slice va vl vc]) (by simp [results,results54,go_sem,o0,o1,o2,o3]) rfl ⟨cc,cf,cn,va,vl,vc,rfl,?_⟩;exact HOk.o.step _ _ _ _ w.heap.size _ _ _ _ hn0 HXW.o HL2.o (yr (lI _) _ _ _ _) (lO _) hWl
theorem xO {F:Nat->Prop}{n0:Nat}{Pp:World->World->Int->Int->Int->Value->Prop}(hok:AnsOk F n0 Pp)(B rb:Nat)(w:World)(hn0:n0<=w.heap.size)
  (hin:∀w',Ext w w'->zA 121 #[.pointer (some ⟨B,0,none⟩),.pointer (some ⟨rb,0,none⟩)] w' Pp) :
  zA 83 #[.pointer (some ⟨B,0,none⟩),.iface 205 (.pointer (some ⟨rb,0,none⟩))] w Pp:=by
 unfold zA at *;have HOk:=hid hok;have HIn:=hid hin;have t0:=uT;have t1:=uz;have t2:=UL;clear hok hin;unfold zr at HIn ⊢;go_enter func83,ntmps83;go_wp2_with fail
 have hres0:=zf0 w;have hXW:=zf1 w;have hWl:w.heap.size<(w.alloc (.cells #[.int .i64 0,.int .i64 0,.int .i64 0,.slice none 0 0] 33)).heap.size:=by simp
 generalize lP w _=W at hres0 hXW hWl ⊢;refine(HIn.o _ hXW).mono ?_;rintro e w2 ⟨cc,cf,cn,va,vl,vc,rfl,hl2⟩;have HL2:Hd _:=hl2;have q3:=HOk.o.turn _ _ _ _ _ _ hl2;have hr2:w2.heap[w.heap.size]?=some (.cells #[.int .i64 0,.int .i64 0,.int .i64 0,.slice none 0 0] 33 (0,0)):=q3.ref hres0 (fun e=>by have:=HOk.o.lt _ e;omega);have o0:=zc hr2 (i:=0) rfl;have o1:=zc hr2 (i:=1) rfl;have o2:=zc hr2 (i:=2) rfl;have o3:=zc hr2 (i:=3) rfl;have f0:=ze hr2 0;have f1:=ze hr2 1;have f2:=ze hr2 2;have f3:=ze hr2 3;have HXW:=hid hXW;clear q3 hr2 hl2 hres0 hXW;go_wp2;refine bodyPost_ret (v:=.agg #[.int .i64 cc,.int .i64 cf,.int .i64 cn,.slice va vl vc]) (by simp [results,results83,go_sem,o0,o1,o2,o3]) rfl ⟨cc,cf,cn,va,vl,vc,rfl,?_⟩;exact HOk.o.step _ _ _ _ w.heap.size _ _ _ _ hn0 HXW.o HL2.o (yr (lI _) _ _ _ _) (lO _) hWl
theorem xI {F:Nat->Prop}{n0:Nat}{Pp:World->World->Int->Int->Int->Value->Prop}(hok:AnsOk F n0 Pp)(B rb:Nat)(w:World)(hn0:n0<=w.heap.size)
  (hin:∀w',Ext w w'->zA 83 #[.pointer (some ⟨B,0,none⟩),.iface 205 (.pointer (some ⟨rb,0,none⟩))] w' Pp) :
  zA 54 #[.pointer (some ⟨B,0,none⟩),.iface 205 (.pointer (some ⟨rb,0,none⟩)),.int .i64 0] w Pp:=by
 unfold zA at *;have HOk:=hid hok;have HIn:=hid hin;clear hok hin;unfold zr at HIn ⊢;go_enter func54,ntmps54;go_wp2_with fail
 have hres0:=zf0 w;have hXW:=zf1 w;have hWl:w.heap.size<(w.alloc (.cells #[.int .i64 0,.int .i64 0,.int .i64 0,.slice none 0 0] 33)).heap.size:=by simp
 generalize lP w _=W at hres0 hXW hWl ⊢;refine(HIn.o _ hXW).mono ?_;rintro e w2 ⟨cc,cf,cn,va,vl,vc,rfl,hl2⟩;have HL2:Hd _:=hl2;have q3:=HOk.o.turn _ _ _ _ _ _ hl2;have hr2:w2.heap[w.heap.size]?=some (.cells #[.int .i64 0,.int .i64 0,.int .i64 0,.slice none 0 0] 33 (0,0)):=q3.ref hres0 (fun e=>by have:=HOk.o.lt _ e;omega);have o0:=zc hr2 (i:=0) rfl;have o1:=zc hr2 (i:=1) rfl;have o2:=zc hr2 (i:=2) rfl;have o3:=zc hr2 (i:=3) rfl;have f0:=ze hr2 0;have f1:=ze hr2 1;have f2:=ze hr2 2;have f3:=ze hr2 3;have HXW:=hid hXW;clear q3 hr2 hl2 hres0 hXW;go_wp2;refine bodyPost_ret (v:=.agg #[.int .i64 cc,.int .i64 cf,.int .i64 cn,.slice va vl vc]) (by simp [results,results54,go_sem,o0,o1,o2,o3]) rfl ⟨cc,cf,cn,va,vl,vc,rfl,?_⟩;exact HOk.o.step _ _ _ _ w.heap.size _ _ _ _ hn0 HXW.o HL2.o (yr (lI _) _ _ _ _) (lO _) hWl
theorem XO {F:Nat->Prop}{n0:Nat}{Pp:World->World->Int->Int->Int->Value->Prop}(hok:AnsOk F n0 Pp)(B rb:Nat)(w:World)(hn0:n0<=w.heap.size)
  (hin:∀w',Ext w w'->zA 122 #[.pointer (some ⟨B,0,none⟩),.pointer (some ⟨rb,0,none⟩)] w' Pp) :
  zA 83 #[.pointer (some ⟨B,0,none⟩),.iface 207 (.pointer (some ⟨rb,0,none⟩))] w Pp:=by
 unfold zA at *;have HOk:=hid hok;have HIn:=hid hin;have t0:=UG;have t1:=Uz;have t2:=je;have t3:=JM;clear hok hin;unfold zr at HIn ⊢;go_enter func83,ntmps83;go_wp2_with fail
 have hres0:=zf0 w;have hXW:=zf1 w;have hWl:w.heap.size<(w.alloc (.cells #[.int .i64 0,.int .i64 0,.int .i64 0,.slice none 0 0] 33)).heap.size:=by simp
 generalize lP w _=W at hres0 hXW hWl ⊢;refine(HIn.o _ hXW).mono ?_;rintro e w2 ⟨cc,cf,cn,va,vl,vc,rfl,hl2⟩;have HL2:Hd _:=hl2;have q3:=HOk.o.turn _ _ _ _ _ _ hl2;have hr2:w2.heap[w.heap.size]?=some (.cells #[.int .i64 0,.int .i64 0,.int .i64 0,.slice none 0 0] 33 (0,0)):=q3.ref hres0 (fun e=>by have:=HOk.o.lt _ e;omega);have o0:=zc hr2 (i:=0) rfl;have o1:=zc hr2 (i:=1) rfl;have o2:=zc hr2 (i:=2) rfl;have o3:=zc hr2 (i:=3) rfl;have f0:=ze hr2 0;have f1:=ze hr2 1;have f2:=ze hr2 2;have f3:=ze hr2 3;have HXW:=hid hXW;clear q3 hr2 hl2 hres0 hXW;go_wp2;refine bodyPost_ret (v:=.agg #[.int .i64 cc,.int .i64 cf,.int .i64 cn,.slice va vl vc]) (by simp [results,results83,go_sem,o0,o1,o2,o3]) rfl ⟨cc,cf,cn,va,vl,vc,rfl,?_⟩;exact HOk.o.step _ _ _ _ w.heap.size _ _ _ _ hn0 HXW.o HL2.o (yr (lI _) _ _ _ _) (lO _) hWl
theorem Xi {F:Nat->Prop}{n0:Nat}{Pp:World->World->Int->Int->Int->Value->Prop}(hok:AnsOk F n0 Pp)(B rb:Nat)(w:World)(hn0:n0<=w.heap.size)
  (hin:∀w',Ext w w'->zA 83 #[.pointer (some ⟨B,0,none⟩),.iface 207 (.pointer (some ⟨rb,0,none⟩))] w' Pp) :
  zA 54 #[.pointer (some ⟨B,0,none⟩),.iface 207 (.pointer (some ⟨rb,0,none⟩)),.int .i64 0] w Pp:=by
 unfold zA at *;have HOk:=hid hok;have HIn:=hid hin;clear hok hin;unfold zr at HIn ⊢;go_enter func54,ntmps54;go_wp2_with fail
 have hres0:=zf0 w;have hXW:=zf1 w;have hWl:w.heap.size<(w.alloc (.cells #[.int .i64 0,.int .i64 0,.int .i64 0,.slice none 0 0] 33)).heap.size:=by simp
 generalize lP w _=W at hres0 hXW hWl ⊢;refine(HIn.o _ hXW).mono ?_;rintro e w2 ⟨cc,cf,cn,va,vl,vc,rfl,hl2⟩;have HL2:Hd _:=hl2;have q3:=HOk.o.turn _ _ _ _ _ _ hl2;have hr2:w2.heap[w.heap.size]?=some (.cells #[.int .i64 0,.int .i64 0,.int .i64 0,.slice none 0 0] 33 (0,0)):=q3.ref hres0 (fun e=>by have:=HOk.o.lt _ e;omega);have o0:=zc hr2 (i:=0) rfl;have o1:=zc hr2 (i:=1) rfl;have o2:=zc hr2 (i:=2) rfl;have o3:=zc hr2 (i:=3) rfl;have f0:=ze hr2 0;have f1:=ze hr2 1;have f2:=ze hr2 2;have f3:=ze hr2 3;have HXW:=hid hXW;clear q3 hr2 hl2 hres0 hXW;go_wp2;refine bodyPost_ret (v:=.agg #[.int .i64 cc,.int .i64 cf,.int .i64 cn,.slice va vl vc]) (by simp [results,results54,go_sem,o0,o1,o2,o3]) rfl ⟨cc,cf,cn,va,vl,vc,rfl,?_⟩;exact HOk.o.step _ _ _ _ w.heap.size _ _ _ _ hn0 HXW.o HL2.o (yr (lI _) _ _ _ _) (lO _) hWl
end
section
theorem qN {F:Nat->Prop}{n0:Nat}{Pp:World->World->Int->Int->Int->Value->Prop}(hok:AnsOk F n0 Pp)(B rb:Nat)(ss ii:Int)(w:World)(hn0:n0<=w.heap.size)(hr:Zf w rb ss ii)(hrF:¬F rb)
  (hdt:∀w',Ext w w'->zA 167 #[.pointer (some ⟨B,0,none⟩),.iface 235 (.agg #[.pointer (some ⟨rb,0,none⟩)]),.int .i64 ss,.int .i64 ii] w' Pp) :
  zA 121 #[.pointer (some ⟨B,0,none⟩),.pointer (some ⟨rb,0,none⟩)] w Pp:=by
 unfold zA at *;have HOk:=hid hok;have HDt:=hid hdt;have HNF:=hid hrF;have r0:w.cell? ⟨rb,0,none⟩=some (.int .i64 ss):=zc hr rfl;have r1:w.cell? ⟨rb,1,none⟩=some (.int .i64 ii):=zc hr rfl;have hrl:=lG w _ r0;clear hok hdt hr hrF;unfold zr at HDt ⊢;go_enter func121,ntmps121;go_wp2_with fail
 have hres0:=zf0 w;have hXW:=zf1 w;generalize lP w _=W at hres0 hXW ⊢;have r0:=hXW.cell r0;have r1:=hXW.cell r1;have HXW:=hid hXW;have HRS:=hid hres0;clear hXW hres0;have HXV:Hd (Ext w W):=HXW.o;have HRV:Hd (W.heap[w.heap.size]?=some (.cells #[.int .i64 0,.int .i64 0,.int .i64 0,.slice none 0 0] 33 (0,0))):=HRS.o;have hVl:=(Array.getElem?_eq_some_iff.1 HRV.o).1;clear HXW HRS
 go_region_held3 (fun w'=>w'.cell? ⟨rb,0,none⟩=some (.int .i64 ss)/\w'.cell? ⟨rb,1,none⟩=some (.int .i64 ii))
  (first|exact⟨r0,r1⟩|exact S2|exact⟨qj _ _ _ _ (by omega) S2.1,qj _ _ _ _ (by omega) S2.2⟩)
  (first
    | (go_at_call 167
       refine(HDt.o _ (lJ HXV.o)).mono ?_;rintro e w2 ⟨cc,cf,cn,va,vl,vc,rfl,hl2⟩;have HL2:Hd _:=hl2;have q3:=HOk.o.turn _ _ _ _ _ _ hl2;have hr2:w2.heap[w.heap.size]?=some (.cells #[.int .i64 0,.int .i64 0,.int .i64 0,.slice none 0 0] 33 (0,0)):=q3.ref (zy HRV.o) (fun e=>by have:=HOk.o.lt _ e;omega);have o0:=zc hr2 (i:=0) rfl;have o1:=zc hr2 (i:=1) rfl;have o2:=zc hr2 (i:=2) rfl;have o3:=zc hr2 (i:=3) rfl;have f0:=ze hr2 0;have f1:=ze hr2 1;have f2:=ze hr2 2;have f3:=ze hr2 3;have S2:w2.cell? ⟨rb,0,none⟩=some (.int .i64 ss)/\w2.cell? ⟨rb,1,none⟩=some (.int .i64 ii):=⟨q3.cell r0 HNF.o,q3.cell r1 HNF.o⟩
       clear q3 hr2 hl2))
 go_wp2;refine bodyPost_ret (v:=.agg #[.int .i64 cc,.int .i64 cf,.int .i64 cn,.slice va vl vc]) (by simp [results,results121,go_sem,o0,o1,o2,o3]) rfl ⟨cc,cf,cn,va,vl,vc,rfl,?_⟩;exact HOk.o.step _ _ _ _ w.heap.size _ _ _ _ hn0 (lJ HXV.o) HL2.o (yr (lI _) _ _ _ _) (lO _) hVl
theorem Q4 {F:Nat->Prop}{n0:Nat}{Pp:World->World->Int->Int->Int->Value->Prop}(hok:AnsOk F n0 Pp)(B rb:Nat)(ss ii kd m k n c:Int)(w:World)(hn0:n0<=w.heap.size)(hr:Zh w rb ss ii kd m k n c)(pl:Addr)
  (hnm:∀w',Ext w w'->Calls Tryz.prog 165 #[.pointer (some ⟨B,0,none⟩),.int .i64 ss,.int .i64 ii] w' fun e w''=>e=.returned (.pointer (some pl))/\Ext w' w'')
  (hdt:∀w',Ext w w'->zA 166 #[.pointer (some pl),.pointer (some ⟨rb,0,none⟩)] w' Pp) :
  zA 119 #[.pointer (some ⟨B,0,none⟩),.pointer (some ⟨rb,0,none⟩)] w Pp:=by
 unfold zA at *;have HOk:=hid hok;have HNm:=hid hnm;have HDt:=hid hdt;have r0:w.cell? ⟨rb,0,none⟩=some (.int .i64 ss):=zc hr rfl;have r1:w.cell? ⟨rb,1,none⟩=some (.int .i64 ii):=zc hr rfl;have hrl:=lG w _ r0;clear hok hnm hdt hr;unfold zr at HDt ⊢;go_enter func119,ntmps119;go_wp2_with fail
 have hres0:=zf0 w;have hXW:=zf1 w;generalize lP w _=W at hres0 hXW ⊢;have r0:=hXW.cell r0;have r1:=hXW.cell r1;have HXW:=hid hXW;have HRS:=hid hres0;clear hXW hres0
 go_region_held3 (fun w'=>(w'.cell? ⟨rb,0,none⟩=some (.int .i64 ss)/\w'.cell? ⟨rb,1,none⟩=some (.int .i64 ii))/\Ext W w')
  ((refine Kb r0 r1 ?_;(repeat (first|with_reducible exact lI _|with_reducible assumption|with_reducible refine lJ ?_|with_reducible refine lK ?_ _|with_reducible (apply lY;assumption)));done))
  (first|(go_at_call 165;refine(HNm.o _ (lJ HXW.o)).mono ?_;rintro e V ⟨rfl,hx1⟩))
 rename_i hh
 have hD:Ext W V:=hh.2;clear hh hx1;have r0:=hD.cell r0;have r1:=hD.cell r1;have HXV:Hd (Ext w V):=HXW.o.trans hD;have HRV:=hid (hD.block HRS.o);have hVl:=(Array.getElem?_eq_some_iff.1 HRV.o).1;clear hD HXW HRS;go_wp2_with fail
 refine(HDt.o _ HXV.o).mono ?_;rintro e w2 ⟨cc,cf,cn,va,vl,vc,rfl,hl2⟩;have HL2:Hd _:=hl2;have q3:=HOk.o.turn _ _ _ _ _ _ hl2;have hr2:w2.heap[w.heap.size]?=some (.cells #[.int .i64 0,.int .i64 0,.int .i64 0,.slice none 0 0] 33 (0,0)):=q3.ref HRV.o (fun e=>by have:=HOk.o.lt _ e;omega);have o0:=zc hr2 (i:=0) rfl;have o1:=zc hr2 (i:=1) rfl;have o2:=zc hr2 (i:=2) rfl;have o3:=zc hr2 (i:=3) rfl;have f0:=ze hr2 0;have f1:=ze hr2 1;have f2:=ze hr2 2;have f3:=ze hr2 3;clear q3 hr2 hl2;go_wp2;refine bodyPost_ret (v:=.agg #[.int .i64 cc,.int .i64 cf,.int .i64 cn,.slice va vl vc]) (by simp [results,results119,go_sem,o0,o1,o2,o3]) rfl ⟨cc,cf,cn,va,vl,vc,rfl,?_⟩;exact HOk.o.step _ _ _ _ w.heap.size _ _ _ _ hn0 HXV.o HL2.o (yr (lI _) _ _ _ _) (lO _) hVl
section
variable {B:Nat}{F:Nat->Prop}{sv lv dv:Value}{R:List StkR}{ls:List LsV}{ops:List OpV}{fl:Bool}{ah:Int}{kn:Bool}
def yE (w:World)(rb:Nat)(kd m k n:Int):Prop:=w.heap[rb]?=some (.cells #[.int .i64 kd,.int .i64 m,.int .i64 k,.int .i64 n] 216 (0,0))
theorem vt (rb:Nat)(kd m k n:Int)(hR:R.length<=100)(w:World)(h:StoreOf w B F sv lv dv R ls ops fl ah kn)(hr:yE w rb kd m k n) :
  Calls Tryz.prog 122 #[.pointer (some ⟨B,0,none⟩),.pointer (some ⟨rb,0,none⟩)] w fun e w'=>e=.returned (match R.find? (fun x=>x.is kd m k n) with|none=>zr 2 0 0 (.slice none 0 0)|some x=>zr 0 x.leased x.ts.length (.slice none 0 0))/\Ext w w':=by
 have r0:w.cell? ⟨rb,0,none⟩=some (.int .i64 kd):=zc hr rfl;have r1:w.cell? ⟨rb,1,none⟩=some (.int .i64 m):=zc hr rfl;have r2:w.cell? ⟨rb,2,none⟩=some (.int .i64 k):=zc hr rfl;have r3:w.cell? ⟨rb,3,none⟩=some (.int .i64 n):=zc hr rfl;have hrl:=lG w _ r0;have HF:Hd (∀w',Ext w w'->_):=fun w' hx=>Yt kd m k n hR w' (h.ext hx)
 unfold zJ at HF;unfold zr;cases hf:R.find? (fun x=>x.is kd m k n) with
 | none=>
  have hp:Zy R kd m k n=.pointer none:=by rw [Zy,hf]
  rw [hp] at HF;clear hp hf h hr;simp only;go_enter func122,ntmps122;go_wp2_with fail
  refine(HF.o _ ((lI w).alloc _)).mono ?_;rintro e w1 ⟨rfl,hx1⟩;have hr2:=hx1.block (heap_alloc_new _ _);have o0:=zc hr2 (i:=0) rfl;have o1:=zc hr2 (i:=1) rfl;have o2:=zc hr2 (i:=2) rfl;have o3:=zc hr2 (i:=3) rfl;have f0:=ze hr2 0;have f1:=ze hr2 1;have f2:=ze hr2 2;have f3:=ze hr2 3;have HX1:Hd (Ext w w1):=((lI w).alloc _).trans hx1;clear hx1 hr2;go_wp2;refine bodyPost_ret (v:=.agg #[.int .i64 2,.int .i64 0,.int .i64 0,.slice none 0 0]) (by simp [results,results122,go_sem,o0,o1,o2,o3]) rfl ⟨rfl,?_⟩;exact Z9 HX1.o (lO _) _ _ _ _
 | some x=>
  have hp:Zy R kd m k n=.pointer (some ⟨x.blk,0,none⟩):=by rw [Zy,hf]
  rw [hp] at HF;have hxR:x∈R:=List.mem_of_find?_eq_some hf;have hb:=(h.stk x hxR).blk;have k4:w.cell? ⟨x.blk,4,none⟩=some (.int .i64 x.ts.length):=(cell_of_row w x.blk 4 _ _ _ hb).trans rfl;have k5:w.cell? ⟨x.blk,5,none⟩=some (.int .i64 x.leased):=(cell_of_row w x.blk 5 _ _ _ hb).trans rfl;have hbl:=lG w _ k4;clear hp hf h hr hxR hb;simp only;generalize x.ts.length=tl at *;generalize x.leased=le at *;generalize x.blk=blk at *;go_enter func122,ntmps122;go_wp2_with fail
  refine(HF.o _ ((lI w).alloc _)).mono ?_;rintro e w1 ⟨rfl,hx1⟩;have hr2:=hx1.block (heap_alloc_new _ _);have o0:=zc hr2 (i:=0) rfl;have o1:=zc hr2 (i:=1) rfl;have o2:=zc hr2 (i:=2) rfl;have o3:=zc hr2 (i:=3) rfl;have f0:=ze hr2 0;have f1:=ze hr2 1;have f2:=ze hr2 2;have f3:=ze hr2 3;have HX1:Hd (Ext w w1):=((lI w).alloc _).trans hx1;have k4:=HX1.o.cell k4;have k5:=HX1.o.cell k5;have hbw:w.heap.size≠blk:=by omega
  have hwl1:=lG w1 _ o0;clear hx1 hr2;go_wp2
  go_region
  all_goals go_wp2
  all_goals refine bodyPost_ret (v:=.agg #[.int .i64 0,.int .i64 le,.int .i64 tl,.slice none 0 0]) (by simp [results,results122,go_sem,o0,o1,o2,o3]) rfl ⟨rfl,?_⟩
  all_goals exact lJ (Z9 HX1.o (lO _) _ _ _ _)
end
end
section
def yi (w:World)(rb:Nat)(ss kd m k n f c p:Int):Prop:=w.heap[rb]?=some (.cells #[.int .i64 ss,.int .i64 kd,.int .i64 m,.int .i64 k,.int .i64 n,.int .i64 f,.int .i64 c,.int .i64 p] 212 (0,0))
def yu (ls:List LsV)(ss kd m k n num:Int):Bool:=match ls.find? (yg kd m k n num) with
 | none=>false
 | some l=>l.s == ss && !l.r
def ZP (ls:List LsV)(ss kd m k n f c p:Int):Int:=if c<1\/40<c then 5 else if p≠0/\p≠1 then 9 else if ∀i:Nat,i<c.toNat->yu ls ss kd m k n (f+i)=true then 0 else 8
theorem Vy {a b:World}{p1 p2 p3 p4 p5:Addr}{v1 v2 v3 v4 v5:Value}(h1:a.cell? p1=some v1)(h2:a.cell? p2=some v2)(h3:a.cell? p3=some v3)(h4:a.cell? p4=some v4)(h5:a.cell? p5=some v5)(h:Ext a b) :
  (b.cell? p1=some v1/\b.cell? p2=some v2/\b.cell? p3=some v3/\b.cell? p4=some v4/\b.cell? p5=some v5)/\Ext a b:=⟨⟨h.cell h1,h.cell h2,h.cell h3,h.cell h4,h.cell h5⟩,h⟩
theorem vG (B rb:Nat)(w:World) :
  Calls Tryz.prog 169 #[.pointer (some ⟨B,0,none⟩),.pointer none,.pointer (some ⟨rb,0,none⟩)] w fun e w'=>e=.returned (.int .i64 2)/\w=w':=by
 go_enter func169,ntmps169;go_wp2;go_ret;exact⟨rfl,rfl⟩
section
variable {B:Nat}{F:Nat->Prop}{sv lv dv:Value}{R:List StkR}{ls:List LsV}{ops:List OpV}{fl:Bool}{ah:Int}{kn:Bool}
theorem XR (rb blk:Nat)(ss kd m k n f c p:Int)(hf0:0<=f)(hf1:f<=2147483647)(hls:ls.length<=1000)(hfc:∀l∈ls,0<=l.f/\l.f<=1000/\0<=l.c/\l.c<=1000)(w:World)(h:StoreOf w B F sv lv dv R ls ops fl ah kn)(hr:yi w rb ss kd m k n f c p) :
  Calls Tryz.prog 169 #[.pointer (some ⟨B,0,none⟩),.pointer (some ⟨blk,0,none⟩),.pointer (some ⟨rb,0,none⟩)] w fun e w'=>e=.returned (.int .i64 (ZP ls ss kd m k n f c p))/\Ext w w':=by
 have r0:w.cell? ⟨rb,0,none⟩=some (.int .i64 ss):=zc hr rfl;have r1:w.cell? ⟨rb,1,none⟩=some (.int .i64 kd):=zc hr rfl;have r2:w.cell? ⟨rb,2,none⟩=some (.int .i64 m):=zc hr rfl;have r3:w.cell? ⟨rb,3,none⟩=some (.int .i64 k):=zc hr rfl;have r4:w.cell? ⟨rb,4,none⟩=some (.int .i64 n):=zc hr rfl;have r5:w.cell? ⟨rb,5,none⟩=some (.int .i64 f):=zc hr rfl;have r6:w.cell? ⟨rb,6,none⟩=some (.int .i64 c):=zc hr rfl;have r7:w.cell? ⟨rb,7,none⟩=some (.int .i64 p):=zc hr rfl;have HLo:Hd (∀num w',Ext w w'->_):=fun num w' hx=>Jn B ls kd m k n num sv lv dv fl ah kn w' (h.deal.ext hx) (h.lrow.ext hx) hls hfc
 unfold zJ at HLo;have HLr:Hd (LeasesAt w lv ls):=h.lrow;have HCd:Hd (ZP ls ss kd m k n f c p=if c<1\/40<c then 5 else if p≠0/\p≠1 then 9 else if ∀i:Nat,i<c.toNat->yu ls ss kd m k n (f+i)=true then 0 else 8):=rfl;generalize ZP ls ss kd m k n f c p=cd at *;clear h hr hfc;go_enter func169,ntmps169;go_wp2_with fail
 refine(Vf c w).mono ?_;rintro e w1' ⟨rfl,rfl⟩;by_cases hc:c<1\/40<c
 ·have hb:(decide (1<=c) && decide (c<=40))=false:=by simp;omega
  rw [hb];go_wp2;go_ret;exact⟨by rw [HCd.o,if_pos hc];rfl,lI _⟩
 ·have hb:(decide (1<=c) && decide (c<=40))=true:=by simp;omega
  rw [hb];obtain⟨cn,hcn⟩:∃cn:Nat,c=cn:=⟨c.toNat,by omega⟩
  subst hcn;have HCd2:Hd (cd=if p≠0/\p≠1 then 9 else if ∀i:Nat,i<cn->yu ls ss kd m k n (f+i)=true then 0 else 8):=by have h1:=HCd.o;rw [if_neg hc] at h1;exact h1
  have hcb:1<=cn/\cn<=40:=by omega
  clear hb hc HCd;by_cases hp:p≠0/\p≠1
  ·have e0:(p != 0)=true:=by simpa using hp.1
   have e1:(p != 1)=true:=by simpa using hp.2
   have HP:=hid hp;clear hp;go_wp2;go_ret;exact⟨by rw [HCd2.o,if_pos HP.o];rfl,lI _⟩
  ·have HP:=hid hp;rcases(show p=0\/p=1 by omega) with rfl|rfl
   ·clear hp;go_wp2_with fail
    go_loopw [36] (fun i wr=>∃j:Nat,j<=cn/\i=.int .i64 j/\(∀i:Nat,i<j->yu ls ss kd m k n (f+i)=true)/\Ext w wr) (fun i _=>cn - (intOf i).toNat)
    case atStart=>exact⟨0,lT _,rfl,fun i hi=>absurd hi (sG _),lI _⟩
    case round=>
     obtain⟨j,hj,rfl,hal,hx⟩:=hrel;have HAl:=hid hal;have HX:=hid hx;have r0:=hx.cell r0;have r1:=hx.cell r1;have r2:=hx.cell r2;have r3:=hx.cell r3;have r4:=hx.cell r4;have r5:=hx.cell r5;clear hal hx;by_cases hlt:j<cn
     ·have hwf:IntKind.i64.wrap (f+(j:Int))=f+(j:Int):=by rw [rP];omega
      have HLj:Hd (∀w',Ext w w'->_):=fun w' hx=>HLo.o (f+(j:Int)) w' hx
      cases hfi:ls.findIdx? (yg kd m k n (f+(j:Int))) with
      | none=>
       have HN:Hd (¬∀i:Nat,i<cn->yu ls ss kd m k n (f+i)=true):=fun hall=>by have h1:=hall j hlt;unfold yu at h1;rw [z9 hfi] at h1;cases h1
       rw [hfi] at HLj;unfold qB at HLj;clear hfi;go_wp2_with fail
       go_region_held3 (fun w'=>(w'.cell? ⟨rb,1,none⟩=some (.int .i64 kd)/\w'.cell? ⟨rb,2,none⟩=some (.int .i64 m)/\w'.cell? ⟨rb,3,none⟩=some (.int .i64 k)/\w'.cell? ⟨rb,4,none⟩=some (.int .i64 n)/\w'.cell? ⟨rb,5,none⟩=some (.int .i64 f))/\Ext wr w')
        ((refine Vy r1 r2 r3 r4 r5 ?_;(repeat (first|with_reducible exact lI _|with_reducible assumption|with_reducible refine lJ ?_|with_reducible refine lK ?_ _|with_reducible (apply lY;assumption)));done))
        (first|(go_at_call 126;refine(HLj.o _ (lJ HX.o)).mono ?_;rintro e w2 ⟨rfl,hx2⟩))
       rename_i hh
       have HX2:Hd (Ext w w2):=HX.o.trans hh.2;clear hh hx2;go_wp2_with fail
       go_quiet (fail)
       go_wp2;go_ret;exact⟨by rw [HCd2.o,if_neg HP.o,if_neg HN.o];rfl,HX2.o.drewN _⟩
      | some ix=>
       obtain⟨hix,hfind⟩:=zU hfi;have HH:Hd (yu ls ss kd m k n (f+(j:Int))=(ls[ix].s == ss && !ls[ix].r)):=by
        show yu ls ss kd m k n (f+(j:Int))=(ls[ix].s == ss && !ls[ix].r)
        unfold yu;rw [hfind]
       obtain⟨g,cap,hlv⟩:∃g cap,lv=.slice (some ⟨g,0,none⟩) ls.length cap:=by
        rcases LeasesAt.form HLr.o with⟨_,e⟩|⟨g,cap,e,_⟩
        ·rw [e] at hix;simp at hix
        ·exact⟨g,cap,e⟩
       have hlr:=HLr.o;rw [hlv] at hlr;obtain⟨l0,_,_,_,_,_,_,_,l8⟩:=LeasesAt.cells (hlr.ext HX.o) ix hix;rw [hfi,hlv] at HLj;unfold qB at HLj;clear hfi hfind hlr hlv;generalize ls[ix].s=sx at *;generalize ls[ix].r=rx at *;go_wp2_with fail
       go_region_held3 (fun w'=>(w'.cell? ⟨rb,1,none⟩=some (.int .i64 kd)/\w'.cell? ⟨rb,2,none⟩=some (.int .i64 m)/\w'.cell? ⟨rb,3,none⟩=some (.int .i64 k)/\w'.cell? ⟨rb,4,none⟩=some (.int .i64 n)/\w'.cell? ⟨rb,5,none⟩=some (.int .i64 f))/\Ext wr w')
        ((refine Vy r1 r2 r3 r4 r5 ?_;(repeat (first|with_reducible exact lI _|with_reducible assumption|with_reducible refine lJ ?_|with_reducible refine lK ?_ _|with_reducible (apply lY;assumption)));done))
        (first|(go_at_call 126;refine(HLj.o _ (lJ HX.o)).mono ?_;rintro e w2 ⟨rfl,hx2⟩))
       rename_i hh
       have HX2:Hd (Ext w w2):=HX.o.trans hh.2;have l0:=hh.2.cell l0;have l8:=hh.2.cell l8;have r0:=hh.2.cell r0;clear hh hx2;by_cases hgood:sx=ss/\rx=false
       ·obtain⟨rfl,rfl⟩:=hgood;have HAl2:Hd (∀i:Nat,i<j+1->yu ls sx kd m k n (f+i)=true):=fun i hi=>by
         by_cases e:i=j
         ·subst e;rw [HH.o];simp
         ·exact HAl.o i (by omega)
        go_wp2_with fail
        go_quiet (fail)
        go_wp2
        go_roundw
        case rel=>exact⟨j+1,by omega,by go_num,HAl2.o,HX2.o.drewN _⟩
        case measure=>simp [intOf];omega
       ·have HN:Hd (¬∀i:Nat,i<cn->yu ls ss kd m k n (f+i)=true):=fun hall=>by
         have h1:=hall j hlt;rw [HH.o] at h1;apply hgood;simpa using h1
        by_cases hs:sx=ss
        ·subst hs;have hr:rx=true:=by
          cases rx
          ·exact absurd ⟨rfl,rfl⟩ hgood
          ·rfl
         subst hr;clear hgood HH;go_wp2_with fail
         go_quiet (fail)
         go_wp2;go_ret;exact⟨by rw [HCd2.o,if_neg HP.o,if_neg HN.o];rfl,HX2.o.drewN _⟩
        ·clear hgood HH;go_wp2_with fail
         go_quiet (fail)
         go_wp2;go_ret;exact⟨by rw [HCd2.o,if_neg HP.o,if_neg HN.o];rfl,HX2.o.drewN _⟩
     ·obtain rfl:j=cn:=by omega
      go_wp2;go_ret;exact⟨by rw [HCd2.o,if_neg HP.o,if_pos HAl.o];rfl,HX.o⟩
   ·clear hp;go_wp2_with fail
    go_loopw [36] (fun i wr=>∃j:Nat,j<=cn/\i=.int .i64 j/\(∀i:Nat,i<j->yu ls ss kd m k n (f+i)=true)/\Ext w wr) (fun i _=>cn - (intOf i).toNat)
    case atStart=>exact⟨0,lT _,rfl,fun i hi=>absurd hi (sG _),lI _⟩
    case round=>
     obtain⟨j,hj,rfl,hal,hx⟩:=hrel;have HAl:=hid hal;have HX:=hid hx;have r0:=hx.cell r0;have r1:=hx.cell r1;have r2:=hx.cell r2;have r3:=hx.cell r3;have r4:=hx.cell r4;have r5:=hx.cell r5;clear hal hx;by_cases hlt:j<cn
     ·have hwf:IntKind.i64.wrap (f+(j:Int))=f+(j:Int):=by rw [rP];omega
      have HLj:Hd (∀w',Ext w w'->_):=fun w' hx=>HLo.o (f+(j:Int)) w' hx
      cases hfi:ls.findIdx? (yg kd m k n (f+(j:Int))) with
      | none=>
       have HN:Hd (¬∀i:Nat,i<cn->yu ls ss kd m k n (f+i)=true):=fun hall=>by have h1:=hall j hlt;unfold yu at h1;rw [z9 hfi] at h1;cases h1
       rw [hfi] at HLj;unfold qB at HLj;clear hfi;go_wp2_with fail
       go_region_held3 (fun w'=>(w'.cell? ⟨rb,1,none⟩=some (.int .i64 kd)/\w'.cell? ⟨rb,2,none⟩=some (.int .i64 m)/\w'.cell? ⟨rb,3,none⟩=some (.int .i64 k)/\w'.cell? ⟨rb,4,none⟩=some (.int .i64 n)/\w'.cell? ⟨rb,5,none⟩=some (.int .i64 f))/\Ext wr w')
        ((refine Vy r1 r2 r3 r4 r5 ?_;(repeat (first|with_reducible exact lI _|with_reducible assumption|with_reducible refine lJ ?_|with_reducible refine lK ?_ _|with_reducible (apply lY;assumption)));done))
        (first|(go_at_call 126;refine(HLj.o _ (lJ HX.o)).mono ?_;rintro e w2 ⟨rfl,hx2⟩))
       rename_i hh
       have HX2:Hd (Ext w w2):=HX.o.trans hh.2;clear hh hx2;go_wp2_with fail
       go_quiet (fail)
       go_wp2;go_ret;exact⟨by rw [HCd2.o,if_neg HP.o,if_neg HN.o];rfl,HX2.o.drewN _⟩
      | some ix=>
       obtain⟨hix,hfind⟩:=zU hfi;have HH:Hd (yu ls ss kd m k n (f+(j:Int))=(ls[ix].s == ss && !ls[ix].r)):=by
        show yu ls ss kd m k n (f+(j:Int))=(ls[ix].s == ss && !ls[ix].r)
        unfold yu;rw [hfind]
       obtain⟨g,cap,hlv⟩:∃g cap,lv=.slice (some ⟨g,0,none⟩) ls.length cap:=by
        rcases LeasesAt.form HLr.o with⟨_,e⟩|⟨g,cap,e,_⟩
        ·rw [e] at hix;simp at hix
        ·exact⟨g,cap,e⟩
       have hlr:=HLr.o;rw [hlv] at hlr;obtain⟨l0,_,_,_,_,_,_,_,l8⟩:=LeasesAt.cells (hlr.ext HX.o) ix hix;rw [hfi,hlv] at HLj;unfold qB at HLj;clear hfi hfind hlr hlv;generalize ls[ix].s=sx at *;generalize ls[ix].r=rx at *;go_wp2_with fail
       go_region_held3 (fun w'=>(w'.cell? ⟨rb,1,none⟩=some (.int .i64 kd)/\w'.cell? ⟨rb,2,none⟩=some (.int .i64 m)/\w'.cell? ⟨rb,3,none⟩=some (.int .i64 k)/\w'.cell? ⟨rb,4,none⟩=some (.int .i64 n)/\w'.cell? ⟨rb,5,none⟩=some (.int .i64 f))/\Ext wr w')
        ((refine Vy r1 r2 r3 r4 r5 ?_;(repeat (first|with_reducible exact lI _|with_reducible assumption|with_reducible refine lJ ?_|with_reducible refine lK ?_ _|with_reducible (apply lY;assumption)));done))
        (first|(go_at_call 126;refine(HLj.o _ (lJ HX.o)).mono ?_;rintro e w2 ⟨rfl,hx2⟩))
       rename_i hh
       have HX2:Hd (Ext w w2):=HX.o.trans hh.2;have l0:=hh.2.cell l0;have l8:=hh.2.cell l8;have r0:=hh.2.cell r0;clear hh hx2;by_cases hgood:sx=ss/\rx=false
       ·obtain⟨rfl,rfl⟩:=hgood;have HAl2:Hd (∀i:Nat,i<j+1->yu ls sx kd m k n (f+i)=true):=fun i hi=>by
         by_cases e:i=j
         ·subst e;rw [HH.o];simp
         ·exact HAl.o i (by omega)
        go_wp2_with fail
        go_quiet (fail)
        go_wp2
        go_roundw
        case rel=>exact⟨j+1,by omega,by go_num,HAl2.o,HX2.o.drewN _⟩
        case measure=>simp [intOf];omega
       ·have HN:Hd (¬∀i:Nat,i<cn->yu ls ss kd m k n (f+i)=true):=fun hall=>by
         have h1:=hall j hlt;rw [HH.o] at h1;apply hgood;simpa using h1
        by_cases hs:sx=ss
        ·subst hs;have hr:rx=true:=by
          cases rx
          ·exact absurd ⟨rfl,rfl⟩ hgood
          ·rfl
         subst hr;clear hgood HH;go_wp2_with fail
         go_quiet (fail)
         go_wp2;go_ret;exact⟨by rw [HCd2.o,if_neg HP.o,if_neg HN.o];rfl,HX2.o.drewN _⟩
        ·clear hgood HH;go_wp2_with fail
         go_quiet (fail)
         go_wp2;go_ret;exact⟨by rw [HCd2.o,if_neg HP.o,if_neg HN.o];rfl,HX2.o.drewN _⟩
     ·obtain rfl:j=cn:=by omega
      go_wp2;go_ret;exact⟨by rw [HCd2.o,if_neg HP.o,if_pos HAl.o];rfl,HX.o⟩
end
end
end Go.Proofs.YtmnjhhachdlmkaaGreat
