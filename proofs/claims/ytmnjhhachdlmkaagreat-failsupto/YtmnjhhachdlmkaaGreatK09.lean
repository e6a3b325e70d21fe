import Derived.Test.YtmnjhhachdlmkaaGreatK08
namespace Go.Proofs.YtmnjhhachdlmkaaGreat
set_option linter.all false
set_option maxRecDepth 100000
set_option maxHeartbeats 1600000
open Tryz
open Ext renaming refl -> lI, grown -> rG, drew -> lJ, alloc -> lK
open Nat renaming le_refl -> lO, le_trans -> rH, lt_of_lt_of_le -> rA, zero_le -> lT
open World renaming alloc -> lP, ownsRow -> lR, ownsRow_nil -> rB
open Turn renaming of_ext -> lM
open StkR renaming abs -> lL
open List renaming getElem_mem -> lV, take_of_length_le -> rM, length_eq_zero_iff -> sO
open IntKind renaming wrap_i64 -> rP
open Int renaming natCast_mul -> rQ
open Go.RowKit Go.Maps
open World renaming block_lt_of_cell? -> lG
open Value renaming ownBlock -> lH
section
def zN (kk s i kd m k n f c p:Int):Value:=.agg #[.int .i64 kk,.int .i64 s,.int .i64 i,.int .i64 kd,.int .i64 m,.int .i64 k,.int .i64 n,.int .i64 f,.int .i64 c,.int .i64 p]
theorem xp (B:Nat)(w:World) :
  Calls Tryz.prog 54 #[.pointer (some ⟨B,0,none⟩),.nilIface,.int .i64 1] w fun e w'=>e=.returned (zr 1 0 0 (.slice none 0 0))/\Ext w w':=by
 unfold zr;go_enter func54,ntmps54;go_wp2;have hr2:(w.alloc (.cells #[.int .i64 0,.int .i64 0,.int .i64 0,.slice none 0 0] 33)).heap[w.heap.size]?=some (.cells #[.int .i64 0,.int .i64 0,.int .i64 0,.slice none 0 0] 33 (0,0)):=heap_alloc_new _ _;have o0:=zc hr2 (i:=0) rfl;have o1:=zc hr2 (i:=1) rfl;have o2:=zc hr2 (i:=2) rfl;have o3:=zc hr2 (i:=3) rfl;refine bodyPost_ret (v:=.agg #[.int .i64 1,.int .i64 0,.int .i64 0,.slice none 0 0]) (by simp [results,results54,go_sem]) rfl ⟨rfl,?_⟩
 first
  | exact Z9 ((lI w).alloc _) (lO _) _ _ _ _
  | exact(lI w).alloc _
theorem KK {F:Nat->Prop}{n0:Nat}{Pp:World->World->Int->Int->Int->Value->Prop}(hok:AnsOk F n0 Pp)(B:Nat)(tt:TypeId)(Q:World->Nat->Prop)(kk s i kd m k n f c p:Int)(w:World)(hn0:n0<=w.heap.size)
  (hck:∀w',Ext w w'->Calls Tryz.prog 55 #[.agg #[.int .i64 kk,.int .i64 s,.int .i64 i,.int .i64 kd,.int .i64 m,.int .i64 k,.int .i64 n,.int .i64 f,.int .i64 c,.int .i64 p]] w' fun e w''=>∃rb,e=.returned (.tuple #[.iface tt (.pointer (some ⟨rb,0,none⟩)),.int .i64 0])/\w'.heap.size<=rb/\Q w'' rb/\Ext w' w'')
  (hin:∀w' rb,Ext w w'->w.heap.size<=rb->Q w' rb->zA 54 #[.pointer (some ⟨B,0,none⟩),.iface tt (.pointer (some ⟨rb,0,none⟩)),.int .i64 0] w' Pp) :
  zA 20 #[.pointer (some ⟨B,0,none⟩),zN kk s i kd m k n f c p] w Pp:=by
 unfold zA at *;have HOk:=hid hok;have HC:=hid hck;have HIn:=hid hin;clear hok hck hin;unfold zr at HIn ⊢;unfold zN;go_enter func20,ntmps20;go_wp2_with fail
 have hres0:((w.alloc (.cells #[.int .i64 kk,.int .i64 s,.int .i64 i,.int .i64 kd,.int .i64 m,.int .i64 k,.int .i64 n,.int .i64 f,.int .i64 c,.int .i64 p] 51)).alloc (.cells #[.int .i64 0,.int .i64 0,.int .i64 0,.slice none 0 0] 33)).heap[w.heap.size+1]?=some (.cells #[.int .i64 0,.int .i64 0,.int .i64 0,.slice none 0 0] 33 (0,0)):=zm (by simp);have hXW:Ext w ((w.alloc (.cells #[.int .i64 kk,.int .i64 s,.int .i64 i,.int .i64 kd,.int .i64 m,.int .i64 k,.int .i64 n,.int .i64 f,.int .i64 c,.int .i64 p] 51)).alloc (.cells #[.int .i64 0,.int .i64 0,.int .i64 0,.slice none 0 0] 33)):=((lI w).alloc _).alloc _;generalize lP (lP w _) _=W at hres0 hXW ⊢;refine(HC.o W hXW).mono ?_;rintro e w1 ⟨rb,rfl,hrb,hq,hx1⟩;have hres1:=hx1.block hres0;have hl1:=(Array.getElem?_eq_some_iff.1 hres1).1;have HX1:Hd (Ext w w1):=hXW.trans hx1;have HQ:=hid hq;have hrb2:w.heap.size<=rb:=rH hXW.le hrb;have HRS:Hd _:=hres1;clear hx1 hXW hq hres0 hres1 hrb;go_wp2_with fail
 refine(HIn.o _ rb HX1.o hrb2 HQ.o).mono ?_;rintro e w2 ⟨cc,cf,cn,va,vl,vc,rfl,hl2⟩;have HL2:Hd _:=hl2;have q3:=HOk.o.turn _ _ _ _ _ _ hl2;have hr2:w2.heap[w.heap.size+1]?=some (.cells #[.int .i64 0,.int .i64 0,.int .i64 0,.slice none 0 0] 33 (0,0)):=q3.ref HRS.o (fun e=>by have:=HOk.o.lt _ e;omega);have o0:=zc hr2 (i:=0) rfl;have o1:=zc hr2 (i:=1) rfl;have o2:=zc hr2 (i:=2) rfl;have o3:=zc hr2 (i:=3) rfl;have f0:=ze hr2 0;have f1:=ze hr2 1;have f2:=ze hr2 2;have f3:=ze hr2 3;clear q3 hr2 hl2;go_wp2;refine bodyPost_ret (v:=.agg #[.int .i64 cc,.int .i64 cf,.int .i64 cn,.slice va vl vc]) (by simp [results,results20,go_sem,o0,o1,o2,o3]) rfl ⟨cc,cf,cn,va,vl,vc,rfl,?_⟩;exact HOk.o.step _ _ _ _ (w.heap.size+1) _ _ _ _ hn0 HX1.o HL2.o (yr (lI _) _ _ _ _) (by omega) hl1
theorem kg (B:Nat)(kk s i kd m k n f c p:Int)(w:World)
  (hck:∀w',Ext w w'->Calls Tryz.prog 55 #[.agg #[.int .i64 kk,.int .i64 s,.int .i64 i,.int .i64 kd,.int .i64 m,.int .i64 k,.int .i64 n,.int .i64 f,.int .i64 c,.int .i64 p]] w' fun e w''=>e=.returned (.tuple #[.nilIface,.int .i64 1])/\Ext w' w'') :
  Calls Tryz.prog 20 #[.pointer (some ⟨B,0,none⟩),zN kk s i kd m k n f c p] w fun e w'=>e=.returned (zr 1 0 0 (.slice none 0 0))/\Ext w w':=by
 have HC:=hid hck;have HD:Hd (∀w',_):=fun w'=>xp B w'
 clear hck;unfold zr at HD ⊢;unfold zN;go_enter func20,ntmps20;go_wp2_with fail
 have hres0:((w.alloc (.cells #[.int .i64 kk,.int .i64 s,.int .i64 i,.int .i64 kd,.int .i64 m,.int .i64 k,.int .i64 n,.int .i64 f,.int .i64 c,.int .i64 p] 51)).alloc (.cells #[.int .i64 0,.int .i64 0,.int .i64 0,.slice none 0 0] 33)).heap[w.heap.size+1]?=some (.cells #[.int .i64 0,.int .i64 0,.int .i64 0,.slice none 0 0] 33 (0,0)):=zm (by simp);have hXW:Ext w ((w.alloc (.cells #[.int .i64 kk,.int .i64 s,.int .i64 i,.int .i64 kd,.int .i64 m,.int .i64 k,.int .i64 n,.int .i64 f,.int .i64 c,.int .i64 p] 51)).alloc (.cells #[.int .i64 0,.int .i64 0,.int .i64 0,.slice none 0 0] 33)):=((lI w).alloc _).alloc _;generalize lP (lP w _) _=W at hres0 hXW ⊢;refine(HC.o W hXW).mono ?_;rintro e w1 ⟨rfl,hx1⟩;have HX1:Hd (Ext w w1):=hXW.trans hx1;have HRS:Hd _:=hx1.block hres0;clear hx1 hXW hres0;go_wp2_with fail
 refine(HD.o _).mono ?_;rintro e w2 ⟨rfl,hx2⟩;have hr2:=hx2.block HRS.o;have o0:=zc hr2 (i:=0) rfl;have o1:=zc hr2 (i:=1) rfl;have o2:=zc hr2 (i:=2) rfl;have o3:=zc hr2 (i:=3) rfl;have f0:=ze hr2 0;have f1:=ze hr2 1;have f2:=ze hr2 2;have f3:=ze hr2 3;have HX2:Hd (Ext w w2):=HX1.o.trans hx2;clear hr2 hx2;go_wp2;refine bodyPost_ret (v:=.agg #[.int .i64 1,.int .i64 0,.int .i64 0,.slice none 0 0]) (by simp [results,results20,go_sem,o0,o1,o2,o3]) rfl ⟨rfl,?_⟩;exact Z9 HX2.o (by omega) _ _ _ _
end
section
def yc (c0 f0 n0:Int)(w w':World)(c f n:Int)(v:Value):Prop:=c=c0/\f=f0/\n=n0/\v=.slice none 0 0/\Ext w w'
def vd (f0 n0:Int)(zs:List Int)(w w':World)(c f n:Int)(v:Value):Prop:=c=0/\f=f0/\n=n0/\w'.ownsRow w.heap.size 146 1 v zs.length (zs.map (Value.int .u64))/\Ext w w'
def xT (B:Nat)(F:Nat->Prop)(R':List StkR)(ls':List LsV)(ops':List OpV)(fl':Bool)(ah':Int)(kn':Bool)(c0 f0 n0:Int)(w w':World)(c f n:Int)(v:Value):Prop:=c=c0/\f=f0/\n=n0/\v=.slice none 0 0/\DoPost w w' B F R' ls' ops' fl' ah' kn'
theorem YB {F:Nat->Prop}{n0:Nat}(hlt:∀b,F b->b<n0)(c0 f0 m0:Int):AnsOk F n0 (yc c0 f0 m0) where
 lt:=hlt
 turn:=fun w1 w2 c f n v h=>lM h.2.2.2.2
 step:=fun w w1 w2 w3 g c f n v _ hx h ht hg _=>⟨h.1,h.2.1,h.2.2.1,h.2.2.2.1,Turn.ext ((lM (S:=fun _=>False) (hx.trans h.2.2.2.2)).trans' ht (fun b hb e=>by omega))⟩
theorem ka {F:Nat->Prop}{n0:Nat}(hlt:∀b,F b->b<n0)(f0 m0:Int)(zs:List Int):AnsOk F n0 (vd f0 m0 zs) where
 lt:=hlt
 turn:=fun w1 w2 c f n v h=>lM h.2.2.2.2
 step:=fun w w1 w2 w3 g c f n v _ hx h ht hg hg1=>⟨h.1,h.2.1,h.2.2.1,zv (ht.owns h.2.2.2.1 (fun b hb e=>by have:=(lR.lt h.2.2.2.1 b hb).1;omega)) hx.le,Turn.ext ((lM (S:=fun _=>False) (hx.trans h.2.2.2.2)).trans' ht (fun b hb e=>by omega))⟩
theorem Vg {B:Nat}{F:Nat->Prop}{ops':List OpV}{fl':Bool}{ah':Int}{kn':Bool}{n0:Nat}(hlt:∀b,F b->b<n0)(R':List StkR)(ls':List LsV)(c0 f0 m0:Int):AnsOk F n0 (xT B F R' ls' ops' fl' ah' kn' c0 f0 m0) where
 lt:=hlt
 turn:=fun w1 w2 c f n v h=>by obtain⟨_,_,_,_,_,_,_,_,ht⟩:=h;exact ht
 step:=fun w w1 w2 w3 g c f n v hn hx h ht hg hg1=>⟨h.1,h.2.1,h.2.2.1,h.2.2.2.1,h.2.2.2.2.step hx ht (fun b hb=>rA (hlt b hb) hn) hg hg1⟩
theorem Yf {f:FuncId}{args:Array Value}{w:World}{c0 f0 n0:Int}(h:Calls Tryz.prog f args w fun e w'=>e=.returned (zr c0 f0 n0 (.slice none 0 0))/\Ext w w'):zA f args w (yc c0 f0 n0):=
 h.mono fun _ _ ⟨h1,h2⟩=>⟨c0,f0,n0,none,0,0,h1,rfl,rfl,rfl,rfl,h2⟩
theorem Ve {B:Nat}{F:Nat->Prop}{ops':List OpV}{fl':Bool}{ah':Int}{kn':Bool}{f:FuncId}{args:Array Value}{w:World}{c0 f0 n0:Int}{R':List StkR}{ls':List LsV}(h:Calls Tryz.prog f args w fun e w'=>e=.returned (zr c0 f0 n0 (.slice none 0 0))/\DoPost w w' B F R' ls' ops' fl' ah' kn'):zA f args w (xT B F R' ls' ops' fl' ah' kn' c0 f0 n0):=
 h.mono fun _ _ ⟨h1,h2⟩=>⟨c0,f0,n0,none,0,0,h1,rfl,rfl,rfl,rfl,h2⟩
theorem uH {F:Nat->Prop}:∀w w1 w2 w3 g,(∀b,F b->b<w.heap.size)->Ext w w1->Ext w1 w2->Turn (fun q=>q=g) w2 w3->w.heap.size<=g->g<w1.heap.size->Ext w w3:=fun w w1 w2 w3 g _ hx h ht hg _=>
 Turn.ext ((lM (S:=fun _=>False) (hx.trans h)).trans' ht (fun b hb e=>by omega))
structure AskAns (B:Nat)(tt:TypeId)(Q:World->Nat->Prop)(req:Value)(w:World)(Pp:World->World->Int->Int->Int->Value->Prop):Prop where
 ask:zA 20 #[.pointer (some ⟨B,0,none⟩),req] w Pp
 ans:∀w1 rb,Ext w w1->w.heap.size<=rb->Q w1 rb->zA 54 #[.pointer (some ⟨B,0,none⟩),.iface tt (.pointer (some ⟨rb,0,none⟩)),.int .i64 0] w1 Pp
theorem qA {F:Nat->Prop}{n0:Nat}{Pp:World->World->Int->Int->Int->Value->Prop}(hok:AnsOk F n0 Pp)(B:Nat)(tt:TypeId)(Q:World->Nat->Prop)(kk s i kd m k n f c p:Int)(w:World)(hn0:n0<=w.heap.size)
  (hck:∀w',Ext w w'->Calls Tryz.prog 55 #[.agg #[.int .i64 kk,.int .i64 s,.int .i64 i,.int .i64 kd,.int .i64 m,.int .i64 k,.int .i64 n,.int .i64 f,.int .i64 c,.int .i64 p]] w' fun e w''=>∃rb,e=.returned (.tuple #[.iface tt (.pointer (some ⟨rb,0,none⟩)),.int .i64 0])/\w'.heap.size<=rb/\Q w'' rb/\Ext w' w'')
  (hin:∀w' rb,Ext w w'->w.heap.size<=rb->Q w' rb->zA 54 #[.pointer (some ⟨B,0,none⟩),.iface tt (.pointer (some ⟨rb,0,none⟩)),.int .i64 0] w' Pp) :
  AskAns B tt Q (zN kk s i kd m k n f c p) w Pp:=⟨KK hok B tt Q kk s i kd m k n f c p w hn0 hck hin,hin⟩
section
variable {B:Nat}{F:Nat->Prop}{sv lv dv:Value}{R:List StkR}{ls:List LsV}{ops:List OpV}{fl:Bool}{ah:Int}{kn:Bool}
structure Small (R:List StkR)(ls:List LsV):Prop where
 stocks:R.length<=100
 leases:ls.length<=900
 made:∀x∈R,x.ts.length<=1000/\x.leased<=900
 fc:∀l∈ls,0<=l.f/\l.f<=1000/\0<=l.c/\l.c<=1000
 ok:∀x∈R,StkOk x.abs
 lok:∀l∈ls,xH l
theorem Xq (s i kd m k n c:Int)(ix:Nat)(hsm:Small R ls)(hix:ix<ls.length)(hf:ls.findIdx? (zE s i)=some ix)(vals:Nat->Int)(hv:vals 0=s/\vals 1=i/\vals 2=kd/\vals 3=m/\vals 4=k/\vals 5=n/\vals 6=c)(hfit:ZD vals leaseL=true)(w:World)(h:StoreOf w B F sv lv dv R ls ops fl ah kn) :
  AskAns B 201 (fun W rb=>Zh W rb s i kd m k n c) (zN 1 s i kd m k n 0 c 0) w (if Z6 ls[ix] kd m k n c then yc 0 ls[ix].f ls[ix].c else yc 6 0 0):=by
 have hok:AnsOk F w.heap.size (if Z6 ls[ix] kd m k n c then yc 0 ls[ix].f ls[ix].c else yc 6 0 0):=by
  split
  ·exact YB h.lt _ _ _
  ·exact YB h.lt _ _ _
 obtain⟨g,cap,rfl⟩:∃g cap,lv=.slice (some ⟨g,0,none⟩) ls.length cap:=by
  rcases LeasesAt.form h.lrow with⟨_,e⟩|⟨g,cap,e,_⟩
  ·rw [e] at hix;simp at hix
  ·exact⟨g,cap,e⟩
 refine qA hok B 201 (fun W rb=>Zh W rb s i kd m k n c) 1 s i kd m k n 0 c 0 w (lO _) (fun w' hx=>?_) (fun w' rb hx hrb hq=>?_)
 ·refine(Xv s i kd m k n c vals hv w').mono ?_;rintro e w'' (⟨_,b,he,hlb,hb,hx'⟩|⟨hn,_⟩)
  ·exact⟨b,he,hlb,hb,hx'⟩
  ·rw [hfit] at hn;cases hn
 ·refine Qa hok B rb w' hx.le (fun w1 hx1=>Qd hok B rb w1 (rH hx.le hx1.le) (fun w2 hx2=>?_));have hx3:=hx.trans (hx1.trans hx2);have hr3:Zh w2 rb s i kd m k n c:=(hx1.trans hx2).block hq;refine Q4 hok B rb s i kd m k n c w2 hx3.le hr3 ⟨g,ix*9,none⟩ (fun w' hx'=>?_) (fun w' hx'=>?_)
  ·have:=Y9 B ls s i sv _ dv fl ah kn w' (h.deal.ext (hx3.trans hx')) (h.lrow.ext (hx3.trans hx')) (by have:=hsm.leases;omega)
   rwa [hf] at this
  ·have hlr:=h.lrow.ext (hx3.trans hx');have hne:g≠rb:=fun e=>by
    have:=zx h.lrow (g:=g) rfl;omega
   have:=Xz g (ix*9) rb ls[ix] s i kd m k n c w' (hx'.block hr3) hne (LeasesAt.cells hlr ix hix);split
   ·rename_i hb
    rw [hb] at this;exact Yf this
   ·rename_i hb
    rw [Bool.not_eq_true] at hb;rw [hb] at this;exact Yf this
end
end
section
section
variable {B:Nat}{F:Nat->Prop}{sv lv dv:Value}{R:List StkR}{ls:List LsV}{ops:List OpV}{fl:Bool}{ah:Int}{kn:Bool}
theorem Qr {Pp:World->World->Int->Int->Int->Value->Prop}(s i kd m k n c:Int)(vals:Nat->Int)(hv:vals 0=s/\vals 1=i/\vals 2=kd/\vals 3=m/\vals 4=k/\vals 5=n/\vals 6=c)(hfit:ZD vals leaseL=true)(w:World)(hok:AnsOk F w.heap.size Pp)
  (hin:∀w' rb,Ext w w'->w.heap.size<=rb->Zh w' rb s i kd m k n c->zA 119 #[.pointer (some ⟨B,0,none⟩),.pointer (some ⟨rb,0,none⟩)] w' Pp) :
  AskAns B 201 (fun W rb=>Zh W rb s i kd m k n c) (zN 1 s i kd m k n 0 c 0) w Pp:=by
 refine qA hok B 201 (fun W rb=>Zh W rb s i kd m k n c) 1 s i kd m k n 0 c 0 w (lO _) (fun w' hx=>?_) (fun w' rb hx hrb hq=>?_)
 ·refine(Xv s i kd m k n c vals hv w').mono ?_;rintro e w'' (⟨_,b,he,hlb,hb,hx'⟩|⟨hn,_⟩)
  ·exact⟨b,he,hlb,hb,hx'⟩
  ·rw [hfit] at hn;cases hn
 ·exact Qa hok B rb w' hx.le (fun w1 hx1=>Qd hok B rb w1 (rH hx.le hx1.le) (fun w2 hx2=>hin w2 rb (hx.trans (hx1.trans hx2)) hrb ((hx1.trans hx2).block hq)))
theorem qL {Pp:World->World->Int->Int->Int->Value->Prop}(s i:Int)(vals:Nat->Int)(hv:vals 0=s/\vals 1=i)(hfit:ZD vals releaseL=true)(w:World)(hok:AnsOk F w.heap.size Pp)
  (hin:∀w' rb,Ext w w'->w.heap.size<=rb->Zf w' rb s i->zA 121 #[.pointer (some ⟨B,0,none⟩),.pointer (some ⟨rb,0,none⟩)] w' Pp) :
  AskAns B 205 (fun W rb=>Zf W rb s i) (zN 3 s i 0 0 0 0 0 0 0) w Pp:=by
 refine qA hok B 205 (fun W rb=>Zf W rb s i) 3 s i 0 0 0 0 0 0 0 w (lO _) (fun w' hx=>?_) (fun w' rb hx hrb hq=>?_)
 ·refine(uu s i vals hv w').mono ?_;rintro e w'' (⟨_,b,he,hlb,hb,hx'⟩|⟨hn,_⟩)
  ·exact⟨b,he,hlb,hb,hx'⟩
  ·rw [hfit] at hn;cases hn
 ·exact xI hok B rb w' hx.le (fun w1 hx1=>xO hok B rb w1 (rH hx.le hx1.le) (fun w2 hx2=>hin w2 rb (hx.trans (hx1.trans hx2)) hrb ((hx1.trans hx2).block hq)))
theorem vA {Pp:World->World->Int->Int->Int->Value->Prop}(kd m k n:Int)(vals:Nat->Int)(hv:vals 0=kd/\vals 1=m/\vals 2=k/\vals 3=n)(hfit:ZD vals statusL=true)(w:World)(hok:AnsOk F w.heap.size Pp)
  (hin:∀w' rb,Ext w w'->w.heap.size<=rb->yE w' rb kd m k n->zA 122 #[.pointer (some ⟨B,0,none⟩),.pointer (some ⟨rb,0,none⟩)] w' Pp) :
  AskAns B 207 (fun W rb=>yE W rb kd m k n) (zN 4 0 0 kd m k n 0 0 0) w Pp:=by
 refine qA hok B 207 (fun W rb=>yE W rb kd m k n) 4 0 0 kd m k n 0 0 0 w (lO _) (fun w' hx=>?_) (fun w' rb hx hrb hq=>?_)
 ·refine(uP kd m k n vals hv w').mono ?_;rintro e w'' (⟨_,b,he,hlb,hb,hx'⟩|⟨hn,_⟩)
  ·exact⟨b,he,hlb,hb,hx'⟩
  ·rw [hfit] at hn;cases hn
 ·exact Xi hok B rb w' hx.le (fun w1 hx1=>XO hok B rb w1 (rH hx.le hx1.le) (fun w2 hx2=>hin w2 rb (hx.trans (hx1.trans hx2)) hrb ((hx1.trans hx2).block hq)))
theorem QM {Pp:World->World->Int->Int->Int->Value->Prop}(s kd m k n f c p:Int)(vals:Nat->Int)(hv:vals 0=s/\vals 1=kd/\vals 2=m/\vals 3=k/\vals 4=n/\vals 5=f/\vals 6=c/\vals 7=p)(hfit:ZD vals fetchL=true)(w:World)(hok:AnsOk F w.heap.size Pp)
  (hin:∀w' rb,Ext w w'->w.heap.size<=rb->yi w' rb s kd m k n f c p->zA 120 #[.pointer (some ⟨B,0,none⟩),.pointer (some ⟨rb,0,none⟩)] w' Pp) :
  AskAns B 203 (fun W rb=>yi W rb s kd m k n f c p) (zN 2 s 0 kd m k n f c p) w Pp:=by
 refine qA hok B 203 (fun W rb=>yi W rb s kd m k n f c p) 2 s 0 kd m k n f c p w (lO _) (fun w' hx=>?_) (fun w' rb hx hrb hq=>?_)
 ·refine(uj s kd m k n f c p vals hv w').mono ?_;rintro e w'' (⟨_,b,he,hlb,hb,hx'⟩|⟨hn,_⟩)
  ·exact⟨b,he,hlb,hb,hx'⟩
  ·rw [hfit] at hn;cases hn
 ·exact vk hok B rb w' hx.le (fun w1 hx1=>vg hok B rb w1 (rH hx.le hx1.le) (fun w2 hx2=>hin w2 rb (hx.trans (hx1.trans hx2)) hrb ((hx1.trans hx2).block hq)))
theorem V4 (s i kd m k n c:Int)(hsm:Small R ls)(hf:ls.findIdx? (zE s i)=none)(hcd:ZH R ls kd m k n c≠0)(vals:Nat->Int)(hv:vals 0=s/\vals 1=i/\vals 2=kd/\vals 3=m/\vals 4=k/\vals 5=n/\vals 6=c)(hfit:ZD vals leaseL=true)(w:World)(h:StoreOf w B F sv lv dv R ls ops fl ah kn) :
  AskAns B 201 (fun W rb=>Zh W rb s i kd m k n c) (zN 1 s i kd m k n 0 c 0) w (yc (ZH R ls kd m k n c) 0 0):=by
 have hok:AnsOk F w.heap.size (yc (ZH R ls kd m k n c) 0 0):=YB h.lt _ _ _;refine Qr s i kd m k n c vals hv hfit w hok (fun w2 rb hx hrb hr=>?_);refine Y2 hok B rb s i kd m k n c w2 hx.le hr (fun e=>by have:=h.lt _ e;omega) (fun w' hx'=>?_) (fun w' hx'=>?_)
 ·have:=Y9 B ls s i sv lv dv fl ah kn w' (h.deal.ext (hx.trans hx')) (h.lrow.ext (hx.trans hx')) (by have:=hsm.leases;omega)
  rwa [hf] at this
 ·exact Yf (YQ (F:=F) (Q:=Ext) (fun _ _ h=>lM h) uH _ rfl _ s i hcd w' (h.ext (hx.trans hx')).lt (fun w3 hx3=>Ug rb kd m k n s i c hsm.stocks (by have:=hsm.leases;omega) (fun x hx=>by have:=hsm.made x hx;omega) hf hcd w3 (h.ext (hx.trans (hx'.trans hx3))) ((hx'.trans hx3).block hr)))
def Xj (B:Nat)(F:Nat->Prop)(R:List StkR)(ls:List LsV)(ops:List OpV)(fl:Bool)(ah:Int)(kn:Bool)(rec:ByteArray)(R':List StkR)(ls':List LsV)(f0 n0:Int):World->World->Int->Int->Int->Value->Prop:=
 if Zg fl ah (ZA kn (R.map lL) ls rec).length then xT B F R' ls' (ops++ZM fl ah (ZA kn (R.map lL) ls rec)) (ZZ fl ah (ZA kn (R.map lL) ls rec).length) (ye fl ah (ZA kn (R.map lL) ls rec).length) true 0 f0 n0
 else xT B F R ls (ops++ZM fl ah (ZA kn (R.map lL) ls rec)) (ZZ fl ah (ZA kn (R.map lL) ls rec).length) (ye fl ah (ZA kn (R.map lL) ls rec).length) false 10 0 0
theorem J4 {n0:Nat}(hlt:∀b,F b->b<n0)(rec:ByteArray)(R':List StkR)(ls':List LsV)(f0 m0:Int):AnsOk F n0 (Xj B F R ls ops fl ah kn rec R' ls' f0 m0):=by
 unfold Xj;split
 ·exact Vg hlt _ _ _ _ _
 ·exact Vg hlt _ _ _ _ _
theorem xB (cv:Value)(hcv:cv.oneCell'=true)(ss ii:Int)(rec:ByteArray)(R':List StkR)(ls':List LsV)(ix:Nat)(hix:ix<ls'.length)(hn:ls'.findIdx? (zE ss ii)=some ix)(hls:ls'.length<=1000)(w:World)(h:StoreOf w B F sv lv dv R ls ops fl ah kn)
  (hdo:∀w',Ext w w'->Calls Tryz.prog 98 #[.pointer (some ⟨B,0,none⟩),cv] w' fun e w''=>QJ kn fl ah (R.map lL) ls rec e fun ok fl' ah' new=>DoPost w' w'' B F (if ok then R' else R) (if ok then ls' else ls) (ops++new) fl' ah' ok) :
  zA 167 #[.pointer (some ⟨B,0,none⟩),cv,.int .i64 ss,.int .i64 ii] w (Xj B F R ls ops fl ah kn rec R' ls' ls'[ix].f ls'[ix].c):=by
 unfold QJ at hdo;unfold Xj;generalize ZA kn (R.map lL) ls rec=full at *;cases hok:Zg fl ah full.length with
 | true=>
  rw [hok] at hdo;rw [if_pos rfl];exact Ve (XW cv hcv ss ii R' ls' ix hix hn hls w h hdo)
 | false=>
  rw [hok] at hdo;rw [if_neg (by decide)];exact Ve (YQ (F:=F) (Q:=fun w1 w2=>DoPost w1 w2 B F R ls (ops++ZM fl ah full) (ZZ fl ah full.length) (ye fl ah full.length) false) (fun _ _ h=>by obtain⟨_,_,_,_,ht⟩:=h;exact ht) (fun w w1 w2 w3 g hF hx h ht hg0 hg1=>h.step hx ht hF hg0 hg1) cv hcv 10 ss ii (by decide) w h.lt hdo)
theorem jc (s i kd m k n c ix:Nat)(hsm:Small R ls)(hops:ops.length<=1000000)(hah:yv fl ah)(hf:ls.findIdx? (zE s i)=none)(hcd:ZH R ls kd m k n c=0)(hix:ix<R.length)(hfx:R.find? (fun x=>x.is kd m k n)=some R[ix])(hs:s<=2147483647)(hi:i<=2147483647)(hk:kd<=255/\m<=255/\k<=255/\n<=255)(hc:c<=100)(w:World)(h:StoreOf w B F sv lv dv R ls ops fl ah kn) :
  AskAns B 201 (fun W rb=>Zh W rb s i kd m k n c) (zN 1 s i kd m k n 0 c 0) w (Xj B F R ls ops fl ah kn (Z0 s i kd m k n c) (R.set ix (R[ix].lend c)) (ls++[⟨s,i,kd,m,k,n,R[ix].leased,c,false⟩]) R[ix].leased c):=by
 have hok:AnsOk F w.heap.size (Xj B F R ls ops fl ah kn (Z0 s i kd m k n c) (R.set ix (R[ix].lend c)) (ls++[⟨s,i,kd,m,k,n,R[ix].leased,c,false⟩]) R[ix].leased c):=J4 h.lt _ _ _ _ _;have hfit:ZD (fun j=>(yC s i kd m k n c j:Int)) leaseL=true:=by simp [ZD,leaseL,yC];omega
 refine Qr s i kd m k n c (fun j=>(yC s i kd m k n c j:Int)) ⟨rfl,rfl,rfl,rfl,rfl,rfl,rfl⟩ hfit w hok (fun w2 rb hx hrb hr=>?_);refine Y2 hok B rb s i kd m k n c w2 hx.le hr (fun e=>by have:=h.lt _ e;omega) (fun w' hx'=>?_) (fun w' hx'=>?_)
 ·have:=Y9 B ls s i sv lv dv fl ah kn w' (h.deal.ext (hx.trans hx')) (h.lrow.ext (hx.trans hx')) (by have:=hsm.leases;omega)
  rwa [hf] at this
 ·have hn:(ls++[(⟨s,i,kd,m,k,n,R[ix].leased,c,false⟩:LsV)]).findIdx? (zE s i)=some ls.length:=by
   rw [List.findIdx?_append,hf];simp [zE]
  have hy:=xB (B:=B) (F:=F) (sv:=sv) (lv:=lv) (dv:=dv) (R:=R) (ls:=ls) (ops:=ops) (fl:=fl) (ah:=ah) (kn:=kn) (.iface 233 (.agg #[.pointer (some ⟨rb,0,none⟩)])) rfl s i (Z0 s i kd m k n c) (R.set ix (R[ix].lend c)) (ls++[⟨s,i,kd,m,k,n,R[ix].leased,c,false⟩]) ls.length (by simp) hn (by have:=hsm.leases;simp;omega) w' (h.ext (hx.trans hx')) (fun w3 hx3=>
   JN rb ix kd m k n s i c hs hi hk hc hsm.stocks hsm.leases hops hah hsm.ok hsm.lok (fun x hx=>by have:=hsm.made x hx;omega) hf hcd hix hfx w3 (h.ext (hx.trans (hx'.trans hx3))) ((hx'.trans hx3).block hr) (fun e=>by have:=h.lt _ e;omega))
  simp only [List.getElem_concat_length] at hy;exact hy
theorem X7 (s i:Int)(hsm:Small R ls)(hcd:zP ls s i≠0)(vals:Nat->Int)(hv:vals 0=s/\vals 1=i)(hfit:ZD vals releaseL=true)(w:World)(h:StoreOf w B F sv lv dv R ls ops fl ah kn) :
  AskAns B 205 (fun W rb=>Zf W rb s i) (zN 3 s i 0 0 0 0 0 0 0) w (yc (zP ls s i) 0 0):=by
 have hok:AnsOk F w.heap.size (yc (zP ls s i) 0 0):=YB h.lt _ _ _;refine qL s i vals hv hfit w hok (fun w2 rb hx hrb hr=>?_);refine qN hok B rb s i w2 hx.le hr (fun e=>by have:=h.lt _ e;omega) (fun w' hx'=>?_);exact Yf (YQ (F:=F) (Q:=Ext) (fun _ _ h=>lM h) uH _ rfl _ s i hcd w' (h.ext (hx.trans hx')).lt (fun w3 hx3=>vw rb s i (by have:=hsm.leases;omega) hcd w3 (h.ext (hx.trans (hx'.trans hx3))) ((hx'.trans hx3).block hr)))
theorem VJ (s i ix:Nat)(hsm:Small R ls)(hops:ops.length<=1000000)(hah:yv fl ah)(hcd:zP ls s i=0)(hix:ix<ls.length)(hf:ls.findIdx? (zE s i)=some ix)(hs:s<=2147483647)(hi:i<=2147483647)(w:World)(h:StoreOf w B F sv lv dv R ls ops fl ah kn) :
  AskAns B 205 (fun W rb=>Zf W rb s i) (zN 3 s i 0 0 0 0 0 0 0) w (Xj B F R ls ops fl ah kn (yT s i) R (ls.set ix ls[ix].free) ls[ix].f ls[ix].c):=by
 have hok:AnsOk F w.heap.size (Xj B F R ls ops fl ah kn (yT s i) R (ls.set ix ls[ix].free) ls[ix].f ls[ix].c):=J4 h.lt _ _ _ _ _;have hfit:ZD (fun j=>(Z4 s i j:Int)) releaseL=true:=by simp [ZD,releaseL,Z4];omega
 refine qL s i (fun j=>(Z4 s i j:Int)) ⟨rfl,rfl⟩ hfit w hok (fun w2 rb hx hrb hr=>?_);refine qN hok B rb s i w2 hx.le hr (fun e=>by have:=h.lt _ e;omega) (fun w' hx'=>?_);have hn:(ls.set ix ls[ix].free).findIdx? (zE s i)=some ix:=by obtain⟨_,h1,h2⟩:=List.findIdx?_eq_some_iff_getElem.1 hf;rw [List.findIdx?_eq_some_iff_getElem];refine⟨by simpa using hix,by simpa [zE,LsV.free] using h1,fun j hj=>?_⟩;have hj':=h2 j hj;rw [List.getElem_set_ne (by omega)];exact hj'
 have hy:=xB (B:=B) (F:=F) (sv:=sv) (lv:=lv) (dv:=dv) (R:=R) (ls:=ls) (ops:=ops) (fl:=fl) (ah:=ah) (kn:=kn) (.iface 235 (.agg #[.pointer (some ⟨rb,0,none⟩)])) rfl s i (yT s i) R (ls.set ix ls[ix].free) ix (by simpa using hix) hn (by have:=hsm.leases;simp;omega) w' (h.ext (hx.trans hx')) (fun w3 hx3=>by have:=Uq rb ix s i hs hi hsm.stocks hsm.leases hops hah hsm.ok hsm.lok hcd hix hf w3 (h.ext (hx.trans (hx'.trans hx3))) ((hx'.trans hx3).block hr) (fun e=>by have:=h.lt _ e;omega);simpa only [ite_self] using this)
 simp only [List.getElem_set_self] at hy;exact hy
theorem xr (kd m k n:Int)(hsm:Small R ls)(vals:Nat->Int)(hv:vals 0=kd/\vals 1=m/\vals 2=k/\vals 3=n)(hfit:ZD vals statusL=true)(w:World)(h:StoreOf w B F sv lv dv R ls ops fl ah kn) :
  AskAns B 207 (fun W rb=>yE W rb kd m k n) (zN 4 0 0 kd m k n 0 0 0) w (match R.find? (fun x=>x.is kd m k n) with|none=>yc 2 0 0|some x=>yc 0 x.leased x.ts.length):=by
 have hok:AnsOk F w.heap.size (match R.find? (fun x=>x.is kd m k n) with|none=>yc 2 0 0|some x=>yc 0 x.leased x.ts.length):=by
  split
  ·exact YB h.lt _ _ _
  ·exact YB h.lt _ _ _
 refine vA kd m k n vals hv hfit w hok (fun w2 rb hx hrb hr=>?_);have:=vt rb kd m k n hsm.stocks w2 (h.ext hx) hr;cases hf:R.find? (fun x=>x.is kd m k n) with
 | none=>
  rw [hf] at this;exact Yf this
 | some x=>
  rw [hf] at this;exact Yf this
theorem QP (s kd m k n f c p cd:Int)(hsm:Small R ls)(hcd:cd≠0)(hf0:0<=f)(hf1:f<=2147483647)(hcode:(R.find? (fun x=>x.is kd m k n)=none/\cd=2)\/((R.find? (fun x=>x.is kd m k n)).isSome/\cd=ZP ls s kd m k n f c p))(vals:Nat->Int)(hv:vals 0=s/\vals 1=kd/\vals 2=m/\vals 3=k/\vals 4=n/\vals 5=f/\vals 6=c/\vals 7=p)(hfit:ZD vals fetchL=true)(w:World)(h:StoreOf w B F sv lv dv R ls ops fl ah kn) :
  AskAns B 203 (fun W rb=>yi W rb s kd m k n f c p) (zN 2 s 0 kd m k n f c p) w (yc cd 0 0):=by
 have hok:AnsOk F w.heap.size (yc cd 0 0):=YB h.lt _ _ _;refine QM s kd m k n f c p vals hv hfit w hok (fun w2 rb hx hrb hr=>?_);refine Yf (Xe rb s kd m k n f c p cd hcd hsm.stocks w2 (h.ext hx) hr (fun w' hx'=>?_));rcases hcode with⟨hn,rfl⟩|⟨hs,rfl⟩
 ·rw [Zy,hn];exact(vG B rb w').mono fun e w'' ⟨h1,h2⟩=>⟨h1,h2▸lI _⟩
 ·obtain⟨x,hx0⟩:=Option.isSome_iff_exists.1 hs;rw [Zy,hx0];exact XR rb x.blk s kd m k n f c p hf0 hf1 (by have:=hsm.leases;omega) hsm.fc w' (h.ext (hx.trans hx')) (hx'.block hr)
theorem UA (f c L:Nat)(x:StkR)(s kd m k n p:Int)(hsm:Small R ls)(hp:p=0\/p=1)(hf1:f<=1000)(hc1:1<=c)(hc40:c<=40)(hfx:R.find? (fun x=>x.is kd m k n)=some x)(hL:L=x.sh.x+x.sh.y+x.sh.z)(hL1:1<=L)(hL2:L<=27)(hcode:ZP ls s kd m k n f c p=0)
  (hxk:∀i:Nat,i<c->∃h:f+i<x.ts.length,x.ts[f+i].2=true) (hlen:∀u∈x.ts,OkT x.sh u) (hlz:(ZX x.abs p f c).length=c*L) (vals:Nat->Int) (hv:vals 0=s/\vals 1=kd/\vals 2=m/\vals 3=k/\vals 4=n/\vals 5=f/\vals 6=c/\vals 7=p) (hfit:ZD vals fetchL=true) (w:World) (h:StoreOf w B F sv lv dv R ls ops fl ah kn) :
  AskAns B 203 (fun W rb=>yi W rb s kd m k n f c p) (zN 2 s 0 kd m k n f c p) w (vd f c (ZX x.abs p f c)):=by
 have hok:AnsOk F w.heap.size (vd f c (ZX x.abs p f c)):=ka h.lt _ _ _;refine QM s kd m k n f c p vals hv hfit w hok (fun w2 rb hx hrb hr=>?_);refine(VV rb f c L x s kd m k n p hp hf1 hc1 hc40 hsm.stocks hfx hL hL1 hL2 hxk hlen w2 (h.ext hx) hr (fun w' hx'=>?_)).mono ?_
 ·have:=XR rb x.blk s kd m k n f c p (by omega) (by omega) (by have:=hsm.leases;omega) hsm.fc w' (h.ext (hx.trans hx')) (hx'.block hr)
  rwa [hcode] at this
 ·rintro e w' ⟨gv,cv,h1,h2,h3⟩;exact⟨0,f,c,some ⟨gv,0,none⟩,c*L,cv,h1,rfl,rfl,rfl,by rw [hlz];exact h2,h3⟩
end
end
section
theorem Z1 (b off j:Nat):(⟨b,off,none⟩:Addr).add j=⟨b,off+j,none⟩:=by simp [Addr.add]
theorem kx (l:List LsV):∀u∈zu l,u.oneCell'=true:=by intro u hu;simp only [zu,List.mem_flatMap,LsV.cells,List.mem_cons,List.not_mem_nil,or_false] at hu;obtain⟨o,_,h⟩:=hu;rcases h with rfl|rfl|rfl|rfl|rfl|rfl|rfl|rfl|rfl<;>rfl
theorem gA (b off n cap:Nat)(w:World):(binOp BinOp.eql 38 (.slice (some ⟨b,off,none⟩) n cap) (.slice none 0 0)).run Tryz.prog w=.ok (.bool false) w:=by kernel_rfl
theorem KG (w:World):(binOp BinOp.eql 38 (.slice none 0 0) (.slice none 0 0)).run Tryz.prog w=.ok (.bool true) w:=by kernel_rfl
theorem kb (v:Value)(n:Nat)(xs:List Value)(h1:∀u∈xs,u.oneCell'=true)(h2:n<=1000000000)(w:World)(ho:w.ownsRow 0 56 9 v n xs)(hn:v=.slice none 0 0\/1<=n) :
  Calls Tryz.prog 82 #[v] w fun e w'=>∃v',e=.returned v'/\w'.ownsRow w.heap.size 56 9 v' n xs/\Ext w w':=by
 obtain⟨i0,hi,hz0,hz1,hz2⟩:=info_parts Y5;rcases zw ho with⟨rfl,rfl,rfl⟩|⟨b,cap,rfl,_,_,_⟩
 ·have hq:=KG w;clear ho hn;go_enter func82,ntmps82;go_wp2
  all_goals go_ret
  all_goals exact⟨_,rfl,rB _ _ _ _,lI _⟩
 ·have hn1:1<=n:=by
   rcases hn with h|h
   ·simp at h
   ·exact h
  have HO:=hid ho;have HOne:Hd _:=h1;have hq:=gA b 0 n cap w;clear ho hn h1;go_enter func82,ntmps82;go_wp2_with (at_builtin;refine wpList_append_own _ rfl _ _ 38 rfl w.heap.size 56 i0 _ 9 72 underlying38 hi hz0 hz1 hz2 rfl (by decide) _ _ _ rfl (World.ownsRow_lit (base:=w.heap.size) w #[] 0 (lO _) (by decide) rfl) ⟨b,0,none⟩ n cap xs rfl HO.o.1 ?c1 ?c2 ?c3 ?c4 ?c5 ?_)
  case c1=>
   intro j u hu;rw [Z1,Nat.zero_add];exact((lI w).alloc _).cell (zk HO.o hu)
  case c2=>exact HOne.o
  case c3=>unfold maxLen;omega
  case c4=>omega
  case c5=>simp
  intro v' w1 hown hgrow _;go_wp2;go_ret;refine⟨_,rfl,by simpa using hown,rG ((lI w).alloc _) hgrow (fun k hk=>?_)⟩;simp [lH] at hk;omega
theorem gJ (b off n cap:Nat)(w:World):(binOp BinOp.eql 69 (.slice (some ⟨b,off,none⟩) n cap) (.slice none 0 0)).run Tryz.prog w=.ok (.bool false) w:=by kernel_rfl
theorem KC (w:World):(binOp BinOp.eql 69 (.slice none 0 0) (.slice none 0 0)).run Tryz.prog w=.ok (.bool true) w:=by kernel_rfl
theorem kR (v:Value)(n:Nat)(xs:List Value)(h1:∀u∈xs,u.oneCell'=true)(h2:n<=1000000000)(w:World)(ho:w.ownsRow 0 134 4 v n xs)(hn:v=.slice none 0 0\/1<=n) :
  Calls Tryz.prog 134 #[v] w fun e w'=>∃v',e=.returned v'/\w'.ownsRow w.heap.size 134 4 v' n xs/\Ext w w':=by
 obtain⟨i0,hi,hz0,hz1,hz2⟩:=info_parts Vw;rcases zw ho with⟨rfl,rfl,rfl⟩|⟨b,cap,rfl,_,_,_⟩
 ·have hq:=KC w;clear ho hn;go_enter func134,ntmps134;go_wp2
  all_goals go_ret
  all_goals exact⟨_,rfl,rB _ _ _ _,lI _⟩
 ·have hn1:1<=n:=by
   rcases hn with h|h
   ·simp at h
   ·exact h
  have HO:=hid ho;have HOne:Hd _:=h1;have hq:=gJ b 0 n cap w;clear ho hn h1;go_enter func134,ntmps134;go_wp2_with (at_builtin;refine wpList_append_own _ rfl _ _ 69 rfl w.heap.size 134 i0 _ 4 56 underlying69 hi hz0 hz1 hz2 rfl (by decide) _ _ _ rfl (World.ownsRow_lit (base:=w.heap.size) w #[] 0 (lO _) (by decide) rfl) ⟨b,0,none⟩ n cap xs rfl HO.o.1 ?c1 ?c2 ?c3 ?c4 ?c5 ?_)
  case c1=>
   intro j u hu;rw [Z1,Nat.zero_add];exact((lI w).alloc _).cell (zk HO.o hu)
  case c2=>exact HOne.o
  case c3=>unfold maxLen;omega
  case c4=>omega
  case c5=>simp
  intro v' w1 hown hgrow _;go_wp2;go_ret;refine⟨_,rfl,by simpa using hown,rG ((lI w).alloc _) hgrow (fun k hk=>?_)⟩;simp [lH] at hk;omega
section
variable {B:Nat}{F:Nat->Prop}{sv lv dv:Value}{R:List StkR}{ls:List LsV}{ops:List OpV}{fl:Bool}{ah:Int}{kn:Bool}
theorem vD (hls:ls.length<=1000)(w:World)(h:StoreOf w B F sv lv dv R ls ops fl ah kn) :
  Calls Tryz.prog 49 #[.pointer (some ⟨B,0,none⟩)] w fun e w'=>∃v',e=.returned v'/\w'.ownsRow w.heap.size 56 9 v' ls.length (zu ls)/\Ext w w':=by
 have HC:Hd (∀w',Ext w w'->_):=fun w' hx=>kb lv ls.length (zu ls) (kx ls) (by omega) w' (hx.owns h.lrow) h.lnil
 obtain⟨_,c1,_⟩:=h.deal.cells;have hB:=h.deal.lt;clear h;go_enter func49,ntmps49;go_wp2_with fail
 refine(HC.o _ (lI _)).mono ?_;rintro e w1 ⟨v',rfl,ho,hx⟩;have HQ:Hd _:=And.intro ho hx;clear ho hx;go_wp2;go_ret;exact⟨_,rfl,HQ.o.1,HQ.o.2⟩
theorem XD (hls:ls.length<=1000)(w:World)(h:StoreOf w B F sv lv dv R ls ops fl ah kn) :
  Calls Tryz.prog 15 #[.pointer (some ⟨B,0,none⟩)] w fun e w'=>∃v',e=.returned v'/\w'.ownsRow w.heap.size 56 9 v' ls.length (zu ls)/\Ext w w':=by
 have HC:Hd (∀w',Ext w w'->_):=fun w' hx=>vD hls w' (h.ext hx)
 clear h;go_enter func15,ntmps15;go_wp2_with fail
 refine(HC.o _ (lI _)).mono ?_;rintro e w1 ⟨v',rfl,ho,hx⟩;have HQ:Hd _:=And.intro ho hx;clear ho hx;go_wp2;go_ret;exact⟨_,rfl,HQ.o.1,HQ.o.2⟩
theorem jz (hls:ops.length<=1000000)(w:World)(h:StoreOf w B F sv lv dv R ls ops fl ah kn) :
  Calls Tryz.prog 93 #[.pointer (some ⟨B,2,none⟩)] w fun e w'=>∃v',e=.returned v'/\w'.ownsRow w.heap.size 134 4 v' ops.length (zz ops)/\Ext w w':=by
 have HC:Hd (∀w',Ext w w'->_):=fun w' hx=>kR dv ops.length (zz ops) (kH ops) (by omega) w' (hx.owns h.orow) h.dnil
 obtain⟨_,_,c2,_⟩:=h.deal.cells;have hB:=h.deal.lt;clear h;go_enter func93,ntmps93;go_wp2_with fail
 refine(HC.o _ (lI _)).mono ?_;rintro e w1 ⟨v',rfl,ho,hx⟩;have HQ:Hd _:=And.intro ho hx;clear ho hx;go_wp2;go_ret;exact⟨_,rfl,HQ.o.1,HQ.o.2⟩
theorem uN (hls:ops.length<=1000000)(w:World)(h:StoreOf w B F sv lv dv R ls ops fl ah kn) :
  Calls Tryz.prog 62 #[.pointer (some ⟨B,0,none⟩)] w fun e w'=>∃v',e=.returned v'/\w'.ownsRow w.heap.size 134 4 v' ops.length (zz ops)/\Ext w w':=by
 have HC:Hd (∀w',Ext w w'->_):=fun w' hx=>jz hls w' (h.ext hx)
 clear h;go_enter func62,ntmps62;go_wp2_with fail
 refine(HC.o _ (lI _)).mono ?_;rintro e w1 ⟨v',rfl,ho,hx⟩;have HQ:Hd _:=And.intro ho hx;clear ho hx;go_wp2;go_ret;exact⟨_,rfl,HQ.o.1,HQ.o.2⟩
theorem VG (hls:ops.length<=1000000)(w:World)(h:StoreOf w B F sv lv dv R ls ops fl ah kn) :
  Calls Tryz.prog 29 #[.pointer (some ⟨B,0,none⟩)] w fun e w'=>∃v',e=.returned v'/\w'.ownsRow w.heap.size 134 4 v' ops.length (zz ops)/\Ext w w':=by
 have HC:Hd (∀w',Ext w w'->_):=fun w' hx=>uN hls w' (h.ext hx)
 clear h;go_enter func29,ntmps29;go_wp2_with fail
 refine(HC.o _ (lI _)).mono ?_;rintro e w1 ⟨v',rfl,ho,hx⟩;have HQ:Hd _:=And.intro ho hx;clear ho hx;go_wp2;go_ret;exact⟨_,rfl,HQ.o.1,HQ.o.2⟩
end
end
section
theorem xd:(Tryz.prog.info? 116).map (fun i=>(i.zero,i.size,i.bytes))=some (some (.agg #[.int .i64 0,.int .i64 0,.int .i64 0,.int .i64 0,.int .i64 0,.int .i64 0,.int .i64 0]),7,56):=by kernel_rfl
def Stk.told (x:Stk):List Value:=[.int .i64 x.kd,.int .i64 x.m,.int .i64 x.k,.int .i64 x.n,.int .i64 x.ts.length,.int .i64 x.leased,.int .i64 (x.ts.filter (·.2)).length]
def Za (S:List Stk):List Value:=S.flatMap Stk.told
theorem QK (S:List Stk)(x:Stk):Za (S++[x])=Za S++x.told:=by simp [Za]
theorem Uk (S:List Stk):(Za S).length=S.length*7:=by
 induction S with
 | nil=>rfl
 | cons o t ih=>simp [Za,Stk.told] at ih ⊢;omega
section
variable {B:Nat}{F:Nat->Prop}{sv lv dv:Value}{R:List StkR}{ls:List LsV}{ops:List OpV}{fl:Bool}{ah:Int}{kn:Bool}
theorem XF (hR:R.length<=100)(w:World)(h:StoreOf w B F sv lv dv R ls ops fl ah kn) :
  Calls Tryz.prog 50 #[.pointer (some ⟨B,0,none⟩)] w fun e w'=>∃v',e=.returned v'/\w'.ownsRow w.heap.size 116 7 v' R.length (Za (R.map lL))/\Ext w w':=by
 obtain⟨i0,hi,hz0,hz1,hz2⟩:=info_parts xd;obtain⟨c0,_⟩:=h.deal.cells;have hB:=h.deal.lt;obtain⟨sa,scap,hsv⟩:=zo h.srow;have HPt:Hd (∀j (hj:j<R.length),∃g,sa=some ⟨g,0,none⟩/\w.cell? ⟨g,j,none⟩=some (.pointer (some ⟨R[j].blk,0,none⟩))):=fun j hj=>by
  rcases zw h.srow with⟨_,h2,_⟩|⟨g,cap,h1,_⟩
  ·omega
  ·rw [h1] at hsv;injection hsv with e1 _ _
   have hs:=h.srow;rw [h1] at hs;exact⟨g,e1.symm,zk hs (by simp [Zt,hj])⟩
 have HSt:Hd (∀j (hj:j<R.length),StkAt w F R[j]):=fun j hj=>h.stk _ (lV hj)
 subst hsv;clear h;obtain⟨len,hlen⟩:∃len,R.length=len:=⟨_,rfl⟩
 have HLEN:=hid hlen;rw [hlen] at c0 hR ⊢;clear hlen;go_enter func50,ntmps50;go_wp2
 go_loopw [3,5,11] (fun u _ i wr=>∃j:Nat,j<=len/\i=.int .i64 j/\wr.ownsRow w.heap.size 116 7 u j (Za ((R.map lL).take j))/\Ext w wr) (fun _ _ i _=>len - (intOf i).toNat)
 case atStart=>exact⟨0,lT _,rfl,rB _ _ _ _,lI _⟩
 case round=>
  obtain⟨j,hj,rfl,ho,hx⟩:=hrel;have HO:=hid ho;have HX:=hid hx;clear ho hx;by_cases hlt:j<len
  ·have hjl:j<R.length:=by rw [HLEN.o];exact hlt
   obtain⟨g,rfl,hpt⟩:=HPt.o j hjl;have hst:=HSt.o j hjl;have hb:=hst.blk;obtain⟨D,hD,hK⟩:=hst.map;have HTk:Hd ((R.map lL).take (j+1)=(R.map lL).take j++[R[j].abs]):=by
    show (R.map lL).take (j+1)=(R.map lL).take j++[R[j].abs]
    rw [List.take_succ_eq_append_getElem (by simpa using hjl)];simp
   obtain⟨x0,hx0⟩:∃x0,R[j].kd=x0:=⟨_,rfl⟩
   obtain⟨x1,hx1⟩:∃x1,R[j].m=x1:=⟨_,rfl⟩
   obtain⟨x2,hx2⟩:∃x2,R[j].k=x2:=⟨_,rfl⟩
   obtain⟨x3,hx3⟩:∃x3,R[j].n=x3:=⟨_,rfl⟩
   obtain⟨x4,hx4⟩:∃x4,R[j].ts.length=x4:=⟨_,rfl⟩
   obtain⟨x5,hx5⟩:∃x5,R[j].leased=x5:=⟨_,rfl⟩
   obtain⟨x6,hx6⟩:∃x6,(R[j].ts.filter (·.2)).length=x6:=⟨_,rfl⟩
   obtain⟨blk,hblk⟩:∃blk,R[j].blk=blk:=⟨_,rfl⟩
   obtain⟨mb,hmb⟩:∃mb,R[j].mb=mb:=⟨_,rfl⟩
   have HTd:Hd (R[j].abs.told=[.int .i64 (x0:Int),.int .i64 (x1:Int),.int .i64 (x2:Int),.int .i64 (x3:Int),.int .i64 (x4:Int),.int .i64 (x5:Int),.int .i64 (x6:Int)]):=by rw [<-hx0,<-hx1,<-hx2,<-hx3,<-hx4,<-hx5,<-hx6];rfl
   unfold StkR.row at hb;rw [hblk,hx0,hx1,hx2,hx3,hx4,hx5,hmb] at hb;rw [hmb] at hD;have hsz:=hK.1;rw [hx6] at hsz;have SF:Hd (∀w',Ext w w'->(fun w'=>((w'.cell? ⟨blk,0,none⟩=some (.int .i64 (x0:Int))/\w'.cell? ⟨blk,1,none⟩=some (.int .i64 (x1:Int))/\w'.cell? ⟨blk,2,none⟩=some (.int .i64 (x2:Int))/\w'.cell? ⟨blk,3,none⟩=some (.int .i64 (x3:Int))/\w'.cell? ⟨blk,4,none⟩=some (.int .i64 (x4:Int))/\w'.cell? ⟨blk,5,none⟩=some (.int .i64 (x5:Int))/\w'.cell? ⟨blk,6,none⟩=some (.map (some mb)))/\∀ty,(Builtin.len_ #[152] ty #[.map (some mb)]).run Tryz.prog w'=.ok (.int .i64 (x6:Int)) w')/\Ext w w') w'):=fun w' hx=>by have hb':=hx.block hb;have hD':w'.ownsMap Tryz.prog 3 zX mb _ D:=Yg (S:=fun _=>False) hD (lM hx) id;refine⟨⟨⟨zc hb' rfl,zc hb' rfl,zc hb' rfl,zc hb' rfl,zc hb' rfl,zc hb' rfl,zc hb' rfl⟩,fun ty=>?_⟩,hx⟩;rw [hD'.len underlying152 ty,hsz]
   have hpt:=HX.o.cell hpt;have hxp:Ext w wr:=HX.o;have hbl:blk<wr.heap.size:=rA (Array.getElem?_eq_some_iff.1 hb).1 hxp.le;have HG:Hd (∀q,u3.ownBlock=some q->w.heap.size<=q/\q<wr.heap.size):=fun q hq=>lR.lt HO.o q hq
   have hwl:=hxp.le;rw [hblk] at hpt;clear hst hb hD hK hsz hx0 hx1 hx2 hx3 hx4 hx5 hx6 hblk hmb;have hS0:=SF.o wr hxp;go_wp2_with fail
   go_region_held3 (fun w'=>((w'.cell? ⟨blk,0,none⟩=some (.int .i64 (x0:Int))/\w'.cell? ⟨blk,1,none⟩=some (.int .i64 (x1:Int))/\w'.cell? ⟨blk,2,none⟩=some (.int .i64 (x2:Int))/\w'.cell? ⟨blk,3,none⟩=some (.int .i64 (x3:Int))/\w'.cell? ⟨blk,4,none⟩=some (.int .i64 (x4:Int))/\w'.cell? ⟨blk,5,none⟩=some (.int .i64 (x5:Int))/\w'.cell? ⟨blk,6,none⟩=some (.map (some mb)))/\∀ty,(Builtin.len_ #[152] ty #[.map (some mb)]).run Tryz.prog w'=.ok (.int .i64 (x6:Int)) w')/\Ext w w')
    (first
      | (refine SF.o _ ?_;(repeat (first|with_reducible exact lI _|with_reducible assumption|with_reducible refine lJ ?_|with_reducible refine lK ?_ _|with_reducible (apply Ext.chain;assumption)));done)
      | exact SF.o _ (rG (lK (lJ HX.o) _) hgrow (fun q hq=>(HG.o q hq).1)))
    (first
      | (refine step_append_lies _ (by rfl) _ _ 44 (by rfl) w.heap.size 116 i0 _ 7 56 underlying44 hi hz0 hz1 hz2 (by rfl) (by decide) u3 j (Za ((R.map lL).take j)) (by rfl) (Ext.owns (lK (lJ (lI _)) _) HO.o) ⟨_,0,none⟩ 1 1 [.int .i64 (x0:Int),.int .i64 (x1:Int),.int .i64 (x2:Int),.int .i64 (x3:Int),.int .i64 (x4:Int),.int .i64 (x5:Int),.int .i64 (x6:Int)] (by rfl) (by rfl) (World.news_of_block (heap_alloc_new _ _)) (by simp [Value.oneCell']) (by decide) (by simp [maxLen];omega) (by omega) (by simp;omega) _ rfl ?_;intro gv cv w3 hown3 hgrow hat hlt3))
   have HQ:Hd (w3.ownsRow w.heap.size 116 7 (.slice (some ⟨gv,0,none⟩) (j+1) cv) (j+1) (Za ((R.map lL).take j)++[.int .i64 (x0:Int),.int .i64 (x1:Int),.int .i64 (x2:Int),.int .i64 (x3:Int),.int .i64 (x4:Int),.int .i64 (x5:Int),.int .i64 (x6:Int)])/\Ext w w3):=And.intro hown3 (rG (lK (lJ HX.o) _) hgrow (fun q hq=>(HG.o q hq).1));clear hown3 hgrow hat hS0;go_wp2
   go_roundw
   case rel=>
    refine⟨j+1,by omega,by go_num,?_,HQ.o.2⟩;rw [HTk.o,QK,HTd.o];exact HQ.o.1
   case measure=>simp [intOf];omega
  ·obtain rfl:j=len:=by omega
   have HF:Hd (wr.ownsRow w.heap.size 116 7 u3 j (Za (R.map lL))):=by have h1:=HO.o;rw [rM (by simp [HLEN.o])] at h1;exact h1
   go_wp2;go_ret;exact⟨_,rfl,HF.o,HX.o⟩
theorem xG (hR:R.length<=100)(w:World)(h:StoreOf w B F sv lv dv R ls ops fl ah kn) :
  Calls Tryz.prog 16 #[.pointer (some ⟨B,0,none⟩)] w fun e w'=>∃v',e=.returned v'/\w'.ownsRow w.heap.size 116 7 v' R.length (Za (R.map lL))/\Ext w w':=by
 have HC:Hd (∀w',Ext w w'->_):=fun w' hx=>XF hR w' (h.ext hx)
 clear h;go_enter func16,ntmps16;go_wp2_with fail
 refine(HC.o _ (lI _)).mono ?_;rintro e w1 ⟨v',rfl,ho,hx⟩;have HQ:Hd _:=And.intro ho hx;clear ho hx;go_wp2;go_ret;exact⟨_,rfl,HQ.o.1,HQ.o.2⟩
theorem qC (kd m k n:Int)(a:Option Addr)(len cap B:Nat)(F:Nat->Prop)(w:World)(hF:∀b,F b->b<w.heap.size)(P:World->World->Int->Prop)(htn:∀w1 w2 c,P w1 w2 c->Turn F w1 w2)(hst:∀w1 w2 w3 c,Ext w1 w2->P w2 w3 c->P w1 w3 c)(hin:∀w',Ext w w'->Calls Tryz.prog 65 #[.pointer (some ⟨B,0,none⟩),zJ kd m k n,.slice a len cap] w' fun e w''=>∃c,e=.returned (.int .i64 c)/\P w' w'' c) :
  Calls Tryz.prog 34 #[.pointer (some ⟨B,0,none⟩),zJ kd m k n,.slice a len cap] w fun e w'=>∃c,e=.returned (.int .i64 c)/\P w w' c:=by
 have HC:=hid hin;have HS:Hd _:=hst;have HT:Hd _:=htn;have HFl:=hid hF;clear hin hst htn hF;unfold zJ at *;go_enter func34,ntmps34;go_wp2_with fail
 have hcl:=ZQ (lI (w.alloc (.cells #[.int .i64 kd,.int .i64 m,.int .i64 k,.int .i64 n] 49)));have hX0:Ext w (w.alloc (.cells #[.int .i64 kd,.int .i64 m,.int .i64 k,.int .i64 n] 49)):=(lI w).alloc _;generalize lP w _=W at hcl hX0 ⊢;obtain⟨d0,d1,d2,d3⟩:=hcl;have HX0:=hid hX0;clear hX0
 go_region_held3 (fun w'=>w'.cell? ⟨w.heap.size,0,none⟩=some (.int .i64 kd)/\w'.cell? ⟨w.heap.size,1,none⟩=some (.int .i64 m)/\w'.cell? ⟨w.heap.size,2,none⟩=some (.int .i64 k)/\w'.cell? ⟨w.heap.size,3,none⟩=some (.int .i64 n))
  (first|exact⟨d0,d1,d2,d3⟩|exact S1)
  (first
    | (go_at_call 65
       refine(HC.o _ (lJ HX0.o)).mono ?_;rintro e w1 ⟨cd,rfl,hp⟩;have q4:=HT.o _ _ _ hp;have hnF:¬F w.heap.size:=fun e=>by have:=HFl.o _ e;omega
       have S1:w1.cell? ⟨w.heap.size,0,none⟩=some (.int .i64 kd)/\w1.cell? ⟨w.heap.size,1,none⟩=some (.int .i64 m)/\w1.cell? ⟨w.heap.size,2,none⟩=some (.int .i64 k)/\w1.cell? ⟨w.heap.size,3,none⟩=some (.int .i64 n):=⟨q4.cell d0 hnF,q4.cell d1 hnF,q4.cell d2 hnF,q4.cell d3 hnF⟩))
 have HQ:Hd _:=hp;clear hp q4 S1;go_wp2;go_ret;exact⟨cd,rfl,HS.o _ _ _ _ (lJ HX0.o) HQ.o⟩
end
end
section
theorem j5 (m k n:Int):yb 0 m k n=(decide (m=1) && (decide (k=1) && decide (n=1))):=rfl
theorem j6 (m k n:Int):yb 1 m k n=((decide (1<=m) && decide (m<=3)) && ((decide (1<=k) && decide (k<=3)) && (decide (1<=n) && decide (n<=3)))):=rfl
theorem jM (m k n:Int):yb 2 m k n=((decide (1<=m) && decide (m<=3)) && (decide (k=1) && decide (n=1))):=rfl
theorem uC {kd:Int}(m k n:Int)(h0:kd≠0)(h1:kd≠1)(h2:kd≠2):yb kd m k n=false:=by simp [yb,h0,h1,h2]
theorem Yu (kd m k n:Int)(w:World):Calls Tryz.prog 145 #[zJ kd m k n] w fun e w'=>e=.returned (.bool (yb kd m k n))/\Ext w w':=by
 unfold zJ;by_cases h0:kd=0
 ·subst h0;rw [j5];go_enter func145,ntmps145;go_wp2
  all_goals go_ret
  all_goals refine⟨zH ?_,(lI w).alloc _⟩
  all_goals first
   | (simp [*];done)
   | (rw [Bool.eq_iff_iff];simp;done)
     | (rw [Bool.eq_iff_iff];simp;omega)
 ·by_cases h1:kd=1
  ·subst h1;rw [j6];go_enter func145,ntmps145;go_wp2
   all_goals go_ret
   all_goals refine⟨zH ?_,(lI w).alloc _⟩
   all_goals first
    | (simp [*];done)
    | (rw [Bool.eq_iff_iff];simp;done)
     | (rw [Bool.eq_iff_iff];simp;omega)
  ·by_cases h2:kd=2
   ·subst h2;rw [jM];go_enter func145,ntmps145;go_wp2
    all_goals go_ret
    all_goals refine⟨zH ?_,(lI w).alloc _⟩
    all_goals first
     | (simp [*];done)
     | (rw [Bool.eq_iff_iff];simp;done)
     | (rw [Bool.eq_iff_iff];simp;omega)
   ·rw [uC m k n h0 h1 h2];go_enter func145,ntmps145;go_wp2
    all_goals go_ret
    all_goals exact⟨rfl,(lI w).alloc _⟩
theorem gg {a b c a' b' c':Int}(h1:a=a')(h2:b=b')(h3:c=c'):Ending.returned (.tuple #[.int .i64 a,.int .i64 b,.int .i64 c])=.returned (.tuple #[.int .i64 a',.int .i64 b',.int .i64 c']):=by rw [h1,h2,h3]
theorem YH {kd m k n:Nat}{s:Sh}(hc:ofCls kd m k n s)(hs:s.ok)(w:World):Calls Tryz.prog 175 #[zJ kd m k n] w fun e w'=>e=.returned (.tuple #[.int .i64 (s.x:Int),.int .i64 (s.y:Int),.int .i64 (s.z:Int)])/\Ext w w':=by
 obtain⟨h1,h2,h3,h4,h5,h6,h7,h8,h9⟩:=hs;unfold zJ;rcases hc with⟨rfl,rfl,rfl,rfl⟩|⟨hk,rfl⟩
 ·simp only [Sh.x,Sh.y,Sh.z,Nat.mul_one];clear h1 h2 h3 h4 h5 h6 h7 h8 h9;go_enter func175,ntmps175;go_wp2;go_quiet (fail)
  go_wp2;go_ret3;exact⟨rfl,Ext.drewN ((lI w).alloc _) _⟩
 ·simp only [Sh.x,Sh.y,Sh.z,Nat.one_mul];simp only at h3 h4 h5 h6 h7 h8;have e1:wrap64 ((m:Int)*(k:Int))=((m*k:Nat):Int):=by rw [show ∀z:Int,wrap64 z=IntKind.i64.wrap z from fun z=>by rw [rP,wrap64],<-rQ];exact zt (by have:=yJ h4 h6;omega)
  have e2:wrap64 ((k:Int)*(n:Int))=((k*n:Nat):Int):=by rw [show ∀z:Int,wrap64 z=IntKind.i64.wrap z from fun z=>by rw [rP,wrap64],<-rQ];exact zt (by have:=yJ h6 h8;omega)
  have e3:wrap64 ((m:Int)*(n:Int))=((m*n:Nat):Int):=by rw [show ∀z:Int,wrap64 z=IntKind.i64.wrap z from fun z=>by rw [rP,wrap64],<-rQ];exact zt (by have:=yJ h4 h8;omega)
  have hkd:¬(kd:Int)=2:=by omega
  have HE:Hd _:=And.intro e1 (And.intro e2 e3);clear e1 e2 e3 h1 h2 h3 h4 h5 h6 h7 h8 h9 hk;go_enter func175,ntmps175;go_wp2;go_quiet (fail)
  go_wp2;go_ret3;obtain⟨e1,e2,e3⟩:=HE.o;exact⟨gg e1 e2 e3,Ext.drewN ((lI w).alloc _) _⟩
theorem Qe {kd m k n:Nat}{s:Sh}(hc:ofCls kd m k n s)(hs:s.ok)(w:World):Calls Tryz.prog 146 #[zJ kd m k n] w fun e w'=>e=.returned (.int .i64 (s.x+s.y+(s.x+s.y+s.z):Nat))/\Ext w w':=by
 have hle:=Sh.le hs;have HS:Hd _:=YH hc hs;clear hc hs;generalize s.x=x at *;generalize s.y=y at *;generalize s.z=z at *;unfold zJ at *;go_enter func146,ntmps146;go_wp2_with fail
 refine(HS.o _).mono ?_;rintro e w1 ⟨rfl,hx1⟩;have HX1:Hd (Ext w w1):=((lI w).alloc _).trans hx1;clear hx1;go_wp2;go_ret;exact⟨qU (by omega),HX1.o⟩
end
section
def RowIs (w:World)(G:Nat->Prop)(v:Value)(n:Nat)(xs:List Value):Prop:=
 (v=.slice none 0 0/\n=0)\/∃g cap,v=.slice (some ⟨g,0,none⟩) n cap/\n<=cap/\G g/\(∀i u,xs[i]?=some u->w.cell? ⟨g,i,none⟩=some u)/\1<=n
theorem RowIs.turn {S G:Nat->Prop}{w w':World}{v:Value}{n:Nat}{xs:List Value}(h:RowIs w G v n xs)(ht:Turn S w w')(hs:∀b,G b->¬S b):RowIs w' G v n xs:=by
 rcases h with h|⟨g,cap,h1,h2,h3,h4,h5⟩
 ·exact .inl h
 ·exact .inr ⟨g,cap,h1,h2,h3,fun i u hu=>ht.cell (h4 i u hu) (hs _ h3),h5⟩
theorem RowIs.mono {G G':Nat->Prop}{w:World}{v:Value}{n:Nat}{xs:List Value}(h:RowIs w G v n xs)(hg:∀b,G b->G' b):RowIs w G' v n xs:=by
 rcases h with h|⟨g,cap,h1,h2,h3,h4⟩
 ·exact .inl h
 ·exact .inr ⟨g,cap,h1,h2,hg _ h3,h4⟩
theorem RowIs.of_owns {G:Nat->Prop}{w:World}{base:Nat}{e:TypeId}{size:Nat}{v:Value}{n:Nat}{xs:List Value}(h:w.ownsRow base e size v n xs)(hn:v=.slice none 0 0\/1<=n)(hg:∀b,base<=b->b<w.heap.size->G b):RowIs w G v n xs:=by
 rcases zw h with⟨h1,h2,_⟩|⟨g,cap,h1,h2,h3,_⟩
 ·exact .inl ⟨h1,h2⟩
 ·subst h1;exact .inr ⟨g,cap,rfl,h3,hg g h2 (zx h rfl),fun i u hu=>zk h hu,hn.resolve_left (by simp)⟩
def DrawsIs (w:World)(G:Nat->Prop)(E:Nat)(v:Value)(D:List Int):Prop:=∃b cap,v=.slice (some ⟨b,0,none⟩) E cap/\E<=cap/\WordsAt w b 0 D/\G b
def Stk.each (x:Stk):Nat:=x.sh.x+x.sh.y+(x.sh.x+x.sh.y+x.sh.z)
def Stk.gone (x:Stk):Nat:=(x.ts.filter (fun t=>!t.2)).length
def RefStk (w:World)(G:Nat->Prop)(x:Stk)(cs:List Value):Prop:=
 ∃tv vs,cs=[.int .i64 x.kd,.int .i64 x.m,.int .i64 x.k,.int .i64 x.n,tv,.int .i64 x.leased,.int .i64 x.gone]/\RowIs w G tv x.ts.length vs/\vs.length=x.ts.length/\∀i (h:i<x.ts.length),∃v,vs[i]?=some v/\DrawsIs w G x.each v x.ts[i].1
def RefAt (w:World)(G:Nat->Prop)(p:Nat)(S:List Stk)(ls:List LsV):Prop:=
 ∃(stv lsv:Value) (css:List (List Value)),w.heap[p]?=some (.cells #[stv,lsv] 98 (0,0))/\G p/\RowIs w G stv S.length css.flatten/\css.length=S.length/\(∀i (h:i<S.length),∃cs,css[i]?=some cs/\RefStk w G S[i] cs)/\RowIs w G lsv ls.length (zu ls)
theorem DrawsIs.turn {S G:Nat->Prop}{w w':World}{E:Nat}{v:Value}{D:List Int}(h:DrawsIs w G E v D)(ht:Turn S w w')(hs:∀b,G b->¬S b):DrawsIs w' G E v D:=by obtain⟨b,cap,h1,h2,h3,h4⟩:=h;exact⟨b,cap,h1,h2,h3.turn ht (hs _ h4),h4⟩
theorem DrawsIs.mono {G G':Nat->Prop}{w:World}{E:Nat}{v:Value}{D:List Int}(h:DrawsIs w G E v D)(hg:∀b,G b->G' b):DrawsIs w G' E v D:=by obtain⟨b,cap,h1,h2,h3,h4⟩:=h;exact⟨b,cap,h1,h2,h3,hg _ h4⟩
theorem RefStk.turn {S G:Nat->Prop}{w w':World}{x:Stk}{cs:List Value}(h:RefStk w G x cs)(ht:Turn S w w')(hs:∀b,G b->¬S b):RefStk w' G x cs:=by obtain⟨tv,vs,h1,h2,h3,h4⟩:=h;exact⟨tv,vs,h1,h2.turn ht hs,h3,fun i hi=>let ⟨v,k1,k2⟩:=h4 i hi;⟨v,k1,k2.turn ht hs⟩⟩
theorem RefStk.mono {G G':Nat->Prop}{w:World}{x:Stk}{cs:List Value}(h:RefStk w G x cs)(hg:∀b,G b->G' b):RefStk w G' x cs:=by obtain⟨tv,vs,h1,h2,h3,h4⟩:=h;exact⟨tv,vs,h1,h2.mono hg,h3,fun i hi=>let ⟨v,k1,k2⟩:=h4 i hi;⟨v,k1,k2.mono hg⟩⟩
theorem RefAt.turn {Sp G:Nat->Prop}{w w':World}{p:Nat}{S:List Stk}{ls:List LsV}(h:RefAt w G p S ls)(ht:Turn Sp w w')(hs:∀b,G b->¬Sp b):RefAt w' G p S ls:=by obtain⟨stv,lsv,css,h1,h2,h3,h4,h5,h6⟩:=h;exact⟨stv,lsv,css,ht.ref h1 (hs _ h2),h2,h3.turn ht hs,h4,fun i hi=>let ⟨cs,k1,k2⟩:=h5 i hi;⟨cs,k1,k2.turn ht hs⟩,h6.turn ht hs⟩
theorem RefAt.ext {G:Nat->Prop}{w w':World}{p:Nat}{S:List Stk}{ls:List LsV}(h:RefAt w G p S ls)(hx:Ext w w'):RefAt w' G p S ls:=
 h.turn (Sp:=fun _=>False) (lM hx) (fun _ _=>id)
theorem y9 {css:List (List Value)}{S:List Stk}{w:World}{G:Nat->Prop}(hl:css.length=S.length)(h:∀i (h:i<S.length),∃cs,css[i]?=some cs/\RefStk w G S[i] cs)(j:Nat)(hj:j<S.length)(i:Nat)(hi:i<7){cs:List Value}(hcs:css[j]?=some cs):css.flatten[j*7+i]?=cs[i]?:=by
 have h7:∀c∈css,c.length=7:=fun c hc=>by
  obtain⟨q,hq,rfl⟩:=List.getElem_of_mem hc;obtain⟨cs',k1,tv,vs,k2,_⟩:=h q (by omega);rw [List.getElem?_eq_getElem hq] at k1;injection k1 with k1
  rw [k1,k2];rfl
 clear h hl
 induction css generalizing j with
 | nil=>simp at hcs
 | cons c t ih=>
  have hc:=h7 c (by simp);cases j with
  | zero=>
   simp at hcs;subst hcs;simp [List.getElem?_append_left (show i<c.length by omega)]
  | succ j=>
   simp at hcs;rw [List.flatten_cons,List.getElem?_append_right (by rw [hc];omega),hc,show (j+1)*7+i - 7=j*7+i by omega];by_cases hjt:j<S.length
   ·exact ih j hjt hcs (fun c hc=>h7 c (by simp [hc]))
   ·omega
theorem yB {G:Nat->Prop}(p:Nat)(S:List Stk)(ls:List LsV)(kd m k n:Int)(hS:S.length<=100)(w:World)(h:RefAt w G p S ls) :
  Calls Tryz.prog 147 #[.pointer (some ⟨p,0,none⟩),zJ kd m k n] w fun e w'=>e=.returned (.int .i64 (match S.findIdx? (fun x=>x.is kd m k n) with|some i=>(i:Int)|none=>-1))/\Ext w w':=by
 obtain⟨stv,lsv,css,h1,h2,h3,h4,h5,h6⟩:=h;have c0:w.cell? ⟨p,0,none⟩=some stv:=zc h1 rfl;have hp:=lG w _ c0;have heq:=fun (a b c e a' b' c' e':Int) (w:World)=>Ya 9998 a b c e a' b' c' e' w
 obtain⟨len,hlen⟩:∃len,S.length=len:=⟨_,rfl⟩
 have HLEN:=hid hlen;unfold zJ;obtain⟨fi,hfi⟩:∃fi:Int,fi=(match S.findIdx? (fun x=>x.is kd m k n) with|some i=>(i:Int)|none=>-1):=⟨_,rfl⟩
 rw [<-hfi];have HFi:=hid hfi;clear hfi;have HST:Hd _:=And.intro h4 h5;rcases h3 with⟨rfl,hn0⟩|⟨g,cap,rfl,hcap,_,hcell,_⟩
 ·have hS0:S=[]:=sO.1 hn0;subst hS0;clear h5 h6 h1;go_enter func147,ntmps147;go_wp2
  go_loopw [5] (fun i wr=>i=.int .i64 0/\Ext w wr) (fun _ _=>0)
  case atStart=>exact⟨rfl,(lI _).alloc _⟩
  case round=>
   obtain⟨rfl,hx⟩:=hrel;have c0:=hx.cell c0;go_wp2;go_ret;exact⟨by rw [HFi.o];rfl,hx⟩
 ·have HCell:Hd _:=hcell;rw [hlen] at c0 hS hcap;clear h5 h6 h1 hcell hlen;go_enter func147,ntmps147;go_wp2;have hf:=ZQ (lI (w.alloc (.cells #[.int .i64 kd,.int .i64 m,.int .i64 k,.int .i64 n] 49)));have HXV:Hd (Ext w (w.alloc (.cells #[.int .i64 kd,.int .i64 m,.int .i64 k,.int .i64 n] 49))):=(lI w).alloc _;generalize lP w _=V at hf HXV ⊢;obtain⟨d0,d1,d2,d3⟩:=hf;have c0:=HXV.o.cell c0
  go_loopw [5] (fun i wr=>∃j:Nat,j<=len/\i=.int .i64 j/\(∀x∈S.take j,x.is kd m k n=false)/\Ext V wr) (fun i _=>len - (intOf i).toNat)
  case atStart=>exact⟨0,lT _,rfl,by simp,lI _⟩
  case round=>
   obtain⟨j,hj,rfl,hno,hx⟩:=hrel;have HNO:=hid hno;have HX:Hd (Ext w wr):=HXV.o.trans hx;have HX2:=hid hx;have c0:=hx.cell c0;have d0:=hx.cell d0;have d1:=hx.cell d1;have d2:=hx.cell d2;have d3:=hx.cell d3;clear hno hx;by_cases hlt:j<len
   ·have hjl:j<S.length:=by rw [HLEN.o];exact hlt
    obtain⟨cs,hcs,tv,vs,rfl,_,_,_⟩:=HST.o.2 j hjl;have e0:=HX.o.cell (HCell.o (j*7+0) _ ((y9 HST.o.1 HST.o.2 j hjl 0 (by omega) hcs).trans rfl));have e1:=HX.o.cell (HCell.o (j*7+1) _ ((y9 HST.o.1 HST.o.2 j hjl 1 (by omega) hcs).trans rfl));have e2:=HX.o.cell (HCell.o (j*7+2) _ ((y9 HST.o.1 HST.o.2 j hjl 2 (by omega) hcs).trans rfl));have e3:=HX.o.cell (HCell.o (j*7+3) _ ((y9 HST.o.1 HST.o.2 j hjl 3 (by omega) hcs).trans rfl));rw [Nat.add_zero] at e0;have hk0:(0:Int)<=(j:Int):=by omega
    have hk1:(j:Int)<len:=by omega
    have HIS:Hd (S[j].is kd m k n=((S[j].kd:Int) == kd && ((S[j].m:Int) == m && ((S[j].k:Int) == k && (S[j].n:Int) == n)))):=rfl;by_cases his:S[j].is kd m k n=true
    ·have HF:Hd (S.findIdx? (fun x=>x.is kd m k n)=some j):=qt hjl HNO.o his;rw [HIS.o] at his;clear hcs;generalize (S[j].kd:Int)=x0 at *;generalize (S[j].m:Int)=x1 at *;generalize (S[j].k:Int)=x2 at *;generalize (S[j].n:Int)=x3 at *;go_wp2;go_quiet (fail)
     go_wp2;go_ret;exact⟨by rw [HFi.o,HF.o];rfl,HX.o.drewN _⟩
    ·have HN2:Hd (∀x∈S.take (j+1),x.is kd m k n=false):=Qy hjl HNO.o (by simpa using his);rw [HIS.o] at his;have his2:((S[j].kd:Int) == kd && ((S[j].m:Int) == m && ((S[j].k:Int) == k && (S[j].n:Int) == n)))=false:=by simpa using his
     clear his hcs;generalize (S[j].kd:Int)=x0 at *;generalize (S[j].m:Int)=x1 at *;generalize (S[j].k:Int)=x2 at *;generalize (S[j].n:Int)=x3 at *;go_wp2;go_quiet (fail)
     go_wp2
     go_roundw
     case rel=>exact⟨j+1,by omega,by go_num,HN2.o,HX2.o.drewN _⟩
     case measure=>simp [intOf];omega
   ·obtain rfl:j=len:=by omega
    have HF:Hd (S.findIdx? (fun x=>x.is kd m k n)=none):=ql (by have:=HNO.o;rwa [rM (by rw [HLEN.o];exact lO _)] at this);go_wp2;go_ret;exact⟨by rw [HFi.o,HF.o];rfl,HX.o⟩
end
section
theorem XM {w:World}{g:Nat}{ls:List LsV}(h:∀i u,(zu ls)[i]?=some u->w.cell? ⟨g,i,none⟩=some u)(j:Nat)(hj:j<ls.length) :
  w.cell? ⟨g,j*9,none⟩=some (.int .i64 ls[j].s)/\w.cell? ⟨g,j*9+1,none⟩=some (.int .i64 ls[j].i)/\w.cell? ⟨g,j*9+2,none⟩=some (.int .i64 ls[j].kd)/\w.cell? ⟨g,j*9+3,none⟩=some (.int .i64 ls[j].m)/\w.cell? ⟨g,j*9+4,none⟩=some (.int .i64 ls[j].k)/\
  w.cell? ⟨g,j*9+5,none⟩=some (.int .i64 ls[j].n)/\w.cell? ⟨g,j*9+6,none⟩=some (.int .i64 ls[j].f)/\w.cell? ⟨g,j*9+7,none⟩=some (.int .i64 ls[j].c)/\w.cell? ⟨g,j*9+8,none⟩=some (.bool ls[j].r):=by
 have key:∀i v,i<9->ls[j].cells[i]?=some v->w.cell? ⟨g,j*9+i,none⟩=some v:=fun i v hi hv=>h _ _ ((zQ ls j i hj hi).trans hv)
 exact⟨key 0 _ (by omega) rfl,key 1 _ (by omega) rfl,key 2 _ (by omega) rfl,key 3 _ (by omega) rfl,key 4 _ (by omega) rfl,key 5 _ (by omega) rfl,key 6 _ (by omega) rfl,key 7 _ (by omega) rfl,key 8 _ (by omega) rfl⟩
theorem YE {G:Nat->Prop}(p:Nat)(S:List Stk)(ls:List LsV)(ss ii:Int)(hls:ls.length<=1000)(w:World)(h:RefAt w G p S ls) :
  Calls Tryz.prog 187 #[.pointer (some ⟨p,0,none⟩),.int .i64 ss,.int .i64 ii] w fun e w'=>e=.returned (.int .i64 (match ls.findIdx? (zE ss ii) with|some i=>(i:Int)|none=>-1))/\Ext w w':=by
 obtain⟨stv,lsv,css,h1,h2,h3,h4,h5,h6⟩:=h;have c1:w.cell? ⟨p,1,none⟩=some lsv:=zc h1 rfl;have hp:=lG w _ c1;obtain⟨len,hlen⟩:∃len,ls.length=len:=⟨_,rfl⟩
 have HLEN:=hid hlen;obtain⟨fi,hfi⟩:∃fi:Int,fi=(match ls.findIdx? (zE ss ii) with|some i=>(i:Int)|none=>-1):=⟨_,rfl⟩
 rw [<-hfi];have HFi:=hid hfi;clear hfi h1 h2 h3 h4 h5;rcases h6 with⟨rfl,hn0⟩|⟨g,cap,rfl,hcap,_,hcell,_⟩
 ·have hS0:ls=[]:=sO.1 hn0;subst hS0;go_enter func187,ntmps187;go_wp2
  go_loopw [7] (fun i wr=>i=.int .i64 0/\Ext w wr) (fun _ _=>0)
  case atStart=>exact⟨rfl,lI _⟩
  case round=>
   obtain⟨rfl,hx⟩:=hrel;have c1:=hx.cell c1;go_wp2;go_ret;exact⟨by rw [HFi.o];rfl,hx⟩
 ·have HCell:Hd _:=hcell;rw [hlen] at c1 hls hcap;clear hcell hlen;go_enter func187,ntmps187;go_wp2
  go_loopw [7] (fun i wr=>∃j:Nat,j<=len/\i=.int .i64 j/\(∀x∈ls.take j,zE ss ii x=false)/\Ext w wr) (fun i _=>len - (intOf i).toNat)
  case atStart=>exact⟨0,lT _,rfl,by simp,lI _⟩
  case round=>
   obtain⟨j,hj,rfl,hno,hx⟩:=hrel;have HNO:=hid hno;have HX:=hid hx;have c1:=hx.cell c1;clear hno hx;by_cases hlt:j<len
   ·have hjl:j<ls.length:=by rw [HLEN.o];exact hlt
    obtain⟨l0,l1,_⟩:=XM (fun i u hu=>HX.o.cell (HCell.o i u hu)) j hjl;have hk0:(0:Int)<=(j:Int):=by omega
    have hk1:(j:Int)<len:=by omega
    by_cases his:zE ss ii ls[j]=true
    ·have HF:Hd (ls.findIdx? (zE ss ii)=some j):=qt hjl HNO.o his;have his2:ls[j].s=ss/\ls[j].i=ii:=by simpa [zE] using his
     rw [his2.1] at l0;rw [his2.2] at l1;clear his his2;go_wp2;go_ret;exact⟨by rw [HFi.o,HF.o];rfl,HX.o⟩
    ·have HN2:Hd (∀x∈ls.take (j+1),zE ss ii x=false):=Qy hjl HNO.o (by simpa using his);have his2:¬(ls[j].s=ss/\ls[j].i=ii):=by simpa [zE] using his
     clear his;generalize ls[j].s=x0 at *;generalize ls[j].i=x1 at *;by_cases hs:x0=ss
     ·have hi:¬x1=ii:=fun e=>his2 ⟨hs,e⟩
      subst hs;clear his2;go_wp2
      go_roundw
      case rel=>exact⟨j+1,by omega,by go_num,HN2.o,HX.o⟩
      case measure=>simp [intOf];omega
     ·clear his2;go_wp2
      go_roundw
      case rel=>exact⟨j+1,by omega,by go_num,HN2.o,HX.o⟩
      case measure=>simp [intOf];omega
   ·obtain rfl:j=len:=by omega
    have HF:Hd (ls.findIdx? (zE ss ii)=none):=ql (by have:=HNO.o;rwa [rM (by rw [HLEN.o];exact lO _)] at this);go_wp2;go_ret;exact⟨by rw [HFi.o,HF.o];rfl,HX.o⟩
theorem yn (c:Int)(w:World):Calls Tryz.prog 176 #[.int .i64 c] w fun e w'=>e=.returned (zr c 0 0 (.slice none 0 0))/\Ext w w':=by
 unfold zr;go_enter func176,ntmps176;go_wp2;refine bodyPost_ret (v:=.agg #[.int .i64 c,.int .i64 0,.int .i64 0,.slice none 0 0]) (by simp [results,results176,go_sem]) rfl ⟨rfl,?_⟩
 first
  | exact Z9 ((lI w).alloc _) (lO _) _ _ _ _
  | exact(lI w).alloc _
end
section
def Zx (ss kd m k n num:Int)(l:LsV):Bool:=l.s == ss && ((l.kd == kd && (l.m == m && (l.k == k && l.n == n))) && (!l.r && (decide (l.f<=num) && decide (num<l.f+l.c))))
theorem Jw {G:Nat->Prop}(p:Nat)(S:List Stk)(ls:List LsV)(ss kd m k n num:Int)(hls:ls.length<=1000)(hfc:∀l∈ls,0<=l.f/\l.f<=1000/\0<=l.c/\l.c<=1000)(w:World)(h:RefAt w G p S ls) :
  Calls Tryz.prog 188 #[.pointer (some ⟨p,0,none⟩),.int .i64 ss,zJ kd m k n,.int .i64 num] w fun e w'=>e=.returned (.bool (ls.any (Zx ss kd m k n num)))/\Ext w w':=by
 obtain⟨stv,lsv,css,h1,h2,h3,h4,h5,h6⟩:=h;have c1:w.cell? ⟨p,1,none⟩=some lsv:=zc h1 rfl;have hp:=lG w _ c1;have heq:=fun (a b c e a' b' c' e':Int) (w:World)=>Ya 9998 a b c e a' b' c' e' w
 obtain⟨len,hlen⟩:∃len,ls.length=len:=⟨_,rfl⟩
 have HLEN:=hid hlen;have HFC:=hid hfc;obtain⟨fi,hfi⟩:∃fi:Bool,fi=ls.any (Zx ss kd m k n num):=⟨_,rfl⟩
 rw [<-hfi];have HFi:=hid hfi;clear hfi h1 h2 h3 h4 h5 hfc;unfold zJ;rcases h6 with⟨rfl,hn0⟩|⟨g,cap,rfl,hcap,_,hcell,_⟩
 ·have hS0:ls=[]:=sO.1 hn0;subst hS0;go_enter func188,ntmps188;go_wp2
  go_loopw [9,10] (fun i _ wr=>i=.int .i64 0/\Ext w wr) (fun _ _ _=>0)
  case atStart=>exact⟨rfl,(lI _).alloc _⟩
  case round=>
   obtain⟨rfl,hx⟩:=hrel;have c1:=hx.cell c1;go_wp2;go_ret;exact⟨by rw [HFi.o];rfl,hx⟩
 ·have HCell:Hd _:=hcell;rw [hlen] at c1 hls hcap;clear hcell hlen;go_enter func188,ntmps188;go_wp2;have hf:=ZQ (lI (w.alloc (.cells #[.int .i64 kd,.int .i64 m,.int .i64 k,.int .i64 n] 49)));have HXV:Hd (Ext w (w.alloc (.cells #[.int .i64 kd,.int .i64 m,.int .i64 k,.int .i64 n] 49))):=(lI w).alloc _;generalize lP w _=V at hf HXV ⊢;obtain⟨d0,d1,d2,d3⟩:=hf;have c1:=HXV.o.cell c1
  go_loopw [9,10] (fun i _ wr=>∃j:Nat,j<=len/\i=.int .i64 j/\(∀x∈ls.take j,Zx ss kd m k n num x=false)/\Ext V wr) (fun i _ _=>len - (intOf i).toNat)
  case atStart=>exact⟨0,lT _,rfl,by simp,lI _⟩
  case round=>
   obtain⟨j,hj,rfl,hno,hx⟩:=hrel;have HNO:=hid hno;have HX:Hd (Ext w wr):=HXV.o.trans hx;have HX2:=hid hx;have c1:=hx.cell c1;have d0:=hx.cell d0;have d1:=hx.cell d1;have d2:=hx.cell d2;have d3:=hx.cell d3;have hcl:=lG wr _ d0;clear hno hx;by_cases hlt:j<len
   ·have hjl:j<ls.length:=by rw [HLEN.o];exact hlt
    obtain⟨l0,l1,l2,l3,l4,l5,l6,l7,l8⟩:=XM (fun i u hu=>HX.o.cell (HCell.o i u hu)) j hjl;have hgl:=lG wr _ l0;obtain⟨hf0,hf1,hcc0,hcc1⟩:=HFC.o ls[j] (lV hjl);have hk0:(0:Int)<=(j:Int):=by omega
    have hk1:(j:Int)<len:=by omega
    by_cases his:Zx ss kd m k n num ls[j]=true
    ·have HF:Hd (ls.any (Zx ss kd m k n num)=true):=List.any_eq_true.2 ⟨ls[j],lV hjl,his⟩;have his2:ls[j].s=ss/\(ls[j].kd=kd/\ls[j].m=m/\ls[j].k=k/\ls[j].n=n)/\ls[j].r=false/\ls[j].f<=num/\num<ls[j].f+ls[j].c:=by simpa [Zx] using his
     obtain⟨e0,⟨e1,e2,e3,e4⟩,e8,e5,e6⟩:=his2;rw [e0] at l0;rw [e1] at l2;rw [e2] at l3;rw [e3] at l4;rw [e4] at l5;rw [e8] at l8;clear his e0 e1 e2 e3 e4 e8;generalize ls[j]=l at *;go_wp2;go_ret;exact⟨by rw [HFi.o,HF.o];rfl,HX.o.alloc _⟩
    ·have HN2:Hd (∀x∈ls.take (j+1),Zx ss kd m k n num x=false):=Qy hjl HNO.o (by simpa using his);have HNC:Hd (¬(ls[j].s=ss/\(ls[j].kd=kd/\ls[j].m=m/\ls[j].k=k/\ls[j].n=n)/\ls[j].r=false/\ls[j].f<=num/\num<ls[j].f+ls[j].c)):=by
      have his2:¬(ls[j].s=ss/\(ls[j].kd=kd/\ls[j].m=m/\ls[j].k=k/\ls[j].n=n)/\ls[j].r=false/\ls[j].f<=num/\num<ls[j].f+ls[j].c):=by simpa [Zx] using his
      exact his2
     clear his;generalize ls[j]=l at *;obtain⟨ls0,ls1,lkd,lm,lk,ln,lf,lc,lr⟩:=l;simp only at *;by_cases hs:ls0=ss
     ·subst hs;by_cases hb1:(lkd == kd && (lm == m && (lk == k && ln == n)))=true
      ·cases lr with
       | true=>
        go_wp2
        go_roundw
        case rel=>exact⟨j+1,by omega,by go_num,HN2.o,HX2.o.alloc _⟩
        case measure=>simp [intOf];omega
       | false=>
        by_cases hfn:lf<=num
        ·by_cases hcn:num<lf+lc
         ·exact absurd ⟨rfl,by simpa using hb1,rfl,hfn,hcn⟩ HNC.o
         ·clear HNC;go_wp2
          go_roundw
          case rel=>exact⟨j+1,by omega,by go_num,HN2.o,HX2.o.alloc _⟩
          case measure=>simp [intOf];omega
        ·clear HNC;go_wp2
         go_roundw
         case rel=>exact⟨j+1,by omega,by go_num,HN2.o,HX2.o.alloc _⟩
         case measure=>simp [intOf];omega
      ·have hb2:(lkd == kd && (lm == m && (lk == k && ln == n)))=false:=by simpa using hb1
       clear hb1 HNC;go_wp2
       go_roundw
       case rel=>exact⟨j+1,by omega,by go_num,HN2.o,HX2.o.alloc _⟩
       case measure=>simp [intOf];omega
     ·clear HNC;go_wp2
      go_roundw
      case rel=>exact⟨j+1,by omega,by go_num,HN2.o,HX2.o.alloc _⟩
      case measure=>simp [intOf];omega
   ·obtain rfl:j=len:=by omega
    have HF:Hd (ls.any (Zx ss kd m k n num)=false):=List.any_eq_false.2 (fun x hx=>by have h1:=HNO.o;rw [rM (by rw [HLEN.o];exact lO _)] at h1;simp [h1 x hx])
    go_wp2;go_ret;exact⟨by rw [HFi.o,HF.o];rfl,HX.o⟩
end
end Go.Proofs.YtmnjhhachdlmkaaGreat
