import Derived.Test.YtmnjhhachdlmkaaGreatK13
namespace Go.Proofs.YtmnjhhachdlmkaaGreat
set_option linter.all false
set_option maxRecDepth 100000
set_option maxHeartbeats 1600000
open Tryz
open Ext renaming refl -> lI, grown -> rG
open World renaming ownsRow_nil -> rB, alloc -> lP
open Nat renaming zero_le -> lT, le_refl -> lO
open IntKind renaming wrap_i64 -> rP
open List renaming length_map -> rU, getElem_append_left -> sM
open Go.RowKit Go.Maps
open List renaming getElem_toArray -> lA, getElem_cons_succ -> lB, getElem_cons_zero -> lC, setIfInBounds_toArray -> lD, set_cons_zero -> lE, set_cons_succ -> lF
open World renaming block_lt_of_cell? -> lG
open Value renaming ownBlock -> lH
section
structure Ans where
 c:Int
 f:Int
 n:Int
 zs:List Int
 next:Option (List Stk×List LsV)
structure RefSo (G:Nat->Prop)(A:Ans)(w w':World)(pv v:Value):Prop where
 row:w'.ownsRow w.heap.size 146 1 v A.zs.length (A.zs.map (Value.int .u64))
 ext:Ext w w'
 next:(A.next=none/\pv=.pointer none)\/∃S' ls' q,A.next=some (S',ls')/\pv=.pointer (some ⟨q,0,none⟩)/\RefAt w' (ZO G w w') q S' ls'
theorem RefAt.mono {G G':Nat->Prop}{w:World}{p:Nat}{S:List Stk}{ls:List LsV}(h:RefAt w G p S ls)(hg:∀b,G b->G' b):RefAt w G' p S ls:=by obtain⟨stv,lsv,css,h1,h2,h3,h4,h5,h6⟩:=h;exact⟨stv,lsv,css,h1,hg _ h2,h3.mono hg,h4,fun i hi=>let ⟨cs,k1,k2⟩:=h5 i hi;⟨cs,k1,k2.mono hg⟩,h6.mono hg⟩
theorem RefSo.step {G:Nat->Prop}{A:Ans}{w w1 w2:World}{pv v:Value}(h:RefSo G A w1 w2 pv v)(hx:Ext w w1)(hG:∀b,G b->b<w.heap.size){g:Nat}(hg:w.heap.size<=g)(hg1:g<w1.heap.size)(a b c d:Value):RefSo G A w ((((w2.setCell ⟨g,0,none⟩ a).setCell ⟨g,1,none⟩ b).setCell ⟨g,2,none⟩ c).setCell ⟨g,3,none⟩ d) pv v:=by
 obtain⟨h1,h2,h3⟩:=h;have ht:=yr (g:=g) (lI w2) a b c d;refine⟨zv (ht.owns h1 (fun q hq e=>by have:=(World.ownsRow.lt h1 q hq).1;omega)) hx.le,Z9 (hx.trans h2) hg a b c d,?_⟩;rcases h3 with h3|⟨S',ls',q,hn,e,hr⟩
 ·exact .inl h3
 ·refine .inr ⟨S',ls',q,hn,e,(hr.turn ht (fun b hb e=>?_)).mono (fun b hb=>?_)⟩
  ·rcases hb with hb|hb
   ·have:=hG b hb;omega
   ·omega
  ·rcases hb with hb|hb
   ·exact .inl hb
   ·exact .inr ⟨Nat.le_trans hx.le hb.1,Nat.lt_of_lt_of_le hb.2 ht.size⟩
def Ans.code (c:Int):Ans:=⟨c,0,0,[],none⟩
theorem Ql (G:Nat->Prop)(c:Int){w w':World}(hx:Ext w w'):RefSo G (.code c) w w' (.pointer none) (.slice none 0 0):=⟨rB _ _ _ _,hx,.inl ⟨rfl,rfl⟩⟩
theorem U1 {G:Nat->Prop}(p:Nat)(kk s i kd m k n f c pp:Int)(hR:∀w',Calls Tryz.prog 153 #[zN kk s i kd m k n f c pp] w' fun e w''=>e=.returned (.bool false)/\Ext w' w'')(w:World)(hG:∀b,G b->b<w.heap.size) :
  Calls Tryz.prog 149 #[.pointer (some ⟨p,0,none⟩),zN kk s i kd m k n f c pp] w fun e w'=>∃pv v,e=.returned (.tuple #[pv,zr 1 0 0 v])/\RefSo G (.code 1) w w' pv v:=by
 have HRt:=hid hR;have HCo:Hd (∀w',_):=fun w'=>yn 1 w'
 have HG:=hid hG;clear hR hG;unfold zr at *;unfold zN at *;go_enter func149,ntmps149;go_wp2_with fail
 have hres0:=zf2 w kk s i kd m k n f c pp;have hreq0:=zf4 w kk s i kd m k n f c pp;have hXW:=zf3 w kk s i kd m k n f c pp;generalize lP (lP w _) _=W at hres0 hreq0 hXW ⊢;have r0:W.cell? ⟨w.heap.size,0,none⟩=some (.int .i64 kk):=zc hreq0 rfl;have r1:W.cell? ⟨w.heap.size,1,none⟩=some (.int .i64 s):=zc hreq0 rfl;have r2:W.cell? ⟨w.heap.size,2,none⟩=some (.int .i64 i):=zc hreq0 rfl;have r3:W.cell? ⟨w.heap.size,3,none⟩=some (.int .i64 kd):=zc hreq0 rfl;have r4:W.cell? ⟨w.heap.size,4,none⟩=some (.int .i64 m):=zc hreq0 rfl;have r5:W.cell? ⟨w.heap.size,5,none⟩=some (.int .i64 k):=zc hreq0 rfl;have r6:W.cell? ⟨w.heap.size,6,none⟩=some (.int .i64 n):=zc hreq0 rfl;have r7:W.cell? ⟨w.heap.size,7,none⟩=some (.int .i64 f):=zc hreq0 rfl;have r8:W.cell? ⟨w.heap.size,8,none⟩=some (.int .i64 c):=zc hreq0 rfl;have r9:W.cell? ⟨w.heap.size,9,none⟩=some (.int .i64 pp):=zc hreq0 rfl;have hrl0:=lG W _ r0;go_wp2_with fail
 refine(HRt.o W).mono ?_;rintro e w1 ⟨rfl,hx1⟩;have HX1:Hd (Ext w w1):=hXW.trans hx1;have HRS:Hd _:=hx1.block hres0;have HRQ:Hd _:=hx1.block hreq0;clear hx1 hXW hres0 hreq0 r0 r1 r2 r3 r4 r5 r6 r7 r8 r9;have r0:w1.cell? ⟨w.heap.size,0,none⟩=some (.int .i64 kk):=zc HRQ.o rfl;have r1:w1.cell? ⟨w.heap.size,1,none⟩=some (.int .i64 s):=zc HRQ.o rfl;have r2:w1.cell? ⟨w.heap.size,2,none⟩=some (.int .i64 i):=zc HRQ.o rfl;have r3:w1.cell? ⟨w.heap.size,3,none⟩=some (.int .i64 kd):=zc HRQ.o rfl;have r4:w1.cell? ⟨w.heap.size,4,none⟩=some (.int .i64 m):=zc HRQ.o rfl;have r5:w1.cell? ⟨w.heap.size,5,none⟩=some (.int .i64 k):=zc HRQ.o rfl;have r6:w1.cell? ⟨w.heap.size,6,none⟩=some (.int .i64 n):=zc HRQ.o rfl;have r7:w1.cell? ⟨w.heap.size,7,none⟩=some (.int .i64 f):=zc HRQ.o rfl;have r8:w1.cell? ⟨w.heap.size,8,none⟩=some (.int .i64 c):=zc HRQ.o rfl;have r9:w1.cell? ⟨w.heap.size,9,none⟩=some (.int .i64 pp):=zc HRQ.o rfl;have hrl:=lG w1 _ r0;have hrl1:w.heap.size+1<w1.heap.size:=(Array.getElem?_eq_some_iff.1 HRS.o).1;go_wp2_with fail
 refine(HCo.o _).mono ?_;rintro e w9 ⟨rfl,hx9⟩;have hr9:=hx9.block HRS.o;have o0:=zc hr9 (i:=0) rfl;have f0:=ze hr9 0;have o1:=zc hr9 (i:=1) rfl;have f1:=ze hr9 1;have o2:=zc hr9 (i:=2) rfl;have f2:=ze hr9 2;have o3:=zc hr9 (i:=3) rfl;have f3:=ze hr9 3;have HX9:=hid hx9;clear hr9 hx9;go_wp2;refine bodyPost_ret (v:=.tuple #[.pointer none,.agg #[.int .i64 1,.int .i64 0,.int .i64 0,.slice none 0 0]]) (by simp [results,results149,go_sem,o0,o1,o2,o3]) rfl ?_;exact⟨_,_,rfl,(Ql G 1 HX9.o).step HX1.o HG.o (by omega) hrl1 _ _ _ _⟩
theorem qp {G:Nat->Prop}(A:Ans)(p:Nat)(kk s i kd m k n f c pp:Int)(hkk:kk=1)(hR:∀w',Calls Tryz.prog 153 #[zN kk s i kd m k n f c pp] w' fun e w''=>e=.returned (.bool true)/\Ext w' w'')(w:World)(hG:∀b,G b->b<w.heap.size)
  (hin:∀w',Ext w w'->Calls Tryz.prog 177 #[.pointer (some ⟨p,0,none⟩),zN kk s i kd m k n f c pp] w' fun e w''=>∃pa va vl vc,e=.returned (.tuple #[.pointer pa,zr A.c A.f A.n (.slice va vl vc)])/\RefSo G A w' w'' (.pointer pa) (.slice va vl vc)) :
  Calls Tryz.prog 149 #[.pointer (some ⟨p,0,none⟩),zN kk s i kd m k n f c pp] w fun e w'=>∃pv v,e=.returned (.tuple #[pv,zr A.c A.f A.n v])/\RefSo G A w w' pv v:=by
 have HRt:=hid hR;have HC:=hid hin;have HG:=hid hG;clear hR hG hin;have hk1:(kk == 1)=true:=by rw [hkk];rfl
 have hk2:(kk == 2)=false:=by rw [hkk];rfl
 have hk3:(kk == 3)=false:=by rw [hkk];rfl
 clear hkk;unfold zr at *;unfold zN at *;go_enter func149,ntmps149;go_wp2_with fail
 have hres0:=zf2 w kk s i kd m k n f c pp;have hreq0:=zf4 w kk s i kd m k n f c pp;have hXW:=zf3 w kk s i kd m k n f c pp;generalize lP (lP w _) _=W at hres0 hreq0 hXW ⊢;have r0:W.cell? ⟨w.heap.size,0,none⟩=some (.int .i64 kk):=zc hreq0 rfl;have r1:W.cell? ⟨w.heap.size,1,none⟩=some (.int .i64 s):=zc hreq0 rfl;have r2:W.cell? ⟨w.heap.size,2,none⟩=some (.int .i64 i):=zc hreq0 rfl;have r3:W.cell? ⟨w.heap.size,3,none⟩=some (.int .i64 kd):=zc hreq0 rfl;have r4:W.cell? ⟨w.heap.size,4,none⟩=some (.int .i64 m):=zc hreq0 rfl;have r5:W.cell? ⟨w.heap.size,5,none⟩=some (.int .i64 k):=zc hreq0 rfl;have r6:W.cell? ⟨w.heap.size,6,none⟩=some (.int .i64 n):=zc hreq0 rfl;have r7:W.cell? ⟨w.heap.size,7,none⟩=some (.int .i64 f):=zc hreq0 rfl;have r8:W.cell? ⟨w.heap.size,8,none⟩=some (.int .i64 c):=zc hreq0 rfl;have r9:W.cell? ⟨w.heap.size,9,none⟩=some (.int .i64 pp):=zc hreq0 rfl;have hrl0:=lG W _ r0;go_wp2_with fail
 refine(HRt.o W).mono ?_;rintro e w1 ⟨rfl,hx1⟩;have HX1:Hd (Ext w w1):=hXW.trans hx1;have HRS:Hd _:=hx1.block hres0;have HRQ:Hd _:=hx1.block hreq0;clear hx1 hXW hres0 hreq0 r0 r1 r2 r3 r4 r5 r6 r7 r8 r9;have r0:w1.cell? ⟨w.heap.size,0,none⟩=some (.int .i64 kk):=zc HRQ.o rfl;have r1:w1.cell? ⟨w.heap.size,1,none⟩=some (.int .i64 s):=zc HRQ.o rfl;have r2:w1.cell? ⟨w.heap.size,2,none⟩=some (.int .i64 i):=zc HRQ.o rfl;have r3:w1.cell? ⟨w.heap.size,3,none⟩=some (.int .i64 kd):=zc HRQ.o rfl;have r4:w1.cell? ⟨w.heap.size,4,none⟩=some (.int .i64 m):=zc HRQ.o rfl;have r5:w1.cell? ⟨w.heap.size,5,none⟩=some (.int .i64 k):=zc HRQ.o rfl;have r6:w1.cell? ⟨w.heap.size,6,none⟩=some (.int .i64 n):=zc HRQ.o rfl;have r7:w1.cell? ⟨w.heap.size,7,none⟩=some (.int .i64 f):=zc HRQ.o rfl;have r8:w1.cell? ⟨w.heap.size,8,none⟩=some (.int .i64 c):=zc HRQ.o rfl;have r9:w1.cell? ⟨w.heap.size,9,none⟩=some (.int .i64 pp):=zc HRQ.o rfl;have hrl:=lG w1 _ r0;have hrl1:w.heap.size+1<w1.heap.size:=(Array.getElem?_eq_some_iff.1 HRS.o).1;go_wp2_with fail
 refine(HC.o _ HX1.o).mono ?_;rintro e w9 ⟨pa,va,vl,vc,rfl,hso⟩;have hr9:=hso.ext.block HRS.o;have o0:=zc hr9 (i:=0) rfl;have f0:=ze hr9 0;have o1:=zc hr9 (i:=1) rfl;have f1:=ze hr9 1;have o2:=zc hr9 (i:=2) rfl;have f2:=ze hr9 2;have o3:=zc hr9 (i:=3) rfl;have f3:=ze hr9 3;have HSO:Hd _:=hso;clear hr9 hso;go_wp2;refine bodyPost_ret (v:=.tuple #[.pointer pa,.agg #[.int .i64 A.c,.int .i64 A.f,.int .i64 A.n,.slice va vl vc]]) (by simp [results,results149,go_sem,o0,o1,o2,o3]) rfl ?_;exact⟨_,_,rfl,HSO.o.step HX1.o HG.o (by omega) hrl1 _ _ _ _⟩
theorem qP {G:Nat->Prop}(A:Ans)(p:Nat)(kk s i kd m k n f c pp:Int)(hkk:kk=3)(hR:∀w',Calls Tryz.prog 153 #[zN kk s i kd m k n f c pp] w' fun e w''=>e=.returned (.bool true)/\Ext w' w'')(w:World)(hG:∀b,G b->b<w.heap.size)
  (hin:∀w',Ext w w'->Calls Tryz.prog 179 #[.pointer (some ⟨p,0,none⟩),zN kk s i kd m k n f c pp] w' fun e w''=>∃pa va vl vc,e=.returned (.tuple #[.pointer pa,zr A.c A.f A.n (.slice va vl vc)])/\RefSo G A w' w'' (.pointer pa) (.slice va vl vc)) :
  Calls Tryz.prog 149 #[.pointer (some ⟨p,0,none⟩),zN kk s i kd m k n f c pp] w fun e w'=>∃pv v,e=.returned (.tuple #[pv,zr A.c A.f A.n v])/\RefSo G A w w' pv v:=by
 have HRt:=hid hR;have HC:=hid hin;have HG:=hid hG;clear hR hG hin;have hk1:(kk == 1)=false:=by rw [hkk];rfl
 have hk2:(kk == 2)=false:=by rw [hkk];rfl
 have hk3:(kk == 3)=true:=by rw [hkk];rfl
 clear hkk;unfold zr at *;unfold zN at *;go_enter func149,ntmps149;go_wp2_with fail
 have hres0:=zf2 w kk s i kd m k n f c pp;have hreq0:=zf4 w kk s i kd m k n f c pp;have hXW:=zf3 w kk s i kd m k n f c pp;generalize lP (lP w _) _=W at hres0 hreq0 hXW ⊢;have r0:W.cell? ⟨w.heap.size,0,none⟩=some (.int .i64 kk):=zc hreq0 rfl;have r1:W.cell? ⟨w.heap.size,1,none⟩=some (.int .i64 s):=zc hreq0 rfl;have r2:W.cell? ⟨w.heap.size,2,none⟩=some (.int .i64 i):=zc hreq0 rfl;have r3:W.cell? ⟨w.heap.size,3,none⟩=some (.int .i64 kd):=zc hreq0 rfl;have r4:W.cell? ⟨w.heap.size,4,none⟩=some (.int .i64 m):=zc hreq0 rfl;have r5:W.cell? ⟨w.heap.size,5,none⟩=some (.int .i64 k):=zc hreq0 rfl;have r6:W.cell? ⟨w.heap.size,6,none⟩=some (.int .i64 n):=zc hreq0 rfl;have r7:W.cell? ⟨w.heap.size,7,none⟩=some (.int .i64 f):=zc hreq0 rfl;have r8:W.cell? ⟨w.heap.size,8,none⟩=some (.int .i64 c):=zc hreq0 rfl;have r9:W.cell? ⟨w.heap.size,9,none⟩=some (.int .i64 pp):=zc hreq0 rfl;have hrl0:=lG W _ r0;go_wp2_with fail
 refine(HRt.o W).mono ?_;rintro e w1 ⟨rfl,hx1⟩;have HX1:Hd (Ext w w1):=hXW.trans hx1;have HRS:Hd _:=hx1.block hres0;have HRQ:Hd _:=hx1.block hreq0;clear hx1 hXW hres0 hreq0 r0 r1 r2 r3 r4 r5 r6 r7 r8 r9;have r0:w1.cell? ⟨w.heap.size,0,none⟩=some (.int .i64 kk):=zc HRQ.o rfl;have r1:w1.cell? ⟨w.heap.size,1,none⟩=some (.int .i64 s):=zc HRQ.o rfl;have r2:w1.cell? ⟨w.heap.size,2,none⟩=some (.int .i64 i):=zc HRQ.o rfl;have r3:w1.cell? ⟨w.heap.size,3,none⟩=some (.int .i64 kd):=zc HRQ.o rfl;have r4:w1.cell? ⟨w.heap.size,4,none⟩=some (.int .i64 m):=zc HRQ.o rfl;have r5:w1.cell? ⟨w.heap.size,5,none⟩=some (.int .i64 k):=zc HRQ.o rfl;have r6:w1.cell? ⟨w.heap.size,6,none⟩=some (.int .i64 n):=zc HRQ.o rfl;have r7:w1.cell? ⟨w.heap.size,7,none⟩=some (.int .i64 f):=zc HRQ.o rfl;have r8:w1.cell? ⟨w.heap.size,8,none⟩=some (.int .i64 c):=zc HRQ.o rfl;have r9:w1.cell? ⟨w.heap.size,9,none⟩=some (.int .i64 pp):=zc HRQ.o rfl;have hrl:=lG w1 _ r0;have hrl1:w.heap.size+1<w1.heap.size:=(Array.getElem?_eq_some_iff.1 HRS.o).1;go_wp2_with fail
 refine(HC.o _ HX1.o).mono ?_;rintro e w9 ⟨pa,va,vl,vc,rfl,hso⟩;have hr9:=hso.ext.block HRS.o;have o0:=zc hr9 (i:=0) rfl;have f0:=ze hr9 0;have o1:=zc hr9 (i:=1) rfl;have f1:=ze hr9 1;have o2:=zc hr9 (i:=2) rfl;have f2:=ze hr9 2;have o3:=zc hr9 (i:=3) rfl;have f3:=ze hr9 3;have HSO:Hd _:=hso;clear hr9 hso;go_wp2;refine bodyPost_ret (v:=.tuple #[.pointer pa,.agg #[.int .i64 A.c,.int .i64 A.f,.int .i64 A.n,.slice va vl vc]]) (by simp [results,results149,go_sem,o0,o1,o2,o3]) rfl ?_;exact⟨_,_,rfl,HSO.o.step HX1.o HG.o (by omega) hrl1 _ _ _ _⟩
theorem qo {G:Nat->Prop}(A:Ans)(p:Nat)(kk s i kd m k n f c pp:Int)(hkk:kk=2)(hR:∀w',Calls Tryz.prog 153 #[zN kk s i kd m k n f c pp] w' fun e w''=>e=.returned (.bool true)/\Ext w' w'')(w:World)(hG:∀b,G b->b<w.heap.size)
  (hin:∀w',Ext w w'->Calls Tryz.prog 178 #[.pointer (some ⟨p,0,none⟩),zN kk s i kd m k n f c pp] w' fun e w''=>∃va vl vc,e=.returned (zr A.c A.f A.n (.slice va vl vc))/\RefSo G A w' w'' (.pointer none) (.slice va vl vc)) :
  Calls Tryz.prog 149 #[.pointer (some ⟨p,0,none⟩),zN kk s i kd m k n f c pp] w fun e w'=>∃pv v,e=.returned (.tuple #[pv,zr A.c A.f A.n v])/\RefSo G A w w' pv v:=by
 have HRt:=hid hR;have HC:=hid hin;have HG:=hid hG;clear hR hG hin;have hk1:(kk == 1)=false:=by rw [hkk];rfl
 have hk2:(kk == 2)=true:=by rw [hkk];rfl
 clear hkk;unfold zr at *;unfold zN at *;go_enter func149,ntmps149;go_wp2_with fail
 have hres0:=zf2 w kk s i kd m k n f c pp;have hreq0:=zf4 w kk s i kd m k n f c pp;have hXW:=zf3 w kk s i kd m k n f c pp;generalize lP (lP w _) _=W at hres0 hreq0 hXW ⊢;have r0:W.cell? ⟨w.heap.size,0,none⟩=some (.int .i64 kk):=zc hreq0 rfl;have r1:W.cell? ⟨w.heap.size,1,none⟩=some (.int .i64 s):=zc hreq0 rfl;have r2:W.cell? ⟨w.heap.size,2,none⟩=some (.int .i64 i):=zc hreq0 rfl;have r3:W.cell? ⟨w.heap.size,3,none⟩=some (.int .i64 kd):=zc hreq0 rfl;have r4:W.cell? ⟨w.heap.size,4,none⟩=some (.int .i64 m):=zc hreq0 rfl;have r5:W.cell? ⟨w.heap.size,5,none⟩=some (.int .i64 k):=zc hreq0 rfl;have r6:W.cell? ⟨w.heap.size,6,none⟩=some (.int .i64 n):=zc hreq0 rfl;have r7:W.cell? ⟨w.heap.size,7,none⟩=some (.int .i64 f):=zc hreq0 rfl;have r8:W.cell? ⟨w.heap.size,8,none⟩=some (.int .i64 c):=zc hreq0 rfl;have r9:W.cell? ⟨w.heap.size,9,none⟩=some (.int .i64 pp):=zc hreq0 rfl;have hrl0:=lG W _ r0;go_wp2_with fail
 refine(HRt.o W).mono ?_;rintro e w1 ⟨rfl,hx1⟩;have HX1:Hd (Ext w w1):=hXW.trans hx1;have HRS:Hd _:=hx1.block hres0;have HRQ:Hd _:=hx1.block hreq0;clear hx1 hXW hres0 hreq0 r0 r1 r2 r3 r4 r5 r6 r7 r8 r9;have r0:w1.cell? ⟨w.heap.size,0,none⟩=some (.int .i64 kk):=zc HRQ.o rfl;have r1:w1.cell? ⟨w.heap.size,1,none⟩=some (.int .i64 s):=zc HRQ.o rfl;have r2:w1.cell? ⟨w.heap.size,2,none⟩=some (.int .i64 i):=zc HRQ.o rfl;have r3:w1.cell? ⟨w.heap.size,3,none⟩=some (.int .i64 kd):=zc HRQ.o rfl;have r4:w1.cell? ⟨w.heap.size,4,none⟩=some (.int .i64 m):=zc HRQ.o rfl;have r5:w1.cell? ⟨w.heap.size,5,none⟩=some (.int .i64 k):=zc HRQ.o rfl;have r6:w1.cell? ⟨w.heap.size,6,none⟩=some (.int .i64 n):=zc HRQ.o rfl;have r7:w1.cell? ⟨w.heap.size,7,none⟩=some (.int .i64 f):=zc HRQ.o rfl;have r8:w1.cell? ⟨w.heap.size,8,none⟩=some (.int .i64 c):=zc HRQ.o rfl;have r9:w1.cell? ⟨w.heap.size,9,none⟩=some (.int .i64 pp):=zc HRQ.o rfl;have hrl:=lG w1 _ r0;have hrl1:w.heap.size+1<w1.heap.size:=(Array.getElem?_eq_some_iff.1 HRS.o).1;go_wp2_with fail
 refine(HC.o _ HX1.o).mono ?_;rintro e w9 ⟨va,vl,vc,rfl,hso⟩;have hr9:=hso.ext.block HRS.o;have o0:=zc hr9 (i:=0) rfl;have f0:=ze hr9 0;have o1:=zc hr9 (i:=1) rfl;have f1:=ze hr9 1;have o2:=zc hr9 (i:=2) rfl;have f2:=ze hr9 2;have o3:=zc hr9 (i:=3) rfl;have f3:=ze hr9 3;have HSO:Hd _:=hso;clear hr9 hso;go_wp2;refine bodyPost_ret (v:=.tuple #[.pointer none,.agg #[.int .i64 A.c,.int .i64 A.f,.int .i64 A.n,.slice va vl vc]]) (by simp [results,results149,go_sem,o0,o1,o2,o3]) rfl ?_;exact⟨_,_,rfl,HSO.o.step HX1.o HG.o (by omega) hrl1 _ _ _ _⟩
theorem xN {G:Nat->Prop}(p:Nat)(S:List Stk)(ls:List LsV)(kk s i kd m k n f c pp:Int)(hkk:kk=4)(hR:∀w',Calls Tryz.prog 153 #[zN kk s i kd m k n f c pp] w' fun e w''=>e=.returned (.bool true)/\Ext w' w'')(hS:S.length<=100)(hf:S.findIdx? (fun x=>x.is kd m k n)=none)(w:World)(hG:∀b,G b->b<w.heap.size)(h:RefAt w G p S ls) :
  Calls Tryz.prog 149 #[.pointer (some ⟨p,0,none⟩),zN kk s i kd m k n f c pp] w fun e w'=>∃pv v,e=.returned (.tuple #[pv,zr 2 0 0 v])/\RefSo G (.code 2) w w' pv v:=by
 have HRt:=hid hR;have HCo:Hd (∀w',_):=fun w'=>yn 2 w'
 have HFi:Hd (∀w',Ext w w'->Calls Tryz.prog 147 #[.pointer (some ⟨p,0,none⟩),.agg #[.int .i64 kd,.int .i64 m,.int .i64 k,.int .i64 n]] w' fun e w''=>e=.returned (.int .i64 (-1))/\Ext w' w''):=fun w' hx=>by have:=yB p S ls kd m k n hS w' (h.ext hx);rw [hf] at this;exact this
 have HG:=hid hG;clear hR hG h hf;have hk1:(kk == 1)=false:=by rw [hkk];rfl
 have hk2:(kk == 2)=false:=by rw [hkk];rfl
 have hk3:(kk == 3)=false:=by rw [hkk];rfl
 clear hkk;unfold zr at *;unfold zN at *;go_enter func149,ntmps149;go_wp2_with fail
 have hres0:=zf2 w kk s i kd m k n f c pp;have hreq0:=zf4 w kk s i kd m k n f c pp;have hXW:=zf3 w kk s i kd m k n f c pp;generalize lP (lP w _) _=W at hres0 hreq0 hXW ⊢;have r0:W.cell? ⟨w.heap.size,0,none⟩=some (.int .i64 kk):=zc hreq0 rfl;have r1:W.cell? ⟨w.heap.size,1,none⟩=some (.int .i64 s):=zc hreq0 rfl;have r2:W.cell? ⟨w.heap.size,2,none⟩=some (.int .i64 i):=zc hreq0 rfl;have r3:W.cell? ⟨w.heap.size,3,none⟩=some (.int .i64 kd):=zc hreq0 rfl;have r4:W.cell? ⟨w.heap.size,4,none⟩=some (.int .i64 m):=zc hreq0 rfl;have r5:W.cell? ⟨w.heap.size,5,none⟩=some (.int .i64 k):=zc hreq0 rfl;have r6:W.cell? ⟨w.heap.size,6,none⟩=some (.int .i64 n):=zc hreq0 rfl;have r7:W.cell? ⟨w.heap.size,7,none⟩=some (.int .i64 f):=zc hreq0 rfl;have r8:W.cell? ⟨w.heap.size,8,none⟩=some (.int .i64 c):=zc hreq0 rfl;have r9:W.cell? ⟨w.heap.size,9,none⟩=some (.int .i64 pp):=zc hreq0 rfl;have hrl0:=lG W _ r0;go_wp2_with fail
 refine(HRt.o W).mono ?_;rintro e w1 ⟨rfl,hx1⟩;have HX1:Hd (Ext w w1):=hXW.trans hx1;have HRS:Hd _:=hx1.block hres0;have HRQ:Hd _:=hx1.block hreq0;clear hx1 hXW hres0 hreq0 r0 r1 r2 r3 r4 r5 r6 r7 r8 r9;have r0:w1.cell? ⟨w.heap.size,0,none⟩=some (.int .i64 kk):=zc HRQ.o rfl;have r1:w1.cell? ⟨w.heap.size,1,none⟩=some (.int .i64 s):=zc HRQ.o rfl;have r2:w1.cell? ⟨w.heap.size,2,none⟩=some (.int .i64 i):=zc HRQ.o rfl;have r3:w1.cell? ⟨w.heap.size,3,none⟩=some (.int .i64 kd):=zc HRQ.o rfl;have r4:w1.cell? ⟨w.heap.size,4,none⟩=some (.int .i64 m):=zc HRQ.o rfl;have r5:w1.cell? ⟨w.heap.size,5,none⟩=some (.int .i64 k):=zc HRQ.o rfl;have r6:w1.cell? ⟨w.heap.size,6,none⟩=some (.int .i64 n):=zc HRQ.o rfl;have r7:w1.cell? ⟨w.heap.size,7,none⟩=some (.int .i64 f):=zc HRQ.o rfl;have r8:w1.cell? ⟨w.heap.size,8,none⟩=some (.int .i64 c):=zc HRQ.o rfl;have r9:w1.cell? ⟨w.heap.size,9,none⟩=some (.int .i64 pp):=zc HRQ.o rfl;have hrl:=lG w1 _ r0;have hrl1:w.heap.size+1<w1.heap.size:=(Array.getElem?_eq_some_iff.1 HRS.o).1;go_wp2_with fail
 refine(HFi.o _ HX1.o).mono ?_;rintro e w2 ⟨rfl,hx2⟩;have HX2:=hid hx2;clear hx2;go_wp2_with fail
 refine(HCo.o _).mono ?_;rintro e w9 ⟨rfl,hx9⟩;have HX9:Hd (Ext w1 w9):=HX2.o.trans hx9;have hr9:=HX9.o.block HRS.o;have o0:=zc hr9 (i:=0) rfl;have f0:=ze hr9 0;have o1:=zc hr9 (i:=1) rfl;have f1:=ze hr9 1;have o2:=zc hr9 (i:=2) rfl;have f2:=ze hr9 2;have o3:=zc hr9 (i:=3) rfl;have f3:=ze hr9 3;clear hr9 hx9;go_wp2;refine bodyPost_ret (v:=.tuple #[.pointer none,.agg #[.int .i64 2,.int .i64 0,.int .i64 0,.slice none 0 0]]) (by simp [results,results149,go_sem,o0,o1,o2,o3]) rfl ?_;exact⟨_,_,rfl,(Ql G 2 HX9.o).step HX1.o HG.o (by omega) hrl1 _ _ _ _⟩
theorem vu {G:Nat->Prop}(p ix:Nat)(S:List Stk)(ls:List LsV)(kk s i kd m k n f c pp:Int)(hkk:kk=4)(hR:∀w',Calls Tryz.prog 153 #[zN kk s i kd m k n f c pp] w' fun e w''=>e=.returned (.bool true)/\Ext w' w'')(hS:S.length<=100)(hix:ix<S.length)(hf:S.findIdx? (fun x=>x.is kd m k n)=some ix)(w:World)(hG:∀b,G b->b<w.heap.size)(h:RefAt w G p S ls) :
  Calls Tryz.prog 149 #[.pointer (some ⟨p,0,none⟩),zN kk s i kd m k n f c pp] w fun e w'=>∃pv v,e=.returned (.tuple #[pv,zr 0 S[ix].leased S[ix].ts.length v])/\RefSo G ⟨0,S[ix].leased,S[ix].ts.length,[],none⟩ w w' pv v:=by
 have HRt:=hid hR;have HFi:Hd (∀w',Ext w w'->Calls Tryz.prog 147 #[.pointer (some ⟨p,0,none⟩),.agg #[.int .i64 kd,.int .i64 m,.int .i64 k,.int .i64 n]] w' fun e w''=>e=.returned (.int .i64 (ix:Int))/\Ext w' w''):=fun w' hx=>by have:=yB p S ls kd m k n hS w' (h.ext hx);rw [hf] at this;exact this
 have HG:=hid hG;obtain⟨stv,lsv,css0,h1,h2,h3,h4,h5,h6⟩:=h;have c0:w.cell? ⟨p,0,none⟩=some stv:=zc h1 rfl;have hp:p<w.heap.size:=lG w _ c0;obtain⟨g,cap,ta,tcap,vs,rfl,hcap,_,⟨_,_,_,_,s4,s5,_⟩,_,_,_⟩:=Yw h3 h4 h5 ix hix;have hgl:=lG w _ s4;obtain⟨len,hl⟩:∃len,S.length=len:=⟨_,rfl⟩
 obtain⟨tn,htn⟩:∃tn,S[ix].ts.length=tn:=⟨_,rfl⟩
 obtain⟨sl,hsl⟩:∃sl,S[ix].leased=sl:=⟨_,rfl⟩
 have HE:Hd (S[ix].ts.length=tn/\S[ix].leased=sl):=⟨htn,hsl⟩
 rw [hl] at c0 hcap;have hixl:ix<len:=by omega
 rw [htn] at s4;rw [hsl] at s5;have hk0:(0:Int)<=(ix:Int):=by omega
 have hk1:(ix:Int)<len:=by omega
 clear hR hG hf h1 h2 h3 h4 h5 h6 hl htn hsl;have hk1:(kk == 1)=false:=by rw [hkk];rfl
 have hk2:(kk == 2)=false:=by rw [hkk];rfl
 have hk3:(kk == 3)=false:=by rw [hkk];rfl
 clear hkk;unfold zr at *;unfold zN at *;go_enter func149,ntmps149;go_wp2_with fail
 have hres0:=zf2 w kk s i kd m k n f c pp;have hreq0:=zf4 w kk s i kd m k n f c pp;have hXW:=zf3 w kk s i kd m k n f c pp;generalize lP (lP w _) _=W at hres0 hreq0 hXW ⊢;have r0:W.cell? ⟨w.heap.size,0,none⟩=some (.int .i64 kk):=zc hreq0 rfl;have r1:W.cell? ⟨w.heap.size,1,none⟩=some (.int .i64 s):=zc hreq0 rfl;have r2:W.cell? ⟨w.heap.size,2,none⟩=some (.int .i64 i):=zc hreq0 rfl;have r3:W.cell? ⟨w.heap.size,3,none⟩=some (.int .i64 kd):=zc hreq0 rfl;have r4:W.cell? ⟨w.heap.size,4,none⟩=some (.int .i64 m):=zc hreq0 rfl;have r5:W.cell? ⟨w.heap.size,5,none⟩=some (.int .i64 k):=zc hreq0 rfl;have r6:W.cell? ⟨w.heap.size,6,none⟩=some (.int .i64 n):=zc hreq0 rfl;have r7:W.cell? ⟨w.heap.size,7,none⟩=some (.int .i64 f):=zc hreq0 rfl;have r8:W.cell? ⟨w.heap.size,8,none⟩=some (.int .i64 c):=zc hreq0 rfl;have r9:W.cell? ⟨w.heap.size,9,none⟩=some (.int .i64 pp):=zc hreq0 rfl;have hrl0:=lG W _ r0;go_wp2_with fail
 refine(HRt.o W).mono ?_;rintro e w1 ⟨rfl,hx1⟩;have HX1:Hd (Ext w w1):=hXW.trans hx1;have HRS:Hd _:=hx1.block hres0;have HRQ:Hd _:=hx1.block hreq0;clear hx1 hXW hres0 hreq0 r0 r1 r2 r3 r4 r5 r6 r7 r8 r9;have r0:w1.cell? ⟨w.heap.size,0,none⟩=some (.int .i64 kk):=zc HRQ.o rfl;have r1:w1.cell? ⟨w.heap.size,1,none⟩=some (.int .i64 s):=zc HRQ.o rfl;have r2:w1.cell? ⟨w.heap.size,2,none⟩=some (.int .i64 i):=zc HRQ.o rfl;have r3:w1.cell? ⟨w.heap.size,3,none⟩=some (.int .i64 kd):=zc HRQ.o rfl;have r4:w1.cell? ⟨w.heap.size,4,none⟩=some (.int .i64 m):=zc HRQ.o rfl;have r5:w1.cell? ⟨w.heap.size,5,none⟩=some (.int .i64 k):=zc HRQ.o rfl;have r6:w1.cell? ⟨w.heap.size,6,none⟩=some (.int .i64 n):=zc HRQ.o rfl;have r7:w1.cell? ⟨w.heap.size,7,none⟩=some (.int .i64 f):=zc HRQ.o rfl;have r8:w1.cell? ⟨w.heap.size,8,none⟩=some (.int .i64 c):=zc HRQ.o rfl;have r9:w1.cell? ⟨w.heap.size,9,none⟩=some (.int .i64 pp):=zc HRQ.o rfl;have hrl:=lG w1 _ r0;have hrl1:w.heap.size+1<w1.heap.size:=(Array.getElem?_eq_some_iff.1 HRS.o).1;go_wp2_with fail
 refine(HFi.o _ HX1.o).mono ?_;rintro e w2 ⟨rfl,hx2⟩;have HX2:=hid hx2;have hr9:=hx2.block HRS.o;have o0:=zc hr9 (i:=0) rfl;have f0:=ze hr9 0;have o1:=zc hr9 (i:=1) rfl;have f1:=ze hr9 1;have o2:=zc hr9 (i:=2) rfl;have f2:=ze hr9 2;have o3:=zc hr9 (i:=3) rfl;have f3:=ze hr9 3;have c0:=(HX1.o.trans hx2).cell c0;have s4:=(HX1.o.trans hx2).cell s4;have s5:=(HX1.o.trans hx2).cell s5;have hrl2:w.heap.size+1<w2.heap.size:=lG w2 _ o0;have hpn:w.heap.size+1≠p:=by omega
 have hgn:w.heap.size+1≠g:=by omega
 clear hr9 hx2 r0 r1 r2 r3 r4 r5 r6 r7 r8 r9;go_wp2_with fail
 refine wp_region_held_drew (S:=(fun w'=>w'.cell? ⟨p,0,none⟩=some (.slice (some ⟨g,0,none⟩) len cap)/\w'.cell? ⟨g,ix*7+4,none⟩=some (.slice ta tn tcap)/\w'.cell? ⟨g,ix*7+5,none⟩=some (.int .i64 (sl:Int)))) (by kernel_rfl) ⟨c0,s4,s5⟩ (fun hHeld=>?_);refine zT 0 hHeld ?_;refine zT 1 hHeld ?_;refine zT 2 hHeld ?_;refine zT 3 hHeld ?_;refine zT 4 hHeld ?_;refine zT 5 hHeld ?_;refine zT 6 hHeld ?_;refine zT 7 hHeld ?_;refine zT 8 hHeld ?_;refine zT 9 hHeld ?_;refine zT 10 hHeld ?_;refine zT 11 hHeld ?_;refine zT 12 hHeld ?_;refine zT 13 hHeld ?_;refine zT 14 hHeld ?_;refine zT 15 hHeld ?_;refine zT 16 hHeld ?_;refine zT 17 hHeld ?_;refine zT 18 hHeld ?_;refine zR 19 fun K hK=>?_
 (try simp only [lA,lB,lC])
 go_simp;refine hK.out _ _ ?hs4 (fun hHeld=>?_)
 case hs4=>
  exact⟨qj _ _ _ _ hpn c0,qj _ _ _ _ hgn s4,qj _ _ _ _ hgn s5⟩
 clear hK K
 try simp only [Act.put,lA,lB,lC,lD,lE,lF]
 refine wpAnyH_done (by kernel_rfl) ?_ _;go_wp2;refine bodyPost_ret (v:=.tuple #[.pointer none,.agg #[.int .i64 0,.int .i64 sl,.int .i64 tn,.slice none 0 0]]) (by simp [results,results149,go_sem,o0,o1,o2,o3]) rfl ?_;refine⟨.pointer none,.slice none 0 0,by rw [HE.o.1,HE.o.2],?_⟩;exact⟨rB _ _ _ _,Ext.drew (Z9 (HX1.o.trans HX2.o) (by omega) _ _ _ _),.inl ⟨rfl,rfl⟩⟩
end
section
theorem jF (x0 x1 x2 x3 x4 x5 x6:Int)(w:World):(Op.equalIn 10000 116 (.agg #[.int .i64 x0,.int .i64 x1,.int .i64 x2,.int .i64 x3,.int .i64 x4,.int .i64 x5,.int .i64 x6]) (.agg #[.int .i64 x0,.int .i64 x1,.int .i64 x2,.int .i64 x3,.int .i64 x4,.int .i64 x5,.int .i64 x6])).run Tryz.prog w=.ok true w:=by
 have u3:=underlying3;have a3:=Tryz.isAgg3;have z3:=Tryz.sizeOf3;have a23:=Tryz.isAgg49;have z23:=Tryz.sizeOf49;have hc:=fun (a b c e a' b' c' e':Int) (w:World)=>Ya 9997 a b c e a' b' c' e' w
 have hS:Tryz.prog.underlying 116=some (.struct (Tryz.prog.fieldsOf 116)):=by kernel_rfl
 have hp:Tryz.prog.stoodInHeld 116=false:=by kernel_rfl
 rw [show (10000:Nat)=9999+1 from rfl,run_equalIn_agg w 9999 116 _ _ hS hp];simp only [Program.fieldsOf,underlying116];go_simp
theorem jG (x0 x1 x2 x3 x4 x5 x6 x7:Int)(r:Bool)(w:World):(Op.equalIn 10000 56 (.agg #[.int .i64 x0,.int .i64 x1,.int .i64 x2,.int .i64 x3,.int .i64 x4,.int .i64 x5,.int .i64 x6,.int .i64 x7,.bool r]) (.agg #[.int .i64 x0,.int .i64 x1,.int .i64 x2,.int .i64 x3,.int .i64 x4,.int .i64 x5,.int .i64 x6,.int .i64 x7,.bool r])).run Tryz.prog w=.ok true w:=by
 have u3:=underlying3;have a3:=Tryz.isAgg3;have z3:=Tryz.sizeOf3;have a23:=Tryz.isAgg49;have z23:=Tryz.sizeOf49;have hc:=fun (a b c e a' b' c' e':Int) (w:World)=>Ya 9997 a b c e a' b' c' e' w
 have u4:=underlying4;have a4:=Tryz.isAgg4;have z4:=Tryz.sizeOf4;have hS:Tryz.prog.underlying 56=some (.struct (Tryz.prog.fieldsOf 56)):=by kernel_rfl
 have hp:Tryz.prog.stoodInHeld 56=false:=by kernel_rfl
 rw [show (10000:Nat)=9999+1 from rfl,run_equalIn_agg w 9999 56 _ _ hS hp];simp only [Program.fieldsOf,underlying56];go_simp
theorem gQ (k:Int)(a b c:ByteArray)(w:World):(Op.equalIn 10000 134 (.agg #[.int .i64 k,.string a,.string b,.string c]) (.agg #[.int .i64 k,.string a,.string b,.string c])).run Tryz.prog w=.ok true w:=by
 have u3:=underlying3;have a3:=Tryz.isAgg3;have z3:=Tryz.sizeOf3;have u5:=underlying9;have a5:=Tryz.isAgg9;have z5:=Tryz.sizeOf9;have hS:Tryz.prog.underlying 134=some (.struct (Tryz.prog.fieldsOf 134)):=by kernel_rfl
 have hp:Tryz.prog.stoodInHeld 134=false:=by kernel_rfl
 rw [show (10000:Nat)=9999+1 from rfl,run_equalIn_agg w 9999 134 _ _ hS hp];simp only [Program.fieldsOf,underlying134];go_simp
def RdRow (w:World)(a:Option Addr)(n:Nat)(xs:List Value):Prop:=n=0\/∃g,a=some ⟨g,0,none⟩/\∀i u,xs[i]?=some u->w.cell? ⟨g,i,none⟩=some u
theorem yz {w:World}{base:Nat}{e:TypeId}{size:Nat}{a:Option Addr}{n cap:Nat}{xs:List Value}(h:w.ownsRow base e size (.slice a n cap) n xs):RdRow w a n xs:=by
 rcases zw h with⟨_,h2,_⟩|⟨g,c,h1,_⟩
 ·exact .inl h2
 ·injection h1 with e1 e2 e3
  subst e1 e3;exact .inr ⟨g,rfl,fun i u hu=>zk h hu⟩
theorem gV {w:World}{G:Nat->Prop}{a:Option Addr}{n cap:Nat}{xs:List Value}(h:RowIs w G (.slice a n cap) n xs):RdRow w a n xs:=by
 rcases h with⟨_,h2⟩|⟨g,c,h1,_,_,h4,_⟩
 ·exact .inl h2
 ·injection h1 with e1 e2 e3
  subst e1;exact .inr ⟨g,rfl,h4⟩
theorem RdRow.turn {S:Nat->Prop}{w w':World}{a:Option Addr}{n:Nat}{xs:List Value}(h:RdRow w a n xs)(ht:Turn S w w')(hs:∀g,a=some ⟨g,0,none⟩->¬S g):RdRow w' a n xs:=by
 rcases h with h|⟨g,e,h⟩
 ·exact .inl h
 ·exact .inr ⟨g,e,fun i u hu=>ht.cell (h i u hu) (hs g e)⟩
theorem RdRow.ext {w w':World}{a:Option Addr}{n:Nat}{xs:List Value}(h:RdRow w a n xs)(hx:Ext w w'):RdRow w' a n xs:=h.turn (S:=fun _=>False) (Turn.of_ext hx) (fun _ _=>id)
theorem Zl (S:List Stk)(j i:Nat)(hj:j<S.length)(hi:i<7):(Za S)[j*7+i]?=S[j].told[i]?:=by
 have e:S=S.take j++(S[j]::S.drop (j+1)):=by simp
 have h1:(Za (S.take j)).length=j*7:=by rw [Uk];simp;omega
 have h2:Za S=Za (S.take j)++(S[j].told++Za (S.drop (j+1))):=by
  have h3:Za (S.take j++(S[j]::S.drop (j+1)))=Za (S.take j)++(S[j].told++Za (S.drop (j+1))):=by simp only [Za,List.flatMap_append,List.flatMap_cons]
  rw [<-e] at h3;exact h3
 rw [h2,List.getElem?_append_right (by omega),h1,show j*7+i - j*7=i by omega,List.getElem?_append_left (by simpa [Stk.told] using hi)]
theorem VA (S:List Stk)(n:Nat)(hl:S.length=n)(hn:n<=1000000000)(a1 a2:Option Addr)(c1 c2:Nat)(w:World)(h1:RdRow w a1 n (Za S))(h2:RdRow w a2 n (Za S)) :
  Calls Tryz.prog 76 #[.slice a1 n c1,.slice a2 n c2] w fun e w'=>e=.returned (.bool true)/\Ext w w':=by
 have heq:=jF;have HL:=hid hl;have H1:Hd _:=h1;have H2:Hd _:=h2;clear h1 h2 hl;go_enter func76,ntmps76;go_wp2
 go_loopw [5] (fun i wr=>∃j:Nat,j<=n/\i=.int .i64 j/\Ext w wr) (fun i _=>n - (intOf i).toNat)
 case atStart=>exact⟨0,lT _,rfl,lI _⟩
 case round=>
  obtain⟨j,hj,rfl,hx⟩:=hrel;have HX:=hid hx;clear hx;by_cases hlt:j<n
  ·have hjl:j<S.length:=by rw [HL.o];exact hlt
   obtain⟨g1,rfl,k1⟩:=H1.o.resolve_left (by omega);obtain⟨g2,rfl,k2⟩:=H2.o.resolve_left (by omega);obtain⟨y0,hy0⟩:∃y,(S[j].kd:Int)=y:=⟨_,rfl⟩
   obtain⟨y1,hy1⟩:∃y,(S[j].m:Int)=y:=⟨_,rfl⟩
   obtain⟨y2,hy2⟩:∃y,(S[j].k:Int)=y:=⟨_,rfl⟩
   obtain⟨y3,hy3⟩:∃y,(S[j].n:Int)=y:=⟨_,rfl⟩
   obtain⟨y4,hy4⟩:∃y,(S[j].ts.length:Int)=y:=⟨_,rfl⟩
   obtain⟨y5,hy5⟩:∃y,(S[j].leased:Int)=y:=⟨_,rfl⟩
   obtain⟨y6,hy6⟩:∃y,((S[j].ts.filter (·.2)).length:Int)=y:=⟨_,rfl⟩
   have e0:wr.cell? ⟨g1,j*7,none⟩=some (.int .i64 y0):=HX.o.cell (by rw [<-hy0];exact k1 (j*7) _ ((Zl S j 0 hjl (by omega)).trans rfl));have d0:wr.cell? ⟨g2,j*7,none⟩=some (.int .i64 y0):=HX.o.cell (by rw [<-hy0];exact k2 (j*7) _ ((Zl S j 0 hjl (by omega)).trans rfl));have e1:wr.cell? ⟨g1,j*7+1,none⟩=some (.int .i64 y1):=HX.o.cell (by rw [<-hy1];exact k1 (j*7+1) _ ((Zl S j 1 hjl (by omega)).trans rfl));have d1:wr.cell? ⟨g2,j*7+1,none⟩=some (.int .i64 y1):=HX.o.cell (by rw [<-hy1];exact k2 (j*7+1) _ ((Zl S j 1 hjl (by omega)).trans rfl));have e2:wr.cell? ⟨g1,j*7+2,none⟩=some (.int .i64 y2):=HX.o.cell (by rw [<-hy2];exact k1 (j*7+2) _ ((Zl S j 2 hjl (by omega)).trans rfl));have d2:wr.cell? ⟨g2,j*7+2,none⟩=some (.int .i64 y2):=HX.o.cell (by rw [<-hy2];exact k2 (j*7+2) _ ((Zl S j 2 hjl (by omega)).trans rfl));have e3:wr.cell? ⟨g1,j*7+3,none⟩=some (.int .i64 y3):=HX.o.cell (by rw [<-hy3];exact k1 (j*7+3) _ ((Zl S j 3 hjl (by omega)).trans rfl));have d3:wr.cell? ⟨g2,j*7+3,none⟩=some (.int .i64 y3):=HX.o.cell (by rw [<-hy3];exact k2 (j*7+3) _ ((Zl S j 3 hjl (by omega)).trans rfl));have e4:wr.cell? ⟨g1,j*7+4,none⟩=some (.int .i64 y4):=HX.o.cell (by rw [<-hy4];exact k1 (j*7+4) _ ((Zl S j 4 hjl (by omega)).trans rfl));have d4:wr.cell? ⟨g2,j*7+4,none⟩=some (.int .i64 y4):=HX.o.cell (by rw [<-hy4];exact k2 (j*7+4) _ ((Zl S j 4 hjl (by omega)).trans rfl));have e5:wr.cell? ⟨g1,j*7+5,none⟩=some (.int .i64 y5):=HX.o.cell (by rw [<-hy5];exact k1 (j*7+5) _ ((Zl S j 5 hjl (by omega)).trans rfl));have d5:wr.cell? ⟨g2,j*7+5,none⟩=some (.int .i64 y5):=HX.o.cell (by rw [<-hy5];exact k2 (j*7+5) _ ((Zl S j 5 hjl (by omega)).trans rfl));have e6:wr.cell? ⟨g1,j*7+6,none⟩=some (.int .i64 y6):=HX.o.cell (by rw [<-hy6];exact k1 (j*7+6) _ ((Zl S j 6 hjl (by omega)).trans rfl));have d6:wr.cell? ⟨g2,j*7+6,none⟩=some (.int .i64 y6):=HX.o.cell (by rw [<-hy6];exact k2 (j*7+6) _ ((Zl S j 6 hjl (by omega)).trans rfl))
   have hk0:(0:Int)<=(j:Int):=by omega
   have hk1:(j:Int)<n:=by omega
   clear k1 k2 hy0 hy1 hy2 hy3 hy4 hy5 hy6;go_wp2;go_quiet (fail)
   go_wp2
   go_roundw
   case rel=>exact⟨j+1,by omega,by go_num,HX.o.drewN _⟩
   case measure=>simp [intOf];omega
  ·obtain rfl:j=n:=by omega
   go_wp2;go_ret;exact⟨rfl,HX.o⟩
theorem VM (ls:List LsV)(n:Nat)(hl:ls.length=n)(hn:n<=1000000000)(a1 a2:Option Addr)(c1 c2:Nat)(w:World)(h1:RdRow w a1 n (zu ls))(h2:RdRow w a2 n (zu ls)) :
  Calls Tryz.prog 77 #[.slice a1 n c1,.slice a2 n c2] w fun e w'=>e=.returned (.bool true)/\Ext w w':=by
 have heq:=jG;have HL:=hid hl;have H1:Hd _:=h1;have H2:Hd _:=h2;clear h1 h2 hl;go_enter func77,ntmps77;go_wp2
 go_loopw [5] (fun i wr=>∃j:Nat,j<=n/\i=.int .i64 j/\Ext w wr) (fun i _=>n - (intOf i).toNat)
 case atStart=>exact⟨0,lT _,rfl,lI _⟩
 case round=>
  obtain⟨j,hj,rfl,hx⟩:=hrel;have HX:=hid hx;clear hx;by_cases hlt:j<n
  ·have hjl:j<ls.length:=by rw [HL.o];exact hlt
   obtain⟨g1,rfl,k1⟩:=H1.o.resolve_left (by omega);obtain⟨g2,rfl,k2⟩:=H2.o.resolve_left (by omega);obtain⟨y0,hy0⟩:∃y,ls[j].s=y:=⟨_,rfl⟩
   obtain⟨y1,hy1⟩:∃y,ls[j].i=y:=⟨_,rfl⟩
   obtain⟨y2,hy2⟩:∃y,ls[j].kd=y:=⟨_,rfl⟩
   obtain⟨y3,hy3⟩:∃y,ls[j].m=y:=⟨_,rfl⟩
   obtain⟨y4,hy4⟩:∃y,ls[j].k=y:=⟨_,rfl⟩
   obtain⟨y5,hy5⟩:∃y,ls[j].n=y:=⟨_,rfl⟩
   obtain⟨y6,hy6⟩:∃y,ls[j].f=y:=⟨_,rfl⟩
   obtain⟨y7,hy7⟩:∃y,ls[j].c=y:=⟨_,rfl⟩
   obtain⟨y8,hy8⟩:∃y,ls[j].r=y:=⟨_,rfl⟩
   have e0:wr.cell? ⟨g1,j*9,none⟩=some (.int .i64 y0):=HX.o.cell (by rw [<-hy0];exact k1 (j*9) _ ((zQ ls j 0 hjl (by omega)).trans rfl));have d0:wr.cell? ⟨g2,j*9,none⟩=some (.int .i64 y0):=HX.o.cell (by rw [<-hy0];exact k2 (j*9) _ ((zQ ls j 0 hjl (by omega)).trans rfl));have e1:wr.cell? ⟨g1,j*9+1,none⟩=some (.int .i64 y1):=HX.o.cell (by rw [<-hy1];exact k1 (j*9+1) _ ((zQ ls j 1 hjl (by omega)).trans rfl));have d1:wr.cell? ⟨g2,j*9+1,none⟩=some (.int .i64 y1):=HX.o.cell (by rw [<-hy1];exact k2 (j*9+1) _ ((zQ ls j 1 hjl (by omega)).trans rfl));have e2:wr.cell? ⟨g1,j*9+2,none⟩=some (.int .i64 y2):=HX.o.cell (by rw [<-hy2];exact k1 (j*9+2) _ ((zQ ls j 2 hjl (by omega)).trans rfl));have d2:wr.cell? ⟨g2,j*9+2,none⟩=some (.int .i64 y2):=HX.o.cell (by rw [<-hy2];exact k2 (j*9+2) _ ((zQ ls j 2 hjl (by omega)).trans rfl));have e3:wr.cell? ⟨g1,j*9+3,none⟩=some (.int .i64 y3):=HX.o.cell (by rw [<-hy3];exact k1 (j*9+3) _ ((zQ ls j 3 hjl (by omega)).trans rfl));have d3:wr.cell? ⟨g2,j*9+3,none⟩=some (.int .i64 y3):=HX.o.cell (by rw [<-hy3];exact k2 (j*9+3) _ ((zQ ls j 3 hjl (by omega)).trans rfl));have e4:wr.cell? ⟨g1,j*9+4,none⟩=some (.int .i64 y4):=HX.o.cell (by rw [<-hy4];exact k1 (j*9+4) _ ((zQ ls j 4 hjl (by omega)).trans rfl));have d4:wr.cell? ⟨g2,j*9+4,none⟩=some (.int .i64 y4):=HX.o.cell (by rw [<-hy4];exact k2 (j*9+4) _ ((zQ ls j 4 hjl (by omega)).trans rfl));have e5:wr.cell? ⟨g1,j*9+5,none⟩=some (.int .i64 y5):=HX.o.cell (by rw [<-hy5];exact k1 (j*9+5) _ ((zQ ls j 5 hjl (by omega)).trans rfl));have d5:wr.cell? ⟨g2,j*9+5,none⟩=some (.int .i64 y5):=HX.o.cell (by rw [<-hy5];exact k2 (j*9+5) _ ((zQ ls j 5 hjl (by omega)).trans rfl));have e6:wr.cell? ⟨g1,j*9+6,none⟩=some (.int .i64 y6):=HX.o.cell (by rw [<-hy6];exact k1 (j*9+6) _ ((zQ ls j 6 hjl (by omega)).trans rfl));have d6:wr.cell? ⟨g2,j*9+6,none⟩=some (.int .i64 y6):=HX.o.cell (by rw [<-hy6];exact k2 (j*9+6) _ ((zQ ls j 6 hjl (by omega)).trans rfl))
   have e7:wr.cell? ⟨g1,j*9+7,none⟩=some (.int .i64 y7):=HX.o.cell (by rw [<-hy7];exact k1 (j*9+7) _ ((zQ ls j 7 hjl (by omega)).trans rfl));have d7:wr.cell? ⟨g2,j*9+7,none⟩=some (.int .i64 y7):=HX.o.cell (by rw [<-hy7];exact k2 (j*9+7) _ ((zQ ls j 7 hjl (by omega)).trans rfl));have e8:wr.cell? ⟨g1,j*9+8,none⟩=some (.bool y8):=HX.o.cell (by rw [<-hy8];exact k1 (j*9+8) _ ((zQ ls j 8 hjl (by omega)).trans rfl));have d8:wr.cell? ⟨g2,j*9+8,none⟩=some (.bool y8):=HX.o.cell (by rw [<-hy8];exact k2 (j*9+8) _ ((zQ ls j 8 hjl (by omega)).trans rfl));have hk0:(0:Int)<=(j:Int):=by omega
   have hk1:(j:Int)<n:=by omega
   clear k1 k2 hy0 hy1 hy2 hy3 hy4 hy5 hy6 hy7 hy8;go_wp2;go_quiet (fail)
   go_wp2
   go_roundw
   case rel=>exact⟨j+1,by omega,by go_num,HX.o.drewN _⟩
   case measure=>simp [intOf];omega
  ·obtain rfl:j=n:=by omega
   go_wp2;go_ret;exact⟨rfl,HX.o⟩
theorem xz (zs:List Int)(n:Nat)(hl:zs.length=n)(hn:n<=1000000000)(a1 a2:Option Addr)(c1 c2:Nat)(w:World)(h1:RdRow w a1 n (zs.map (Value.int .u64)))(h2:RdRow w a2 n (zs.map (Value.int .u64))) :
  Calls Tryz.prog 154 #[.slice a1 n c1,.slice a2 n c2] w fun e w'=>e=.returned (.bool true)/\Ext w w':=by
 have HL:=hid hl;have H1:Hd _:=h1;have H2:Hd _:=h2;clear h1 h2 hl;go_enter func154,ntmps154;go_wp2
 go_loopw [5] (fun i wr=>∃j:Nat,j<=n/\i=.int .i64 j/\Ext w wr) (fun i _=>n - (intOf i).toNat)
 case atStart=>exact⟨0,lT _,rfl,lI _⟩
 case round=>
  obtain⟨j,hj,rfl,hx⟩:=hrel;have HX:=hid hx;clear hx;by_cases hlt:j<n
  ·have hjl:j<zs.length:=by rw [HL.o];exact hlt
   obtain⟨g1,rfl,k1⟩:=H1.o.resolve_left (by omega);obtain⟨g2,rfl,k2⟩:=H2.o.resolve_left (by omega);obtain⟨y0,hy0⟩:∃y,zs[j]=y:=⟨_,rfl⟩
   have e0:wr.cell? ⟨g1,j,none⟩=some (.int .u64 y0):=HX.o.cell (by rw [<-hy0];exact k1 (j) _ (by simp [hjl]));have d0:wr.cell? ⟨g2,j,none⟩=some (.int .u64 y0):=HX.o.cell (by rw [<-hy0];exact k2 (j) _ (by simp [hjl]));have hk0:(0:Int)<=(j:Int):=by omega
   have hk1:(j:Int)<n:=by omega
   clear k1 k2 hy0;go_wp2;go_quiet (fail)
   go_wp2
   go_roundw
   case rel=>exact⟨j+1,by omega,by go_num,HX.o.drewN _⟩
   case measure=>simp [intOf];omega
  ·obtain rfl:j=n:=by omega
   go_wp2;go_ret;exact⟨rfl,HX.o⟩
theorem gL (o:OpV)(h0:0<=o.k)(h5:o.k<=5)(w:World):Calls Tryz.prog 67 #[.agg #[.int .i64 o.k,.string o.a,.string o.b,.string o.c]] w fun e w'=>e=.returned (.bool true)/\Ext w w':=by
 obtain⟨k,a,b,c⟩:=o;simp only at h0 h5 ⊢;go_enter func67,ntmps67;go_wp2
 all_goals go_ret
 all_goals exact⟨zH (by simp [*]),(lI w).alloc _⟩
theorem qK (c f n:Int)(zs:List Int)(hn:zs.length<=1000000000)(a1 a2:Option Addr)(c1 c2:Nat)(w:World)(h1:RdRow w a1 zs.length (zs.map (Value.int .u64)))(h2:RdRow w a2 zs.length (zs.map (Value.int .u64))) :
  Calls Tryz.prog 109 #[zr c f n (.slice a1 zs.length c1),zr c f n (.slice a2 zs.length c2)] w fun e w'=>e=.returned (.bool true)/\Ext w w':=by
 have HS:Hd (∀w',Ext w w'->_):=fun w' hx=>xz zs zs.length rfl hn a1 a2 c1 c2 w' (h1.ext hx) (h2.ext hx)
 clear h1 h2;generalize zs.length=len at *;unfold zr;go_enter func109,ntmps109;go_wp2_with fail
 have ha:((w.alloc (.cells #[.int .i64 c,.int .i64 f,.int .i64 n,.slice a1 len c1] 33)).alloc (.cells #[.int .i64 c,.int .i64 f,.int .i64 n,.slice a2 len c2] 33)).heap[w.heap.size]?=some (.cells #[.int .i64 c,.int .i64 f,.int .i64 n,.slice a1 len c1] 33 (0,0)):=zC (heap_alloc_new _ _);have hb:((w.alloc (.cells #[.int .i64 c,.int .i64 f,.int .i64 n,.slice a1 len c1] 33)).alloc (.cells #[.int .i64 c,.int .i64 f,.int .i64 n,.slice a2 len c2] 33)).heap[w.heap.size+1]?=some (.cells #[.int .i64 c,.int .i64 f,.int .i64 n,.slice a2 len c2] 33 (0,0)):=zm (by simp);have hXW:Ext w ((w.alloc (.cells #[.int .i64 c,.int .i64 f,.int .i64 n,.slice a1 len c1] 33)).alloc (.cells #[.int .i64 c,.int .i64 f,.int .i64 n,.slice a2 len c2] 33)):=((lI w).alloc _).alloc _;generalize lP (lP w _) _=W at ha hb hXW ⊢;refine(HS.o _ hXW).mono ?_;rintro e w1 ⟨rfl,hx1⟩;have ha:=hx1.block ha;have hb:=hx1.block hb;have e0:=zc ha (i:=0) rfl;have e1:=zc ha (i:=1) rfl;have e2:=zc ha (i:=2) rfl;have d0:=zc hb (i:=0) rfl;have d1:=zc hb (i:=1) rfl;have d2:=zc hb (i:=2) rfl;have HX1:Hd (Ext w w1):=hXW.trans hx1;have hl1:=lG w1 _ e0;have hl2:=lG w1 _ d0;clear ha hb hx1 hXW;go_wp2
 all_goals go_ret
 all_goals exact⟨zH (by simp),HX1.o⟩
end
section
theorem Uh (b o len cap h:Nat)(hh:h<=cap)(hc:0<cap)(W:World) :
  (Instr.slice 31 (.slice (some ⟨b,o,none⟩) len cap) none (some (.int .i64 (h:Int))) none).run Tryz.prog W=.ok (.slice (some ⟨b,o,none⟩) h cap) W:=by
 rw [run_slice_h W 31 _ _ _ xh.1 .i64 _ (by omega) (by omega),xh.2,xR];have hne:¬cap=0:=by omega
 simp [Result.andThen,sliced,Addr.add,hne]
def ZC (D:List Int)(j:Nat):List Int:=D++(List.replicate j 5++List.replicate (8 - j) 0)
theorem jh (D:List Int)(j:Nat)(hj:j<8):(ZC D j).set (D.length+j) 5=ZC D (j+1):=by unfold ZC;rw [List.set_append_right _ _ (by omega),show D.length+j - D.length=j by omega,List.set_append_right _ _ (by simp),List.length_replicate,Nat.sub_self,show 8 - j=(8 - (j+1))+1 by omega,List.replicate_succ,lE,List.replicate_succ' (n:=j)];simp
theorem Qn (D:List Int)(j:Nat)(hj:j<=8):(ZC D j).length=D.length+8:=by simp [ZC];omega
def DrawsAt (w:World)(a:Option Addr)(n:Nat)(D:List Int):Prop:=n=0\/∃b off,a=some ⟨b,off,none⟩/\WordsAt w b off D
theorem DrawsAt.ext {w w':World}{a:Option Addr}{n:Nat}{D:List Int}(h:DrawsAt w a n D)(hx:Ext w w'):DrawsAt w' a n D:=h.imp id (fun ⟨b,off,e,k⟩=>⟨b,off,e,k.ext hx⟩)
theorem kJ (D:List Int)(n:Nat)(hl:D.length=n)(hn:n<=100000000)(a:Option Addr)(c:Nat)(w:World)(h:DrawsAt w a n D) :
  Calls Tryz.prog 99 #[.slice a n c] w fun e w'=>∃g,e=.returned (.slice (some ⟨g,0,none⟩) n (n+8))/\w.heap.size<=g/\w'.ownsRow w.heap.size 146 1 (.slice (some ⟨g,0,none⟩) (n+8) (n+8)) (n+8) ((ZC D 8).map (Value.int .u64))/\Ext w w':=by
 obtain⟨i0,hi,hz0,hz1,hz2⟩:=info_parts ZS;have H:Hd _:=h;have HD:=hid hl;obtain⟨n8,hn8⟩:∃n8,n+8=n8:=⟨_,rfl⟩
 have hw8:IntKind.i64.wrap ((n:Int)+8)=(n8:Int):=by rw [rP];omega
 have HN8:=hid hn8;have hb8:n8<=100000008/\8<=n8/\n<=n8:=by omega
 have tS:∀g W,(Instr.slice 31 (.slice (some ⟨g,0,none⟩) n8 n8) none (some (.int .i64 (n:Int))) none).run Tryz.prog W=.ok (.slice (some ⟨g,0,none⟩) n n8) W:=fun g W=>Uh g 0 n8 n8 n (by omega) (by omega) W
 clear h hl;rw [hn8];clear hn8;go_enter func99,ntmps99;go_wp2_with (at_make;refine wpList_make_full _ rfl _ _ 31 rfl w.heap.size 146 i0 (.int .u64 0) 1 underlying31 hi hz0 hz1 _ _ _ _ n8 rfl rfl (by omega) (by omega) (by rw [hz2];omega) (by unfold maxLen;omega) (lO _) ?_)
 intro w6 ho6 hg6;have hx6:Ext w w6:=rG (lI w) hg6 (by simp);have ho6':w6.ownsRow w.heap.size 146 1 (.slice (some ⟨w.heap.size,0,none⟩) n8 n8) n8 ((List.replicate n8 (0:Int)).map (Value.int .u64)):=by rw [List.map_replicate,<-toList_madeCells_one];simpa [Value.cells] using ho6
 obtain⟨gm,hgm⟩:∃gm,w.heap.size=gm:=⟨_,rfl⟩
 rw [hgm] at ho6' ⊢;have HM6:=hid ho6';have HX6:=hid hx6;have HGM:=hid hgm;clear ho6 ho6' hg6 hx6;obtain⟨cs,hcs⟩:∃cs,cs=D.map (Value.int .u64):=⟨_,rfl⟩
 have hcsl:cs.length=n:=by rw [hcs,rU,HD.o]
 have HCs:=hid hcs;clear hcs hgm;go_wp2_with (refine wpList_copy_splice rfl _ _ 31 31 rfl 146 underlying31 (by rw [hi];simp [hz1]) _ _ n8 n8 n c rfl rfl gm 0 ((List.replicate n8 (0:Int)).map (Value.int .u64)) 146 (yD HM6.o).1 cs (by rw [hcsl];exact(Nat.min_eq_left (by omega)).symm) ?s1 (by simp [hcsl];omega) ?s2 gm w (by rw [<-HGM.o];exact HX6.o) (lO _) ?_)
 case s1=>
  intro hpos
  try rw [hcsl] at hpos
  obtain⟨bd,od,e,k⟩:=H.o.resolve_left (by omega)
  first
   | (refine⟨rfl,_,e,fun x v h=>?_⟩
      rw [HCs.o] at h;exact(k.ext HX6.o).cells x v h)
   | (refine⟨_,e,fun x v h=>?_⟩
      rw [HCs.o] at h;exact(k.ext HX6.o).cells x v h)
 case s2=>rw [HCs.o];exact ZJ _
 intro w7 HG7 hb7;have hx7:Ext w w7:=by rw [<-HGM.o] at hb7;exact hb7
 have HM7:Hd (w7.ownsRow gm 146 1 (.slice (some ⟨gm,0,none⟩) n8 n8) n8 ((ZC D 0).map (Value.int .u64))):=by
  have h:=HG7.out;have e:splice (List.replicate n8 (Value.int .u64 0)) 0 cs=(ZC D 0).map (Value.int .u64):=by rw [HCs.o];simp only [splice,ZC,List.take_zero,List.nil_append,rU,HD.o,Nat.zero_add,List.replicate_zero,Nat.sub_zero,List.map_append,List.map_replicate,List.drop_replicate];rw [<-HN8.o,show n+8 - n=8 by omega]
  try rw [List.map_replicate] at h
  rw [e] at h;exact xU h (by rw [rU,Qn _ _ (by omega),HD.o,HN8.o]) (lO _) (by unfold maxLen;omega)
 have HX7:=hid hx7;clear HG7 hb7 hx7 HM6 HX6;go_wp2_with fail
 go_loopw [5] (fun at_ wr=>∃j nj:Nat,j<=8/\n+j=nj/\at_=.int .i64 (nj:Int)/\wr.ownsRow gm 146 1 (.slice (some ⟨gm,0,none⟩) n8 n8) n8 ((ZC D j).map (Value.int .u64))/\Ext w wr) (fun at_ _=>n8 - (intOf at_).toNat)
 case atStart=>exact⟨0,n,lT _,rfl,rfl,HM7.o,HX7.o⟩
 case round=>
  obtain⟨j,nj,hj,hnj,rfl,ho,hx⟩:=hrel;have HO:=hid ho;have HX:=hid hx;have HNJ:=hid hnj;have h8:=HN8.o;by_cases hlt:j<8
  ·have hltf:(nj:Int)<(n8:Int):=by omega
   have hnn:nj<n8:=by omega
   have hk0:(0:Int)<=(nj:Int):=by omega
   have hlen:nj<(ZC D j).length:=by rw [Qn _ _ hj,HD.o];omega
   have cj:wr.cell? ⟨gm,nj,none⟩=some (.int .u64 (ZC D j)[nj]):=zk ho (by simp [hlen]);have fj:wr.frozen? ⟨gm,nj,none⟩=false:=by obtain⟨cur,hc⟩:=zf ho (g:=gm) rfl;exact ze hc _
   generalize (ZC D j)[nj]=old at cj;have hgl:=lG wr _ cj;clear ho hx hnj h8;go_wp2
   go_roundw
   case rel=>
    refine⟨j+1,nj+1,by omega,by have:=HNJ.o;omega,by go_num,?_,Ext.setCell HX.o (by show w.heap.size<=gm;rw [HGM.o];exact lO _) _⟩;have h1:=zI HO.o nj (.int .u64 5);rw [<-List.map_set,<-HNJ.o,<-HD.o,jh D j hlt] at h1;rw [<-HNJ.o,<-HD.o];exact h1
   case measure=>simp [intOf];omega
  ·obtain rfl:j=8:=by omega
   have hltf:¬(nj:Int)<(n8:Int):=by omega
   clear ho hx hnj h8;go_wp2;go_ret;exact⟨gm,by simp,by rw [HGM.o];exact lO _,by rw [HGM.o];exact HO.o,HX.o⟩
theorem uk (D:List Int)(n g c:Nat)(hl:D.length=n)(hn:n<=100000000)(a:Option Addr)(w:World)(ho:WordsAt w g 0 (ZC D 8))(h:DrawsAt w a n D) :
  Calls Tryz.prog 100 #[.slice (some ⟨g,0,none⟩) n (n+8),.slice a n c] w fun e w'=>e=.returned (.bool true)/\Ext w w':=by
 have H:Hd _:=h;have HO:=hid ho;have HD:=hid hl;obtain⟨n8,hn8⟩:∃n8,n+8=n8:=⟨_,rfl⟩
 have hw8:IntKind.i64.wrap ((n:Int)+8)=(n8:Int):=by rw [rP];omega
 have HN8:=hid hn8;have hb8:n8<=100000008/\8<=n8/\n<=n8:=by omega
 have tS:∀W,(Instr.slice 31 (.slice (some ⟨g,0,none⟩) n n8) none (some (.int .i64 (n8:Int))) none).run Tryz.prog W=.ok (.slice (some ⟨g,0,none⟩) n8 n8) W:=fun W=>Uh g 0 n n8 n8 (by omega) (by omega) W
 clear h hl ho;rw [hn8];clear hn8;go_enter func100,ntmps100;go_wp2_with fail
 go_loopw [7,8] (fun at_ _ wr=>∃j:Nat,j<=n8/\at_=.int .i64 (j:Int)/\Ext w wr) (fun at_ _ _=>n8 - (intOf at_).toNat)
 case atStart=>exact⟨0,lT _,rfl,lI _⟩
 case round=>
  obtain⟨j,hj,rfl,hx⟩:=hrel;have HX:=hid hx;have h8:=HN8.o;by_cases hlt:j<n8
  ·have hk0:(0:Int)<=(j:Int):=by omega
   have hk1:(j:Int)<n8:=by omega
   have hlen:j<(ZC D 8).length:=by rw [Qn _ _ (lO _),HD.o];omega
   have cj:wr.cell? ⟨g,j,none⟩=some (.int .u64 (ZC D 8)[j]):=by have:=(HO.o.ext hx) j hlen;simpa [hlen] using this
   by_cases hjn:j<n
   ·have hjD:j<D.length:=by rw [HD.o];exact hjn
    have hk2:(j:Int)<n:=by omega
    obtain⟨ga,od,rfl,k⟩:=H.o.resolve_left (by omega);have dj:wr.cell? ⟨ga,od+j,none⟩=some (.int .u64 D[j]):=by have:=(k.ext hx) j hjD;simpa [hjD] using this
    have e:(ZC D 8)[j]=D[j]:=by simp [ZC,sM hjD]
    rw [e] at cj;generalize D[j]=zj at *;clear hx h8 k;go_wp2
    go_roundw
    case rel=>exact⟨j+1,by omega,by go_num,HX.o⟩
    case measure=>simp [intOf];omega
   ·have hk2:¬(j:Int)<n:=by omega
    have e:(ZC D 8)[j]=5:=by
     have hDj:D.length<=j:=by rw [HD.o];omega
     simp only [ZC];rw [List.getElem_append_right hDj,sM (by rw [List.length_replicate,HD.o];omega)];exact List.getElem_replicate _
    rw [e] at cj;clear hx h8;go_wp2
    go_roundw
    case rel=>exact⟨j+1,by omega,by go_num,HX.o⟩
    case measure=>simp [intOf];omega
  ·obtain rfl:j=n8:=by omega
   clear hx h8;go_wp2;go_ret;exact⟨rfl,HX.o⟩
theorem gC (n c g:Nat)(cs:Array Value)(hn:n<=100000000)(hcs:n<=cs.size)(w:World)(h:w.heap[g]?=some (.cells cs 146 (0,0))) :
  Calls Tryz.prog 101 #[.slice (some ⟨g,0,none⟩) n c] w fun e w'=>e=.returned (.tuple #[])/\Turn (fun b=>b=g) w w':=by
 have HB:Hd _:=h;have hgl:g<w.heap.size:=(Array.getElem?_eq_some_iff.1 h).1;clear h;go_enter func101,ntmps101;go_wp2_with fail
 go_loopw [2] (fun at_ wr=>∃(j:Nat) (cs':Array Value),j<=n/\at_=.int .i64 (j:Int)/\n<=cs'.size/\wr.heap[g]?=some (.cells cs' 146 (0,0))/\Turn (fun b=>b=g) w wr) (fun at_ _=>n - (intOf at_).toNat)
 case atStart=>exact⟨0,cs,lT _,rfl,hcs,HB.o,Turn.refl _ _⟩
 case round=>
  obtain⟨j,cs',hj,rfl,hsz,hb,ht⟩:=hrel;have HB2:Hd _:=hb;have HT:=hid ht;by_cases hlt:j<n
  ·have hk0:(0:Int)<=(j:Int):=by omega
   have hk1:(j:Int)<n:=by omega
   have cj:wr.cell? ⟨g,j,none⟩=some cs'[j]:=zc hb (by simp [show j<cs'.size by omega]);have fj:=ze hb j;generalize cs'[j]=old at cj;have hgl2:=lG wr _ cj;clear hb ht;go_wp2
   go_roundw
   case rel=>exact⟨j+1,cs'.setIfInBounds j (.int .u64 7),by omega,by go_num,by simpa using hsz,zg HB2.o _,Turn.setCell HT.o (fun _=>rfl) _⟩
   case measure=>simp [intOf];omega
  ·obtain rfl:j=n:=by omega
   clear hb ht;go_wp2;go_end0;exact⟨rfl,HT.o⟩
theorem Q7:(Tryz.prog.info? 95).map (fun i=>(i.zero,i.size,i.bytes))=some (some (.pointer none),1,8):=by kernel_rfl
theorem kC (gl gw nl cl cw:Nat)(q:Value)(hq:q.oneCell'=true)(hn:1<=nl)(w:World)(hl:w.cell? ⟨gl,0,none⟩=some q)(hw:w.cell? ⟨gw,0,none⟩=some (.int .i64 0))(hqp:∃a,q=.pointer a) :
  Calls Tryz.prog 180 #[.slice (some ⟨gl,0,none⟩) nl cl,.slice (some ⟨gw,0,none⟩) 1 cw] w fun e w'=>∃g cap,e=.returned (.slice (some ⟨g,0,none⟩) 1 cap)/\w'.ownsRow w.heap.size 95 1 (.slice (some ⟨g,0,none⟩) 1 cap) 1 [q]/\Ext w w':=by
 obtain⟨i0,hi,hz0,hz1,hz2⟩:=info_parts Q7;obtain⟨qa,rfl⟩:=hqp;have hl0:=lG w _ hl;have hw0:=lG w _ hw;have hnl:(0:Int)<(nl:Int):=by omega
 go_enter func180,ntmps180;go_wp2_with fail
 refine wp_loop_rounds 2 ?_;rw [rounds_succ];go_wp2_with (at_builtin;refine wpList_append_lies _ rfl _ _ 85 rfl w.heap.size 95 i0 _ 1 8 underlying85 hi hz0 hz1 hz2 rfl (by decide) _ 0 [] rfl (rB _ _ _ _) ⟨_,0,none⟩ 1 1 [.pointer qa] rfl rfl (World.news_of_block (zm (by simp))) (by simp [Value.oneCell']) (by decide) (by simp [maxLen]) (by omega) (by simp) _ rfl ?_)
 intro g cap w2 hown hgrow hat hlt;have HF:Hd (w2.ownsRow w.heap.size 95 1 (.slice (some ⟨g,0,none⟩) 1 cap) 1 [.pointer qa]/\Ext w w2):=⟨by simpa using hown,rG (Ext.alloc (lI _) _) hgrow (by simp [lH])⟩
 clear hown hgrow hat;go_wp2;rw [rounds_succ];go_wp2;go_ret;exact⟨g,cap,by simp,HF.o.1,HF.o.2⟩
end
end Go.Proofs.YtmnjhhachdlmkaaGreat
