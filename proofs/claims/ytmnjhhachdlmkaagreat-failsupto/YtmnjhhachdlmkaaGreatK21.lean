import Derived.Test.YtmnjhhachdlmkaaGreatK20
namespace Go.Proofs.YtmnjhhachdlmkaaGreat
set_option linter.all false
set_option maxRecDepth 100000
set_option maxHeartbeats 6400000
open Tryz
open StkR renaming abs -> lL
open Ext renaming refl -> lI, drew -> lJ
open Turn renaming of_ext -> lM
open Nat renaming lt_of_lt_of_le -> rA
open List renaming length_append -> lW, append_nil -> rL, mem_map -> sC, length_map -> rU, getElem_set_self -> sQ, getElem_mem -> lV, mem_append -> sE, mem_singleton -> sJ, getElem_append_left -> sM, getElem_of_mem -> sK
open World renaming ownsRow -> lR
open Go.RowKit Go.Maps
open List renaming getElem_toArray -> lA, getElem_cons_succ -> lB, getElem_cons_zero -> lC, setIfInBounds_toArray -> lD, set_cons_zero -> lE, set_cons_succ -> lF
open World renaming block_lt_of_cell? -> lG
open Value renaming ownBlock -> lH
section
theorem DrawsAt.turn {X:Nat->Prop}{w w':World}{a:Option Addr}{n:Nat}{D:List Int}(h:DrawsAt w a n D)(ht:Turn X w w')(hx:∀b off,n≠0/\a=some ⟨b,off,none⟩->¬X b):DrawsAt w' a n D:=by
 by_cases hn:n=0
 ·exact .inl hn
 ·exact h.imp id (fun ⟨b,off,e,k⟩=>⟨b,off,e,k.turn ht (hx b off ⟨hn,e⟩)⟩)
theorem AskNext.nil {A:Ans}{R:List StkR}{ls:List LsV}{fl:Bool}{ah:Int}{c0 f0 n0:Int}{zs:List Int}{R':List StkR}{ls':List LsV}{new:List OpV}{fl':Bool}{ah':Int}(h:AskNext A R ls fl ah c0 f0 n0 zs R' ls' new fl' ah')(hn:A.next=none):c0=A.c/\new=[]/\R'=R/\ls'=ls/\fl'=fl/\ah'=ah:=by
 rcases h.ex with⟨h1,h⟩|⟨h1,h2,h3,h4,h5,h⟩|⟨h0,h1,h2,h3,h4,h5,h⟩
 ·cases h;exact⟨rfl,rfl,rfl,rfl,rfl,rfl⟩
 ·rw [hn] at h1;cases h1
 ·exact absurd hn h1
section
variable {w:World}{P B q c:Nat}{G F:Nat->Prop}{v:GV}{S:List Stk}{ls:List LsV}{ops0:List OpV}{fl:Bool}{ah:Int}
theorem jp {R:List StkR}{ls' lsx:List LsV}{ops new:List OpV}(A:Ans)(h:GameOf w P B G v q S ls ops0 c)(hc:c<=900000)(hst:StoreOk w B F R lsx ops fl ah)(hn:ops.length<=1000000)(hnew:ops=ops0++new)(c0 f0 n0:Int)(zs:List Int)(hin:AnsIn A new v c0 f0 n0 zs)(nv:Value)(q':Nat)(S':List Stk)(hnx:A.next=some (S',ls'))(hone:OneIs w G nv q')(href:RefAt w G q' S' ls') :
  Calls Tryz.prog 104 #[.pointer (some ⟨P,0,none⟩),.int .i64 c0,nv,.bool true] w fun e w'=>e=.returned (.bool true)/\∃v' G' q'' S'' ls'',GameOf w' P B G' v' q'' S'' ls'' ops (c+1)/\GStep (fun b=>w.heap.size<=b) w w' P v v' G G'/\AnsOut A new v v' S ls c0 S'' ls'':=by
 rcases hin.ex with⟨h1,h2,h3,h4,h9⟩|⟨h1,h2,h3,h4,h5,h9⟩
 ·cases h9
  obtain⟨hne,h0⟩:=h3 _ _ hnx;have:=Ys (F:=F) h hc hst hn new hnew hne h4 nv q' S' hone href true;rw [<-h0] at this;refine this.mono ?_;rintro e w' ⟨rfl,v',G',h5,h6,h7,h8⟩;exact⟨rfl,v',G',q',_,_,h5,h6,⟨fun _=>⟨by rw [hnx];rfl,by rw [hnx];rfl,h7,h8⟩,fun e=>absurd e h1⟩⟩
 ·cases h9
  refine(YL (F:=F) h hc hst hn new hnew h4 h5 nv q' S' hone href true).mono ?_;rintro e w' ⟨rfl,v',G',h6,h7,h8⟩;exact⟨rfl,v',G',q,_,_,h6,h7,⟨fun e=>absurd rfl e,fun _=>⟨rfl,rfl,h8⟩⟩⟩
theorem j8 {R:List StkR}(A:Ans)(h:GameOf w P B G v q (R.map lL) ls ops0 c)(hc:c<=800000)(hst:StoreOk w B F R ls ops0 fl ah)(har:ArIs v fl ah)(hah:yv fl ah)(hF:Far F G P v)(hn:ops0.length<=900000)(hbr:A.c≠10)(hcn:A.next=none->A.c≠0)(hcy:A.next≠none->A.c=0)(sk sa sb kd m k n r0 r1 r2 r3 r4 r5 r6 r7 r8 r9 st:Int)(ss:ByteArray)(ca:Option Addr)(cl ccap:Nat)(a:Option Addr)(len cap:Nat)(D:List Int)(hD:D.length=len)(hlen:len<=100000000)(hd:DrawsAt w a len D)(hda:∀b off,len≠0/\a=some ⟨b,off,none⟩->¬F b/\b<w.heap.size)
  (hP:∀w' gh,Ext w w'->w.heap.size<=gh->WordsAt w' gh 0 D->Calls Tryz.prog 34 #[.pointer (some ⟨B,0,none⟩),zJ kd m k n,.slice (some ⟨gh,0,none⟩) len (len+8)] w' fun e w''=>∃c0 f0 n0 zs R' ls' F' new fl' ah',e=.returned (.int .i64 c0)/\AskSo A w' w'' B F R ls ops0 fl ah c0 f0 n0 zs (.slice none 0 0) R' ls' F' new fl' ah')
  (hR:∀w',RefAt w' G q (R.map lL) ls->(∀b,G b->b<w'.heap.size)->DrawsAt w' a len D->Calls Tryz.prog 102 #[.pointer (some ⟨q,0,none⟩),zJ kd m k n,.slice a len cap] w' fun e w''=>∃pa,e=.returned (.tuple #[.pointer pa,.int .i64 A.c])/\RefSo G A w' w'' (.pointer pa) (.slice none 0 0)) :
  Calls Tryz.prog 69 #[.pointer (some ⟨P,0,none⟩),.agg #[.int .i64 sk,.int .i64 sa,.int .i64 sb,.int .i64 kd,.int .i64 m,.int .i64 k,.int .i64 n,.slice a len cap,.int .i64 r0,.int .i64 r1,.int .i64 r2,.int .i64 r3,.int .i64 r4,.int .i64 r5,.int .i64 r6,.int .i64 r7,.int .i64 r8,.int .i64 r9,.string ss,.slice ca cl ccap,.int .i64 st]] w fun e w'=>e=.returned (.bool true)/\∃v' G' q' R' ls' F' new fl' ah',GameOf w' P B G' v' q' (R'.map lL) ls' (ops0++new) (c+3)/\StoreOk w' B F' R' ls' (ops0++new) fl' ah'/\Far F' G' P v'/\new.length<=4/\Old w w' F F' P v v'/\ArIs v' fl' ah'/\yv fl' ah'/\((R'.map lL=R.map lL/\ls'=ls)\/A.next=some (R'.map lL,ls')):=by
 obtain⟨j0,hj0,hy0,hy1,hy2⟩:=info_parts Q7;have H:=hid h;have HST:Hd (StoreOk w B F R ls ops0 fl ah/\Far F G P v/\ops0.length<=900000/\(A.next=none->A.c≠0)/\c<=800000):=⟨hst,hF,hn,hcn,hc⟩
 have HAR:Hd (ArIs v fl ah/\yv fl ah/\A.c≠10/\(A.next≠none->A.c=0)):=⟨har,hah,hbr,hcy⟩
 have HP:=hid hP;have HR:=hid hR;have HDa:Hd (DrawsAt w a len D/\∀b off,len≠0/\a=some ⟨b,off,none⟩->¬F b/\b<w.heap.size):=⟨hd,hda⟩
 have HDL:=hid hD;obtain⟨gl,lcap,hwv,hgl,hlc⟩:=h.wrow;have HGL:=hid hgl;have hblk:=h.blk;unfold Zp at hblk;rw [hwv] at hblk;have cP0:w.cell? ⟨P,0,none⟩=some (.pointer (some ⟨B,0,none⟩)):=zc hblk rfl;have c1:w.cell? ⟨P,1,none⟩=some (.slice (some ⟨gl,0,none⟩) 1 lcap):=zc hblk rfl;have hPl:=lG w _ c1;have hgll:=lG w _ hlc;clear h hst har hah hbr hcy hF hn hcn hP hR hd hda hwv hgl hblk;unfold zJ at *;go_enter func69,ntmps69;go_wp2_with fail
 have hsb:(w.alloc (.cells #[.int .i64 sk,.int .i64 sa,.int .i64 sb,.int .i64 kd,.int .i64 m,.int .i64 k,.int .i64 n,.slice a len cap,.int .i64 r0,.int .i64 r1,.int .i64 r2,.int .i64 r3,.int .i64 r4,.int .i64 r5,.int .i64 r6,.int .i64 r7,.int .i64 r8,.int .i64 r9,.string ss,.slice ca cl ccap,.int .i64 st] 103)).heap[w.heap.size]?=some (.cells #[.int .i64 sk,.int .i64 sa,.int .i64 sb,.int .i64 kd,.int .i64 m,.int .i64 k,.int .i64 n,.slice a len cap,.int .i64 r0,.int .i64 r1,.int .i64 r2,.int .i64 r3,.int .i64 r4,.int .i64 r5,.int .i64 r6,.int .i64 r7,.int .i64 r8,.int .i64 r9,.string ss,.slice ca cl ccap,.int .i64 st] 103 (0,0)):=heap_alloc_new _ _;have hXW:Ext w (w.alloc (.cells #[.int .i64 sk,.int .i64 sa,.int .i64 sb,.int .i64 kd,.int .i64 m,.int .i64 k,.int .i64 n,.slice a len cap,.int .i64 r0,.int .i64 r1,.int .i64 r2,.int .i64 r3,.int .i64 r4,.int .i64 r5,.int .i64 r6,.int .i64 r7,.int .i64 r8,.int .i64 r9,.string ss,.slice ca cl ccap,.int .i64 st] 103)):=(lI w).alloc _;have hWs:(w.alloc (.cells #[.int .i64 sk,.int .i64 sa,.int .i64 sb,.int .i64 kd,.int .i64 m,.int .i64 k,.int .i64 n,.slice a len cap,.int .i64 r0,.int .i64 r1,.int .i64 r2,.int .i64 r3,.int .i64 r4,.int .i64 r5,.int .i64 r6,.int .i64 r7,.int .i64 r8,.int .i64 r9,.string ss,.slice ca cl ccap,.int .i64 st] 103)).heap.size=w.heap.size+1:=by simp
 generalize World.alloc w _=W at hsb hXW hWs ⊢;have HSB:=hid hsb;have HXW:=hid hXW;have HWS:=hid hWs;have s7:W.cell? ⟨w.heap.size,7,none⟩=some (.slice a len cap):=zc hsb rfl;have hsl:=lG W _ s7;have HH:Hd (∀w',Ext w w'->_):=fun w' hx=>kJ D len hD hlen a cap w' (HDa.o.1.ext hx)
 clear hsb hXW hWs hD;go_wp2_with fail
 refine(HH.o _ HXW.o).mono ?_;rintro e w1 ⟨gh,rfl,hghW,hgo,hx1⟩;have HGO:=hid hgo;have HX1:=hid hx1;have HGH:Hd (W.heap.size<=gh/\gh<w1.heap.size):=⟨hghW,zx hgo rfl⟩
 have hFs:∀b,F b->b<w.heap.size:=HST.o.1.lt;have HFs:Hd _:=hFs;have SF:Hd (∀w',Turn (fun b=>F b) w1 w'->(fun w'=>w'.cell? ⟨P,0,none⟩=some (.pointer (some ⟨B,0,none⟩))/\w'.cell? ⟨w.heap.size,3,none⟩=some (.int .i64 kd)/\w'.cell? ⟨w.heap.size,4,none⟩=some (.int .i64 m)/\w'.cell? ⟨w.heap.size,5,none⟩=some (.int .i64 k)/\w'.cell? ⟨w.heap.size,6,none⟩=some (.int .i64 n)) w'):=fun w' hx=>by
  have hPF:¬F P:=fun e=>(HST.o.2.1 P e).2 (.inl rfl)
  have hRF:¬F w.heap.size:=fun e=>by have:=HFs.o _ e;omega
  have hb:=HX1.o.block HSB.o;exact⟨hx.cell ((HXW.o.trans HX1.o).cell cP0) hPF,zc (hx.ref hb hRF) rfl,zc (hx.ref hb hRF) rfl,zc (hx.ref hb hRF) rfl,zc (hx.ref hb hRF) rfl⟩
 have hS0:=SF.o w1 (Turn.refl _ _);obtain⟨l8,hl8⟩:∃l8,len+8=l8:=⟨_,rfl⟩
 have HL8:=hid hl8;rw [hl8] at HGO HP ⊢;clear hgo hx1 hghW hFs s7 hl8;go_wp2_with fail
 refine wp_region_held_drew (S:=(fun w'=>w'.cell? ⟨P,0,none⟩=some (.pointer (some ⟨B,0,none⟩))/\w'.cell? ⟨w.heap.size,3,none⟩=some (.int .i64 kd)/\w'.cell? ⟨w.heap.size,4,none⟩=some (.int .i64 m)/\w'.cell? ⟨w.heap.size,5,none⟩=some (.int .i64 k)/\w'.cell? ⟨w.heap.size,6,none⟩=some (.int .i64 n))) (by kernel_rfl) hS0 (fun hHeld=>?_);refine zT 0 hHeld ?_;refine zT 1 hHeld ?_;refine zT 2 hHeld ?_;refine zT 3 hHeld ?_;refine zT 4 hHeld ?_;refine zT 5 hHeld ?_;refine zT 6 hHeld ?_
 try simp only [Act.put,lA,lB,lC,lD,lE,lF]
 refine zR 7 fun K hK=>?_
 (try simp only [lA,lB,lC])
 go_simp;refine(HP.o _ gh (lJ (HXW.o.trans HX1.o)) (by have:=HGH.o.1;have:=HWS.o;omega) ?hwd).mono ?_
 case hwd=>
  have h1:WordsAt w1 gh 0 (ZC D 8):=ZK HGO.o;have h2:=(h1.ext (lJ (lI w1))).take len;have e:(ZC D 8).take len=D:=by rw [ZC,<-HDL.o];exact List.take_left
  rw [e] at h2;exact h2
 rintro e w3 ⟨c0,f0,n0,zs,R',ls',F',new,fl',ah',rfl,hso⟩;have HSO:=hid hso;have HT3:Hd (Turn (fun b=>F b) w1 w3):=(lM (lJ (lI w1))).trans hso.turn;clear hso;refine hK.out _ _ ?hc2 (fun hHeld=>?_)
 case hc2=>exact SF.o _ HT3.o
 clear hK K
 try simp only [Act.put,lA,lB,lC,lD,lE,lF]
 refine zT 8 hHeld ?_;refine wpAnyH_done (by kernel_rfl) ?_ _;have hghF:¬F gh:=fun e=>by have:=HFs.o gh e;have:=HGH.o.1;have:=HWS.o;omega
 have HSB3:Hd (w3.heap[w.heap.size]?=some (.cells #[.int .i64 sk,.int .i64 sa,.int .i64 sb,.int .i64 kd,.int .i64 m,.int .i64 k,.int .i64 n,.slice a len cap,.int .i64 r0,.int .i64 r1,.int .i64 r2,.int .i64 r3,.int .i64 r4,.int .i64 r5,.int .i64 r6,.int .i64 r7,.int .i64 r8,.int .i64 r9,.string ss,.slice ca cl ccap,.int .i64 st] 103 (0,0))):=HT3.o.ref (HX1.o.block HSB.o) (fun e=>by have:=HFs.o _ e;omega);have HGO3:Hd (w3.ownsRow W.heap.size 146 1 (.slice (some ⟨gh,0,none⟩) l8 l8) l8 ((ZC D 8).map (Value.int .u64))):=HT3.o.owns HGO.o (fun b hb e=>by
  have hb':gh=b:=by simpa [lH] using hb
  subst hb';exact hghF e)
 have HD3:Hd (DrawsAt w3 a len D):=((HDa.o.1.ext (HXW.o.trans HX1.o)).turn HT3.o (fun b off e=>(HDa.o.2 b off e).1))
 have s7:w3.cell? ⟨w.heap.size,7,none⟩=some (.slice a len cap):=zc HSB3.o rfl;have hsl3:=lG w3 _ s7;have hu:=uk D len gh cap HDL.o hlen a w3 (ZK HGO3.o) HD3.o;rw [HL8.o] at hu;have HU:Hd (∀w',w3=w'->Calls Tryz.prog 100 #[.slice (some ⟨gh,0,none⟩) len l8,.slice a len cap] w3 fun e w'=>e=.returned (.bool true)/\Ext w3 w'):=fun _ _=>hu
 clear hu;clear hHeld hS0 hghF;go_wp2_with fail
 refine(HU.o _ rfl).mono ?_;rintro e w4 ⟨rfl,hx4⟩;have HX4:=hid hx4;clear hx4;have hf:=yD (HX4.o.owns HGO3.o);have HBl:Hd (∀w',w4=w'->Calls Tryz.prog 101 #[.slice (some ⟨gh,0,none⟩) len l8] w4 fun e w'=>e=.returned (.tuple #[])/\Turn (fun b=>b=gh) w4 w'):=fun _ _=>gC len l8 gh _ hlen (by simp only [List.size_toArray];rw [hf.2.1,<-HL8.o];omega) w4 hf.1
 clear hf;go_wp2_with fail
 refine(HBl.o _ rfl).mono ?_;rintro e w5 ⟨rfl,ht5⟩;have HT5:=hid ht5;have HT35:Hd (Turn (fun b=>b=gh) w3 w5):=(lM HX4.o).trans ht5;clear ht5;have hghw:w.heap.size+1<=gh:=by have:=HGH.o.1;have:=HWS.o;omega
 have HTW:Hd (Turn (fun b=>F b) w w5):=((lM (HXW.o.trans HX1.o)).trans HT3.o).trans' HT35.o (fun b hb e=>by omega);have HGF:Hd (¬F' gh):=fun e=>by
  rcases HSO.o.grows gh e with e|e
  ·have:=HFs.o gh e;omega
  ·have h1:=HGH.o.2;have h2:(World.drew w1).heap.size=w1.heap.size:=rfl;omega
 have HST5:Hd (StoreOk w5 B F' R' ls' (ops0++new) fl' ah'):=HSO.o.store.turn HT35.o (fun b hb e=>HGF.o (by rw [<-e];exact hb));have HG5:Hd (GameOf w5 P B G v q (R.map lL) ls ops0 c):=H.o.turn HTW.o (fun b hb e=>(HST.o.2.1 b e).1 hb) (fun b hb e=>(HST.o.2.1 b e).2 hb);have hw5:=HTW.o.size;have HFar:Hd (Far F' G P v):=fun b hb=>by
  rcases HSO.o.grows b hb with e|e
  ·exact HST.o.2.1 b e
  ·have h2:(World.drew w1).heap.size=w1.heap.size:=rfl;have h3:=(HXW.o.trans HX1.o).le;exact⟨fun hg=>by have:=H.o.ltG b hg;omega,fun ho=>by have:=H.o.lt ho;omega⟩
 have HSB5:Hd (w5.heap[w.heap.size]?=some (.cells #[.int .i64 sk,.int .i64 sa,.int .i64 sb,.int .i64 kd,.int .i64 m,.int .i64 k,.int .i64 n,.slice a len cap,.int .i64 r0,.int .i64 r1,.int .i64 r2,.int .i64 r3,.int .i64 r4,.int .i64 r5,.int .i64 r6,.int .i64 r7,.int .i64 r8,.int .i64 r9,.string ss,.slice ca cl ccap,.int .i64 st] 103 (0,0))):=HT35.o.ref HSB3.o (fun e=>by omega);have HD5:Hd (DrawsAt w5 a len D):=HD3.o.turn HT35.o (fun b off e e2=>by have:=(HDa.o.2 b off e).2;omega);have hGF:∀b,G b->¬F b:=fun b hb e=>(HST.o.2.1 b e).1 hb
 have hPF:¬F P:=fun e=>(HST.o.2.1 P e).2 (.inl rfl)
 have k1:w5.cell? ⟨P,1,none⟩=some (.slice (some ⟨gl,0,none⟩) 1 lcap):=HTW.o.cell c1 hPF;have k2:w5.cell? ⟨gl,0,none⟩=some (.pointer (some ⟨q,0,none⟩)):=HTW.o.cell hlc (hGF gl HGL.o);have SF2:Hd (∀w',Ext w5 w'->(fun w'=>w'.cell? ⟨P,1,none⟩=some (.slice (some ⟨gl,0,none⟩) 1 lcap)/\w'.cell? ⟨gl,0,none⟩=some (.pointer (some ⟨q,0,none⟩))/\w'.cell? ⟨w.heap.size,7,none⟩=some (.slice a len cap)/\w'.cell? ⟨w.heap.size,3,none⟩=some (.int .i64 kd)/\w'.cell? ⟨w.heap.size,4,none⟩=some (.int .i64 m)/\w'.cell? ⟨w.heap.size,5,none⟩=some (.int .i64 k)/\w'.cell? ⟨w.heap.size,6,none⟩=some (.int .i64 n)) w'):=fun w' hx=>⟨hx.cell k1,hx.cell k2,zc (hx.block HSB5.o) rfl,zc (hx.block HSB5.o) rfl,zc (hx.block HSB5.o) rfl,zc (hx.block HSB5.o) rfl,zc (hx.block HSB5.o) rfl⟩
 have hS2:=SF2.o w5 (lI _);have hPl5:=lG w5 _ k1;clear hGF hPF s7 cP0 c1 hlc;go_wp2_with fail
 refine wp_loop_rounds 2 ?_;rw [rounds_succ];go_wp2_with fail
 refine wp_region_held_drew (S:=(fun w'=>w'.cell? ⟨P,1,none⟩=some (.slice (some ⟨gl,0,none⟩) 1 lcap)/\w'.cell? ⟨gl,0,none⟩=some (.pointer (some ⟨q,0,none⟩))/\w'.cell? ⟨w.heap.size,7,none⟩=some (.slice a len cap)/\w'.cell? ⟨w.heap.size,3,none⟩=some (.int .i64 kd)/\w'.cell? ⟨w.heap.size,4,none⟩=some (.int .i64 m)/\w'.cell? ⟨w.heap.size,5,none⟩=some (.int .i64 k)/\w'.cell? ⟨w.heap.size,6,none⟩=some (.int .i64 n))) (by kernel_rfl) hS2 (fun hHeld=>?_);refine zT 0 hHeld ?_;refine zT 1 hHeld ?_;refine zT 2 hHeld ?_;refine zT 3 hHeld ?_;refine zT 4 hHeld ?_;refine zT 5 hHeld ?_;refine zT 6 hHeld ?_;refine zT 7 hHeld ?_;refine zT 8 hHeld ?_;refine zT 9 hHeld ?_;refine zT 10 hHeld ?_
 try simp only [Act.put,lA,lB,lC,lD,lE,lF]
 refine zR 11 fun K hK=>?_
 (try simp only [lA,lB,lC])
 go_simp;refine(HR.o _ (HG5.o.ref.ext (lJ (lI w5))) (fun b hb=>HG5.o.ltG b hb) (HD5.o.ext (lJ (lI w5)))).mono ?_;rintro e w6 ⟨pa,rfl,hso⟩;have HRS:=hid hso;have HX6:Hd (Ext w5 w6):=(lJ (lI w5)).trans hso.ext;clear hso;refine hK.out _ _ ?hc5 (fun hHeld=>?_)
 case hc5=>exact SF2.o _ HX6.o
 clear hK K
 try simp only [Act.put,lA,lB,lC,lD,lE,lF]
 refine zT 12 hHeld ?_;refine zT 13 hHeld ?_;refine zT 14 hHeld ?_;refine zT 15 hHeld ?_;refine zT 16 hHeld ?_;refine wpAnyH_done (by kernel_rfl) ?_ _;have k16:=HX6.o.cell k1;have hPl6:=lG w6 _ k16;have h56:=HX6.o.le;clear hHeld hS2;go_wp2_with (at_builtin;refine wpList_append_lies _ rfl _ _ 85 rfl w5.heap.size 95 j0 _ 1 8 underlying85 hj0 hy0 hy1 hy2 rfl (by decide) _ 0 [] rfl (World.ownsRow_nil _ _ _ _) ⟨_,0,none⟩ 1 1 [.pointer pa] rfl rfl (World.news_of_block (zm (by simp))) (by simp [Value.oneCell']) (by decide) (by simp [maxLen]) (by omega) (by simp;omega) _ rfl ?_)
 intro gN capN w7 hown7 hgrow7 hat7 hlt7;have HO7:Hd (w7.ownsRow w5.heap.size 95 1 (.slice (some ⟨gN,0,none⟩) 1 capN) 1 [.pointer pa]/\Ext w6 w7):=⟨by simpa using hown7,Ext.grown (Ext.alloc (lI _) _) hgrow7 (by simp [lH])⟩
 have HX7:Hd (Ext w5 w7):=HX6.o.trans HO7.o.2;have k17:=HO7.o.2.cell k16;have hPl7:=lG w7 _ k17;have h57:=HX7.o.le;clear hown7 hgrow7 hat7 hlt7 k16;go_wp2_with fail
 rw [rounds_succ];have HG7:Hd (GameOf w7 P B (fun b=>G b\/w5.heap.size<=b/\b<w7.heap.size) v q (R.map lL) ls ops0 c):=(HG5.o.ext HX7.o).more (fun b hb=>.inl hb) (fun b hb=>hb.elim (fun h=>rA (HG5.o.ltG b h) h57) (fun h=>h.2)) (fun b hb hor=>hor.elim (HG5.o.apart b hb) (fun h=>by have:=HG5.o.lt hb;omega));have HS7:Hd (GStep (fun b=>w5.heap.size<=b) w5 w7 P v v G (fun b=>G b\/w5.heap.size<=b/\b<w7.heap.size)):=⟨lM HX7.o,fun b hb=>.inl hb,fun b hb=>hb.imp id (fun h=>h.1),fun b hb=>.inl hb⟩
 have HST7:Hd (StoreOk w7 B F' R' ls' (ops0++new) fl' ah'/\Far F' (fun b=>G b\/w5.heap.size<=b/\b<w7.heap.size) P v):=HST5.o.step HS7.o HFar.o (fun b hb hl=>by have:=HST5.o.lt b hb;omega);have hnb:new.length<=4:=HSO.o.next.short;have HNB:=hid hnb;have hol:(ops0++new).length<=1000000:=by rw [lW];have:=HST.o.2.2.1;omega
 have HOL:=hid hol;have HCC:Hd (c<=800000):=HST.o.2.2.2.2;have HNu:Hd (∀w',_):=fun w'=>xD c0 w'
 clear hnb hol;have HAI:=hid (HSO.o.next.ans HAR.o.1 HAR.o.2.1 HAR.o.2.2.1);rcases Option.eq_none_or_eq_some A.next with h1|⟨⟨S',ls2⟩,h1⟩
 ·obtain⟨h0,h2,h3,h4,h5,h6⟩:=HSO.o.next.nil h1;subst h0;have hcA:=HST.o.2.2.2.1 h1;have hcz:(A.c != 0)=true:=by simpa using hcA
  have HN0:Hd (A.next=none/\new=[]/\R'=R/\ls'=ls/\fl'=fl/\ah'=ah):=⟨h1,h2,h3,h4,h5,h6⟩
  have HStl:Hd (∀w',w7=w'->_):=fun w' e=>by subst e;exact QB (R:=R') (ls':=ls') (F:=F') HG7.o (by have:=HCC.o;omega) (by have:=HST7.o.1;rw [h2,rL] at this;exact this) (by have:=HOL.o;rw [h2,rL] at this;exact this)
  clear h1 h2 h3 h4 h5 h6;go_wp2_with fail
  refine(HStl.o _ rfl).mono ?_;rintro e w8 ⟨rfl,v8,G8,hg8,hs8,_,_,ha8,hf8⟩;have HF8:Hd _:=And.intro hg8 hs8;have HA8:Hd (v8.ar=v.ar/\v8.fi=v.fi):=⟨ha8,hf8⟩
  clear hg8 hs8 ha8 hf8;go_wp2_with fail
  refine(HNu.o _).mono ?_;rintro e w9 ⟨rfl,rfl⟩;go_wp2;go_ret;have hfin:=HST7.o.1.step HF8.o.2 HST7.o.2 (fun b hb hl=>by have:=HST7.o.1.lt b hb;omega);have hGS:=HS7.o.trans HF8.o.2 (fun b hb=>by omega);have hold:Old w w8 F F' P v v8:=by refine⟨(HTW.o.mono (fun b _ hb=>.inl hb)).trans' hGS.turn (fun b hb hor=>hor.elim .inr (fun hl=>by omega)),fun b hb=>(HSO.o.grows b hb).imp id (fun hl=>?_),fun b hb=>(hGS.own b hb).imp id (fun hl=>by omega)⟩;have h2:(World.drew w1).heap.size=w1.heap.size:=rfl;have h3:=(HXW.o.trans HX1.o).le;omega
  refine⟨zH (by simp),v8,G8,q,R',ls',F',new,fl',ah',?_,hfin.1,hfin.2,HNB.o,hold,by rw [HN0.o.2.2.2.2.1,HN0.o.2.2.2.2.2];exact HAR.o.1.same HA8.o.1 HA8.o.2,by rw [HN0.o.2.2.2.2.1,HN0.o.2.2.2.2.2];exact HAR.o.2.1,.inl ⟨by rw [HN0.o.2.2.1],HN0.o.2.2.2.1⟩⟩;rw [HN0.o.2.1,rL,HN0.o.2.2.1,HN0.o.2.2.2.1];exact HF8.o.1.count (by omega)
 ·have hc0:A.c=0:=HAR.o.2.2.2 (by rw [h1];exact fun h=>by cases h);have hcz:(A.c != 0)=false:=by rw [hc0];rfl
  obtain⟨q',hpa,href⟩:∃q',pa=some ⟨q',0,none⟩/\RefAt w6 (ZO G w5.drew w6) q' S' ls2:=by
   rcases HRS.o.next with⟨k1,_⟩|⟨S'',ls3,q',k1,k2,k3⟩
   ·rw [h1] at k1;cases k1
   ·rw [h1] at k1;injection k1 with k1
    injection k1 with k1 k4
    subst k1 k4;exact⟨q',by injection k2,k3⟩
  subst hpa;have hgN:=lR.lt HO7.o.1 gN rfl;have hone:OneIs w7 (fun b=>G b\/w5.heap.size<=b/\b<w7.heap.size) (.slice (some ⟨gN,0,none⟩) 1 capN) q':=⟨gN,capN,rfl,.inr hgN,zk HO7.o.1 rfl⟩
  have href7:RefAt w7 (fun b=>G b\/w5.heap.size<=b/\b<w7.heap.size) q' S' ls2:=(href.ext HO7.o.2).mono (fun b hb=>hb.imp id (fun h=>⟨h.1,rA h.2 HO7.o.2.le⟩));have HCh:Hd (∀w',w7=w'->_):=fun w' e=>by subst e;exact jp (R:=R') (F:=F') A HG7.o (by have:=HCC.o;omega) HST7.o.1 HOL.o rfl c0 f0 n0 zs HAI.o _ q' _ h1 hone href7
  clear h1 hc0 hone href href7;go_wp2_with fail
  refine(HNu.o _).mono ?_;rintro e w9 ⟨rfl,rfl⟩;go_wp2_with fail
  refine(HCh.o _ rfl).mono ?_;rintro e w8 ⟨rfl,v8,G8,q8,S8,ls8,hg8,hs8,ho8⟩;have HO8:Hd _:=HSO.o.next.out HAR.o.1 HAR.o.2.1 HAR.o.2.2.1 ho8;have HF8:Hd _:=And.intro hg8 hs8;clear hg8 hs8 ho8;go_wp2;go_ret;have hfin:=HST7.o.1.step HF8.o.2 HST7.o.2 (fun b hb hl=>by have:=HST7.o.1.lt b hb;omega);have hGS:=HS7.o.trans HF8.o.2 (fun b hb=>by omega);have hold:Old w w8 F F' P v v8:=by refine⟨(HTW.o.mono (fun b _ hb=>.inl hb)).trans' hGS.turn (fun b hb hor=>hor.elim .inr (fun hl=>by omega)),fun b hb=>(HSO.o.grows b hb).imp id (fun hl=>?_),fun b hb=>(hGS.own b hb).imp id (fun hl=>by omega)⟩;have h2:(World.drew w1).heap.size=w1.heap.size:=rfl;have h3:=(HXW.o.trans HX1.o).le;omega
  refine⟨zH (by simp),v8,G8,q8,R',ls',F',new,fl',ah',?_,hfin.1,hfin.2,HNB.o,hold,HO8.o.2.2.1,HO8.o.2.2.2.1,HO8.o.2.2.2.2⟩;have hg:=HF8.o.1.count (c':=c+3) (by omega);rw [HO8.o.1,HO8.o.2.1] at hg;exact hg
end
end
section
section
variable {w:World}{P B q c:Nat}{G F:Nat->Prop}{v:GV}{ls:List LsV}{ops0:List OpV}{fl:Bool}{ah:Int}
theorem xK {R:List StkR}(hR:R.length<=100)(w:World)(h:StoreOk w B F R ls ops0 fl ah) :
  Calls Tryz.prog 16 #[.pointer (some ⟨B,0,none⟩)] w fun e w'=>∃v',e=.returned v'/\w'.ownsRow w.heap.size 116 7 v' R.length (Za (R.map lL))/\Ext w w':=by
 obtain⟨sv,lv,dv,kn,h1⟩:=h.ex;exact xG hR w h1
theorem XG {R:List StkR}(hls:ls.length<=1000)(w:World)(h:StoreOk w B F R ls ops0 fl ah) :
  Calls Tryz.prog 15 #[.pointer (some ⟨B,0,none⟩)] w fun e w'=>∃v',e=.returned v'/\w'.ownsRow w.heap.size 56 9 v' ls.length (zu ls)/\Ext w w':=by
 obtain⟨sv,lv,dv,kn,h1⟩:=h.ex;exact XD hls w h1
theorem Kq {R:List StkR}(h:GameOf w P B G v q (R.map lL) ls ops0 c)(hc:c<=800000)(hst:StoreOk w B F R ls ops0 fl ah)(hF:Far F G P v)(hn:ops0.length<=900000)(hR:R.length<=100)(hRm:∀x∈R,x.ts.length<=1000)(hls:ls.length<=1000) :
  Calls Tryz.prog 44 #[.pointer (some ⟨P,0,none⟩)] w fun e w'=>e=.returned (.bool true)/\∃v' G',GameOf w' P B G' v' q (R.map lL) ls ops0 (c+3)/\StoreOk w' B F R ls ops0 fl ah/\Far F G' P v'/\Old w w' F F P v v'/\v'.ar=v.ar/\v'.fi=v.fi:=by
 have H:=hid h;have HST:Hd (StoreOk w B F R ls ops0 fl ah/\Far F G P v/\ops0.length<=900000/\c<=800000):=⟨hst,hF,hn,hc⟩
 obtain⟨gl,lcap,hwv,hgl,hlc⟩:=h.wrow;have hblk:=h.blk;unfold Zp at hblk;rw [hwv] at hblk;have c0:w.cell? ⟨P,0,none⟩=some (.pointer (some ⟨B,0,none⟩)):=zc hblk rfl;have c1:w.cell? ⟨P,1,none⟩=some (.slice (some ⟨gl,0,none⟩) 1 lcap):=zc hblk rfl;have hPl:=lG w _ c1;have HCl:Hd (∀w',Ext w w'->_):=fun w' hx=>xK hR w' (hst.ext hx)
 have HLe:Hd (∀w',Ext w w'->_):=fun w' hx=>XG hls w' (hst.ext hx)
 have hRS:∀x∈R.map lL,x.ts.length<=1000:=fun x hx=>by obtain⟨y,hy,rfl⟩:=sC.1 hx;exact hRm y hy
 have HRC:Hd (∀w',Ext w w'->_):=fun w' hx=>VE q (R.map lL) ls (by simpa using hR) hRS w' (h.ref.ext hx)
 have HRL:Hd (∀w',Ext w w'->_):=fun w' hx=>Uj q (R.map lL) ls w' (h.ref.ext hx)
 obtain⟨n,hnn⟩:∃n,R.length=n:=⟨_,rfl⟩
 obtain⟨nl,hnl⟩:∃n,ls.length=n:=⟨_,rfl⟩
 have HN:Hd ((R.map lL).length=n/\ls.length=nl):=⟨by rw [rU];exact hnn,hnl⟩
 rw [hnn] at HCl hR;rw [hnl] at HLe HRL hls;rw [rU,hnn] at HRC;clear h hst hF hn hwv hgl hblk hRS hRm hnn hnl;go_enter func44,ntmps44;go_wp2_with fail
 refine(HCl.o _ (lI _)).mono ?_;rintro e w1 ⟨av,rfl,ha,hx1⟩;obtain⟨aa,ac,rfl⟩:=zo ha;have HA:=hid ha;have HX1:=hid hx1;have c01:=hx1.cell c0;have hPl1:=lG w1 _ c01;clear ha hx1;go_wp2_with fail
 refine(HLe.o _ HX1.o).mono ?_;rintro e w2 ⟨bv,rfl,hb,hx2⟩;obtain⟨ba,bc,rfl⟩:=zo hb;have HB:=hid hb;have HX12:=hid hx2;have HX2:Hd (Ext w w2):=HX1.o.trans hx2;have c12:=HX2.o.cell c1;have l2:=HX2.o.cell hlc;have hPl2:=lG w2 _ c12;clear hb hx2 c01;go_wp2_with fail
 refine wp_loop_rounds 2 ?_;rw [rounds_succ];go_wp2_with fail
 refine(HRC.o _ HX2.o).mono ?_;rintro e w3 ⟨cv,rfl,hcv,hx3⟩;obtain⟨ca,ccap,rfl⟩:=zo hcv;have HC:Hd (RdRow w3 ca n (Za (R.map lL))):=yz hcv;have HX23:=hid hx3;have HX3:Hd (Ext w w3):=HX2.o.trans hx3;have c13:=hx3.cell c12;have l3:=hx3.cell l2;have hPl3:=lG w3 _ c13;clear hcv hx3 c12 l2;go_wp2_with fail
 refine(HRL.o _ HX3.o).mono ?_;rintro e w4 ⟨dv,rfl,hdv,rfl⟩;obtain⟨da,dcap,rfl⟩:=hdv.slice;have HD:Hd (RdRow w3 da nl (zu ls)):=gV hdv;have HSS:Hd (∀w',Ext w3 w'->_):=fun w' hx=>VA (R.map lL) n HN.o.1 (by omega) aa ca ac ccap w' ((yz HA.o).ext ((HX12.o.trans HX23.o).trans hx)) (HC.o.ext hx)
 have HSL:Hd (∀w',Ext w3 w'->_):=fun w' hx=>VM ls nl HN.o.2 (by omega) ba da bc dcap w' ((yz HB.o).ext (HX23.o.trans hx)) (HD.o.ext hx)
 clear hdv;go_wp2_with fail
 refine(HSS.o _ (lI _)).mono ?_;rintro e w5 ⟨rfl,hx5⟩;have HX5:=hid hx5;clear hx5;go_wp2_with fail
 refine(HSL.o _ HX5.o).mono ?_;rintro e w6 ⟨rfl,hx6⟩;have HX6:Hd (Ext w3 w6):=HX5.o.trans hx6;have HXw6:Hd (Ext w w6):=HX3.o.trans HX6.o;have c16:=HX6.o.cell c13;have hPl6:=lG w6 _ c16;clear hx6 c13 l3;go_wp2_with fail
 rw [rounds_succ];have hl26:w2.heap.size<=w6.heap.size:=(HX23.o.trans HX6.o).le;have hl12:w1.heap.size<=w2.heap.size:=HX12.o.le;have hl01:w.heap.size<=w1.heap.size:=HX1.o.le;have HG6:=hid (H.o.ext HXw6.o);have HA6:=hid ((HX12.o.trans (HX23.o.trans HX6.o)).owns HA.o);have HB6:=hid ((HX23.o.trans HX6.o).owns HB.o);have HK1:Hd (∀w',w6=w'->Calls Tryz.prog 78 #[.pointer (some ⟨P,7,none⟩),.slice aa n ac] w6 fun e w'=>e=.returned (.tuple #[])/\∃bv' G',GameOf w' P B G' { v with bS:=bv' } q (R.map lL) ls ops0 (c+1)/\GStep (fun b=>lH (.slice aa n ac)=some b\/w6.heap.size<=b) w6 w' P v { v with bS:=bv' } G G'):=fun _ _=>vL HG6.o (by have:=HST.o.2.2.2;omega) w.heap.size aa n ac _ (by omega) HA6.o (by omega) (fun b hb hg=>by have h1:=(lR.lt HA6.o b hb).1;have h2:=H.o.ltG b hg;omega) _ (fun b hb=>hb)
 go_wp2_with fail
 refine(HK1.o _ rfl).mono ?_;rintro e w7 ⟨rfl,bS7,G7,hg7,hs7⟩;have HG7:=hid hg7;have HS7:=hid hs7;have hba:∀b,lH (.slice ba nl bc)=some b->lH (.slice aa n ac)≠some b/\¬yZ P v b/\b<w6.heap.size/\w.heap.size<=b:=fun b hb=>by
  obtain⟨cur,hcu⟩:=zf HB6.o hb;have h1:=lR.lt HB6.o b hb;exact⟨fun e=>by obtain⟨cur2,hcu2⟩:=zf HA6.o e;exact zh hcu hcu2 (by decide) rfl,fun ho=>by have:=H.o.lt ho;omega,h1.2,by omega⟩
 have HBA:Hd _:=hba;have HB7:Hd (w7.ownsRow w1.heap.size 56 9 (.slice ba nl bc) nl (zu ls)):=hs7.turn.owns HB6.o (fun b hb hor=>by
  have h1:=hba b hb;rcases hor with ho|ho|ho
  ·exact h1.2.1 ho
  ·exact h1.1 ho
  ·omega)
 have hl67:=hs7.turn.size;have hPl7:P<w7.heap.size:=(Array.getElem?_eq_some_iff.1 hg7.blk).1;have HK2:Hd (∀w',w7=w'->Calls Tryz.prog 79 #[.pointer (some ⟨P,7,none⟩),.slice ba nl bc] w7 fun e w'=>e=.returned (.tuple #[])/\∃bv' G',GameOf w' P B G' { v with bS:=bS7,bL:=bv' } q (R.map lL) ls ops0 (c+1+1)/\GStep (fun b=>lH (.slice ba nl bc)=some b\/w7.heap.size<=b) w7 w' P { v with bS:=bS7 } { v with bS:=bS7,bL:=bv' } G7 G'):=fun _ _=>vy HG7.o (by have:=HST.o.2.2.2;omega) w1.heap.size ba nl bc _ (by omega) HB7.o (by omega) (fun b hb hg=>by
  have h1:=HBA.o b hb;rcases HS7.o.new b hg with e|e|e
  ·have:=H.o.ltG b e;omega
  ·exact h1.1 e
  ·omega) _ (fun b hb=>hb)
 clear hg7 hs7 hba;go_wp2_with fail
 refine(HK2.o _ rfl).mono ?_;rintro e w8 ⟨rfl,bL8,G8,hg8,hs8⟩;have HG8:=hid hg8;have HS8:Hd (GStep (fun b=>w.heap.size<=b) w w8 P v { v with bS:=bS7,bL:=bL8 } G G8):=by
  refine((GStep.of_ext HXw6.o).trans HS7.o (fun b hb=>?_)).trans hs8 (fun b hb=>?_)
  ·rcases hb with e|e
   ·exact(lR.lt HA6.o b e).1
   ·omega
  ·rcases hb with e|e
   ·exact(HBA.o b e).2.2.2
   ·omega
 have HST8:Hd (StoreOk w8 B F R ls ops0 fl ah/\Far F G8 P { v with bS:=bS7,bL:=bL8 }):=HST.o.1.step HS8.o HST.o.2.1 (fun b hb hl=>by have:=HST.o.1.lt b hb;omega);have hPl8:P<w8.heap.size:=(Array.getElem?_eq_some_iff.1 hg8.blk).1;have HStl:Hd (∀w',w8=w'->_):=fun w' e=>by subst e;exact QB (R:=R) (ls':=ls) (F:=F) HG8.o (by have:=HST.o.2.2.2;omega) HST8.o.1 (by have:=HST.o.2.2.1;omega)
 clear hg8 hs8;go_wp2_with fail
 refine(HStl.o _ rfl).mono ?_;rintro e w9 ⟨rfl,v9,G9,hg9,hs9,_,_,ha9,hf9⟩;have HA9:Hd (v9.ar=v.ar/\v9.fi=v.fi):=⟨ha9,hf9⟩
 clear ha9 hf9;have HG9:=hid hg9;have HS9:Hd (GStep (fun b=>w.heap.size<=b) w w9 P v v9 G G9):=HS8.o.trans hs9 (fun b hb=>Nat.le_trans HS8.o.turn.size hb);have HST9:Hd (StoreOk w9 B F R ls ops0 fl ah/\Far F G9 P v9):=HST8.o.1.step hs9 HST8.o.2 (fun b hb hl=>by have:=HST8.o.1.lt b hb;omega);have hPl9:P<w9.heap.size:=(Array.getElem?_eq_some_iff.1 hg9.blk).1;have HRd:Hd (∀w',w9=w'->_):=fun w' e=>by subst e;exact Ub HG9.o (by have:=HST.o.2.2.2;omega)
 clear hg9 hs9;go_wp2_with fail
 refine(HRd.o _ rfl).mono ?_;rintro e w10 ⟨rfl,hx10⟩;have HX10:=hid hx10;clear hx10;go_wp2;go_ret;exact⟨zH (by simp),v9,G9,HG9.o.ext HX10.o,HST9.o.1.ext HX10.o,HST9.o.2,⟨(HS9.o.turn.mono (fun b hb h=>.inr (h.resolve_right (by omega)))).trans (lM HX10.o),fun b hb=>.inl hb,fun b hb=>HS9.o.own b hb⟩,HA9.o.1,HA9.o.2⟩
end
end
section
structure InvS (S:List Stk)(ls:List LsV):Prop where
 stocks:S.length<=6
 cls:∀x∈S,yb x.kd x.m x.k x.n=true
 made:∀x∈S,1<=x.ts.length/\x.ts.length<=200/\x.leased<=x.ts.length
 ts:∀x∈S,∀t∈x.ts,t.1.length=x.each/\inU64 t.1
 kept:∀x∈S,∀j (hj:j<x.ts.length),x.ts[j].2=false->∃l∈ls,l.r=true/\x.is l.kd l.m l.k l.n=true/\l.f<=(j:Int)/\(j:Int)<l.f+l.c
 uniq:∀i j (hi:i<S.length) (hj:j<S.length),S[i].is S[j].kd S[j].m S[j].k S[j].n=true->i=j
 lok:∀l∈ls,xH l
 leases:ls.length<=30
 of:∀l∈ls,0<=l.f/\1<=l.c/\l.c<=40/\∃x,S.find? (fun x=>x.is l.kd l.m l.k l.n)=some x/\l.f+l.c<=x.leased
 apart:∀i j (hi:i<ls.length) (hj:j<ls.length),i<j->ls[i].kd=ls[j].kd/\ls[i].m=ls[j].m/\ls[i].k=ls[j].k/\ls[i].n=ls[j].n->ls[i].f+ls[i].c<=ls[j].f\/ls[j].f+ls[j].c<=ls[i].f
theorem xW {α:Type}(p:α->Bool)(l:List α):l.findIdx? p=(l.map p).findIdx? id:=by rw [List.findIdx?_map];rfl
theorem jV {α:Type}{p:α->Bool}{l:List α}{i:Nat}(hi:i<l.length){y:α}(h:p y=p l[i]):(l.set i y).findIdx? p=l.findIdx? p:=by
 rw [xW,xW p l,List.map_set,h];congr 1;apply List.ext_getElem (by simp);intro j h1 h2;by_cases e:i=j
 ·subst e;simp
 ·rw [List.getElem_set_ne e]
theorem Xs {α:Type}{p:α->Bool}{l:List α}{i:Nat}(hi:i<l.length){y:α}(h:p y=p l[i]){x:α}(hf:l.find? p=some x):(l.set i y).find? p=some x\/(l[i]=x/\(l.set i y).find? p=some y):=by
 cases hx:l.findIdx? p with
 | none=>rw [z9 hx] at hf;cases hf
 | some j=>
  obtain⟨hj,hfj⟩:=zU hx;rw [hf] at hfj;injection hfj with hfj
  have hs:(l.set i y).findIdx? p=some j:=by rw [jV hi h];exact hx
  obtain⟨hj',hfs⟩:=zU hs;by_cases e:i=j
  ·subst e
   right
   refine⟨hfj.symm,?_⟩;rw [hfs,sQ]
  ·left
   rw [hfs,List.getElem_set_ne e,hfj]
theorem ut {S:List Stk}(h:∀i j (hi:i<S.length)(hj:j<S.length),S[i].is S[j].kd S[j].m S[j].k S[j].n=true->i=j){ix:Nat}(hix:ix<S.length){y:Stk}(hy:∀kd m k n,y.is kd m k n=S[ix].is kd m k n)(hc:y.kd=S[ix].kd/\y.m=S[ix].m/\y.k=S[ix].k/\y.n=S[ix].n):∀i j (hi:i<(S.set ix y).length)(hj:j<(S.set ix y).length),(S.set ix y)[i].is (S.set ix y)[j].kd (S.set ix y)[j].m (S.set ix y)[j].k (S.set ix y)[j].n=true->i=j:=by
 intro i j hi hj hh;have hi':i<S.length:=by simpa using hi
 have hj':j<S.length:=by simpa using hj
 refine h i j hi' hj' ?_;by_cases e1:ix=i
 ·subst e1;rw [sQ,hy] at hh;by_cases e2:ix=j
  ·subst e2;rw [sQ,hc.1,hc.2.1,hc.2.2.1,hc.2.2.2] at hh;exact hh
  ·rw [List.getElem_set_ne e2] at hh;exact hh
 ·rw [List.getElem_set_ne e1] at hh;by_cases e2:ix=j
  ·subst e2;rw [sQ,hc.1,hc.2.1,hc.2.2.1,hc.2.2.2] at hh;exact hh
  ·rw [List.getElem_set_ne e2] at hh;exact hh
theorem ZU {α:Type}{l:List α}{i:Nat}{y x:α}(h:x∈l.set i y):x∈l\/x=y:=List.mem_or_eq_of_mem_set h
theorem InvS.lease {S:List Stk}{ls:List LsV}(h:InvS S ls){ix c:Nat}{s i kd m k n:Int}(hix:ix<S.length)(hfx:S.findIdx? (fun x=>x.is kd m k n)=some ix)(hcd:zV S ls kd m k n c=0)(hlk:xH ⟨s,i,kd,m,k,n,S[ix].leased,c,false⟩):InvS (S.set ix (S[ix].lend c)) (ls++[⟨s,i,kd,m,k,n,S[ix].leased,c,false⟩]):=by
 obtain⟨_,hfi⟩:=zU hfx;obtain⟨hcc,hfew,hfull⟩:¬((c:Int)<1\/40<(c:Int))/\¬((S[ix].ts.length:Int) - S[ix].leased<c)/\¬30<=ls.length:=by
  unfold zV at hcd;rw [hfi] at hcd;simp only at hcd;split at hcd
  ·simp at hcd
  ·rename_i h1
   split at hcd
   ·simp at hcd
   ·rename_i h2
    split at hcd
    ·simp at hcd
    ·rename_i h3
     exact⟨h1,h2,h3⟩
 have hmem:S[ix]∈S:=lV hix;refine⟨by simpa using h.stocks,fun x hx=>?_,fun x hx=>?_,fun x hx=>?_,fun x hx j hj hk=>?_,ut h.uniq hix (fun _ _ _ _=>rfl) ⟨rfl,rfl,rfl,rfl⟩,fun l hl=>?_,by simp;omega,fun l hl=>?_,fun a b ha hb hab hcl=>?_⟩
 ·rcases ZU hx with hx|rfl
  ·exact h.cls x hx
  ·exact h.cls S[ix] hmem
 ·rcases ZU hx with hx|rfl
  ·exact h.made x hx
  ·have:=h.made _ hmem;exact⟨this.1,this.2.1,by show S[ix].leased+c<=S[ix].ts.length;omega⟩
 ·rcases ZU hx with hx|rfl
  ·exact h.ts x hx
  ·exact h.ts S[ix] hmem
 ·rcases ZU hx with hx|rfl
  ·obtain⟨l,hl,h1⟩:=h.kept x hx j hj hk;exact⟨l,sE.2 (.inl hl),h1⟩
  ·obtain⟨l,hl,h1⟩:=h.kept S[ix] hmem j hj hk;exact⟨l,sE.2 (.inl hl),h1⟩
 ·rcases sE.1 hl with hl|hl
  ·exact h.lok l hl
  ·rw [sJ.1 hl];exact hlk
 ·rcases sE.1 hl with hl|hl
  ·obtain⟨h1,h2,h3,x,h4,h5⟩:=h.of l hl;refine⟨h1,h2,h3,?_⟩;rcases Xs hix (y:=S[ix].lend c) (show Stk.is _ _ _ _ _=Stk.is _ _ _ _ _ from rfl) h4 with h6|⟨h6,h7⟩
   ·exact⟨x,h6,h5⟩
   ·refine⟨_,h7,?_⟩;rw [<-h6] at h5;show l.f+l.c<=((S[ix].leased+c:Nat):Int)
    omega
  ·rw [sJ.1 hl];refine⟨by simp,by simp only;omega,by simp only;omega,?_⟩;rcases Xs hix (y:=S[ix].lend c) (show Stk.is _ kd m k n=Stk.is _ kd m k n from rfl) hfi with h6|⟨_,h7⟩
   ·obtain⟨hj',hfs⟩:=zU (show (S.set ix (S[ix].lend c)).findIdx? (fun x=>x.is kd m k n)=some ix by rw [jV hix (y:=S[ix].lend c) (show Stk.is _ kd m k n=Stk.is _ kd m k n from rfl)];exact hfx);refine⟨_,hfs,?_⟩;rw [sQ];show ((S[ix].leased:Nat):Int)+c<=((S[ix].leased+c:Nat):Int)
    omega
   ·refine⟨_,h7,?_⟩;show ((S[ix].leased:Nat):Int)+c<=((S[ix].leased+c:Nat):Int)
    omega
 ·by_cases hbl:b<ls.length
  ·rw [sM (show a<ls.length by omega),sM hbl] at hcl ⊢;exact h.apart a b (by omega) hbl hab hcl
  ·have hb':b=ls.length:=by simp at hb;omega
   have ha':a<ls.length:=by omega
   subst hb';rw [sM ha'] at hcl ⊢;rw [List.getElem_concat_length rfl] at hcl ⊢
   left
   obtain⟨h1,h2,h3,x,h4,h5⟩:=h.of ls[a] (lV ha');rw [hcl.1,hcl.2.1,hcl.2.2.1,hcl.2.2.2] at h4;simp only at h4;rw [hfi] at h4;injection h4 with h4
   rw [<-h4] at h5;exact h5
theorem InvS.free {S:List Stk}{ls:List LsV}(h:InvS S ls){ix:Nat}(hix:ix<ls.length):InvS S (ls.set ix ls[ix].free):=by
 have key:∀j (hj:j<(ls.set ix ls[ix].free).length),∃hj':j<ls.length,(ls.set ix ls[ix].free)[j].kd=ls[j].kd/\(ls.set ix ls[ix].free)[j].m=ls[j].m/\(ls.set ix ls[ix].free)[j].k=ls[j].k/\(ls.set ix ls[ix].free)[j].n=ls[j].n/\(ls.set ix ls[ix].free)[j].f=ls[j].f/\(ls.set ix ls[ix].free)[j].c=ls[j].c:=fun j hj=>by
  have hj':j<ls.length:=by simpa using hj
  refine⟨hj',?_⟩;by_cases e:ix=j
  ·subst e;rw [sQ];exact⟨rfl,rfl,rfl,rfl,rfl,rfl⟩
  ·rw [List.getElem_set_ne e];exact⟨rfl,rfl,rfl,rfl,rfl,rfl⟩
 refine⟨h.stocks,h.cls,h.made,h.ts,fun x hx j hj hk=>?_,h.uniq,fun l hl=>?_,by simpa using h.leases,fun l hl=>?_,fun a b ha hb hab hcl=>?_⟩
 ·obtain⟨l,hl,h1,h2⟩:=h.kept x hx j hj hk;obtain⟨a,ha,rfl⟩:=sK hl;by_cases e:ix=a
  ·subst e;exact⟨ls[ix].free,List.mem_of_getElem (i:=ix) (h:=by simpa using ha) (by rw [sQ]),rfl,h2⟩
  ·exact⟨ls[a],List.mem_of_getElem (i:=a) (h:=by simpa using ha) (by rw [List.getElem_set_ne e]),h1,h2⟩
 ·rcases ZU hl with hl|rfl
  ·exact h.lok l hl
  ·exact h.lok ls[ix] (lV hix)
 ·rcases ZU hl with hl|rfl
  ·exact h.of l hl
  ·exact h.of ls[ix] (lV hix)
 ·obtain⟨ha',a1,a2,a3,a4,a5,a6⟩:=key a ha;obtain⟨hb',b1,b2,b3,b4,b5,b6⟩:=key b hb;rw [a5,a6,b5,b6];exact h.apart a b ha' hb' hab ⟨by rw [<-a1,<-b1];exact hcl.1,by rw [<-a2,<-b2];exact hcl.2.1,by rw [<-a3,<-b3];exact hcl.2.2.1,by rw [<-a4,<-b4];exact hcl.2.2.2⟩
theorem InvS.make {S:List Stk}{ls:List LsV}(h:InvS S ls){kd m k n cnt:Nat}{us:List (List Int)}(hcls:yb kd m k n=true)(hus:us.length=cnt)(h1:1<=cnt)(hul:∀u∈us,u.length=(zB kd m k n).x+(zB kd m k n).y+((zB kd m k n).x+(zB kd m k n).y+(zB kd m k n).z)/\inU64 u)(hcd:zY S kd m k n cnt=0):InvS (Ye S kd m k n (Zc us)) ls:=by
 unfold Ye;unfold zY at hcd;cases hfx:S.findIdx? (fun x=>x.is kd m k n) with
 | none=>
  rw [z9 hfx] at hcd;simp only at hcd ⊢;split at hcd
  ·simp at hcd
  ·rename_i hno
   refine⟨by simp;omega,fun x hx=>?_,fun x hx=>?_,fun x hx=>?_,fun x hx j hj hk=>?_,fun i j hi hj hh=>?_,h.lok,h.leases,fun l hl=>?_,h.apart⟩
   ·rcases sE.1 hx with hx|hx
    ·exact h.cls x hx
    ·rw [sJ.1 hx];exact hcls
   ·rcases sE.1 hx with hx|hx
    ·exact h.made x hx
    ·rw [sJ.1 hx];simp only [Zc,rU,hus];omega
   ·rcases sE.1 hx with hx|hx
    ·exact h.ts x hx
    ·rw [sJ.1 hx];intro t ht;obtain⟨u,hu,rfl⟩:=sC.1 ht;exact hul u hu
   ·rcases sE.1 hx with hx|hx
    ·exact h.kept x hx j hj hk
    ·have e:=sJ.1 hx;subst e;simp [Zc] at hk
   ·have hno2:∀y∈S,y.is kd m k n=false:=fun y hy=>by
     have:=List.findIdx?_eq_none_iff.1 hfx y hy;simpa using this
    by_cases hi':i<S.length
    ·by_cases hj':j<S.length
     ·rw [sM hi',sM hj'] at hh;exact h.uniq i j hi' hj' hh
     ·have ej:j=S.length:=by simp at hj;omega
      subst ej;rw [sM hi',List.getElem_concat_length rfl] at hh;rw [hno2 _ (lV hi')] at hh;cases hh
    ·have ei:i=S.length:=by simp at hi;omega
     subst ei;by_cases hj':j<S.length
     ·rw [sM hj',List.getElem_concat_length rfl] at hh;have h3:S[j].is kd m k n=true:=by
       simp [Stk.is] at hh ⊢;omega
      rw [hno2 _ (lV hj')] at h3;cases h3
     ·simp at hj;omega
   ·obtain⟨k1,k2,k3,x,k4,k5⟩:=h.of l hl;exact⟨k1,k2,k3,x,by rw [List.find?_append,k4];rfl,k5⟩
 | some ix=>
  obtain⟨hix,hfi⟩:=zU hfx;rw [hfi] at hcd;simp only at hcd ⊢;have hno:¬200<S[ix].ts.length+cnt:=by intro hb;rw [if_pos hb] at hcd;simp at hcd
  have hmem:S[ix]∈S:=lV hix;have hisx:S[ix].is kd m k n=true:=(List.findIdx?_eq_some_iff_getElem.1 hfx).2.1;have e4:S[ix].kd=kd/\S[ix].m=m/\S[ix].k=k/\S[ix].n=n:=by simp [Stk.is] at hisx;omega
  have hmod:S.modify ix (fun x=>x.more (Zc us))=S.set ix (S[ix].more (Zc us)):=by
   apply List.ext_getElem (by simp);intro j a b;rw [List.getElem_modify,List.getElem_set];split
   ·rename_i e;subst e;rfl
   ·rfl
  rw [hmod];refine⟨by simpa using h.stocks,fun x hx=>?_,fun x hx=>?_,fun x hx=>?_,fun x hx j hj hk=>?_,ut h.uniq hix (fun _ _ _ _=>rfl) ⟨rfl,rfl,rfl,rfl⟩,h.lok,h.leases,fun l hl=>?_,h.apart⟩
  ·rcases ZU hx with hx|rfl
   ·exact h.cls x hx
   ·exact h.cls S[ix] hmem
  ·rcases ZU hx with hx|rfl
   ·exact h.made x hx
   ·have:=h.made _ hmem;show 1<=(S[ix].ts++Zc us).length/\(S[ix].ts++Zc us).length<=200/\S[ix].leased<=(S[ix].ts++Zc us).length
    simp only [Zc,lW,rU,hus];omega
  ·rcases ZU hx with hx|rfl
   ·exact h.ts x hx
   ·intro t ht;rcases sE.1 (show t∈S[ix].ts++Zc us from ht) with ht|ht
    ·exact h.ts _ hmem t ht
    ·obtain⟨u,hu,rfl⟩:=sC.1 ht;refine⟨?_,(hul u hu).2⟩;have:=(hul u hu).1;show u.length=(zB S[ix].kd S[ix].m S[ix].k S[ix].n).x+(zB S[ix].kd S[ix].m S[ix].k S[ix].n).y+((zB S[ix].kd S[ix].m S[ix].k S[ix].n).x+(zB S[ix].kd S[ix].m S[ix].k S[ix].n).y+(zB S[ix].kd S[ix].m S[ix].k S[ix].n).z)
     rw [e4.1,e4.2.1,e4.2.2.1,e4.2.2.2];exact this
  ·rcases ZU hx with hx|rfl
   ·exact h.kept x hx j hj hk
   ·have hj2:j<(S[ix].ts++Zc us).length:=hj;have hk2:(S[ix].ts++Zc us)[j].2=false:=hk;by_cases hj':j<S[ix].ts.length
    ·rw [sM hj'] at hk2;exact h.kept S[ix] hmem j hj' hk2
    ·rw [List.getElem_append_right (by omega)] at hk2;simp [Zc] at hk2
  ·obtain⟨k1,k2,k3,x,k4,k5⟩:=h.of l hl;refine⟨k1,k2,k3,?_⟩;rcases Xs hix (y:=S[ix].more (Zc us)) (show Stk.is _ _ _ _ _=Stk.is _ _ _ _ _ from rfl) k4 with k6|⟨k6,k7⟩
   ·exact⟨x,k6,k5⟩
   ·refine⟨_,k7,?_⟩;rw [<-k6] at k5;exact k5
theorem jN {S:List Stk}{ls:List LsV}(h:InvS S ls)(ss kd m k n num:Int):yu ls ss kd m k n num=ls.any (Zx ss kd m k n num):=by
 have hc:∀l:LsV,Zx ss kd m k n num l=(yg kd m k n num l && (l.s == ss && !l.r)):=fun l=>by unfold Zx yg;cases l.s == ss<;>cases l.r<;>simp
 unfold yu;cases hf:ls.find? (yg kd m k n num) with
 | none=>
  symm
  rw [List.any_eq_false];intro l hl;have:=List.find?_eq_none.1 hf l hl;rw [hc];simp at this;simp [this]
 | some l=>
  have hl:=List.mem_of_find?_eq_some hf;have hcl:=List.find?_some hf;simp only;cases hb:(l.s == ss && !l.r) with
  | true=>
   symm
   rw [List.any_eq_true];exact⟨l,hl,by rw [hc,hcl,hb];rfl⟩
  | false=>
   symm
   rw [List.any_eq_false];intro l' hl' hh;rw [hc] at hh;have hcl':yg kd m k n num l'=true:=by
    cases hq:yg kd m k n num l'
    ·rw [hq] at hh;simp at hh
    ·rfl
   obtain⟨a,ha,rfl⟩:=sK hl;obtain⟨b,hb',rfl⟩:=sK hl';have hne:a≠b:=fun e=>by subst e;rw [hcl,hb] at hh;simp at hh
   simp [yg] at hcl hcl';rcases Nat.lt_or_gt_of_ne hne with hlt|hlt
   ·have:=h.apart a b ha hb' hlt ⟨by rw [hcl.1.1,hcl'.1.1],by rw [hcl.1.2.1,hcl'.1.2.1],by rw [hcl.1.2.2.1,hcl'.1.2.2.1],by rw [hcl.1.2.2.2,hcl'.1.2.2.2]⟩;omega
   ·have:=h.apart b a hb' ha hlt ⟨by rw [hcl.1.1,hcl'.1.1],by rw [hcl.1.2.1,hcl'.1.2.1],by rw [hcl.1.2.2.1,hcl'.1.2.2.1],by rw [hcl.1.2.2.2,hcl'.1.2.2.2]⟩;omega
theorem Ko {S:List Stk}{ls:List LsV}(h:InvS S ls){ss kd m k n num:Int}{x:Stk}(hx:S.find? (fun x=>x.is kd m k n)=some x)(hh:ls.any (Zx ss kd m k n num)=true):0<=num/\num<x.ts.length:=by
 obtain⟨l,hl,hp⟩:=List.any_eq_true.1 hh;simp [Zx] at hp;obtain⟨h1,h2,h3,y,h4,h5⟩:=h.of l hl;rw [hp.2.1.1,hp.2.1.2.1,hp.2.1.2.2.1,hp.2.1.2.2.2,hx] at h4;injection h4 with h4
 subst h4;have:=h.made x (List.mem_of_find?_eq_some hx);omega
theorem vR {S:List Stk}{ls:List LsV}(h:InvS S ls){ss kd m k n:Int}{j:Nat}{x:Stk}(hx:S.find? (fun x=>x.is kd m k n)=some x)(hj:j<x.ts.length)(hh:ls.any (Zx ss kd m k n j)=true):x.ts[j].2=true:=by
 cases hk:x.ts[j].2 with
 | true=>rfl
 | false=>
  exfalso
  obtain⟨l',hl',h1,h2,h3,h4⟩:=h.kept x (List.mem_of_find?_eq_some hx) j hj hk;obtain⟨l,hl,hp⟩:=List.any_eq_true.1 hh;have hxi:x.is kd m k n=true:=by simpa using List.find?_some hx
  simp [Zx] at hp;simp [Stk.is] at hxi h2;obtain⟨a,ha,rfl⟩:=sK hl;obtain⟨b,hb,rfl⟩:=sK hl';have hne:a≠b:=fun e=>by subst e;rw [h1] at hp;simp at hp
  rcases Nat.lt_or_gt_of_ne hne with hlt|hlt
  ·have:=h.apart a b ha hb hlt (by omega);omega
  ·have:=h.apart b a hb ha hlt (by omega);omega
theorem InvS.stkOk {S:List Stk}{ls:List LsV}(h:InvS S ls){x:Stk}(hx:x∈S):StkOk x:=by obtain⟨hofc,hok⟩:=Yc (h.cls x hx);have hle:=Sh.le hok;have hm:=h.made x hx;have e:x.sh=zB x.kd x.m x.k x.n:=rfl;refine⟨by rw [e];omega,⟨hm.1,hm.2.1⟩,fun u hu=>?_⟩;obtain⟨h1,h2⟩:=h.ts x hx u hu;obtain⟨D,b⟩:=u;exact Vn h1 (by rw [e];exact hle.2.2.2.2.1) (uS _ h2) (uM _ _) b
theorem InvS.small {R:List StkR}{ls:List LsV}(h:InvS (R.map lL) ls):Small R ls where
 stocks:=by have:=h.stocks;simp at this;omega
 leases:=by have:=h.leases;omega
 made:=fun x hx=>by have:=h.made x.abs (sC.2 ⟨x,hx,rfl⟩);have e1:x.abs.ts.length=x.ts.length:=rfl;have e2:x.abs.leased=x.leased:=rfl;omega
 fc:=fun l hl=>by obtain⟨h1,h2,h3,x,h4,h5⟩:=h.of l hl;have:=h.made x (List.mem_of_find?_eq_some h4);omega
 ok:=fun x hx=>h.stkOk (sC.2 ⟨x,hx,rfl⟩)
 lok:=h.lok
end
end Go.Proofs.YtmnjhhachdlmkaaGreat
