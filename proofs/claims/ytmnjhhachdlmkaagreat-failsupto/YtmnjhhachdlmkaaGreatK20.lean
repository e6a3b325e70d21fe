import Derived.Test.YtmnjhhachdlmkaaGreatK19
namespace Go.Proofs.YtmnjhhachdlmkaaGreat
set_option linter.all false
set_option maxRecDepth 100000
set_option maxHeartbeats 6400000
open Tryz
open Ext renaming refl -> lI, drew -> lJ, grown -> rG, alloc -> lK
open World renaming alloc -> lP, setCell -> rC, ownsRow_nil -> rB, news_of_block -> rI, ownsRow -> lR
open AllReadyH renaming cons -> sD
open Nat renaming le_trans -> rH, lt_of_lt_of_le -> rA
open Turn renaming of_ext -> lM
open StkR renaming abs -> lL
open List renaming length_append -> lW
open Go.RowKit Go.Maps
open List renaming getElem_toArray -> lA, getElem_cons_succ -> lB, getElem_cons_zero -> lC, setIfInBounds_toArray -> lD, set_cons_zero -> lE, set_cons_succ -> lF
open World renaming block_lt_of_cell? -> lG
open Value renaming ownBlock -> lH
section
section
variable {w:World}{P B q c:Nat}{G F:Nat->Prop}{v:GV}{S:List Stk}{ls:List LsV}{ops0:List OpV}{fl:Bool}{ah:Int}
theorem vC (c f n d g m:Int)(hcd:c≠d)(zs:List Int)(hn:zs.length<=1000000000)(a1 a2:Option Addr)(c1 c2:Nat)(w:World)(h1:RdRow w a1 zs.length (zs.map (Value.int .u64)))(h2:RdRow w a2 zs.length (zs.map (Value.int .u64))) :
  Calls Tryz.prog 109 #[zr c f n (.slice a1 zs.length c1),zr d g m (.slice a2 zs.length c2)] w fun e w'=>e=.returned (.bool false)/\Ext w w':=by
 have HS:Hd (∀w',Ext w w'->_):=fun w' hx=>xz zs zs.length rfl hn a1 a2 c1 c2 w' (h1.ext hx) (h2.ext hx)
 have hcd':(c == d)=false:=by simpa using hcd
 clear h1 h2;generalize zs.length=len at *;unfold zr;go_enter func109,ntmps109;go_wp2_with fail
 have ha:((w.alloc (.cells #[.int .i64 c,.int .i64 f,.int .i64 n,.slice a1 len c1] 33)).alloc (.cells #[.int .i64 d,.int .i64 g,.int .i64 m,.slice a2 len c2] 33)).heap[w.heap.size]?=some (.cells #[.int .i64 c,.int .i64 f,.int .i64 n,.slice a1 len c1] 33 (0,0)):=zC (heap_alloc_new _ _);have hb:((w.alloc (.cells #[.int .i64 c,.int .i64 f,.int .i64 n,.slice a1 len c1] 33)).alloc (.cells #[.int .i64 d,.int .i64 g,.int .i64 m,.slice a2 len c2] 33)).heap[w.heap.size+1]?=some (.cells #[.int .i64 d,.int .i64 g,.int .i64 m,.slice a2 len c2] 33 (0,0)):=zm (by simp);have hXW:Ext w ((w.alloc (.cells #[.int .i64 c,.int .i64 f,.int .i64 n,.slice a1 len c1] 33)).alloc (.cells #[.int .i64 d,.int .i64 g,.int .i64 m,.slice a2 len c2] 33)):=((lI w).alloc _).alloc _;generalize lP (lP w _) _=W at ha hb hXW ⊢;refine(HS.o _ hXW).mono ?_;rintro e w1 ⟨rfl,hx1⟩;have ha:=hx1.block ha;have hb:=hx1.block hb;have e0:=zc ha (i:=0) rfl;have e1:=zc ha (i:=1) rfl;have e2:=zc ha (i:=2) rfl;have d0:=zc hb (i:=0) rfl;have d1:=zc hb (i:=1) rfl;have d2:=zc hb (i:=2) rfl;have HX1:Hd (Ext w w1):=hXW.trans hx1;have hl1:=lG w1 _ e0;have hl2:=lG w1 _ d0;clear ha hb hx1 hXW;go_wp2
 all_goals go_ret
 all_goals exact⟨zH (by simp [*]),HX1.o⟩
theorem VW {R:List StkR}{ls':List LsV}{ops new:List OpV}(A:Ans)(h:GameOf w P B G v q S ls ops0 c)(hc:c<=900000)(hst:StoreOk w B F R ls' ops fl ah)(hF:Far F G P v)(hn:ops.length<=1000000)(hnew:ops=ops0++new)(hyes:A.next≠none)(har:v.ar=true)(hfi:v.fi=(new.length:Int))(hbr:A.c≠10)(kk s i kd m k n f cc pp:Int)(hR:∀w',Ext w w'->Calls Tryz.prog 149 #[.pointer (some ⟨q,0,none⟩),zN kk s i kd m k n f cc pp] w' fun e w''=>∃pv v,e=.returned (.tuple #[pv,zr A.c A.f A.n v])/\RefSo G A w' w'' pv v)(ra:Option Addr)(rc:Nat)(hzs:A.zs=[]) :
  Calls Tryz.prog 105 #[.pointer (some ⟨P,0,none⟩),zN kk s i kd m k n f cc pp,zr 10 0 0 (.slice ra 0 rc)] w fun e w'=>e=.returned (.bool true)/\∃v' G',GameOf w' P B G' v' q S ls ops (c+2)/\GStep (fun b=>w.heap.size<=b) w w' P v v' G G'/\v'.ar=false:=by
 obtain⟨zl,hzl⟩:∃z,A.zs.length=z:=⟨_,rfl⟩
 obtain⟨i0,hi,hz0,hz1,hz2⟩:=info_parts jT;obtain⟨j0,hj0,hy0,hy1,hy2⟩:=info_parts Q7;have H:=hid h;have HST:Hd (StoreOk w B F R ls' ops fl ah/\Far F G P v/\ops.length<=1000000/\ops=ops0++new/\A.next≠none):=⟨hst,hF,hn,hnew,hyes⟩
 have HFI:Hd (v.ar=true/\v.fi=(new.length:Int)):=⟨har,hfi⟩
 obtain⟨gl,lcap,hwv,hgl,hlc⟩:=h.wrow;have hblk:=h.blk;unfold Zp at hblk;rw [hwv] at hblk;have c1:w.cell? ⟨P,1,none⟩=some (.slice (some ⟨gl,0,none⟩) 1 lcap):=zc hblk rfl;have hPl:=lG w _ c1;have hgll:=lG w _ hlc;have HR:=hid hR;have HNu:Hd (∀w',_):=fun w'=>xD 10 w'
 have HSR:Hd (∀w' ra2 rc2,Ext w w'->RdRow w' ra2 zl (A.zs.map (Value.int .u64))->Calls Tryz.prog 109 #[.agg #[.int .i64 10,.int .i64 0,.int .i64 0,.slice ra 0 rc],.agg #[.int .i64 A.c,.int .i64 A.f,.int .i64 A.n,.slice ra2 zl rc2]] w' fun e w''=>e=.returned (.bool false)/\Ext w' w''):=fun w' ra2 rc2 hx h2=>by have h3:=vC 10 0 0 A.c A.f A.n (fun e=>hbr e.symm) [] (by simp) ra ra2 rc rc2 w' (.inl rfl) (.inl rfl);rw [hzs] at hzl;rw [<-hzl];exact h3
 have HSY:Hd (∀w',Ext w w'->Calls Tryz.prog 109 #[.agg #[.int .i64 10,.int .i64 0,.int .i64 0,.slice ra 0 rc],.agg #[.int .i64 10,.int .i64 0,.int .i64 0,.slice none 0 0]] w' fun e w''=>e=.returned (.bool true)/\Ext w' w''):=fun w' hx=>qK 10 0 0 [] (by simp) ra none rc 0 w' (.inl rfl) (.inl rfl)
 have HZL:=hid hzl;clear h hst hF hn hnew hyes hfi har hR hwv hgl hblk hbr hzl hzs;unfold zr zN at *;go_enter func105,ntmps105;go_wp2_with fail
 have hreq:((w.alloc (.cells #[.int .i64 kk,.int .i64 s,.int .i64 i,.int .i64 kd,.int .i64 m,.int .i64 k,.int .i64 n,.int .i64 f,.int .i64 cc,.int .i64 pp] 51)).alloc (.cells #[.int .i64 10,.int .i64 0,.int .i64 0,.slice ra 0 rc] 33)).heap[w.heap.size]?=some (.cells #[.int .i64 kk,.int .i64 s,.int .i64 i,.int .i64 kd,.int .i64 m,.int .i64 k,.int .i64 n,.int .i64 f,.int .i64 cc,.int .i64 pp] 51 (0,0)):=zC (heap_alloc_new _ _);have hrep:((w.alloc (.cells #[.int .i64 kk,.int .i64 s,.int .i64 i,.int .i64 kd,.int .i64 m,.int .i64 k,.int .i64 n,.int .i64 f,.int .i64 cc,.int .i64 pp] 51)).alloc (.cells #[.int .i64 10,.int .i64 0,.int .i64 0,.slice ra 0 rc] 33)).heap[w.heap.size+1]?=some (.cells #[.int .i64 10,.int .i64 0,.int .i64 0,.slice ra 0 rc] 33 (0,0)):=zm (by simp);have hXW:Ext w ((w.alloc (.cells #[.int .i64 kk,.int .i64 s,.int .i64 i,.int .i64 kd,.int .i64 m,.int .i64 k,.int .i64 n,.int .i64 f,.int .i64 cc,.int .i64 pp] 51)).alloc (.cells #[.int .i64 10,.int .i64 0,.int .i64 0,.slice ra 0 rc] 33)):=((lI w).alloc _).alloc _;generalize lP (lP w _) _=W at hreq hrep hXW ⊢;have p0:W.cell? ⟨w.heap.size+1,0,none⟩=some (.int .i64 10):=zc hrep rfl;have HRQ:=hid hreq;have HRP:=hid hrep;have HXW:=hid hXW;have hpl0:=lG W _ p0;have c1W:=hXW.cell c1;have hlcW:=hXW.cell hlc;clear hreq hrep hXW;go_wp2_with fail
 refine(HNu.o _).mono ?_;rintro e w0 ⟨rfl,rfl⟩;go_wp2_with fail
 refine wp_loop_rounds 2 ?_;rw [rounds_succ];have r0:W.cell? ⟨w.heap.size,0,none⟩=some (.int .i64 kk):=zc HRQ.o rfl;have r1:W.cell? ⟨w.heap.size,1,none⟩=some (.int .i64 s):=zc HRQ.o rfl;have r2:W.cell? ⟨w.heap.size,2,none⟩=some (.int .i64 i):=zc HRQ.o rfl;have r3:W.cell? ⟨w.heap.size,3,none⟩=some (.int .i64 kd):=zc HRQ.o rfl;have r4:W.cell? ⟨w.heap.size,4,none⟩=some (.int .i64 m):=zc HRQ.o rfl;have r5:W.cell? ⟨w.heap.size,5,none⟩=some (.int .i64 k):=zc HRQ.o rfl;have r6:W.cell? ⟨w.heap.size,6,none⟩=some (.int .i64 n):=zc HRQ.o rfl;have r7:W.cell? ⟨w.heap.size,7,none⟩=some (.int .i64 f):=zc HRQ.o rfl;have r8:W.cell? ⟨w.heap.size,8,none⟩=some (.int .i64 cc):=zc HRQ.o rfl;have r9:W.cell? ⟨w.heap.size,9,none⟩=some (.int .i64 pp):=zc HRQ.o rfl;have SF:Hd (∀w',Ext W w'->(fun w'=>w'.cell? ⟨P,1,none⟩=some (.slice (some ⟨gl,0,none⟩) 1 lcap)/\w'.cell? ⟨gl,0,none⟩=some (.pointer (some ⟨q,0,none⟩))/\w'.cell? ⟨w.heap.size,0,none⟩=some (.int .i64 kk)/\w'.cell? ⟨w.heap.size,1,none⟩=some (.int .i64 s)/\w'.cell? ⟨w.heap.size,2,none⟩=some (.int .i64 i)/\w'.cell? ⟨w.heap.size,3,none⟩=some (.int .i64 kd)/\w'.cell? ⟨w.heap.size,4,none⟩=some (.int .i64 m)/\w'.cell? ⟨w.heap.size,5,none⟩=some (.int .i64 k)/\w'.cell? ⟨w.heap.size,6,none⟩=some (.int .i64 n)/\w'.cell? ⟨w.heap.size,7,none⟩=some (.int .i64 f)/\w'.cell? ⟨w.heap.size,8,none⟩=some (.int .i64 cc)/\w'.cell? ⟨w.heap.size,9,none⟩=some (.int .i64 pp)) w'):=fun w' hx=>⟨hx.cell c1W,hx.cell hlcW,zc (hx.block HRQ.o) rfl,zc (hx.block HRQ.o) rfl,zc (hx.block HRQ.o) rfl,zc (hx.block HRQ.o) rfl,zc (hx.block HRQ.o) rfl,zc (hx.block HRQ.o) rfl,zc (hx.block HRQ.o) rfl,zc (hx.block HRQ.o) rfl,zc (hx.block HRQ.o) rfl,zc (hx.block HRQ.o) rfl⟩
 have hS0:=SF.o W (lI _);go_wp2_with fail
 refine wp_region_held_drew (S:=(fun w'=>w'.cell? ⟨P,1,none⟩=some (.slice (some ⟨gl,0,none⟩) 1 lcap)/\w'.cell? ⟨gl,0,none⟩=some (.pointer (some ⟨q,0,none⟩))/\w'.cell? ⟨w.heap.size,0,none⟩=some (.int .i64 kk)/\w'.cell? ⟨w.heap.size,1,none⟩=some (.int .i64 s)/\w'.cell? ⟨w.heap.size,2,none⟩=some (.int .i64 i)/\w'.cell? ⟨w.heap.size,3,none⟩=some (.int .i64 kd)/\w'.cell? ⟨w.heap.size,4,none⟩=some (.int .i64 m)/\w'.cell? ⟨w.heap.size,5,none⟩=some (.int .i64 k)/\w'.cell? ⟨w.heap.size,6,none⟩=some (.int .i64 n)/\w'.cell? ⟨w.heap.size,7,none⟩=some (.int .i64 f)/\w'.cell? ⟨w.heap.size,8,none⟩=some (.int .i64 cc)/\w'.cell? ⟨w.heap.size,9,none⟩=some (.int .i64 pp))) (by kernel_rfl) hS0 (fun hHeld=>?_);refine zT 0 hHeld ?_;refine zT 1 hHeld ?_;refine zT 2 hHeld ?_;refine zT 3 hHeld ?_;refine zT 4 hHeld ?_;refine zT 5 hHeld ?_;refine zT 6 hHeld ?_;refine zT 7 hHeld ?_;refine wpAnyH_ready (rs:=[8,12]) (by kernel_rfl) (by simp) ?_;refine sD (o:=_) rfl (fun K hK=>?_) (sD (o:=_) rfl (fun K hK=>?_) AllReadyH.nil)
 ·skip
  (try simp only [lA,lB,lC])
  go_simp;refine(HR.o _ (HXW.o.trans (lJ (lI W)))).mono ?_;rintro e w2 ⟨pv,rv,rfl,hso⟩;have hrow:=hso.row;rw [HZL.o] at hrow;obtain⟨ra2,rc2,rfl⟩:=zo hrow;obtain⟨pa,rfl⟩:∃pa,pv=.pointer pa:=by rcases hso.next with⟨_,e⟩|⟨_,_,_,_,e,_⟩<;>exact⟨_,e⟩
  have HSO:=hid hso;have HX2:Hd (Ext W w2):=(lJ (lI W)).trans hso.ext;have HRW:Hd (RdRow w2 ra2 zl (A.zs.map (Value.int .u64))):=yz hrow;clear hso hrow;refine hK.out _ _ ?hc2 (fun hHeld=>?_)
  case hc2=>exact SF.o _ HX2.o
  clear hK K
  try simp only [Act.put,lA,lB,lC,lD,lE,lF]
  refine zT 9 hHeld ?_;refine zT 10 hHeld ?_;refine zT 11 hHeld ?_;refine zR 12 fun K hK=>?_
  (try simp only [lA,lB,lC])
  go_simp;have HZB:Hd ((w2.alloc (.cells #[.int .i64 0,.int .i64 0,.int .i64 0,.slice none 0 0] 33)).heap[w2.heap.size]?=some (.cells #[.int .i64 0,.int .i64 0,.int .i64 0,.slice none 0 0] 33 (0,0))):=heap_alloc_new _ _;have HX2a:Hd (Ext w2 (w2.alloc (.cells #[.int .i64 0,.int .i64 0,.int .i64 0,.slice none 0 0] 33))):=(lI _).alloc _;refine hK.out _ _ ?hc3 (fun hHeld=>?_)
  case hc3=>exact SF.o _ (HX2.o.trans HX2a.o)
  clear hK K
  try simp only [Act.put,lA,lB,lC,lD,lE,lF]
  refine zT 13 hHeld ?_
  try simp only [Act.put,lA,lB,lC,lD,lE,lF]
  obtain⟨gb,hgb⟩:∃gb,w2.heap.size=gb:=⟨_,rfl⟩
  simp only [hgb] at HZB ⊢;generalize lP w2 _=w2a at HZB HX2a hHeld ⊢;have z0:w2a.cell? ⟨gb,0,none⟩=some (.int .i64 0):=zc HZB.o rfl;have z1:w2a.cell? ⟨gb,1,none⟩=some (.int .i64 0):=zc HZB.o rfl;have z2:w2a.cell? ⟨gb,2,none⟩=some (.int .i64 0):=zc HZB.o rfl;have z3:w2a.cell? ⟨gb,3,none⟩=some (.slice none 0 0):=zc HZB.o rfl;have y0:=ze HZB.o 0;have y1:=ze HZB.o 1;have y2:=ze HZB.o 2;have y3:=ze HZB.o 3;have hzl':=lG w2a _ z0;refine zR 14 fun K hK=>?_
  (try simp only [lA,lB,lC])
  go_simp;have HGB:Hd (((((w2a.setCell ⟨gb,0,none⟩ (.int .i64 A.c)).setCell ⟨gb,1,none⟩ (.int .i64 A.f)).setCell ⟨gb,2,none⟩ (.int .i64 A.n)).setCell ⟨gb,3,none⟩ (.slice ra2 zl rc2)).heap[gb]?=some (.cells #[.int .i64 A.c,.int .i64 A.f,.int .i64 A.n,.slice ra2 zl rc2] 33 (0,0))):=zg (zg (zg (zg HZB.o _) _) _) _;have HT3:Hd (Turn (fun b=>b=gb) w2 ((((w2a.setCell ⟨gb,0,none⟩ (.int .i64 A.c)).setCell ⟨gb,1,none⟩ (.int .i64 A.f)).setCell ⟨gb,2,none⟩ (.int .i64 A.n)).setCell ⟨gb,3,none⟩ (.slice ra2 zl rc2))):=yr HX2a.o _ _ _ _;refine hK.out _ _ ?hc4 (fun hHeld=>?_)
  case hc4=>
   have hgW:W.heap.size<=gb:=by rw [<-hgb];exact HX2.o.le
   exact SF.o _ (Z9 (HX2.o.trans HX2a.o) hgW _ _ _ _)
  clear hK K
  try simp only [Act.put,lA,lB,lC,lD,lE,lF]
  refine wpAnyH_done (by kernel_rfl) ?_ _;have HW3:Hd (Ext W ((((w2a.setCell ⟨gb,0,none⟩ (.int .i64 A.c)).setCell ⟨gb,1,none⟩ (.int .i64 A.f)).setCell ⟨gb,2,none⟩ (.int .i64 A.n)).setCell ⟨gb,3,none⟩ (.slice ra2 zl rc2))):=Z9 (HX2.o.trans HX2a.o) (by rw [<-hgb];exact HX2.o.le) _ _ _ _;have HGBn:=hid hgb;generalize rC (rC (rC (rC w2a _ _) _ _) _ _) _ _=w3 at HGB HT3 HW3 hHeld ⊢;have HRD:Hd (RdRow w3 ra2 zl (A.zs.map (Value.int .u64))):=by
   have h1:=HRW.o;rcases h1 with h1|⟨g,e,h1⟩
   ·exact .inl h1
   ·refine .inr ⟨g,e,fun a u hu=>HT3.o.cell (h1 a u hu) (fun e2=>?_)⟩;have h3:g=gb:=e2;have h4:g<w2.heap.size:=lG w2 _ (h1 a u hu);have:=HGBn.o;omega
  clear z0 z1 z2 z3 y0 y1 y2 y3 hzl' hgb;have HNX:Hd ((A.next=none/\pa=none)\/∃S' ls' q',A.next=some (S',ls')/\pa=some ⟨q',0,none⟩/\RefAt w3 (fun b=>G b\/w.heap.size<=b/\b<w3.heap.size) q' S' ls'):=by
   have hWl:=HXW.o.le;have hW.drew:w.heap.size<=W.drew.heap.size:=rH hWl (lJ (lI W)).le;rcases HSO.o.next with⟨h1,h2⟩|⟨S',ls'',q',h1,h2,h3⟩
   ·exact .inl ⟨h1,by injection h2⟩
   ·refine .inr ⟨S',ls'',q',h1,by injection h2,(h3.turn HT3.o (fun b hb e=>?_)).mono (fun b hb=>?_)⟩
    ·have hgb':=HGBn.o;have hbl:b<w2.heap.size:=by
      rcases hb with hb|hb
      ·have h1:=H.o.ltG b hb;have h2:=(HXW.o.trans HX2.o).le;omega
      ·exact hb.2
     omega
    ·rcases hb with hb|hb
     ·exact .inl hb
     ·exact .inr ⟨by omega,rA hb.2 HT3.o.size⟩
  have HX3:Hd (Ext w w3):=HXW.o.trans HW3.o;have p0:w3.cell? ⟨w.heap.size+1,0,none⟩=some (.int .i64 10):=zc (HW3.o.block HRP.o) rfl;have p1:w3.cell? ⟨w.heap.size+1,1,none⟩=some (.int .i64 0):=zc (HW3.o.block HRP.o) rfl;have p2:w3.cell? ⟨w.heap.size+1,2,none⟩=some (.int .i64 0):=zc (HW3.o.block HRP.o) rfl;have p3:w3.cell? ⟨w.heap.size+1,3,none⟩=some (.slice ra 0 rc):=zc (HW3.o.block HRP.o) rfl;have b0:w3.cell? ⟨gb,0,none⟩=some (.int .i64 A.c):=zc HGB.o rfl;have b1:w3.cell? ⟨gb,1,none⟩=some (.int .i64 A.f):=zc HGB.o rfl;have b2:w3.cell? ⟨gb,2,none⟩=some (.int .i64 A.n):=zc HGB.o rfl;have b3:w3.cell? ⟨gb,3,none⟩=some (.slice ra2 zl rc2):=zc HGB.o rfl;have c13:=HW3.o.cell c1W;have hPl3:=lG w3 _ c13;have hpl3:=lG w3 _ p0;have hbl3:=lG w3 _ b0;clear hHeld;go_wp2_with fail
  refine(HSR.o _ ra2 rc2 HX3.o HRD.o).mono ?_;rintro e w4a ⟨rfl,hx4⟩;have HX4a:Hd (Ext w w4a):=HX3.o.trans hx4;have HX34a:=hid hx4;have c14a:=hx4.cell c13;have p0:=hx4.cell p0;have p1:=hx4.cell p1;have p2:=hx4.cell p2;have p3:=hx4.cell p3;have hple4:=lG w4a _ p0;have hle4a:=HX4a.o.le;clear hx4 b0 b1 b2 b3;obtain⟨q2,hpa⟩:∃q2,pa=some ⟨q2,0,none⟩:=by
   rcases HNX.o with⟨hnx,_⟩|⟨_,_,q2,_,h2,_⟩
   ·exact absurd hnx HST.o.2.2.2.2
   ·exact⟨q2,h2⟩
  subst hpa;go_wp2_with fail
  refine(HSY.o _ ?hxy).mono ?_
  case hxy=>exact HX4a.o
  rintro e w4 ⟨rfl,hx4⟩;have HX4:Hd (Ext w w4):=HX4a.o.trans hx4;have HX34:Hd (Ext w3 w4):=HX34a.o.trans hx4;have c14:=hx4.cell c14a;have hle4:=HX4.o.le;clear hx4 p0 p1 p2 p3 c14a;go_wp2_with (at_builtin;refine wpList_append_lies _ rfl _ _ 101 rfl w.heap.size 3 i0 _ 1 8 underlying101 hi hz0 hz1 hz2 rfl (by decide) _ 0 [] rfl (rB _ _ _ _) ⟨_,0,none⟩ 1 1 [.int .i64 0] rfl rfl (rI (zm (by simp))) (by simp [Value.oneCell']) (by decide) (by simp [maxLen]) (by omega) (by simp;omega) _ rfl ?_)
  intro ga capa w5 hown5 hgrow5 hat5 hlt5;have HO5:Hd (w5.ownsRow w.heap.size 3 1 (.slice (some ⟨ga,0,none⟩) 1 capa) 1 [.int .i64 0]/\Ext w4 w5):=⟨by simpa using hown5,rG (lK (lI _) _) hgrow5 (by simp [lH])⟩
  have c15:=HO5.o.2.cell c14;have hle5:=HO5.o.2.le;clear hown5 hgrow5 hat5 hlt5;go_wp2_with (at_builtin;refine wpList_append_lies _ rfl _ _ 85 rfl w.heap.size 95 j0 _ 1 8 underlying85 hj0 hy0 hy1 hy2 rfl (by decide) _ 0 [] rfl (rB _ _ _ _) ⟨_,0,none⟩ 1 1 [.pointer (some ⟨q2,0,none⟩)] rfl rfl (rI (zm (by simp))) (by simp [Value.oneCell']) (by decide) (by simp [maxLen]) (by omega) (by simp;omega) _ rfl ?_)
  intro gN capN w6 hown6 hgrow6 hat6 hlt6;have HO6:Hd (w6.ownsRow w.heap.size 95 1 (.slice (some ⟨gN,0,none⟩) 1 capN) 1 [.pointer (some ⟨q2,0,none⟩)]/\Ext w5 w6):=⟨by simpa using hown6,rG (lK (lI _) _) hgrow6 (by simp [lH])⟩
  have c16:=HO6.o.2.cell c15;have hPl6:=lG w6 _ c16;have HX6:Hd (Ext w w6):=HX4.o.trans (HO5.o.2.trans HO6.o.2);have HX36:Hd (Ext w3 w6):=HX34.o.trans (HO5.o.2.trans HO6.o.2);clear hown6 hgrow6 hat6 hlt6 c13 c14 c15;go_wp2_with fail
  rw [rounds_succ];go_wp2_with fail
  have hsz6:=HX6.o.le;have HG6:Hd (GameOf w6 P B (fun b=>G b\/w.heap.size<=b/\b<w6.heap.size) v q S ls ops0 c):=(H.o.ext HX6.o).more (fun b hb=>.inl hb) (fun b hb=>hb.elim (fun h=>rA (H.o.ltG b h) hsz6) (fun h=>h.2)) (fun b hb hor=>hor.elim (H.o.apart b hb) (fun h=>by have:=H.o.lt hb;omega));have hST6:GStep (fun b=>w.heap.size<=b) w w6 P v v G (fun b=>G b\/w.heap.size<=b/\b<w6.heap.size):=⟨lM HX6.o,fun b hb=>.inl hb,fun b hb=>hb.imp id (fun h=>h.1),fun b hb=>.inl hb⟩
  have HS6:=hid hST6;clear hST6;refine(QF HG6.o hc ga capa (HO6.o.2.cell (zk HO5.o.1 rfl)) ?hnt).mono ?_
  case hnt=>
   obtain⟨cur,hcu⟩:=zf HO5.o.1 (g:=ga) rfl;exact⟨cur,HO6.o.2.block hcu⟩
  rintro e w7 ⟨rfl,v7,G7,hg7,hs7,har7,hfi7⟩;have HG7:=hid hg7;have HS7:=hid hs7;have hKeep:∀b,(G b\/w.heap.size<=b/\b<w6.heap.size)->¬(yZ P v b\/w6.heap.size<=b):=fun b hb hor=>by
   rcases hor with ho|ho
   ·exact HG6.o.apart b ho hb
   ·rcases hb with hb|hb
    ·have:=H.o.ltG b hb;omega
    ·omega
  have HKeep:Hd _:=hKeep;have hgN:=lR.lt HO6.o.1 gN rfl;have x0:w7.cell? ⟨gN,0,none⟩=some (.pointer (some ⟨q2,0,none⟩)):=hs7.turn.cell (zk HO6.o.1 rfl) (hKeep gN (.inr ⟨hgN.1,hgN.2⟩));have hWl2:w.heap.size+1<W.heap.size:=by have:=HRP.o;exact(Array.getElem?_eq_some_iff.1 this).1
  have hW6:W.heap.size<=w6.heap.size:=(HW3.o.trans HX36.o).le;have x1:w7.cell? ⟨w.heap.size+1,0,none⟩=some (.int .i64 10):=hs7.turn.cell (zc ((HW3.o.trans HX36.o).block HRP.o) rfl) (hKeep _ (.inr ⟨by simp,by show w.heap.size+1<w6.heap.size;omega⟩));have hPl7:P<w7.heap.size:=(Array.getElem?_eq_some_iff.1 hg7.blk).1;have hgN7:=lG w7 _ x0;have hx17:=lG w7 _ x1;have hs67:=hs7.turn.size;have HA7:Hd (v7.ar=v.ar/\v7.fi=v.fi):=⟨har7,hfi7⟩
  have HST7:Hd (StoreOk w7 B F R ls' ops fl ah/\Far F G7 P v7):=by have h1:=HST.o.1.step HS6.o HST.o.2.1 (fun b hb hl=>by have:=HST.o.1.lt b hb;omega);exact h1.1.step HS7.o h1.2 (fun b hb hl=>by have:=HST.o.1.lt b hb;omega)
  clear hg7 hs7 har7 hfi7 hKeep c16 c1W hlcW;rcases HNX.o with⟨hnx,hpe⟩|⟨S',ls2,q',hnx,hpe,href⟩
  ·exact absurd hnx HST.o.2.2.2.2
  ·injection hpe with hpe
   injection hpe with hpe _ _
   subst hpe;have hone:OneIs w7 G7 (.slice (some ⟨gN,0,none⟩) 1 capN) q2:=⟨gN,capN,rfl,HS7.o.sub gN (.inr ⟨hgN.1,hgN.2⟩),x0⟩
   have href7:RefAt w7 G7 q2 S' ls2:=by have h1:RefAt w6 (fun b=>G b\/w.heap.size<=b/\b<w6.heap.size) q2 S' ls2:=(href.turn (Sp:=fun _=>False) (lM HX36.o) (fun _ _=>id)).mono (fun b hb=>hb.imp id (fun h=>⟨h.1,rA h.2 HX36.o.le⟩));exact(h1.turn HS7.o.turn HKeep.o).mono HS7.o.sub
   have HCh:Hd (∀w',w7=w'->_):=fun w' e=>by subst e;exact YL (R:=R) (F:=F) HG7.o hc HST7.o.1 HST.o.2.2.1 new HST.o.2.2.2.1 (HA7.o.1.trans HFI.o.1) (HA7.o.2.trans HFI.o.2) _ q2 S' hone href7 true
   have HNu0:Hd (∀w',_):=fun w'=>xD 10 w'
   clear hnx hone href7 href;go_wp2_with fail
   refine(HNu0.o _).mono ?_;rintro e w8 ⟨rfl,rfl⟩;go_wp2_with fail
   refine(HCh.o _ rfl).mono ?_;rintro e w8 ⟨rfl,v8,G8,hg8,hs8,ha8⟩;have HF:Hd _:=And.intro hg8 hs8;have HA8:=hid ha8;clear hg8 hs8 ha8;go_wp2;go_ret;exact⟨rfl,v8,G8,HF.o.1.count (by omega),(HS6.o.trans HS7.o (fun b hb=>by omega)).trans HF.o.2 (fun b hb=>by omega),HA8.o⟩
 ·skip
  (try simp only [lA,lB,lC])
  go_simp;have HZ0:Hd ((W.alloc (.cells #[.int .i64 0,.int .i64 0,.int .i64 0,.slice none 0 0] 33)).drew.heap[W.heap.size]?=some (.cells #[.int .i64 0,.int .i64 0,.int .i64 0,.slice none 0 0] 33 (0,0))):=zy (heap_alloc_new _ _);have HXa:Hd (Ext W (W.alloc (.cells #[.int .i64 0,.int .i64 0,.int .i64 0,.slice none 0 0] 33)).drew):=lJ ((lI _).alloc _);obtain⟨gb,hgb⟩:∃gb,W.heap.size=gb:=⟨_,rfl⟩
  have HGBn:=hid hgb;simp only [hgb] at HZ0 ⊢;refine hK.out _ _ ?hd1 (fun hHeld=>?_)
  case hd1=>exact SF.o _ HXa.o
  clear hK K
  try simp only [Act.put,lA,lB,lC,lD,lE,lF]
  generalize World.drew (lP W _)=Wa at HZ0 HXa hHeld ⊢;refine zR 8 fun K hK=>?_
  (try simp only [lA,lB,lC])
  go_simp;refine(HR.o _ (HXW.o.trans HXa.o)).mono ?_;rintro e w2 ⟨pv,rv,rfl,hso⟩;have hrow:=hso.row;rw [HZL.o] at hrow;obtain⟨ra2,rc2,rfl⟩:=zo hrow;obtain⟨pa,rfl⟩:∃pa,pv=.pointer pa:=by rcases hso.next with⟨_,e⟩|⟨_,_,_,_,e,_⟩<;>exact⟨_,e⟩
  have HSO:=hid hso;have HX2:Hd (Ext W w2):=HXa.o.trans hso.ext;have HRW:Hd (RdRow w2 ra2 zl (A.zs.map (Value.int .u64))):=yz hrow;clear hso hrow;refine hK.out _ _ ?hc2 (fun hHeld=>?_)
  case hc2=>exact SF.o _ HX2.o
  clear hK K
  try simp only [Act.put,lA,lB,lC,lD,lE,lF]
  refine zT 9 hHeld ?_;refine zT 10 hHeld ?_;refine zT 11 hHeld ?_;refine zT 13 hHeld ?_;have HZB:=hid (HSO.o.ext.block HZ0.o);have z0:w2.cell? ⟨gb,0,none⟩=some (.int .i64 0):=zc HZB.o rfl;have z1:w2.cell? ⟨gb,1,none⟩=some (.int .i64 0):=zc HZB.o rfl;have z2:w2.cell? ⟨gb,2,none⟩=some (.int .i64 0):=zc HZB.o rfl;have z3:w2.cell? ⟨gb,3,none⟩=some (.slice none 0 0):=zc HZB.o rfl;have y0:=ze HZB.o 0;have y1:=ze HZB.o 1;have y2:=ze HZB.o 2;have y3:=ze HZB.o 3;have hzl':=lG w2 _ z0;refine zR 14 fun K hK=>?_
  (try simp only [lA,lB,lC])
  go_simp;have HGB:Hd (((((w2.setCell ⟨gb,0,none⟩ (.int .i64 A.c)).setCell ⟨gb,1,none⟩ (.int .i64 A.f)).setCell ⟨gb,2,none⟩ (.int .i64 A.n)).setCell ⟨gb,3,none⟩ (.slice ra2 zl rc2)).heap[gb]?=some (.cells #[.int .i64 A.c,.int .i64 A.f,.int .i64 A.n,.slice ra2 zl rc2] 33 (0,0))):=zg (zg (zg (zg HZB.o _) _) _) _;have HT3:Hd (Turn (fun b=>b=gb) w2 ((((w2.setCell ⟨gb,0,none⟩ (.int .i64 A.c)).setCell ⟨gb,1,none⟩ (.int .i64 A.f)).setCell ⟨gb,2,none⟩ (.int .i64 A.n)).setCell ⟨gb,3,none⟩ (.slice ra2 zl rc2))):=yr (lI _) _ _ _ _;have HW3:Hd (Ext W ((((w2.setCell ⟨gb,0,none⟩ (.int .i64 A.c)).setCell ⟨gb,1,none⟩ (.int .i64 A.f)).setCell ⟨gb,2,none⟩ (.int .i64 A.n)).setCell ⟨gb,3,none⟩ (.slice ra2 zl rc2))):=Z9 HX2.o (by rw [hgb];exact Nat.le_refl _) _ _ _ _;refine hK.out _ _ ?hd4 (fun hHeld=>?_)
  case hd4=>exact SF.o _ HW3.o
  clear hK K
  try simp only [Act.put,lA,lB,lC,lD,lE,lF]
  refine wpAnyH_done (by kernel_rfl) ?_ _;generalize rC (rC (rC (rC w2 _ _) _ _) _ _) _ _=w3 at HGB HT3 HW3 hHeld ⊢;have hgbW:gb<Wa.heap.size:=(Array.getElem?_eq_some_iff.1 HZ0.o).1;have HRD:Hd (RdRow w3 ra2 zl (A.zs.map (Value.int .u64))):=by
   have hrow:=HSO.o.row;rw [HZL.o] at hrow;exact yz (HT3.o.owns hrow (fun b hb e=>by have:=(lR.lt hrow b hb).1;omega))
  clear z0 z1 z2 z3 y0 y1 y2 y3 hzl' hgb;have HGBW:=hid hgbW;clear hgbW;have HNX:Hd ((A.next=none/\pa=none)\/∃S' ls' q',A.next=some (S',ls')/\pa=some ⟨q',0,none⟩/\RefAt w3 (fun b=>G b\/w.heap.size<=b/\b<w3.heap.size) q' S' ls'):=by
   have hWl:=HXW.o.le;have hWa:w.heap.size<=Wa.heap.size:=rH hWl HXa.o.le;rcases HSO.o.next with⟨h1,h2⟩|⟨S',ls'',q',h1,h2,h3⟩
   ·exact .inl ⟨h1,by injection h2⟩
   ·refine .inr ⟨S',ls'',q',h1,by injection h2,(h3.turn HT3.o (fun b hb e=>?_)).mono (fun b hb=>?_)⟩
    ·have hgb':=HGBn.o;have hgbl:=HGBW.o;rcases hb with hb|hb
     ·have h1:=H.o.ltG b hb;have h2:=HXW.o.le;omega
     ·have:=hb.1;omega
    ·rcases hb with hb|hb
     ·exact .inl hb
     ·exact .inr ⟨by omega,rA hb.2 HT3.o.size⟩
  have HX3:Hd (Ext w w3):=HXW.o.trans HW3.o;have p0:w3.cell? ⟨w.heap.size+1,0,none⟩=some (.int .i64 10):=zc (HW3.o.block HRP.o) rfl;have p1:w3.cell? ⟨w.heap.size+1,1,none⟩=some (.int .i64 0):=zc (HW3.o.block HRP.o) rfl;have p2:w3.cell? ⟨w.heap.size+1,2,none⟩=some (.int .i64 0):=zc (HW3.o.block HRP.o) rfl;have p3:w3.cell? ⟨w.heap.size+1,3,none⟩=some (.slice ra 0 rc):=zc (HW3.o.block HRP.o) rfl;have b0:w3.cell? ⟨gb,0,none⟩=some (.int .i64 A.c):=zc HGB.o rfl;have b1:w3.cell? ⟨gb,1,none⟩=some (.int .i64 A.f):=zc HGB.o rfl;have b2:w3.cell? ⟨gb,2,none⟩=some (.int .i64 A.n):=zc HGB.o rfl;have b3:w3.cell? ⟨gb,3,none⟩=some (.slice ra2 zl rc2):=zc HGB.o rfl;have c13:=HW3.o.cell c1W;have hPl3:=lG w3 _ c13;have hpl3:=lG w3 _ p0;have hbl3:=lG w3 _ b0;clear hHeld;go_wp2_with fail
  refine(HSR.o _ ra2 rc2 HX3.o HRD.o).mono ?_;rintro e w4a ⟨rfl,hx4⟩;have HX4a:Hd (Ext w w4a):=HX3.o.trans hx4;have HX34a:=hid hx4;have c14a:=hx4.cell c13;have p0:=hx4.cell p0;have p1:=hx4.cell p1;have p2:=hx4.cell p2;have p3:=hx4.cell p3;have hple4:=lG w4a _ p0;have hle4a:=HX4a.o.le;clear hx4 b0 b1 b2 b3;obtain⟨q2,hpa⟩:∃q2,pa=some ⟨q2,0,none⟩:=by
   rcases HNX.o with⟨hnx,_⟩|⟨_,_,q2,_,h2,_⟩
   ·exact absurd hnx HST.o.2.2.2.2
   ·exact⟨q2,h2⟩
  subst hpa;go_wp2_with fail
  refine(HSY.o _ ?hxy).mono ?_
  case hxy=>exact HX4a.o
  rintro e w4 ⟨rfl,hx4⟩;have HX4:Hd (Ext w w4):=HX4a.o.trans hx4;have HX34:Hd (Ext w3 w4):=HX34a.o.trans hx4;have c14:=hx4.cell c14a;have hle4:=HX4.o.le;clear hx4 p0 p1 p2 p3 c14a;go_wp2_with (at_builtin;refine wpList_append_lies _ rfl _ _ 101 rfl w.heap.size 3 i0 _ 1 8 underlying101 hi hz0 hz1 hz2 rfl (by decide) _ 0 [] rfl (rB _ _ _ _) ⟨_,0,none⟩ 1 1 [.int .i64 0] rfl rfl (rI (zm (by simp))) (by simp [Value.oneCell']) (by decide) (by simp [maxLen]) (by omega) (by simp;omega) _ rfl ?_)
  intro ga capa w5 hown5 hgrow5 hat5 hlt5;have HO5:Hd (w5.ownsRow w.heap.size 3 1 (.slice (some ⟨ga,0,none⟩) 1 capa) 1 [.int .i64 0]/\Ext w4 w5):=⟨by simpa using hown5,rG (lK (lI _) _) hgrow5 (by simp [lH])⟩
  have c15:=HO5.o.2.cell c14;have hle5:=HO5.o.2.le;clear hown5 hgrow5 hat5 hlt5;go_wp2_with (at_builtin;refine wpList_append_lies _ rfl _ _ 85 rfl w.heap.size 95 j0 _ 1 8 underlying85 hj0 hy0 hy1 hy2 rfl (by decide) _ 0 [] rfl (rB _ _ _ _) ⟨_,0,none⟩ 1 1 [.pointer (some ⟨q2,0,none⟩)] rfl rfl (rI (zm (by simp))) (by simp [Value.oneCell']) (by decide) (by simp [maxLen]) (by omega) (by simp;omega) _ rfl ?_)
  intro gN capN w6 hown6 hgrow6 hat6 hlt6;have HO6:Hd (w6.ownsRow w.heap.size 95 1 (.slice (some ⟨gN,0,none⟩) 1 capN) 1 [.pointer (some ⟨q2,0,none⟩)]/\Ext w5 w6):=⟨by simpa using hown6,rG (lK (lI _) _) hgrow6 (by simp [lH])⟩
  have c16:=HO6.o.2.cell c15;have hPl6:=lG w6 _ c16;have HX6:Hd (Ext w w6):=HX4.o.trans (HO5.o.2.trans HO6.o.2);have HX36:Hd (Ext w3 w6):=HX34.o.trans (HO5.o.2.trans HO6.o.2);clear hown6 hgrow6 hat6 hlt6 c13 c14 c15;go_wp2_with fail
  rw [rounds_succ];go_wp2_with fail
  have hsz6:=HX6.o.le;have HG6:Hd (GameOf w6 P B (fun b=>G b\/w.heap.size<=b/\b<w6.heap.size) v q S ls ops0 c):=(H.o.ext HX6.o).more (fun b hb=>.inl hb) (fun b hb=>hb.elim (fun h=>rA (H.o.ltG b h) hsz6) (fun h=>h.2)) (fun b hb hor=>hor.elim (H.o.apart b hb) (fun h=>by have:=H.o.lt hb;omega));have hST6:GStep (fun b=>w.heap.size<=b) w w6 P v v G (fun b=>G b\/w.heap.size<=b/\b<w6.heap.size):=⟨lM HX6.o,fun b hb=>.inl hb,fun b hb=>hb.imp id (fun h=>h.1),fun b hb=>.inl hb⟩
  have HS6:=hid hST6;clear hST6;refine(QF HG6.o hc ga capa (HO6.o.2.cell (zk HO5.o.1 rfl)) ?hnt).mono ?_
  case hnt=>
   obtain⟨cur,hcu⟩:=zf HO5.o.1 (g:=ga) rfl;exact⟨cur,HO6.o.2.block hcu⟩
  rintro e w7 ⟨rfl,v7,G7,hg7,hs7,har7,hfi7⟩;have HG7:=hid hg7;have HS7:=hid hs7;have hKeep:∀b,(G b\/w.heap.size<=b/\b<w6.heap.size)->¬(yZ P v b\/w6.heap.size<=b):=fun b hb hor=>by
   rcases hor with ho|ho
   ·exact HG6.o.apart b ho hb
   ·rcases hb with hb|hb
    ·have:=H.o.ltG b hb;omega
    ·omega
  have HKeep:Hd _:=hKeep;have hgN:=lR.lt HO6.o.1 gN rfl;have x0:w7.cell? ⟨gN,0,none⟩=some (.pointer (some ⟨q2,0,none⟩)):=hs7.turn.cell (zk HO6.o.1 rfl) (hKeep gN (.inr ⟨hgN.1,hgN.2⟩));have hWl2:w.heap.size+1<W.heap.size:=by have:=HRP.o;exact(Array.getElem?_eq_some_iff.1 this).1
  have hW6:W.heap.size<=w6.heap.size:=(HW3.o.trans HX36.o).le;have x1:w7.cell? ⟨w.heap.size+1,0,none⟩=some (.int .i64 10):=hs7.turn.cell (zc ((HW3.o.trans HX36.o).block HRP.o) rfl) (hKeep _ (.inr ⟨by simp,by show w.heap.size+1<w6.heap.size;omega⟩));have hPl7:P<w7.heap.size:=(Array.getElem?_eq_some_iff.1 hg7.blk).1;have hgN7:=lG w7 _ x0;have hx17:=lG w7 _ x1;have hs67:=hs7.turn.size;have HA7:Hd (v7.ar=v.ar/\v7.fi=v.fi):=⟨har7,hfi7⟩
  have HST7:Hd (StoreOk w7 B F R ls' ops fl ah/\Far F G7 P v7):=by have h1:=HST.o.1.step HS6.o HST.o.2.1 (fun b hb hl=>by have:=HST.o.1.lt b hb;omega);exact h1.1.step HS7.o h1.2 (fun b hb hl=>by have:=HST.o.1.lt b hb;omega)
  clear hg7 hs7 har7 hfi7 hKeep c16 c1W hlcW;rcases HNX.o with⟨hnx,hpe⟩|⟨S',ls2,q',hnx,hpe,href⟩
  ·exact absurd hnx HST.o.2.2.2.2
  ·injection hpe with hpe
   injection hpe with hpe _ _
   subst hpe;have hone:OneIs w7 G7 (.slice (some ⟨gN,0,none⟩) 1 capN) q2:=⟨gN,capN,rfl,HS7.o.sub gN (.inr ⟨hgN.1,hgN.2⟩),x0⟩
   have href7:RefAt w7 G7 q2 S' ls2:=by have h1:RefAt w6 (fun b=>G b\/w.heap.size<=b/\b<w6.heap.size) q2 S' ls2:=(href.turn (Sp:=fun _=>False) (lM HX36.o) (fun _ _=>id)).mono (fun b hb=>hb.imp id (fun h=>⟨h.1,rA h.2 HX36.o.le⟩));exact(h1.turn HS7.o.turn HKeep.o).mono HS7.o.sub
   have HCh:Hd (∀w',w7=w'->_):=fun w' e=>by subst e;exact YL (R:=R) (F:=F) HG7.o hc HST7.o.1 HST.o.2.2.1 new HST.o.2.2.2.1 (HA7.o.1.trans HFI.o.1) (HA7.o.2.trans HFI.o.2) _ q2 S' hone href7 true
   have HNu0:Hd (∀w',_):=fun w'=>xD 10 w'
   clear hnx hone href7 href;go_wp2_with fail
   refine(HNu0.o _).mono ?_;rintro e w8 ⟨rfl,rfl⟩;go_wp2_with fail
   refine(HCh.o _ rfl).mono ?_;rintro e w8 ⟨rfl,v8,G8,hg8,hs8,ha8⟩;have HF:Hd _:=And.intro hg8 hs8;have HA8:=hid ha8;clear hg8 hs8 ha8;go_wp2;go_ret;exact⟨rfl,v8,G8,HF.o.1.count (by omega),(HS6.o.trans HS7.o (fun b hb=>by omega)).trans HF.o.2 (fun b hb=>by omega),HA8.o⟩
structure AnsIn (A:Ans)(new:List OpV)(v:GV)(c0 f0 n0:Int)(zs:List Int):Prop where
 ex:A.c≠10/\(A.next=none->new=[])/\(∀S' ls'',A.next=some (S',ls'')->new≠[]/\A.c=0)/\(v.ar=true->(new.length:Int)<=v.fi/\v.fi<=9223372036854775807)/\(c0,f0,n0,zs)=(A.c,A.f,A.n,A.zs)\/A.c≠10/\A.next≠none/\A.zs=[]/\v.ar=true/\v.fi=(new.length:Int)/\(c0,f0,n0,zs)=(10,0,0,[])
structure AnsOut (A:Ans)(new:List OpV)(v v':GV)(S:List Stk)(ls:List LsV)(c0:Int)(S':List Stk)(ls':List LsV):Prop where
 yes:c0≠10->S'=(A.next.getD (S,ls)).1/\ls'=(A.next.getD (S,ls)).2/\v'.ar=v.ar/\v'.fi=Zr v.ar v.fi new.length
 no:c0=10->S'=S/\ls'=ls/\v'.ar=false
theorem qO {R:List StkR}{ls':List LsV}{ops new:List OpV}(A:Ans)(h:GameOf w P B G v q S ls ops0 c)(hc:c<=900000)(hst:StoreOk w B F R ls' ops fl ah)(hF:Far F G P v)(hn:ops.length<=1000000)(hnew:ops=ops0++new)(c0 f0 n0:Int)(zs:List Int)(hin:AnsIn A new v c0 f0 n0 zs)(kk s i kd m k n f cc pp:Int)(hR:∀w',Ext w w'->Calls Tryz.prog 149 #[.pointer (some ⟨q,0,none⟩),zN kk s i kd m k n f cc pp] w' fun e w''=>∃pv v,e=.returned (.tuple #[pv,zr A.c A.f A.n v])/\RefSo G A w' w'' pv v)(ra:Option Addr)(zl rc:Nat)(hzl:zs.length=zl)(hzb:zl<=100000000)(hrd:RdRow w ra zl (zs.map (Value.int .u64))) :
  Calls Tryz.prog 105 #[.pointer (some ⟨P,0,none⟩),zN kk s i kd m k n f cc pp,zr c0 f0 n0 (.slice ra zl rc)] w fun e w'=>e=.returned (.bool true)/\∃v' G' q' S' ls',GameOf w' P B G' v' q' S' ls' ops (c+2)/\GStep (fun b=>w.heap.size<=b) w w' P v v' G G'/\AnsOut A new v v' S ls c0 S' ls':=by
 rcases hin.ex with⟨h1,h2,h3,h4,h9⟩|⟨h1,h2,h3,h4,h5,h9⟩
 ·cases h9
  refine(UI A h hc hst hF hn hnew h2 h3 h4 h1 kk s i kd m k n f cc pp hR ra zl rc hzl hzb hrd).mono ?_;rintro e w' ⟨rfl,v',G',q',h5,h6,h7,h8⟩;exact⟨rfl,v',G',q',_,_,h5,h6,⟨fun _=>⟨rfl,rfl,h7,h8⟩,fun e=>absurd e h1⟩⟩
 ·cases h9
  rw [<-hzl];refine(VW A h hc hst hF hn hnew h2 h4 h5 h1 kk s i kd m k n f cc pp hR ra rc h3).mono ?_;rintro e w' ⟨rfl,v',G',h6,h7,h8⟩;exact⟨rfl,v',G',q,_,_,h6,h7,⟨fun e=>absurd rfl e,fun _=>⟨rfl,rfl,h8⟩⟩⟩
end
end
section
structure AskNext (A:Ans)(R:List StkR)(ls:List LsV)(fl:Bool)(ah c0 f0 n0:Int)(zs:List Int)(R':List StkR)(ls':List LsV)(new:List OpV)(fl':Bool)(ah':Int):Prop where
 ex:A.next=none/\(c0,f0,n0,zs,R',ls',new,fl',ah')=(A.c,A.f,A.n,A.zs,R,ls,[],fl,ah)\/A.next=some (R'.map lL,ls')/\new≠[]/\new.length<=4/\A.c=0/\(fl=true->(new.length:Int)<=ah)/\(c0,f0,n0,zs,fl',ah')=(A.c,A.f,A.n,A.zs,fl,Zr fl ah new.length)\/R'.map lL=R.map lL/\A.next≠none/\A.zs=[]/\fl=true/\ah=(new.length:Int)/\new.length<=4/\(c0,f0,n0,zs,ls',fl')=(10,0,0,[],ls,false)
theorem AskNext.short {A:Ans}{R:List StkR}{ls:List LsV}{fl:Bool}{ah:Int}{c0 f0 n0:Int}{zs:List Int}{R':List StkR}{ls':List LsV}{new:List OpV}{fl':Bool}{ah':Int}(h:AskNext A R ls fl ah c0 f0 n0 zs R' ls' new fl' ah'):new.length<=4:=by
 rcases h.ex with⟨h1,h⟩|⟨h1,h2,h3,h4,h5,h⟩|⟨h0,h1,h2,h3,h4,h5,h⟩
 ·cases h;simp
 ·exact h3
 ·exact h5
theorem AskNext.ans {A:Ans}{R:List StkR}{ls:List LsV}{fl:Bool}{ah:Int}{c0 f0 n0:Int}{zs:List Int}{R':List StkR}{ls':List LsV}{new:List OpV}{fl':Bool}{ah':Int}(h:AskNext A R ls fl ah c0 f0 n0 zs R' ls' new fl' ah'){v:GV}(hv:ArIs v fl ah)(ha:yv fl ah)(h10:A.c≠10):AnsIn A new v c0 f0 n0 zs:=by
 rcases h.ex with⟨h1,h⟩|⟨h1,h2,h3,h4,h5,h⟩|⟨h0,h1,h2,h3,h4,h5,h⟩
 ·cases h
  refine ⟨.inl ⟨h10,fun _=>rfl,fun _ _ h=>(by rw [h1] at h;cases h),fun hf=>?_,rfl⟩⟩;have hf':=hv.1▸hf;rw [hv.2 hf'];exact ha hf'
 ·cases h
  refine ⟨.inl ⟨h10,fun h=>(by rw [h1] at h;cases h),fun _ _ _=>⟨h2,h4⟩,fun hf=>?_,rfl⟩⟩;have hf':=hv.1▸hf;rw [hv.2 hf'];exact⟨h5 hf',(ha hf').2⟩
 ·cases h;exact⟨.inr ⟨h10,h1,h2,hv.1.trans h3,(hv.2 h3).trans h4,rfl⟩⟩
theorem AskNext.out {A:Ans}{R:List StkR}{ls:List LsV}{fl:Bool}{ah:Int}{c0 f0 n0:Int}{zs:List Int}{R':List StkR}{ls':List LsV}{new:List OpV}{fl':Bool}{ah':Int}(h:AskNext A R ls fl ah c0 f0 n0 zs R' ls' new fl' ah'){v v':GV}{S':List Stk}{ls'':List LsV}(hv:ArIs v fl ah)(ha:yv fl ah)(h10:A.c≠10)(ho:AnsOut A new v v' (R.map lL) ls c0 S' ls'') :
  S'=R'.map lL/\ls''=ls'/\ArIs v' fl' ah'/\yv fl' ah'/\((R'.map lL=R.map lL/\ls'=ls)\/A.next=some (R'.map lL,ls')):=by
 rcases h.ex with⟨h1,h⟩|⟨h1,h2,h3,h4,h5,h⟩|⟨h0,h1,h2,h3,h4,h5,h⟩
 ·cases h
  obtain⟨e1,e2,e3,e4⟩:=ho.yes h10;rw [h1] at e1 e2;rw [List.length_nil,qQ] at e4;exact⟨e1,e2,hv.same e3 e4,ha,.inl ⟨rfl,rfl⟩⟩
 ·cases h
  obtain⟨e1,e2,e3,e4⟩:=ho.yes h10;rw [h1] at e1 e2;refine⟨e1,e2,⟨e3.trans hv.1,fun hf=>?_⟩,fun hf=>?_,.inr h1⟩
  ·rw [e4,hv.1,hv.2 hf]
  ·have:=ha hf;have:=h5 hf;unfold Zr;rw [if_pos hf];omega
 ·cases h
  obtain⟨e1,e2,e3⟩:=ho.no rfl;exact⟨e1.trans h0.symm,e2,⟨e3,fun h=>(by cases h)⟩,fun h=>(by cases h),.inl ⟨h0,rfl⟩⟩
structure AskSo (A:Ans)(w w':World)(B:Nat)(F:Nat->Prop)(R:List StkR)(ls:List LsV)(ops:List OpV)(fl:Bool)(ah:Int)(c0 f0 n0:Int)(zs:List Int)(rv:Value)(R':List StkR)(ls':List LsV)(F':Nat->Prop)(new:List OpV)(fl':Bool)(ah':Int):Prop where
 row:w'.ownsRow w.heap.size 146 1 rv zs.length (zs.map (Value.int .u64))
 store:StoreOk w' B F' R' ls' (ops++new) fl' ah'
 turn:Turn F w w'
 grows:∀b,F' b->F b\/w.heap.size<=b
 free:∀b,rv.ownBlock=some b->¬F' b
 next:AskNext A R ls fl ah c0 f0 n0 zs R' ls' new fl' ah'
section
variable {w:World}{P B q c:Nat}{G F:Nat->Prop}{v:GV}{S:List Stk}{ls:List LsV}{ops0:List OpV}{fl:Bool}{ah:Int}
theorem gB {R:List StkR}(A:Ans)(h:GameOf w P B G v q (R.map lL) ls ops0 c)(hc:c<=800000)(hst:StoreOk w B F R ls ops0 fl ah)(har:ArIs v fl ah)(hah:yv fl ah)(hF:Far F G P v)(hn:ops0.length<=900000)(hbr:A.c≠10)(kk s i kd m k n f cc pp:Int)
  (hP:∀w',Ext w w'->Calls Tryz.prog 20 #[.pointer (some ⟨B,0,none⟩),zN kk s i kd m k n f cc pp] w' fun e w''=>∃c0 f0 n0 zs ra rl rc R' ls' F' new fl' ah',e=.returned (zr c0 f0 n0 (.slice ra rl rc))/\zs.length<=100000000/\AskSo A w' w'' B F R ls ops0 fl ah c0 f0 n0 zs (.slice ra rl rc) R' ls' F' new fl' ah')
  (hR:∀w',RefAt w' G q (R.map lL) ls->(∀b,G b->b<w'.heap.size)->Calls Tryz.prog 149 #[.pointer (some ⟨q,0,none⟩),zN kk s i kd m k n f cc pp] w' fun e w''=>∃pv v,e=.returned (.tuple #[pv,zr A.c A.f A.n v])/\RefSo G A w' w'' pv v) :
  Calls Tryz.prog 70 #[.pointer (some ⟨P,0,none⟩),zN kk s i kd m k n f cc pp] w fun e w'=>e=.returned (.bool true)/\∃v' G' q' R' ls' F' new fl' ah',GameOf w' P B G' v' q' (R'.map lL) ls' (ops0++new) (c+3)/\StoreOk w' B F' R' ls' (ops0++new) fl' ah'/\Far F' G' P v'/\new.length<=4/\Old w w' F F' P v v'/\ArIs v' fl' ah'/\yv fl' ah'/\((R'.map lL=R.map lL/\ls'=ls)\/A.next=some (R'.map lL,ls')):=by
 have H:=hid h;have HST:Hd (StoreOk w B F R ls ops0 fl ah/\Far F G P v/\ops0.length<=900000/\A.c≠10/\ArIs v fl ah/\c<=800000/\yv fl ah):=⟨hst,hF,hn,hbr,har,hc,hah⟩
 have HP:=hid hP;have HR:=hid hR;have c0:w.cell? ⟨P,0,none⟩=some (.pointer (some ⟨B,0,none⟩)):=zc h.blk rfl;have hPl:=lG w _ c0;clear h hst har hah hF hn hbr hP hR;unfold zr zN at *;go_enter func70,ntmps70;go_wp2_with fail
 have hreq:(w.alloc (.cells #[.int .i64 kk,.int .i64 s,.int .i64 i,.int .i64 kd,.int .i64 m,.int .i64 k,.int .i64 n,.int .i64 f,.int .i64 cc,.int .i64 pp] 51)).heap[w.heap.size]?=some (.cells #[.int .i64 kk,.int .i64 s,.int .i64 i,.int .i64 kd,.int .i64 m,.int .i64 k,.int .i64 n,.int .i64 f,.int .i64 cc,.int .i64 pp] 51 (0,0)):=heap_alloc_new _ _;have hXW:Ext w (w.alloc (.cells #[.int .i64 kk,.int .i64 s,.int .i64 i,.int .i64 kd,.int .i64 m,.int .i64 k,.int .i64 n,.int .i64 f,.int .i64 cc,.int .i64 pp] 51)):=(lI w).alloc _;have hWs:(w.alloc (.cells #[.int .i64 kk,.int .i64 s,.int .i64 i,.int .i64 kd,.int .i64 m,.int .i64 k,.int .i64 n,.int .i64 f,.int .i64 cc,.int .i64 pp] 51)).heap.size=w.heap.size+1:=by simp
 generalize lP w _=W at hreq hXW hWs ⊢;have HRQ:=hid hreq;have HXW:=hid hXW;have HWS:=hid hWs;have c0W:=hXW.cell c0;have SF:Hd (∀w',Turn (fun b=>F b) W w'->(fun w'=>w'.cell? ⟨P,0,none⟩=some (.pointer (some ⟨B,0,none⟩))/\w'.cell? ⟨w.heap.size,0,none⟩=some (.int .i64 kk)/\w'.cell? ⟨w.heap.size,1,none⟩=some (.int .i64 s)/\w'.cell? ⟨w.heap.size,2,none⟩=some (.int .i64 i)/\w'.cell? ⟨w.heap.size,3,none⟩=some (.int .i64 kd)/\w'.cell? ⟨w.heap.size,4,none⟩=some (.int .i64 m)/\w'.cell? ⟨w.heap.size,5,none⟩=some (.int .i64 k)/\w'.cell? ⟨w.heap.size,6,none⟩=some (.int .i64 n)/\w'.cell? ⟨w.heap.size,7,none⟩=some (.int .i64 f)/\w'.cell? ⟨w.heap.size,8,none⟩=some (.int .i64 cc)/\w'.cell? ⟨w.heap.size,9,none⟩=some (.int .i64 pp)) w'):=fun w' hx=>by
  have hPF:¬F P:=fun e=>(HST.o.2.1 P e).2 (.inl rfl)
  have hRF:¬F w.heap.size:=fun e=>by have:=HST.o.1.lt _ e;omega
  exact⟨hx.cell c0W hPF,zc (hx.ref HRQ.o hRF) rfl,zc (hx.ref HRQ.o hRF) rfl,zc (hx.ref HRQ.o hRF) rfl,zc (hx.ref HRQ.o hRF) rfl,zc (hx.ref HRQ.o hRF) rfl,zc (hx.ref HRQ.o hRF) rfl,zc (hx.ref HRQ.o hRF) rfl,zc (hx.ref HRQ.o hRF) rfl,zc (hx.ref HRQ.o hRF) rfl,zc (hx.ref HRQ.o hRF) rfl⟩
 have hS0:=SF.o W (Turn.refl _ _);clear hreq hXW hWs c0;refine wp_region_held_drew (S:=(fun w'=>w'.cell? ⟨P,0,none⟩=some (.pointer (some ⟨B,0,none⟩))/\w'.cell? ⟨w.heap.size,0,none⟩=some (.int .i64 kk)/\w'.cell? ⟨w.heap.size,1,none⟩=some (.int .i64 s)/\w'.cell? ⟨w.heap.size,2,none⟩=some (.int .i64 i)/\w'.cell? ⟨w.heap.size,3,none⟩=some (.int .i64 kd)/\w'.cell? ⟨w.heap.size,4,none⟩=some (.int .i64 m)/\w'.cell? ⟨w.heap.size,5,none⟩=some (.int .i64 k)/\w'.cell? ⟨w.heap.size,6,none⟩=some (.int .i64 n)/\w'.cell? ⟨w.heap.size,7,none⟩=some (.int .i64 f)/\w'.cell? ⟨w.heap.size,8,none⟩=some (.int .i64 cc)/\w'.cell? ⟨w.heap.size,9,none⟩=some (.int .i64 pp))) (by kernel_rfl) hS0 (fun hHeld=>?_);refine zT 0 hHeld ?_;refine zT 1 hHeld ?_;refine zT 2 hHeld ?_;refine zT 3 hHeld ?_;refine zT 4 hHeld ?_;refine wpAnyH_ready (rs:=[5,6]) (by kernel_rfl) (by simp) ?_;refine sD (o:=_) rfl (fun K hK=>?_) (sD (o:=_) rfl (fun K hK=>?_) AllReadyH.nil)
 ·skip
  (try simp only [lA,lB,lC])
  go_simp;refine(HP.o _ (HXW.o.trans (lJ (lI W)))).mono ?_;rintro e w2 ⟨c0,f0,n0,zs,ra,rl,rc,R',ls',F',new,fl',ah',rfl,hzb,hso⟩;have HSO:=hid hso;have HZB0:=hid hzb;have HX2:Hd (Turn (fun b=>F b) W w2):=(lM (lJ (lI W))).trans hso.turn;clear hso hzb;refine hK.out _ _ ?hc2 (fun hHeld=>?_)
  case hc2=>exact SF.o _ HX2.o
  clear hK K
  try simp only [Act.put,lA,lB,lC,lD,lE,lF]
  refine zR 6 fun K hK=>?_
  (try simp only [lA,lB,lC])
  go_simp;have HZB:Hd ((w2.alloc (.cells #[.int .i64 0,.int .i64 0,.int .i64 0,.slice none 0 0] 33)).heap[w2.heap.size]?=some (.cells #[.int .i64 0,.int .i64 0,.int .i64 0,.slice none 0 0] 33 (0,0))):=heap_alloc_new _ _;have HX2a:Hd (Ext w2 (w2.alloc (.cells #[.int .i64 0,.int .i64 0,.int .i64 0,.slice none 0 0] 33))):=(lI _).alloc _;refine hK.out _ _ ?hc3 (fun hHeld=>?_)
  case hc3=>exact SF.o _ (HX2.o.trans (lM HX2a.o))
  clear hK K
  try simp only [Act.put,lA,lB,lC,lD,lE,lF]
  obtain⟨gb,hgb⟩:∃gb,w2.heap.size=gb:=⟨_,rfl⟩
  simp only [hgb] at HZB ⊢;generalize lP w2 _=w2a at HZB HX2a hHeld ⊢;have z0:w2a.cell? ⟨gb,0,none⟩=some (.int .i64 0):=zc HZB.o rfl;have z1:w2a.cell? ⟨gb,1,none⟩=some (.int .i64 0):=zc HZB.o rfl;have z2:w2a.cell? ⟨gb,2,none⟩=some (.int .i64 0):=zc HZB.o rfl;have z3:w2a.cell? ⟨gb,3,none⟩=some (.slice none 0 0):=zc HZB.o rfl;have y0:=ze HZB.o 0;have y1:=ze HZB.o 1;have y2:=ze HZB.o 2;have y3:=ze HZB.o 3;have hzl':=lG w2a _ z0;refine zR 7 fun K hK=>?_
  (try simp only [lA,lB,lC])
  go_simp;have HGB:Hd (((((w2a.setCell ⟨gb,0,none⟩ (.int .i64 c0)).setCell ⟨gb,1,none⟩ (.int .i64 f0)).setCell ⟨gb,2,none⟩ (.int .i64 n0)).setCell ⟨gb,3,none⟩ (.slice ra rl rc)).heap[gb]?=some (.cells #[.int .i64 c0,.int .i64 f0,.int .i64 n0,.slice ra rl rc] 33 (0,0))):=zg (zg (zg (zg HZB.o _) _) _) _;have HT3:Hd (Turn (fun b=>b=gb) w2 ((((w2a.setCell ⟨gb,0,none⟩ (.int .i64 c0)).setCell ⟨gb,1,none⟩ (.int .i64 f0)).setCell ⟨gb,2,none⟩ (.int .i64 n0)).setCell ⟨gb,3,none⟩ (.slice ra rl rc))):=yr HX2a.o _ _ _ _;refine hK.out _ _ ?hc4 (fun hHeld=>?_)
  case hc4=>exact SF.o _ (HX2.o.trans' HT3.o (fun b hb e=>by have:=HX2.o.size;omega))
  clear hK K
  try simp only [Act.put,lA,lB,lC,lD,lE,lF]
  refine wpAnyH_done (by kernel_rfl) ?_ _;have HGBn:=hid hgb;generalize rC (rC (rC (rC w2a _ _) _ _) _ _) _ _=w3 at HGB HT3 hHeld ⊢;clear z0 z1 z2 z3 y0 y1 y2 y3 hzl' hgb;have HGF:Hd (w.heap.size+1<=gb/\¬F' gb/\lH (.slice ra rl rc)≠some gb):=by
   have h1:=HGBn.o;have h2:=HX2.o.size;have h3:=HWS.o;refine⟨by omega,fun e=>?_,fun e=>?_⟩
   ·have:=HSO.o.store.lt gb e;omega
   ·have:=(lR.lt HSO.o.row gb e).2;omega
  have hrow2:=HSO.o.row;obtain⟨ra',rc',hrE⟩:=zo hrow2;injection hrE with e1 e2 e3
  subst e1 e2 e3;have hW.drew:w.heap.size+1<=W.drew.heap.size:=by have:=HWS.o;have:=((lJ (lI W))).le;omega
  have HROW3:Hd (w3.ownsRow (w.heap.size+1) 146 1 (.slice ra zs.length rc) zs.length (zs.map (Value.int .u64))):=zv (HT3.o.owns hrow2 (fun b hb e=>HGF.o.2.2 (by rw [<-e];exact hb))) hW.drew;have HTF:Hd (Turn (fun b=>F b) w w3):=((lM HXW.o).trans HX2.o).trans' HT3.o (fun b hb e=>by have:=HGF.o.1;omega);have HST3:Hd (StoreOk w3 B F' R' ls' (ops0++new) fl' ah'):=HSO.o.store.turn HT3.o (fun b hb e=>HGF.o.2.1 (by rw [<-e];exact hb));have HG3:Hd (GameOf w3 P B G v q (R.map lL) ls ops0 c):=H.o.turn HTF.o (fun b hb e=>(HST.o.2.1 b e).1 hb) (fun b hb e=>(HST.o.2.1 b e).2 hb);have hw3:=HTF.o.size;have HFar:Hd (Far F' G P v):=fun b hb=>by
   rcases HSO.o.grows b hb with e|e
   ·exact HST.o.2.1 b e
   ·exact⟨fun hg=>by have:=H.o.ltG b hg;omega,fun ho=>by have:=H.o.lt ho;omega⟩
  have HRW:Hd (∀b,lH (.slice ra zs.length rc)=some b->w.heap.size+1<=b/\b<w3.heap.size/\¬F' b/\¬yZ P v b/\¬G b):=fun b hb=>by have h1:=lR.lt HROW3.o b hb;exact⟨h1.1,h1.2,HSO.o.free b hb,fun ho=>by have:=H.o.lt ho;omega,fun hg=>by have:=H.o.ltG b hg;omega⟩
  have hnb:new.length<=4:=HSO.o.next.short;have HAn:Hd (∀w',w3=w'->_):=fun w' e=>by subst e;exact qO (F:=F') (R:=R') (ls':=ls') (ops:=ops0++new) (new:=new) A HG3.o (by have:=HST.o.2.2.2.2.2.1;omega) HST3.o HFar.o (by rw [lW];have:=HST.o.2.2.1;omega) rfl c0 f0 n0 zs (HSO.o.next.ans HST.o.2.2.2.2.1 HST.o.2.2.2.2.2.2 HST.o.2.2.2.1) kk s i kd m k n f cc pp (fun w' hx=>HR.o w' (HG3.o.ref.ext hx) (fun b hb=>rA (HG3.o.ltG b hb) hx.le)) ra zs.length rc rfl HZB0.o (yz HROW3.o)
  have HNB:=hid hnb;have b0:w3.cell? ⟨gb,0,none⟩=some (.int .i64 c0):=zc HGB.o rfl;have b1:w3.cell? ⟨gb,1,none⟩=some (.int .i64 f0):=zc HGB.o rfl;have b2:w3.cell? ⟨gb,2,none⟩=some (.int .i64 n0):=zc HGB.o rfl;have b3:w3.cell? ⟨gb,3,none⟩=some (.slice ra zs.length rc):=zc HGB.o rfl;obtain⟨_,r0,r1,r2,r3,r4,r5,r6,r7,r8,r9⟩:=hHeld;have hbl3:=lG w3 _ b0;have hrl3:=lG w3 _ r0;have HBL:=hid hbl3;clear hrow2 hW.drew hnb c0W;go_wp2_with fail
  refine(HAn.o _ rfl).mono ?_;rintro e w4 ⟨rfl,v4,G4,q4,S4,ls4,hg4,hs4,ho4⟩;have HO4:Hd _:=HSO.o.next.out HST.o.2.2.2.2.1 HST.o.2.2.2.2.2.2 HST.o.2.2.2.1 ho4;have HG4:=hid hg4;have HS4:=hid hs4;have hgbo:¬(yZ P v gb\/w3.heap.size<=gb):=fun hor=>hor.elim (fun ho=>by have:=H.o.lt ho;have:=HGF.o.1;omega) (fun hl=>by have:=HBL.o;omega)
  have d3:w4.cell? ⟨gb,3,none⟩=some (.slice ra zs.length rc):=hs4.turn.cell b3 hgbo;have HGB4:=hid (hs4.turn.ref HGB.o hgbo);have HROW4:Hd (w4.ownsRow (w.heap.size+1) 146 1 (.slice ra zs.length rc) zs.length (zs.map (Value.int .u64))):=hs4.turn.owns HROW3.o (fun b hb hor=>hor.elim (HRW.o b hb).2.2.2.1 (fun hl=>by have:=(HRW.o b hb).2.1;omega));have h34:=hs4.turn.size;have HK:Hd (∀w',Ext w4 w'->_):=fun w' hx=>by
   have hxl:=hx.le;exact QE (HG4.o.ext hx) (by have:=HST.o.2.2.2.2.2.1;omega) (w.heap.size+1) ra zs.length rc _ HZB0.o (hx.owns HROW4.o) (by omega) (fun b hb hg=>by
    rcases HS4.o.new b hg with e|e
    ·exact(HRW.o b hb).2.2.2.2 e
    ·have:=(HRW.o b hb).2.1;omega) (fun b=>lH (.slice ra zs.length rc)=some b\/w4.heap.size<=b) (fun b hb=>hb.imp id (fun hl=>by omega))
  have hPl4:P<w4.heap.size:=(Array.getElem?_eq_some_iff.1 hg4.blk).1;have hgb4:=lG w4 _ d3;clear hg4 hs4 ho4 b0 b1 b2 b3 hgbo;generalize hzz:zs.length=zl at *;clear hzz;go_wp2_with fail
  refine wp_region_held_drew (S:=(fun w'=>w'.cell? ⟨gb,3,none⟩=some (.slice ra zl rc))) (by kernel_rfl) d3 (fun hHeld=>?_);refine zT 0 hHeld ?_;refine zT 1 hHeld ?_;refine zT 2 hHeld ?_;refine zT 3 hHeld ?_;refine zT 4 hHeld ?_
  try simp only [Act.put,lA,lB,lC,lD,lE,lF]
  refine zR 5 fun K hK=>?_
  (try simp only [lA,lB,lC])
  go_simp;refine(HK.o _ (lJ (lI _))).mono ?_;rintro e w5 ⟨rfl,bv5,G5,hg5,hs5'⟩;have hs5:=(GStep.of_ext (X:=fun b=>lH (.slice ra zl rc)=some b\/w4.heap.size<=b) (P:=P) (v:=v4) (G:=G4) (lJ (lI w4))).trans hs5' (fun b h=>h);have HF5:Hd _:=And.intro hg5 hs5;have d35:w5.cell? ⟨gb,3,none⟩=some (.slice ra zl rc):=hs5.turn.cell d3 (fun hor=>by
   rcases hor with ho|ho|ho
   ·exact HG4.o.not_own HGB4.o (by decide) (by decide) (by decide) (by decide) (by decide) (by decide) ho
   ·exact Zk HGB4.o HROW4.o (by decide) ho
   ·have ho':w4.heap.size<=gb:=ho;omega)
  clear hg5 hs5 hs5';refine hK.out _ _ ?hc7 (fun hHeld=>?_)
  case hc7=>exact d35
  clear hK K
  try simp only [Act.put,lA,lB,lC,lD,lE,lF]
  refine wpAnyH_done (by kernel_rfl) ?_ _;go_wp2;go_ret;have hGS:=(HS4.o.mono (Y:=fun b=>lH (.slice ra zl rc)=some b\/w3.heap.size<=b) (fun b hb=>.inr hb)).trans HF5.o.2 (fun b hb=>hb.imp id (fun hl=>by omega));have hfin:=HST3.o.step hGS HFar.o (fun b hb hor=>hor.elim (fun e=>(HRW.o b e).2.2.1 hb) (fun hl=>by have:=HST3.o.lt b hb;omega));have hold:Old w w5 F F' P v { v4 with bW:=bv5 }:=by
   refine⟨(HTF.o.mono (fun b _ hb=>.inl hb)).trans' hGS.turn (fun b hb hor=>?_),fun b hb=>(HSO.o.grows b hb).imp id (fun hl=>?_),fun b hb=>(hGS.own b hb).imp id (fun hl=>?_)⟩
   ·rcases hor with ho|ho|ho
    ·exact .inr ho
    ·have:=(HRW.o b ho).1;omega
    ·omega
   ·have h1:w.heap.size+1<=W.drew.heap.size:=by have:=HWS.o;have:=((lJ (lI W))).le;omega
    omega
   ·rcases hl with ho|ho
    ·have:=(HRW.o b ho).1;omega
    ·omega
  refine⟨rfl,_,G5,q4,R',ls',F',new,fl',ah',?_,hfin.1,hfin.2,HNB.o,hold,⟨HO4.o.2.2.1.1,HO4.o.2.2.1.2⟩,HO4.o.2.2.2.1,HO4.o.2.2.2.2⟩;have hg:=HF5.o.1;rw [HO4.o.1,HO4.o.2.1] at hg;exact hg
 ·skip
  (try simp only [lA,lB,lC])
  go_simp;have HZ0:Hd ((W.alloc (.cells #[.int .i64 0,.int .i64 0,.int .i64 0,.slice none 0 0] 33)).drew.heap[W.heap.size]?=some (.cells #[.int .i64 0,.int .i64 0,.int .i64 0,.slice none 0 0] 33 (0,0))):=zy (heap_alloc_new _ _);have HXa:Hd (Ext W (W.alloc (.cells #[.int .i64 0,.int .i64 0,.int .i64 0,.slice none 0 0] 33)).drew):=lJ ((lI _).alloc _);obtain⟨gb,hgb⟩:∃gb,W.heap.size=gb:=⟨_,rfl⟩
  have HGBn:=hid hgb;simp only [hgb] at HZ0 ⊢;refine hK.out _ _ ?hd1 (fun hHeld=>?_)
  case hd1=>exact SF.o _ (lM HXa.o)
  clear hK K
  try simp only [Act.put,lA,lB,lC,lD,lE,lF]
  generalize World.drew (lP W _)=Wa at HZ0 HXa hHeld ⊢;refine zR 5 fun K hK=>?_
  (try simp only [lA,lB,lC])
  go_simp;refine(HP.o _ (HXW.o.trans HXa.o)).mono ?_;rintro e w2 ⟨c0,f0,n0,zs,ra,rl,rc,R',ls',F',new,fl',ah',rfl,hzb,hso⟩;have HSO:=hid hso;have HZB0:=hid hzb;have HX2:Hd (Turn (fun b=>F b) W w2):=(lM HXa.o).trans hso.turn;clear hso hzb;refine hK.out _ _ ?hc2 (fun hHeld=>?_)
  case hc2=>exact SF.o _ HX2.o
  clear hK K
  try simp only [Act.put,lA,lB,lC,lD,lE,lF]
  have hgbF:¬F gb:=fun e=>by have h1:=HST.o.1.lt gb e;have h2:=HGBn.o;have h3:=HXW.o.le;omega
  have HZB:=hid (HSO.o.turn.ref HZ0.o hgbF);have z0:w2.cell? ⟨gb,0,none⟩=some (.int .i64 0):=zc HZB.o rfl;have z1:w2.cell? ⟨gb,1,none⟩=some (.int .i64 0):=zc HZB.o rfl;have z2:w2.cell? ⟨gb,2,none⟩=some (.int .i64 0):=zc HZB.o rfl;have z3:w2.cell? ⟨gb,3,none⟩=some (.slice none 0 0):=zc HZB.o rfl;have y0:=ze HZB.o 0;have y1:=ze HZB.o 1;have y2:=ze HZB.o 2;have y3:=ze HZB.o 3;have hzl':=lG w2 _ z0;refine zR 7 fun K hK=>?_
  (try simp only [lA,lB,lC])
  go_simp;have HGB:Hd (((((w2.setCell ⟨gb,0,none⟩ (.int .i64 c0)).setCell ⟨gb,1,none⟩ (.int .i64 f0)).setCell ⟨gb,2,none⟩ (.int .i64 n0)).setCell ⟨gb,3,none⟩ (.slice ra rl rc)).heap[gb]?=some (.cells #[.int .i64 c0,.int .i64 f0,.int .i64 n0,.slice ra rl rc] 33 (0,0))):=zg (zg (zg (zg HZB.o _) _) _) _;have HT3:Hd (Turn (fun b=>b=gb) w2 ((((w2.setCell ⟨gb,0,none⟩ (.int .i64 c0)).setCell ⟨gb,1,none⟩ (.int .i64 f0)).setCell ⟨gb,2,none⟩ (.int .i64 n0)).setCell ⟨gb,3,none⟩ (.slice ra rl rc))):=yr (lI _) _ _ _ _;refine hK.out _ _ ?hd4 (fun hHeld=>?_)
  case hd4=>exact SF.o _ (HX2.o.trans' HT3.o (fun b hb e=>by have:=HGBn.o;omega))
  clear hK K
  try simp only [Act.put,lA,lB,lC,lD,lE,lF]
  refine wpAnyH_done (by kernel_rfl) ?_ _;generalize rC (rC (rC (rC w2 _ _) _ _) _ _) _ _=w3 at HGB HT3 hHeld ⊢;have HGBW:Hd (gb<Wa.heap.size):=(Array.getElem?_eq_some_iff.1 HZ0.o).1;have HGBF:=hid hgbF;clear z0 z1 z2 z3 y0 y1 y2 y3 hzl' hgb hgbF;have HGF:Hd (w.heap.size+1<=gb/\¬F' gb/\lH (.slice ra rl rc)≠some gb):=by
   have h1:=HGBn.o;have h3:=HWS.o;have h4:=HGBW.o;refine⟨by omega,fun e=>?_,fun e=>?_⟩
   ·rcases HSO.o.grows gb e with e|e
    ·exact HGBF.o e
    ·omega
   ·have:=(lR.lt HSO.o.row gb e).1;omega
  have hrow2:=HSO.o.row;obtain⟨ra',rc',hrE⟩:=zo hrow2;injection hrE with e1 e2 e3
  subst e1 e2 e3;have hWa:w.heap.size+1<=Wa.heap.size:=by have:=HWS.o;have:=(HXa.o).le;omega
  have HROW3:Hd (w3.ownsRow (w.heap.size+1) 146 1 (.slice ra zs.length rc) zs.length (zs.map (Value.int .u64))):=zv (HT3.o.owns hrow2 (fun b hb e=>HGF.o.2.2 (by rw [<-e];exact hb))) hWa;have HTF:Hd (Turn (fun b=>F b) w w3):=((lM HXW.o).trans HX2.o).trans' HT3.o (fun b hb e=>by have:=HGF.o.1;omega);have HST3:Hd (StoreOk w3 B F' R' ls' (ops0++new) fl' ah'):=HSO.o.store.turn HT3.o (fun b hb e=>HGF.o.2.1 (by rw [<-e];exact hb));have HG3:Hd (GameOf w3 P B G v q (R.map lL) ls ops0 c):=H.o.turn HTF.o (fun b hb e=>(HST.o.2.1 b e).1 hb) (fun b hb e=>(HST.o.2.1 b e).2 hb);have hw3:=HTF.o.size;have HFar:Hd (Far F' G P v):=fun b hb=>by
   rcases HSO.o.grows b hb with e|e
   ·exact HST.o.2.1 b e
   ·exact⟨fun hg=>by have:=H.o.ltG b hg;omega,fun ho=>by have:=H.o.lt ho;omega⟩
  have HRW:Hd (∀b,lH (.slice ra zs.length rc)=some b->w.heap.size+1<=b/\b<w3.heap.size/\¬F' b/\¬yZ P v b/\¬G b):=fun b hb=>by have h1:=lR.lt HROW3.o b hb;exact⟨h1.1,h1.2,HSO.o.free b hb,fun ho=>by have:=H.o.lt ho;omega,fun hg=>by have:=H.o.ltG b hg;omega⟩
  have hnb:new.length<=4:=HSO.o.next.short;have HAn:Hd (∀w',w3=w'->_):=fun w' e=>by subst e;exact qO (F:=F') (R:=R') (ls':=ls') (ops:=ops0++new) (new:=new) A HG3.o (by have:=HST.o.2.2.2.2.2.1;omega) HST3.o HFar.o (by rw [lW];have:=HST.o.2.2.1;omega) rfl c0 f0 n0 zs (HSO.o.next.ans HST.o.2.2.2.2.1 HST.o.2.2.2.2.2.2 HST.o.2.2.2.1) kk s i kd m k n f cc pp (fun w' hx=>HR.o w' (HG3.o.ref.ext hx) (fun b hb=>rA (HG3.o.ltG b hb) hx.le)) ra zs.length rc rfl HZB0.o (yz HROW3.o)
  have HNB:=hid hnb;have b0:w3.cell? ⟨gb,0,none⟩=some (.int .i64 c0):=zc HGB.o rfl;have b1:w3.cell? ⟨gb,1,none⟩=some (.int .i64 f0):=zc HGB.o rfl;have b2:w3.cell? ⟨gb,2,none⟩=some (.int .i64 n0):=zc HGB.o rfl;have b3:w3.cell? ⟨gb,3,none⟩=some (.slice ra zs.length rc):=zc HGB.o rfl;obtain⟨_,r0,r1,r2,r3,r4,r5,r6,r7,r8,r9⟩:=hHeld;have hbl3:=lG w3 _ b0;have hrl3:=lG w3 _ r0;have HBL:=hid hbl3;clear hrow2 hWa hnb c0W;go_wp2_with fail
  refine(HAn.o _ rfl).mono ?_;rintro e w4 ⟨rfl,v4,G4,q4,S4,ls4,hg4,hs4,ho4⟩;have HO4:Hd _:=HSO.o.next.out HST.o.2.2.2.2.1 HST.o.2.2.2.2.2.2 HST.o.2.2.2.1 ho4;have HG4:=hid hg4;have HS4:=hid hs4;have hgbo:¬(yZ P v gb\/w3.heap.size<=gb):=fun hor=>hor.elim (fun ho=>by have:=H.o.lt ho;have:=HGF.o.1;omega) (fun hl=>by have:=HBL.o;omega)
  have d3:w4.cell? ⟨gb,3,none⟩=some (.slice ra zs.length rc):=hs4.turn.cell b3 hgbo;have HGB4:=hid (hs4.turn.ref HGB.o hgbo);have HROW4:Hd (w4.ownsRow (w.heap.size+1) 146 1 (.slice ra zs.length rc) zs.length (zs.map (Value.int .u64))):=hs4.turn.owns HROW3.o (fun b hb hor=>hor.elim (HRW.o b hb).2.2.2.1 (fun hl=>by have:=(HRW.o b hb).2.1;omega));have h34:=hs4.turn.size;have HK:Hd (∀w',Ext w4 w'->_):=fun w' hx=>by
   have hxl:=hx.le;exact QE (HG4.o.ext hx) (by have:=HST.o.2.2.2.2.2.1;omega) (w.heap.size+1) ra zs.length rc _ HZB0.o (hx.owns HROW4.o) (by omega) (fun b hb hg=>by
    rcases HS4.o.new b hg with e|e
    ·exact(HRW.o b hb).2.2.2.2 e
    ·have:=(HRW.o b hb).2.1;omega) (fun b=>lH (.slice ra zs.length rc)=some b\/w4.heap.size<=b) (fun b hb=>hb.imp id (fun hl=>by omega))
  have hPl4:P<w4.heap.size:=(Array.getElem?_eq_some_iff.1 hg4.blk).1;have hgb4:=lG w4 _ d3;clear hg4 hs4 ho4 b0 b1 b2 b3 hgbo;generalize hzz:zs.length=zl at *;clear hzz;go_wp2_with fail
  refine wp_region_held_drew (S:=(fun w'=>w'.cell? ⟨gb,3,none⟩=some (.slice ra zl rc))) (by kernel_rfl) d3 (fun hHeld=>?_);refine zT 0 hHeld ?_;refine zT 1 hHeld ?_;refine zT 2 hHeld ?_;refine zT 3 hHeld ?_;refine zT 4 hHeld ?_
  try simp only [Act.put,lA,lB,lC,lD,lE,lF]
  refine zR 5 fun K hK=>?_
  (try simp only [lA,lB,lC])
  go_simp;refine(HK.o _ (lJ (lI _))).mono ?_;rintro e w5 ⟨rfl,bv5,G5,hg5,hs5'⟩;have hs5:=(GStep.of_ext (X:=fun b=>lH (.slice ra zl rc)=some b\/w4.heap.size<=b) (P:=P) (v:=v4) (G:=G4) (lJ (lI w4))).trans hs5' (fun b h=>h);have HF5:Hd _:=And.intro hg5 hs5;have d35:w5.cell? ⟨gb,3,none⟩=some (.slice ra zl rc):=hs5.turn.cell d3 (fun hor=>by
   rcases hor with ho|ho|ho
   ·exact HG4.o.not_own HGB4.o (by decide) (by decide) (by decide) (by decide) (by decide) (by decide) ho
   ·exact Zk HGB4.o HROW4.o (by decide) ho
   ·have ho':w4.heap.size<=gb:=ho;omega)
  clear hg5 hs5 hs5';refine hK.out _ _ ?hc7 (fun hHeld=>?_)
  case hc7=>exact d35
  clear hK K
  try simp only [Act.put,lA,lB,lC,lD,lE,lF]
  refine wpAnyH_done (by kernel_rfl) ?_ _;go_wp2;go_ret;have hGS:=(HS4.o.mono (Y:=fun b=>lH (.slice ra zl rc)=some b\/w3.heap.size<=b) (fun b hb=>.inr hb)).trans HF5.o.2 (fun b hb=>hb.imp id (fun hl=>by omega));have hfin:=HST3.o.step hGS HFar.o (fun b hb hor=>hor.elim (fun e=>(HRW.o b e).2.2.1 hb) (fun hl=>by have:=HST3.o.lt b hb;omega));have hold:Old w w5 F F' P v { v4 with bW:=bv5 }:=by
   refine⟨(HTF.o.mono (fun b _ hb=>.inl hb)).trans' hGS.turn (fun b hb hor=>?_),fun b hb=>(HSO.o.grows b hb).imp id (fun hl=>?_),fun b hb=>(hGS.own b hb).imp id (fun hl=>?_)⟩
   ·rcases hor with ho|ho|ho
    ·exact .inr ho
    ·have:=(HRW.o b ho).1;omega
    ·omega
   ·have h1:w.heap.size+1<=Wa.heap.size:=by have:=HWS.o;have:=(HXa.o).le;omega
    omega
   ·rcases hl with ho|ho
    ·have:=(HRW.o b ho).1;omega
    ·omega
  refine⟨rfl,_,G5,q4,R',ls',F',new,fl',ah',?_,hfin.1,hfin.2,HNB.o,hold,⟨HO4.o.2.2.1.1,HO4.o.2.2.1.2⟩,HO4.o.2.2.2.1,HO4.o.2.2.2.2⟩;have hg:=HF5.o.1;rw [HO4.o.1,HO4.o.2.1] at hg;exact hg
end
end
end Go.Proofs.YtmnjhhachdlmkaaGreat
