import Derived.Test.YtmnjhhachdlmkaaGreatK22
import Derived.Test.YtmnjhhachdlmkaaGreatK24
import Derived.Test.YtmnjhhachdlmkaaGreatK01
import Derived.Test.YtmnjhhachdlmkaaGreatK03
import Derived.Test.YtmnjhhachdlmkaaGreatK13
import Derived.Test.YtmnjhhachdlmkaaGreatK08
import Derived.Test.YtmnjhhachdlmkaaGreatK04
namespace Go.Proofs.YtmnjhhachdlmkaaGreat
set_option linter.all false
set_option maxRecDepth 100000
set_option maxHeartbeats 6400000
open Tryz
open Turn renaming setCell -> lQ
open Ext renaming refl -> lI, drew -> lJ, grown -> rG, alloc -> lK, setCell -> rF, chain -> lY, block -> rW
open World renaming alloc -> lP
open List renaming append_nil -> rL, take_succ_eq_append_getElem -> rV, take_of_length_le -> rM, length_append -> lW, take -> rS, drop -> rR, drop_drop -> rX
open Nat renaming zero_le -> lT, le_trans -> rH
open UInt8 renaming toNat_lt -> sB
open List renaming getElem_toArray -> lA, getElem_cons_succ -> lB, getElem_cons_zero -> lC, setIfInBounds_toArray -> lD, set_cons_zero -> lE, set_cons_succ -> lF
open World renaming block_lt_of_cell? -> lG
section
open Go.RowKit Go.Maps
section
variable {w:World}{P B q c:Nat}{G F:Nat->Prop}{v:GV}{ls:List LsV}{ops:List OpV}{fl:Bool}{ah:Int}
theorem VC {R:List StkR}(n:Int)(w:World)(h:StoreOk w B F R ls ops fl ah) :
  Calls Tryz.prog 33 #[.pointer (some ⟨B,0,none⟩),.int .i64 n] w fun e w'=>e=.returned (.tuple #[])/\StoreOk w' B F R ls ops (decide (0<=n)) n/\Turn (fun b=>b=B) w w'/\F B:=by
 obtain⟨sv,lv,dv,kn,h1⟩:=h.ex;refine(Xg n w h1).mono ?_;rintro e w' ⟨rfl,h2,h3⟩;exact⟨rfl,⟨⟨sv,lv,dv,kn,h2⟩,h.kinds⟩,h3,h1.fB⟩
theorem GameOf.arm {S:List Stk}(h:GameOf w P B G v q S ls ops c)(ar':Bool)(fi':Int) :
  GameOf ((w.setCell ⟨P,5,none⟩ (.bool ar')).setCell ⟨P,6,none⟩ (.int .i64 fi')) P B G { v with ar:=ar',fi:=fi' } q S ls ops c/\GStep (fun b=>w.heap.size<=b) w ((w.setCell ⟨P,5,none⟩ (.bool ar')).setCell ⟨P,6,none⟩ (.int .i64 fi')) P v { v with ar:=ar',fi:=fi' } G G:=by
 have hb:=h.blk;unfold Zp at hb;have hb2:((w.setCell ⟨P,5,none⟩ (.bool ar')).setCell ⟨P,6,none⟩ (.int .i64 fi')).heap[P]?=some (.cells #[.pointer (some ⟨B,0,none⟩),v.wv,.slice none 0 0,v.ov,v.pv,.bool ar',.int .i64 fi',v.bW,v.bS,v.bL,v.bO] 94 (0,0)):=zg (zg hb _) _;have hT:Turn (fun b=>b=P\/v.pv.ownBlock=some b) w ((w.setCell ⟨P,5,none⟩ (.bool ar')).setCell ⟨P,6,none⟩ (.int .i64 fi')):=lQ (S:=fun b=>b=P\/v.pv.ownBlock=some b) (p:=⟨P,6,none⟩) (lQ (S:=fun b=>b=P\/v.pv.ownBlock=some b) (p:=⟨P,5,none⟩) (Turn.refl _ w) (fun _=>.inl rfl) _) (fun _=>.inl rfl) _;have hGt:∀b,G b->¬(b=P\/v.pv.ownBlock=some b):=fun b hb hor=>hor.elim (fun e=>h.apart b (.inl e) hb) (fun e=>h.apart b (.inr (.inl e)) hb)
 obtain⟨np,hnp,css,hpo,hcl,hpi⟩:=h.prow;have hPP:v.pv.ownBlock≠some P:=Zk (B:=P) hb hpo (by decide);have hpr:PartRow ((w.setCell ⟨P,5,none⟩ (.bool ar')).setCell ⟨P,6,none⟩ (.int .i64 fi')) G v.pv np:=⟨css,zi (zi hpo hPP _) hPP _,hcl,fun cc hcc=>(hpi cc hcc).turn hT hGt⟩
 exact h.upd (ar':=ar') (fi':=fi') (wv':=v.wv) (pv':=v.pv) (c':=c) hT (by rw [hb2];rfl) (fun b hb=>hb) (fun b hb=>.inl hb) (h.wrow.turn hT hGt) (h.ref.turn hT hGt) hpr hnp (Nat.le_refl _) (fun b hb=>.inl hb)
end
theorem UY {w:World}{P B N0 c:Nat}(h:Live w P B N0 c)(sk sa:Int)(hk:sk=6)(hsa:sa<=9223372036854775807)(x2 x3 x4 x5 x6 x7 x8 x9 x10 x11 x12 x13 x14 x15 x16 x17 x18 x19 x20:Value) :
  Calls Tryz.prog 42 #[.pointer (some ⟨P,0,none⟩),.agg #[.int .i64 sk,.int .i64 sa,x2,x3,x4,x5,x6,x7,x8,x9,x10,x11,x12,x13,x14,x15,x16,x17,x18,x19,x20]] w fun e w'=>e=.returned (.bool true)/\Live w' P B N0 (c+3)/\Turn (fun b=>N0<=b) w w':=by
 obtain⟨G,v,q,R,ls,F,ops,fl,ah,h⟩:=h;have HL:=hid h;have hPF:¬F P:=fun e=>(h.far P e).2 (.inl rfl)
 have HPF:=hid hPF;have HFa:Hd (∀w',Ext w w'->_):=fun w' hx=>VC (R:=R) sa w' (h.store.ext hx)
 have hblk:=h.game.blk;have c0:w.cell? ⟨P,0,none⟩=some (.pointer (some ⟨B,0,none⟩)):=zc hblk rfl;have hPl:=lG w _ c0;have HB:=hid hblk;have HSA:=hid hsa;have hk1:(sk == 1)=false:=by rw [hk];rfl
 have hk2:(sk == 2)=false:=by rw [hk];rfl
 have hk3:(sk == 3)=false:=by rw [hk];rfl
 have hk4:(sk == 4)=false:=by rw [hk];rfl
 have hk5:(sk == 5)=false:=by rw [hk];rfl
 have hk6:(sk == 6)=true:=by rw [hk];rfl
 clear hk hsa h hPF hblk;go_enter func42,ntmps42;go_wp2_with fail
 have hsb:(w.alloc (.cells #[.int .i64 sk,.int .i64 sa,x2,x3,x4,x5,x6,x7,x8,x9,x10,x11,x12,x13,x14,x15,x16,x17,x18,x19,x20] 103)).heap[w.heap.size]?=some (.cells #[.int .i64 sk,.int .i64 sa,x2,x3,x4,x5,x6,x7,x8,x9,x10,x11,x12,x13,x14,x15,x16,x17,x18,x19,x20] 103 (0,0)):=heap_alloc_new _ _;have HXW:Hd (Ext w (w.alloc (.cells #[.int .i64 sk,.int .i64 sa,x2,x3,x4,x5,x6,x7,x8,x9,x10,x11,x12,x13,x14,x15,x16,x17,x18,x19,x20] 103))):=(lI w).alloc _;generalize lP w _=W at hsb HXW ⊢;have HSB:=hid hsb;have s0:W.cell? ⟨w.heap.size,0,none⟩=some (.int .i64 sk):=zc hsb rfl;have s1:W.cell? ⟨w.heap.size,1,none⟩=some (.int .i64 sa):=zc hsb rfl;have c0W:=HXW.o.cell c0;have hsl:=lG W _ s0;have hPlW:=lG W _ c0W;clear hsb c0;go_wp2_with fail
 have HS0:Hd (∀w',Ext W w'->w'.cell? ⟨P,0,none⟩=some (.pointer (some ⟨B,0,none⟩))/\w'.cell? ⟨w.heap.size,1,none⟩=some (.int .i64 sa)):=fun w' hx=>⟨hx.cell c0W,hx.cell s1⟩
 refine wp_region_held_drew (S:=(fun w'=>w'.cell? ⟨P,0,none⟩=some (.pointer (some ⟨B,0,none⟩))/\w'.cell? ⟨w.heap.size,1,none⟩=some (.int .i64 sa))) (by kernel_rfl) ⟨c0W,s1⟩ (fun hHeld=>?_);refine zT 0 hHeld ?_;refine zT 1 hHeld ?_;refine zT 2 hHeld ?_;refine zT 3 hHeld ?_;refine zT 4 hHeld ?_;refine zT 5 hHeld ?_
 try simp only [Act.put,lA,lB,lC,lD,lE,lF]
 refine zR 6 fun K hK=>?_
 (try simp only [lA,lB,lC])
 go_simp;refine(HFa.o _ (lJ HXW.o)).mono ?_;rintro e w1 ⟨rfl,hs1,ht1,hFB⟩;have hPB:P≠B:=fun e=>HPF.o (by rw [e];exact hFB)
 have hsF:¬F w.heap.size:=fun e=>by have:=HL.o.store.lt _ e;omega
 have hsB:w.heap.size≠B:=fun e=>hsF (by rw [e];exact hFB)
 have HST1:=hid hs1;have HT1:Hd (Turn F w w1):=(Turn.of_ext (lJ HXW.o)).trans (ht1.mono (fun b _ e=>by rw [e];exact hFB));have hg1:GameOf w1 P B G v q (R.map StkR.abs) ls ops c:=HL.o.game.turn HT1.o (fun b hb e=>(HL.o.far b e).1 hb) (fun b hb e=>(HL.o.far b e).2 hb);have HG1:=hid hg1;have HAR:Hd _:=hg1.arm (decide (0<=sa)) sa;have s11:w1.cell? ⟨w.heap.size,1,none⟩=some (.int .i64 sa):=zc (ht1.ref (zy HSB.o) hsB) rfl;have hb1:=hg1.blk;unfold Zp at hb1;have c5:w1.cell? ⟨P,5,none⟩=some (.bool v.ar):=zc hb1 rfl;have f5:=ze hb1 5;have hb2:(w1.setCell ⟨P,5,none⟩ (.bool (decide (0<=sa)))).heap[P]?=some (.cells #[.pointer (some ⟨B,0,none⟩),v.wv,.slice none 0 0,v.ov,v.pv,.bool (decide (0<=sa)),.int .i64 v.fi,v.bW,v.bS,v.bL,v.bO] 94 (0,0)):=zg hb1 _;have c6:(w1.setCell ⟨P,5,none⟩ (.bool (decide (0<=sa)))).cell? ⟨P,6,none⟩=some (.int .i64 v.fi):=zc hb2 rfl;have f6:=ze hb2 6;have hsP:w.heap.size≠P:=by omega
 have s12:(w1.setCell ⟨P,5,none⟩ (.bool (decide (0<=sa)))).cell? ⟨w.heap.size,1,none⟩=some (.int .i64 sa):=by exact(World.cell?_setCell_far _ _ _ _ (fun e=>hsP e.symm)).trans s11
 have hPl1:=lG w1 _ c5;have hsl1:=lG w1 _ s11;have hPne:B≠P:=fun e=>hPB e.symm
 refine hK.out _ _ ?hc2 (fun hHeld=>?_)
 case hc2=>exact⟨zc hb1 rfl,s11⟩
 clear hK K hs1 ht1 hFB hPB hsF hsB hg1 hb1 hb2 s0 s1 c0W hPne
 try simp only [Act.put,lA,lB,lC,lD,lE,lF]
 refine wpAnyH_done (by kernel_rfl) ?_ _;clear hHeld;go_wp2;go_ret;have hst:=HST1.o.step HAR.o.2 HL.o.far (fun b hb hl=>by have:=HST1.o.lt b hb;omega);have hT:=HAR.o.2.turn;have hsz:=HT1.o.size;refine⟨rfl,HL.o.next (new:=[]) (c':=c+3) (by omega) (by rw [rL];exact HAR.o.1.count (by omega)) (by rw [rL];exact hst.1) hst.2 (by simp) ⟨?_,fun b hb=>.inl hb,fun b hb=>(HAR.o.2.own b hb).imp id (fun hl=>by omega)⟩ ⟨rfl,fun _=>rfl⟩ (fun hf=>⟨by simpa using hf,HSA.o⟩) HL.o.inv⟩;exact(HT1.o.mono (fun b _ hb=>.inl hb)).trans' hT (fun b hb hor=>hor.elim .inr (fun hl=>by omega))
end
section
open Go.RowKit
def zF (code frm cnt:Int)(zs:List Nat):List UInt8:=Zz code 1++Zz frm 4++Zz cnt 4++zs.flatMap fun z=>zG z 8
theorem xb (zs:List Nat):(zs.flatMap fun z=>zG z 8).length=8*zs.length:=by
 induction zs with
 | nil=>rfl
 | cons z t ih=>simp [ZG] at ih ⊢;omega
theorem KZ (base n g cap:Nat)(l:List UInt8)(x:Int)(sz:Nat)(hs:sz<=8)(hn1:1<=n+sz)(w:World)
  (hown:w.ownsRow base 5 1 (.slice (some ⟨g,0,none⟩) n cap) n (Ze l)) (hb:base<=w.heap.size) (hn:n+sz<=140737488355328) :
  Calls Tryz.prog 86 #[.slice (some ⟨g,0,none⟩) n cap,.int .u64 (IntKind.u64.wrap x),.int .i64 (sz:Int)] w fun e w'=>
   ∃g' cap',e=.returned (.slice (some ⟨g',0,none⟩) (n+sz) cap')/\w'.ownsRow base 5 1 (.slice (some ⟨g',0,none⟩) (n+sz) cap') (n+sz) (Ze (l++Zz x sz))/\Below base w w'/\Keeps w w':=by
 have h:=jQ base n g cap l (x % 18446744073709551616).toNat sz hs hn1 (by omega) w hown hb hn;rw [Int.toNat_of_nonneg (by omega),<-IntKind.wrap_u64] at h;exact h
theorem KY (base n m g cap:Nat)(hm:m=n+1)(l:List UInt8)(x:Int)(w:World)
  (hown:w.ownsRow base 5 1 (.slice (some ⟨g,0,none⟩) n cap) n (Ze l)) (hb:base<=w.heap.size) (hn:m<=140737488355328) :
  Calls Tryz.prog 86 #[.slice (some ⟨g,0,none⟩) n cap,.int .u64 (IntKind.u64.wrap x),.int .i64 1] w fun e w'=>
   ∃g' cap',e=.returned (.slice (some ⟨g',0,none⟩) m cap')/\w'.ownsRow base 5 1 (.slice (some ⟨g',0,none⟩) m cap') m (Ze (l++Zz x 1))/\Below base w w'/\Keeps w w':=by
 subst hm;exact KZ base n g cap l x 1 (by decide) (by omega) w hown hb hn
theorem jW (base n m g cap:Nat)(hm:m=n+4)(l:List UInt8)(x:Int)(w:World)
  (hown:w.ownsRow base 5 1 (.slice (some ⟨g,0,none⟩) n cap) n (Ze l)) (hb:base<=w.heap.size) (hn:m<=140737488355328) :
  Calls Tryz.prog 86 #[.slice (some ⟨g,0,none⟩) n cap,.int .u64 (IntKind.u64.wrap x),.int .i64 4] w fun e w'=>
   ∃g' cap',e=.returned (.slice (some ⟨g',0,none⟩) m cap')/\w'.ownsRow base 5 1 (.slice (some ⟨g',0,none⟩) m cap') m (Ze (l++Zz x 4))/\Below base w w'/\Keeps w w':=by
 subst hm;exact KZ base n g cap l x 4 (by decide) (by omega) w hown hb hn
theorem Ga (base n m g cap:Nat)(hm:m=n+8)(l:List UInt8)(x:Nat)(hx:x<=18446744073709551615)(w:World)
  (hown:w.ownsRow base 5 1 (.slice (some ⟨g,0,none⟩) n cap) n (Ze l)) (hb:base<=w.heap.size) (hn:m<=140737488355328) :
  Calls Tryz.prog 86 #[.slice (some ⟨g,0,none⟩) n cap,.int .u64 (x:Int),.int .i64 8] w fun e w'=>
   ∃g' cap',e=.returned (.slice (some ⟨g',0,none⟩) m cap')/\w'.ownsRow base 5 1 (.slice (some ⟨g',0,none⟩) m cap') m (Ze (l++zG x 8))/\Below base w w'/\Keeps w w':=by
 subst hm;exact jQ base n g cap l x 8 (by decide) (by omega) hx w hown hb hn
theorem Z2 {W:World}{g:Nat}{t:TypeId}{a b c d:Value}(h:W.heap[g]?=some (.cells #[a,b,c,d] t (0,0))) :
  g<W.heap.size/\W.cell? ⟨g,0,none⟩=some a/\W.cell? ⟨g,1,none⟩=some b/\W.cell? ⟨g,2,none⟩=some c/\W.cell? ⟨g,3,none⟩=some d:=
 ⟨(Array.getElem?_eq_some_iff.1 h).1,zc h rfl,zc h rfl,zc h rfl,zc h rfl⟩
theorem Xc (code frm cnt:Int)(b off len cap:Nat)(zs:List Nat)(hl:len=zs.length)(hreach:len*8<=140737488351232)(w:World)
  (hz:∀i,i<len->w.cell? ⟨b,off+i,none⟩=some (.int .u64 (zs.getD i 0:Nat))) (hzb:∀z∈zs,z<=18446744073709551615) :
  Calls Tryz.prog 59 #[.agg #[.int .i64 code,.int .i64 frm,.int .i64 cnt,.slice (some ⟨b,off,none⟩) len cap]] w fun e w'=>e=.returned (.string ⟨(zF code frm cnt zs).toArray⟩)/\Ext w w':=by
 obtain⟨i0,hi,hz0,hz1,hz2⟩:=info_parts Q6;have HZ:=hid hz;have HZB:=hid hzb;have HL:=hid hl;have hlen:len*8<=140737488351232:=by omega
 clear hz hzb hl;go_enter func59,ntmps59;go_wp2_with (at_make;refine wpList_make_own _ rfl _ _ 136 rfl w.heap.size 5 i0 _ 1 underlying136 hi hz0 hz1 _ _ _ (9+8*len) rfl rfl (by omega) ?m1 ?m2 ?m3 ?_)
 case m1=>rw [hz2];omega
 case m2=>unfold maxLen;omega
 case m3=>simp
 intro w1 ho1 hg1;have hx1:Ext w w1:=rG ((lI w).alloc _) hg1 (fun k h=>by cases h);have hr1:w1.heap[w.heap.size]?=some (.cells #[.int .i64 code,.int .i64 frm,.int .i64 cnt,.slice (some ⟨b,off,none⟩) len cap] 33 (0,0)):=(hg1.block _ (by simp) (by simp)).trans (zm rfl);obtain⟨q0,q1,q2,q3,q4⟩:=Z2 hr1;have HR1:Hd _:=hr1;have HO1:Hd (w1.ownsRow w.heap.size 5 1 (.slice (some ⟨w.heap.size+1,0,none⟩) 0 (9+8*len)) 0 (Ze [])):=by
  refine⟨rfl,?_⟩;rcases ho1.2 with⟨h,_⟩|h
  ·simp at h
  ·exact .inr h
 clear hr1 ho1 hg1;have hsz1:=hx1.le;go_wp2_with fail
 refine(KY w.heap.size 0 1 _ _ rfl [] code _ HO1.o hsz1 (by omega)).mono ?_;rintro e w2 ⟨g2,cap2,rfl,ho2,hb2,hk2⟩;have hr2:=hk2.block _ _ _ _ HR1.o (by decide);obtain⟨q0,q1,q2,q3,q4⟩:=Z2 hr2;have hx2:Ext w w2:=Below.trans hx1 hb2;have hsz2:=hx2.le;have HO2:Hd _:=ho2;have HR2:Hd _:=hr2;clear hr2 ho2 hb2 hk2;go_wp2_with fail
 refine(jW w.heap.size 1 5 _ _ rfl _ frm _ HO2.o hsz2 (by omega)).mono ?_;rintro e w3 ⟨g3,cap3,rfl,ho3,hb3,hk3⟩;have hr3:=hk3.block _ _ _ _ HR2.o (by decide);obtain⟨q0,q1,q2,q3,q4⟩:=Z2 hr3;have hx3:Ext w w3:=Below.trans hx2 hb3;have hsz3:=hx3.le;have HO3:Hd _:=ho3;have HR3:Hd _:=hr3;clear hr3 ho3 hb3 hk3;go_wp2_with fail
 refine(jW w.heap.size 5 9 _ _ rfl _ cnt _ HO3.o hsz3 (by omega)).mono ?_;rintro e w4 ⟨g4,cap4,rfl,ho4,hb4,hk4⟩;have hr4:=hk4.block _ _ _ _ HR3.o (by decide);obtain⟨q0,q1,q2,q3,q4⟩:=Z2 hr4;have hx4:Ext w w4:=Below.trans hx3 hb4;have hsz4:=hx4.le;have HO4:Hd (w4.ownsRow w.heap.size 5 1 (.slice (some ⟨g4,0,none⟩) 9 cap4) 9 (Ze (zF code frm cnt (zs.take 0)))):=by
  have e:zF code frm cnt (zs.take 0)=[]++Zz code 1++Zz frm 4++Zz cnt 4:=by simp [zF]
  rw [e];exact ho4
 clear hr4 ho4 hb4 hk4;go_wp2
 go_loopw [3,5,30] (fun u _ i wr=>∃(k g' cap':Nat),k<=len/\u=.slice (some ⟨g',0,none⟩) (9+8*k) cap'/\i=.int .i64 k/\wr.ownsRow w.heap.size 5 1 (.slice (some ⟨g',0,none⟩) (9+8*k) cap') (9+8*k) (Ze (zF code frm cnt (zs.take k)))/\Ext w wr) (fun _ _ i _=>len - (intOf i).toNat)
 case atStart=>exact⟨0,g4,cap4,lT _,rfl,rfl,HO4.o,hx4⟩
 case round=>
  obtain⟨k,g',cap',hk,rfl,rfl,hor,hxr⟩:=hrel;have HOR:Hd _:=hor;clear hor;by_cases hlt:k<len
  ·have hkl:k<zs.length:=by have:=HL.o;omega
   have e0:wr.cell? ⟨b,off+k,none⟩=some (.int .u64 ((zs[k]:Nat):Int)):=by have h:=hxr.cell (HZ.o k hlt);rw [List.getD_eq_getElem?_getD,List.getElem?_eq_getElem hkl] at h;exact h
   have hzk:=HZB.o zs[k] (List.getElem_mem hkl);have HT:Hd (zF code frm cnt (zs.take (k+1))=zF code frm cnt (zs.take k)++zG zs[k] 8):=by
    show zF code frm cnt (zs.take (k+1))=_
    rw [rV hkl];simp only [zF,List.flatMap_append,List.flatMap_cons,List.flatMap_nil,rL,List.append_assoc]
   have HZK:=hid hzk;clear hzk;generalize zs[k]=z at *;have hszr:=hxr.le;go_wp2_with (go_at_call 86;refine(Ga w.heap.size (9+8*k) (9+8*(k+1)) g' cap' (by omega) _ z HZK.o _ HOR.o hszr (by omega)).mono ?_;rintro e w5 ⟨g5,cap5,rfl,ho5,hb5,hk5⟩)
   have R1:w5.ownsRow w.heap.size 5 1 (.slice (some ⟨g5,0,none⟩) (9+8*(k+1)) cap5) (9+8*(k+1)) (Ze (zF code frm cnt (zs.take (k+1)))):=by rw [HT.o];exact ho5
   have R2:Ext w w5:=Below.trans hxr hb5;clear ho5 hb5 hk5
   go_roundw
   case rel=>exact⟨k+1,g5,cap5,by omega,rfl,by go_num,R1,R2⟩
   case measure=>simp [intOf];omega
  ·obtain rfl:len=k:=by omega
   have eT:zs.take len=zs:=rM (by have:=HL.o;omega);have hcv:=YG (l:=zF code frm cnt (zs.take len)) (by rw [eT];simp only [zF,lW,Zd,xb];have:=HL.o;omega) HOR.o;rw [eT] at hcv;clear eT;go_wp2;go_ret;exact⟨rfl,hxr⟩
end
section
open Go.RowKit
theorem vf (code frm cnt:Int)(a:Option Addr)(len cap:Nat)(zs:List Nat)(h0:len=0)(hl:len=zs.length)(_hreach:len*8<=140737488351232)(w:World) :
  Calls Tryz.prog 59 #[.agg #[.int .i64 code,.int .i64 frm,.int .i64 cnt,.slice a len cap]] w fun e w'=>e=.returned (.string ⟨(zF code frm cnt zs).toArray⟩)/\Ext w w':=by
 obtain⟨i0,hi,hz0,hz1,hz2⟩:=info_parts Q6;have HL0:=hid h0;have HL:=hid hl;have hlen:len*8<=140737488351232:=by omega
 clear hl h0;go_enter func59,ntmps59;go_wp2_with (at_make;refine wpList_make_own _ rfl _ _ 136 rfl w.heap.size 5 i0 _ 1 underlying136 hi hz0 hz1 _ _ _ (9+8*len) rfl rfl (by omega) ?m1 ?m2 ?m3 ?_)
 case m1=>rw [hz2];omega
 case m2=>unfold maxLen;omega
 case m3=>simp
 intro w1 ho1 hg1;have hx1:Ext w w1:=rG ((lI w).alloc _) hg1 (fun k h=>by cases h);have hr1:w1.heap[w.heap.size]?=some (.cells #[.int .i64 code,.int .i64 frm,.int .i64 cnt,.slice a len cap] 33 (0,0)):=(hg1.block _ (by simp) (by simp)).trans (zm rfl);obtain⟨q0,q1,q2,q3,q4⟩:=Z2 hr1;have HR1:Hd _:=hr1;have HO1:Hd (w1.ownsRow w.heap.size 5 1 (.slice (some ⟨w.heap.size+1,0,none⟩) 0 (9+8*len)) 0 (Ze [])):=by
  refine⟨rfl,?_⟩;rcases ho1.2 with⟨h,_⟩|h
  ·simp at h
  ·exact .inr h
 clear hr1 ho1 hg1;have hsz1:=hx1.le;go_wp2_with fail
 refine(KY w.heap.size 0 1 _ _ rfl [] code _ HO1.o hsz1 (by omega)).mono ?_;rintro e w2 ⟨g2,cap2,rfl,ho2,hb2,hk2⟩;have hr2:=hk2.block _ _ _ _ HR1.o (by decide);obtain⟨q0,q1,q2,q3,q4⟩:=Z2 hr2;have hx2:Ext w w2:=Below.trans hx1 hb2;have hsz2:=hx2.le;have HO2:Hd _:=ho2;have HR2:Hd _:=hr2;clear hr2 ho2 hb2 hk2;go_wp2_with fail
 refine(jW w.heap.size 1 5 _ _ rfl _ frm _ HO2.o hsz2 (by omega)).mono ?_;rintro e w3 ⟨g3,cap3,rfl,ho3,hb3,hk3⟩;have hr3:=hk3.block _ _ _ _ HR2.o (by decide);obtain⟨q0,q1,q2,q3,q4⟩:=Z2 hr3;have hx3:Ext w w3:=Below.trans hx2 hb3;have hsz3:=hx3.le;have HO3:Hd _:=ho3;have HR3:Hd _:=hr3;clear hr3 ho3 hb3 hk3;go_wp2_with fail
 refine(jW w.heap.size 5 9 _ _ rfl _ cnt _ HO3.o hsz3 (by omega)).mono ?_;rintro e w4 ⟨g4,cap4,rfl,ho4,hb4,hk4⟩;have hr4:=hk4.block _ _ _ _ HR3.o (by decide);obtain⟨q0,q1,q2,q3,q4⟩:=Z2 hr4;have hx4:Ext w w4:=Below.trans hx3 hb4;have hsz4:=hx4.le;have HO4:Hd (w4.ownsRow w.heap.size 5 1 (.slice (some ⟨g4,0,none⟩) 9 cap4) 9 (Ze (zF code frm cnt (zs.take 0)))):=by
  have e:zF code frm cnt (zs.take 0)=[]++Zz code 1++Zz frm 4++Zz cnt 4:=by simp [zF]
  rw [e];exact ho4
 clear hr4 ho4 hb4 hk4;go_wp2
 go_loopw [3,5,30] (fun u _ i wr=>∃(k g' cap':Nat),k<=len/\u=.slice (some ⟨g',0,none⟩) (9+8*k) cap'/\i=.int .i64 k/\wr.ownsRow w.heap.size 5 1 (.slice (some ⟨g',0,none⟩) (9+8*k) cap') (9+8*k) (Ze (zF code frm cnt (zs.take k)))/\Ext w wr) (fun _ _ i _=>len - (intOf i).toNat)
 case atStart=>exact⟨0,g4,cap4,lT _,rfl,rfl,HO4.o,hx4⟩
 case round=>
  obtain⟨k,g',cap',hk,rfl,rfl,hor,hxr⟩:=hrel;have HOR:Hd _:=hor;clear hor;by_cases hlt:k<len
  ·have:=HL0.o;omega
  ·obtain rfl:len=k:=by omega
   have eT:zs.take len=zs:=rM (by have:=HL.o;omega);have hcv:=YG (l:=zF code frm cnt (zs.take len)) (by rw [eT];simp only [zF,lW,Zd,xb];have:=HL.o;omega) HOR.o;rw [eT] at hcv;clear eT;go_wp2;go_ret;exact⟨rfl,hxr⟩
end
section
open Go.RowKit
def WordsIn (w:World)(a:Option Addr)(len:Nat)(zs:List Nat):Prop:=
 len=zs.length/\len*8<=140737488351232/\(∀z∈zs,z<=18446744073709551615)/\
 (len=0\/∃b off,a=some ⟨b,off,none⟩/\∀i,i<len->w.cell? ⟨b,off+i,none⟩=some (.int .u64 (zs.getD i 0:Nat)))
theorem uw (code frm cnt:Int)(a:Option Addr)(len cap:Nat)(zs:List Nat)(w:World)(h:WordsIn w a len zs) :
  Calls Tryz.prog 59 #[.agg #[.int .i64 code,.int .i64 frm,.int .i64 cnt,.slice a len cap]] w fun e w'=>e=.returned (.string ⟨(zF code frm cnt zs).toArray⟩)/\Ext w w':=by
 obtain⟨h1,h2,h4,h5⟩:=h;rcases h5 with h5|⟨b,off,rfl,h5⟩
 ·exact vf code frm cnt a len cap zs h5 h1 h2 w
 ·exact Xc code frm cnt b off len cap zs h1 h2 w h5 h4
theorem WordsIn.ext {w w':World}{a:Option Addr}{len:Nat}{zs:List Nat}(h:WordsIn w a len zs)(hx:Ext w w'):WordsIn w' a len zs:=by
 obtain⟨h1,h2,h4,h5⟩:=h;refine⟨h1,h2,h4,?_⟩;rcases h5 with h5|⟨b,off,rfl,h5⟩
 ·exact .inl h5
 ·exact .inr ⟨b,off,rfl,fun i hi=>hx.cell (h5 i hi)⟩
end
section
open Go.RowKit
def YK (x:Nat×Int×Int)(r:List UInt8):Option (Nat×List UInt8):=
 if r.length<x.2.1.toNat then none else if x.2.2<(be (r.take x.2.1.toNat):Int) then none else some (be (r.take x.2.1.toNat),r.drop x.2.1.toNat)
def zK:List (Nat×Int×Int)->List UInt8->Option (List Nat×List UInt8)
 | [],r=>some ([],r)
 | x::t,r=>(YK x r).bind fun p=>(zK t p.2).map fun q=>(p.1::q.1,q.2)
theorem UD (l:List (Nat×Int×Int))(x:Nat×Int×Int)(r:List UInt8):zK (l++[x]) r=(zK l r).bind fun q=>(YK x q.2).map fun p=>(q.1++[p.1],p.2):=by
 induction l generalizing r with
 | nil=>simp only [List.nil_append,zK,Option.bind_some];cases hs:YK x r<;>simp
 | cons y t ih=>
  simp only [List.cons_append,zK];cases YK y r with
  | none=>simp
  | some p=>simp only [Option.bind_some,ih];cases zK t p.2 with
   | none=>simp
   | some q=>simp;cases YK x q.2<;>simp
theorem jq (l:List (Nat×Int×Int))(k:Nat)(hk:k<=l.length)(r:List UInt8)(h:zK (l.take k) r=none):zK l r=none:=by
 induction l generalizing k r with
 | nil=>simp at hk;subst hk;simpa using h
 | cons y t ih=>
  cases k with
  | zero=>simp [zK] at h
  | succ k=>
   simp only [List.take_succ_cons,zK] at h ⊢;cases hs:YK y r with
   | none=>simp
   | some p=>
    rw [hs] at h;simp only [Option.bind_some,Option.map_eq_none_iff] at h ⊢;exact ih k (by simpa using hk) p.2 h
theorem YY (l:List (Nat×Int×Int))(r:List UInt8)(vs:List Nat)(r':List UInt8)(h:zK l r=some (vs,r')):vs.length=l.length:=by
 induction l generalizing r vs r' with
 | nil=>simp [zK] at h;simp [h.1]
 | cons y t ih=>
  simp only [zK] at h;cases hs:YK y r with
  | none=>rw [hs] at h;simp at h
  | some p=>
   rw [hs] at h;simp only [Option.bind_some,Option.map_eq_some_iff] at h;obtain⟨q,hq,he⟩:=h;simp at he;rw [<-he.1];simp [ih p.2 q.1 q.2 hq]
def JP (vs:List Nat):List Value:=vs.map fun (n:Nat)=>Value.int .i64 (n:Int)
def Z8 (vs:List Nat)(m:Nat):Array Value:=(JP vs++List.replicate (m - vs.length) (Value.int .i64 0)).toArray
theorem uU (vs:List Nat)(m:Nat)(v:Nat)(h:vs.length<m):(Z8 vs m).setIfInBounds vs.length (.int .i64 (v:Int))=Z8 (vs++[v]) m:=by
 have e:m - vs.length=(m - (vs.length+1))+1:=by omega
 have hl:(JP vs).length=vs.length:=by simp [JP]
 apply Array.ext';simp only [Z8,Array.toList_setIfInBounds];rw [e,List.replicate_succ,List.set_append,hl,if_neg (by omega),Nat.sub_self,lE];simp [JP]
theorem X6 {x:Nat×Int×Int}{r:List UInt8}(h:r.length<x.2.1.toNat\/x.2.2<(be (r.take x.2.1.toNat):Int)):YK x r=none:=by
 unfold YK;rcases h with h|h
 ·rw [if_pos h]
 ·by_cases h':r.length<x.2.1.toNat
  ·rw [if_pos h']
  ·rw [if_neg h',if_pos h]
theorem vY {x:Nat×Int×Int}{r:List UInt8}(h:¬r.length<x.2.1.toNat)(h':¬x.2.2<(be (r.take x.2.1.toNat):Int)):YK x r=some (be (r.take x.2.1.toNat),r.drop x.2.1.toNat):=by unfold YK;rw [if_neg h,if_neg h']
theorem jn (t:ByteArray)(n:Nat):(t.extract 0 n).data.toList=t.data.toList.take n:=by simp [ByteArray.data_extract]
theorem Zq (t:ByteArray)(n:Nat):(t.extract n t.size).data.toList=t.data.toList.drop n:=by rw [ByteArray.data_extract,Array.toList_extract,List.extract_eq_drop_take',<-ByteArray.size_data,<-Array.length_toList];simp only [List.take_length]
theorem Ki (b g cap m base B:Nat)(tt:TypeId)(l:List (Nat×Int×Int))(s:ByteArray)(w:World)(hm:l.length=m)(hm2:m<=100)(htt:tt≠162)
  (hl:∀(k:Nat) (h:k<l.length),l[k].1=k/\1<=l[k].2.1/\l[k].2.1<=4/\0<=l[k].2.2/\l[k].2.2<=2147483647) (hs:s.size<=maxLen)
  (ho:w.ownsRow base 162 3 (.slice (some ⟨g,0,none⟩) m cap) m (fl b l)) (hb:w.heap[b]?=some (.cells (Z8 [] m) tt (0,0))) (hBb:B<=b) (_hBw:B<=w.heap.size) :
  Calls Tryz.prog 87 #[.slice (some ⟨g,0,none⟩) m cap,.string s] w fun e w'=>
   (∃vs,zK l s.data.toList=some (vs,[])/\e=.returned (.bool true)/\w'.heap[b]?=some (.cells (Z8 vs m) tt (0,0))/\Below B w w')\/
   ((∀vs,zK l s.data.toList≠some (vs,[]))/\e=.returned (.bool false)/\Below B w w'):=by
 obtain⟨cur,hg,hcur⟩:∃cur:Array Value,w.heap[g]?=some (.cells cur 162 (0,0))/\∀j,j<m*3->cur[j]?=(fl b l)[j]?:=by
  rcases ho.2 with⟨h0,_⟩|⟨g1,cap1,cur,h0,_,hh,_,_,_,ht⟩
  ·simp at h0
  ·simp only [Value.slice.injEq,Option.some.injEq,Addr.mk.injEq,and_true,true_and] at h0;obtain⟨rfl,rfl⟩:=h0;exact⟨cur,hh,fun j hj=>by rw [<-ht,List.getElem?_take,if_pos hj];simp⟩
 have hne:g≠b:=by intro e;rw [e,hb] at hg;simp at hg;exact htt hg.2
 have HG:=hid hg;have HC:=hid hcur;have HL:=hid hl;have HM:=hid hm;have HB0:=hid hb;clear ho hb hg hcur hl hm htt;go_enter func87,ntmps87;go_wp2
 go_loopw [1,4,6,7,10] (fun ss _ _ _ i wr=>∃(k:Nat) (t:ByteArray) (vs:List Nat),k<=m/\i=.int .i64 k/\ss=.string t/\t.size<=maxLen/\zK (l.take k) s.data.toList=some (vs,t.data.toList)/\wr.heap[b]?=some (.cells (Z8 vs m) tt (0,0))/\wr.heap[g]?=some (.cells cur 162 (0,0))/\Below B w wr) (fun _ _ _ _ i _=>m - (intOf i).toNat)
 case atStart=>exact⟨0,s,[],lT _,rfl,rfl,hs,rfl,HB0.o,HG.o,Below.refl _ _⟩
 case round=>
  obtain⟨k,t,vs,hk,rfl,rfl,ht,hd,hbr,hgr,hbel⟩:=hrel;have HD:=hid hd;have HBR:=hid hbr;have HGR:=hid hgr;unfold maxLen at ht;clear hd hbr hgr;by_cases hlt:k<m
  ·have hkl:k<l.length:=by have:=HM.o;omega
   obtain⟨f0,f1,f2⟩:=jU b l k hkl;have e0:wr.cell? ⟨g,k*3,none⟩=some (.pointer (some ⟨b,l[k].1,none⟩)):=zc HGR.o ((HC.o _ (by omega)).trans f0);have e1:wr.cell? ⟨g,k*3+1,none⟩=some (.int .i64 l[k].2.1):=zc HGR.o ((HC.o _ (by omega)).trans f1);have e2:wr.cell? ⟨g,k*3+2,none⟩=some (.int .i64 l[k].2.2):=zc HGR.o ((HC.o _ (by omega)).trans f2);obtain⟨hl0,hl1,hl2,hl3,hl4⟩:=HL.o k hkl;have HX:Hd (zK (l.take (k+1)) s.data.toList=(YK l[k] t.data.toList).map fun p=>(vs++[p.1],p.2)):=by
    show zK (l.take (k+1)) s.data.toList=_
    rw [rV hkl,UD,HD.o];rfl
   have HN:Hd (zK (l.take (k+1)) s.data.toList=none->∀vs,zK l s.data.toList≠some (vs,[])):=fun h vs h'=>by rw [jq l (k+1) (by omega) _ h] at h';simp at h'
   have HS1:Hd (t.data.toList.length<l[k].2.1.toNat\/l[k].2.2<(be (t.data.toList.take l[k].2.1.toNat):Int)->YK l[k] t.data.toList=none):=X6;have HS2:Hd (¬t.data.toList.length<l[k].2.1.toNat->¬l[k].2.2<(be (t.data.toList.take l[k].2.1.toNat):Int)->YK l[k] t.data.toList=some (be (t.data.toList.take l[k].2.1.toNat),t.data.toList.drop l[k].2.1.toNat)):=vY;have hgl:g<wr.heap.size:=lG wr _ e0;have hbl:b<wr.heap.size:=(Array.getElem?_eq_some_iff.1 HBR.o).1;have hvl:vs.length=k:=by have:=YY _ _ _ _ HD.o;rw [this,List.length_take];omega
   have HVL:=hid hvl;have efz:wr.frozen? ⟨b,k,none⟩=false:=frozen_of_row wr b k _ tt HBR.o;obtain⟨old,eold⟩:∃old,wr.cell? ⟨b,k,none⟩=some old:=by refine⟨_,zc HBR.o (Array.getElem?_eq_getElem ?_)⟩;simp [Z8,JP];omega
   obtain⟨sz,hsz⟩:∃sz:Nat,l[k].2.1=(sz:Int):=⟨l[k].2.1.toNat,by omega⟩
   rw [hl0] at e0;rw [hsz] at e1 hl1 hl2 HS1 HS2;rw [Int.toNat_natCast] at HS1 HS2;clear hsz f0 f1 f2 hl0 hvl;generalize l[k].2.2=mo at *;have hwr:IntKind.u64.wrap mo=mo:=by rw [IntKind.wrap_u64];omega
   have hts:t.data.toList.length=t.size:=by simp
   by_cases hsh:t.size<sz
   ·go_wp2;go_ret;refine .inr ⟨HN.o ?_,rfl,hbel.alloc (by have:=hbel.size;omega) _⟩;rw [HX.o,HS1.o (.inl (by omega))];rfl
   ·have HTK:=jn t sz;have hext:(t.extract 0 sz).size<=4:=by rw [ByteArray.size_extract];omega
    by_cases hbig:mo<(be (t.data.toList.take sz):Int)
    ·go_wp2_with (go_at_call 123;refine(kL (t.extract 0 sz) hext _).mono ?_;rw [HTK];rintro e w3 ⟨rfl,rfl⟩)
     go_ret;refine .inr ⟨HN.o ?_,rfl,hbel.alloc (by have:=hbel.size;omega) _⟩;rw [HX.o,HS1.o (.inr hbig)];rfl
    ·have hw3:wrap64 (be (t.data.toList.take sz):Int)=(be (t.data.toList.take sz):Int):=w64 (by omega) (by omega);have HHI:=Zq t sz;have hhs:(t.extract sz t.size).size<=9223372036854775807:=by rw [ByteArray.size_extract];omega
     have HY:Hd (zK (l.take (k+1)) s.data.toList=some (vs++[be (t.data.toList.take sz)],t.data.toList.drop sz)):=by
      show zK (l.take (k+1)) s.data.toList=_
      rw [HX.o,HS2.o (by omega) hbig];rfl
     have HW:Hd _:=HTK;clear HTK;have HW2:Hd _:=HHI;clear HHI;generalize hv:be (t.data.toList.take sz)=v at *;have HBE:=hid hv;clear hv;go_wp2_with (go_at_call 123;refine(kL (t.extract 0 sz) hext _).mono ?_;rw [HW.o,HBE.o];rintro e w3 ⟨rfl,rfl⟩)
     go_roundw
     case rel=>
      refine⟨k+1,t.extract sz t.size,vs++[v],by omega,by go_num,rfl,by unfold maxLen;exact hhs,?_,?_,?_,?_⟩
      ·rw [HY.o,HW2.o]
      ·have h1:=heap_setCell_same wr b k (Z8 vs m) tt (.int .i64 (v:Int)) HBR.o;have h2:=uU vs m v (by have:=HVL.o;omega);rw [HVL.o] at h2;rw [h2] at h1;exact zC h1
      ·exact zC ((Below.heap_setCell wr ⟨b,k,none⟩ _ g hne).trans HGR.o)
      ·exact(hbel.setCell hBb _).alloc (by have:=hbel.size;simp [World.setCell];omega) _
     case measure=>simp [intOf];omega
  ·obtain rfl:m=k:=by omega
   have HT:Hd (l.take m=l):=rM (by have:=HM.o;omega);go_wp2;go_ret;have hD:=HD.o;rw [HT.o] at hD;by_cases he:t.data.toList=[]
   ·refine .inl ⟨vs,by rw [hD,he],?_,HBR.o,hbel⟩;show Ending.returned (.bool t.toList.isEmpty)=_
    rw [ByteArray.toList_eq,he];rfl
   ·refine .inr ⟨fun vs' h=>?_,?_,hbel⟩
    ·rw [hD] at h;simp at h;exact he (by simpa using h.2)
    ·show Ending.returned (.bool t.toList.isEmpty)=_
     rw [ByteArray.toList_eq];cases hx:t.data.toList with
     | nil=>exact absurd hx he
     | cons _ _=>rfl
theorem Qp (b g cap m base B:Nat)(tt:TypeId)(l:List (Nat×Int×Int))(s:ByteArray)(w:World)(hm:l.length=m)(hm2:m<=100)(htt:tt≠162)
  (hl:∀(k:Nat) (h:k<l.length),l[k].1=k/\1<=l[k].2.1/\l[k].2.1<=4/\0<=l[k].2.2/\l[k].2.2<=2147483647) (hs:s.size<=maxLen)
  (ho:w.ownsRow base 162 3 (.slice (some ⟨g,0,none⟩) m cap) m (fl b l)) (hb:w.heap[b]?=some (.cells (Z8 [] m) tt (0,0))) (hBb:B<=b) (hBw:B<=w.heap.size) (vs:List Nat) (h:zK l s.data.toList=some (vs,[])) :
  Calls Tryz.prog 87 #[.slice (some ⟨g,0,none⟩) m cap,.string s] w fun e w'=>
   e=.returned (.bool true)/\w'.heap[b]?=some (.cells (Z8 vs m) tt (0,0))/\Below B w w':=
 (Ki b g cap m base B tt l s w hm hm2 htt hl hs ho hb hBb hBw).mono fun e w' hh=>by
  rcases hh with⟨vs',h1,h2,h3,h4⟩|⟨h1,_,_⟩
  ·rw [h] at h1;simp at h1;subst h1;exact⟨h2,h3,h4⟩
  ·exact absurd h (h1 vs)
theorem xX (b g cap m base B:Nat)(tt:TypeId)(l:List (Nat×Int×Int))(s:ByteArray)(w:World)(hm:l.length=m)(hm2:m<=100)(htt:tt≠162)
  (hl:∀(k:Nat) (h:k<l.length),l[k].1=k/\1<=l[k].2.1/\l[k].2.1<=4/\0<=l[k].2.2/\l[k].2.2<=2147483647) (hs:s.size<=maxLen)
  (ho:w.ownsRow base 162 3 (.slice (some ⟨g,0,none⟩) m cap) m (fl b l)) (hb:w.heap[b]?=some (.cells (Z8 [] m) tt (0,0))) (hBb:B<=b) (hBw:B<=w.heap.size) (h:∀vs,zK l s.data.toList≠some (vs,[])) :
  Calls Tryz.prog 87 #[.slice (some ⟨g,0,none⟩) m cap,.string s] w fun e w'=>e=.returned (.bool false)/\Below B w w':=
 (Ki b g cap m base B tt l s w hm hm2 htt hl hs ho hb hBb hBw).mono fun e w' hh=>by
  rcases hh with⟨vs',h1,h2,h3,h4⟩|⟨_,h2,h3⟩
  ·exact absurd h1 (h vs')
  ·exact⟨h2,h3⟩
end
section
open Go.RowKit
def szs:List (Nat×Int×Int)->Nat
 | []=>0
 | x::t=>x.2.1.toNat+szs t
def ZT:List (Nat×Int×Int)->List UInt8->List Nat
 | [],_=>[]
 | x::t,r=>be (r.take x.2.1.toNat)::ZT t (r.drop x.2.1.toNat)
def Zu:List (Nat×Int×Int)->List UInt8->Prop
 | [],_=>True
 | x::t,r=>(be (r.take x.2.1.toNat):Int)<=x.2.2/\Zu t (r.drop x.2.1.toNat)
theorem ZI (l:List (Nat×Int×Int))(r:List UInt8)(vs:List Nat):zK l r=some (vs,[])↔r.length=szs l/\vs=ZT l r/\Zu l r:=by
 induction l generalizing r vs with
 | nil=>simp [zK,szs,ZT,Zu];constructor<;>rintro ⟨h1,h2⟩<;>simp_all
 | cons x t ih=>
  simp only [zK,szs,ZT,Zu];by_cases h1:r.length<x.2.1.toNat
  ·rw [X6 (.inl h1)];simp;intro h;omega
  ·by_cases h2:x.2.2<(be (r.take x.2.1.toNat):Int)
   ·rw [X6 (.inr h2)];simp;intro _ _ h;omega
   ·rw [vY h1 h2];simp only [Option.bind_some,Option.map_eq_some_iff]
    constructor
    ·rintro ⟨q,hq,he⟩;simp at he;obtain⟨he1,he2⟩:=he;have:=(ih (r.drop x.2.1.toNat) q.1).1 (by rw [hq];rw [<-he2]);simp at this;refine⟨by omega,by rw [<-he1,this.2.1],by omega,this.2.2⟩
    ·rintro ⟨h3,h4,h5,h6⟩;refine⟨(ZT t (r.drop x.2.1.toNat),[]),(ih _ _).2 ⟨by simp;omega,rfl,h6⟩,by simp [h4]⟩
theorem yY (t:ByteArray)(j:Nat)(h:j<t.size):be ((t.data.toList.drop j).take 1)=(t[j]).toNat:=by
 have hl:j<t.data.toList.length:=by simpa using h
 rw [List.drop_eq_getElem_cons hl];simp [be]
 rfl
theorem Z7 {W:World}{g:Nat}{t:TypeId}{v0 v1 v2 v3 v4 v5 v6 v7 v8 v9:Value}(h:W.heap[g]?=some (.cells #[v0,v1,v2,v3,v4,v5,v6,v7,v8,v9] t (0,0))) :
  g<W.heap.size/\W.cell? ⟨g,0,none⟩=some v0/\W.cell? ⟨g,1,none⟩=some v1/\W.cell? ⟨g,2,none⟩=some v2/\W.cell? ⟨g,3,none⟩=some v3/\W.cell? ⟨g,4,none⟩=some v4/\W.cell? ⟨g,5,none⟩=some v5/\W.cell? ⟨g,6,none⟩=some v6/\W.cell? ⟨g,7,none⟩=some v7/\W.cell? ⟨g,8,none⟩=some v8/\W.cell? ⟨g,9,none⟩=some v9/\W.frozen? ⟨g,0,none⟩=false/\W.frozen? ⟨g,1,none⟩=false/\W.frozen? ⟨g,2,none⟩=false/\W.frozen? ⟨g,3,none⟩=false/\W.frozen? ⟨g,4,none⟩=false/\W.frozen? ⟨g,5,none⟩=false/\W.frozen? ⟨g,6,none⟩=false/\W.frozen? ⟨g,7,none⟩=false/\W.frozen? ⟨g,8,none⟩=false/\W.frozen? ⟨g,9,none⟩=false:=
 ⟨(Array.getElem?_eq_some_iff.1 h).1,zc h rfl,zc h rfl,zc h rfl,zc h rfl,zc h rfl,zc h rfl,zc h rfl,zc h rfl,zc h rfl,zc h rfl,frozen_of_row W g 0 _ t h,frozen_of_row W g 1 _ t h,frozen_of_row W g 2 _ t h,frozen_of_row W g 3 _ t h,frozen_of_row W g 4 _ t h,frozen_of_row W g 5 _ t h,frozen_of_row W g 6 _ t h,frozen_of_row W g 7 _ t h,frozen_of_row W g 8 _ t h,frozen_of_row W g 9 _ t h⟩
def QU {W:World}{g:Nat}(h:W.heap[g]?=some (.cells #[.int .i64 0,.int .i64 0,.int .i64 0,.int .i64 0,.int .i64 0,.int .i64 0,.int .i64 0,.int .i64 0,.int .i64 0,.int .i64 0] 51 (0,0))):=Z7 h
end
section
open Go.RowKit Go.Maps
theorem xv (B:Nat)(str:ByteArray)(w:World){M:World->World->Value->Int->Prop}{N:World->World->Int->Int->Int->Option Addr->Nat->Nat->List Nat->Prop}
  (hr:∀w',Ext w w'->Calls Tryz.prog 58 #[.string str] w' fun e w''=>∃iv ec,e=.returned (.tuple #[iv,.int .i64 ec])/\M w' w'' iv ec)
  (ha:∀w' w'' iv ec,Ext w w'->M w' w'' iv ec->Calls Tryz.prog 54 #[.pointer (some ⟨B,0,none⟩),iv,.int .i64 ec] w'' fun e w3=>∃c0 f0 n0 ra rl rc zs,e=.returned (.agg #[.int .i64 c0,.int .i64 f0,.int .i64 n0,.slice ra rl rc])/\N w'' w3 c0 f0 n0 ra rl rc zs/\WordsIn w3 ra rl zs) :
  Calls Tryz.prog 25 #[.pointer (some ⟨B,0,none⟩),.string str] w fun e w4=>∃w1 w2 w3 iv ec c0 f0 n0 ra rl rc zs,e=.returned (.string ⟨(zF c0 f0 n0 zs).toArray⟩)/\Ext w w1/\M w1 w2 iv ec/\N w2 w3 c0 f0 n0 ra rl rc zs/\Ext w3 w4:=by
 have HR:=hid hr;have HA:=hid ha;clear hr ha;go_enter func25,ntmps25;go_wp2_with fail
 refine(HR.o _ (lI w)).mono ?_;rintro e w1 ⟨iv,ec,rfl,hm⟩;have HM:=hid hm;clear hm;go_wp2_with fail
 refine(HA.o _ _ _ _ (lI w) HM.o).mono ?_;rintro e w2 ⟨c0,f0,n0,ra,rl,rc,zs,rfl,hn,hw⟩;have HN:=hid hn;have HW:=hid hw;clear hn hw;go_wp2_with fail
 refine(uw c0 f0 n0 ra rl rc zs _ HW.o).mono ?_;rintro e w3 ⟨rfl,hx⟩;have HX:=hid hx;clear hx;go_wp2;go_ret;exact⟨w,w1,w2,iv,ec,c0,f0,n0,ra,rl,rc,zs,rfl,lI w,HM.o,HN.o,HX.o⟩
theorem VN (P B:Nat)(str:ByteArray)(kk s i kd m k n f cc pp:Int)(w:World)(hc:w.cell? ⟨P,0,none⟩=some (.pointer (some ⟨B,0,none⟩))){M:World->World->ByteArray->Prop}{L:World->World->ByteArray->Int->Int->Int->Option Addr->Nat->Nat->Prop}{Fin:World->Prop}
  (hs:∀w',Ext w w'->Calls Tryz.prog 25 #[.pointer (some ⟨B,0,none⟩),.string str] w' fun e w''=>∃t,e=.returned (.string t)/\M w' w'' t)
  (hr:∀w',Calls Tryz.prog 107 #[.string str] w' fun e w''=>e=.returned (.tuple #[.agg #[.int .i64 kk,.int .i64 s,.int .i64 i,.int .i64 kd,.int .i64 m,.int .i64 k,.int .i64 n,.int .i64 f,.int .i64 cc,.int .i64 pp],.int .i64 0])/\Ext w' w'')
  (hp:∀w1 w2 w3 t,Ext w w1->M w1 w2 t->Ext w2 w3->Calls Tryz.prog 108 #[.string t] w3 fun e w4=>∃c0 f0 n0 ra zl rc,e=.returned (.tuple #[.agg #[.int .i64 c0,.int .i64 f0,.int .i64 n0,.slice ra zl rc],.bool true])/\Ext w3 w4/\L w3 w4 t c0 f0 n0 ra zl rc)
  (ha:∀w1 w2 w3 w4 w5 t c0 f0 n0 ra zl rc,Ext w w1->M w1 w2 t->Ext w2 w3->L w3 w4 t c0 f0 n0 ra zl rc->Ext w3 w4->Ext w4 w5->Calls Tryz.prog 105 #[.pointer (some ⟨P,0,none⟩),.agg #[.int .i64 kk,.int .i64 s,.int .i64 i,.int .i64 kd,.int .i64 m,.int .i64 k,.int .i64 n,.int .i64 f,.int .i64 cc,.int .i64 pp],.agg #[.int .i64 c0,.int .i64 f0,.int .i64 n0,.slice ra zl rc]] w5 fun e w6=>e=.returned (.bool true)/\Fin w6) :
  Calls Tryz.prog 71 #[.pointer (some ⟨P,0,none⟩),.string str] w fun e w'=>e=.returned (.bool true)/\Fin w':=by
 have HS:=hid hs;have HR:=hid hr;have HP:=hid hp;have HA:=hid ha;clear hs hr hp ha;have hPl:=lG w _ hc;go_enter func71,ntmps71;go_wp2_with fail
 refine(HS.o _ (lI w)).mono ?_;rintro e w2 ⟨t,rfl,hm⟩;have HM:=hid hm;clear hm hc hPl;go_wp2_with fail
 refine(HR.o _).mono ?_;rintro e w3 ⟨rfl,hx3⟩;have HX3:=hid hx3;clear hx3;go_wp2_with fail
 have hrq:(w3.alloc (.cells #[.int .i64 kk,.int .i64 s,.int .i64 i,.int .i64 kd,.int .i64 m,.int .i64 k,.int .i64 n,.int .i64 f,.int .i64 cc,.int .i64 pp] 51)).heap[w3.heap.size]?=some (.cells #[.int .i64 kk,.int .i64 s,.int .i64 i,.int .i64 kd,.int .i64 m,.int .i64 k,.int .i64 n,.int .i64 f,.int .i64 cc,.int .i64 pp] 51 (0,0)):=heap_alloc_new _ _;have HXA:Hd (Ext w2 (w3.alloc (.cells #[.int .i64 kk,.int .i64 s,.int .i64 i,.int .i64 kd,.int .i64 m,.int .i64 k,.int .i64 n,.int .i64 f,.int .i64 cc,.int .i64 pp] 51))):=HX3.o.alloc _;obtain⟨qb,hqb⟩:∃qb,w3.heap.size=qb:=⟨_,rfl⟩
 simp only [hqb] at hrq ⊢;generalize lP w3 _=w3a at hrq HXA ⊢;have HRQ:Hd _:=hrq;clear hrq hqb;refine(HP.o w w2 w3a t (lI w) HM.o HXA.o).mono ?_;rintro e w4 ⟨c0,f0,n0,ra,zl,rc,rfl,hx4,hl⟩;have HX4:=hid hx4;have HL:=hid hl;clear hx4 hl;obtain⟨la,ca0,ca1,ca2,ca3,ca4,ca5,ca6,ca7,ca8,ca9,fa0,fa1,fa2,fa3,fa4,fa5,fa6,fa7,fa8,fa9⟩:=Z7 (HX4.o.block HRQ.o);go_wp2_with fail
 refine(HA.o w w2 w3a w4 _ t c0 f0 n0 ra zl rc (lI w) HM.o HXA.o HL.o HX4.o ((lI w4).alloc _)).mono ?_;rintro e w6 ⟨rfl,hf⟩;have HF:=hid hf;clear hf;go_wp2;go_ret;exact⟨rfl,HF.o⟩
theorem xP (P B:Nat)(str:ByteArray)(w:World)(hc:w.cell? ⟨P,0,none⟩=some (.pointer (some ⟨B,0,none⟩))){M:World->World->ByteArray->Prop}{L:World->World->ByteArray->Int->Int->Int->Option Addr->Nat->Nat->Prop}{Fin:World->Prop}
  (hs:∀w',Ext w w'->Calls Tryz.prog 25 #[.pointer (some ⟨B,0,none⟩),.string str] w' fun e w''=>∃t,e=.returned (.string t)/\M w' w'' t)
  (hr:∀w',Calls Tryz.prog 107 #[.string str] w' fun e w''=>e=.returned (.tuple #[.agg #[.int .i64 0,.int .i64 0,.int .i64 0,.int .i64 0,.int .i64 0,.int .i64 0,.int .i64 0,.int .i64 0,.int .i64 0,.int .i64 0],.int .i64 1])/\Ext w' w'')
  (hp:∀w1 w2 w3 t,Ext w w1->M w1 w2 t->Ext w2 w3->Calls Tryz.prog 108 #[.string t] w3 fun e w4=>∃c0 f0 n0 ra zl rc,e=.returned (.tuple #[.agg #[.int .i64 c0,.int .i64 f0,.int .i64 n0,.slice ra zl rc],.bool true])/\Ext w3 w4/\L w3 w4 t c0 f0 n0 ra zl rc)
  (ha:∀w3 w4 w5 t c0 f0 n0 ra zl rc,L w3 w4 t c0 f0 n0 ra zl rc->Ext w4 w5->Calls Tryz.prog 109 #[.agg #[.int .i64 c0,.int .i64 f0,.int .i64 n0,.slice ra zl rc],.agg #[.int .i64 1,.int .i64 0,.int .i64 0,.slice none 0 0]] w5 fun e w6=>e=.returned (.bool true)/\Ext w5 w6)
  (hst:∀w1 w2 w3 t,Ext w w1->M w1 w2 t->Ext w2 w3->Calls Tryz.prog 80 #[.pointer (some ⟨P,0,none⟩)] w3 fun e w6=>e=.returned (.bool true)/\Fin w6) :
  Calls Tryz.prog 71 #[.pointer (some ⟨P,0,none⟩),.string str] w fun e w'=>e=.returned (.bool true)/\Fin w':=by
 have HS:=hid hs;have HR:=hid hr;have HP:=hid hp;have HA:=hid ha;have HSt:=hid hst;clear hst;clear hs hr hp ha;have hPl:=lG w _ hc;go_enter func71,ntmps71;go_wp2_with fail
 refine(HS.o _ (lI w)).mono ?_;rintro e w2 ⟨t,rfl,hm⟩;have HM:=hid hm;clear hm hc hPl;go_wp2_with fail
 refine(HR.o _).mono ?_;rintro e w3 ⟨rfl,hx3⟩;have HX3:=hid hx3;clear hx3;go_wp2_with fail
 have hrq:(w3.alloc (.cells #[.int .i64 0,.int .i64 0,.int .i64 0,.int .i64 0,.int .i64 0,.int .i64 0,.int .i64 0,.int .i64 0,.int .i64 0,.int .i64 0] 51)).heap[w3.heap.size]?=some (.cells #[.int .i64 0,.int .i64 0,.int .i64 0,.int .i64 0,.int .i64 0,.int .i64 0,.int .i64 0,.int .i64 0,.int .i64 0,.int .i64 0] 51 (0,0)):=heap_alloc_new _ _;have HXA:Hd (Ext w2 (w3.alloc (.cells #[.int .i64 0,.int .i64 0,.int .i64 0,.int .i64 0,.int .i64 0,.int .i64 0,.int .i64 0,.int .i64 0,.int .i64 0,.int .i64 0] 51))):=HX3.o.alloc _;obtain⟨qb,hqb⟩:∃qb,w3.heap.size=qb:=⟨_,rfl⟩
 simp only [hqb] at hrq ⊢;generalize lP w3 _=w3a at hrq HXA ⊢;have HRQ:Hd _:=hrq;clear hrq hqb;refine(HP.o w w2 w3a t (lI w) HM.o HXA.o).mono ?_;rintro e w4 ⟨c0,f0,n0,ra,zl,rc,rfl,hx4,hl⟩;have HX4:=hid hx4;have HL:=hid hl;clear hx4 hl;obtain⟨la,ca0,ca1,ca2,ca3,ca4,ca5,ca6,ca7,ca8,ca9,fa0,fa1,fa2,fa3,fa4,fa5,fa6,fa7,fa8,fa9⟩:=Z7 (HX4.o.block HRQ.o);go_wp2_with fail
 refine(HA.o w3a w4 _ t c0 f0 n0 ra zl rc HL.o ((lI w4).alloc _)).mono ?_;rintro e w5 ⟨rfl,hx5⟩;have HX5:Hd (Ext w2 w5):=(HXA.o.trans (HX4.o.alloc _)).trans hx5;clear hx5;go_wp2_with fail
 refine(HSt.o w w2 w5 t (lI w) HM.o HX5.o).mono ?_;rintro e w6 ⟨rfl,hf⟩;have HF:=hid hf;clear hf;go_wp2;go_ret;exact⟨rfl,HF.o⟩
end
section
open Go.RowKit
theorem Xr (s:ByteArray)(h:s.toList.isEmpty=true)(w:World):Calls Tryz.prog 58 #[.string s] w fun e w'=>e=.returned (.tuple #[.nilIface,.int .i64 1])/\Ext w w':=by go_enter func58,ntmps58;go_wp2;go_ret2;exact⟨rfl,lI w⟩
theorem Uw (s:ByteArray)(_hs:s.size<=maxLen)(h1:0<s.size)(hne:s.toList.isEmpty=false)(k:Nat)(hk:(s[0]).toNat=k)(hk2:k<256)(k1:((k:Int) == 1)=false)(k2:((k:Int) == 2)=false)(k3:((k:Int) == 3)=false)(k4:((k:Int) == 4)=false)(w:World) :
  Calls Tryz.prog 58 #[.string s] w fun e w'=>e=.returned (.tuple #[.nilIface,.int .i64 1])/\Ext w w':=by
 unfold maxLen at _hs;go_enter func58,ntmps58;go_wp2_with (go_at_call 84;refine(Vl k 0 0 0 0 0 0 0 0 0 k1 k2 k3 k4 _).mono ?_;rintro e w1 ⟨rfl,hx⟩)
 go_quiet (fail)
 go_wp2;go_ret2;exact⟨rfl,hx.drewN _⟩
theorem vp (s:ByteArray)(h:s.toList.isEmpty=true)(w:World):Calls Tryz.prog 107 #[.string s] w fun e w'=>
  e=.returned (.tuple #[.agg #[.int .i64 0,.int .i64 0,.int .i64 0,.int .i64 0,.int .i64 0,.int .i64 0,.int .i64 0,.int .i64 0,.int .i64 0,.int .i64 0],.int .i64 1])/\Ext w w':=by
 go_enter func107,ntmps107;go_wp2;refine bodyPost_ret (v:=.tuple #[.agg #[.int .i64 0,.int .i64 0,.int .i64 0,.int .i64 0,.int .i64 0,.int .i64 0,.int .i64 0,.int .i64 0,.int .i64 0,.int .i64 0],.int .i64 1]) (by simp [results,results107,go_sem]) rfl ⟨rfl,?_⟩
 repeat (first|exact lI _|refine lK ?_ _|refine rF ?_ (by simp) _|refine lJ ?_)
theorem U3 (s:ByteArray)(hs:s.size<=maxLen)(h1:0<s.size)(hne:s.toList.isEmpty=false)(k:Nat)(hk:(s[0]).toNat=k)(hk2:k<256)(hu:Qm k=⟨#[]⟩)(w:World) :
  Calls Tryz.prog 107 #[.string s] w fun e w'=>
   e=.returned (.tuple #[.agg #[.int .i64 0,.int .i64 0,.int .i64 0,.int .i64 0,.int .i64 0,.int .i64 0,.int .i64 0,.int .i64 0,.int .i64 0,.int .i64 0],.int .i64 1])/\Ext w w':=by
 have HU:=hid hu;unfold maxLen at hs;clear hu;go_enter func107,ntmps107;go_wp2_with (go_at_call 151;refine(Q3 k _).mono ?_;rw [HU.o];rintro e w1 ⟨rfl,rfl⟩)
 refine wp_loop_rounds 1 ?_;rw [rounds_succ];go_wp2_with (go_at_call 153;refine(Un k 0 0 0 0 0 0 0 0 0 HU.o _).mono ?_;rintro e w1 ⟨rfl,hx1⟩;obtain⟨la,ca0,ca1,ca2,ca3,ca4,ca5,ca6,ca7,ca8,ca9,fa0,fa1,fa2,fa3,fa4,fa5,fa6,fa7,fa8,fa9⟩:=QU (W:=w1) (g:=w.heap.size) (hx1.block (zC (zm rfl))))
 refine bodyPost_ret (v:=.tuple #[.agg #[.int .i64 0,.int .i64 0,.int .i64 0,.int .i64 0,.int .i64 0,.int .i64 0,.int .i64 0,.int .i64 0,.int .i64 0,.int .i64 0],.int .i64 1]) (by simp [results,results107,go_sem, *]) rfl ⟨rfl,?_⟩
 repeat (first|(with_reducible exact lI _)|(with_reducible assumption)|(with_reducible refine lJ ?_)|(with_reducible refine lK ?_ _)|(with_reducible refine rF ?_ (by simp) _)|(with_reducible (apply lY;assumption)))
end
section
open Go.RowKit
theorem Vk:∀(k:Nat)(h:k<leaseL.length),leaseL[k].1=k/\1<=leaseL[k].2.1/\leaseL[k].2.1<=4/\0<=leaseL[k].2.2/\leaseL[k].2.2<=2147483647:=by decide
theorem XE (s:ByteArray)(hs:s.size<=maxLen)(h1:0<s.size)(hk:(s[0]).toNat=1)(w:World) :
  Calls Tryz.prog 58 #[.string s] w fun e w'=>
   (∃vs b,zK leaseL (s.extract 1 s.size).data.toList=some (vs,[])/\e=.returned (.tuple #[.iface 201 (.pointer (some ⟨b,0,none⟩)),.int .i64 0])/\w'.heap[b]?=some (.cells (Z8 vs 7) 210 (0,0))/\Ext w w'/\w.heap.size<=b)\/
   ((∀vs,zK leaseL (s.extract 1 s.size).data.toList≠some (vs,[]))/\e=.returned (.tuple #[.nilIface,.int .i64 1])/\Ext w w'):=by
 have hne:s.toList.isEmpty=false:=by
  rw [ByteArray.toList_eq];cases hx:s.data.toList with
  | nil=>have:s.size=0:=(by rw [<-ByteArray.size_data,<-Array.length_toList,hx];rfl);omega
  | cons _ _=>rfl
 have hse:(s.extract 1 s.size).size<=maxLen:=by rw [ByteArray.size_extract];omega
 have HS:=hid hse;unfold maxLen at hs;clear hse;have hm2:=YS;go_enter func58,ntmps58;go_wp2_with (go_at_call 84;refine(Xk 0 0 0 0 0 0 0 0 0 _).mono ?_;rintro e w1 ⟨b,rfl,hb,hlt,hx⟩)
 have HB:Hd _:=hb;have hltw:w.heap.size<=b:=hlt;clear hb hlt;by_cases HD:∃vs,zK leaseL (s.extract 1 s.size).data.toList=some (vs,[])
 ·obtain⟨vs,hd⟩:=HD;have HDD:Hd _:=hd;clear hd
  go_region_with (first
   | (go_at_call 210;refine(Yd b _).mono ?_;rintro e w2 ⟨g,cap,rfl,ho,hx2⟩)
   | (go_at_call 87;refine(Qp b g cap 7 _ w.heap.size 210 leaseL (s.extract 1 s.size) _ rfl (by decide) (by decide) Vk HS.o ho (by exact hx2.block (by exact HB.o)) hltw (by exact rH hx.le hx2.le) vs HDD.o).mono ?_;rintro e w3 ⟨rfl,hb3,hbel⟩))
  all_goals go_wp2
  all_goals go_ret2
  all_goals exact .inl ⟨vs,b,HDD.o,rfl,hb3,Below.trans ((hx.drew).trans hx2) hbel,hltw⟩
 ·have HDD:Hd (∀vs,zK leaseL (s.extract 1 s.size).data.toList≠some (vs,[])):=fun vs h=>HD ⟨vs,h⟩
  clear HD
  go_region_with (first
   | (go_at_call 210;refine(Yd b _).mono ?_;rintro e w2 ⟨g,cap,rfl,ho,hx2⟩)
   | (go_at_call 87;refine(xX b g cap 7 _ w.heap.size 210 leaseL (s.extract 1 s.size) _ rfl (by decide) (by decide) Vk HS.o ho (by exact hx2.block (by exact HB.o)) hltw (by exact rH hx.le hx2.le) HDD.o).mono ?_;rintro e w3 ⟨rfl,hbel⟩))
  all_goals go_wp2
  all_goals go_ret2
  all_goals exact .inr ⟨HDD.o,rfl,Below.trans ((hx.drew).trans hx2) hbel⟩
end
section
open Go.RowKit
theorem vO (str:ByteArray)(hs:str.size<=maxLen)(h1:0<str.size)(hk:(str[0]).toNat=1)(w:World) :
  Calls Tryz.prog 107 #[.string str] w fun e w'=>
   (∃s i ck cm cl cn c:Nat,zK leaseL (str.extract 1 str.size).data.toList=some ([s,i,ck,cm,cl,cn,c],[])/\e=.returned (.tuple #[.agg #[.int .i64 1,.int .i64 (s:Int),.int .i64 (i:Int),.int .i64 (ck:Int),.int .i64 (cm:Int),.int .i64 (cl:Int),.int .i64 (cn:Int),.int .i64 0,.int .i64 (c:Int),.int .i64 0],.int .i64 0])/\Ext w w')\/
   ((∀vs,zK leaseL (str.extract 1 str.size).data.toList≠some (vs,[]))/\e=.returned (.tuple #[.agg #[.int .i64 0,.int .i64 0,.int .i64 0,.int .i64 0,.int .i64 0,.int .i64 0,.int .i64 0,.int .i64 0,.int .i64 0,.int .i64 0],.int .i64 1])/\Ext w w'):=by
 have hne:str.toList.isEmpty=false:=by
  rw [ByteArray.toList_eq];cases hx:str.data.toList with
  | nil=>have:str.size=0:=(by rw [<-ByteArray.size_data,<-Array.length_toList,hx];rfl);omega
  | cons _ _=>rfl
 have x0:((⟨#[83,73,75,67]⟩:ByteArray)[0]).toNat=83:=rfl;have x1:((⟨#[83,73,75,67]⟩:ByteArray)[1]).toNat=73:=rfl;have x2:((⟨#[83,73,75,67]⟩:ByteArray)[2]).toNat=75:=rfl;have x3:((⟨#[83,73,75,67]⟩:ByteArray)[3]).toNat=67:=rfl;have hes:(str.extract 1 str.size).size<=9223372036854775807:=by rw [ByteArray.size_extract];unfold maxLen at hs;omega
 unfold maxLen at hs;have HBAD:Hd (∀T:List UInt8,T.length≠szs leaseL->∀vs,zK leaseL T≠some (vs,[])):=fun T h vs h'=>h ((ZI _ _ _).1 h').1
 go_enter func107,ntmps107;go_wp2_with (go_at_call 151;refine(kU _).mono ?_;rintro e w1 ⟨rfl,rfl⟩)
 generalize hT0:str.extract 1 str.size=t0 at *;have HT0:=hid hT0;clear hT0;have l0:t0.data.toList.length=t0.size:=by simp
 have L0:Hd _:=l0;clear l0;refine wp_loop_rounds 5 ?_;rw [rounds_succ];by_cases c0:t0.size<4
 ·go_wp2;refine bodyPost_ret (v:=.tuple #[.agg #[.int .i64 0,.int .i64 0,.int .i64 0,.int .i64 0,.int .i64 0,.int .i64 0,.int .i64 0,.int .i64 0,.int .i64 0,.int .i64 0],.int .i64 1]) (by simp [results,results107,go_sem]) rfl (.inr ⟨HBAD.o _ ?_,rfl,?_⟩)
  ·rw [HT0.o,L0.o];simp only [szs,leaseL];simp;omega
  ·repeat (first|exact lI _|refine lK ?_ _|refine rF ?_ (by simp) _|refine lJ ?_)
 ·skip
  go_wp2_with (go_at_call 152;refine(Yi t0 (by omega) (by unfold maxLen;omega) _).mono ?_;rintro e w1 ⟨rfl,rfl⟩)
  generalize hv:be (rS 4 t0.data.toList)=s at *;have V_s:=hid hv;clear hv;have e0:(t0.extract 4 t0.size).data.toList=t0.data.toList.drop 4:=Zq t0 4;have s0:(t0.extract 4 t0.size).size+4=t0.size:=by rw [ByteArray.size_extract];omega
  generalize t0.extract 4 t0.size=t1 at *;have E0:=hid e0;have S0:=hid s0;have S0a:t1.size<=t0.size:=by omega
  clear e0 s0;rw [rounds_succ];by_cases c1:t1.size<4
  ·go_wp2;refine bodyPost_ret (v:=.tuple #[.agg #[.int .i64 0,.int .i64 0,.int .i64 0,.int .i64 0,.int .i64 0,.int .i64 0,.int .i64 0,.int .i64 0,.int .i64 0,.int .i64 0],.int .i64 1]) (by simp [results,results107,go_sem]) rfl (.inr ⟨HBAD.o _ ?_,rfl,?_⟩)
   ·rw [HT0.o,L0.o];simp only [szs,leaseL];simp;have:=S0.o;omega
   ·repeat (first|exact lI _|refine lK ?_ _|refine rF ?_ (by simp) _|refine lJ ?_)
  ·skip
   go_wp2_with (go_at_call 152;refine(Yi t1 (by omega) (by unfold maxLen;omega) _).mono ?_;rintro e w1 ⟨rfl,rfl⟩)
   generalize hv:be (rS 4 t1.data.toList)=i at *;have V_i:=hid hv;clear hv;have e1:(t1.extract 4 t1.size).data.toList=t1.data.toList.drop 4:=Zq t1 4;have s1:(t1.extract 4 t1.size).size+4=t1.size:=by rw [ByteArray.size_extract];omega
   generalize t1.extract 4 t1.size=t2 at *;have E1:=hid e1;have S1:=hid s1;have S1a:t2.size<=t1.size:=by omega
   clear e1 s1;rw [rounds_succ];by_cases c2:t2.size<4
   ·go_wp2;refine bodyPost_ret (v:=.tuple #[.agg #[.int .i64 0,.int .i64 0,.int .i64 0,.int .i64 0,.int .i64 0,.int .i64 0,.int .i64 0,.int .i64 0,.int .i64 0,.int .i64 0],.int .i64 1]) (by simp [results,results107,go_sem]) rfl (.inr ⟨HBAD.o _ ?_,rfl,?_⟩)
    ·rw [HT0.o,L0.o];simp only [szs,leaseL];simp;have:=S0.o;have:=S1.o;omega
    ·repeat (first|exact lI _|refine lK ?_ _|refine rF ?_ (by simp) _|refine lJ ?_)
   ·skip
    have b2a:∀q,q<4->q<t2.size:=by omega
    have i20:(0:Int)<(t2.size:Int):=by omega
    have i21:(1:Int)<(t2.size:Int):=by omega
    have i22:(2:Int)<(t2.size:Int):=by omega
    have i23:(3:Int)<(t2.size:Int):=by omega
    have j20:0<t2.size:=by omega
    have j21:1<t2.size:=by omega
    have j22:2<t2.size:=by omega
    have j23:3<t2.size:=by omega
    go_wp2;refine wp_region_any (by kernel_rfl) ?_
    change wpAny _ _ _ _ _ _ _ (World.drew _)
    refine wpAny_take (i:=0) (v:=.string t2) rfl (by kernel_rfl) (by kernel_rfl) (by kernel_rfl) (fun _ _ _ h=>h) (Or.inl ⟨by rfl,by intro w;go_simp⟩) ?_;refine wpAny_take (i:=1) (v:=.int .u8 ((t2[0]'j20).toNat:Int)) rfl (by kernel_rfl) (by kernel_rfl) (by kernel_rfl) (fun _ _ _ h=>h) (Or.inl ⟨by rfl,by intro w;go_simp⟩) ?_;refine wpAny_take (i:=2) (v:=.int .i64 (IntKind.i64.wrap ((t2[0]'j20).toNat:Int))) rfl (by kernel_rfl) (by kernel_rfl) (by kernel_rfl) (fun _ _ _ h=>h) (Or.inl ⟨by rfl,by intro w;go_simp⟩) ?_;refine wpAny_take (i:=3) (v:=.string t2) rfl (by kernel_rfl) (by kernel_rfl) (by kernel_rfl) (fun _ _ _ h=>h) (Or.inl ⟨by rfl,by intro w;go_simp⟩) ?_;refine wpAny_take (i:=4) (v:=.int .u8 ((t2[1]'j21).toNat:Int)) rfl (by kernel_rfl) (by kernel_rfl) (by kernel_rfl) (fun _ _ _ h=>h) (Or.inl ⟨by rfl,by intro w;go_simp⟩) ?_;refine wpAny_take (i:=5) (v:=.int .i64 (IntKind.i64.wrap ((t2[1]'j21).toNat:Int))) rfl (by kernel_rfl) (by kernel_rfl) (by kernel_rfl) (fun _ _ _ h=>h) (Or.inl ⟨by rfl,by intro w;go_simp⟩) ?_;refine wpAny_take (i:=6) (v:=.string t2) rfl (by kernel_rfl) (by kernel_rfl) (by kernel_rfl) (fun _ _ _ h=>h) (Or.inl ⟨by rfl,by intro w;go_simp⟩) ?_;refine wpAny_take (i:=7) (v:=.int .u8 ((t2[2]'j22).toNat:Int)) rfl (by kernel_rfl) (by kernel_rfl) (by kernel_rfl) (fun _ _ _ h=>h) (Or.inl ⟨by rfl,by intro w;go_simp⟩) ?_;refine wpAny_take (i:=8) (v:=.int .i64 (IntKind.i64.wrap ((t2[2]'j22).toNat:Int))) rfl (by kernel_rfl) (by kernel_rfl) (by kernel_rfl) (fun _ _ _ h=>h) (Or.inl ⟨by rfl,by intro w;go_simp⟩) ?_;refine wpAny_take (i:=9) (v:=.string t2) rfl (by kernel_rfl) (by kernel_rfl) (by kernel_rfl) (fun _ _ _ h=>h) (Or.inl ⟨by rfl,by intro w;go_simp⟩) ?_;refine wpAny_take (i:=10) (v:=.int .u8 ((t2[3]'j23).toNat:Int)) rfl (by kernel_rfl) (by kernel_rfl) (by kernel_rfl) (fun _ _ _ h=>h) (Or.inl ⟨by rfl,by intro w;go_simp⟩) ?_;refine wpAny_take (i:=11) (v:=.int .i64 (IntKind.i64.wrap ((t2[3]'j23).toNat:Int))) rfl (by kernel_rfl) (by kernel_rfl) (by kernel_rfl) (fun _ _ _ h=>h) (Or.inl ⟨by rfl,by intro w;go_simp⟩) ?_
    refine wpAny_take (i:=12) (v:=.agg #[.int .i64 (IntKind.i64.wrap ((t2[0]'j20).toNat:Int)),.int .i64 (IntKind.i64.wrap ((t2[1]'j21).toNat:Int)),.int .i64 (IntKind.i64.wrap ((t2[2]'j22).toNat:Int)),.int .i64 (IntKind.i64.wrap ((t2[3]'j23).toNat:Int))]) rfl (by kernel_rfl) (by kernel_rfl) (by kernel_rfl) (fun _ _ _ h=>h) (Or.inl ⟨by rfl,by intro w;go_simp⟩) ?_;refine wpAny_take (i:=13) (v:=.pointer (some ⟨w.heap.size+1,3,none⟩)) rfl (by kernel_rfl) (by kernel_rfl) (by kernel_rfl) (fun _ _ _ h=>h) (Or.inl ⟨by rfl,by intro w;go_simp⟩) ?_;refine wpAny_ready (rs:=[14]) (by kernel_rfl) (by simp) ?_;refine AllReady.cons rfl (fun K hK=>?_) AllReady.nil;go_simp;refine hK _ _ ?_;clear hK K;refine wpAny_done (by kernel_rfl) ?_ _;have w20:IntKind.i64.wrap ((t2[0]'j20).toNat:Int)=((t2[0]'j20).toNat:Int):=Q9 (by omega) (by have:=sB (t2[0]'j20);omega);have w21:IntKind.i64.wrap ((t2[1]'j21).toNat:Int)=((t2[1]'j21).toNat:Int):=Q9 (by omega) (by have:=sB (t2[1]'j21);omega);have w22:IntKind.i64.wrap ((t2[2]'j22).toNat:Int)=((t2[2]'j22).toNat:Int):=Q9 (by omega) (by have:=sB (t2[2]'j22);omega);have w23:IntKind.i64.wrap ((t2[3]'j23).toNat:Int)=((t2[3]'j23).toNat:Int):=Q9 (by omega) (by have:=sB (t2[3]'j23);omega);simp only [w20,w21,w22,w23];clear w20 w21 w22 w23;generalize hv:(t2[0]'j20).toNat=ck at *;have V_ck:=hid hv;clear hv;have B_ck:ck<256:=by rw [<-V_ck.o];exact sB _
    generalize hv:(t2[1]'j21).toNat=cm at *;have V_cm:=hid hv;clear hv;have B_cm:cm<256:=by rw [<-V_cm.o];exact sB _
    generalize hv:(t2[2]'j22).toNat=cl at *;have V_cl:=hid hv;clear hv;have B_cl:cl<256:=by rw [<-V_cl.o];exact sB _
    generalize hv:(t2[3]'j23).toNat=cn at *;have V_cn:=hid hv;clear hv;have B_cn:cn<256:=by rw [<-V_cn.o];exact sB _
    go_wp2;have e2:(t2.extract 4 t2.size).data.toList=t2.data.toList.drop 4:=Zq t2 4;have s2:(t2.extract 4 t2.size).size+4=t2.size:=by rw [ByteArray.size_extract];omega
    generalize t2.extract 4 t2.size=t3 at *;have E2:=hid e2;have S2:=hid s2;have S2a:t3.size<=t2.size:=by omega
    clear e2 s2;rw [rounds_succ];by_cases c3:t3.size<4
    ·go_wp2;refine bodyPost_ret (v:=.tuple #[.agg #[.int .i64 0,.int .i64 0,.int .i64 0,.int .i64 0,.int .i64 0,.int .i64 0,.int .i64 0,.int .i64 0,.int .i64 0,.int .i64 0],.int .i64 1]) (by simp [results,results107,go_sem]) rfl (.inr ⟨HBAD.o _ ?_,rfl,?_⟩)
     ·rw [HT0.o,L0.o];simp only [szs,leaseL];simp;have:=S0.o;have:=S1.o;have:=S2.o;omega
     ·repeat (first|exact lI _|refine lK ?_ _|refine rF ?_ (by simp) _|refine lJ ?_)
    ·skip
     go_wp2_with (go_at_call 152;refine(Yi t3 (by omega) (by unfold maxLen;omega) _).mono ?_;rintro e w1 ⟨rfl,rfl⟩)
     generalize hv:be (rS 4 t3.data.toList)=c at *;have V_c:=hid hv;clear hv;have e3:(t3.extract 4 t3.size).data.toList=t3.data.toList.drop 4:=Zq t3 4;have s3:(t3.extract 4 t3.size).size+4=t3.size:=by rw [ByteArray.size_extract];omega
     generalize t3.extract 4 t3.size=t4 at *;have E3:=hid e3;have S3:=hid s3;have S3a:t4.size<=t3.size:=by omega
     clear e3 s3;rw [rounds_succ];have D0:t0.data.toList=rR 0 t0.data.toList:=rfl;have f_s:be (rS 4 (rR 0 t0.data.toList))=s:=by rw [<-D0];exact V_s.o
     have D1:t1.data.toList=rR 4 t0.data.toList:=by rw [E0.o,D0,rX]
     have f_i:be (rS 4 (rR 4 t0.data.toList))=i:=by rw [<-D1];exact V_i.o
     have D2:t2.data.toList=rR 8 t0.data.toList:=by rw [E1.o,D1,rX]
     have f_ck:be (rS 1 (rR 8 t0.data.toList))=ck:=by rw [show 8=8+0 from rfl,<-rX,<-D2,yY t2 0 j20];exact V_ck.o
     have f_cm:be (rS 1 (rR 9 t0.data.toList))=cm:=by rw [show 9=8+1 from rfl,<-rX,<-D2,yY t2 1 j21];exact V_cm.o
     have f_cl:be (rS 1 (rR 10 t0.data.toList))=cl:=by rw [show 10=8+2 from rfl,<-rX,<-D2,yY t2 2 j22];exact V_cl.o
     have f_cn:be (rS 1 (rR 11 t0.data.toList))=cn:=by rw [show 11=8+3 from rfl,<-rX,<-D2,yY t2 3 j23];exact V_cn.o
     have D3:t3.data.toList=rR 12 t0.data.toList:=by rw [E2.o,D2,rX]
     have f_c:be (rS 4 (rR 12 t0.data.toList))=c:=by rw [<-D3];exact V_c.o
     have HVAL:Hd (ZT leaseL t0.data.toList=[s,i,ck,cm,cl,cn,c]):=by
      show ZT leaseL t0.data.toList=[s,i,ck,cm,cl,cn,c]
      rw [<-f_s,<-f_i,<-f_ck,<-f_cm,<-f_cl,<-f_cn,<-f_c];simp [leaseL,ZT,rX]
     have HBD:Hd (Zu leaseL t0.data.toList↔inB s i ck cm cl cn 0 c 0 ((0:Int) == 0 && (0:Int) == 0)=true):=by
      show Zu leaseL t0.data.toList↔inB s i ck cm cl cn 0 c 0 ((0:Int) == 0 && (0:Int) == 0)=true
      have hb:Zu leaseL t0.data.toList↔((s:Int)<=2147483647/\(i:Int)<=2147483647/\(ck:Int)<=255/\(cm:Int)<=255/\(cl:Int)<=255/\(cn:Int)<=255/\(c:Int)<=2147483647):=by rw [<-f_s,<-f_i,<-f_ck,<-f_cm,<-f_cl,<-f_cn,<-f_c];simp [leaseL,Zu,rX]
      rw [hb];simp [inB,Yr,Ym]
      try omega
     clear f_s f_i f_ck f_cm f_cl f_cn f_c D0 D1 D2 D3;cases hB:inB s i ck cm cl cn 0 c 0 ((0:Int) == 0 && (0:Int) == 0)
     ·have HBB:Hd _:=hB;clear hB;go_wp2_with (go_at_call 153;refine(QS s i ck cm cl cn 0 c 0 _).mono ?_;rw [HBB.o];rintro e w1 ⟨rfl,hx1⟩;obtain⟨la,ca0,ca1,ca2,ca3,ca4,ca5,ca6,ca7,ca8,ca9,fa0,fa1,fa2,fa3,fa4,fa5,fa6,fa7,fa8,fa9⟩:=QU (W:=w1) (g:=w.heap.size) (by repeat (first|(with_reducible refine zy ?_)|((with_reducible refine zm ?_);(simp;done))|(with_reducible refine zC ?_)|(with_reducible (apply rW;assumption))));obtain⟨lb,cb0,cb1,cb2,cb3,cb4,cb5,cb6,cb7,cb8,cb9,_⟩:=Z7 (W:=w1) (g:=w.heap.size+1) (t:=51) (v0:=.int .i64 1) (v1:=.int .i64 (s:Int)) (v2:=.int .i64 (i:Int)) (v3:=.int .i64 (ck:Int)) (v4:=.int .i64 (cm:Int)) (v5:=.int .i64 (cl:Int)) (v6:=.int .i64 (cn:Int)) (v7:=.int .i64 0) (v8:=.int .i64 (c:Int)) (v9:=.int .i64 0) (by repeat (first|(with_reducible refine zy ?_)|((with_reducible refine zm ?_);(simp;done))|(with_reducible refine zC ?_)|(with_reducible (apply rW;assumption)))))
      refine bodyPost_ret (v:=.tuple #[.agg #[.int .i64 0,.int .i64 0,.int .i64 0,.int .i64 0,.int .i64 0,.int .i64 0,.int .i64 0,.int .i64 0,.int .i64 0,.int .i64 0],.int .i64 1]) (by simp [results,results107,go_sem, *]) rfl (.inr ⟨?_,rfl,?_⟩)
      ·intro vs h;rw [HT0.o] at h;have h3:=HBD.o.1 ((ZI _ _ _).1 h).2.2;rw [HBB.o] at h3;simp at h3
      ·repeat (first|(with_reducible exact lI _)|(with_reducible assumption)|(with_reducible refine lJ ?_)|(with_reducible refine lK ?_ _)|(with_reducible refine rF ?_ (by simp) _)|(with_reducible (apply lY;assumption)))
     ·have HBB:Hd _:=hB;clear hB;by_cases ce:t4.size=0
      ·have hem:t4.toList.isEmpty=true:=by
        rw [ByteArray.toList_eq,List.isEmpty_iff,<-List.length_eq_zero_iff];simpa using ce
       have CE:Hd _:=ce;clear ce;go_wp2_with (go_at_call 153;refine(QS s i ck cm cl cn 0 c 0 _).mono ?_;rw [HBB.o];rintro e w1 ⟨rfl,hx1⟩;obtain⟨la,ca0,ca1,ca2,ca3,ca4,ca5,ca6,ca7,ca8,ca9,fa0,fa1,fa2,fa3,fa4,fa5,fa6,fa7,fa8,fa9⟩:=QU (W:=w1) (g:=w.heap.size) (by repeat (first|(with_reducible refine zy ?_)|((with_reducible refine zm ?_);(simp;done))|(with_reducible refine zC ?_)|(with_reducible (apply rW;assumption))));obtain⟨lb,cb0,cb1,cb2,cb3,cb4,cb5,cb6,cb7,cb8,cb9,_⟩:=Z7 (W:=w1) (g:=w.heap.size+1) (t:=51) (v0:=.int .i64 1) (v1:=.int .i64 (s:Int)) (v2:=.int .i64 (i:Int)) (v3:=.int .i64 (ck:Int)) (v4:=.int .i64 (cm:Int)) (v5:=.int .i64 (cl:Int)) (v6:=.int .i64 (cn:Int)) (v7:=.int .i64 0) (v8:=.int .i64 (c:Int)) (v9:=.int .i64 0) (by repeat (first|(with_reducible refine zy ?_)|((with_reducible refine zm ?_);(simp;done))|(with_reducible refine zC ?_)|(with_reducible (apply rW;assumption)))))
       refine bodyPost_ret (v:=.tuple #[.agg #[.int .i64 1,.int .i64 (s:Int),.int .i64 (i:Int),.int .i64 (ck:Int),.int .i64 (cm:Int),.int .i64 (cl:Int),.int .i64 (cn:Int),.int .i64 0,.int .i64 (c:Int),.int .i64 0],.int .i64 0]) (by simp [results,results107,go_sem, *]) rfl (.inl ⟨s,i,ck,cm,cl,cn,c,?_,rfl,?_⟩)
       ·rw [HT0.o];refine(ZI _ _ _).2 ⟨?_,HVAL.o.symm,HBD.o.2 HBB.o⟩;rw [L0.o];simp only [szs,leaseL];simp;have:=CE.o;have:=S0.o;have:=S1.o;have:=S2.o;have:=S3.o;omega
       ·repeat (first|(with_reducible exact lI _)|(with_reducible assumption)|(with_reducible refine lJ ?_)|(with_reducible refine lK ?_ _)|(with_reducible refine rF ?_ (by simp) _)|(with_reducible (apply lY;assumption)))
      ·have hem:t4.toList.isEmpty=false:=by
        rw [ByteArray.toList_eq,List.isEmpty_eq_false_iff];intro h;apply ce;rw [<-ByteArray.size_data,<-Array.length_toList,h];rfl
       have CE:Hd (1<=t4.size):=by show 1<=t4.size;omega
       clear ce;go_wp2_with (go_at_call 153;refine(QS s i ck cm cl cn 0 c 0 _).mono ?_;rw [HBB.o];rintro e w1 ⟨rfl,hx1⟩;obtain⟨la,ca0,ca1,ca2,ca3,ca4,ca5,ca6,ca7,ca8,ca9,fa0,fa1,fa2,fa3,fa4,fa5,fa6,fa7,fa8,fa9⟩:=QU (W:=w1) (g:=w.heap.size) (by repeat (first|(with_reducible refine zy ?_)|((with_reducible refine zm ?_);(simp;done))|(with_reducible refine zC ?_)|(with_reducible (apply rW;assumption))));obtain⟨lb,cb0,cb1,cb2,cb3,cb4,cb5,cb6,cb7,cb8,cb9,_⟩:=Z7 (W:=w1) (g:=w.heap.size+1) (t:=51) (v0:=.int .i64 1) (v1:=.int .i64 (s:Int)) (v2:=.int .i64 (i:Int)) (v3:=.int .i64 (ck:Int)) (v4:=.int .i64 (cm:Int)) (v5:=.int .i64 (cl:Int)) (v6:=.int .i64 (cn:Int)) (v7:=.int .i64 0) (v8:=.int .i64 (c:Int)) (v9:=.int .i64 0) (by repeat (first|(with_reducible refine zy ?_)|((with_reducible refine zm ?_);(simp;done))|(with_reducible refine zC ?_)|(with_reducible (apply rW;assumption)))))
       refine bodyPost_ret (v:=.tuple #[.agg #[.int .i64 0,.int .i64 0,.int .i64 0,.int .i64 0,.int .i64 0,.int .i64 0,.int .i64 0,.int .i64 0,.int .i64 0,.int .i64 0],.int .i64 1]) (by simp [results,results107,go_sem, *]) rfl (.inr ⟨HBAD.o _ ?_,rfl,?_⟩)
       ·rw [HT0.o,L0.o];simp only [szs,leaseL];simp;have:=CE.o;have:=S0.o;have:=S1.o;have:=S2.o;have:=S3.o;omega
       ·repeat (first|(with_reducible exact lI _)|(with_reducible assumption)|(with_reducible refine lJ ?_)|(with_reducible refine lK ?_ _)|(with_reducible refine rF ?_ (by simp) _)|(with_reducible (apply lY;assumption)))
end
end Go.Proofs.YtmnjhhachdlmkaaGreat
