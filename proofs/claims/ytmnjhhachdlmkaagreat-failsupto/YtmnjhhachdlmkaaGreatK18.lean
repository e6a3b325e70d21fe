import Derived.Test.YtmnjhhachdlmkaaGreatK17
namespace Go.Proofs.YtmnjhhachdlmkaaGreat
set_option linter.all false
set_option maxRecDepth 100000
set_option maxHeartbeats 3200000
open Tryz
open Turn renaming of_ext -> lM, grown -> rJ, setCell -> lQ, refl -> rD
open List renaming append_nil -> rL, length_append -> lW, flatten_cons -> sP, mem_append -> sE, mem_singleton -> sJ
open World renaming ownsRow -> lR, news_of_block -> rI, setCell -> rC
open IntKind renaming wrap_i64 -> rP
open AllReadyH renaming cons -> sD
open Ext renaming drew -> lJ, refl -> lI, alloc -> lK, owns -> rE
open Nat renaming zero_le -> lT, le_refl -> lO
open List renaming getElem_toArray -> lA, getElem_cons_succ -> lB, getElem_cons_zero -> lC, setIfInBounds_toArray -> lD, set_cons_zero -> lE, set_cons_succ -> lF
open World renaming block_lt_of_cell? -> lG
open Value renaming ownBlock -> lH
section
open Go.RowKit Go.Maps
structure StoreOk (w:World)(B:Nat)(F:Nat->Prop)(R:List StkR)(ls:List LsV)(ops:List OpV)(fl:Bool)(ah:Int):Prop where
 ex:∃sv lv dv kn,StoreOf w B F sv lv dv R ls ops fl ah kn
 kinds:∀o∈ops,0<=o.k/\o.k<=5
theorem StoreOk.lt {w:World}{B:Nat}{F:Nat->Prop}{R:List StkR}{ls:List LsV}{ops:List OpV}{fl:Bool}{ah:Int}(h:StoreOk w B F R ls ops fl ah):∀b,F b->b<w.heap.size:=by obtain⟨sv,lv,dv,kn,h1⟩:=h.ex;exact h1.lt
theorem StoreOk.turn {X:Nat->Prop}{w w':World}{B:Nat}{F:Nat->Prop}{R:List StkR}{ls:List LsV}{ops:List OpV}{fl:Bool}{ah:Int}(h:StoreOk w B F R ls ops fl ah)(ht:Turn X w w')(hx:∀b,F b->¬X b):StoreOk w' B F R ls ops fl ah:=by obtain⟨sv,lv,dv,kn,h1⟩:=h.ex;exact⟨⟨sv,lv,dv,kn,h1.turn ht hx⟩,h.kinds⟩
theorem StoreOk.ext {w w':World}{B:Nat}{F:Nat->Prop}{R:List StkR}{ls:List LsV}{ops:List OpV}{fl:Bool}{ah:Int}(h:StoreOk w B F R ls ops fl ah)(hx:Ext w w'):StoreOk w' B F R ls ops fl ah:=h.turn (X:=fun _=>False) (lM hx) (fun _ _=>id)
def ArIs (v:GV)(fl:Bool)(ah:Int):Prop:=v.ar=fl/\(fl=true->v.fi=ah)
theorem ArIs.same {v v':GV}{fl:Bool}{ah:Int}(h:ArIs v fl ah)(h1:v'.ar=v.ar)(h2:v'.fi=v.fi):ArIs v' fl ah:=⟨h1.trans h.1,fun e=>h2.trans (h.2 e)⟩
section
variable {w:World}{P B q c:Nat}{G F:Nat->Prop}{v:GV}{S:List Stk}{ls:List LsV}{ops0:List OpV}{fl fl':Bool}{ah ah':Int}
def Far (F G:Nat->Prop)(P:Nat)(v:GV):Prop:=∀b,F b->¬G b/\¬yZ P v b
def Old (w w':World)(F F':Nat->Prop)(P:Nat)(v v':GV):Prop:=Turn (fun b=>F b\/yZ P v b) w w'/\(∀b,F' b->F b\/w.heap.size<=b)/\∀b,yZ P v' b->yZ P v b\/w.heap.size<=b
theorem StoreOk.step {X:Nat->Prop}{w':World}{v':GV}{G':Nat->Prop}{R:List StkR}{ls':List LsV}{ops:List OpV}(h:StoreOk w B F R ls' ops fl ah)(hs:GStep X w w' P v v' G G')(hf:Far F G P v)(hx:∀b,F b->¬X b):StoreOk w' B F R ls' ops fl ah/\Far F G' P v':=
 ⟨h.turn hs.turn (fun b hb hor=>hor.elim (hf b hb).2 (hx b hb)),fun b hb=>⟨fun hg=>(hs.new b hg).elim (hf b hb).1 (hx b hb),fun ho=>(hs.own b ho).elim (hf b hb).2 (hx b hb)⟩⟩
theorem yo {R:List StkR}{ls':List LsV}{ops:List OpV}(h:GameOf w P B G v q S ls ops0 c)(hc:c<=900000)(hst:StoreOk w B F R ls' ops fl ah)(hn:ops.length<=1000000)(hpre:∃new,ops=ops0++new) :
  Calls Tryz.prog 41 #[.pointer (some ⟨P,0,none⟩)] w fun e w'=>e=.returned (.bool true)/\∃v' G',GameOf w' P B G' v' q S ls ops (c+1)/\GStep (fun b=>w.heap.size<=b) w w' P v v' G G'/\v'.wv=v.wv/\v'.pv=v.pv/\v'.ar=v.ar/\v'.fi=v.fi:=by
 obtain⟨sv,lv,dv,kn,h1⟩:=hst.ex;exact ge h hc h1 hn hpre hst.kinds
theorem GameOf.ops_cell {ops:List OpV}(h:GameOf w P B G v q S ls ops c):∃a cap,w.cell? ⟨P,3,none⟩=some (.slice a ops.length cap):=by obtain⟨a,cap,e,_⟩:=h.orow;exact⟨a,cap,by rw [<-e];exact zc h.blk rfl⟩
theorem QB {R:List StkR}{ls':List LsV}(h:GameOf w P B G v q S ls ops0 c)(hc:c<=900000)(hst:StoreOk w B F R ls' ops0 fl ah)(hn:ops0.length<=1000000) :
  Calls Tryz.prog 80 #[.pointer (some ⟨P,0,none⟩)] w fun e w'=>e=.returned (.bool true)/\∃v' G',GameOf w' P B G' v' q S ls ops0 (c+1)/\GStep (fun b=>w.heap.size<=b) w w' P v v' G G'/\v'.wv=v.wv/\v'.pv=v.pv/\v'.ar=v.ar/\v'.fi=v.fi:=by
 have HD:Hd (∀w',w=w'->_):=fun w' e=>by subst e;exact yo h hc hst hn ⟨[],(rL _).symm⟩
 obtain⟨a,cap,c3⟩:=h.ops_cell;have hPl:=lG w _ c3;clear h hst;obtain⟨n,hnn⟩:∃n,ops0.length=n:=⟨_,rfl⟩
 have HNN:=hid hnn;rw [hnn] at c3;clear hnn;go_enter func80,ntmps80;go_wp2_with fail
 refine(HD.o _ rfl).mono ?_;rintro e w1 ⟨rfl,v',G',hg,hs,hw,hp,har⟩;obtain⟨a',cap',c31⟩:=hg.ops_cell;have hPl1:=lG w1 _ c31;have HG:Hd _:=And.intro hg (And.intro hs (And.intro hw (And.intro hp har)));clear hg hs hw hp har;rw [HNN.o] at c31;go_wp2;go_ret;exact⟨zH (by simp),v',G',HG.o.1,HG.o.2.1,HG.o.2.2.1,HG.o.2.2.2.1,HG.o.2.2.2.2.1,HG.o.2.2.2.2.2⟩
theorem GameOf.upd {w':World}{ar':Bool}{fi':Int}{wv' pv':Value}{q' c' np':Nat}{S':List Stk}{ls':List LsV}(h:GameOf w P B G v q S ls ops0 c)(ht:Turn (fun b=>b=P\/v.pv.ownBlock=some b) w w')(hb:w'.heap[P]?=some (.cells (Zp B { v with wv:=wv',pv:=pv',ar:=ar',fi:=fi' }) 94 (0,0))){G':Nat->Prop}(hsub:∀b,G b->G' b)(hnew:∀b,G' b->G b\/w.heap.size<=b/\b<w'.heap.size/\pv'.ownBlock≠some b)(hone:OneIs w' G' wv' q')(href:RefAt w' G' q' S' ls')(hpr:PartRow w' G' pv' np')(hnp:np'<=c')(hcc:c<=c')(hpo:∀b,pv'.ownBlock=some b->v.pv.ownBlock=some b\/w.heap.size<=b) :
  GameOf w' P B G' { v with wv:=wv',pv:=pv',ar:=ar',fi:=fi' } q' S' ls' ops0 c'/\GStep (fun b=>w.heap.size<=b) w w' P v { v with wv:=wv',pv:=pv',ar:=ar',fi:=fi' } G G':=by
 obtain⟨npv,hnpv,csspv,opv,hpv⟩:=h.prow;obtain⟨nW,hnW,vsW,oW,hW⟩:=h.bW;obtain⟨nS,hnS,vsS,oS,hS⟩:=h.bS;obtain⟨nL,hnL,vsL,oL,hL⟩:=h.bL;obtain⟨nO,hnO,vsO,oO,hO⟩:=h.bO;have hG:∀b,G b->¬(b=P\/v.pv.ownBlock=some b):=fun b hb hor=>hor.elim (fun e=>h.apart b (.inl e) hb) (fun e=>h.apart b (.inr (.inl e)) hb)
 have far:∀(e:TypeId) (r:Value) (n:Nat) (xs:List Value),w.ownsRow 0 e 1 r n xs->94≠e->e≠100->∀b,r.ownBlock=some b->¬(b=P\/v.pv.ownBlock=some b):=fun e r n xs ho h1 h2 b hb hor=>by
  rcases hor with e'|e'
  ·exact Zk h.blk ho h1 (by rw [<-e'];exact hb)
  ·obtain⟨cur,hc⟩:=zf ho hb;obtain⟨cur2,hc2⟩:=zf opv e';exact zh hc hc2 h2 rfl
 refine⟨⟨hb,hone,href,(h.orow.turn ht hG).mono hsub,⟨np',hnp,hpr⟩,⟨nW,by omega,(BookRow.turn ⟨vsW,oW,hW⟩ ht hG (far _ _ _ _ oW (by decide) (by decide))).mono hsub⟩,⟨nS,by omega,(BookRow.turn ⟨vsS,oS,hS⟩ ht hG (far _ _ _ _ oS (by decide) (by decide))).mono hsub⟩,⟨nL,by omega,(BookRow.turn ⟨vsL,oL,hL⟩ ht hG (far _ _ _ _ oL (by decide) (by decide))).mono hsub⟩,⟨nO,by omega,(BookRow.turn ⟨vsO,oO,hO⟩ ht hG (far _ _ _ _ oO (by decide) (by decide))).mono hsub⟩,fun b hb=>?_,fun b hb hg=>?_⟩,⟨ht.mono (fun b _ hb=>.inl (hb.elim .inl (fun e=>.inr (.inl e)))),hsub,fun b hb=>(hnew b hb).imp id (fun h=>h.1),fun b hb=>?_⟩⟩
 ·rcases hnew b hb with e|e
  ·exact Nat.lt_of_lt_of_le (h.ltG b e) ht.size
  ·exact e.2.1
 ·rcases hb with e|e|e
  ·rcases hnew b hg with k|k
   ·exact h.apart b (.inl e) k
   ·have:=h.lt (b:=P) (.inl rfl);omega
  ·rcases hnew b hg with k|k
   ·rcases hpo b e with e|e
    ·exact h.apart b (.inr (.inl e)) k
    ·have:=h.ltG b k;omega
   ·exact k.2.2 e
  ·have ho:yZ P v b:=.inr (.inr e);rcases hnew b hg with k|k
   ·exact h.apart b ho k
   ·have:=h.lt ho;omega
 ·rcases hb with e|e|e
  ·exact .inl (.inl e)
  ·exact(hpo b e).imp (fun e=>.inr (.inl e)) id
  ·exact .inl (.inr (.inr e))
theorem XT:(Tryz.prog.info? 100).map (fun i=>(i.zero,i.size,i.bytes))=some (some (.agg #[.int .i64 0,.int .i64 0,.slice none 0 0,.bool false]),4,48):=by kernel_rfl
theorem Ys {R:List StkR}{ls' lsx:List LsV}{ops:List OpV}(h:GameOf w P B G v q S ls ops0 c)(hc:c<=900000)(hst:StoreOk w B F R lsx ops fl' ah')(hn:ops.length<=1000000)(new:List OpV)(hnew:ops=ops0++new)(hne:new≠[])(hfi:v.ar=true->(new.length:Int)<=v.fi/\v.fi<=9223372036854775807)(nv:Value)(q':Nat)(S':List Stk)(hone:OneIs w G nv q')(href:RefAt w G q' S' ls')(sm:Bool) :
  Calls Tryz.prog 104 #[.pointer (some ⟨P,0,none⟩),.int .i64 0,nv,.bool sm] w fun e w'=>e=.returned (.bool true)/\∃v' G',GameOf w' P B G' v' q' S' ls' ops (c+1)/\GStep (fun b=>w.heap.size<=b) w w' P v v' G G'/\v'.ar=v.ar/\v'.fi=Zr v.ar v.fi new.length:=by
 have HD:Hd (∀w',w=w'->_):=fun w' e=>by subst e;exact yo h hc hst hn ⟨new,hnew⟩
 obtain⟨k0,hk0i,hw0,hw1,hw2⟩:=info_parts XT;obtain⟨a,cap,c3⟩:=h.ops_cell;have hPl:=lG w _ c3;obtain⟨gn,ncap,rfl,hgn,hnc⟩:=hone;have HON:Hd (G gn/\w.cell? ⟨gn,0,none⟩=some (.pointer (some ⟨q',0,none⟩))/\RefAt w G q' S' ls'):=⟨hgn,hnc,href⟩
 have H0:=hid h;have hlen:ops0.length<ops.length:=by rw [hnew,lW];have:0<new.length:=List.length_pos_iff.2 hne;omega
 have hnl:ops.length - ops0.length=new.length:=by rw [hnew,lW];omega
 clear h hst hnew hne hgn hnc href;obtain⟨n0,hn0⟩:∃n,ops0.length=n:=⟨_,rfl⟩
 obtain⟨n,hnn⟩:∃n,ops.length=n:=⟨_,rfl⟩
 have HNN:=hid hnn;rw [hn0] at c3 hlen hnl;rw [hnn] at hn hlen hnl;have HNL:=hid hnl;have HFI:Hd _:=hfi;clear hnl hfi;clear hn0 hnn;go_enter func104,ntmps104;go_wp2_with fail
 refine(HD.o _ rfl).mono ?_;rintro e w1 ⟨rfl,v1,G1,hg,hs,hwv,hpv,har1,hfi1⟩;obtain⟨oa,ocap,c31⟩:=hg.ops_cell;rw [HNN.o] at c31;have hPl1:=lG w1 _ c31;obtain⟨np,hnp,css,hpr,hcl,hpi⟩:=hg.prow;obtain⟨pa,pcap,hpvE⟩:=zo hpr;have HG:=hid hg;have HS:=hid hs;have HPR:Hd (w1.ownsRow 0 100 4 (.slice pa np pcap) np css.flatten):=by
  show lR _ _ _ _ _ _ _
  rw [<-hpvE];exact hpr
 have HPI:Hd (css.length=np/\(∀c∈css,PartIs w1 G1 c)/\np<=c):=⟨hcl,hpi,by
  obtain⟨np2,h1,css2,h2,_⟩:=H0.o.prow;have e1:=hpr;rw [hpv] at e1;have h3:=HS.o.turn.size;have:np2=np:=by
   rw [hpv] at hpvE;obtain⟨pa2,pcap2,e2⟩:=zo h2;rw [hpvE] at e2;injection e2 with _ e2 _
   exact e2.symm
  omega⟩
 have HPV:=hid hpvE;have hblk:=hg.blk;unfold Zp at hblk;rw [hpvE] at hblk;obtain⟨oa2,ocap2,hov,_⟩:=hg.orow;have hovE:v1.ov=.slice oa n ocap:=by
  have e1:w1.cell? ⟨P,3,none⟩=some v1.ov:=zc hg.blk rfl;rw [c31] at e1;injection e1 with e1
  exact e1.symm
 rw [hovE] at hblk;obtain⟨wv1,hwv1⟩:∃x,v1.wv=x:=⟨_,rfl⟩
 rw [hwv1] at hblk;have HB1:Hd _:=hblk;have HOV:=hid hovE;have HPP:Hd (lH (.slice pa np pcap)≠some P):=Zk (B:=P) hblk HPR.o (by decide);have hsz1:=HS.o.turn.size;have c4:w1.cell? ⟨P,4,none⟩=some (.slice pa np pcap):=zc hblk rfl;have hsub:IntKind.i64.wrap ((n:Int) - (n0:Int))=((n - n0:Nat):Int):=by rw [rP];omega
 obtain⟨dn,hdn⟩:∃d,n - n0=d:=⟨_,rfl⟩
 rw [hdn] at hsub;have HDN:Hd (dn=new.length):=by show dn=_;rw [<-hdn];exact HNL.o
 have HAR:Hd (v1.ar=v.ar/\v1.fi=v.fi):=⟨har1,hfi1⟩
 have hd1:0<dn:=by omega
 have hd1I:(0:Int)<(dn:Int):=by omega
 have hnpb:np<=900000:=by have:=HPI.o.2.2;omega
 clear har1 hfi1 hg hs hwv hpv hpr hcl hpi hpvE hblk hov hovE hdn hwv1 hnp;go_wp2_with fail
 have SD:Hd (∀w',Turn (fun b=>lH (.slice pa np pcap)=some b) w1 w'->(fun w'=>w'.cell? ⟨P,3,none⟩=some (.slice oa n ocap)) w'):=fun w' hx=>hx.cell c31 (fun e=>HPP.o e)
 refine wp_region_held_drew (S:=(fun w'=>w'.cell? ⟨P,3,none⟩=some (.slice oa n ocap))) (by kernel_rfl) c31 (fun hHeld=>?_);refine zT 0 hHeld ?_;refine zT 1 hHeld ?_;refine zT 2 hHeld ?_;refine zT 3 hHeld ?_;refine zT 5 hHeld ?_;refine zT 6 hHeld ?_;refine zT 7 hHeld ?_;refine zT 8 hHeld ?_;refine zT 9 hHeld ?_;refine zT 10 hHeld ?_;refine zT 11 hHeld ?_;refine zT 12 hHeld ?_;refine zT 13 hHeld ?_;refine wpAnyH_ready (rs:=[4,14]) (by kernel_rfl) (by simp) ?_;refine sD (o:=_) rfl (fun K hK=>?_) (sD (o:=_) rfl (fun K hK=>?_) AllReadyH.nil)
 ·skip
  (try simp only [lA,lB,lC])
  go_simp;refine hK.out _ _ ?hs1 (fun hHeld=>?_)
  case hs1=>exact SD.o _ (lM (lJ (lI _)))
  clear hK K
  try simp only [Act.put,lA,lB,lC,lD,lE,lF]
  refine zR 14 fun K hK=>?_
  (try simp only [lA,lB,lC])
  go_simp;refine hK.out _ _ ?hs2 (fun hHeld=>?_)
  case hs2=>exact SD.o _ (lM (lJ (lK (lI _) _)))
  clear hK K
  try simp only [Act.put,lA,lB,lC,lD,lE,lF]
  refine zR 15 fun K hK=>?_
  refine step_append_lies _ (by rfl) _ _ 86 (by rfl) 0 100 k0 _ 4 48 underlying86 hk0i hw0 hw1 hw2 (by rfl) (by decide) (.slice pa np pcap) np css.flatten (by rfl) (rE (lJ (lK (lI _) _)) HPR.o) ⟨_,0,none⟩ 1 1 [.int .i64 (n0:Int),.int .i64 (n:Int),.slice (some ⟨gn,0,none⟩) 1 ncap,.bool true] (by rfl) (by rfl) (rI (zy (heap_alloc_new _ _))) (by simp [Value.oneCell']) (by decide) (by unfold maxLen;omega) (by omega) (lT _) _ rfl ?_;intro g cap w5 hown5 hgrow5 hat5 hlt5;have HT5:Hd (Turn (fun b=>lH (.slice pa np pcap)=some b) w1 w5):=rJ (lM (lJ (lK (lI _) _))) hgrow5 (fun q hq _=>hq);have HOW:=hid hown5;have HAT:Hd (lH (.slice pa np pcap)=some g\/w1.heap.size<=g):=by
   rcases hat5 with h|h
   ·exact .inl h
   ·exact .inr (by rw [h];exact(lM (lJ (lK (lI _) _)):Turn (fun _=>False) w1 _).size)
  have HB5:Hd (w5.heap[P]?=some (.cells #[.pointer (some ⟨B,0,none⟩),wv1,.slice none 0 0,.slice oa n ocap,.slice pa np pcap,.bool v1.ar,.int .i64 v1.fi,v1.bW,v1.bS,v1.bL,v1.bO] 94 (0,0))):=HT5.o.ref HB1.o (fun e=>HPP.o e);have y1b:w5.cell? ⟨P,4,none⟩=some (.slice pa np pcap):=zc HB5.o rfl;have f1b:=ze HB5.o 4;refine hK.out _ _ ?hs3 (fun hHeld=>?_)
  case hs3=>exact SD.o _ HT5.o
  clear hK K hown5 hgrow5 hat5
  try simp only [Act.put,lA,lB,lC,lD,lE,lF]
  refine zT 16 hHeld ?_;refine zT 17 hHeld ?_;refine zR 18 fun K hK=>?_
  (try simp only [lA,lB,lC])
  go_simp;refine hK.out _ _ ?hs4 (fun hHeld=>?_)
  case hs4=>
   exact zc (zg HB5.o _) rfl
  clear hK K
  try simp only [Act.put,lA,lB,lC,lD,lE,lF]
  refine wpAnyH_done (by kernel_rfl) ?_ _;have hB6:(w5.setCell ⟨P,4,none⟩ (.slice (some ⟨g,0,none⟩) (np+1) cap)).heap[P]?=some (.cells #[.pointer (some ⟨B,0,none⟩),wv1,.slice none 0 0,.slice oa n ocap,.slice (some ⟨g,0,none⟩) (np+1) cap,.bool v1.ar,.int .i64 v1.fi,v1.bW,v1.bS,v1.bL,v1.bO] 94 (0,0)):=zg HB5.o _;have hgP:g≠P:=by
   rcases HAT.o with h|h
   ·exact fun e=>HPP.o (by rw [<-e];exact h)
   ·omega
  have hO6:(w5.setCell ⟨P,4,none⟩ (.slice (some ⟨g,0,none⟩) (np+1) cap)).ownsRow 0 100 4 (.slice (some ⟨g,0,none⟩) (np+1) cap) (np+1) (css.flatten++[.int .i64 (n0:Int),.int .i64 (n:Int),.slice (some ⟨gn,0,none⟩) 1 ncap,.bool true]):=zi HOW.o (by simpa [lH] using hgP) _;have hT6:Turn (fun b=>b=P\/lH (.slice pa np pcap)=some b) w1 (w5.setCell ⟨P,4,none⟩ (.slice (some ⟨g,0,none⟩) (np+1) cap)):=lQ (S:=fun b=>b=P\/lH (.slice pa np pcap)=some b) (p:=⟨P,4,none⟩) (HT5.o.mono (fun _ _ e=>.inr e)) (fun _=>.inl rfl) _;generalize rC w5 _ _=w6 at hO6 hB6 hT6 hHeld ⊢;have HB6:Hd _:=hB6;have HO6:Hd _:=hO6;have HT6:=hid hT6;have HGP:=hid hgP;have hPl6:P<w6.heap.size:=(Array.getElem?_eq_some_iff.1 hB6).1;clear hO6 hT6 hHeld y1b f1b c4 c31 hgP;cases hrr:v1.ar with
  | false=>
   rw [hrr] at hB6;have HRR:=hid hrr;have z5:w6.cell? ⟨P,5,none⟩=some (.bool false):=zc hB6 rfl;have z1:w6.cell? ⟨P,1,none⟩=some wv1:=zc hB6 rfl;have f1:=ze hB6 1;have hB7:(w6.setCell ⟨P,1,none⟩ (.slice (some ⟨gn,0,none⟩) 1 ncap)).heap[P]?=some (.cells #[.pointer (some ⟨B,0,none⟩),.slice (some ⟨gn,0,none⟩) 1 ncap,.slice none 0 0,.slice oa n ocap,.slice (some ⟨g,0,none⟩) (np+1) cap,.bool false,.int .i64 v1.fi,v1.bW,v1.bS,v1.bL,v1.bO] 94 (0,0)):=zg hB6 _;have x5:(w6.setCell ⟨P,1,none⟩ (.slice (some ⟨gn,0,none⟩) 1 ncap)).cell? ⟨P,5,none⟩=some (.bool false):=zc hB7 rfl;have HB7:Hd _:=hB7;clear hB7 hB6 hrr;go_wp2_with fail
   all_goals go_wp2
   all_goals go_ret
   all_goals
    have hT7:Turn (fun b=>b=P\/v1.pv.ownBlock=some b) w1 (w6.setCell ⟨P,1,none⟩ (.slice (some ⟨gn,0,none⟩) 1 ncap)):=by rw [HPV.o];exact lQ (S:=fun b=>b=P\/lH (.slice pa np pcap)=some b) (p:=⟨P,1,none⟩) HT6.o (fun _=>.inl rfl) _
    have hOP:=zi HO6.o (a:=⟨P,1,none⟩) (by simpa [lH] using HGP.o) (.slice (some ⟨gn,0,none⟩) 1 ncap);have hB7:=HB7.o;rw [<-HRR.o] at hB7;generalize rC w6 _ _=w7 at hT7 hB7 hOP ⊢;have hGt:∀b,G1 b->¬(b=P\/v1.pv.ownBlock=some b):=fun b hb hor=>hor.elim (fun e=>HG.o.apart b (.inl e) hb) (fun e=>HG.o.apart b (.inr (.inl e)) hb)
    have hone7:OneIs w7 G1 (.slice (some ⟨gn,0,none⟩) 1 ncap) q':=by have h1:OneIs w1 G (.slice (some ⟨gn,0,none⟩) 1 ncap) q':=OneIs.turn ⟨gn,ncap,rfl,HON.o.1,HON.o.2.1⟩ HS.o.turn (fun b hb hor=>hor.elim (fun ho=>H0.o.apart b ho hb) (fun hl=>by have:=H0.o.ltG b hb;omega));exact(h1.mono HS.o.sub).turn hT7 hGt
    have href7:RefAt w7 G1 q' S' ls':=by have h1:RefAt w1 G q' S' ls':=HON.o.2.2.turn HS.o.turn (fun b hb hor=>hor.elim (fun ho=>H0.o.apart b ho hb) (fun hl=>by have:=H0.o.ltG b hb;omega));exact(h1.mono HS.o.sub).turn hT7 hGt
    have hpr7:PartRow w7 G1 (.slice (some ⟨g,0,none⟩) (np+1) cap) (np+1):=by
     refine⟨css++[[.int .i64 (n0:Int),.int .i64 (n:Int),.slice (some ⟨gn,0,none⟩) 1 ncap,.bool true]],by rw [List.flatten_append,sP,List.flatten_nil,rL];exact hOP,by rw [lW,HPI.o.1];rfl,fun cc hcc=>?_⟩;rcases sE.1 hcc with hcc|hcc
     ·exact(HPI.o.2.1 cc hcc).turn hT7 hGt
     ·rw [sJ.1 hcc];exact⟨n0,n,_,true,q',rfl,hone7⟩
    have hfin:=HG.o.upd (ar':=v1.ar) (fi':=v1.fi) (wv':=.slice (some ⟨gn,0,none⟩) 1 ncap) (pv':=.slice (some ⟨g,0,none⟩) (np+1) cap) (c':=c+1) hT7 (by rw [hB7];unfold Zp;rw [HOV.o]) (fun b hb=>hb) (fun b hb=>.inl hb) hone7 href7 hpr7 (by have:=HPI.o.2.2;omega) (lO _) (fun b hb=>by
     have hbg:g=b:=by simpa [lH] using hb
     subst hbg;rw [HPV.o];exact HAT.o)
    refine⟨zH (by simp [*]),_,_,hfin.1,HS.o.trans hfin.2 (fun b hb=>by omega),HAR.o.1,by rw [<-HAR.o.1,HRR.o];exact HAR.o.2⟩
  | true=>
   rw [hrr] at hB6;have HRR:=hid hrr;have z5:w6.cell? ⟨P,5,none⟩=some (.bool true):=zc hB6 rfl;have z6:w6.cell? ⟨P,6,none⟩=some (.int .i64 v1.fi):=zc hB6 rfl;have f6:=ze hB6 6;have HFF:Hd ((dn:Int)<=v1.fi/\v1.fi<=9223372036854775807):=by have h1:=HFI.o (by rw [<-HAR.o.1];exact hrr);rw [<-HAR.o.2] at h1;rw [<-HDN.o] at h1;exact h1
   have hff:=HFF.o;have hwf:IntKind.i64.wrap (v1.fi - (dn:Int))=v1.fi - (dn:Int):=by rw [rP];omega
   have hB7:(w6.setCell ⟨P,6,none⟩ (.int .i64 (v1.fi - (dn:Int)))).heap[P]?=some (.cells #[.pointer (some ⟨B,0,none⟩),wv1,.slice none 0 0,.slice oa n ocap,.slice (some ⟨g,0,none⟩) (np+1) cap,.bool true,.int .i64 (v1.fi - (dn:Int)),v1.bW,v1.bS,v1.bL,v1.bO] 94 (0,0)):=zg hB6 _;have z1:(w6.setCell ⟨P,6,none⟩ (.int .i64 (v1.fi - (dn:Int)))).cell? ⟨P,1,none⟩=some wv1:=zc hB7 rfl;have f1:=ze hB7 1;have hB8:((w6.setCell ⟨P,6,none⟩ (.int .i64 (v1.fi - (dn:Int)))).setCell ⟨P,1,none⟩ (.slice (some ⟨gn,0,none⟩) 1 ncap)).heap[P]?=some (.cells #[.pointer (some ⟨B,0,none⟩),.slice (some ⟨gn,0,none⟩) 1 ncap,.slice none 0 0,.slice oa n ocap,.slice (some ⟨g,0,none⟩) (np+1) cap,.bool true,.int .i64 (v1.fi - (dn:Int)),v1.bW,v1.bS,v1.bL,v1.bO] 94 (0,0)):=zg hB7 _;have x5:((w6.setCell ⟨P,6,none⟩ (.int .i64 (v1.fi - (dn:Int)))).setCell ⟨P,1,none⟩ (.slice (some ⟨gn,0,none⟩) 1 ncap)).cell? ⟨P,5,none⟩=some (.bool true):=zc hB8 rfl;have x6:((w6.setCell ⟨P,6,none⟩ (.int .i64 (v1.fi - (dn:Int)))).setCell ⟨P,1,none⟩ (.slice (some ⟨gn,0,none⟩) 1 ncap)).cell? ⟨P,6,none⟩=some (.int .i64 (v1.fi - (dn:Int))):=zc hB8 rfl;have HB8:Hd _:=hB8;have hx0:(0:Int)<=v1.fi - (dn:Int):=by omega
   clear hB8 hB7 hB6 hrr hff;go_wp2_with fail
   all_goals go_wp2
   all_goals go_ret
   all_goals
    have hT7:Turn (fun b=>b=P\/v1.pv.ownBlock=some b) w1 ((w6.setCell ⟨P,6,none⟩ (.int .i64 (v1.fi - (dn:Int)))).setCell ⟨P,1,none⟩ (.slice (some ⟨gn,0,none⟩) 1 ncap)):=by rw [HPV.o];exact lQ (S:=fun b=>b=P\/lH (.slice pa np pcap)=some b) (p:=⟨P,1,none⟩) (lQ (S:=fun b=>b=P\/lH (.slice pa np pcap)=some b) (p:=⟨P,6,none⟩) HT6.o (fun _=>.inl rfl) _) (fun _=>.inl rfl) _
    have hOP:=zi (zi HO6.o (a:=⟨P,6,none⟩) (by simpa [lH] using HGP.o) (.int .i64 (v1.fi - (dn:Int)))) (a:=⟨P,1,none⟩) (by simpa [lH] using HGP.o) (.slice (some ⟨gn,0,none⟩) 1 ncap);have hB7:=HB8.o;rw [<-HRR.o] at hB7;generalize rC (rC w6 _ _) _ _=w7 at hT7 hB7 hOP ⊢;have hGt:∀b,G1 b->¬(b=P\/v1.pv.ownBlock=some b):=fun b hb hor=>hor.elim (fun e=>HG.o.apart b (.inl e) hb) (fun e=>HG.o.apart b (.inr (.inl e)) hb)
    have hone7:OneIs w7 G1 (.slice (some ⟨gn,0,none⟩) 1 ncap) q':=by have h1:OneIs w1 G (.slice (some ⟨gn,0,none⟩) 1 ncap) q':=OneIs.turn ⟨gn,ncap,rfl,HON.o.1,HON.o.2.1⟩ HS.o.turn (fun b hb hor=>hor.elim (fun ho=>H0.o.apart b ho hb) (fun hl=>by have:=H0.o.ltG b hb;omega));exact(h1.mono HS.o.sub).turn hT7 hGt
    have href7:RefAt w7 G1 q' S' ls':=by have h1:RefAt w1 G q' S' ls':=HON.o.2.2.turn HS.o.turn (fun b hb hor=>hor.elim (fun ho=>H0.o.apart b ho hb) (fun hl=>by have:=H0.o.ltG b hb;omega));exact(h1.mono HS.o.sub).turn hT7 hGt
    have hpr7:PartRow w7 G1 (.slice (some ⟨g,0,none⟩) (np+1) cap) (np+1):=by
     refine⟨css++[[.int .i64 (n0:Int),.int .i64 (n:Int),.slice (some ⟨gn,0,none⟩) 1 ncap,.bool true]],by rw [List.flatten_append,sP,List.flatten_nil,rL];exact hOP,by rw [lW,HPI.o.1];rfl,fun cc hcc=>?_⟩;rcases sE.1 hcc with hcc|hcc
     ·exact(HPI.o.2.1 cc hcc).turn hT7 hGt
     ·rw [sJ.1 hcc];exact⟨n0,n,_,true,q',rfl,hone7⟩
    have hfin:=HG.o.upd (ar':=v1.ar) (fi':=v1.fi - (dn:Int)) (wv':=.slice (some ⟨gn,0,none⟩) 1 ncap) (pv':=.slice (some ⟨g,0,none⟩) (np+1) cap) (c':=c+1) hT7 (by rw [hB7];unfold Zp;rw [HOV.o]) (fun b hb=>hb) (fun b hb=>.inl hb) hone7 href7 hpr7 (by have:=HPI.o.2.2;omega) (lO _) (fun b hb=>by
     have hbg:g=b:=by simpa [lH] using hb
     subst hbg;rw [HPV.o];exact HAT.o)
    refine⟨zH (by simp [*,HFF.o.1]),_,_,hfin.1,HS.o.trans hfin.2 (fun b hb=>by omega),HAR.o.1,by rw [<-HAR.o.1,HRR.o,<-HAR.o.2,<-HDN.o];rfl⟩
 ·skip
  (try simp only [lA,lB,lC])
  go_simp;refine hK.out _ _ ?hs1 (fun hHeld=>?_)
  case hs1=>exact SD.o _ (lM (lJ (lK (lI _) _)))
  clear hK K
  try simp only [Act.put,lA,lB,lC,lD,lE,lF]
  refine zR 4 fun K hK=>?_
  (try simp only [lA,lB,lC])
  go_simp;refine hK.out _ _ ?hs2 (fun hHeld=>?_)
  case hs2=>exact SD.o _ (lM (lJ (lK (lI _) _)))
  clear hK K
  try simp only [Act.put,lA,lB,lC,lD,lE,lF]
  refine zR 15 fun K hK=>?_
  refine step_append_lies _ (by rfl) _ _ 86 (by rfl) 0 100 k0 _ 4 48 underlying86 hk0i hw0 hw1 hw2 (by rfl) (by decide) (.slice pa np pcap) np css.flatten (by rfl) (rE (lJ (lK (lI _) _)) HPR.o) ⟨_,0,none⟩ 1 1 [.int .i64 (n0:Int),.int .i64 (n:Int),.slice (some ⟨gn,0,none⟩) 1 ncap,.bool true] (by rfl) (by rfl) (rI (zy (heap_alloc_new _ _))) (by simp [Value.oneCell']) (by decide) (by unfold maxLen;omega) (by omega) (lT _) _ rfl ?_;intro g cap w5 hown5 hgrow5 hat5 hlt5;have HT5:Hd (Turn (fun b=>lH (.slice pa np pcap)=some b) w1 w5):=rJ (lM (lJ (lK (lI _) _))) hgrow5 (fun q hq _=>hq);have HOW:=hid hown5;have HAT:Hd (lH (.slice pa np pcap)=some g\/w1.heap.size<=g):=by
   rcases hat5 with h|h
   ·exact .inl h
   ·exact .inr (by rw [h];exact(lM (lJ (lK (lI _) _)):Turn (fun _=>False) w1 _).size)
  have HB5:Hd (w5.heap[P]?=some (.cells #[.pointer (some ⟨B,0,none⟩),wv1,.slice none 0 0,.slice oa n ocap,.slice pa np pcap,.bool v1.ar,.int .i64 v1.fi,v1.bW,v1.bS,v1.bL,v1.bO] 94 (0,0))):=HT5.o.ref HB1.o (fun e=>HPP.o e);have y1b:w5.cell? ⟨P,4,none⟩=some (.slice pa np pcap):=zc HB5.o rfl;have f1b:=ze HB5.o 4;refine hK.out _ _ ?hs3 (fun hHeld=>?_)
  case hs3=>exact SD.o _ HT5.o
  clear hK K hown5 hgrow5 hat5
  try simp only [Act.put,lA,lB,lC,lD,lE,lF]
  refine zT 16 hHeld ?_;refine zT 17 hHeld ?_;refine zR 18 fun K hK=>?_
  (try simp only [lA,lB,lC])
  go_simp;refine hK.out _ _ ?hs4 (fun hHeld=>?_)
  case hs4=>
   exact zc (zg HB5.o _) rfl
  clear hK K
  try simp only [Act.put,lA,lB,lC,lD,lE,lF]
  refine wpAnyH_done (by kernel_rfl) ?_ _;have hB6:(w5.setCell ⟨P,4,none⟩ (.slice (some ⟨g,0,none⟩) (np+1) cap)).heap[P]?=some (.cells #[.pointer (some ⟨B,0,none⟩),wv1,.slice none 0 0,.slice oa n ocap,.slice (some ⟨g,0,none⟩) (np+1) cap,.bool v1.ar,.int .i64 v1.fi,v1.bW,v1.bS,v1.bL,v1.bO] 94 (0,0)):=zg HB5.o _;have hgP:g≠P:=by
   rcases HAT.o with h|h
   ·exact fun e=>HPP.o (by rw [<-e];exact h)
   ·omega
  have hO6:(w5.setCell ⟨P,4,none⟩ (.slice (some ⟨g,0,none⟩) (np+1) cap)).ownsRow 0 100 4 (.slice (some ⟨g,0,none⟩) (np+1) cap) (np+1) (css.flatten++[.int .i64 (n0:Int),.int .i64 (n:Int),.slice (some ⟨gn,0,none⟩) 1 ncap,.bool true]):=zi HOW.o (by simpa [lH] using hgP) _;have hT6:Turn (fun b=>b=P\/lH (.slice pa np pcap)=some b) w1 (w5.setCell ⟨P,4,none⟩ (.slice (some ⟨g,0,none⟩) (np+1) cap)):=lQ (S:=fun b=>b=P\/lH (.slice pa np pcap)=some b) (p:=⟨P,4,none⟩) (HT5.o.mono (fun _ _ e=>.inr e)) (fun _=>.inl rfl) _;generalize rC w5 _ _=w6 at hO6 hB6 hT6 hHeld ⊢;have HB6:Hd _:=hB6;have HO6:Hd _:=hO6;have HT6:=hid hT6;have HGP:=hid hgP;have hPl6:P<w6.heap.size:=(Array.getElem?_eq_some_iff.1 hB6).1;clear hO6 hT6 hHeld y1b f1b c4 c31 hgP;cases hrr:v1.ar with
  | false=>
   rw [hrr] at hB6;have HRR:=hid hrr;have z5:w6.cell? ⟨P,5,none⟩=some (.bool false):=zc hB6 rfl;have z1:w6.cell? ⟨P,1,none⟩=some wv1:=zc hB6 rfl;have f1:=ze hB6 1;have hB7:(w6.setCell ⟨P,1,none⟩ (.slice (some ⟨gn,0,none⟩) 1 ncap)).heap[P]?=some (.cells #[.pointer (some ⟨B,0,none⟩),.slice (some ⟨gn,0,none⟩) 1 ncap,.slice none 0 0,.slice oa n ocap,.slice (some ⟨g,0,none⟩) (np+1) cap,.bool false,.int .i64 v1.fi,v1.bW,v1.bS,v1.bL,v1.bO] 94 (0,0)):=zg hB6 _;have x5:(w6.setCell ⟨P,1,none⟩ (.slice (some ⟨gn,0,none⟩) 1 ncap)).cell? ⟨P,5,none⟩=some (.bool false):=zc hB7 rfl;have HB7:Hd _:=hB7;clear hB7 hB6 hrr;go_wp2_with fail
   all_goals go_wp2
   all_goals go_ret
   all_goals
    have hT7:Turn (fun b=>b=P\/v1.pv.ownBlock=some b) w1 (w6.setCell ⟨P,1,none⟩ (.slice (some ⟨gn,0,none⟩) 1 ncap)):=by rw [HPV.o];exact lQ (S:=fun b=>b=P\/lH (.slice pa np pcap)=some b) (p:=⟨P,1,none⟩) HT6.o (fun _=>.inl rfl) _
    have hOP:=zi HO6.o (a:=⟨P,1,none⟩) (by simpa [lH] using HGP.o) (.slice (some ⟨gn,0,none⟩) 1 ncap);have hB7:=HB7.o;rw [<-HRR.o] at hB7;generalize rC w6 _ _=w7 at hT7 hB7 hOP ⊢;have hGt:∀b,G1 b->¬(b=P\/v1.pv.ownBlock=some b):=fun b hb hor=>hor.elim (fun e=>HG.o.apart b (.inl e) hb) (fun e=>HG.o.apart b (.inr (.inl e)) hb)
    have hone7:OneIs w7 G1 (.slice (some ⟨gn,0,none⟩) 1 ncap) q':=by have h1:OneIs w1 G (.slice (some ⟨gn,0,none⟩) 1 ncap) q':=OneIs.turn ⟨gn,ncap,rfl,HON.o.1,HON.o.2.1⟩ HS.o.turn (fun b hb hor=>hor.elim (fun ho=>H0.o.apart b ho hb) (fun hl=>by have:=H0.o.ltG b hb;omega));exact(h1.mono HS.o.sub).turn hT7 hGt
    have href7:RefAt w7 G1 q' S' ls':=by have h1:RefAt w1 G q' S' ls':=HON.o.2.2.turn HS.o.turn (fun b hb hor=>hor.elim (fun ho=>H0.o.apart b ho hb) (fun hl=>by have:=H0.o.ltG b hb;omega));exact(h1.mono HS.o.sub).turn hT7 hGt
    have hpr7:PartRow w7 G1 (.slice (some ⟨g,0,none⟩) (np+1) cap) (np+1):=by
     refine⟨css++[[.int .i64 (n0:Int),.int .i64 (n:Int),.slice (some ⟨gn,0,none⟩) 1 ncap,.bool true]],by rw [List.flatten_append,sP,List.flatten_nil,rL];exact hOP,by rw [lW,HPI.o.1];rfl,fun cc hcc=>?_⟩;rcases sE.1 hcc with hcc|hcc
     ·exact(HPI.o.2.1 cc hcc).turn hT7 hGt
     ·rw [sJ.1 hcc];exact⟨n0,n,_,true,q',rfl,hone7⟩
    have hfin:=HG.o.upd (ar':=v1.ar) (fi':=v1.fi) (wv':=.slice (some ⟨gn,0,none⟩) 1 ncap) (pv':=.slice (some ⟨g,0,none⟩) (np+1) cap) (c':=c+1) hT7 (by rw [hB7];unfold Zp;rw [HOV.o]) (fun b hb=>hb) (fun b hb=>.inl hb) hone7 href7 hpr7 (by have:=HPI.o.2.2;omega) (lO _) (fun b hb=>by
     have hbg:g=b:=by simpa [lH] using hb
     subst hbg;rw [HPV.o];exact HAT.o)
    refine⟨zH (by simp [*]),_,_,hfin.1,HS.o.trans hfin.2 (fun b hb=>by omega),HAR.o.1,by rw [<-HAR.o.1,HRR.o];exact HAR.o.2⟩
  | true=>
   rw [hrr] at hB6;have HRR:=hid hrr;have z5:w6.cell? ⟨P,5,none⟩=some (.bool true):=zc hB6 rfl;have z6:w6.cell? ⟨P,6,none⟩=some (.int .i64 v1.fi):=zc hB6 rfl;have f6:=ze hB6 6;have HFF:Hd ((dn:Int)<=v1.fi/\v1.fi<=9223372036854775807):=by have h1:=HFI.o (by rw [<-HAR.o.1];exact hrr);rw [<-HAR.o.2] at h1;rw [<-HDN.o] at h1;exact h1
   have hff:=HFF.o;have hwf:IntKind.i64.wrap (v1.fi - (dn:Int))=v1.fi - (dn:Int):=by rw [rP];omega
   have hB7:(w6.setCell ⟨P,6,none⟩ (.int .i64 (v1.fi - (dn:Int)))).heap[P]?=some (.cells #[.pointer (some ⟨B,0,none⟩),wv1,.slice none 0 0,.slice oa n ocap,.slice (some ⟨g,0,none⟩) (np+1) cap,.bool true,.int .i64 (v1.fi - (dn:Int)),v1.bW,v1.bS,v1.bL,v1.bO] 94 (0,0)):=zg hB6 _;have z1:(w6.setCell ⟨P,6,none⟩ (.int .i64 (v1.fi - (dn:Int)))).cell? ⟨P,1,none⟩=some wv1:=zc hB7 rfl;have f1:=ze hB7 1;have hB8:((w6.setCell ⟨P,6,none⟩ (.int .i64 (v1.fi - (dn:Int)))).setCell ⟨P,1,none⟩ (.slice (some ⟨gn,0,none⟩) 1 ncap)).heap[P]?=some (.cells #[.pointer (some ⟨B,0,none⟩),.slice (some ⟨gn,0,none⟩) 1 ncap,.slice none 0 0,.slice oa n ocap,.slice (some ⟨g,0,none⟩) (np+1) cap,.bool true,.int .i64 (v1.fi - (dn:Int)),v1.bW,v1.bS,v1.bL,v1.bO] 94 (0,0)):=zg hB7 _;have x5:((w6.setCell ⟨P,6,none⟩ (.int .i64 (v1.fi - (dn:Int)))).setCell ⟨P,1,none⟩ (.slice (some ⟨gn,0,none⟩) 1 ncap)).cell? ⟨P,5,none⟩=some (.bool true):=zc hB8 rfl;have x6:((w6.setCell ⟨P,6,none⟩ (.int .i64 (v1.fi - (dn:Int)))).setCell ⟨P,1,none⟩ (.slice (some ⟨gn,0,none⟩) 1 ncap)).cell? ⟨P,6,none⟩=some (.int .i64 (v1.fi - (dn:Int))):=zc hB8 rfl;have HB8:Hd _:=hB8;have hx0:(0:Int)<=v1.fi - (dn:Int):=by omega
   clear hB8 hB7 hB6 hrr hff;go_wp2_with fail
   all_goals go_wp2
   all_goals go_ret
   all_goals
    have hT7:Turn (fun b=>b=P\/v1.pv.ownBlock=some b) w1 ((w6.setCell ⟨P,6,none⟩ (.int .i64 (v1.fi - (dn:Int)))).setCell ⟨P,1,none⟩ (.slice (some ⟨gn,0,none⟩) 1 ncap)):=by rw [HPV.o];exact lQ (S:=fun b=>b=P\/lH (.slice pa np pcap)=some b) (p:=⟨P,1,none⟩) (lQ (S:=fun b=>b=P\/lH (.slice pa np pcap)=some b) (p:=⟨P,6,none⟩) HT6.o (fun _=>.inl rfl) _) (fun _=>.inl rfl) _
    have hOP:=zi (zi HO6.o (a:=⟨P,6,none⟩) (by simpa [lH] using HGP.o) (.int .i64 (v1.fi - (dn:Int)))) (a:=⟨P,1,none⟩) (by simpa [lH] using HGP.o) (.slice (some ⟨gn,0,none⟩) 1 ncap);have hB7:=HB8.o;rw [<-HRR.o] at hB7;generalize rC (rC w6 _ _) _ _=w7 at hT7 hB7 hOP ⊢;have hGt:∀b,G1 b->¬(b=P\/v1.pv.ownBlock=some b):=fun b hb hor=>hor.elim (fun e=>HG.o.apart b (.inl e) hb) (fun e=>HG.o.apart b (.inr (.inl e)) hb)
    have hone7:OneIs w7 G1 (.slice (some ⟨gn,0,none⟩) 1 ncap) q':=by have h1:OneIs w1 G (.slice (some ⟨gn,0,none⟩) 1 ncap) q':=OneIs.turn ⟨gn,ncap,rfl,HON.o.1,HON.o.2.1⟩ HS.o.turn (fun b hb hor=>hor.elim (fun ho=>H0.o.apart b ho hb) (fun hl=>by have:=H0.o.ltG b hb;omega));exact(h1.mono HS.o.sub).turn hT7 hGt
    have href7:RefAt w7 G1 q' S' ls':=by have h1:RefAt w1 G q' S' ls':=HON.o.2.2.turn HS.o.turn (fun b hb hor=>hor.elim (fun ho=>H0.o.apart b ho hb) (fun hl=>by have:=H0.o.ltG b hb;omega));exact(h1.mono HS.o.sub).turn hT7 hGt
    have hpr7:PartRow w7 G1 (.slice (some ⟨g,0,none⟩) (np+1) cap) (np+1):=by
     refine⟨css++[[.int .i64 (n0:Int),.int .i64 (n:Int),.slice (some ⟨gn,0,none⟩) 1 ncap,.bool true]],by rw [List.flatten_append,sP,List.flatten_nil,rL];exact hOP,by rw [lW,HPI.o.1];rfl,fun cc hcc=>?_⟩;rcases sE.1 hcc with hcc|hcc
     ·exact(HPI.o.2.1 cc hcc).turn hT7 hGt
     ·rw [sJ.1 hcc];exact⟨n0,n,_,true,q',rfl,hone7⟩
    have hfin:=HG.o.upd (ar':=v1.ar) (fi':=v1.fi - (dn:Int)) (wv':=.slice (some ⟨gn,0,none⟩) 1 ncap) (pv':=.slice (some ⟨g,0,none⟩) (np+1) cap) (c':=c+1) hT7 (by rw [hB7];unfold Zp;rw [HOV.o]) (fun b hb=>hb) (fun b hb=>.inl hb) hone7 href7 hpr7 (by have:=HPI.o.2.2;omega) (lO _) (fun b hb=>by
     have hbg:g=b:=by simpa [lH] using hb
     subst hbg;rw [HPV.o];exact HAT.o)
    refine⟨zH (by simp [*,HFF.o.1]),_,_,hfin.1,HS.o.trans hfin.2 (fun b hb=>by omega),HAR.o.1,by rw [<-HAR.o.1,HRR.o,<-HAR.o.2,<-HDN.o];rfl⟩
theorem YL {R:List StkR}{ls' lsx:List LsV}{ops:List OpV}(h:GameOf w P B G v q S ls ops0 c)(hc:c<=900000)(hst:StoreOk w B F R lsx ops fl' ah')(hn:ops.length<=1000000)(new:List OpV)(hnew:ops=ops0++new)(har:v.ar=true)(hfi:v.fi=(new.length:Int))(nv:Value)(q':Nat)(S':List Stk)(hone:OneIs w G nv q')(href:RefAt w G q' S' ls')(sm:Bool) :
  Calls Tryz.prog 104 #[.pointer (some ⟨P,0,none⟩),.int .i64 10,nv,.bool sm] w fun e w'=>e=.returned (.bool true)/\∃v' G',GameOf w' P B G' v' q S ls ops (c+1)/\GStep (fun b=>w.heap.size<=b) w w' P v v' G G'/\v'.ar=false:=by
 have HD:Hd (∀w',w=w'->_):=fun w' e=>by subst e;exact yo h hc hst hn ⟨new,hnew⟩
 obtain⟨k0,hk0i,hw0,hw1,hw2⟩:=info_parts XT;obtain⟨a,cap,c3⟩:=h.ops_cell;have hPl:=lG w _ c3;obtain⟨gn,ncap,rfl,hgn,hnc⟩:=hone;have HON:Hd (G gn/\w.cell? ⟨gn,0,none⟩=some (.pointer (some ⟨q',0,none⟩))/\RefAt w G q' S' ls'):=⟨hgn,hnc,href⟩
 have H0:=hid h;have hlen:ops0.length<=ops.length:=by rw [hnew,lW];omega
 have hnl:ops.length - ops0.length=new.length:=by rw [hnew,lW];omega
 clear h hst hnew hgn hnc href;obtain⟨n0,hn0⟩:∃n,ops0.length=n:=⟨_,rfl⟩
 obtain⟨n,hnn⟩:∃n,ops.length=n:=⟨_,rfl⟩
 have HNN:=hid hnn;rw [hn0] at c3 hlen hnl;rw [hnn] at hn hlen hnl;have HNL:=hid hnl;have HFI:Hd (v.ar=true/\v.fi=(new.length:Int)):=⟨har,hfi⟩
 clear hnl hfi har;clear hn0 hnn;go_enter func104,ntmps104;go_wp2_with fail
 refine(HD.o _ rfl).mono ?_;rintro e w1 ⟨rfl,v1,G1,hg,hs,hwv,hpv,har1,hfi1⟩;obtain⟨oa,ocap,c31⟩:=hg.ops_cell;rw [HNN.o] at c31;have hPl1:=lG w1 _ c31;obtain⟨np,hnp,css,hpr,hcl,hpi⟩:=hg.prow;obtain⟨pa,pcap,hpvE⟩:=zo hpr;have HG:=hid hg;have HS:=hid hs;have HPR:Hd (w1.ownsRow 0 100 4 (.slice pa np pcap) np css.flatten):=by
  show lR _ _ _ _ _ _ _
  rw [<-hpvE];exact hpr
 have HPI:Hd (css.length=np/\(∀c∈css,PartIs w1 G1 c)/\np<=c):=⟨hcl,hpi,by
  obtain⟨np2,h1,css2,h2,_⟩:=H0.o.prow;have e1:=hpr;rw [hpv] at e1;have h3:=HS.o.turn.size;have:np2=np:=by
   rw [hpv] at hpvE;obtain⟨pa2,pcap2,e2⟩:=zo h2;rw [hpvE] at e2;injection e2 with _ e2 _
   exact e2.symm
  omega⟩
 have HPV:=hid hpvE;have hblk:=hg.blk;unfold Zp at hblk;rw [hpvE] at hblk;obtain⟨oa2,ocap2,hov,_⟩:=hg.orow;have hovE:v1.ov=.slice oa n ocap:=by
  have e1:w1.cell? ⟨P,3,none⟩=some v1.ov:=zc hg.blk rfl;rw [c31] at e1;injection e1 with e1
  exact e1.symm
 rw [hovE] at hblk;obtain⟨wv1,hwv1⟩:∃x,v1.wv=x:=⟨_,rfl⟩
 rw [hwv1] at hblk;have HB1:Hd _:=hblk;have HWV:=hid hwv1;have HOV:=hid hovE;have HPP:Hd (lH (.slice pa np pcap)≠some P):=Zk (B:=P) hblk HPR.o (by decide);have hsz1:=HS.o.turn.size;have c4:w1.cell? ⟨P,4,none⟩=some (.slice pa np pcap):=zc hblk rfl;have hsub:IntKind.i64.wrap ((n:Int) - (n0:Int))=((n - n0:Nat):Int):=by rw [rP];omega
 obtain⟨dn,hdn⟩:∃d,n - n0=d:=⟨_,rfl⟩
 rw [hdn] at hsub;have HDN:Hd (dn=new.length):=by show dn=_;rw [<-hdn];exact HNL.o
 have HAR:Hd (v1.ar=v.ar/\v1.fi=v.fi):=⟨har1,hfi1⟩
 have hnpb:np<=900000:=by have:=HPI.o.2.2;omega
 clear har1 hfi1 hg hs hwv hpv hpr hcl hpi hpvE hblk hov hovE hdn hwv1 hnp;go_wp2_with fail
 all_goals
  have SD:Hd (∀w',Turn (fun b=>lH (.slice pa np pcap)=some b) w1 w'->(fun w'=>w'.cell? ⟨P,3,none⟩=some (.slice oa n ocap)) w'):=fun w' hx=>hx.cell c31 (fun e=>HPP.o e)
  refine wp_region_held_drew (S:=(fun w'=>w'.cell? ⟨P,3,none⟩=some (.slice oa n ocap))) (by kernel_rfl) c31 (fun hHeld=>?_);refine zT 0 hHeld ?_;refine zT 1 hHeld ?_;refine zT 2 hHeld ?_;refine zT 3 hHeld ?_;refine zT 5 hHeld ?_;refine zT 6 hHeld ?_;refine zT 7 hHeld ?_;refine zT 8 hHeld ?_;refine zT 9 hHeld ?_;refine zT 10 hHeld ?_;refine zT 11 hHeld ?_;refine zT 12 hHeld ?_;refine zT 13 hHeld ?_;refine wpAnyH_ready (rs:=[4,14]) (by kernel_rfl) (by simp) ?_;refine sD (o:=_) rfl (fun K hK=>?_) (sD (o:=_) rfl (fun K hK=>?_) AllReadyH.nil)
  ·skip
   (try simp only [lA,lB,lC])
   go_simp;refine hK.out _ _ ?hs1 (fun hHeld=>?_)
   case hs1=>exact SD.o _ (lM (lJ (lI _)))
   clear hK K
   try simp only [Act.put,lA,lB,lC,lD,lE,lF]
   refine zR 14 fun K hK=>?_
   (try simp only [lA,lB,lC])
   go_simp;refine hK.out _ _ ?hs2 (fun hHeld=>?_)
   case hs2=>exact SD.o _ (lM (lJ (lK (lI _) _)))
   clear hK K
   try simp only [Act.put,lA,lB,lC,lD,lE,lF]
   refine zR 15 fun K hK=>?_
   refine step_append_lies _ (by rfl) _ _ 86 (by rfl) 0 100 k0 _ 4 48 underlying86 hk0i hw0 hw1 hw2 (by rfl) (by decide) (.slice pa np pcap) np css.flatten (by rfl) (rE (lJ (lK (lI _) _)) HPR.o) ⟨_,0,none⟩ 1 1 [.int .i64 (n0:Int),.int .i64 (n:Int),.slice (some ⟨gn,0,none⟩) 1 ncap,.bool false] (by rfl) (by rfl) (rI (zy (heap_alloc_new _ _))) (by simp [Value.oneCell']) (by decide) (by unfold maxLen;omega) (by omega) (lT _) _ rfl ?_;intro g cap w5 hown5 hgrow5 hat5 hlt5;have HT5:Hd (Turn (fun b=>lH (.slice pa np pcap)=some b) w1 w5):=rJ (lM (lJ (lK (lI _) _))) hgrow5 (fun q hq _=>hq);have HOW:=hid hown5;have HAT:Hd (lH (.slice pa np pcap)=some g\/w1.heap.size<=g):=by
    rcases hat5 with h|h
    ·exact .inl h
    ·exact .inr (by rw [h];exact(lM (lJ (lK (lI _) _)):Turn (fun _=>False) w1 _).size)
   have HB5:Hd (w5.heap[P]?=some (.cells #[.pointer (some ⟨B,0,none⟩),wv1,.slice none 0 0,.slice oa n ocap,.slice pa np pcap,.bool v1.ar,.int .i64 v1.fi,v1.bW,v1.bS,v1.bL,v1.bO] 94 (0,0))):=HT5.o.ref HB1.o (fun e=>HPP.o e);have y1b:w5.cell? ⟨P,4,none⟩=some (.slice pa np pcap):=zc HB5.o rfl;have f1b:=ze HB5.o 4;refine hK.out _ _ ?hs3 (fun hHeld=>?_)
   case hs3=>exact SD.o _ HT5.o
   clear hK K hown5 hgrow5 hat5
   try simp only [Act.put,lA,lB,lC,lD,lE,lF]
   refine zT 16 hHeld ?_;refine zT 17 hHeld ?_;refine zR 18 fun K hK=>?_
   (try simp only [lA,lB,lC])
   go_simp;refine hK.out _ _ ?hs4 (fun hHeld=>?_)
   case hs4=>
    exact zc (zg HB5.o _) rfl
   clear hK K
   try simp only [Act.put,lA,lB,lC,lD,lE,lF]
   refine wpAnyH_done (by kernel_rfl) ?_ _;have hB6:(w5.setCell ⟨P,4,none⟩ (.slice (some ⟨g,0,none⟩) (np+1) cap)).heap[P]?=some (.cells #[.pointer (some ⟨B,0,none⟩),wv1,.slice none 0 0,.slice oa n ocap,.slice (some ⟨g,0,none⟩) (np+1) cap,.bool v1.ar,.int .i64 v1.fi,v1.bW,v1.bS,v1.bL,v1.bO] 94 (0,0)):=zg HB5.o _;have hgP:g≠P:=by
    rcases HAT.o with h|h
    ·exact fun e=>HPP.o (by rw [<-e];exact h)
    ·omega
   have hO6:(w5.setCell ⟨P,4,none⟩ (.slice (some ⟨g,0,none⟩) (np+1) cap)).ownsRow 0 100 4 (.slice (some ⟨g,0,none⟩) (np+1) cap) (np+1) (css.flatten++[.int .i64 (n0:Int),.int .i64 (n:Int),.slice (some ⟨gn,0,none⟩) 1 ncap,.bool false]):=zi HOW.o (by simpa [lH] using hgP) _;have hT6:Turn (fun b=>b=P\/lH (.slice pa np pcap)=some b) w1 (w5.setCell ⟨P,4,none⟩ (.slice (some ⟨g,0,none⟩) (np+1) cap)):=lQ (S:=fun b=>b=P\/lH (.slice pa np pcap)=some b) (p:=⟨P,4,none⟩) (HT5.o.mono (fun _ _ e=>.inr e)) (fun _=>.inl rfl) _;generalize rC w5 _ _=w6 at hO6 hB6 hT6 hHeld ⊢;have HB6:Hd _:=hB6;have HO6:Hd _:=hO6;have HT6:=hid hT6;have HGP:=hid hgP;have hPl6:P<w6.heap.size:=(Array.getElem?_eq_some_iff.1 hB6).1;have hff:v1.ar=true/\v1.fi=(dn:Int):=by rw [HAR.o.1,HAR.o.2,HDN.o];exact HFI.o
   rw [hff.1,hff.2] at hB6;have z5:w6.cell? ⟨P,5,none⟩=some (.bool true):=zc hB6 rfl;have z6:w6.cell? ⟨P,6,none⟩=some (.int .i64 (dn:Int)):=zc hB6 rfl;have f5:=ze hB6 5;have hB7:(w6.setCell ⟨P,5,none⟩ (.bool false)).heap[P]?=some (.cells #[.pointer (some ⟨B,0,none⟩),wv1,.slice none 0 0,.slice oa n ocap,.slice (some ⟨g,0,none⟩) (np+1) cap,.bool false,.int .i64 (dn:Int),v1.bW,v1.bS,v1.bL,v1.bO] 94 (0,0)):=zg hB6 _;have HB7:Hd _:=hB7;have HFF:Hd (v1.fi=(dn:Int)):=hff.2;clear hO6 hT6 hHeld y1b f1b c4 c31 hgP hB7 hB6 hff;go_wp2_with fail
   all_goals go_wp2
   all_goals go_ret
   all_goals
    have hT7:Turn (fun b=>b=P\/v1.pv.ownBlock=some b) w1 (w6.setCell ⟨P,5,none⟩ (.bool false)):=by rw [HPV.o];exact lQ (S:=fun b=>b=P\/lH (.slice pa np pcap)=some b) (p:=⟨P,5,none⟩) HT6.o (fun _=>.inl rfl) _
    have hOP:=zi HO6.o (a:=⟨P,5,none⟩) (by simpa [lH] using HGP.o) (.bool false);have hB7:=HB7.o;rw [<-HFF.o] at hB7;generalize rC w6 _ _=w7 at hT7 hB7 hOP ⊢;have hGt:∀b,G1 b->¬(b=P\/v1.pv.ownBlock=some b):=fun b hb hor=>hor.elim (fun e=>HG.o.apart b (.inl e) hb) (fun e=>HG.o.apart b (.inr (.inl e)) hb)
    have hone7:OneIs w7 G1 (.slice (some ⟨gn,0,none⟩) 1 ncap) q':=by have h1:OneIs w1 G (.slice (some ⟨gn,0,none⟩) 1 ncap) q':=OneIs.turn ⟨gn,ncap,rfl,HON.o.1,HON.o.2.1⟩ HS.o.turn (fun b hb hor=>hor.elim (fun ho=>H0.o.apart b ho hb) (fun hl=>by have:=H0.o.ltG b hb;omega));exact(h1.mono HS.o.sub).turn hT7 hGt
    have href7:RefAt w7 G1 q' S' ls':=by have h1:RefAt w1 G q' S' ls':=HON.o.2.2.turn HS.o.turn (fun b hb hor=>hor.elim (fun ho=>H0.o.apart b ho hb) (fun hl=>by have:=H0.o.ltG b hb;omega));exact(h1.mono HS.o.sub).turn hT7 hGt
    have hpr7:PartRow w7 G1 (.slice (some ⟨g,0,none⟩) (np+1) cap) (np+1):=by
     refine⟨css++[[.int .i64 (n0:Int),.int .i64 (n:Int),.slice (some ⟨gn,0,none⟩) 1 ncap,.bool false]],by rw [List.flatten_append,sP,List.flatten_nil,rL];exact hOP,by rw [lW,HPI.o.1];rfl,fun cc hcc=>?_⟩;rcases sE.1 hcc with hcc|hcc
     ·exact(HPI.o.2.1 cc hcc).turn hT7 hGt
     ·rw [sJ.1 hcc];exact⟨n0,n,_,false,q',rfl,hone7⟩
    have hwr7:OneIs w7 G1 v1.wv q:=HG.o.wrow.turn hT7 hGt;have hrf7:RefAt w7 G1 q S ls:=HG.o.ref.turn hT7 hGt;have hfin:=HG.o.upd (ar':=false) (fi':=v1.fi) (wv':=v1.wv) (pv':=.slice (some ⟨g,0,none⟩) (np+1) cap) (c':=c+1) hT7 (by rw [hB7];unfold Zp;rw [HOV.o,HWV.o]) (fun b hb=>hb) (fun b hb=>.inl hb) hwr7 hrf7 hpr7 (by have:=HPI.o.2.2;omega) (lO _) (fun b hb=>by
     have hbg:g=b:=by simpa [lH] using hb
     subst hbg;rw [HPV.o];exact HAT.o)
    refine⟨zH (by simp [*]),_,_,hfin.1,HS.o.trans hfin.2 (fun b hb=>by omega),rfl⟩
  ·skip
   (try simp only [lA,lB,lC])
   go_simp;refine hK.out _ _ ?hs1 (fun hHeld=>?_)
   case hs1=>exact SD.o _ (lM (lJ (lK (lI _) _)))
   clear hK K
   try simp only [Act.put,lA,lB,lC,lD,lE,lF]
   refine zR 4 fun K hK=>?_
   (try simp only [lA,lB,lC])
   go_simp;refine hK.out _ _ ?hs2 (fun hHeld=>?_)
   case hs2=>exact SD.o _ (lM (lJ (lK (lI _) _)))
   clear hK K
   try simp only [Act.put,lA,lB,lC,lD,lE,lF]
   refine zR 15 fun K hK=>?_
   refine step_append_lies _ (by rfl) _ _ 86 (by rfl) 0 100 k0 _ 4 48 underlying86 hk0i hw0 hw1 hw2 (by rfl) (by decide) (.slice pa np pcap) np css.flatten (by rfl) (rE (lJ (lK (lI _) _)) HPR.o) ⟨_,0,none⟩ 1 1 [.int .i64 (n0:Int),.int .i64 (n:Int),.slice (some ⟨gn,0,none⟩) 1 ncap,.bool false] (by rfl) (by rfl) (rI (zy (heap_alloc_new _ _))) (by simp [Value.oneCell']) (by decide) (by unfold maxLen;omega) (by omega) (lT _) _ rfl ?_;intro g cap w5 hown5 hgrow5 hat5 hlt5;have HT5:Hd (Turn (fun b=>lH (.slice pa np pcap)=some b) w1 w5):=rJ (lM (lJ (lK (lI _) _))) hgrow5 (fun q hq _=>hq);have HOW:=hid hown5;have HAT:Hd (lH (.slice pa np pcap)=some g\/w1.heap.size<=g):=by
    rcases hat5 with h|h
    ·exact .inl h
    ·exact .inr (by rw [h];exact(lM (lJ (lK (lI _) _)):Turn (fun _=>False) w1 _).size)
   have HB5:Hd (w5.heap[P]?=some (.cells #[.pointer (some ⟨B,0,none⟩),wv1,.slice none 0 0,.slice oa n ocap,.slice pa np pcap,.bool v1.ar,.int .i64 v1.fi,v1.bW,v1.bS,v1.bL,v1.bO] 94 (0,0))):=HT5.o.ref HB1.o (fun e=>HPP.o e);have y1b:w5.cell? ⟨P,4,none⟩=some (.slice pa np pcap):=zc HB5.o rfl;have f1b:=ze HB5.o 4;refine hK.out _ _ ?hs3 (fun hHeld=>?_)
   case hs3=>exact SD.o _ HT5.o
   clear hK K hown5 hgrow5 hat5
   try simp only [Act.put,lA,lB,lC,lD,lE,lF]
   refine zT 16 hHeld ?_;refine zT 17 hHeld ?_;refine zR 18 fun K hK=>?_
   (try simp only [lA,lB,lC])
   go_simp;refine hK.out _ _ ?hs4 (fun hHeld=>?_)
   case hs4=>
    exact zc (zg HB5.o _) rfl
   clear hK K
   try simp only [Act.put,lA,lB,lC,lD,lE,lF]
   refine wpAnyH_done (by kernel_rfl) ?_ _;have hB6:(w5.setCell ⟨P,4,none⟩ (.slice (some ⟨g,0,none⟩) (np+1) cap)).heap[P]?=some (.cells #[.pointer (some ⟨B,0,none⟩),wv1,.slice none 0 0,.slice oa n ocap,.slice (some ⟨g,0,none⟩) (np+1) cap,.bool v1.ar,.int .i64 v1.fi,v1.bW,v1.bS,v1.bL,v1.bO] 94 (0,0)):=zg HB5.o _;have hgP:g≠P:=by
    rcases HAT.o with h|h
    ·exact fun e=>HPP.o (by rw [<-e];exact h)
    ·omega
   have hO6:(w5.setCell ⟨P,4,none⟩ (.slice (some ⟨g,0,none⟩) (np+1) cap)).ownsRow 0 100 4 (.slice (some ⟨g,0,none⟩) (np+1) cap) (np+1) (css.flatten++[.int .i64 (n0:Int),.int .i64 (n:Int),.slice (some ⟨gn,0,none⟩) 1 ncap,.bool false]):=zi HOW.o (by simpa [lH] using hgP) _;have hT6:Turn (fun b=>b=P\/lH (.slice pa np pcap)=some b) w1 (w5.setCell ⟨P,4,none⟩ (.slice (some ⟨g,0,none⟩) (np+1) cap)):=lQ (S:=fun b=>b=P\/lH (.slice pa np pcap)=some b) (p:=⟨P,4,none⟩) (HT5.o.mono (fun _ _ e=>.inr e)) (fun _=>.inl rfl) _;generalize rC w5 _ _=w6 at hO6 hB6 hT6 hHeld ⊢;have HB6:Hd _:=hB6;have HO6:Hd _:=hO6;have HT6:=hid hT6;have HGP:=hid hgP;have hPl6:P<w6.heap.size:=(Array.getElem?_eq_some_iff.1 hB6).1;have hff:v1.ar=true/\v1.fi=(dn:Int):=by rw [HAR.o.1,HAR.o.2,HDN.o];exact HFI.o
   rw [hff.1,hff.2] at hB6;have z5:w6.cell? ⟨P,5,none⟩=some (.bool true):=zc hB6 rfl;have z6:w6.cell? ⟨P,6,none⟩=some (.int .i64 (dn:Int)):=zc hB6 rfl;have f5:=ze hB6 5;have hB7:(w6.setCell ⟨P,5,none⟩ (.bool false)).heap[P]?=some (.cells #[.pointer (some ⟨B,0,none⟩),wv1,.slice none 0 0,.slice oa n ocap,.slice (some ⟨g,0,none⟩) (np+1) cap,.bool false,.int .i64 (dn:Int),v1.bW,v1.bS,v1.bL,v1.bO] 94 (0,0)):=zg hB6 _;have HB7:Hd _:=hB7;have HFF:Hd (v1.fi=(dn:Int)):=hff.2;clear hO6 hT6 hHeld y1b f1b c4 c31 hgP hB7 hB6 hff;go_wp2_with fail
   all_goals go_wp2
   all_goals go_ret
   all_goals
    have hT7:Turn (fun b=>b=P\/v1.pv.ownBlock=some b) w1 (w6.setCell ⟨P,5,none⟩ (.bool false)):=by rw [HPV.o];exact lQ (S:=fun b=>b=P\/lH (.slice pa np pcap)=some b) (p:=⟨P,5,none⟩) HT6.o (fun _=>.inl rfl) _
    have hOP:=zi HO6.o (a:=⟨P,5,none⟩) (by simpa [lH] using HGP.o) (.bool false);have hB7:=HB7.o;rw [<-HFF.o] at hB7;generalize rC w6 _ _=w7 at hT7 hB7 hOP ⊢;have hGt:∀b,G1 b->¬(b=P\/v1.pv.ownBlock=some b):=fun b hb hor=>hor.elim (fun e=>HG.o.apart b (.inl e) hb) (fun e=>HG.o.apart b (.inr (.inl e)) hb)
    have hone7:OneIs w7 G1 (.slice (some ⟨gn,0,none⟩) 1 ncap) q':=by have h1:OneIs w1 G (.slice (some ⟨gn,0,none⟩) 1 ncap) q':=OneIs.turn ⟨gn,ncap,rfl,HON.o.1,HON.o.2.1⟩ HS.o.turn (fun b hb hor=>hor.elim (fun ho=>H0.o.apart b ho hb) (fun hl=>by have:=H0.o.ltG b hb;omega));exact(h1.mono HS.o.sub).turn hT7 hGt
    have href7:RefAt w7 G1 q' S' ls':=by have h1:RefAt w1 G q' S' ls':=HON.o.2.2.turn HS.o.turn (fun b hb hor=>hor.elim (fun ho=>H0.o.apart b ho hb) (fun hl=>by have:=H0.o.ltG b hb;omega));exact(h1.mono HS.o.sub).turn hT7 hGt
    have hpr7:PartRow w7 G1 (.slice (some ⟨g,0,none⟩) (np+1) cap) (np+1):=by
     refine⟨css++[[.int .i64 (n0:Int),.int .i64 (n:Int),.slice (some ⟨gn,0,none⟩) 1 ncap,.bool false]],by rw [List.flatten_append,sP,List.flatten_nil,rL];exact hOP,by rw [lW,HPI.o.1];rfl,fun cc hcc=>?_⟩;rcases sE.1 hcc with hcc|hcc
     ·exact(HPI.o.2.1 cc hcc).turn hT7 hGt
     ·rw [sJ.1 hcc];exact⟨n0,n,_,false,q',rfl,hone7⟩
    have hwr7:OneIs w7 G1 v1.wv q:=HG.o.wrow.turn hT7 hGt;have hrf7:RefAt w7 G1 q S ls:=HG.o.ref.turn hT7 hGt;have hfin:=HG.o.upd (ar':=false) (fi':=v1.fi) (wv':=v1.wv) (pv':=.slice (some ⟨g,0,none⟩) (np+1) cap) (c':=c+1) hT7 (by rw [hB7];unfold Zp;rw [HOV.o,HWV.o]) (fun b hb=>hb) (fun b hb=>.inl hb) hwr7 hrf7 hpr7 (by have:=HPI.o.2.2;omega) (lO _) (fun b hb=>by
     have hbg:g=b:=by simpa [lH] using hb
     subst hbg;rw [HPV.o];exact HAT.o)
    refine⟨zH (by simp [*]),_,_,hfin.1,HS.o.trans hfin.2 (fun b hb=>by omega),rfl⟩
theorem V2 {R:List StkR}{ls' lsx:List LsV}(h:GameOf w P B G v q S ls ops0 c)(hc:c<=900000)(hst:StoreOk w B F R lsx ops0 fl' ah')(hn:ops0.length<=1000000)(hfi:v.ar=true->0<=v.fi/\v.fi<=9223372036854775807)(nv:Value)(q':Nat)(S':List Stk)(hone:OneIs w G nv q')(href:RefAt w G q' S' ls') :
  Calls Tryz.prog 104 #[.pointer (some ⟨P,0,none⟩),.int .i64 0,nv,.bool false] w fun e w'=>e=.returned (.bool true)/\∃v' G',GameOf w' P B G' v' q' S' ls' ops0 (c+1)/\GStep (fun b=>w.heap.size<=b) w w' P v v' G G'/\v'.ar=v.ar/\v'.fi=v.fi:=by
 have HD:Hd (∀w',w=w'->_):=fun w' e=>by subst e;exact yo h hc hst hn ⟨[],(rL _).symm⟩
 obtain⟨a,cap,c3⟩:=h.ops_cell;have hPl:=lG w _ c3;obtain⟨gn,ncap,rfl,hgn,hnc⟩:=hone;have HON:Hd (G gn/\w.cell? ⟨gn,0,none⟩=some (.pointer (some ⟨q',0,none⟩))/\RefAt w G q' S' ls'):=⟨hgn,hnc,href⟩
 have H0:=hid h;clear h hst hgn hnc href;obtain⟨n0,hn0⟩:∃n,ops0.length=n:=⟨_,rfl⟩
 have HNN:=hid hn0;rw [hn0] at c3 hn;have HFI:=hid hfi;clear hfi hn0;go_enter func104,ntmps104;go_wp2_with fail
 refine(HD.o _ rfl).mono ?_;rintro e w1 ⟨rfl,v1,G1,hg,hs,hwv,hpv,har1,hfi1⟩;obtain⟨oa,ocap,c31⟩:=hg.ops_cell;rw [HNN.o] at c31;have hPl1:=lG w1 _ c31;obtain⟨np,hnp,hpr⟩:=hg.prow;have HG:=hid hg;have HS:=hid hs;have HPR:=hid hpr;have HNP:=hid hnp;have hblk:=hg.blk;unfold Zp at hblk;have HB1:Hd _:=hblk;have hsub:IntKind.i64.wrap ((n0:Int) - (n0:Int))=0:=by rw [rP];omega
 have HAR:Hd (v1.ar=v.ar/\v1.fi=v.fi):=⟨har1,hfi1⟩
 clear har1 hfi1 hg hs hwv hpv hpr hnp hblk;have TAIL:Hd (∀w7,Turn (fun b=>b=P\/v1.pv.ownBlock=some b) w1 w7->w7.heap[P]?=some (.cells #[.pointer (some ⟨B,0,none⟩),.slice (some ⟨gn,0,none⟩) 1 ncap,.slice none 0 0,v1.ov,v1.pv,.bool v1.ar,.int .i64 v1.fi,v1.bW,v1.bS,v1.bL,v1.bO] 94 (0,0))->(∀pv xs,w1.ownsRow 0 100 4 pv np xs->pv.ownBlock≠some P->w7.ownsRow 0 100 4 pv np xs)->∃v' G',GameOf w7 P B G' v' q' S' ls' ops0 (c+1)/\GStep (fun b=>w.heap.size<=b) w w7 P v v' G G'/\v'.ar=v.ar/\v'.fi=v.fi):=by
  intro w7 hT7 hB7 hO7;have hsz1:=HS.o.turn.size;have hGt:∀b,G1 b->¬(b=P\/v1.pv.ownBlock=some b):=fun b hb hor=>hor.elim (fun e=>HG.o.apart b (.inl e) hb) (fun e=>HG.o.apart b (.inr (.inl e)) hb)
  have hone7:OneIs w7 G1 (.slice (some ⟨gn,0,none⟩) 1 ncap) q':=by have h1:OneIs w1 G (.slice (some ⟨gn,0,none⟩) 1 ncap) q':=OneIs.turn ⟨gn,ncap,rfl,HON.o.1,HON.o.2.1⟩ HS.o.turn (fun b hb hor=>hor.elim (fun ho=>H0.o.apart b ho hb) (fun hl=>by have:=H0.o.ltG b hb;omega));exact(h1.mono HS.o.sub).turn hT7 hGt
  have href7:RefAt w7 G1 q' S' ls':=by have h1:RefAt w1 G q' S' ls':=HON.o.2.2.turn HS.o.turn (fun b hb hor=>hor.elim (fun ho=>H0.o.apart b ho hb) (fun hl=>by have:=H0.o.ltG b hb;omega));exact(h1.mono HS.o.sub).turn hT7 hGt
  obtain⟨css,hpo,hcl,hpi⟩:=HPR.o;have hPP:v1.pv.ownBlock≠some P:=fun e=>Zk (B:=P) HB1.o hpo (by decide) e
  have hpr7:PartRow w7 G1 v1.pv np:=⟨css,hO7 _ _ hpo hPP,hcl,fun cc hcc=>(hpi cc hcc).turn hT7 hGt⟩
  have hfin:=HG.o.upd (ar':=v1.ar) (fi':=v1.fi) (wv':=.slice (some ⟨gn,0,none⟩) 1 ncap) (pv':=v1.pv) (c':=c+1) hT7 (by rw [hB7];rfl) (fun b hb=>hb) (fun b hb=>.inl hb) hone7 href7 hpr7 HNP.o (lO _) (fun b hb=>.inl hb);exact⟨_,_,hfin.1,HS.o.trans hfin.2 (fun b hb=>by omega),HAR.o.1,HAR.o.2⟩
 have hf0:=HFI.o;rw [<-HAR.o.1,<-HAR.o.2] at hf0;obtain⟨oa2,ocap2,hov,_⟩:=HG.o.orow;have hovE:v1.ov=.slice oa n0 ocap:=by
  have e1:w1.cell? ⟨P,3,none⟩=some v1.ov:=zc HG.o.blk rfl;rw [c31] at e1;injection e1 with e1
  exact e1.symm
 have HOV:=hid hovE;obtain⟨wv1,hwv1⟩:∃x,v1.wv=x:=⟨_,rfl⟩
 have hB0:=HB1.o;rw [hwv1,hovE] at hB0;clear hov hovE;cases hrr:v1.ar with
 | false=>
  rw [hrr] at hB0;have z5:w1.cell? ⟨P,5,none⟩=some (.bool false):=zc hB0 rfl;have z1:w1.cell? ⟨P,1,none⟩=some wv1:=zc hB0 rfl;have f1:=ze hB0 1;have hB7:(w1.setCell ⟨P,1,none⟩ (.slice (some ⟨gn,0,none⟩) 1 ncap)).heap[P]?=some (.cells #[.pointer (some ⟨B,0,none⟩),.slice (some ⟨gn,0,none⟩) 1 ncap,.slice none 0 0,.slice oa n0 ocap,v1.pv,.bool false,.int .i64 v1.fi,v1.bW,v1.bS,v1.bL,v1.bO] 94 (0,0)):=zg hB0 _;have x5:(w1.setCell ⟨P,1,none⟩ (.slice (some ⟨gn,0,none⟩) 1 ncap)).cell? ⟨P,5,none⟩=some (.bool false):=zc hB7 rfl;have HF:Hd _:=TAIL.o _ (lQ (S:=fun b=>b=P\/v1.pv.ownBlock=some b) (p:=⟨P,1,none⟩) (rD _ w1) (fun _=>.inl rfl) _) (by rw [hrr,HOV.o];exact hB7) (fun _ _ ho hp=>zi ho hp _);clear hB7 hB0 hrr hf0 TAIL;go_wp2_with fail
  all_goals go_wp2
  all_goals go_ret
  all_goals exact⟨zH (by simp [*]),HF.o⟩
 | true=>
  rw [hrr] at hB0;obtain⟨fi,hfi⟩:∃x,v1.fi=x:=⟨_,rfl⟩
  have hff:=hf0 hrr;rw [hfi] at hff hB0;have hff1:=hff.1;have hwf:IntKind.i64.wrap (fi - 0)=fi:=by rw [rP];omega
  have hwf2:IntKind.i64.wrap fi=fi:=by rw [rP];omega
  have z5:w1.cell? ⟨P,5,none⟩=some (.bool true):=zc hB0 rfl;have z6:w1.cell? ⟨P,6,none⟩=some (.int .i64 fi):=zc hB0 rfl;have f6:=ze hB0 6;have hB7:(w1.setCell ⟨P,6,none⟩ (.int .i64 fi)).heap[P]?=some (.cells #[.pointer (some ⟨B,0,none⟩),wv1,.slice none 0 0,.slice oa n0 ocap,v1.pv,.bool true,.int .i64 fi,v1.bW,v1.bS,v1.bL,v1.bO] 94 (0,0)):=zg hB0 _;have z1:(w1.setCell ⟨P,6,none⟩ (.int .i64 fi)).cell? ⟨P,1,none⟩=some wv1:=zc hB7 rfl;have f1:=ze hB7 1;have hB8:((w1.setCell ⟨P,6,none⟩ (.int .i64 fi)).setCell ⟨P,1,none⟩ (.slice (some ⟨gn,0,none⟩) 1 ncap)).heap[P]?=some (.cells #[.pointer (some ⟨B,0,none⟩),.slice (some ⟨gn,0,none⟩) 1 ncap,.slice none 0 0,.slice oa n0 ocap,v1.pv,.bool true,.int .i64 fi,v1.bW,v1.bS,v1.bL,v1.bO] 94 (0,0)):=zg hB7 _;have x5:((w1.setCell ⟨P,6,none⟩ (.int .i64 fi)).setCell ⟨P,1,none⟩ (.slice (some ⟨gn,0,none⟩) 1 ncap)).cell? ⟨P,5,none⟩=some (.bool true):=zc hB8 rfl;have x6:((w1.setCell ⟨P,6,none⟩ (.int .i64 fi)).setCell ⟨P,1,none⟩ (.slice (some ⟨gn,0,none⟩) 1 ncap)).cell? ⟨P,6,none⟩=some (.int .i64 fi):=zc hB8 rfl;have HF:Hd _:=TAIL.o _ (lQ (S:=fun b=>b=P\/v1.pv.ownBlock=some b) (p:=⟨P,1,none⟩) (lQ (S:=fun b=>b=P\/v1.pv.ownBlock=some b) (p:=⟨P,6,none⟩) (rD _ w1) (fun _=>.inl rfl) _) (fun _=>.inl rfl) _) (by rw [hrr,HOV.o,hfi];exact hB8) (fun _ _ ho hp=>zi (zi ho hp _) hp _);have HFF:=hid hff1;clear hB7 hB8 hB0 hrr hf0 TAIL hff hfi;go_wp2_with fail
  all_goals go_wp2
  all_goals go_ret
  all_goals exact⟨zH (by simp [*,HFF.o]),HF.o⟩
end
end
end Go.Proofs.YtmnjhhachdlmkaaGreat
