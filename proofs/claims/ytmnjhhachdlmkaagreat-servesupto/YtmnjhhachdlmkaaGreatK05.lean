import Derived.Deep.RegionHeld
import Derived.Test.YtmnjhhachdlmkaaGreatK04
import Derived.Test.YtmnjhhachdlmkaaGreatK01
namespace Go.Proofs.YtmnjhhachdlmkaaGreat
set_option linter.all false
set_option maxRecDepth 100000
set_option maxHeartbeats 3200000
open Tryz
open Nat renaming lt_of_lt_of_le -> rA, zero_le -> lT, le_trans -> rH, le_refl -> lO
open List renaming getElem_mem -> lV, length_append -> lW, getElem?_append_right -> sH, getElem?_append_left -> sL, take_succ_eq_append_getElem -> rV, append_assoc -> sI, mem_append -> sE, mem_map -> sC, map_append -> rY, take_of_length_le -> rM, length_map -> rU, append_nil -> rL, length_take -> sF
open Turn renaming setCell -> lQ, refl -> rD, of_ext -> lM, grown -> rJ
open Ext renaming refl -> lI, drew -> lJ, alloc -> lK, owns -> rE, block -> rW, setCell -> rF, grown -> rG
open AllReadyH renaming cons -> sD
open World renaming news_of_block -> rI, cell?_setCell_far -> lX, ownsRow -> lR, setCell -> rC, alloc -> lP, ownsRow_nil -> rB
open Int renaming eq_ofNat_of_zero_le -> rZ
open List renaming getElem_toArray -> lA, getElem_cons_succ -> lB, getElem_cons_zero -> lC, setIfInBounds_toArray -> lD, set_cons_zero -> lE, set_cons_succ -> lF
open World renaming block_lt_of_cell? -> lG
open Value renaming ownBlock -> lH
section
open Go.RowKit Go.Maps
section
variable {B:Nat}{F:Nat->Prop}{sv lv dv:Value}{R:List StkR}{ls:List LsV}{ops:List OpV}{fl:Bool}{ah:Int}{kn:Bool}
theorem Y5:(Tryz.prog.info? 56).map (fun i=>(i.zero,i.size,i.bytes))=some (some (.agg #[.int .i64 0,.int .i64 0,.int .i64 0,.int .i64 0,.int .i64 0,.int .i64 0,.int .i64 0,.int .i64 0,.bool false]),9,72):=by kernel_rfl
theorem StoreOf.setLv {w w3:World}{lv':Value}{ls':List LsV}{fl':Bool}{ah':Int}{kn':Bool}(h:StoreOf w B F sv lv dv R ls ops fl ah kn)(ht:Turn (fun b=>b=B\/lv.ownBlock=some b) w w3)(hd:DealAt w3 B sv lv' dv fl' ah' kn')(hl:LeasesAt w3 lv' ls')(hq:∀q,lv'.ownBlock=some q->lv.ownBlock=some q\/w.heap.size<=q)(hln:1<=ls'.length) :
  StoreOf w3 B (ZO F w w3) sv lv' dv R ls' ops fl' ah' kn':=by
 have hfar:∀b cur t,w.heap[b]?=some (.cells cur t (0,0))->t≠114/\t≠112->t≠56->¬(b=B\/lv.ownBlock=some b):=fun b cur t hc h1 h2 hor=>by
  rcases hor with e|e
  ·exact h.deal.tne hc h1 e
  ·obtain⟨cur',hc'⟩:=zf h.lrow e;exact zh hc hc' h2 rfl
 have hfm:∀b D n,w.ownsMap Tryz.prog 3 zX b n D->¬(b=B\/lv.ownBlock=some b):=fun b D n hc hor=>by
  rcases hor with e|e
  ·exact h.deal.mne hc e.symm
  ·obtain⟨cur',hc'⟩:=zf h.lrow e;exact yt hc' hc rfl
 have hg:∀b,F b->ZO F w w3 b:=fun b hb=>.inl hb
 refine⟨hd,ht.owns h.srow (fun q hq=>let ⟨cur,hc⟩:=zf h.srow hq;hfar q cur _ hc (by decide) (by decide)),hl,ht.owns h.orow (fun q hq=>let ⟨cur,hc⟩:=zf h.orow hq;hfar q cur _ hc (by decide) (by decide)),fun y hy=>?_,h.nb,h.nm,.inl h.fB,fun q hq=>.inl (h.fs q hq),fun q hq'=>?_,fun q hq=>.inl (h.fd q hq),fun b hb=>?_,.inr hln,h.dnil⟩
 ·have hyk:=h.stk y hy;obtain⟨D,hD,_⟩:=hyk.map;exact(hyk.turn' ht (hfar _ _ _ hyk.blk (by decide) (by decide)) (hfm _ _ _ hD) (fun b cur hc=>hfar b cur _ hc (by decide) (by decide))).mono hg
 ·rcases hq q hq' with e|e
  ·exact .inl (h.fl' _ e)
  ·exact .inr ⟨e,zx hl hq'⟩
 ·rcases hb with hb|hb
  ·exact rA (h.lt b hb) ht.size
  ·exact hb.2
def StkR.lend (x:StkR)(c:Nat):StkR:={ x with leased:=x.leased+c }
theorem StkAt.lend {w w':World}{x:StkR}{c:Nat}(h:StkAt w F x)(ht:Turn (fun b=>b=x.blk) w w')(hb:w'.heap[x.blk]?=some (.cells (x.lend c).row 154 (0,0))):StkAt w' F (x.lend c):=by obtain⟨D,hD,hK⟩:=h.map;exact⟨hb,⟨D,Yg hD ht (fun e=>yt h.blk hD e.symm),hK.turn' ht (fun b cur hc e=>zh hc h.blk (by decide) e)⟩,h.fb,h.fm⟩
theorem StoreOf.lend {w:World}(h:StoreOf w B F sv lv dv R ls ops fl ah kn)(ix:Nat)(hix:ix<R.length)(c:Nat):StoreOf (w.setCell ⟨R[ix].blk,5,none⟩ (.int .i64 ((R[ix].leased:Int)+c))) B F sv lv dv (R.set ix (R[ix].lend c)) ls ops fl ah kn:=by
 have hx:=h.stk R[ix] (lV hix);have ht:Turn (fun b=>b=R[ix].blk) w (w.setCell ⟨R[ix].blk,5,none⟩ (.int .i64 ((R[ix].leased:Int)+c))):=lQ (S:=fun b=>b=R[ix].blk) (p:=⟨R[ix].blk,5,none⟩) (rD _ w) (fun _=>rfl) _;refine h.setStk ix hix (R[ix].lend c) rfl rfl (ht.mono (fun _ _ e=>.inl e)) (hx.lend ht ?_);have h5:=zg (i:=5) hx.blk (.int .i64 ((R[ix].leased:Int)+c));have e:R[ix].row.setIfInBounds 5 (.int .i64 ((R[ix].leased:Int)+c))=(R[ix].lend c).row:=by simp [StkR.row,StkR.lend]
 rw [e] at h5;exact h5
theorem Vb {F:Nat->Prop}{w w' w'':World}(h:w'.heap.size=w''.heap.size):ZO F w w'=ZO F w w'':=by unfold ZO;rw [h]
theorem XK (rb ix:Nat)(kd m k n ss ii:Int)(c:Nat)(hc:c<=100)(hR:R.length<=100)(hls:ls.length<=1000)(hix:ix<R.length)(hf:R.find? (fun x=>x.is kd m k n)=some R[ix])(hle:R[ix].leased<=1000)(w:World)(h:StoreOf w B F sv lv dv R ls ops fl ah kn)(hr:Zh w rb ss ii kd m k n c) :
  Calls Tryz.prog 224 #[.agg #[.pointer (some ⟨rb,0,none⟩)],.pointer (some ⟨B,0,none⟩)] w fun e w'=>∃lv',e=.returned (.tuple #[])/\StoreOf w' B (ZO F w w') sv lv' dv (R.set ix (R[ix].lend c)) (ls++[⟨ss,ii,kd,m,k,n,R[ix].leased,c,false⟩]) ops fl ah kn/\Turn (fun b=>b=B\/lv.ownBlock=some b\/b=R[ix].blk) w w':=by
 have H:Hd _:=h;have HR:=hid hr;have r0:=zc hr (i:=0) rfl;have r1:=zc hr (i:=1) rfl;have r2:=zc hr (i:=2) rfl;have r3:=zc hr (i:=3) rfl;have r4:=zc hr (i:=4) rfl;have r5:=zc hr (i:=5) rfl;have r6:=zc hr (i:=6) rfl;have hrl:=lG w _ r0;have HF:Hd (∀w',Ext w w'->Calls Tryz.prog 168 #[.pointer (some ⟨B,0,none⟩),.agg #[.int .i64 kd,.int .i64 m,.int .i64 k,.int .i64 n]] w' fun e w''=>e=.returned (.pointer (some ⟨R[ix].blk,0,none⟩))/\Ext w' w''):=fun w' hx=>by
  have:=Yt kd m k n hR w' (h.ext hx)
  rwa [Zy,hf] at this
 have hxk:=h.stk R[ix] (lV hix);have k5:w.cell? ⟨R[ix].blk,5,none⟩=some (.int .i64 R[ix].leased):=(cell_of_row w R[ix].blk 5 _ _ _ hxk.blk).trans rfl;have HXB:=hid (hxk.blk);clear h hr hf hxk;obtain⟨blk,hblk⟩:∃blk,R[ix].blk=blk:=⟨_,rfl⟩
 obtain⟨le,hleE⟩:∃le,R[ix].leased=le:=⟨_,rfl⟩
 have HBE:Hd (R[ix].blk=blk/\R[ix].leased=le):=⟨hblk,hleE⟩
 rw [hblk] at k5 HF HXB;rw [hleE] at k5 hle;clear hblk hleE;go_enter func224,ntmps224;go_wp2_with fail
 refine(HF.o _ ((lI w).alloc _)).mono ?_;rintro e w1 ⟨rfl,hx1⟩;have q0:=Z5 hx1 0 rfl;have HX1:Hd (Ext w w1):=((lI w).alloc _).trans hx1;have H1:=hid (H.o.ext HX1.o);have r0:=HX1.o.cell r0;have r1:=HX1.o.cell r1;have r2:=HX1.o.cell r2;have r3:=HX1.o.cell r3;have r4:=HX1.o.cell r4;have r5:=HX1.o.cell r5;have r6:=HX1.o.cell r6;have k5:=HX1.o.cell k5;obtain⟨_,c1,_⟩:=DealAt.cells H1.o.deal;clear hx1;have hB1:=DealAt.lt H1.o.deal;have hB0:=DealAt.lt H.o.deal;have hlw:=lG w1 _ q0;have hnw:B≠w.heap.size:=by omega
 have hnr:B≠rb:=(H.o.deal.tne HR.o (by decide)).symm;have hnk:B≠blk:=(H.o.deal.tne HXB.o (by decide)).symm;have HLv:Hd (∀q,lv.ownBlock=some q->q<w.heap.size/\q≠B/\q≠rb/\q≠blk):=fun q hq=>by obtain⟨cur,hcur⟩:=zf H.o.lrow hq;exact⟨zx H.o.lrow hq,H.o.deal.tne hcur (by decide),zh hcur HR.o (by decide),zh hcur HXB.o (by decide)⟩
 have SD:Hd (∀w',Turn (fun b=>lv.ownBlock=some b) w1 w'->(fun w'=>w'.cell? ⟨w.heap.size,0,none⟩=some (.pointer (some ⟨rb,0,none⟩))/\w'.cell? ⟨rb,0,none⟩=some (.int .i64 ss)/\w'.cell? ⟨rb,1,none⟩=some (.int .i64 ii)/\w'.cell? ⟨rb,2,none⟩=some (.int .i64 kd)/\w'.cell? ⟨rb,3,none⟩=some (.int .i64 m)/\w'.cell? ⟨rb,4,none⟩=some (.int .i64 k)/\w'.cell? ⟨rb,5,none⟩=some (.int .i64 n)/\w'.cell? ⟨rb,6,none⟩=some (.int .i64 c)/\w'.cell? ⟨blk,5,none⟩=some (.int .i64 le)) w'):=fun w' hx=>by
  have f0:¬lv.ownBlock=some w.heap.size:=fun e=>by have:=(HLv.o _ e).1;omega
  have f1:¬lv.ownBlock=some rb:=fun e=>(HLv.o _ e).2.2.1 rfl
  have f2:¬lv.ownBlock=some blk:=fun e=>(HLv.o _ e).2.2.2 rfl
  exact⟨hx.cell q0 f0,hx.cell r0 f1,hx.cell r1 f1,hx.cell r2 f1,hx.cell r3 f1,hx.cell r4 f1,hx.cell r5 f1,hx.cell r6 f1,hx.cell k5 f2⟩
 obtain⟨i0,hi,hz0,hz1,hz2⟩:=info_parts Y5;have hrl1:=lG w1 _ r0;have hkl1:=lG w1 _ k5;go_wp2_with fail
 refine wp_region_held_drew (S:=(fun w'=>w'.cell? ⟨w.heap.size,0,none⟩=some (.pointer (some ⟨rb,0,none⟩))/\w'.cell? ⟨rb,0,none⟩=some (.int .i64 ss)/\w'.cell? ⟨rb,1,none⟩=some (.int .i64 ii)/\w'.cell? ⟨rb,2,none⟩=some (.int .i64 kd)/\w'.cell? ⟨rb,3,none⟩=some (.int .i64 m)/\w'.cell? ⟨rb,4,none⟩=some (.int .i64 k)/\w'.cell? ⟨rb,5,none⟩=some (.int .i64 n)/\w'.cell? ⟨rb,6,none⟩=some (.int .i64 c)/\w'.cell? ⟨blk,5,none⟩=some (.int .i64 le))) (by kernel_rfl) ⟨q0,r0,r1,r2,r3,r4,r5,r6,k5⟩ (fun hHeld=>?_);refine zT 0 hHeld ?_;refine zT 1 hHeld ?_;refine zT 2 hHeld ?_;refine zT 3 hHeld ?_;refine zT 5 hHeld ?_;refine zT 6 hHeld ?_;refine zT 7 hHeld ?_;refine zT 8 hHeld ?_;refine zT 9 hHeld ?_;refine zT 10 hHeld ?_;refine zT 11 hHeld ?_;refine zT 12 hHeld ?_;refine zT 13 hHeld ?_;refine zT 14 hHeld ?_;refine zT 15 hHeld ?_;refine zT 16 hHeld ?_;refine zT 17 hHeld ?_;refine zT 18 hHeld ?_;refine zT 19 hHeld ?_;refine zT 20 hHeld ?_;refine zT 21 hHeld ?_;refine zT 22 hHeld ?_;refine zT 23 hHeld ?_;refine zT 24 hHeld ?_;refine zT 25 hHeld ?_;refine zT 26 hHeld ?_;refine zT 27 hHeld ?_;refine zT 28 hHeld ?_;refine zT 29 hHeld ?_;refine wpAnyH_ready (rs:=[4,30]) (by kernel_rfl) (by simp) ?_;refine sD (o:=_) rfl (fun K hK=>?_) (sD (o:=_) rfl (fun K hK=>?_) AllReadyH.nil)
 ·(try simp only [lA,lB,lC])
  go_simp;refine hK.out _ _ ?hs1 (fun hHeld=>?_)
  case hs1=>exact SD.o _ (lM (lJ (lI _)))
  clear hK K
  try simp only [Act.put,lA,lB,lC,lD,lE,lF]
  refine zR 30 fun K hK=>?_
  (try simp only [lA,lB,lC])
  go_simp;refine hK.out _ _ ?hs2 (fun hHeld=>?_)
  case hs2=>exact SD.o _ (lM (lJ (lK (lI _) _)))
  clear hK K
  try simp only [Act.put,lA,lB,lC,lD,lE,lF]
  refine zR 31 fun K hK=>?_
  refine step_append_lies _ (by rfl) _ _ 38 (by rfl) 0 56 i0 _ 9 72 underlying38 hi hz0 hz1 hz2 (by rfl) (by decide) lv ls.length (zu ls) (by rfl) (rE (lJ (lK (lI _) _)) H1.o.lrow) ⟨_,0,none⟩ 1 1 (LsV.cells ⟨ss,ii,kd,m,k,n,le,c,false⟩) (by rfl) (by rfl) (rI (zy (heap_alloc_new _ _))) (by simp [Value.oneCell',LsV.cells]) (by decide) (by unfold maxLen;omega) (by omega) (lT _) _ rfl ?_;intro g cap3 w2 hown2 hgrow hat hlt2;have ht2:Turn (fun b=>lv.ownBlock=some b) w1 w2:=rJ (lM (lJ (lK (lI _) _))) hgrow (fun q hq _=>hq);have HT2:=hid ht2;have HD2:Hd (DealAt w2 B sv lv dv fl ah kn):=H1.o.deal.turn ht2 (fun e=>(HLv.o _ e).2.1 rfl);have c1b:=(DealAt.cells HD2.o).2.1;have f1b:=HD2.o.frozen 1;have HOW:=hid hown2;have HG:Hd ((lv.ownBlock=some g\/w.heap.size<=g)/\g≠B):=by
   have h1:=HX1.o.le;rcases hat with h|h
   ·exact⟨.inl h,(HLv.o _ h).2.1⟩
   ·have h2:w1.heap.size<=g:=by rw [h];exact(lM (lJ (lK (lI _) _)):Turn (fun _=>False) w1 _).size
    exact⟨.inr (by omega),by omega⟩
  refine hK.out _ _ ?hs3 (fun hHeld=>?_)
  case hs3=>exact SD.o _ ht2
  clear hK K hown2 hgrow hat ht2
  try simp only [Act.put,lA,lB,lC,lD,lE,lF]
  refine zT 32 hHeld ?_;refine zT 33 hHeld ?_;refine zR 34 fun K hK=>?_
  (try simp only [lA,lB,lC])
  go_simp;refine hK.out _ _ ?hs4 (fun hHeld=>?_)
  case hs4=>
   have h1:=SD.o _ HT2.o;obtain⟨s0,s1,s2,s3,s4,s5,s6,s7,s8⟩:=h1;exact⟨(lX _ _ _ _ hnw).trans s0,(lX _ _ _ _ hnr).trans s1,(lX _ _ _ _ hnr).trans s2,(lX _ _ _ _ hnr).trans s3,(lX _ _ _ _ hnr).trans s4,(lX _ _ _ _ hnr).trans s5,(lX _ _ _ _ hnr).trans s6,(lX _ _ _ _ hnr).trans s7,(lX _ _ _ _ hnk).trans s8⟩
  clear hK K
  try simp only [Act.put,lA,lB,lC,lD,lE,lF]
  refine wpAnyH_done (by kernel_rfl) ?_ _;have q0:=hHeld.1;have r6:=hHeld.2.2.2.2.2.2.2.1;have k5:=hHeld.2.2.2.2.2.2.2.2;have HT3:Hd (Turn (fun b=>b=B\/lv.ownBlock=some b) w (w2.setCell ⟨B,1,none⟩ (.slice (some ⟨g,0,none⟩) (ls.length+1) cap3))):=lQ (S:=fun b=>b=B\/lv.ownBlock=some b) (p:=⟨B,1,none⟩) ((lM HX1.o).trans (HT2.o.mono (fun _ _ e=>.inr e))) (fun _=>.inl rfl) _;have HS3:Hd (StoreOf (w2.setCell ⟨B,1,none⟩ (.slice (some ⟨g,0,none⟩) (ls.length+1) cap3)) B (ZO F w (w2.setCell ⟨B,1,none⟩ (.slice (some ⟨g,0,none⟩) (ls.length+1) cap3))) sv (.slice (some ⟨g,0,none⟩) (ls.length+1) cap3) dv R (ls++[⟨ss,ii,kd,m,k,n,le,c,false⟩]) ops fl ah kn):=by
   refine H.o.setLv HT3.o (HD2.o.set1 _) ?_ (fun q hq=>?_) (by simp)
   ·show lR _ 0 56 9 _ _ _
    rw [yQ,lW];have e1:zu [⟨ss,ii,kd,m,k,n,le,c,false⟩]=LsV.cells ⟨ss,ii,kd,m,k,n,le,c,false⟩:=by simp [zu]
    rw [e1];exact zi HOW.o (by simpa [lH] using HG.o.2) _
   ·simp [lH] at hq;subst hq;exact HG.o.1
  have HB3:Hd ((w2.setCell ⟨B,1,none⟩ (.slice (some ⟨g,0,none⟩) (ls.length+1) cap3)).heap[blk]?=some (.cells R[ix].row 154 (0,0))):=by have hh:=(HS3.o.stk R[ix] (lV hix)).blk;rw [HBE.o.1] at hh;exact hh
  have f5:=ze HB3.o 5;have hw3:blk<(w2.setCell ⟨B,1,none⟩ (.slice (some ⟨g,0,none⟩) (ls.length+1) cap3)).heap.size:=(Array.getElem?_eq_some_iff.1 HB3.o).1;generalize rC w2 _ _=w3 at *;clear hHeld c1b f1b c1 r0 r1 r2 r3 r4 r5;go_wp2_with fail
  go_region
  all_goals go_wp2
  all_goals go_end0
  all_goals
   have hfin:=HS3.o.lend ix hix c;rw [HBE.o.1,HBE.o.2] at hfin;refine⟨.slice (some ⟨g,0,none⟩) (ls.length+1) cap3,rfl,?_,?_⟩
   ·rw [HBE.o.2,Vb (w'':=w3) (by simp [rC,World.drew])];exact hfin.ext (lJ (lI _))
   ·rw [HBE.o.1];refine Turn.drew (lQ (p:=⟨blk,5,none⟩) (HT3.o.mono (fun b _ h=>?_)) (fun _=>.inr (.inr rfl)) _);rcases h with h|h
    ·exact .inl h
    ·exact .inr (.inl h)
 ·(try simp only [lA,lB,lC])
  go_simp;refine hK.out _ _ ?hs1 (fun hHeld=>?_)
  case hs1=>exact SD.o _ (lM (lJ (lK (lI _) _)))
  clear hK K
  try simp only [Act.put,lA,lB,lC,lD,lE,lF]
  refine zR 4 fun K hK=>?_
  (try simp only [lA,lB,lC])
  go_simp;refine hK.out _ _ ?hs2 (fun hHeld=>?_)
  case hs2=>exact SD.o _ (lM (lJ (lK (lI _) _)))
  clear hK K
  try simp only [Act.put,lA,lB,lC,lD,lE,lF]
  refine zR 31 fun K hK=>?_
  refine step_append_lies _ (by rfl) _ _ 38 (by rfl) 0 56 i0 _ 9 72 underlying38 hi hz0 hz1 hz2 (by rfl) (by decide) lv ls.length (zu ls) (by rfl) (rE (lJ (lK (lI _) _)) H1.o.lrow) ⟨_,0,none⟩ 1 1 (LsV.cells ⟨ss,ii,kd,m,k,n,le,c,false⟩) (by rfl) (by rfl) (rI (zy (heap_alloc_new _ _))) (by simp [Value.oneCell',LsV.cells]) (by decide) (by unfold maxLen;omega) (by omega) (lT _) _ rfl ?_;intro g cap3 w2 hown2 hgrow hat hlt2;have ht2:Turn (fun b=>lv.ownBlock=some b) w1 w2:=rJ (lM (lJ (lK (lI _) _))) hgrow (fun q hq _=>hq);have HT2:=hid ht2;have HD2:Hd (DealAt w2 B sv lv dv fl ah kn):=H1.o.deal.turn ht2 (fun e=>(HLv.o _ e).2.1 rfl);have c1b:=(DealAt.cells HD2.o).2.1;have f1b:=HD2.o.frozen 1;have HOW:=hid hown2;have HG:Hd ((lv.ownBlock=some g\/w.heap.size<=g)/\g≠B):=by
   have h1:=HX1.o.le;rcases hat with h|h
   ·exact⟨.inl h,(HLv.o _ h).2.1⟩
   ·have h2:w1.heap.size<=g:=by rw [h];exact(lM (lJ (lK (lI _) _)):Turn (fun _=>False) w1 _).size
    exact⟨.inr (by omega),by omega⟩
  refine hK.out _ _ ?hs3 (fun hHeld=>?_)
  case hs3=>exact SD.o _ ht2
  clear hK K hown2 hgrow hat ht2
  try simp only [Act.put,lA,lB,lC,lD,lE,lF]
  refine zT 32 hHeld ?_;refine zT 33 hHeld ?_;refine zR 34 fun K hK=>?_
  (try simp only [lA,lB,lC])
  go_simp;refine hK.out _ _ ?hs4 (fun hHeld=>?_)
  case hs4=>
   have h1:=SD.o _ HT2.o;obtain⟨s0,s1,s2,s3,s4,s5,s6,s7,s8⟩:=h1;exact⟨(lX _ _ _ _ hnw).trans s0,(lX _ _ _ _ hnr).trans s1,(lX _ _ _ _ hnr).trans s2,(lX _ _ _ _ hnr).trans s3,(lX _ _ _ _ hnr).trans s4,(lX _ _ _ _ hnr).trans s5,(lX _ _ _ _ hnr).trans s6,(lX _ _ _ _ hnr).trans s7,(lX _ _ _ _ hnk).trans s8⟩
  clear hK K
  try simp only [Act.put,lA,lB,lC,lD,lE,lF]
  refine wpAnyH_done (by kernel_rfl) ?_ _;have q0:=hHeld.1;have r6:=hHeld.2.2.2.2.2.2.2.1;have k5:=hHeld.2.2.2.2.2.2.2.2;have HT3:Hd (Turn (fun b=>b=B\/lv.ownBlock=some b) w (w2.setCell ⟨B,1,none⟩ (.slice (some ⟨g,0,none⟩) (ls.length+1) cap3))):=lQ (S:=fun b=>b=B\/lv.ownBlock=some b) (p:=⟨B,1,none⟩) ((lM HX1.o).trans (HT2.o.mono (fun _ _ e=>.inr e))) (fun _=>.inl rfl) _;have HS3:Hd (StoreOf (w2.setCell ⟨B,1,none⟩ (.slice (some ⟨g,0,none⟩) (ls.length+1) cap3)) B (ZO F w (w2.setCell ⟨B,1,none⟩ (.slice (some ⟨g,0,none⟩) (ls.length+1) cap3))) sv (.slice (some ⟨g,0,none⟩) (ls.length+1) cap3) dv R (ls++[⟨ss,ii,kd,m,k,n,le,c,false⟩]) ops fl ah kn):=by
   refine H.o.setLv HT3.o (HD2.o.set1 _) ?_ (fun q hq=>?_) (by simp)
   ·show lR _ 0 56 9 _ _ _
    rw [yQ,lW];have e1:zu [⟨ss,ii,kd,m,k,n,le,c,false⟩]=LsV.cells ⟨ss,ii,kd,m,k,n,le,c,false⟩:=by simp [zu]
    rw [e1];exact zi HOW.o (by simpa [lH] using HG.o.2) _
   ·simp [lH] at hq;subst hq;exact HG.o.1
  have HB3:Hd ((w2.setCell ⟨B,1,none⟩ (.slice (some ⟨g,0,none⟩) (ls.length+1) cap3)).heap[blk]?=some (.cells R[ix].row 154 (0,0))):=by have hh:=(HS3.o.stk R[ix] (lV hix)).blk;rw [HBE.o.1] at hh;exact hh
  have f5:=ze HB3.o 5;have hw3:blk<(w2.setCell ⟨B,1,none⟩ (.slice (some ⟨g,0,none⟩) (ls.length+1) cap3)).heap.size:=(Array.getElem?_eq_some_iff.1 HB3.o).1;generalize rC w2 _ _=w3 at *;clear hHeld c1b f1b c1 r0 r1 r2 r3 r4 r5;go_wp2_with fail
  go_region
  all_goals go_wp2
  all_goals go_end0
  all_goals
   have hfin:=HS3.o.lend ix hix c;rw [HBE.o.1,HBE.o.2] at hfin;refine⟨.slice (some ⟨g,0,none⟩) (ls.length+1) cap3,rfl,?_,?_⟩
   ·rw [HBE.o.2,Vb (w'':=w3) (by simp [rC,World.drew])];exact hfin.ext (lJ (lI _))
   ·rw [HBE.o.1];refine Turn.drew (lQ (p:=⟨blk,5,none⟩) (HT3.o.mono (fun b _ h=>?_)) (fun _=>.inr (.inr rfl)) _);rcases h with h|h
    ·exact .inl h
    ·exact .inr (.inl h)
end
end
section
open Go.RowKit Go.Maps
theorem J8 (w:World):(zeroValue 176).run Tryz.prog w=.ok (.agg #[.slice none 0 0,.slice none 0 0]) w:=by kernel_rfl
theorem gu:(Tryz.prog.info? 176).map (fun i=>(i.zero,i.size,i.bytes))=some (some (.agg #[.slice none 0 0,.slice none 0 0]),2,48):=by kernel_rfl
def LookAs (w:World)(F:Nat->Prop)(s:Sh)(u:List Int×Bool)(v0 v1:Value):Prop:=
 (u.2=true/\∃a0 c0 a1 c1,v0=.slice (some ⟨a0,0,none⟩) (s.x+s.y+s.z) c0/\v1=.slice (some ⟨a1,0,none⟩) (s.x+s.y+s.z) c1/\WordsU w a0 (sh0 s u.1)/\WordsU w a1 (sh1 s u.1)/\F a0/\F a1)\/
 (u.2=false/\v0=.slice none 0 0/\v1=.slice none 0 0)
theorem LookAs.one {w:World}{F:Nat->Prop}{s:Sh}{u:List Int×Bool}{v0 v1:Value}(h:LookAs w F s u v0 v1):v0.oneCell'=true/\v1.oneCell'=true:=by rcases h with⟨_,a0,c0,a1,c1,rfl,rfl,_⟩|⟨_,rfl,rfl⟩<;>exact⟨rfl,rfl⟩
theorem StkAt.looks {w:World}{F:Nat->Prop}{x:StkR}(h:StkAt w F x)(hm:x.ts.length<=1000000)(i:Nat):∃v0 v1,∀hi:i<x.ts.length,(∀w',Ext w w'->(Instr.lookup 152 (.map (some x.mb)) (.int .i64 (i:Int)) false).run Tryz.prog w'=.ok (.agg #[v0,v1]) w')/\LookAs w F x.sh x.ts[i] v0 v1:=by
 by_cases hi:i<x.ts.length
 ·obtain⟨D,hD,hK⟩:=h.map;have key:∀w',Ext w w'->∃v' ps,(Instr.lookup 152 (.map (some x.mb)) (.int .i64 (i:Int)) false).run Tryz.prog w'=.ok v' w'/\some (D.atKey (.int .i64 (i:Int)) (.held (.agg #[.slice none 0 0,.slice none 0 0])),ps)=zX v':=fun w' hx=>by
   have hD':w'.ownsMap Tryz.prog 3 zX x.mb x.ts.length D:=Yg (S:=fun _=>False) hD (lM hx) id;obtain⟨v',ps,hrun,hv'⟩:=hD'.lookup Q5 underlying152 (J8 w') (zd:=.held (.agg #[.slice none 0 0,.slice none 0 0])) (zp:=[]) rfl (keyOf_int_mk underlying3 (a:=(i:Int)) (by simp [Lit.wf,IntKind.min,IntKind.max,IntKind.signed,IntKind.bits];omega));exact⟨v',ps,hrun,hv'.symm⟩
  cases hk:x.ts[i].2 with
  | true=>
   obtain⟨v,hv,a0,c0,a1,c1,rfl,hw0,hw1,hf0,hf1⟩:=hK.2.2 i hi hk;refine⟨_,_,fun _=>⟨fun w' hx=>?_,.inl ⟨hk,a0,c0,a1,c1,rfl,rfl,hw0,hw1,hf0,hf1⟩⟩⟩;obtain⟨v',ps,hrun,hv'⟩:=key w' hx;have hv2:D.atKey (.int .i64 (i:Int)) (.held (.agg #[.slice none 0 0,.slice none 0 0]))=_:=hv;rw [hv2] at hv';simp [zX] at hv';rw [hrun,<-hv'.1]
  | false=>
   refine⟨.slice none 0 0,.slice none 0 0,fun _=>⟨fun w' hx=>?_,.inr ⟨hk,rfl,rfl⟩⟩⟩;obtain⟨v',ps,hrun,hv'⟩:=key w' hx;have hno:has D (.int .i64 (i:Int))=false:=by rw [hK.2.1 i,List.getElem?_eq_getElem hi];simpa using hk
   rw [atKey_of_not_has hno] at hv';simp [zX] at hv';rw [hrun,<-hv'.1]
 ·exact⟨.slice none 0 0,.slice none 0 0,fun h=>absurd h hi⟩
def Qb (V:Nat->Value×Value)(j:Nat):List Value:=(List.range j).flatMap fun i=>[(V i).1,(V i).2]
theorem Qg (V:Nat->Value×Value)(j:Nat):Qb V (j+1)=Qb V j++[(V j).1,(V j).2]:=by simp [Qb,List.range_succ]
theorem Js (V:Nat->Value×Value)(j:Nat):(Qb V j).length=j*2:=by
 induction j with
 | zero=>rfl
 | succ j ih=>rw [Qg,lW,ih];simp;omega
theorem kB (V:Nat->Value×Value)(j i:Nat)(hi:i<j):(Qb V j)[i*2]?=some (V i).1/\(Qb V j)[i*2+1]?=some (V i).2:=by
 induction j with
 | zero=>omega
 | succ j ih=>
  rw [Qg];have hl:=Js V j;by_cases e:i=j
  ·subst e;rw [sH (by omega),sH (by omega),hl];simp [show i*2+1 - i*2=1 by omega]
  ·rw [sL (by omega),sL (by omega)];exact ih (by omega)
theorem uQ (x:StkR)(F:Nat->Prop)(h1:1<=x.ts.length)(h2:x.ts.length<=1000)(w:World)(h:StkAt w F x) :
  Calls Tryz.prog 130 #[.pointer (some ⟨x.blk,0,none⟩)] w fun e w'=>∃gt cap,e=.returned (.agg #[.int .i64 x.kd,.int .i64 x.m,.int .i64 x.k,.int .i64 x.n,.slice (some ⟨gt,0,none⟩) x.ts.length cap])/\TriRow w' F gt x.sh x.ts/\Ext w w':=by
 obtain⟨i0,hi,hz0,hz1,hz2⟩:=info_parts gu;have hV:∃V:Nat->Value×Value,∀i (hi:i<x.ts.length),(∀w',Ext w w'->(Instr.lookup 152 (.map (some x.mb)) (.int .i64 (i:Int)) false).run Tryz.prog w'=.ok (.agg #[(V i).1,(V i).2]) w')/\LookAs w F x.sh x.ts[i] (V i).1 (V i).2:=
  ⟨fun i=>(Classical.choose (h.looks (by omega) i),Classical.choose (Classical.choose_spec (h.looks (by omega) i))),fun i hi=>Classical.choose_spec (Classical.choose_spec (h.looks (by omega) i)) hi⟩
 obtain⟨V,hV⟩:=hV;have HV:Hd _:=hV;have hb:=h.blk;have k0:w.cell? ⟨x.blk,0,none⟩=some (.int .i64 (x.kd:Int)):=(cell_of_row w x.blk 0 _ _ _ hb).trans rfl;have k1:w.cell? ⟨x.blk,1,none⟩=some (.int .i64 (x.m:Int)):=(cell_of_row w x.blk 1 _ _ _ hb).trans rfl;have k2:w.cell? ⟨x.blk,2,none⟩=some (.int .i64 (x.k:Int)):=(cell_of_row w x.blk 2 _ _ _ hb).trans rfl;have k3:w.cell? ⟨x.blk,3,none⟩=some (.int .i64 (x.n:Int)):=(cell_of_row w x.blk 3 _ _ _ hb).trans rfl;have k4:w.cell? ⟨x.blk,4,none⟩=some (.int .i64 (x.ts.length:Int)):=(cell_of_row w x.blk 4 _ _ _ hb).trans rfl;have k6:w.cell? ⟨x.blk,6,none⟩=some (.map (some x.mb)):=(cell_of_row w x.blk 6 _ _ _ hb).trans rfl;have hbl:=lG w _ k0;clear h hb hV;obtain⟨t,ht⟩:∃t,x.ts.length=t:=⟨_,rfl⟩
 have HT:=hid ht;rw [ht] at h1 h2 k4 ⊢;clear ht;generalize x.blk=blk at *;generalize x.mb=mb at *;generalize x.kd=kd at *;generalize x.m=m at *;generalize x.k=k at *;generalize x.n=n at *;go_enter func130,ntmps130;go_wp2_with fail
 have HR0:Hd (((w.alloc (.cells #[.int .i64 0,.int .i64 0,.int .i64 0,.int .i64 0,.slice none 0 0] 174)).alloc (.cells #[.int .i64 kd,.int .i64 m,.int .i64 k,.int .i64 n,.slice none 0 0] 174)).heap[w.heap.size]?=some (.cells #[.int .i64 0,.int .i64 0,.int .i64 0,.int .i64 0,.slice none 0 0] 174 (0,0))/\((w.alloc (.cells #[.int .i64 0,.int .i64 0,.int .i64 0,.int .i64 0,.slice none 0 0] 174)).alloc (.cells #[.int .i64 kd,.int .i64 m,.int .i64 k,.int .i64 n,.slice none 0 0] 174)).heap[w.heap.size+1]?=some (.cells #[.int .i64 kd,.int .i64 m,.int .i64 k,.int .i64 n,.slice none 0 0] 174 (0,0))):=⟨zC (heap_alloc_new _ _),zm (by simp)⟩
 have HX0:Hd (Ext w ((w.alloc (.cells #[.int .i64 0,.int .i64 0,.int .i64 0,.int .i64 0,.slice none 0 0] 174)).alloc (.cells #[.int .i64 kd,.int .i64 m,.int .i64 k,.int .i64 n,.slice none 0 0] 174))):=((lI w).alloc _).alloc _;generalize lP (lP w _) _=W at HR0 HX0 ⊢;obtain⟨mv,hmv⟩:∃mv,w.heap.size+1=mv:=⟨_,rfl⟩
 rw [hmv] at HR0 ⊢;have hmv1:w.heap.size<mv:=by omega
 clear hmv
 go_loopw [14] (fun i wr=>∃(j:Nat) (tv:Value),j<=t/\i=.int .i64 j/\wr.heap[mv]?=some (.cells #[.int .i64 kd,.int .i64 m,.int .i64 k,.int .i64 n,tv] 174 (0,0))/\wr.ownsRow w.heap.size 176 2 tv j (Qb V j)/\wr.heap[w.heap.size]?=some (.cells #[.int .i64 0,.int .i64 0,.int .i64 0,.int .i64 0,.slice none 0 0] 174 (0,0))/\Ext w wr) (fun i _=>t - (intOf i).toNat)
 case atStart=>exact⟨0,_,lT _,rfl,HR0.o.2,rB _ _ _ _,HR0.o.1,HX0.o⟩
 case round=>
  obtain⟨j,tv,hj,rfl,hm,ho,hr,hx⟩:=hrel;have HM:Hd _:=hm;have HO:=hid ho;have HR:Hd _:=hr;have HX:=hid hx;have hwl:=hx.le;have e4:wr.cell? ⟨mv,4,none⟩=some tv:=zc hm rfl;have hmvl:=lG wr _ e4;obtain⟨ta,tc,htv⟩:=zo ho;subst htv;by_cases hlt:j<t
  ·obtain⟨hlk,hla⟩:=HV.o j (by rw [HT.o];exact hlt);have hlk1:=hlk wr.drew hx.drew;have hone:=hla.one;have HPS:Hd (Qb V (j+1)=Qb V j++[(V j).1,(V j).2]):=Qg V j;have HTM:Hd (lH (.slice ta j tc)≠some mv):=Zk (B:=mv) HM.o ho (by decide);have HTW:Hd (lH (.slice ta j tc)≠some w.heap.size):=Zk (B:=w.heap.size) HR.o ho (by decide);have k6:=hx.cell k6;have hbl2:blk<wr.heap.size:=by omega
   clear hlk hla ho hm hr hx;generalize (V j).1=v0 at *;generalize (V j).2=v1 at *;clear k0 k1 k2 k3 k4;go_wp2_with fail
   go_region_law (first
    | (refine step_append_lies _ (by rfl) _ _ 172 (by rfl) w.heap.size 176 i0 _ 2 48 underlying172 hi hz0 hz1 hz2 (by rfl) (by decide) (.slice ta j tc) j _ (by rfl) (rE (lK (lJ (lI _)) _) HO.o) ⟨_,0,none⟩ 1 1 [v0,v1] (by rfl) (by rfl) (rI (heap_alloc_new _ _)) (by simp [hone.1,hone.2]) (by decide) (by unfold maxLen;omega) (by omega) (rH hwl (Ext.le (lK (lJ (lI _)) _))) _ rfl ?_;intro g1 cap1 w1 hown1 hgrow hat hlt1;have hm1:=(hgrow.block mv (by simp;omega) (fun e=>HTM.o e.symm)).trans (rW (lK (lJ (lI _)) _) HM.o);have e4':=zc hm1 (i:=4) rfl;have f4':=ze hm1 4))
   all_goals
    have R0:(w1.setCell ⟨mv,4,none⟩ (.slice (some ⟨g1,0,none⟩) (j+1) cap1)).heap[mv]?=some (.cells #[.int .i64 (kd:Int),.int .i64 m,.int .i64 k,.int .i64 n,.slice (some ⟨g1,0,none⟩) (j+1) cap1] 174 (0,0)):=zg hm1 _;have hg1:g1≠mv:=by obtain⟨cur,hc⟩:=zf hown1 (g:=g1) rfl;exact zh hc hm1 (by decide)
    have R1:(w1.setCell ⟨mv,4,none⟩ (.slice (some ⟨g1,0,none⟩) (j+1) cap1)).ownsRow w.heap.size 176 2 (.slice (some ⟨g1,0,none⟩) (j+1) cap1) (j+1) (Qb V (j+1)):=by rw [HPS.o];exact zi hown1 (by simpa [lH] using hg1) _
    have R2:(w1.setCell ⟨mv,4,none⟩ (.slice (some ⟨g1,0,none⟩) (j+1) cap1)).heap[w.heap.size]?=some (.cells #[.int .i64 0,.int .i64 0,.int .i64 0,.int .i64 0,.slice none 0 0] 174 (0,0)):=by rw [Below.heap_setCell _ _ _ _ (by show w.heap.size≠mv;omega),hgrow.block w.heap.size (by simp;omega) (fun e=>HTW.o e.symm)];exact rW (lK (lJ (lI _)) _) HR.o
    have R3:Ext w (w1.setCell ⟨mv,4,none⟩ (.slice (some ⟨g1,0,none⟩) (j+1) cap1)):=rF (rG (lK (lJ HX.o) _) hgrow (fun q hq=>(lR.lt HO.o q hq).1)) (by show w.heap.size<=mv;omega) _;have HRR:Hd _:=And.intro R0 (And.intro R1 (And.intro R2 R3));clear R0 R1 R2 R3 hown1 hgrow hat hm1 e4' f4' e4 k6 hlk1;go_wp2
    go_roundw
    case rel=>
     obtain⟨R0,R1,R2,R3⟩:=HRR.o;exact⟨j+1,_,by omega,by go_num,R0,R1,R2,R3⟩
    case measure=>simp [intOf];omega
  ·obtain rfl:j=t:=by omega
   rcases zw ho with⟨_,h0,_⟩|⟨g,cap,hg,_,_,_⟩
   ·omega
   ·injection hg with hg1 hg2 hg3
    subst hg1;have b0:=zc HM.o (i:=0) rfl;have b1:=zc HM.o (i:=1) rfl;have b2:=zc HM.o (i:=2) rfl;have b3:=zc HM.o (i:=3) rfl;have r0:=zc HR.o (i:=0) rfl;have r1:=zc HR.o (i:=1) rfl;have r2:=zc HR.o (i:=2) rfl;have r3:=zc HR.o (i:=3) rfl;have r4:=zc HR.o (i:=4) rfl;have f0:=ze HR.o 0;have f1:=ze HR.o 1;have f2:=ze HR.o 2;have f3:=ze HR.o 3;have f4:=ze HR.o 4;have hwr:w.heap.size<wr.heap.size:=Nat.lt_trans hmv1 hmvl;have HTr:Hd (∀w',Turn (fun b=>b=w.heap.size) wr w'->TriRow w' F g x.sh x.ts):=fun w' hT=>by
     obtain⟨cur,hc⟩:=zf ho (g:=g) rfl;have hgr:g≠w.heap.size:=zh hc HR.o (by decide);refine TriRow.turn (S:=fun b=>b=w.heap.size) ⟨fun i hi=>?_,cur,hc⟩ hT hgr (fun b cur' hc' e=>zh hc' HR.o (by decide) e);obtain⟨_,hla⟩:=HV.o i hi;rw [HT.o] at hi;obtain⟨p0,p1⟩:=kB V j i hi;have c0:=zk ho p0;have c1:=zk ho p1;rcases hla with⟨hk,a0,d0,a1,d1,e0,e1,q0,q1,q2,q3⟩|⟨hk,e0,e1⟩
     ·rw [e0] at c0;rw [e1] at c1;exact .inl ⟨hk,a0,d0,a1,d1,c0,c1,q0.turn (S:=fun _=>False) (lM hx) id,q1.turn (S:=fun _=>False) (lM hx) id,q2,q3⟩
     ·rw [e0] at c0;rw [e1] at c1;exact .inr ⟨hk,c0,c1⟩
    clear ho hm hr hx;go_wp2;refine bodyPost_ret (v:=.agg #[.int .i64 (kd:Int),.int .i64 (m:Int),.int .i64 (k:Int),.int .i64 (n:Int),.slice (some ⟨g,0,none⟩) j cap]) (by simp [results,results130,go_sem,r0,r1,r2,r3,r4]) rfl ?_;refine⟨g,⟨cap,rfl⟩,HTr.o _ ?_,?_⟩
    ·exact lQ (p:=⟨w.heap.size,4,none⟩) (lQ (p:=⟨w.heap.size,3,none⟩) (lQ (p:=⟨w.heap.size,2,none⟩) (lQ (p:=⟨w.heap.size,1,none⟩) (lQ (p:=⟨w.heap.size,0,none⟩) (rD (fun b=>b=w.heap.size) wr) (fun _=>rfl) _) (fun _=>rfl) _) (fun _=>rfl) _) (fun _=>rfl) _) (fun _=>rfl) _
    ·exact rF (rF (rF (rF (rF HX.o (lO _) _) (lO _) _) (lO _) _) (lO _) _) (lO _) _
end
section
open Go.RowKit
theorem YU:U8 releaseL:=by intro x hx;simp only [releaseL,List.mem_cons,List.not_mem_nil,or_false] at hx;rcases hx with rfl|rfl<;>decide
theorem vE {W:World}{b:Nat}{s i:Nat}{vals:Nat->Nat}(hW:W.heap[b]?=some (.cells #[.int .i64 (s:Int),.int .i64 (i:Int)] 214 (0,0)))(hv:vals 0=s/\vals 1=i):∀x∈releaseL,W.cell? ⟨b,x.1,none⟩=some (.int .i64 (vals x.1:Int)):=by
 obtain⟨v0,v1⟩:=hv;intro x hx;simp only [releaseL,List.mem_cons,List.not_mem_nil,or_false] at hx;rcases hx with rfl|rfl
 ·show W.cell? ⟨b,0,none⟩=some (.int .i64 (vals 0:Int));rw [v0];exact zc hW rfl
 ·show W.cell? ⟨b,1,none⟩=some (.int .i64 (vals 1:Int));rw [v1];exact zc hW rfl
theorem Uu (b:Nat)(s i:Nat)(vals:Nat->Nat)(hv:vals 0=s/\vals 1=i)(hmax:∀j,vals j<=2147483647)(w:World)(hb:w.heap[b]?=some (.cells #[.int .i64 (s:Int),.int .i64 (i:Int)] 214 (0,0))) :
  Calls Tryz.prog 57 #[.iface 205 (.pointer (some ⟨b,0,none⟩))] w fun e w'=>e=.returned (.string ⟨([3]++ZW vals releaseL).toArray⟩)/\Ext w w':=by
 have HV:=hid hv;have HB:Hd _:=hb;have HMX:=hid hmax;have hm1:=Yz;have hm2:=Yn;have hfk:=Xt;clear hv hb hmax;go_enter func57,ntmps57;go_wp2_with (first
  | (go_at_call 219;refine(yG b s i _ (by exact HB.o)).mono ?_;rintro e w1 ⟨rfl,hx1⟩)
  | (go_at_call 220;refine(yx b _).mono ?_;rintro e w2 ⟨g,cap,rfl,ho,hx2⟩))
 obtain⟨g0,hg0⟩:∃g0,g0=w1.heap.size:=⟨_,rfl⟩
 have HO0:Hd (w2.ownsRow w.heap.size 5 1 (.slice (some ⟨w1.heap.size,0,none⟩) 1 1) 1 (Ze [3])):=(hx2.owns (World.ownsRow_lit w1 #[.int .u8 3] 1 hx1.le (by unfold maxLen;omega) rfl):_)
 have HX2:Ext w w2:=(hx1.alloc _).trans hx2;have HB2:Hd (w2.heap[b]?=some (.cells #[.int .i64 (s:Int),.int .i64 (i:Int)] 214 (0,0))):=HX2.block (by exact HB.o);have HF2:Hd (∃cur:Array Value,w2.heap[g]?=some (.cells cur 162 (0,0))/\∀j,j<2*3->cur[j]?=(fl b releaseL)[j]?):=by
  rcases ho.2 with⟨h0,_⟩|⟨g1,cap1,cur,h0,_,hh,_,_,_,ht⟩
  ·simp at h0
  ·simp only [Value.slice.injEq,Option.some.injEq,Addr.mk.injEq,and_true,true_and] at h0;obtain⟨rfl,rfl⟩:=h0;exact⟨cur,hh,fun j hj=>by rw [<-ht,List.getElem?_take,if_pos hj];simp⟩
 clear ho hx1 hx2 hg0 g0
 go_loopw [3,5,14] (fun u _ i wr=>∃(k n g' cap':Nat),k<=2/\u=.slice (some ⟨g',0,none⟩) n cap'/\i=.int .i64 k/\([(3:UInt8)]++ZW vals (releaseL.take k)).length=n/\wr.ownsRow w.heap.size 5 1 (.slice (some ⟨g',0,none⟩) n cap') n (Ze ([3]++ZW vals (releaseL.take k)))/\Below w.heap.size w2 wr/\Keeps w2 wr) (fun _ _ i _=>2 - (intOf i).toNat)
 case atStart=>exact⟨0,1,_,_,lT _,rfl,rfl,rfl,HO0.o,Below.refl _ _,Keeps.refl _⟩
 case round=>
  obtain⟨k,n,g',cap',hk,rfl,rfl,hn,hor,hbel,hkp⟩:=hrel;have HN:=hid hn;have hn1:1<=n:=by rw [<-hn];simp
  have hn2:n<=65:=by have h1:=qS vals (releaseL.take k) (fun x hx=>YU x (List.mem_of_mem_take hx));have h2:(releaseL.take k).length<=8:=rH (List.length_take_le' _ _) (by decide);rw [<-hn];simp;omega
  clear hn;by_cases hlt:k<2
  ·have hkl:k<releaseL.length:=hlt;have HX:Hd (releaseL.take (k+1)=releaseL.take k++[releaseL[k]]):=rV hkl;obtain⟨cur,hg2,hcur⟩:=HF2.o;have hgr:=hkp.block g _ _ _ hg2 (by decide);have hbr:=hkp.block b _ _ _ HB2.o (by decide);obtain⟨f0,f1,f2⟩:=jU b releaseL k hkl;have e0:wr.cell? ⟨g,k*3,none⟩=some (.pointer (some ⟨b,releaseL[k].1,none⟩)):=zc hgr ((hcur _ (by omega)).trans f0);have e1:wr.cell? ⟨g,k*3+1,none⟩=some (.int .i64 releaseL[k].2.1):=zc hgr ((hcur _ (by omega)).trans f1);have e2:wr.cell? ⟨g,k*3+2,none⟩=some (.int .i64 releaseL[k].2.2):=zc hgr ((hcur _ (by omega)).trans f2);have e3:=vE hbr HV.o releaseL[k] (lV hkl);have hmx:=HMX.o releaseL[k].1;have hs8:=YU releaseL[k] (lV hkl);have HFB:Hd (ZW vals (releaseL.take (k+1))=ZW vals (releaseL.take k)++zG (vals releaseL[k].1) releaseL[k].2.1.toNat):=by
    show ZW vals (releaseL.take (k+1))=_
    rw [HX.o,XN]
   have hgl:g<wr.heap.size:=lG wr _ e0;have hbl:b<wr.heap.size:=lG wr _ e3;obtain⟨sz,hsz⟩:∃sz:Nat,releaseL[k].2.1=(sz:Int):=⟨releaseL[k].2.1.toNat,by omega⟩
   rw [hsz] at e1 hs8 HFB;rw [Int.toNat_natCast] at HFB;clear hsz f0 f1 f2 hcur hg2 HX hgr hbr;generalize vals releaseL[k].1=x at *;generalize releaseL[k].2.2=mo at *;generalize releaseL[k].1=o at *;have hwr:IntKind.u64.wrap (x:Int)=(x:Int):=by rw [IntKind.wrap_u64];omega
   have hszr:=hbel.size;have hszw:=HX2.le;go_wp2
   go_region_with (go_at_call 86;refine(jQ w.heap.size n g' cap' ([3]++ZW vals (releaseL.take k)) x sz (by omega) (by omega) (by omega) _ (by exact hor.alloc _) (by simp;omega) (by omega)).mono ?_;rintro e w3 ⟨g3,cap3,rfl,ho3,hb3,hk3⟩)
   all_goals
    have R1:w3.ownsRow w.heap.size 5 1 (.slice (some ⟨g3,0,none⟩) (n+sz) cap3) (n+sz) (Ze ([3]++ZW vals (releaseL.take (k+1)))):=by rw [HFB.o,<-sI];exact ho3
    have R2:Below w.heap.size w2 w3:=(hbel.alloc (by omega) _).drew.trans hb3;have R3:Keeps w2 w3:=((hkp.alloc _).drew).trans hk3;have R4:([(3:UInt8)]++ZW vals (releaseL.take (k+1))).length=n+sz:=by rw [HFB.o,<-sI,lW,HN.o,ZG]
    have HR4:Hd _:=R4;clear R4 ho3 hb3 hk3 hor hbel hkp;go_wp2
    go_roundw
    case rel=>exact⟨k+1,n+sz,g3,cap3,by omega,rfl,by go_num,HR4.o,R1,R2,R3⟩
    case measure=>simp [intOf];omega
  ·obtain rfl:k=2:=by omega
   have hcv:=YG HN.o hor;have HE:Ext w wr:=Below.trans HX2 hbel;rw [show releaseL.take 2=releaseL from rfl] at hcv;clear hor hbel hkp;go_wp2;go_ret;exact⟨rfl,HE⟩
end
section
open Go.RowKit Go.Maps
theorem jS:(Tryz.prog.info? 9).map (fun i=>(i.zero,i.size,i.bytes))=some (some (.string ⟨#[]⟩),1,16):=by kernel_rfl
def yC (s i kd m k n c:Nat):Nat->Nat
 | 0=>s|1=>i|2=>kd|3=>m|4=>k|5=>n|6=>c|_=>0
def Z4 (s i:Nat):Nat->Nat
 | 0=>s|1=>i|_=>0
def Zf (w:World)(rb:Nat)(ss ii:Int):Prop:=w.heap[rb]?=some (.cells #[.int .i64 ss,.int .i64 ii] 214 (0,0))
def Z0 (s i kd m k n c:Nat):ByteArray:=⟨([1]++ZW (yC s i kd m k n c) leaseL).toArray⟩
def yT (s i:Nat):ByteArray:=⟨([3]++ZW (Z4 s i) releaseL).toArray⟩
theorem qY (s i kd m k n c:Nat):(Z0 s i kd m k n c).size<=100000:=by
 show ([1]++ZW (yC s i kd m k n c) leaseL).toArray.size<=100000
 have h1:=qS (yC s i kd m k n c) leaseL (fun x hx=>qJ x hx);have h2:leaseL.length=7:=rfl;rw [List.size_toArray,lW];simp at h1 ⊢;omega
theorem xt (s i:Nat):(yT s i).size<=100000:=by
 show ([3]++ZW (Z4 s i) releaseL).toArray.size<=100000
 have h1:=qS (Z4 s i) releaseL (fun x hx=>YU x hx);have h2:releaseL.length=2:=rfl;rw [List.size_toArray,lW];simp at h1 ⊢;omega
theorem qu (rb s i kd m k n c:Nat)(hs:s<=2147483647)(hi:i<=2147483647)(hkd:kd<=255)(hm:m<=255)(hk:k<=255)(hn:n<=255)(hc:c<=2147483647)(w:World)(hr:Zh w rb s i kd m k n c) :
  Calls Tryz.prog 132 #[.agg #[.pointer (some ⟨rb,0,none⟩)]] w fun e w'=>e=.returned (.string (Z0 s i kd m k n c))/\Ext w w':=by
 have HW:Hd (∀w',Ext w w'->_):=fun w' hx=>Uc rb s i kd m k n c (yC s i kd m k n c) ⟨rfl,rfl,rfl,rfl,rfl,rfl,rfl⟩ (fun j=>by unfold yC;split<;>omega) w' (hx.block hr)
 clear hs hi hkd hm hk hn hc hr;unfold Z0;go_enter func132,ntmps132;go_wp2_with fail
 refine(HW.o _ ((lI w).alloc _)).mono ?_;rintro e w1 ⟨rfl,hx1⟩;go_wp2;go_ret;exact⟨rfl,((lI w).alloc _).trans hx1⟩
theorem YO (rb s i:Nat)(hs:s<=2147483647)(hi:i<=2147483647)(w:World)(hr:Zf w rb s i) :
  Calls Tryz.prog 133 #[.agg #[.pointer (some ⟨rb,0,none⟩)]] w fun e w'=>e=.returned (.string (yT s i))/\Ext w w':=by
 have HW:Hd (∀w',Ext w w'->_):=fun w' hx=>Uu rb s i (Z4 s i) ⟨rfl,rfl⟩ (fun j=>by unfold Z4;split<;>omega) w' (hx.block hr)
 clear hs hi hr;unfold yT;go_enter func133,ntmps133;go_wp2_with fail
 refine(HW.o _ ((lI w).alloc _)).mono ?_;rintro e w1 ⟨rfl,hx1⟩;go_wp2;go_ret;exact⟨rfl,((lI w).alloc _).trans hx1⟩
structure Stk where
 kd:Nat
 m:Nat
 k:Nat
 n:Nat
 ts:List (List Int×Bool)
 leased:Nat
def StkR.abs (x:StkR):Stk:=⟨x.kd,x.m,x.k,x.n,x.ts,x.leased⟩
def Stk.is (x:Stk)(kd m k n:Int):Bool:=(x.kd:Int) == kd && ((x.m:Int) == m && ((x.k:Int) == k && (x.n:Int) == n))
def Stk.sh (x:Stk):Sh:=zB x.kd x.m x.k x.n
def Stk.more (x:Stk)(us:List (List Int×Bool)):Stk:={ x with ts:=x.ts++us }
def Yo (x:Stk):ByteArray:=⟨(yM x.kd x.m x.k x.n x.sh x.ts).toArray⟩
def YM (l:LsV):ByteArray:=Z0 l.s.toNat l.i.toNat l.kd.toNat l.m.toNat l.k.toNat l.n.toNat l.c.toNat
def Y1 (l:LsV):ByteArray:=yT l.s.toNat l.i.toNat
def yR (S:List Stk)(ls:List LsV):List ByteArray:=(S.map Yo++ls.map YM)++(ls.filter (·.r)).map Y1
def xH (l:LsV):Prop:=(0<=l.s/\l.s<=2147483647)/\(0<=l.i/\l.i<=2147483647)/\(0<=l.kd/\l.kd<=255)/\(0<=l.m/\l.m<=255)/\(0<=l.k/\l.k<=255)/\(0<=l.n/\l.n<=255)/\(0<=l.c/\l.c<=2147483647)
structure StkOk (x:Stk):Prop where
 sh:1<=x.sh.x+x.sh.y+x.sh.z/\x.sh.x+x.sh.y+x.sh.z<=27
 made:1<=x.ts.length/\x.ts.length<=200
 ts:∀u∈x.ts,OkT x.sh u
theorem Us {x:Stk}(h:StkOk x):(Yo x).size<=100000:=by
 show (yM x.kd x.m x.k x.n x.sh x.ts).toArray.size<=100000
 have h1:=Q2 h.sh.2 h.ts;have h2:=h.made.2;have h3:x.ts.length*433<=200*433:=Nat.mul_le_mul_right _ h2;rw [List.size_toArray,yM,lW];show 5+_<=_
 omega
theorem vS {S:List Stk}{ls:List LsV}(h:∀x∈S,StkOk x):∀r∈yR S ls,r.size<=100000:=by
 intro r hr;rcases sE.1 hr with hr|hr
 ·rcases sE.1 hr with hr|hr
  ·obtain⟨x,hx,rfl⟩:=sC.1 hr;exact Us (h x hx)
  ·obtain⟨l,_,rfl⟩:=sC.1 hr;exact qY _ _ _ _ _ _ _
 ·obtain⟨l,_,rfl⟩:=sC.1 hr;exact xt _ _
def xm (l:List ByteArray):List Value:=l.map Value.string
def yX (w:World)(base:Nat)(v:Value)(l:List ByteArray):Prop:=w.ownsRow base 9 1 v l.length (xm l)
section
variable {B:Nat}{F:Nat->Prop}{sv lv dv:Value}{R:List StkR}{ls:List LsV}{ops:List OpV}{fl:Bool}{ah:Int}{kn:Bool}
theorem Vs (hR:R.length<=100)(hls:ls.length<=900)(hok:∀x∈R,StkOk x.abs)(hlok:∀l∈ls,xH l)(w:World)(h:StoreOf w B F sv lv dv R ls ops fl ah kn) :
  Calls Tryz.prog 92 #[.pointer (some ⟨B,0,none⟩)] w fun e w'=>∃v,e=.returned v/\yX w' w.heap.size v (yR (R.map StkR.abs) ls)/\Ext w w':=by
 obtain⟨i0,hi,hz0,hz1,hz2⟩:=info_parts jS;obtain⟨c0,c1,_⟩:=h.deal.cells;have hB:=h.deal.lt;have H:Hd _:=h;have HOK:Hd _:=hok;have HLOK:Hd _:=hlok;obtain⟨sa,sc,hsv⟩:=zo h.srow;obtain⟨la,lc,hlv⟩:=zo h.lrow;subst hsv hlv;clear h hok hlok;obtain⟨rn,hrn⟩:∃rn,R.length=rn:=⟨_,rfl⟩
 obtain⟨ln,hln⟩:∃ln,ls.length=ln:=⟨_,rfl⟩
 have HRN:=hid hrn;have HLN:=hid hln;rw [hrn] at c0 hR;rw [hln] at c1 hls;have C1:=hid c1;clear hrn hln;go_enter func92,ntmps92;go_wp2
 go_loopw [3,15] (fun u i wr=>∃j:Nat,j<=rn/\i=.int .i64 j/\yX wr w.heap.size u (((R.map StkR.abs).take j).map Yo)/\Ext w wr) (fun _ i _=>rn - (intOf i).toNat)
 case atStart=>exact⟨0,lT _,rfl,rB _ _ _ _,lI _⟩
 case round=>
  obtain⟨j,hj,rfl,ho,hx⟩:=hrel;have HO:=hid ho;have HX:=hid hx;have hwl:=hx.le;clear ho hx;by_cases hlt:j<rn
  ·have hjR:j<R.length:=by rw [HRN.o];exact hlt
   have hsr:=H.o.srow;rcases zw hsr with⟨_,h0,_⟩|⟨g,cap,hg,_,_,_⟩
   ·omega
   ·injection hg with hg1 hg2 hg3
    subst hg1 hg3;rw [HRN.o] at hsr;have e0:wr.cell? ⟨g,j,none⟩=some (.pointer (some ⟨R[j].blk,0,none⟩)):=HX.o.cell (zk hsr (by simp [Zt,hjR]));have hgl:=lG wr _ e0;have HMk:Hd (∀w',Ext w w'->_):=fun w' hx=>uQ R[j] F (HOK.o R[j] (lV hjR)).made.1 (by have:=(HOK.o R[j] (lV hjR)).made.2;have e:R[j].abs.ts.length=R[j].ts.length:=rfl;omega) w' ((H.o.ext hx).stk R[j] (lV hjR))
    have HRc:Hd (∀(gt tcap:Nat) (w':World),TriRow w' F gt R[j].sh R[j].ts->Calls Tryz.prog 131 #[.agg #[.int .i64 R[j].kd,.int .i64 R[j].m,.int .i64 R[j].k,.int .i64 R[j].n,.slice (some ⟨gt,0,none⟩) R[j].ts.length tcap]] w' fun e w''=>e=.returned (.string ⟨(yM R[j].kd R[j].m R[j].k R[j].n R[j].sh R[j].ts).toArray⟩)/\Ext w' w''):=fun gt tcap w' htr=>qI R[j].kd R[j].m R[j].k R[j].n gt tcap R[j].ts.length F R[j].sh (HOK.o R[j] (lV hjR)).sh.1 (HOK.o R[j] (lV hjR)).sh.2 R[j].ts rfl (HOK.o R[j] (lV hjR)).made.2 (HOK.o R[j] (lV hjR)).ts w' htr
    have HNx:Hd (((R.map StkR.abs).take (j+1)).map Yo=((R.map StkR.abs).take j).map Yo++[⟨(yM R[j].kd R[j].m R[j].k R[j].n R[j].sh R[j].ts).toArray⟩]):=by
     show ((R.map StkR.abs).take (j+1)).map Yo=_
     rw [rV (by simpa using hjR),rY];simp [Yo,StkR.abs,Stk.sh,StkR.sh]
    have hln:(((R.map StkR.abs).take j).map Yo).length<=100:=by simp;omega
    generalize ((R.map StkR.abs).take j).map Yo=P at *;generalize R[j].kd=kd at *;generalize R[j].m=m at *;generalize R[j].k=k at *;generalize R[j].n=n at *;generalize R[j].blk=blk at *;generalize R[j].ts=ts at *;generalize R[j].sh=s at *;generalize (⟨(yM kd m k n s ts).toArray⟩:ByteArray)=rec at *;clear hsr;go_wp2_with fail
    refine(HMk.o _ HX.o).mono ?_;rintro e w2 ⟨gt,tcap,rfl,htr,hx2⟩;have HX2:=hid hx2;have HTR:=hid htr;clear htr hx2;go_wp2_with fail
    refine(HRc.o gt tcap _ HTR.o).mono ?_;rintro e w3 ⟨rfl,hx3⟩;have HX3:Hd (Ext wr w3):=HX2.o.trans hx3;have hw3:=HX3.o.le;clear hx3;go_wp2_with (at_builtin;refine wpList_append_own _ rfl _ _ 166 rfl w.heap.size 9 i0 (.string ⟨#[]⟩) 1 16 underlying166 hi hz0 hz1 hz2 rfl (by decide) _ _ _ rfl (lR.alloc (rE HX3.o HO.o) _) ⟨_,0,none⟩ 1 1 [.string rec] rfl rfl ?c1 ?c2 ?c3 ?c4 ?c5 ?_)
    case c1=>exact cell_one_new _ _ _
    case c2=>intro u hu;simp at hu;subst hu;rfl
    case c3=>unfold maxLen;omega
    case c4=>omega
    case c5=>simp;omega
    intro v4 w4 ho4 hg4 _;have HX4:Hd (Ext w w4):=rG (lK (HX.o.trans HX3.o) _) hg4 (fun q hq=>(lR.lt HO.o q hq).1);have HO4:Hd (yX w4 w.heap.size v4 (P++[rec])):=by
     show lR _ _ _ _ _ _ _
     rw [lW,xm,rY];exact ho4
    clear ho4 hg4;go_wp2
    go_roundw
    case rel=>exact⟨j+1,by omega,by go_num,by rw [HNx.o];exact HO4.o,HX4.o⟩
    case measure=>simp [intOf];omega
  ·obtain rfl:j=rn:=by omega
   have HO1:Hd (yX wr w.heap.size u3 ((R.map StkR.abs).map Yo)):=by have h:=HO.o;rw [rM (by rw [rU,HRN.o];exact lO _)] at h;exact h
   have hln1:((R.map StkR.abs).map Yo).length<=100:=by simp [HRN.o];omega
   obtain⟨P1,hP1⟩:∃P1,(R.map StkR.abs).map Yo=P1:=⟨_,rfl⟩
   rw [hP1] at HO1 hln1;have HP1:=hid hP1;have c1:=HX.o.cell c1;clear hP1 HO c0;have hBr:=rA hB hwl;have HXr:Hd (Ext w wr):=HX.o;obtain⟨w0,hw0⟩:∃w0,wr=w0:=⟨_,rfl⟩
   rw [hw0] at HO1 HXr c1 hBr ⊢;clear hw0 HX hwl;go_wp2
   go_loopw [3,31] (fun u i wr=>∃j:Nat,j<=ln/\i=.int .i64 j/\yX wr w.heap.size u (P1++(ls.take j).map YM)/\Ext w wr) (fun _ i _=>ln - (intOf i).toNat)
   case atStart=>exact⟨0,lT _,rfl,by rw [List.take_zero,List.map_nil,rL];exact HO1.o,HXr.o⟩
   case round=>
    obtain⟨q,hq,rfl,ho,hx⟩:=hrel;have HO:=hid ho;have HX:=hid hx;have hwl:=HX.o.le;clear ho hx;by_cases hlt:q<ln
    ·have hqL:q<ls.length:=by rw [HLN.o];exact hlt
     have hlr:=H.o.lrow;rcases zw hlr with⟨_,h0,_⟩|⟨g,cap,hg,_,_,_⟩
     ·omega
     ·injection hg with hg1 hg2 hg3
      subst hg1 hg3;obtain⟨l0,l1,l2,l3,l4,l5,l6,l7,l8⟩:=(hlr.ext HX.o).cells q hqL;have hgl:=lG wr _ l0;obtain⟨b0,b1,b2,b3,b4,b5,b6⟩:=HLOK.o ls[q] (lV hqL);have HNx:Hd (P1++(ls.take (q+1)).map YM=(P1++(ls.take q).map YM)++[YM ls[q]]):=by
       show P1++(ls.take (q+1)).map YM=_
       rw [rV hqL,rY,<-sI]
       rfl
      have hln:(P1++(ls.take q).map YM).length<=1000:=by rw [lW,rU,sF];omega
      obtain⟨ss,e1⟩:=rZ b0.1;obtain⟨ii,e2⟩:=rZ b1.1;obtain⟨kd,e3⟩:=rZ b2.1;obtain⟨m,e4⟩:=rZ b3.1;obtain⟨k,e5⟩:=rZ b4.1;obtain⟨n,e6⟩:=rZ b5.1;obtain⟨c,e7⟩:=rZ b6.1;have HRe:Hd (YM ls[q]=Z0 ss ii kd m k n c):=by
       show YM ls[q]=_
       rw [YM,e1,e2,e3,e4,e5,e6,e7]
       rfl
      rw [e1] at l0 b0;rw [e2] at l1 b1;rw [e3] at l2 b2;rw [e4] at l3 b3;rw [e5] at l4 b4;rw [e6] at l5 b5;rw [e7] at l7 b6;have HRc:Hd (∀(rb:Nat) (w':World),Zh w' rb ss ii kd m k n c->Calls Tryz.prog 132 #[.agg #[.pointer (some ⟨rb,0,none⟩)]] w' fun e w''=>e=.returned (.string (Z0 ss ii kd m k n c))/\Ext w' w''):=fun rb w' hr=>qu rb ss ii kd m k n c (by omega) (by omega) (by omega) (by omega) (by omega) (by omega) (by omega) w' hr
      clear b0 b1 b2 b3 b4 b5 b6 e1 e2 e3 e4 e5 e6 e7 hlr;generalize P1++(ls.take q).map YM=P at *;generalize ls[q].f=ff at *;generalize ls[q].r=rr at *;generalize Z0 ss ii kd m k n c=rec at *;go_wp2_with fail
      refine(HRc.o _ _ (zm (by simp))).mono ?_;rintro e w3 ⟨rfl,hx3⟩;have HX3:Hd (Ext wr w3):=(((lI wr).alloc _).alloc _).trans hx3;have hw3:=HX3.o.le;clear hx3;go_wp2_with (at_builtin;refine wpList_append_own _ rfl _ _ 166 rfl w.heap.size 9 i0 (.string ⟨#[]⟩) 1 16 underlying166 hi hz0 hz1 hz2 rfl (by decide) _ _ _ rfl (lR.alloc (rE HX3.o HO.o) _) ⟨_,0,none⟩ 1 1 [.string rec] rfl rfl ?c1 ?c2 ?c3 ?c4 ?c5 ?_)
      case c1=>exact cell_one_new _ _ _
      case c2=>intro u hu;simp at hu;subst hu;rfl
      case c3=>unfold maxLen;omega
      case c4=>omega
      case c5=>simp;omega
      intro v4 w4 ho4 hg4 _;have HX4:Hd (Ext w w4):=rG (lK (HX.o.trans HX3.o) _) hg4 (fun q' hq'=>(lR.lt HO.o q' hq').1);have HO4:Hd (yX w4 w.heap.size v4 (P++[rec])):=by
       show lR _ _ _ _ _ _ _
       rw [lW,xm,rY];exact ho4
      clear ho4 hg4;go_wp2
      go_roundw
      case rel=>exact⟨q+1,by omega,by go_num,by rw [HNx.o,HRe.o];exact HO4.o,HX4.o⟩
      case measure=>simp [intOf];omega
    ·obtain rfl:q=ln:=by omega
     have HO2:Hd (yX wr w.heap.size u3 (P1++ls.map YM)):=by have h:=HO.o;rw [rM (by rw [HLN.o];exact lO _)] at h;exact h
     have hln2:(P1++ls.map YM).length<=1000:=by rw [lW,rU,HLN.o];omega
     obtain⟨P2,hP2⟩:∃P2,P1++ls.map YM=P2:=⟨_,rfl⟩
     rw [hP2] at HO2 hln2;have HP2:=hid hP2;have c1:=HX.o.cell C1.o;have hBr:=rA hB hwl;clear hP2 HO HO1 HXr;go_wp2
     go_loopw [3,56] (fun u i wr=>∃j:Nat,j<=q/\i=.int .i64 j/\yX wr w.heap.size u (P2++((ls.take j).filter (·.r)).map Y1)/\Ext w wr) (fun _ i _=>q - (intOf i).toNat)
     case atStart=>exact⟨0,lT _,rfl,by rw [List.take_zero,List.filter_nil,List.map_nil,rL];exact HO2.o,HX.o⟩
     case round=>
      clear HX c1 hBr hwl;obtain⟨j2,hj2,rfl,ho,hx⟩:=hrel;have HO:=hid ho;have HX:=hid hx;have hwl:=HX.o.le;clear ho hx;by_cases hlt:j2<q
      ·have hqL:j2<ls.length:=by rw [HLN.o];exact hlt
       have hlr:=H.o.lrow;rcases zw hlr with⟨_,h0,_⟩|⟨g,cap,hg,_,_,_⟩
       ·omega
       ·injection hg with hg1 hg2 hg3
        subst hg1 hg3;obtain⟨l0,l1,l2,l3,l4,l5,l6,l7,l8⟩:=(hlr.ext HX.o).cells j2 hqL;have hgl:=lG wr _ l0;obtain⟨b0,b1,b2,b3,b4,b5,b6⟩:=HLOK.o ls[j2] (lV hqL);have hln:(P2++((ls.take j2).filter (·.r)).map Y1).length<=2000:=by have h1:=List.length_filter_le (·.r) (ls.take j2);rw [sF] at h1;rw [lW,rU];omega
        have hnx:P2++((ls.take (j2+1)).filter (·.r)).map Y1=(P2++((ls.take j2).filter (·.r)).map Y1)++(if ls[j2].r=true then [Y1 ls[j2]] else []):=by rw [rV hqL,List.filter_append,rY,<-sI];congr 1;cases hq:ls[j2].r<;>simp [hq]
        obtain⟨ss,e1⟩:=rZ b0.1;obtain⟨ii,e2⟩:=rZ b1.1;have HRe:Hd (Y1 ls[j2]=yT ss ii):=by
         show Y1 ls[j2]=_
         rw [Y1,e1,e2]
         rfl
        rw [e1] at l0 b0;rw [e2] at l1 b1;have HRc:Hd (∀(rb:Nat) (w':World),Zf w' rb ss ii->Calls Tryz.prog 133 #[.agg #[.pointer (some ⟨rb,0,none⟩)]] w' fun e w''=>e=.returned (.string (yT ss ii))/\Ext w' w''):=fun rb w' hr=>YO rb ss ii (by omega) (by omega) w' hr
        clear b0 b1 b2 b3 b4 b5 b6 e1 e2 hlr;generalize P2++((ls.take j2).filter (·.r)).map Y1=P at *;generalize ls[j2].kd=kd at *;generalize ls[j2].m=m at *;generalize ls[j2].k=k at *;generalize ls[j2].n=n at *;generalize ls[j2].f=ff at *;generalize ls[j2].c=cc at *;generalize yT ss ii=rec at *;cases hrr:ls[j2].r with
        | false=>
         have HNx:Hd (P2++((ls.take (j2+1)).filter (·.r)).map Y1=P):=by
          show _=_
          rw [hnx,hrr];simp
         rw [hrr] at l8;clear hnx hrr;go_wp2
         go_roundw
         case rel=>exact⟨j2+1,by omega,by go_num,by rw [HNx.o];exact rE ((lI wr).alloc _) HO.o,HX.o.alloc _⟩
         case measure=>simp [intOf];omega
        | true=>
         have HNx:Hd (P2++((ls.take (j2+1)).filter (·.r)).map Y1=P++[Y1 ls[j2]]):=by
          show _=_
          rw [hnx,hrr];simp
         rw [hrr] at l8;clear hnx hrr;go_wp2_with fail
         refine(HRc.o _ _ (zm (by simp))).mono ?_;rintro e w3 ⟨rfl,hx3⟩;have HX3:Hd (Ext wr w3):=(((lI wr).alloc _).alloc _).trans hx3;have hw3:=HX3.o.le;clear hx3;go_wp2_with (at_builtin;refine wpList_append_own _ rfl _ _ 166 rfl w.heap.size 9 i0 (.string ⟨#[]⟩) 1 16 underlying166 hi hz0 hz1 hz2 rfl (by decide) _ _ _ rfl (lR.alloc (rE HX3.o HO.o) _) ⟨_,0,none⟩ 1 1 [.string rec] rfl rfl ?c1 ?c2 ?c3 ?c4 ?c5 ?_)
         case c1=>exact cell_one_new _ _ _
         case c2=>intro u hu;simp at hu;subst hu;rfl
         case c3=>unfold maxLen;omega
         case c4=>omega
         case c5=>simp;omega
         intro v4 w4 ho4 hg4 _;have HX4:Hd (Ext w w4):=rG (lK (HX.o.trans HX3.o) _) hg4 (fun q' hq'=>(lR.lt HO.o q' hq').1);have HO4:Hd (yX w4 w.heap.size v4 (P++[rec])):=by
          show lR _ _ _ _ _ _ _
          rw [lW,xm,rY];exact ho4
         clear ho4 hg4;go_wp2
         go_roundw
         case rel=>exact⟨j2+1,by omega,by go_num,by rw [HNx.o,HRe.o];exact HO4.o,HX4.o⟩
         case measure=>simp [intOf];omega
      ·obtain rfl:j2=q:=by omega
       have HF:Hd (yX wr w.heap.size u3 (yR (R.map StkR.abs) ls)):=by
        have h:=HO.o;rw [rM (by rw [HLN.o];exact lO _)] at h;show yX _ _ _ _
        rw [yR,HP1.o,HP2.o];exact h
       go_wp2;go_ret;exact⟨_,rfl,HF.o,HX.o⟩
end
end
end Go.Proofs.YtmnjhhachdlmkaaGreat
