import Derived.Shelf.SlMaps.Clone
import Derived.Test.YtmnjhhachdlmkaaGreatK22
import Derived.Test.YtmnjhhachdlmkaaGreatK13
import Derived.Test.YtmnjhhachdlmkaaGreatK19
import Derived.Test.YtmnjhhachdlmkaaGreatK09
namespace Go.Proofs.YtmnjhhachdlmkaaGreat
set_option linter.all false
set_option maxRecDepth 100000
set_option maxHeartbeats 6400000
open Tryz
open Ext renaming refl -> lI, alloc -> lK, drew -> lJ
open World renaming ownsRow_nil -> rB, news_of_block -> rI, ownsRow -> lR, setCell -> rC, alloc -> lP
open Turn renaming setCell -> lQ, refl -> rD, of_ext -> lM, grown -> rJ
open AllReadyH renaming cons -> sD
open Nat renaming zero_le -> lT, not_lt_zero -> sG, le_refl -> lO
open List renaming mem_singleton -> sJ, take_succ_eq_append_getElem -> rV, map_append -> rY, length_take -> sF, getElem_mem -> lV
open IntKind renaming wrap_i64 -> rP
open Go.RowKit Go.Maps
open List renaming getElem_toArray -> lA, getElem_cons_succ -> lB, getElem_cons_zero -> lC, setIfInBounds_toArray -> lD, set_cons_zero -> lE, set_cons_succ -> lF
open World renaming block_lt_of_cell? -> lG
open Value renaming ownBlock -> lH
section
theorem Ky (w:World):Calls Tryz.prog 40 #[] w fun e w'=>e=.returned (.pointer (some ⟨w.heap.size,0,none⟩))/\w'=w.alloc (.cells #[.slice none 0 0,.slice none 0 0,.slice none 0 0,.bool false,.int .i64 0,.bool false] 114):=by go_enter func40,ntmps40;go_wp2;go_ret;exact⟨rfl,rfl⟩
theorem uo:InvS [] []:=⟨by simp,by simp,by simp,by simp,by simp,fun i j hi=>by simp at hi,by simp,by simp,by simp,fun i j hi=>by simp at hi⟩
theorem jP (w:World):Calls Tryz.prog 11 #[] w fun e w'=>∃P B,e=.returned (.pointer (some ⟨P,0,none⟩))/\Live w' P B w.heap.size 2/\Ext w w':=by
 obtain⟨j0,hj0,hy0,hy1,hy2⟩:=info_parts Q7;obtain⟨k0,hk0i,hw0,hw1,hw2⟩:=info_parts XT;have HOp:Hd (∀w',_):=fun w'=>Ky w'
 go_enter func11,ntmps11;go_wp2_with fail
 refine(HOp.o _).mono ?_;rintro e w1 ⟨rfl,hw1E⟩;have HB1:Hd (w1.heap[w.heap.size]?=some (.cells #[.slice none 0 0,.slice none 0 0,.slice none 0 0,.bool false,.int .i64 0,.bool false] 114 (0,0))/\Ext w w1/\w1.heap.size=w.heap.size+1):=by rw [hw1E];exact⟨heap_alloc_new _ _,(lI w).alloc _,by simp⟩
 clear hw1E;go_wp2_with (at_builtin;refine wpList_append_lies _ rfl _ _ 85 rfl w1.heap.size 95 j0 _ 1 8 underlying85 hj0 hy0 hy1 hy2 rfl (by decide) _ 0 [] rfl (rB _ _ _ _) ⟨_,0,none⟩ 1 1 [.pointer (some ⟨w1.heap.size+1,0,none⟩)] rfl rfl (rI (zm (by simp))) (by simp [Value.oneCell']) (by decide) (by simp [maxLen]) (by omega) (by simp;omega) _ rfl ?_)
 intro g1 cap1 w2 hown2 hgrow2 hat2 hlt2;have HX2:Hd (Ext ((w1.alloc (.cells #[.pointer (some ⟨w.heap.size,0,none⟩),.slice none 0 0,.slice none 0 0,.slice none 0 0,.slice none 0 0,.bool false,.int .i64 0,.slice none 0 0,.slice none 0 0,.slice none 0 0,.slice none 0 0] 94)).alloc (.cells #[.slice none 0 0,.slice none 0 0] 98)) w2):=Ext.grown (lK (lI _) _) hgrow2 (by simp [lH]);obtain⟨P,hP⟩:∃P,w1.heap.size=P:=⟨_,rfl⟩
 have HGB:Hd (w2.heap[P]?=some (.cells #[.pointer (some ⟨w.heap.size,0,none⟩),.slice none 0 0,.slice none 0 0,.slice none 0 0,.slice none 0 0,.bool false,.int .i64 0,.slice none 0 0,.slice none 0 0,.slice none 0 0,.slice none 0 0] 94 (0,0))):=HX2.o.block (zC (by rw [<-hP];exact heap_alloc_new _ _));have HQB:Hd (w2.heap[P+1]?=some (.cells #[.slice none 0 0,.slice none 0 0] 98 (0,0))):=HX2.o.block (zm (by simp [hP]));have HDB:=hid (HX2.o.block (zC (zC HB1.o.1)));have HXw2:Hd (Ext w w2):=(((HB1.o.2.1).alloc _).alloc _).trans HX2.o;have HO2:Hd (w2.ownsRow P 95 1 (.slice (some ⟨g1,0,none⟩) 1 cap1) 1 [.pointer (some ⟨P+1,0,none⟩)]):=by
  show lR _ _ _ _ _ _ _
  rw [<-hP];simpa using hown2
 have HPW:Hd (P=w.heap.size+1):=by
  show P=w.heap.size+1
  rw [<-hP];exact HB1.o.2.2
 simp only [hP];have hl2:P+1<w2.heap.size:=(Array.getElem?_eq_some_iff.1 HQB.o).1;have x1:w2.cell? ⟨P,1,none⟩=some (.slice none 0 0):=zc HGB.o rfl;have f1:=ze HGB.o 1;clear hown2 hgrow2 hat2 hlt2 hP HB1 HX2;go_wp2_with fail
 have HG3:Hd ((w2.setCell ⟨P,1,none⟩ (.slice (some ⟨g1,0,none⟩) 1 cap1)).heap[P]?=some (.cells #[.pointer (some ⟨w.heap.size,0,none⟩),.slice (some ⟨g1,0,none⟩) 1 cap1,.slice none 0 0,.slice none 0 0,.slice none 0 0,.bool false,.int .i64 0,.slice none 0 0,.slice none 0 0,.slice none 0 0,.slice none 0 0] 94 (0,0))):=zg HGB.o _;have HT3:Hd (Turn (fun b=>b=P) w2 (w2.setCell ⟨P,1,none⟩ (.slice (some ⟨g1,0,none⟩) 1 cap1))):=lQ (S:=fun b=>b=P) (p:=⟨P,1,none⟩) (rD _ w2) (fun _=>rfl) _;generalize rC w2 _ _=w3 at HG3 HT3 ⊢;have hg1P:g1≠P:=fun e=>Zk (B:=P) HGB.o HO2.o (by decide) (by rw [e];rfl)
 have c4:w3.cell? ⟨P,4,none⟩=some (.slice none 0 0):=zc HG3.o rfl;have c1:w3.cell? ⟨P,1,none⟩=some (.slice (some ⟨g1,0,none⟩) 1 cap1):=zc HG3.o rfl;have hPl3:=lG w3 _ c4;have h23:=HT3.o.size;clear x1 f1;go_wp2_with fail
 have SD:Hd (∀w',Turn (fun b=>lH (.slice none 0 0)=some b) w3 w'->(fun w'=>w'.cell? ⟨P,1,none⟩=some (.slice (some ⟨g1,0,none⟩) 1 cap1)) w'):=fun w' hx=>hx.cell c1 (fun e=>by simp [lH] at e)
 refine wp_region_held_drew (S:=(fun w'=>w'.cell? ⟨P,1,none⟩=some (.slice (some ⟨g1,0,none⟩) 1 cap1))) (by kernel_rfl) c1 (fun hHeld=>?_);refine zT 0 hHeld ?_;refine zT 1 hHeld ?_;refine zT 2 hHeld ?_;refine zT 3 hHeld ?_;refine zT 5 hHeld ?_;refine zT 6 hHeld ?_;refine zT 7 hHeld ?_;refine zT 8 hHeld ?_;refine zT 9 hHeld ?_;refine wpAnyH_ready (rs:=[4,10]) (by kernel_rfl) (by simp) ?_;refine sD (o:=_) rfl (fun K hK=>?_) (sD (o:=_) rfl (fun K hK=>?_) AllReadyH.nil)
 ·skip
  (try simp only [lA,lB,lC])
  go_simp;refine hK.out _ _ ?hs1 (fun hHeld=>?_)
  case hs1=>exact SD.o _ (lM (lJ (lI _)))
  clear hK K
  try simp only [Act.put,lA,lB,lC,lD,lE,lF]
  refine zR 10 fun K hK=>?_
  (try simp only [lA,lB,lC])
  go_simp;refine hK.out _ _ ?hs2 (fun hHeld=>?_)
  case hs2=>exact SD.o _ (lM (lJ (lK (lI _) _)))
  clear hK K
  try simp only [Act.put,lA,lB,lC,lD,lE,lF]
  refine zR 11 fun K hK=>?_
  refine step_append_lies _ (by rfl) _ _ 86 (by rfl) 0 100 k0 _ 4 48 underlying86 hk0i hw0 hw1 hw2 (by rfl) (by decide) (.slice none 0 0) 0 [] (by rfl) (rB _ _ _ _) ⟨_,0,none⟩ 1 1 [.int .i64 0,.int .i64 0,.slice (some ⟨g1,0,none⟩) 1 cap1,.bool true] (by rfl) (by rfl) (rI (zy (heap_alloc_new _ _))) (by simp [Value.oneCell']) (by decide) (by unfold maxLen;omega) (by omega) (lT _) _ rfl ?_;intro g cap w5 hown5 hgrow5 hat5 hlt5;have HT5:Hd (Turn (fun b=>lH (.slice none 0 0)=some b) w3 w5):=rJ (lM (lJ (lK (lI _) _))) hgrow5 (fun q hq _=>hq);have HOW:=hid hown5;have HAT:Hd (lH (.slice none 0 0)=some g\/w3.heap.size<=g):=by
   rcases hat5 with h|h
   ·exact .inl h
   ·exact .inr (by rw [h];exact(lM (lJ (lK (lI _) _)):Turn (fun _=>False) w3 _).size)
  have HB5:Hd (w5.heap[P]?=some (.cells #[.pointer (some ⟨w.heap.size,0,none⟩),.slice (some ⟨g1,0,none⟩) 1 cap1,.slice none 0 0,.slice none 0 0,.slice none 0 0,.bool false,.int .i64 0,.slice none 0 0,.slice none 0 0,.slice none 0 0,.slice none 0 0] 94 (0,0))):=HT5.o.ref HG3.o (fun e=>by simp [lH] at e);have y1b:w5.cell? ⟨P,4,none⟩=some (.slice none 0 0):=zc HB5.o rfl;have f1b:=ze HB5.o 4;refine hK.out _ _ ?hs3 (fun hHeld=>?_)
  case hs3=>exact SD.o _ HT5.o
  clear hK K hown5 hgrow5 hat5
  try simp only [Act.put,lA,lB,lC,lD,lE,lF]
  refine zT 12 hHeld ?_;refine zT 13 hHeld ?_;refine zR 14 fun K hK=>?_
  (try simp only [lA,lB,lC])
  go_simp;refine hK.out _ _ ?hs4 (fun hHeld=>?_)
  case hs4=>
   exact zc (zg HB5.o _) rfl
  clear hK K
  try simp only [Act.put,lA,lB,lC,lD,lE,lF]
  refine wpAnyH_done (by kernel_rfl) ?_ _;have hPw:=HPW.o;have hg5:w3.heap.size<=g:=by
   rcases HAT.o with h|h
   ·simp [lH] at h
   ·exact h
  have hB6:(w5.setCell ⟨P,4,none⟩ (.slice (some ⟨g,0,none⟩) 1 cap)).heap[P]?=some (.cells #[.pointer (some ⟨w.heap.size,0,none⟩),.slice (some ⟨g1,0,none⟩) 1 cap1,.slice none 0 0,.slice none 0 0,.slice (some ⟨g,0,none⟩) 1 cap,.bool false,.int .i64 0,.slice none 0 0,.slice none 0 0,.slice none 0 0,.slice none 0 0] 94 (0,0)):=zg HB5.o _;have hO6:(w5.setCell ⟨P,4,none⟩ (.slice (some ⟨g,0,none⟩) 1 cap)).ownsRow 0 100 4 (.slice (some ⟨g,0,none⟩) 1 cap) 1 [.int .i64 0,.int .i64 0,.slice (some ⟨g1,0,none⟩) 1 cap1,.bool true]:=zi HOW.o (by simp [lH];omega) _;have hT6:Turn (fun b=>b=P) w2 (w5.setCell ⟨P,4,none⟩ (.slice (some ⟨g,0,none⟩) 1 cap)):=lQ (S:=fun b=>b=P) (p:=⟨P,4,none⟩) (HT3.o.trans' HT5.o (fun b _ e=>by simp [lH] at e)) (fun _=>rfl) _;have HG6l:=hid hg5;generalize rC w5 _ _=w6 at hB6 hO6 hT6 hHeld ⊢;have hl6:=hT6.size;have hgP6:g<w6.heap.size:=zx hO6 rfl;have hg1l:P<=g1/\g1<w2.heap.size:=lR.lt HO2.o g1 rfl;have hq6:w6.heap[P+1]?=some (.cells #[.slice none 0 0,.slice none 0 0] 98 (0,0)):=hT6.ref HQB.o (fun e=>by omega);have hd6:w6.heap[w.heap.size]?=some (.cells #[.slice none 0 0,.slice none 0 0,.slice none 0 0,.bool false,.int .i64 0,.bool false] 114 (0,0)):=hT6.ref HDB.o (fun e=>by omega);have hx6:w6.cell? ⟨g1,0,none⟩=some (.pointer (some ⟨P+1,0,none⟩)):=hT6.cell (zk HO2.o rfl) (fun e=>hg1P e);have hone:OneIs w6 (fun b=>b=P+1\/b=g1) (.slice (some ⟨g1,0,none⟩) 1 cap1) (P+1):=⟨g1,cap1,rfl,.inr rfl,hx6⟩
  have hgame:GameOf w6 P w.heap.size (fun b=>b=P+1\/b=g1) ⟨.slice (some ⟨g1,0,none⟩) 1 cap1,.slice none 0 0,.slice (some ⟨g,0,none⟩) 1 cap,.slice none 0 0,.slice none 0 0,.slice none 0 0,.slice none 0 0,false,0⟩ (P+1) [] [] [] 1:=by
   refine⟨hB6,hone,⟨.slice none 0 0,.slice none 0 0,[],hq6,.inl rfl,.inl ⟨rfl,rfl⟩,rfl,fun i hi=>absurd hi (sG _),.inl ⟨rfl,rfl⟩⟩,⟨none,0,rfl,.inl rfl⟩,⟨1,lO _,[[.int .i64 0,.int .i64 0,.slice (some ⟨g1,0,none⟩) 1 cap1,.bool true]],by simpa using hO6,rfl,fun cc hcc=>?_⟩,⟨0,by omega,[],rB _ _ _ _,fun k hk=>absurd hk (sG _)⟩,⟨0,by omega,[],rB _ _ _ _,fun k hk=>absurd hk (sG _)⟩,⟨0,by omega,[],rB _ _ _ _,fun k hk=>absurd hk (sG _)⟩,⟨0,by omega,[],rB _ _ _ _,fun k hk=>absurd hk (sG _)⟩,fun b hb=>?_,fun b hb hg=>?_⟩
   ·rw [sJ.1 hcc];exact⟨0,0,_,true,P+1,rfl,hone⟩
   ·rcases hb with e|e<;>omega
   ·rcases hb with e|e|e|e|e|e
    ·rcases hg with k|k<;>omega
    ·have e':g=b:=by simpa [lH] using e
     rcases hg with k|k<;>omega
    all_goals (simp [lH] at e)
  have hstore:StoreOk w6 w.heap.size (fun b=>b=w.heap.size) [] [] [] false 0:=by refine⟨⟨.slice none 0 0,.slice none 0 0,.slice none 0 0,false,⟨⟨_,.inl rfl,hd6⟩,rB _ _ _ _,rB _ _ _ _,rB _ _ _ _,by simp,by simp,by simp,rfl,fun q hq=>by simp [lH] at hq,fun q hq=>by simp [lH] at hq,fun q hq=>by simp [lH] at hq,fun b hb=>?_,.inl rfl,.inl rfl⟩⟩,by simp⟩;omega
  have hown:∀b,yZ P ⟨.slice (some ⟨g1,0,none⟩) 1 cap1,.slice none 0 0,.slice (some ⟨g,0,none⟩) 1 cap,.slice none 0 0,.slice none 0 0,.slice none 0 0,.slice none 0 0,false,0⟩ b->b=P\/b=g:=fun b hb=>by
   rcases hb with e|e|e|e|e|e
   ·exact .inl e
   ·exact .inr (by simpa [lH] using e.symm)
   all_goals (simp [lH] at e)
  have hfar:Far (fun b=>b=w.heap.size) (fun b=>b=P+1\/b=g1) P ⟨.slice (some ⟨g1,0,none⟩) 1 cap1,.slice none 0 0,.slice (some ⟨g,0,none⟩) 1 cap,.slice none 0 0,.slice none 0 0,.slice none 0 0,.slice none 0 0,false,0⟩:=fun b hb=>⟨fun hg=>by rcases hg with k|k<;>omega,fun ho=>by rcases hown b ho with k|k<;>omega⟩
  have HD:Hd (∀w',w6=w'->_):=fun w' e=>by subst e;exact yo hgame (by omega) hstore (by simp) ⟨[],rfl⟩
  have HFin:Hd _:=And.intro hstore (And.intro hfar hown);have HX6:Hd (Ext w w6):=Turn.ext ((lM (S:=fun _=>False) HXw2.o).trans' hT6 (fun b hb e=>by omega));have hPl6:P<w6.heap.size:=by omega
  clear hPw hB6 hO6 hT6 hHeld hq6 hd6 hx6 hone hgame hstore hfar hown y1b f1b hg5;go_wp2_with fail
  refine(HD.o _ rfl).mono ?_;rintro e w7 ⟨rfl,v7,G7,hg7,hs7,_,_,har7,_⟩;obtain⟨oa,oc,o3⟩:=hg7.ops_cell;have o3':w7.cell? ⟨P,3,none⟩=some (.slice oa 0 oc):=o3;have hPl7:=lG w7 _ o3';have HG7:Hd _:=And.intro hg7 hs7;have HAR:=hid har7;clear hg7 hs7 o3 har7;go_wp2;go_ret;obtain⟨hst,hfar,hown⟩:=HFin.o;have hPw:=HPW.o;have hg5:=HG6l.o;have hk:=hst.step HG7.o.2 hfar (fun b hb hl=>by omega);have hsz:=HG7.o.2.turn.size;refine⟨P,w.heap.size,rfl,⟨G7,v7,P+1,[],[],(fun b=>b=w.heap.size),[],false,0,⟨HG7.o.1,hk.1,⟨HAR.o,fun e=>by cases e⟩,fun e=>(by cases e),hk.2,uo,by simp,fun b hb=>by omega,fun b hb=>?_,by omega⟩⟩,Turn.ext ((lM (S:=fun _=>False) HX6.o).trans' HG7.o.2.turn (fun b hb hor=>?_))⟩
  ·rcases HG7.o.2.own b hb with ho|ho
   ·rcases hown b ho with k|k<;>omega
   ·omega
  ·rcases hor with ho|ho
   ·rcases hown b ho with k|k<;>omega
   ·omega
 ·skip
  (try simp only [lA,lB,lC])
  go_simp;refine hK.out _ _ ?hs1 (fun hHeld=>?_)
  case hs1=>exact SD.o _ (lM (lJ (lK (lI _) _)))
  clear hK K
  try simp only [Act.put,lA,lB,lC,lD,lE,lF]
  refine zR 4 fun K hK=>?_
  (try simp only [lA,lB,lC])
  go_simp;refine hK.out _ _ ?hs2 (fun hHeld=>?_)
  case hs2=>exact SD.o _ (lM (lJ (lK (lI _) _)))
  clear hK K
  try simp only [Act.put,lA,lB,lC,lD,lE,lF]
  refine zR 11 fun K hK=>?_
  refine step_append_lies _ (by rfl) _ _ 86 (by rfl) 0 100 k0 _ 4 48 underlying86 hk0i hw0 hw1 hw2 (by rfl) (by decide) (.slice none 0 0) 0 [] (by rfl) (rB _ _ _ _) ⟨_,0,none⟩ 1 1 [.int .i64 0,.int .i64 0,.slice (some ⟨g1,0,none⟩) 1 cap1,.bool true] (by rfl) (by rfl) (rI (zy (heap_alloc_new _ _))) (by simp [Value.oneCell']) (by decide) (by unfold maxLen;omega) (by omega) (lT _) _ rfl ?_;intro g cap w5 hown5 hgrow5 hat5 hlt5;have HT5:Hd (Turn (fun b=>lH (.slice none 0 0)=some b) w3 w5):=rJ (lM (lJ (lK (lI _) _))) hgrow5 (fun q hq _=>hq);have HOW:=hid hown5;have HAT:Hd (lH (.slice none 0 0)=some g\/w3.heap.size<=g):=by
   rcases hat5 with h|h
   ·exact .inl h
   ·exact .inr (by rw [h];exact(lM (lJ (lK (lI _) _)):Turn (fun _=>False) w3 _).size)
  have HB5:Hd (w5.heap[P]?=some (.cells #[.pointer (some ⟨w.heap.size,0,none⟩),.slice (some ⟨g1,0,none⟩) 1 cap1,.slice none 0 0,.slice none 0 0,.slice none 0 0,.bool false,.int .i64 0,.slice none 0 0,.slice none 0 0,.slice none 0 0,.slice none 0 0] 94 (0,0))):=HT5.o.ref HG3.o (fun e=>by simp [lH] at e);have y1b:w5.cell? ⟨P,4,none⟩=some (.slice none 0 0):=zc HB5.o rfl;have f1b:=ze HB5.o 4;refine hK.out _ _ ?hs3 (fun hHeld=>?_)
  case hs3=>exact SD.o _ HT5.o
  clear hK K hown5 hgrow5 hat5
  try simp only [Act.put,lA,lB,lC,lD,lE,lF]
  refine zT 12 hHeld ?_;refine zT 13 hHeld ?_;refine zR 14 fun K hK=>?_
  (try simp only [lA,lB,lC])
  go_simp;refine hK.out _ _ ?hs4 (fun hHeld=>?_)
  case hs4=>
   exact zc (zg HB5.o _) rfl
  clear hK K
  try simp only [Act.put,lA,lB,lC,lD,lE,lF]
  refine wpAnyH_done (by kernel_rfl) ?_ _;have hPw:=HPW.o;have hg5:w3.heap.size<=g:=by
   rcases HAT.o with h|h
   ·simp [lH] at h
   ·exact h
  have hB6:(w5.setCell ⟨P,4,none⟩ (.slice (some ⟨g,0,none⟩) 1 cap)).heap[P]?=some (.cells #[.pointer (some ⟨w.heap.size,0,none⟩),.slice (some ⟨g1,0,none⟩) 1 cap1,.slice none 0 0,.slice none 0 0,.slice (some ⟨g,0,none⟩) 1 cap,.bool false,.int .i64 0,.slice none 0 0,.slice none 0 0,.slice none 0 0,.slice none 0 0] 94 (0,0)):=zg HB5.o _;have hO6:(w5.setCell ⟨P,4,none⟩ (.slice (some ⟨g,0,none⟩) 1 cap)).ownsRow 0 100 4 (.slice (some ⟨g,0,none⟩) 1 cap) 1 [.int .i64 0,.int .i64 0,.slice (some ⟨g1,0,none⟩) 1 cap1,.bool true]:=zi HOW.o (by simp [lH];omega) _;have hT6:Turn (fun b=>b=P) w2 (w5.setCell ⟨P,4,none⟩ (.slice (some ⟨g,0,none⟩) 1 cap)):=lQ (S:=fun b=>b=P) (p:=⟨P,4,none⟩) (HT3.o.trans' HT5.o (fun b _ e=>by simp [lH] at e)) (fun _=>rfl) _;have HG6l:=hid hg5;generalize rC w5 _ _=w6 at hB6 hO6 hT6 hHeld ⊢;have hl6:=hT6.size;have hgP6:g<w6.heap.size:=zx hO6 rfl;have hg1l:P<=g1/\g1<w2.heap.size:=lR.lt HO2.o g1 rfl;have hq6:w6.heap[P+1]?=some (.cells #[.slice none 0 0,.slice none 0 0] 98 (0,0)):=hT6.ref HQB.o (fun e=>by omega);have hd6:w6.heap[w.heap.size]?=some (.cells #[.slice none 0 0,.slice none 0 0,.slice none 0 0,.bool false,.int .i64 0,.bool false] 114 (0,0)):=hT6.ref HDB.o (fun e=>by omega);have hx6:w6.cell? ⟨g1,0,none⟩=some (.pointer (some ⟨P+1,0,none⟩)):=hT6.cell (zk HO2.o rfl) (fun e=>hg1P e);have hone:OneIs w6 (fun b=>b=P+1\/b=g1) (.slice (some ⟨g1,0,none⟩) 1 cap1) (P+1):=⟨g1,cap1,rfl,.inr rfl,hx6⟩
  have hgame:GameOf w6 P w.heap.size (fun b=>b=P+1\/b=g1) ⟨.slice (some ⟨g1,0,none⟩) 1 cap1,.slice none 0 0,.slice (some ⟨g,0,none⟩) 1 cap,.slice none 0 0,.slice none 0 0,.slice none 0 0,.slice none 0 0,false,0⟩ (P+1) [] [] [] 1:=by
   refine⟨hB6,hone,⟨.slice none 0 0,.slice none 0 0,[],hq6,.inl rfl,.inl ⟨rfl,rfl⟩,rfl,fun i hi=>absurd hi (sG _),.inl ⟨rfl,rfl⟩⟩,⟨none,0,rfl,.inl rfl⟩,⟨1,lO _,[[.int .i64 0,.int .i64 0,.slice (some ⟨g1,0,none⟩) 1 cap1,.bool true]],by simpa using hO6,rfl,fun cc hcc=>?_⟩,⟨0,by omega,[],rB _ _ _ _,fun k hk=>absurd hk (sG _)⟩,⟨0,by omega,[],rB _ _ _ _,fun k hk=>absurd hk (sG _)⟩,⟨0,by omega,[],rB _ _ _ _,fun k hk=>absurd hk (sG _)⟩,⟨0,by omega,[],rB _ _ _ _,fun k hk=>absurd hk (sG _)⟩,fun b hb=>?_,fun b hb hg=>?_⟩
   ·rw [sJ.1 hcc];exact⟨0,0,_,true,P+1,rfl,hone⟩
   ·rcases hb with e|e<;>omega
   ·rcases hb with e|e|e|e|e|e
    ·rcases hg with k|k<;>omega
    ·have e':g=b:=by simpa [lH] using e
     rcases hg with k|k<;>omega
    all_goals (simp [lH] at e)
  have hstore:StoreOk w6 w.heap.size (fun b=>b=w.heap.size) [] [] [] false 0:=by refine⟨⟨.slice none 0 0,.slice none 0 0,.slice none 0 0,false,⟨⟨_,.inl rfl,hd6⟩,rB _ _ _ _,rB _ _ _ _,rB _ _ _ _,by simp,by simp,by simp,rfl,fun q hq=>by simp [lH] at hq,fun q hq=>by simp [lH] at hq,fun q hq=>by simp [lH] at hq,fun b hb=>?_,.inl rfl,.inl rfl⟩⟩,by simp⟩;omega
  have hown:∀b,yZ P ⟨.slice (some ⟨g1,0,none⟩) 1 cap1,.slice none 0 0,.slice (some ⟨g,0,none⟩) 1 cap,.slice none 0 0,.slice none 0 0,.slice none 0 0,.slice none 0 0,false,0⟩ b->b=P\/b=g:=fun b hb=>by
   rcases hb with e|e|e|e|e|e
   ·exact .inl e
   ·exact .inr (by simpa [lH] using e.symm)
   all_goals (simp [lH] at e)
  have hfar:Far (fun b=>b=w.heap.size) (fun b=>b=P+1\/b=g1) P ⟨.slice (some ⟨g1,0,none⟩) 1 cap1,.slice none 0 0,.slice (some ⟨g,0,none⟩) 1 cap,.slice none 0 0,.slice none 0 0,.slice none 0 0,.slice none 0 0,false,0⟩:=fun b hb=>⟨fun hg=>by rcases hg with k|k<;>omega,fun ho=>by rcases hown b ho with k|k<;>omega⟩
  have HD:Hd (∀w',w6=w'->_):=fun w' e=>by subst e;exact yo hgame (by omega) hstore (by simp) ⟨[],rfl⟩
  have HFin:Hd _:=And.intro hstore (And.intro hfar hown);have HX6:Hd (Ext w w6):=Turn.ext ((lM (S:=fun _=>False) HXw2.o).trans' hT6 (fun b hb e=>by omega));have hPl6:P<w6.heap.size:=by omega
  clear hPw hB6 hO6 hT6 hHeld hq6 hd6 hx6 hone hgame hstore hfar hown y1b f1b hg5;go_wp2_with fail
  refine(HD.o _ rfl).mono ?_;rintro e w7 ⟨rfl,v7,G7,hg7,hs7,_,_,har7,_⟩;obtain⟨oa,oc,o3⟩:=hg7.ops_cell;have o3':w7.cell? ⟨P,3,none⟩=some (.slice oa 0 oc):=o3;have hPl7:=lG w7 _ o3';have HG7:Hd _:=And.intro hg7 hs7;have HAR:=hid har7;clear hg7 hs7 o3 har7;go_wp2;go_ret;obtain⟨hst,hfar,hown⟩:=HFin.o;have hPw:=HPW.o;have hg5:=HG6l.o;have hk:=hst.step HG7.o.2 hfar (fun b hb hl=>by omega);have hsz:=HG7.o.2.turn.size;refine⟨P,w.heap.size,rfl,⟨G7,v7,P+1,[],[],(fun b=>b=w.heap.size),[],false,0,⟨HG7.o.1,hk.1,⟨HAR.o,fun e=>by cases e⟩,fun e=>(by cases e),hk.2,uo,by simp,fun b hb=>by omega,fun b hb=>?_,by omega⟩⟩,Turn.ext ((lM (S:=fun _=>False) HX6.o).trans' HG7.o.2.turn (fun b hb hor=>?_))⟩
  ·rcases HG7.o.2.own b hb with ho|ho
   ·rcases hown b ho with k|k<;>omega
   ·omega
  ·rcases hor with ho|ho
   ·rcases hown b ho with k|k<;>omega
   ·omega
end
section
theorem Ux {w:World}{P:Nat}{Q:World->World->Prop}(sk:Int)(hk:sk=4)(x1 x2 x3 x4 x5 x6 x7 x8 x9 x10 x11 x12 x13 x14 x15 x16 x17 x18 x19 x20:Value)(hq:∀w1 w2 w3,Ext w1 w2->Q w2 w3->Q w1 w3)
  (hin:∀w',Ext w w'->Calls Tryz.prog 71 #[.pointer (some ⟨P,0,none⟩),x18] w' fun e w''=>e=.returned (.bool true)/\Q w' w'') :
  Calls Tryz.prog 42 #[.pointer (some ⟨P,0,none⟩),.agg #[.int .i64 sk,x1,x2,x3,x4,x5,x6,x7,x8,x9,x10,x11,x12,x13,x14,x15,x16,x17,x18,x19,x20]] w fun e w'=>e=.returned (.bool true)/\Q w w':=by
 have HIn:=hid hin;have HQ:=hid hq;have hk1:(sk == 1)=false:=by rw [hk];rfl
 have hk2:(sk == 2)=false:=by rw [hk];rfl
 have hk3:(sk == 3)=false:=by rw [hk];rfl
 have hk4:(sk == 4)=true:=by rw [hk];rfl
 clear hk hin hq;go_enter func42,ntmps42;go_wp2_with fail
 have hsb:(w.alloc (.cells #[.int .i64 sk,x1,x2,x3,x4,x5,x6,x7,x8,x9,x10,x11,x12,x13,x14,x15,x16,x17,x18,x19,x20] 103)).heap[w.heap.size]?=some (.cells #[.int .i64 sk,x1,x2,x3,x4,x5,x6,x7,x8,x9,x10,x11,x12,x13,x14,x15,x16,x17,x18,x19,x20] 103 (0,0)):=heap_alloc_new _ _;have HXW:Hd (Ext w (w.alloc (.cells #[.int .i64 sk,x1,x2,x3,x4,x5,x6,x7,x8,x9,x10,x11,x12,x13,x14,x15,x16,x17,x18,x19,x20] 103))):=(lI w).alloc _;generalize lP w _=W at hsb HXW ⊢;have s0:W.cell? ⟨w.heap.size,0,none⟩=some (.int .i64 sk):=zc hsb rfl;have s18:W.cell? ⟨w.heap.size,18,none⟩=some x18:=zc hsb rfl;have hsl:=lG W _ s0;clear hsb;go_wp2_with fail
 refine(HIn.o _ HXW.o).mono ?_;rintro e w2 ⟨rfl,hl⟩;have HF:=hid hl;clear hl;go_wp2;go_ret;exact⟨rfl,HQ.o _ _ _ HXW.o HF.o⟩
theorem vn {w:World}{P:Nat}{Q:World->World->Prop}(sk:Int)(hk:sk=5)(x1 x2 x3 x4 x5 x6 x7 x8 x9 x10 x11 x12 x13 x14 x15 x16 x17 x18 x19 x20:Value)(hq:∀w1 w2 w3,Ext w1 w2->Q w2 w3->Q w1 w3)
  (hin:∀w',Ext w w'->Calls Tryz.prog 72 #[.pointer (some ⟨P,0,none⟩)] w' fun e w''=>e=.returned (.bool true)/\Q w' w'') :
  Calls Tryz.prog 42 #[.pointer (some ⟨P,0,none⟩),.agg #[.int .i64 sk,x1,x2,x3,x4,x5,x6,x7,x8,x9,x10,x11,x12,x13,x14,x15,x16,x17,x18,x19,x20]] w fun e w'=>e=.returned (.bool true)/\Q w w':=by
 have HIn:=hid hin;have HQ:=hid hq;have hk1:(sk == 1)=false:=by rw [hk];rfl
 have hk2:(sk == 2)=false:=by rw [hk];rfl
 have hk3:(sk == 3)=false:=by rw [hk];rfl
 have hk4:(sk == 4)=false:=by rw [hk];rfl
 have hk5:(sk == 5)=true:=by rw [hk];rfl
 clear hk hin hq;go_enter func42,ntmps42;go_wp2_with fail
 have hsb:(w.alloc (.cells #[.int .i64 sk,x1,x2,x3,x4,x5,x6,x7,x8,x9,x10,x11,x12,x13,x14,x15,x16,x17,x18,x19,x20] 103)).heap[w.heap.size]?=some (.cells #[.int .i64 sk,x1,x2,x3,x4,x5,x6,x7,x8,x9,x10,x11,x12,x13,x14,x15,x16,x17,x18,x19,x20] 103 (0,0)):=heap_alloc_new _ _;have HXW:Hd (Ext w (w.alloc (.cells #[.int .i64 sk,x1,x2,x3,x4,x5,x6,x7,x8,x9,x10,x11,x12,x13,x14,x15,x16,x17,x18,x19,x20] 103))):=(lI w).alloc _;generalize lP w _=W at hsb HXW ⊢;have s0:W.cell? ⟨w.heap.size,0,none⟩=some (.int .i64 sk):=zc hsb rfl;have hsl:=lG W _ s0;clear hsb;go_wp2_with fail
 refine(HIn.o _ HXW.o).mono ?_;rintro e w2 ⟨rfl,hl⟩;have HF:=hid hl;clear hl;go_wp2;go_ret;exact⟨rfl,HQ.o _ _ _ HXW.o HF.o⟩
theorem U5 {w:World}{P:Nat}{Q:World->World->Prop}(sk:Int)(hk:sk=1)(x1 x2 x3 x4 x5 x6 x7 x8 x9 x10 x11 x12 x13 x14 x15 x16 x17 x18 x19 x20:Value)(hq:∀w1 w2 w3,Ext w1 w2->Q w2 w3->Q w1 w3)
  (hin:∀w',Ext w w'->Calls Tryz.prog 44 #[.pointer (some ⟨P,0,none⟩)] w' fun e w''=>e=.returned (.bool true)/\Q w' w'') :
  Calls Tryz.prog 42 #[.pointer (some ⟨P,0,none⟩),.agg #[.int .i64 sk,x1,x2,x3,x4,x5,x6,x7,x8,x9,x10,x11,x12,x13,x14,x15,x16,x17,x18,x19,x20]] w fun e w'=>e=.returned (.bool true)/\Q w w':=by
 have HIn:=hid hin;have HQ:=hid hq;have hk1:(sk == 1)=true:=by rw [hk];rfl
 clear hk hin hq;go_enter func42,ntmps42;go_wp2_with fail
 have hsb:(w.alloc (.cells #[.int .i64 sk,x1,x2,x3,x4,x5,x6,x7,x8,x9,x10,x11,x12,x13,x14,x15,x16,x17,x18,x19,x20] 103)).heap[w.heap.size]?=some (.cells #[.int .i64 sk,x1,x2,x3,x4,x5,x6,x7,x8,x9,x10,x11,x12,x13,x14,x15,x16,x17,x18,x19,x20] 103 (0,0)):=heap_alloc_new _ _;have HXW:Hd (Ext w (w.alloc (.cells #[.int .i64 sk,x1,x2,x3,x4,x5,x6,x7,x8,x9,x10,x11,x12,x13,x14,x15,x16,x17,x18,x19,x20] 103))):=(lI w).alloc _;generalize lP w _=W at hsb HXW ⊢;have s0:W.cell? ⟨w.heap.size,0,none⟩=some (.int .i64 sk):=zc hsb rfl;have hsl:=lG W _ s0;clear hsb;go_wp2_with fail
 refine(HIn.o _ HXW.o).mono ?_;rintro e w2 ⟨rfl,hl⟩;have HF:=hid hl;clear hl;go_wp2;go_ret;exact⟨rfl,HQ.o _ _ _ HXW.o HF.o⟩
theorem js {w:World}{P:Nat}(sk:Int)(hk:sk<=6)(hn:sk<1)(x1 x2 x3 x4 x5 x6 x7 x8 x9 x10 x11 x12 x13 x14 x15 x16 x17 x18 x19 x20:Value) :
  Calls Tryz.prog 42 #[.pointer (some ⟨P,0,none⟩),.agg #[.int .i64 sk,x1,x2,x3,x4,x5,x6,x7,x8,x9,x10,x11,x12,x13,x14,x15,x16,x17,x18,x19,x20]] w fun e w'=>e=.returned (.bool true)/\Ext w w':=by
 have hk1:(sk == 1)=false:=by simp;omega
 have hk2:(sk == 2)=false:=by simp;omega
 have hk3:(sk == 3)=false:=by simp;omega
 have hk4:(sk == 4)=false:=by simp;omega
 have hk5:(sk == 5)=false:=by simp;omega
 have hk6:(sk == 6)=false:=by simp;omega
 have hk7:(sk == 7)=false:=by simp;omega
 clear hk hn;go_enter func42,ntmps42;go_wp2_with fail
 have hsb:(w.alloc (.cells #[.int .i64 sk,x1,x2,x3,x4,x5,x6,x7,x8,x9,x10,x11,x12,x13,x14,x15,x16,x17,x18,x19,x20] 103)).heap[w.heap.size]?=some (.cells #[.int .i64 sk,x1,x2,x3,x4,x5,x6,x7,x8,x9,x10,x11,x12,x13,x14,x15,x16,x17,x18,x19,x20] 103 (0,0)):=heap_alloc_new _ _;have HXW:Hd (Ext w (w.alloc (.cells #[.int .i64 sk,x1,x2,x3,x4,x5,x6,x7,x8,x9,x10,x11,x12,x13,x14,x15,x16,x17,x18,x19,x20] 103))):=(lI w).alloc _;generalize lP w _=W at hsb HXW ⊢;have s0:W.cell? ⟨w.heap.size,0,none⟩=some (.int .i64 sk):=zc hsb rfl;have hsl:=lG W _ s0;clear hsb;go_wp2;go_ret;exact⟨rfl,HXW.o⟩
end
section
theorem YN {P:Program}{ops:Array Oper}{rest:List Oper}{o:Oper}{a:Act}{w:World}{Q:Exit->Act->World->Prop}(hg:o.guard=none)(x:Operand)(ho:o.op=.move x)(v:Value)(hv:a.eval x=v)(hn:wpList P ops Q rest (a.put o.dst v) w):wpList P ops Q (o::rest) a w:=
 wpList_plain hg fun K hK=>by unfold Oper.wp execOp;simp only [ho,hv,Sem.run_pure];exact hK _ _ hn
theorem VH {w:World}{P:Nat}{Q:World->World->Prop}(sk:Int)(hk:sk=2)(cs:Array Value)(h0:cs[0]?=some (.int .i64 sk))(hsz:cs.size=21)(hq:∀w1 w2 w3,Ext w1 w2->Q w2 w3->Q w1 w3)
  (hin:∀w',Ext w w'->Calls Tryz.prog 69 #[.pointer (some ⟨P,0,none⟩),.agg cs] w' fun e w''=>e=.returned (.bool true)/\Q w' w'') :
  Calls Tryz.prog 42 #[.pointer (some ⟨P,0,none⟩),.agg cs] w fun e w'=>e=.returned (.bool true)/\Q w w':=by
 have HIn:=hid hin;have HQ:=hid hq;have HI:Hd ((Tryz.prog.info? 103).map (·.size)=some cs.size):=by
  show _=_
  rw [hsz];kernel_rfl
 have hk1:(sk == 1)=false:=by rw [hk];rfl
 have hk2:(sk == 2)=true:=by rw [hk];rfl
 have H0:=hid h0;clear hk hin hq hsz h0;go_enter func42,ntmps42;refine wp_seq_k (fun K0 hK0=>?_);have HK0:=hid hK0;clear hK0;go_wp2_with fail
 refine HK0.o _ _ ?_;have HSB:Hd ((w.alloc (.cells cs 103)).heap[w.heap.size]?=some (.cells cs 103 (0,0))):=heap_alloc_new _ _;have HXW:Hd (Ext w (w.alloc (.cells cs 103))):=(lI w).alloc _;generalize lP w _=W at HSB HXW ⊢;have s0:W.cell? ⟨w.heap.size,0,none⟩=some (.int .i64 sk):=zc HSB.o H0.o;have hsl:=lG W _ s0;refine wp_seq_k (fun K1 hK1=>?_);have HK1:=hid hK1;clear hK1;refine wp_seq_k (fun K2 hK2=>?_);have HK2:=hid hK2;clear hK2;go_wp2_with fail
 refine HK2.o _ _ ?_;refine wp_block ?_;refine wp_seq_k (fun K3 hK3=>?_);have HK3:=hid hK3;clear hK3;go_wp2_with fail
 refine HK3.o _ _ ?_;refine wp_cond_false rfl ?_;refine wp_seq_k (fun K4 hK4=>?_);have HK4:=hid hK4;clear hK4;go_wp2_with fail
 refine HK4.o _ _ ?_;refine wp_cond_true rfl ?_;refine wp_seq_k (fun K5 hK5=>?_);have HK5:=hid hK5;clear hK5;refine wp_region_lit ?_;refine YN rfl (.tmp 0) rfl (.pointer (some ⟨P,0,none⟩)) rfl ?_;refine wpList_load_row rfl 103 _ rfl w.heap.size rfl 103 cs (0,0) _ HSB.o underlying103 rfl HI.o ?_;go_wp2_with fail
 refine(HIn.o _ HXW.o).mono ?_;rintro e w2 ⟨rfl,hl⟩;have HF:=hid hl;clear hl;go_wp2_with fail
 refine HK5.o _ _ ?_;go_wp2;go_ret;exact⟨rfl,HQ.o _ _ _ HXW.o HF.o⟩
end
section
theorem Ji {w:World}{P:Nat}{Q:World->World->Prop}(sk:Int)(hk:sk=3)(x1 x2 x3 x4 x5 x6 x7 x8 x9 x10 x11 x12 x13 x14 x15 x16 x17 x18 x19 x20:Value)(hq:∀w1 w2 w3,Ext w1 w2->Q w2 w3->Q w1 w3)
  (hin:∀w',Ext w w'->Calls Tryz.prog 70 #[.pointer (some ⟨P,0,none⟩),.agg #[x8,x9,x10,x11,x12,x13,x14,x15,x16,x17]] w' fun e w''=>e=.returned (.bool true)/\Q w' w'') :
  Calls Tryz.prog 42 #[.pointer (some ⟨P,0,none⟩),.agg #[.int .i64 sk,x1,x2,x3,x4,x5,x6,x7,x8,x9,x10,x11,x12,x13,x14,x15,x16,x17,x18,x19,x20]] w fun e w'=>e=.returned (.bool true)/\Q w w':=by
 have HIn:=hid hin;have HQ:=hid hq;have hk1:(sk == 1)=false:=by rw [hk];rfl
 have hk2:(sk == 2)=false:=by rw [hk];rfl
 have hk3:(sk == 3)=true:=by rw [hk];rfl
 clear hk hin hq;go_enter func42,ntmps42;go_wp2_with fail
 have hsb:(w.alloc (.cells #[.int .i64 sk,x1,x2,x3,x4,x5,x6,x7,x8,x9,x10,x11,x12,x13,x14,x15,x16,x17,x18,x19,x20] 103)).heap[w.heap.size]?=some (.cells #[.int .i64 sk,x1,x2,x3,x4,x5,x6,x7,x8,x9,x10,x11,x12,x13,x14,x15,x16,x17,x18,x19,x20] 103 (0,0)):=heap_alloc_new _ _;have HXW:Hd (Ext w (w.alloc (.cells #[.int .i64 sk,x1,x2,x3,x4,x5,x6,x7,x8,x9,x10,x11,x12,x13,x14,x15,x16,x17,x18,x19,x20] 103))):=(lI w).alloc _;generalize lP w _=W at hsb HXW ⊢;have s0:W.cell? ⟨w.heap.size,0,none⟩=some (.int .i64 sk):=zc hsb rfl;have s8:W.cell? ⟨w.heap.size,8,none⟩=some x8:=zc hsb rfl;have s9:W.cell? ⟨w.heap.size,9,none⟩=some x9:=zc hsb rfl;have s10:W.cell? ⟨w.heap.size,10,none⟩=some x10:=zc hsb rfl;have s11:W.cell? ⟨w.heap.size,11,none⟩=some x11:=zc hsb rfl;have s12:W.cell? ⟨w.heap.size,12,none⟩=some x12:=zc hsb rfl;have s13:W.cell? ⟨w.heap.size,13,none⟩=some x13:=zc hsb rfl;have s14:W.cell? ⟨w.heap.size,14,none⟩=some x14:=zc hsb rfl;have s15:W.cell? ⟨w.heap.size,15,none⟩=some x15:=zc hsb rfl;have s16:W.cell? ⟨w.heap.size,16,none⟩=some x16:=zc hsb rfl;have s17:W.cell? ⟨w.heap.size,17,none⟩=some x17:=zc hsb rfl;have hsl:=lG W _ s0;clear hsb;go_wp2_with fail
 refine(HIn.o _ HXW.o).mono ?_;rintro e w2 ⟨rfl,hl⟩;have HF:=hid hl;clear hl;go_wp2;go_ret;exact⟨rfl,HQ.o _ _ _ HXW.o HF.o⟩
end
section
def Z3 (x:Stk)(ls:List LsV):Int:=(ls.map fun l=>if (x.is l.kd l.m l.k l.n && l.r)=true then l.c else 0).sum
theorem XZ (x:Stk)(ls:List LsV)(j:Nat)(hj:j<ls.length):Z3 x (ls.take (j+1))=Z3 x (ls.take j)+(if (x.is ls[j].kd ls[j].m ls[j].k ls[j].n && ls[j].r)=true then ls[j].c else 0):=by unfold Z3;rw [rV hj,rY,List.sum_append];simp
theorem uO {x:Stk}{ls:List LsV}(h:∀l∈ls,0<=l.c/\l.c<=1000):0<=Z3 x ls/\Z3 x ls<=ls.length*1000:=by
 unfold Z3
 induction ls with
 | nil=>simp
 | cons l t ih=>
  have h1:=ih (fun l hl=>h l (by simp [hl]));have h2:=h l (by simp);rw [List.map_cons,List.sum_cons,List.length_cons];split<;>omega
structure SameBut (x y:Stk):Prop where
 kd:y.kd=x.kd
 m:y.m=x.m
 k:y.k=x.k
 n:y.n=x.n
 leased:y.leased=x.leased
 len:y.ts.length=x.ts.length
 ts:∀i (h:i<x.ts.length) (h':i<y.ts.length),y.ts[i].1=x.ts[i].1
theorem SameBut.each {x y:Stk}(h:SameBut x y):y.each=x.each:=by
 have e:y.sh=x.sh:=by unfold Stk.sh;rw [h.kd,h.m,h.k,h.n]
 unfold Stk.each;rw [e]
theorem RefStk.gone {w:World}{G:Nat->Prop}{x y:Stk}{cs:List Value}(h:RefStk w G x cs)(hs:SameBut x y):RefStk w G y (cs.set 6 (.int .i64 y.gone)):=by
 obtain⟨tv,vs,h1,h2,h3,h4⟩:=h;refine⟨tv,vs,?_,by rw [hs.len];exact h2,by rw [hs.len];exact h3,fun i hi=>?_⟩
 ·rw [h1,hs.kd,hs.m,hs.k,hs.n,hs.leased];rfl
 ·have hi':i<x.ts.length:=by rw [<-hs.len];exact hi
  obtain⟨v,k1,k2⟩:=h4 i hi';exact⟨v,k1,by rw [hs.each,hs.ts i hi' hi];exact k2⟩
structure RowJ (w w2 wr:World)(G:Nat->Prop)(S S':List Stk)(a1:Option Addr)(n cap1 j:Nat):Prop where
 ex:∃css:List (List Value),wr.ownsRow w.heap.size 198 7 (.slice a1 n cap1) n css.flatten/\css.length=S.length/\∀i (hi:i<S.length) (hi':i<S'.length),∃cs,css[i]?=some cs/\RefStk w2 G (if i<j then S'[i] else S[i]) cs
 turn:Turn (fun b=>lH (.slice a1 n cap1)=some b) w2 wr
theorem RowJ.ext {w w2 wr wr':World}{G:Nat->Prop}{S S':List Stk}{a1:Option Addr}{n cap1 j:Nat}(h:RowJ w w2 wr G S S' a1 n cap1 j)(hx:Ext wr wr'):RowJ w w2 wr' G S S' a1 n cap1 j:=by obtain⟨css,h1,h2,h3⟩:=h.ex;exact⟨⟨css,hx.owns h1,h2,h3⟩,h.turn.trans (lM hx)⟩
theorem Xx {G:Nat->Prop}(p:Nat)(S S':List Stk)(ls:List LsV)(hS:S.length<=100)(hls:ls.length<=1000)(hlc:∀l∈ls,0<=l.c/\l.c<=1000)(hl':S'.length=S.length)(hsame:∀i (hi:i<S.length)(hi':i<S'.length),SameBut S[i] S'[i]/\(S'[i].gone:Int)=Z3 S[i] ls)(w:World)(hG:∀b,G b->b<w.heap.size)(h:RefAt w G p S ls) :
  Calls Tryz.prog 110 #[.pointer (some ⟨p,0,none⟩)] w fun e w'=>∃q,e=.returned (.tuple #[.pointer (some ⟨q,0,none⟩),.bool (S.any fun x=>Z3 x ls != (x.gone:Int))])/\RefAt w' (ZO G w w') q S' ls/\Ext w w':=by
 have HCp:Hd (∀w',Ext w w'->_):=fun w' hx=>qT p S ls hS hls w' (h.ext hx)
 have heq:=fun (a b c e a' b' c' e':Int) (w:World)=>Ya 9998 a b c e a' b' c' e' w
 have HG:=hid hG;have HSm:=hid hsame;have HLC:=hid hlc;obtain⟨n,hn⟩:∃n,S.length=n:=⟨_,rfl⟩
 obtain⟨nl,hnl⟩:∃n,ls.length=n:=⟨_,rfl⟩
 have HN:Hd (S.length=n/\S'.length=n/\ls.length=nl):=⟨hn,hl'.trans hn,hnl⟩
 rw [hn] at hS;rw [hnl] at hls;have hp:p<w.heap.size:=by obtain⟨_,_,_,h1,_⟩:=h;exact(Array.getElem?_eq_some_iff.1 h1).1
 clear h hG hsame hlc hl' hn hnl;obtain⟨so,hso⟩:∃so:Bool,so=S.any fun x=>Z3 x ls != (x.gone:Int):=⟨_,rfl⟩
 rw [<-hso];have HSO:=hid hso;clear hso;go_enter func110,ntmps110;go_wp2_with fail
 refine(HCp.o _ (lI _)).mono ?_;rintro e w2 ⟨q,v1,v2,css,rfl,q1,q2,q3,q4,q5,q6,hx2,q7,q8⟩;rw [HN.o.1] at q2;rw [HN.o.2.2] at q3;obtain⟨a1,cap1,rfl⟩:=zo q2;obtain⟨a2,cap2,rfl⟩:=zo q3;have HQ:=hid q1;have HR1:=hid q2;have HR2:=hid q3;have HCs:Hd (css.length=S.length/\(∀i (h:i<S.length),∃cs,css[i]?=some cs/\RefStk w2 G S[i] cs)/\w.heap.size<=q/\Ext w w2):=⟨q4,q5,q6,hx2⟩
 have HNe:Hd ((Value.slice a1 n cap1=.slice none 0 0\/1<=S.length)/\(Value.slice a2 nl cap2=.slice none 0 0\/1<=ls.length)):=⟨q7,q8⟩
 have hQ1:lH (.slice a1 n cap1)≠some q:=Zk (B:=q) q1 q2 (by decide);have HQ1:=hid hQ1;have hql:=lG w2 _ (zc q1 (i:=0) rfl);clear q1 q2 q3 q4 q5 q6 hx2 q7 q8 hQ1;go_wp2_with fail
 go_loopw [5,6,7,8] (fun sv kv _ _ wr=>∃j:Nat,j<=n/\kv=.int .i64 j/\sv=.bool ((S.take j).any fun x=>Z3 x ls != (x.gone:Int))/\RowJ w w2 wr G S S' a1 n cap1 j) (fun _ kv _ _ _=>n - (intOf kv).toNat)
 case atStart=>exact⟨0,lT _,rfl,rfl,⟨⟨css,HR1.o,HCs.o.1,fun i hi hi'=>by rw [if_neg (by omega)];exact HCs.o.2.1 i hi⟩,rD _ _⟩⟩
 case round=>
  obtain⟨j,hj,rfl,rfl,hrow⟩:=hrel;have HRow:=hid hrow;have hqw:wr.heap[q]?=some (.cells #[.slice a1 n cap1,.slice a2 nl cap2] 98 (0,0)):=hrow.turn.ref HQ.o HQ1.o;have HQw:=hid hqw;have y0:wr.cell? ⟨q,0,none⟩=some (.slice a1 n cap1):=zc hqw rfl;have hqr:=lG wr _ y0;clear hrow hqw;by_cases hlt:j<n
  ·have hjS:j<S.length:=by rw [HN.o.1];exact hlt
   have hjS':j<S'.length:=by rw [HN.o.2.1];exact hlt
   obtain⟨cssj,r1,r2,r3⟩:=HRow.o.ex;obtain⟨cs,hcs,hst⟩:=r3 j hjS hjS';rw [if_neg (by omega)] at hst;have HSt:=hid hst;have HR:=hid r1;have HCj:Hd (cssj.length=S.length/\(∀i (hi:i<S.length) (hi':i<S'.length),∃cs,cssj[i]?=some cs/\RefStk w2 G (if i<j then S'[i] else S[i]) cs)/\cssj[j]?=some cs):=⟨r2,r3,hcs⟩
   have h7:∀c∈cssj,c.length=7:=fun c hc=>by
    obtain⟨t,ht,rfl⟩:=List.getElem_of_mem hc;obtain⟨cs',k1,tv,vs,k2,_⟩:=r3 t (by omega) (by rw [HN.o.2.1,<-HN.o.1];omega);rw [List.getElem?_eq_getElem ht] at k1;injection k1 with k1
    rw [k1,k2];rfl
   have H7:=hid h7;obtain⟨tv,vs,hce,_⟩:=hst;obtain⟨g1,cap1',hg1e,hg1w,_,_⟩:∃g cap,(Value.slice a1 n cap1)=.slice (some ⟨g,0,none⟩) n cap/\w.heap.size<=g/\n<=cap/\cap<=maxLen:=by
    rcases zw r1 with⟨_,hn,_⟩|h
    ·omega
    ·exact h
   injection hg1e with e1 _ e3
   subst e1 e3;have hat:∀i v,i<7->cs[i]?=some v->wr.cell? ⟨g1,j*7+i,none⟩=some v:=fun i v hi hv=>zk r1 ((uX h7 j i hi hcs).trans hv)
   obtain⟨xk,hxk⟩:∃x,S[j]=x:=⟨_,rfl⟩
   have HXK:=hid hxk;rw [hxk] at hce;have k0:wr.cell? ⟨g1,j*7,none⟩=some (.int .i64 xk.kd):=hat 0 _ (by omega) (by rw [hce];rfl);have k1:wr.cell? ⟨g1,j*7+1,none⟩=some (.int .i64 xk.m):=hat 1 _ (by omega) (by rw [hce];rfl);have k2:wr.cell? ⟨g1,j*7+2,none⟩=some (.int .i64 xk.k):=hat 2 _ (by omega) (by rw [hce];rfl);have k3:wr.cell? ⟨g1,j*7+3,none⟩=some (.int .i64 xk.n):=hat 3 _ (by omega) (by rw [hce];rfl);have k6:wr.cell? ⟨g1,j*7+6,none⟩=some (.int .i64 xk.gone):=hat 6 _ (by omega) (by rw [hce];rfl);have y1:wr.cell? ⟨q,1,none⟩=some (.slice a2 nl cap2):=zc HQw.o rfl;have hg1l:=lG wr _ k0;have HR2w:Hd (wr.ownsRow w.heap.size 56 9 (.slice a2 nl cap2) nl (zu ls)):=HRow.o.turn.owns HR2.o (fun b hb e=>by obtain⟨cur,hcu⟩:=zf HR2.o hb;obtain⟨cur2,hcu2⟩:=zf HR1.o e;exact zh hcu hcu2 (by decide) rfl)
   have hj0:(0:Int)<=(j:Int):=by omega
   have hj1:(j:Int)<n:=by omega
   obtain⟨sj,hsj⟩:∃b,((S.take j).any fun x=>Z3 x ls != (x.gone:Int))=b:=⟨_,rfl⟩
   rw [hsj];have HSJ:=hid hsj;have fz:wr.frozen? ⟨g1,j*7+6,none⟩=false:=by obtain⟨cur,hc⟩:=zf r1 (g:=g1) rfl;exact ze hc _
   clear hsj;clear r1 r2 r3 hcs hat h7 hce hxk;go_wp2_with fail
   go_loopw [7,8] (fun nv iv wr2=>∃t:Nat,t<=nl/\iv=.int .i64 t/\nv=.int .i64 (Z3 xk (ls.take t))/\Ext wr wr2) (fun _ iv _=>nl - (intOf iv).toNat)
   case atStart=>exact⟨0,lT _,rfl,rfl,lI _⟩
   case round=>
    obtain⟨t,ht,rfl,rfl,hx⟩:=hrel;have HX:=hid hx;have k0:=hx.cell k0;have k1:=hx.cell k1;have k2:=hx.cell k2;have k3:=hx.cell k3;have y0:=hx.cell y0;have y1:=hx.cell y1;have hqr:=lG wr _ y0;have hg1l:=lG wr _ k0;have hgb:0<=Z3 xk (ls.take t)/\Z3 xk (ls.take t)<=1000000:=by
     have h1:=uO (x:=xk) (ls:=ls.take t) (fun l hl=>HLC.o l (List.mem_of_mem_take hl));have h2:(ls.take t).length<=1000:=by rw [sF];omega
     omega
    by_cases hlt2:t<nl
    ·have htl:t<ls.length:=by rw [HN.o.2.2];exact hlt2
     have HSn:Hd (Z3 xk (ls.take (t+1))=Z3 xk (ls.take t)+(if (xk.is ls[t].kd ls[t].m ls[t].k ls[t].n && ls[t].r)=true then ls[t].c else 0)):=XZ xk ls t htl;obtain⟨g2,cap2',hg2e,_,_,_⟩:∃g cap,(Value.slice a2 nl cap2)=.slice (some ⟨g,0,none⟩) nl cap/\w.heap.size<=g/\nl<=cap/\cap<=maxLen:=by
      rcases zw HR2w.o with⟨_,hn,_⟩|h
      ·omega
      ·exact h
     injection hg2e with e1 _ e3
     subst e1 e3;obtain⟨_,_,l2,l3,l4,l5,_,l7,l8⟩:=XM (fun i u hu=>HX.o.cell (zk HR2w.o hu)) t htl;have hgl:=lG wr _ l2;obtain⟨hc0,hc1⟩:=HLC.o ls[t] (lV htl);have ht0:(0:Int)<=(t:Int):=by omega
     have ht1:(t:Int)<nl:=by omega
     clear hx;generalize Z3 xk (ls.take t)=gI at *;obtain⟨gI',hgI'⟩:∃x,Z3 xk (ls.take (t+1))=x:=⟨_,rfl⟩
     have HG2:=hid hgI';rw [hgI'] at HSn;clear hgI';generalize ls[t]=l at *;obtain⟨ls0,ls1,lkd,lm,lk,ln,lf,lc,lr⟩:=l;simp only at *;by_cases hb1:(lkd == (xk.kd:Int) && (lm == (xk.m:Int) && (lk == (xk.k:Int) && ln == (xk.n:Int))))=true
     ·cases lr with
      | true=>
       have hw:IntKind.i64.wrap (gI+lc)=gI+lc:=by rw [rP];omega
       have hgI:gI'=gI+lc:=by rw [HSn.o,if_pos];simp [Stk.is] at hb1 ⊢;omega
       have HgI:=hid hgI;clear HSn hgI;go_wp2_with fail
       go_quiet (fail)
       go_wp2
       go_roundw
       case rel=>exact⟨t+1,by omega,by go_num,by rw [HG2.o,HgI.o],HX.o.drewN _⟩
       case measure=>simp [intOf];omega
      | false=>
       have HgI:Hd (gI'=gI):=by
        show gI'=gI
        rw [HSn.o,if_neg (by simp)];omega
       clear HSn;go_wp2_with fail
       go_quiet (fail)
       go_wp2
       go_roundw
       case rel=>exact⟨t+1,by omega,by go_num,by rw [HG2.o,HgI.o],HX.o.drewN _⟩
       case measure=>simp [intOf];omega
     ·have hb2:(lkd == (xk.kd:Int) && (lm == (xk.m:Int) && (lk == (xk.k:Int) && ln == (xk.n:Int))))=false:=by simpa using hb1
      have HgI:Hd (gI'=gI):=by
       show gI'=gI
       rw [HSn.o,if_neg]
       ·omega
       ·intro h;apply hb1;simp [Stk.is] at h ⊢;omega
      clear HSn hb1;go_wp2_with fail
      go_quiet (fail)
      go_wp2
      go_roundw
      case rel=>exact⟨t+1,by omega,by go_num,by rw [HG2.o,HgI.o],HX.o.drewN _⟩
      case measure=>simp [intOf];omega
    ·have htn:t=nl:=by omega
     subst htn;have hga:ls.take t=ls:=by rw [<-HN.o.2.2];exact List.take_length
     rw [hga] at hgb ⊢;have k6:=hx.cell k6;clear fz;have hrx:=hx.owns HR.o;have HRX:Hd _:=hrx;have fz:wr.frozen? ⟨g1,j*7+6,none⟩=false:=by obtain⟨cur,hc⟩:=zf hrx (g:=g1) rfl;exact ze hc _
     obtain⟨gI,hgI⟩:∃x,Z3 xk ls=x:=⟨_,rfl⟩
     have HgI:=hid hgI;rw [hgI] at hgb ⊢;obtain⟨gx,hgx⟩:∃x:Int,(xk.gone:Int)=x:=⟨_,rfl⟩
     have HgX:=hid hgx;rw [hgx] at k6;have HNX:Hd (∀wz,Ext wr wz->RowJ w w2 (wz.setCell ⟨g1,j*7+6,none⟩ (.int .i64 gI)) G S S' (some ⟨g1,0,none⟩) n cap1 (j+1)):=by
      intro wz hz;have hj2:=HSm.o j hjS hjS';rw [HXK.o,HgI.o] at hj2;refine⟨⟨cssj.set j (cs.set 6 (.int .i64 gI)),?_,by rw [List.length_set];exact HCj.o.1,fun i hi hi'=>?_⟩,?_⟩
      ·rw [Vp H7.o j 6 (by omega) HCj.o.2.2];exact zI (hz.owns HRX.o) _ _
      ·by_cases e:j=i
       ·subst e;refine⟨cs.set 6 (.int .i64 gI),by rw [List.getElem?_set_self (by rw [HCj.o.1];exact hjS)],?_⟩;rw [if_pos (by omega)];have h3:=HSt.o.gone (y:=S'[j]) (by rw [HXK.o];exact hj2.1);rw [hj2.2] at h3;exact h3
       ·obtain⟨cs',m1,m2⟩:=HCj.o.2.1 i hi hi';refine⟨cs',by rw [List.getElem?_set_ne e];exact m1,?_⟩;by_cases hlt3:i<j
        ·rw [if_pos hlt3] at m2;rw [if_pos (by omega)];exact m2
        ·rw [if_neg hlt3] at m2;rw [if_neg (by omega)];exact m2
      ·exact lQ (S:=fun b=>lH (.slice (some ⟨g1,0,none⟩) n cap1)=some b) (p:=⟨g1,j*7+6,none⟩) (HRow.o.turn.trans (lM (HX.o.trans hz))) (fun _=>rfl) _
     have HAny:Hd (((S.take (j+1)).any fun x=>Z3 x ls != (x.gone:Int))=(sj || gI != gx)):=by
      show _=_
      rw [rV hjS,List.any_append,HSJ.o,HXK.o];simp [HgI.o,HgX.o]
     clear hx hga hrx hgI hgx;cases sj with
     | true=>
      go_wp2_with fail
      exact⟨⟨j+1,by omega,by go_num,by rw [HAny.o];simp,HNX.o _ (lI _)⟩,by simp [intOf];omega⟩
     | false=>
      go_wp2_with fail
      exact⟨⟨j+1,by omega,by go_num,by rw [HAny.o];simp,HNX.o _ (lI _)⟩,by simp [intOf];omega⟩
  ·have hjn:j=n:=by omega
   subst hjn;go_wp2;go_ret2;obtain⟨css2,r1,r2,r3⟩:=HRow.o.ex;have hxw:Ext w wr:=Turn.ext ((lM (S:=fun _=>False) HCs.o.2.2.2).trans' HRow.o.turn (fun b hb e=>by have:=(lR.lt HR1.o b e).1;omega))
   have hR2:wr.ownsRow w.heap.size 56 9 (.slice a2 nl cap2) nl (zu ls):=HRow.o.turn.owns HR2.o (fun b hb e=>by obtain⟨cur,hcu⟩:=zf HR2.o hb;obtain⟨cur2,hcu2⟩:=zf HR1.o e;exact zh hcu hcu2 (by decide) rfl)
   have hso:((S.take j).any fun x=>Z3 x ls != (x.gone:Int))=so:=by rw [HSO.o,<-HN.o.1,List.take_length]
   refine⟨q,by rw [hso];rfl,YC (css:=css2) HQw.o (by rw [HN.o.2.1];exact r1) (by rw [HN.o.2.2];exact hR2) (HNe.o.1.imp id (fun h=>by rw [HN.o.2.1,<-HN.o.1];exact h)) HNe.o.2 (by rw [r2,HN.o.1,HN.o.2.1]) (fun i' hi'=>?_) HCs.o.2.2.1,hxw⟩
   ·have hi:i'<S.length:=by rw [HN.o.1,<-HN.o.2.1];exact hi'
    obtain⟨cs,m1,m2⟩:=r3 i' hi hi';rw [if_pos (by rw [<-HN.o.1];exact hi)] at m2;refine⟨cs,m1,(m2.turn HRow.o.turn (fun b hb e=>?_)).mono (fun b hb=>.inl hb)⟩;have h1:=HG.o b hb;have h2:=(lR.lt HR1.o b e).1;omega
end
section
theorem jk (b:Nat)(es:Array MapEntry)(clock:Nat)(w:World)(hb:w.heap[b]?=some (.map es clock)) :
  Calls Tryz.prog 163 #[.map (some b)] w fun e w'=>e=.returned (.map (some w.heap.size))/\w'=w.alloc (.map es clock):=by
 have hq:=fun w=>run_eql_map_nil_sl (P:=Tryz.prog) w 152 _ _ (some b) underlying152
 go_enter func163,ntmps163;go_wp2;rw [run_callFunc_extern func184 (by kernel_rfl) (by kernel_rfl) (by kernel_rfl) (e:=Extern.MapsClone.clone) (by kernel_rfl),run_maps_clone_sl w 152 hb];simp only [Result.andThen];rw [Oper.upon_value];go_wp2;rw [run_typeAssert_map_sl _ 152 _ _ _ _ underlying152];simp only [Result.andThen];rw [Oper.upon_value];go_wp2;go_ret;exact⟨rfl,rfl⟩
def yq (S:List Stk):Nat:=(S.map fun x=>(x.ts.filter (·.2)).length).sum
theorem ky {S:List Stk}(h:∀x∈S,x.ts.length<=1000):yq S<=S.length*1000:=by
 induction S with
 | nil=>simp [yq]
 | cons x t ih=>
  have h1:=ih (fun y hy=>h y (by simp [hy]));have h2:=h x (by simp);have h3:=List.length_filter_le (·.2) x.ts;simp only [yq,List.map_cons,List.sum_cons,List.length_cons] at h1 ⊢;omega
section
variable {B:Nat}{F:Nat->Prop}{sv lv dv:Value}{R:List StkR}{ls:List LsV}{ops:List OpV}{fl:Bool}{ah:Int}{kn:Bool}
theorem kF (hR:R.length<=100)(hRm:∀x∈R,x.ts.length<=1000)(w:World)(h:StoreOf w B F sv lv dv R ls ops fl ah kn) :
  Calls Tryz.prog 118 #[.pointer (some ⟨B,0,none⟩)] w fun e w'=>e=.returned (.int .i64 (yq (R.map StkR.abs)))/\Ext w w':=by
 obtain⟨c0,c1,_⟩:=h.deal.cells;have hB:=h.deal.lt;have H:Hd _:=h;have HRM:Hd _:=hRm;obtain⟨sa,sc,hsv⟩:=zo h.srow;subst hsv;clear h hRm;obtain⟨rn,hrn⟩:∃rn,R.length=rn:=⟨_,rfl⟩
 have HRN:=hid hrn;rw [hrn] at c0 hR;clear hrn;go_enter func118,ntmps118;go_wp2
 go_loopw [3,11] (fun u i wr=>∃j:Nat,j<=rn/\i=.int .i64 j/\u=.int .i64 (yq ((R.map StkR.abs).take j))/\Ext w wr) (fun _ i _=>rn - (intOf i).toNat)
 case atStart=>exact⟨0,lT _,rfl,rfl,lI _⟩
 case round=>
  obtain⟨j,hj,rfl,rfl,hx⟩:=hrel;by_cases hlt:j<rn
  ·have hjR:j<R.length:=by rw [HRN.o];exact hlt
   have hsr:=H.o.srow;rcases zw hsr with⟨_,h0,_⟩|⟨g,cap,hg,_,_,_⟩
   ·omega
   ·injection hg with hg1 hg2 hg3
    subst hg1 hg3;rw [HRN.o] at hsr;have e0:wr.cell? ⟨g,j,none⟩=some (.pointer (some ⟨R[j].blk,0,none⟩)):=hx.cell (zk hsr (by simp [Zt,hjR]));have hgl:=lG wr _ e0;have hxs:=(H.o.ext hx).stk R[j] (lV hjR);have k6:wr.cell? ⟨R[j].blk,6,none⟩=some (.map (some R[j].mb)):=(cell_of_row wr R[j].blk 6 _ _ _ hxs.blk).trans rfl;have hbl:=lG wr _ k6;obtain⟨D,hD,hK⟩:=hxs.map;have hln:=fun ty=>hD.len underlying152 ty
    rw [hK.1] at hln;have hnx:yq ((R.map StkR.abs).take (j+1))=yq ((R.map StkR.abs).take j)+(R[j].ts.filter (·.2)).length:=by rw [rV (by simpa using hjR),yq,rY,List.sum_append];simp [yq,StkR.abs]
    have hb1:yq ((R.map StkR.abs).take j)<=100000:=by
     have h1:=ky (S:=(R.map StkR.abs).take j) (fun x hx=>by obtain⟨y,hy,rfl⟩:=List.mem_map.1 (List.mem_of_mem_take hx);exact HRM.o y hy)
     rw [sF] at h1;have h2:min j (R.map StkR.abs).length*1000<=100*1000:=Nat.mul_le_mul_right _ (by omega);omega
    have hb2:(R[j].ts.filter (·.2)).length<=1000:=Nat.le_trans (List.length_filter_le _ _) (HRM.o _ (lV hjR));have HNx:Hd _:=hnx;have HX:=hid hx;clear hnx hsr hxs hD hK hx;generalize yq ((R.map StkR.abs).take j)=a at *;generalize (R[j].ts.filter (·.2)).length=b at *;generalize R[j].blk=blk at *;generalize R[j].mb=mb at *;go_wp2
    go_roundw
    case rel=>exact⟨j+1,by omega,by go_num,by rw [HNx.o];simp,HX.o⟩
    case measure=>simp [intOf];omega
  ·obtain rfl:j=rn:=by omega
   have HF:Hd (yq ((R.map StkR.abs).take j)=yq (R.map StkR.abs)):=by
    show _=_
    rw [List.take_of_length_le (by rw [List.length_map,HRN.o];exact lO _)]
   have HX:=hid hx;clear hx;go_wp2;go_ret;exact⟨qU (by rw [HF.o]),HX.o⟩
end
end
section
def YJ (t:List Int×Bool):List Int×Bool:=(t.1,false)
def yw (ts:List (List Int×Bool))(f:Nat):Nat->List (List Int×Bool)
 | 0=>ts
 | j+1=>(yw ts f j).modify (f+j) YJ
theorem yh (ts:List (List Int×Bool))(f j:Nat):(yw ts f j).length=ts.length:=by
 induction j with
 | zero=>rfl
 | succ j ih=>rw [yw,List.length_modify,ih]
theorem XY (ts:List (List Int×Bool))(f j i:Nat):(yw ts f j)[i]?=(ts[i]?).map fun t=>if f<=i/\i<f+j then YJ t else t:=by
 induction j with
 | zero=>
  rw [yw];cases ts[i]? with
  | none=>rfl
  | some t=>
   simp;intro h1 h2;omega
 | succ j ih=>
  rw [yw,List.getElem?_modify,ih];cases ts[i]? with
  | none=>rfl
  | some t=>
   show some (if f+j=i then YJ (if f<=i/\i<f+j then YJ t else t) else (if f<=i/\i<f+j then YJ t else t))=some (if f<=i/\i<f+(j+1) then YJ t else t)
   congr 1;by_cases e:f+j=i
   ·rw [if_pos e,if_neg (by omega),if_pos (by omega)]
   ·rw [if_neg e];by_cases h:f<=i/\i<f+j
    ·rw [if_pos h,if_pos (by omega)]
    ·rw [if_neg h,if_neg (by omega)]
def StkR.forget (x:StkR)(f c:Nat):StkR:={ x with ts:=yw x.ts f c }
def Stk.forget (x:Stk)(f c:Nat):Stk:={ x with ts:=yw x.ts f c }
theorem vK {ts:List (List Int×Bool)}(i:Nat):((ts.modify i YJ).filter (·.2)).length+(if (ts[i]?.map (·.2)).getD false=true then 1 else 0)=(ts.filter (·.2)).length:=by
 induction ts generalizing i with
 | nil=>simp
 | cons t r ih=>
  cases i with
  | zero=>
   cases h:t.2<;>simp [YJ,h]
  | succ i=>
   have:=ih i;rw [List.modify_succ_cons];cases h:t.2<;>simp [h] at this ⊢<;>omega
theorem Kept.del {w:World}{F:Nat->Prop}{s:Sh}{ts:List (List Int×Bool)}{D:DataW Value}(h:Kept w F s ts D)(hD:Tidy D)(i:Nat):Kept w F s (ts.modify i YJ) (D.del (.int .i64 (i:Int))):=by
 obtain⟨h1,h2,h3⟩:=h;refine⟨?_,fun j=>?_,fun j hj hk=>?_⟩
 ·have e1:=size_del (k:=.int .i64 (i:Int)) hD;have e2:=vK (ts:=ts) i;rw [h2 i] at e1;omega
 ·by_cases e:i=j
  ·subst e;rw [has_del_same,List.getElem?_modify_eq];cases ts[i]?<;>rfl
  ·rw [has_del_other (VR (Ne.symm e)),h2 j,List.getElem?_modify];cases ts[j]? with
   | none=>rfl
   | some t=>simp [e]
 ·have hj':j<ts.length:=by simpa using hj
  by_cases e:i=j
  ·subst e;rw [List.getElem_modify,if_pos rfl] at hk;simp [YJ] at hk
  ·rw [List.getElem_modify,if_neg e] at hk ⊢;rw [atKey_del_other (VR (Ne.symm e))];exact h3 j hj' hk
theorem Turn.map {S:Nat->Prop}{w w':World}{b:Nat}(h:w.mapTurned w' b)(hs:S b):Turn S w w':=by
 obtain⟨es,clock,es',clock',hb,rfl⟩:=h;refine⟨rfl,rfl,rfl,by simp [Go.ChangeMaps.setBlock],fun k hk hn=>?_⟩;show (w.heap.setIfInBounds b _)[k]?=_
 rw [Array.getElem?_setIfInBounds_ne (fun e=>hn (by rw [<-e];exact hs))]
section
variable {B:Nat}{F:Nat->Prop}{sv lv dv:Value}{R:List StkR}{ls:List LsV}{ops:List OpV}{fl:Bool}{ah:Int}{kn:Bool}
theorem VT {x:StkR}{R:List StkR}{i:Nat}(h:i<R.length)(e:R[i]=x):R.set i x=R:=by rw [<-e,List.set_getElem_self]
theorem kW (s i kd m k n:Int)(f c:Nat)(rr:Bool)(ix:Nat)(hc:c<=1000)(hf:f<=1000)(hR:R.length<=100)(hix:ix<R.length)(hfx:R.find? (fun x=>x.is kd m k n)=some R[ix])(w:World)(h:StoreOf w B F sv lv dv R ls ops fl ah kn) :
  Calls Tryz.prog 164 #[.pointer (some ⟨B,0,none⟩),.agg #[.int .i64 s,.int .i64 i,.int .i64 kd,.int .i64 m,.int .i64 k,.int .i64 n,.int .i64 f,.int .i64 c,.bool rr]] w fun e w'=>e=.returned (.tuple #[])/\StoreOf w' B F sv lv dv (R.set ix (R[ix].forget f c)) ls ops fl ah kn/\Turn (fun b=>b=R[ix].mb) w w':=by
 have HF:Hd (∀w',Ext w w'->Calls Tryz.prog 168 #[.pointer (some ⟨B,0,none⟩),.agg #[.int .i64 kd,.int .i64 m,.int .i64 k,.int .i64 n]] w' fun e w''=>e=.returned (.pointer (some ⟨R[ix].blk,0,none⟩))/\Ext w' w''):=fun w' hx=>by
  have:=Yt kd m k n hR w' (h.ext hx)
  rwa [Zy,hfx] at this
 have H:Hd _:=h;obtain⟨X,hX⟩:∃X,R[ix]=X:=⟨_,rfl⟩
 have HX:=hid hX;have hxi:=h.stk R[ix] (lV hix);rw [hX] at hxi HF ⊢;have hbw:X.blk<w.heap.size:=(Array.getElem?_eq_some_iff.1 hxi.blk).1;obtain⟨D0,hD0,_⟩:=hxi.map;have hmw:X.mb<w.heap.size:=hD0.lt;have hbm:X.blk≠X.mb:=yt hxi.blk hD0;have HXI:=hid hxi;clear h hfx hX hD0 hxi;go_enter func164,ntmps164;go_wp2_with fail
 refine(HF.o _ ((lI w).alloc _)).mono ?_;rintro e w1 ⟨rfl,hx1⟩;have l6:=Z5 hx1 6 rfl;have l7:=Z5 hx1 7 rfl;have HX1:Hd (Ext w w1):=((lI w).alloc _).trans hx1;have hw1:=HX1.o.le;have hll:=lG w1 _ l6;clear hx1;go_wp2_with fail
 go_loopw [12] (fun i wr=>∃j:Nat,j<=c/\i=.int .i64 j/\StoreOf wr B F sv lv dv (R.set ix (X.forget f j)) ls ops fl ah kn/\Turn (fun b=>b=X.mb) w1 wr) (fun i _=>c - (intOf i).toNat)
 case atStart=>
  refine⟨0,lT _,rfl,?_,rD _ _⟩;rw [VT hix (by rw [HX.o];rfl)];exact H.o.ext HX1.o
 case round=>
  obtain⟨j,hj,rfl,hs,ht⟩:=hrel;have HS:Hd _:=hs;have HT:=hid ht;have hlm:¬w.heap.size=X.mb:=by omega
  have l6:=ht.cell l6 hlm;have hxj:=hs.stk _ (yP hix (X.forget f j));have hlr:w.heap.size<wr.heap.size:=lG wr _ l6;clear hs ht;by_cases hlt:j<c
  ·have hkb:wr.heap[X.blk]?=some (.cells (X.forget f j).row 154 (0,0)):=hxj.blk;have k6:wr.cell? ⟨X.blk,6,none⟩=some (.map (some X.mb)):=(cell_of_row wr X.blk 6 _ _ _ hkb).trans rfl;obtain⟨D,hD,hK⟩:=hxj.map;have hD:wr.ownsMap Tryz.prog 3 zX X.mb X.ts.length D:=by
    have e:(X.forget f j).ts.length=X.ts.length:=yh _ _ _;rw [e] at hD;exact hD
   have hwf:IntKind.i64.wrap ((f:Int)+(j:Int))=((f+j:Nat):Int):=by rw [rP];omega
   obtain⟨fj,hfj⟩:∃fj,f+j=fj:=⟨_,rfl⟩
   rw [hfj] at hwf;have HFJ:=hid hfj;have hfj1:fj<=2000:=by omega
   have hown2:=hD.drew;have hdr:∀ty,∃w',(Builtin.delete_ #[152,3] ty #[.map (some X.mb),.int .i64 (fj:Int)]).run Tryz.prog wr.drew=.ok (.tuple #[]) w'/\w'.ownsMap Tryz.prog 3 zX X.mb X.ts.length (D.del (.int .i64 (fj:Int)))/\wr.drew.mapTurned w' X.mb:=fun ty=>
    hown2.drop Q5 underlying152 (keyOf_int_mk underlying3 (a:=(fj:Int)) (by simp [Lit.wf,IntKind.min,IntKind.max,IntKind.signed,IntKind.bits];omega)) ty
   obtain⟨w3,hrun,hown3,hturn3⟩:=hdr 0;have hT3:Turn (fun b=>b=X.mb) wr w3:=(rD _ wr).drew.trans (Turn.map hturn3 rfl);have k6':=hT3.cell k6 (fun e=>hbm e);have l6':=hT3.cell l6 hlm;have HST:Hd (StoreOf w3 B F sv lv dv (R.set ix (X.forget f (j+1))) ls ops fl ah kn):=by
    have hU:∀b cur,wr.heap[b]?=some (.cells cur 146 (0,0))->¬(b=X.mb):=fun b cur hc e=>yt hc hD e
    have hx':StkAt w3 F (X.forget f (j+1)):=by
     refine⟨?_,⟨D.del (.int .i64 (fj:Int)),?_,?_⟩,hxj.fb,hxj.fm⟩
     ·have h1:=hT3.ref hkb (fun e=>hbm e);have e:(X.forget f (j+1)).row=(X.forget f j).row:=by
       have e1:(X.forget f (j+1)).ts.length=X.ts.length:=yh _ _ _;have e2:(X.forget f j).ts.length=X.ts.length:=yh _ _ _;unfold StkR.row;rw [e1,e2]
       rfl
      rw [e];exact h1
     ·have e:(X.forget f (j+1)).ts.length=X.ts.length:=yh _ _ _;rw [e];exact hown3
     ·have h1:=(hK.turn' hT3 hU).del (hown2.tidy Q5) fj;have e:(X.forget f (j+1)).ts=((X.forget f j).ts).modify fj YJ:=by
       show yw X.ts f (j+1)=_
       rw [yw,HFJ.o]
       rfl
      rw [e];exact h1
    have h:=HS.o.setStk ix (by simpa using hix) (X.forget f (j+1)) (by simp [StkR.forget]) (by simp [StkR.forget]) (by simpa [StkR.forget] using hT3.mono (fun b _ e=>.inr e)) hx';rw [VZ] at h;exact h
   have HT3:=hid (HT.o.trans hT3);have hbr:X.blk<wr.heap.size:=lG wr _ k6;clear hxj hkb hD hK hown2 hown3 hturn3 hT3 hfj hdr;generalize X.blk=blk at *;generalize X.mb=mb at *;go_wp2_with fail
   go_region_held3 (fun w'=>w'.cell? ⟨blk,6,none⟩=some (.map (some mb))/\w'.cell? ⟨w.heap.size,6,none⟩=some (.int .i64 (f:Int)))
    (first|exact⟨k6,l6⟩|exact⟨k6',l6'⟩) (fail)
   clear k6 l6 k6' l6' hrun;go_wp2
   go_roundw
   case rel=>exact⟨j+1,by omega,by go_num,HST.o,HT3.o⟩
   case measure=>simp [intOf];omega
  ·obtain rfl:j=c:=by omega
   have HTf:Hd (Turn (fun b=>b=X.mb) w wr):=(lM HX1.o).trans HT.o;clear hxj;go_wp2;go_end0;exact⟨rfl,HS.o,HTf.o⟩
end
end
end Go.Proofs.YtmnjhhachdlmkaaGreat
