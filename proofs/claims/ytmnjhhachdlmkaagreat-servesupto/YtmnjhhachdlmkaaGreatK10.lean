import Derived.Test.YtmnjhhachdlmkaaGreatK09
namespace Go.Proofs.YtmnjhhachdlmkaaGreat
set_option linter.all false
set_option maxRecDepth 100000
set_option maxHeartbeats 1600000
open Tryz
open Ext renaming refl -> lI, drew -> lJ, setCell -> rF, grown -> rG
open World renaming alloc -> lP, ownsRow_nil -> rB, cell?_setCell_far -> lX, setCell -> rC, ownsRow -> lR
open List renaming getElem_of_mem -> sK, getElem?_eq_getElem -> lZ, length_eq_zero_iff -> sO, length_set -> rK
open Turn renaming of_ext -> lM
open Go.RowKit Go.Maps
open World renaming block_lt_of_cell? -> lG
open Value renaming ownBlock -> lH
section
theorem uh:(Tryz.prog.info? 198).map (fun i=>(i.zero,i.size,i.bytes))=some (some (.agg #[.int .i64 0,.int .i64 0,.int .i64 0,.int .i64 0,.slice none 0 0,.int .i64 0,.int .i64 0]),7,72):=by kernel_rfl
theorem Um (p n1 n2:Nat)(v1 v2:Value)(xs ys:List Value)(hn1:n1<=1000)(hn2:n2<=1000)(w:World)(hp:w.heap[p]?=some (.cells #[v1,v2] 98 (0,0)))
  (h1:(v1=.slice none 0 0/\n1=0/\xs=[])\/∃g cap,v1=.slice (some ⟨g,0,none⟩) n1 cap/\1<=n1/\xs.length=n1*7/\(∀u∈xs,u.oneCell'=true)/\∀i u,xs[i]?=some u->w.cell? ⟨g,i,none⟩=some u)
  (h2:(v2=.slice none 0 0/\n2=0/\ys=[])\/∃g cap,v2=.slice (some ⟨g,0,none⟩) n2 cap/\1<=n2/\ys.length=n2*9/\(∀u∈ys,u.oneCell'=true)/\∀i u,ys[i]?=some u->w.cell? ⟨g,i,none⟩=some u) :
  Calls Tryz.prog 148 #[.pointer (some ⟨p,0,none⟩)] w fun e w'=>∃q v1' v2',e=.returned (.pointer (some ⟨q,0,none⟩))/\w'.heap[q]?=some (.cells #[v1',v2'] 98 (0,0))/\w'.ownsRow w.heap.size 198 7 v1' n1 xs/\w'.ownsRow w.heap.size 56 9 v2' n2 ys/\w.heap.size<=q/\Ext w w'/\(v1'=.slice none 0 0\/1<=n1)/\(v2'=.slice none 0 0\/1<=n2):=by
 obtain⟨i0,hi,hz0,hz1,hz2⟩:=info_parts uh;obtain⟨j0,hj,hy0,hy1,hy2⟩:=info_parts Y5;have c0:w.cell? ⟨p,0,none⟩=some v1:=zc hp rfl;have c1:w.cell? ⟨p,1,none⟩=some v2:=zc hp rfl;have hpl:=lG w _ c0;clear hp;rcases h1 with⟨rfl,rfl,rfl⟩|⟨g1,cap1,rfl,hm1,hl1,ho1,hc1⟩
 ·skip
  go_enter func148,ntmps148;go_wp2_with fail
  have hq0:(w.alloc (.cells #[.slice none 0 0,.slice none 0 0] 98)).heap[w.heap.size]?=some (.cells #[.slice none 0 0,.slice none 0 0] 98 (0,0)):=heap_alloc_new _ _;have hXW:Ext w (w.alloc (.cells #[.slice none 0 0,.slice none 0 0] 98)):=(lI w).alloc _;obtain⟨q,hqE⟩:∃q,w.heap.size=q:=⟨_,rfl⟩
  rw [hqE] at hq0;simp only [hqE];generalize lP w _=W at hq0 hXW ⊢;have hqp:q≠p:=by omega
  have hqW:q<W.heap.size:=(Array.getElem?_eq_some_iff.1 hq0).1;have HXW:=hid hXW;have HQ0:=hid hq0;have x0:W.cell? ⟨q,0,none⟩=some (.slice none 0 0):=zc hq0 rfl;have x1:W.cell? ⟨q,1,none⟩=some (.slice none 0 0):=zc hq0 rfl;have f0:=ze hq0 0;have f1:=ze hq0 1;have c0:=hXW.cell c0;have c1:=hXW.cell c1;clear hXW hq0
  go_region
  all_goals
   have HB1:Hd (((W.setCell ⟨q,0,none⟩ (.slice none 0 0)).drew).heap[q]?=some (.cells #[.slice none 0 0,.slice none 0 0] 98 (0,0))):=zy (zg HQ0.o _);have HW1:Hd (((W.setCell ⟨q,0,none⟩ (.slice none 0 0)).drew).ownsRow w.heap.size 198 7 (.slice none 0 0) 0 []):=rB _ _ _ _;have HXW1:Hd (Ext w ((W.setCell ⟨q,0,none⟩ (.slice none 0 0)).drew)):=lJ (rF HXW.o (by show w.heap.size<=q;omega) _);have HN1:Hd (lH (.slice none 0 0)≠some q):=fun e=>by simp [lH] at e
   have c1b:=(lX W ⟨q,0,none⟩ ⟨p,1,none⟩ (.slice none 0 0) hqp).trans c1;have x1c:((W.setCell ⟨q,0,none⟩ (.slice none 0 0)).drew).cell? ⟨q,1,none⟩=some (.slice none 0 0):=zc HB1.o rfl;have f1c:=ze HB1.o 1;have hqw:w.heap.size<=q:=by omega
   have hW1l:=HXW1.o.le;have c1c:((W.setCell ⟨q,0,none⟩ (.slice none 0 0)).drew).cell? ⟨p,1,none⟩=some v2:=c1b;clear c1b;have c1b:=c1c;clear c1c;generalize World.drew (rC W _ _)=W1 at HB1 HW1 HXW1 c1b x1c f1c hW1l ⊢;clear x0 x1 f0 f1 c0 c1 HQ0 HXW;go_wp2_with fail
   rcases h2 with⟨rfl,rfl,rfl⟩|⟨g2,cap2,rfl,hm2,hl2,ho2,hc2⟩
   ·go_region
    all_goals
     have HF:Hd ((W1.drew.setCell ⟨q,1,none⟩ (.slice none 0 0)).heap[q]?=some (.cells #[.slice none 0 0,.slice none 0 0] 98 (0,0))/\(W1.drew.setCell ⟨q,1,none⟩ (.slice none 0 0)).ownsRow w.heap.size 198 7 (.slice none 0 0) 0 []/\Ext w (W1.drew.setCell ⟨q,1,none⟩ (.slice none 0 0))):=⟨zg (zy HB1.o) _,zi (lR.drew HW1.o) HN1.o _,rF (lJ HXW1.o) hqw _⟩
     go_wp2;go_ret;exact⟨q,.slice none 0 0,.slice none 0 0,rfl,HF.o.1,HF.o.2.1,rB _ _ _ _,hqw,HF.o.2.2,.inl rfl,.inl rfl⟩
   ·have HC2:Hd _:=hc2;have HO2:Hd _:=ho2;have HL2:Hd _:=hl2;clear hc2 ho2 hl2
    go_region_law (first
     | (refine step_append_lies _ (by rfl) _ _ 38 (by rfl) w.heap.size 56 j0 _ 9 72 underlying38 hj hy0 hy1 hy2 (by rfl) (by decide) (.slice none 0 0) 0 [] (by rfl) (rB _ _ _ _) ⟨g2,0,none⟩ n2 cap2 ys (by rfl) HL2.o (fun j u hu=>by rw [Z1,Nat.zero_add];exact(lJ HXW1.o).cell (HC2.o j u hu)) HO2.o (by omega) (by unfold maxLen;omega) (by omega) (by show w.heap.size<=W1.heap.size;omega) _ rfl ?_;intro gg2 gc2 w2 hown2 hgrow2 hat2 hlt2;have hX2:Ext W1 w2:=rG (lJ (lI W1)) hgrow2 (by simp [lH]);have x1b:=hX2.cell x1c;have f1b:=ze (hX2.block HB1.o) 1))
    all_goals
     have hg2q:gg2≠q:=by obtain⟨cur,hc⟩:=zf hown2 (g:=gg2) rfl;exact zh hc (hX2.block HB1.o) (by decide)
     have HF:Hd ((w2.setCell ⟨q,1,none⟩ (.slice (some ⟨gg2,0,none⟩) n2 gc2)).heap[q]?=some (.cells #[.slice none 0 0,.slice (some ⟨gg2,0,none⟩) n2 gc2] 98 (0,0))/\(w2.setCell ⟨q,1,none⟩ (.slice (some ⟨gg2,0,none⟩) n2 gc2)).ownsRow w.heap.size 198 7 (.slice none 0 0) 0 []/\(w2.setCell ⟨q,1,none⟩ (.slice (some ⟨gg2,0,none⟩) n2 gc2)).ownsRow w.heap.size 56 9 (.slice (some ⟨gg2,0,none⟩) n2 gc2) n2 ys/\Ext w (w2.setCell ⟨q,1,none⟩ (.slice (some ⟨gg2,0,none⟩) n2 gc2))):=⟨zg (hX2.block HB1.o) _,zi (hX2.owns HW1.o) HN1.o _,zi (by simpa using hown2) (by simpa [lH] using hg2q) _,rF (HXW1.o.trans hX2) hqw _⟩
     clear hown2 hgrow2 hat2 hX2 x1b f1b;go_wp2;go_ret;exact⟨q,.slice none 0 0,.slice (some ⟨gg2,0,none⟩) n2 gc2,rfl,HF.o.1,HF.o.2.1,HF.o.2.2.1,hqw,HF.o.2.2.2,.inl rfl,.inr hm2⟩
 ·have HC1:Hd _:=hc1;have HO1:Hd _:=ho1;have HL1:Hd _:=hl1;clear hc1 ho1 hl1;go_enter func148,ntmps148;go_wp2_with fail
  have hq0:(w.alloc (.cells #[.slice none 0 0,.slice none 0 0] 98)).heap[w.heap.size]?=some (.cells #[.slice none 0 0,.slice none 0 0] 98 (0,0)):=heap_alloc_new _ _;have hXW:Ext w (w.alloc (.cells #[.slice none 0 0,.slice none 0 0] 98)):=(lI w).alloc _;obtain⟨q,hqE⟩:∃q,w.heap.size=q:=⟨_,rfl⟩
  rw [hqE] at hq0;simp only [hqE];generalize lP w _=W at hq0 hXW ⊢;have hqp:q≠p:=by omega
  have hqW:q<W.heap.size:=(Array.getElem?_eq_some_iff.1 hq0).1;have HXW:=hid hXW;have HQ0:=hid hq0;have x0:W.cell? ⟨q,0,none⟩=some (.slice none 0 0):=zc hq0 rfl;have x1:W.cell? ⟨q,1,none⟩=some (.slice none 0 0):=zc hq0 rfl;have f0:=ze hq0 0;have f1:=ze hq0 1;have c0:=hXW.cell c0;have c1:=hXW.cell c1;clear hXW hq0
  go_region_law (first
   | (refine step_append_lies _ (by rfl) _ _ 96 (by rfl) w.heap.size 198 i0 _ 7 72 underlying96 hi hz0 hz1 hz2 (by rfl) (by decide) (.slice none 0 0) 0 [] (by rfl) (rB _ _ _ _) ⟨g1,0,none⟩ n1 cap1 xs (by rfl) HL1.o (fun j u hu=>by rw [Z1,Nat.zero_add];exact(lJ HXW.o).cell (HC1.o j u hu)) HO1.o (by omega) (by unfold maxLen;omega) (by omega) (by show w.heap.size<=W.heap.size;omega) _ rfl ?_;intro gg1 gc1 w1 hown1 hgrow1 hat1 hlt1;have hX1:Ext W w1:=rG (lJ (lI W)) hgrow1 (by simp [lH]);have x0b:=hX1.cell x0;have f0b:=ze (hX1.block HQ0.o) 0))
  all_goals
   have hg1q:gg1≠q:=by obtain⟨cur,hc⟩:=zf hown1 (g:=gg1) rfl;exact zh hc (hX1.block HQ0.o) (by decide)
   have HB1:Hd ((w1.setCell ⟨q,0,none⟩ (.slice (some ⟨gg1,0,none⟩) n1 gc1)).heap[q]?=some (.cells #[.slice (some ⟨gg1,0,none⟩) n1 gc1,.slice none 0 0] 98 (0,0))):=zg (hX1.block HQ0.o) _;have HW1:Hd ((w1.setCell ⟨q,0,none⟩ (.slice (some ⟨gg1,0,none⟩) n1 gc1)).ownsRow w.heap.size 198 7 (.slice (some ⟨gg1,0,none⟩) n1 gc1) n1 xs):=zi (by simpa using hown1) (by simpa [lH] using hg1q) _;have HXW1:Hd (Ext w (w1.setCell ⟨q,0,none⟩ (.slice (some ⟨gg1,0,none⟩) n1 gc1))):=rF (HXW.o.trans hX1) (by show w.heap.size<=q;omega) _;have HN1:Hd (lH (.slice (some ⟨gg1,0,none⟩) n1 gc1)≠some q):=fun e=>hg1q (by simpa [lH] using e)
   have c1b:=(lX w1 ⟨q,0,none⟩ ⟨p,1,none⟩ (.slice (some ⟨gg1,0,none⟩) n1 gc1) hqp).trans (hX1.cell c1);have x1c:(w1.setCell ⟨q,0,none⟩ (.slice (some ⟨gg1,0,none⟩) n1 gc1)).cell? ⟨q,1,none⟩=some (.slice none 0 0):=zc HB1.o rfl;have f1c:=ze HB1.o 1;have hqw:w.heap.size<=q:=by omega
   have hW1l:=HXW1.o.le;generalize rC w1 _ _=W1 at HB1 HW1 HXW1 c1b x1c f1c hW1l ⊢;clear x0 x1 f0 f1 c0 c1 HQ0 HXW x0b f0b hown1 hgrow1 hat1 hX1;go_wp2_with fail
   rcases h2 with⟨rfl,rfl,rfl⟩|⟨g2,cap2,rfl,hm2,hl2,ho2,hc2⟩
   ·go_region
    all_goals
     have HF:Hd ((W1.drew.setCell ⟨q,1,none⟩ (.slice none 0 0)).heap[q]?=some (.cells #[.slice (some ⟨gg1,0,none⟩) n1 gc1,.slice none 0 0] 98 (0,0))/\(W1.drew.setCell ⟨q,1,none⟩ (.slice none 0 0)).ownsRow w.heap.size 198 7 (.slice (some ⟨gg1,0,none⟩) n1 gc1) n1 xs/\Ext w (W1.drew.setCell ⟨q,1,none⟩ (.slice none 0 0))):=⟨zg (zy HB1.o) _,zi (lR.drew HW1.o) HN1.o _,rF (lJ HXW1.o) hqw _⟩
     go_wp2;go_ret;exact⟨q,.slice (some ⟨gg1,0,none⟩) n1 gc1,.slice none 0 0,rfl,HF.o.1,HF.o.2.1,rB _ _ _ _,hqw,HF.o.2.2,.inr hm1,.inl rfl⟩
   ·have HC2:Hd _:=hc2;have HO2:Hd _:=ho2;have HL2:Hd _:=hl2;clear hc2 ho2 hl2
    go_region_law (first
     | (refine step_append_lies _ (by rfl) _ _ 38 (by rfl) w.heap.size 56 j0 _ 9 72 underlying38 hj hy0 hy1 hy2 (by rfl) (by decide) (.slice none 0 0) 0 [] (by rfl) (rB _ _ _ _) ⟨g2,0,none⟩ n2 cap2 ys (by rfl) HL2.o (fun j u hu=>by rw [Z1,Nat.zero_add];exact(lJ HXW1.o).cell (HC2.o j u hu)) HO2.o (by omega) (by unfold maxLen;omega) (by omega) (by show w.heap.size<=W1.heap.size;omega) _ rfl ?_;intro gg2 gc2 w2 hown2 hgrow2 hat2 hlt2;have hX2:Ext W1 w2:=rG (lJ (lI W1)) hgrow2 (by simp [lH]);have x1b:=hX2.cell x1c;have f1b:=ze (hX2.block HB1.o) 1))
    all_goals
     have hg2q:gg2≠q:=by obtain⟨cur,hc⟩:=zf hown2 (g:=gg2) rfl;exact zh hc (hX2.block HB1.o) (by decide)
     have HF:Hd ((w2.setCell ⟨q,1,none⟩ (.slice (some ⟨gg2,0,none⟩) n2 gc2)).heap[q]?=some (.cells #[.slice (some ⟨gg1,0,none⟩) n1 gc1,.slice (some ⟨gg2,0,none⟩) n2 gc2] 98 (0,0))/\(w2.setCell ⟨q,1,none⟩ (.slice (some ⟨gg2,0,none⟩) n2 gc2)).ownsRow w.heap.size 198 7 (.slice (some ⟨gg1,0,none⟩) n1 gc1) n1 xs/\(w2.setCell ⟨q,1,none⟩ (.slice (some ⟨gg2,0,none⟩) n2 gc2)).ownsRow w.heap.size 56 9 (.slice (some ⟨gg2,0,none⟩) n2 gc2) n2 ys/\Ext w (w2.setCell ⟨q,1,none⟩ (.slice (some ⟨gg2,0,none⟩) n2 gc2))):=⟨zg (hX2.block HB1.o) _,zi (hX2.owns HW1.o) HN1.o _,zi (by simpa using hown2) (by simpa [lH] using hg2q) _,rF (HXW1.o.trans hX2) hqw _⟩
     clear hown2 hgrow2 hat2 hX2 x1b f1b;go_wp2;go_ret;exact⟨q,.slice (some ⟨gg1,0,none⟩) n1 gc1,.slice (some ⟨gg2,0,none⟩) n2 gc2,rfl,HF.o.1,HF.o.2.1,HF.o.2.2.1,hqw,HF.o.2.2.2,.inr hm1,.inr hm2⟩
end
section
theorem RowIs.one {w:World}{G:Nat->Prop}{v:Value}{n:Nat}{xs:List Value}(h:RowIs w G v n xs):v.oneCell'=true:=by rcases h with⟨rfl,_⟩|⟨g,cap,rfl,_⟩<;>rfl
theorem KJ {css:List (List Value)}{S:List Stk}{w:World}{G:Nat->Prop}(hl:css.length=S.length)(h:∀i (h:i<S.length),∃cs,css[i]?=some cs/\RefStk w G S[i] cs):∀u∈css.flatten,u.oneCell'=true:=by
 intro u hu;obtain⟨cs,hcs,hu⟩:=List.mem_flatten.1 hu;obtain⟨q,hq,rfl⟩:=sK hcs;obtain⟨cs',k1,tv,vs,k2,k3,_⟩:=h q (by omega);rw [lZ hq] at k1;injection k1 with k1
 rw [k1,k2] at hu;simp only [List.mem_cons,List.not_mem_nil,or_false] at hu;rcases hu with rfl|rfl|rfl|rfl|rfl|rfl|rfl
 ·rfl
 ·rfl
 ·rfl
 ·rfl
 ·exact k3.one
 ·rfl
 ·rfl
theorem Kx {css:List (List Value)}{S:List Stk}{w:World}{G:Nat->Prop}(hl:css.length=S.length)(h:∀i (h:i<S.length),∃cs,css[i]?=some cs/\RefStk w G S[i] cs):css.flatten.length=S.length*7:=by
 have h7:∀c∈css,c.length=7:=fun c hc=>by
  obtain⟨q,hq,rfl⟩:=sK hc;obtain⟨cs',k1,tv,vs,k2,_⟩:=h q (by omega);rw [lZ hq] at k1;injection k1 with k1
  rw [k1,k2];rfl
 clear h;rw [<-hl];clear hl
 induction css with
 | nil=>rfl
 | cons c t ih=>
  rw [List.flatten_cons,List.length_append,h7 c (by simp),ih (fun c hc=>h7 c (by simp [hc])),List.length_cons];omega
theorem qT {G:Nat->Prop}(p:Nat)(S:List Stk)(ls:List LsV)(hS:S.length<=100)(hls:ls.length<=1000)(w:World)(h:RefAt w G p S ls) :
  Calls Tryz.prog 148 #[.pointer (some ⟨p,0,none⟩)] w fun e w'=>∃q v1 v2,∃css:List (List Value),e=.returned (.pointer (some ⟨q,0,none⟩))/\w'.heap[q]?=some (.cells #[v1,v2] 98 (0,0))/\w'.ownsRow w.heap.size 198 7 v1 S.length css.flatten/\w'.ownsRow w.heap.size 56 9 v2 ls.length (zu ls)/\css.length=S.length/\(∀i (h:i<S.length),∃cs,css[i]?=some cs/\RefStk w' G S[i] cs)/\w.heap.size<=q/\Ext w w'/\(v1=.slice none 0 0\/1<=S.length)/\(v2=.slice none 0 0\/1<=ls.length):=by
 obtain⟨stv,lsv,css,h1,h2,h3,h4,h5,h6⟩:=h;refine(Um p S.length ls.length stv lsv css.flatten (zu ls) (by omega) hls w h1 ?_ ?_).mono ?_
 ·rcases h3 with⟨rfl,hn⟩|⟨g,cap,rfl,_,_,hc,hn⟩
  ·have hcs:css=[]:=sO.1 (by omega);exact .inl ⟨rfl,hn,by rw [hcs];rfl⟩
  ·exact .inr ⟨g,cap,rfl,hn,Kx h4 h5,KJ h4 h5,hc⟩
 ·rcases h6 with⟨rfl,hn⟩|⟨g,cap,rfl,_,_,hc,hn⟩
  ·have hcs:ls=[]:=sO.1 hn;exact .inl ⟨rfl,hn,by rw [hcs];rfl⟩
  ·exact .inr ⟨g,cap,rfl,hn,qF ls,kx ls,hc⟩
 ·rintro e w' ⟨q,v1,v2,k1,k2,k3,k4,k5,k6,k7,k8⟩;exact⟨q,v1,v2,css,k1,k2,k3,k4,h4,fun i hi=>let ⟨cs,m1,m2⟩:=h5 i hi;⟨cs,m1,m2.turn (S:=fun _=>False) (lM k6) (fun _ _=>id)⟩,k5,k6,k7,k8⟩
theorem YC {G:Nat->Prop}{w w':World}{q:Nat}{v1 v2:Value}{S:List Stk}{ls:List LsV}{css:List (List Value)}(hb:w'.heap[q]?=some (.cells #[v1,v2] 98 (0,0)))(h1:w'.ownsRow w.heap.size 198 7 v1 S.length css.flatten)(h2:w'.ownsRow w.heap.size 56 9 v2 ls.length (zu ls))
  (hn1:v1=.slice none 0 0\/1<=S.length) (hn2:v2=.slice none 0 0\/1<=ls.length) (hl:css.length=S.length) (hs:∀i (h:i<S.length),∃cs,css[i]?=some cs/\RefStk w' (ZO G w w') S[i] cs) (hq:w.heap.size<=q):RefAt w' (ZO G w w') q S ls:=
 ⟨v1,v2,css,hb,.inr ⟨hq,(Array.getElem?_eq_some_iff.1 hb).1⟩,RowIs.of_owns h1 hn1 (fun _b k1 k2=>.inr ⟨k1,k2⟩),hl,hs,RowIs.of_owns h2 hn2 (fun _b k1 k2=>.inr ⟨k1,k2⟩)⟩
end
section
theorem xe {G:Nat->Prop}(p:Nat)(S:List Stk)(ls:List LsV)(kk s i kd m k n f c pp:Int)(hls:ls.length<=1000)(hcd:zP ls s i≠0)(w:World)(h:RefAt w G p S ls) :
  Calls Tryz.prog 179 #[.pointer (some ⟨p,0,none⟩),zN kk s i kd m k n f c pp] w fun e w'=>e=.returned (.tuple #[.pointer none,zr 8 0 0 (.slice none 0 0)])/\Ext w w':=by
 have HL:Hd (∀w',Ext w w'->_):=fun w' hx=>YE p S ls s i hls w' (h.ext hx)
 have HCo:Hd (∀w',_):=fun w'=>yn 8 w'
 obtain⟨stv,lsv,css,h1,h2,h3,h4,h5,h6⟩:=h;have c1:w.cell? ⟨p,1,none⟩=some lsv:=zc h1 rfl;have hp:=lG w _ c1;clear h1 h2 h3 h4 h5;unfold zr at HCo ⊢;unfold zN;cases hf:ls.findIdx? (zE s i) with
 | none=>
  rw [hf] at HL;simp only at HL;clear hf h6 hcd;go_enter func179,ntmps179;go_wp2_with fail
  have hres0:=zf2 w kk s i kd m k n f c pp;have hXW:=zf3 w kk s i kd m k n f c pp;generalize lP (lP w _) _=W at hres0 hXW ⊢;refine(HL.o W hXW).mono ?_;rintro e w1 ⟨rfl,hx1⟩;have HX1:Hd (Ext w w1):=hXW.trans hx1;have HRS:Hd _:=hx1.block hres0;have c1:=HX1.o.cell c1;clear hx1 hXW hres0;go_wp2_with fail
  refine(HCo.o _).mono ?_;rintro e w2 ⟨rfl,hx2⟩;have hr2:=hx2.block HRS.o;have o0:=zc hr2 (i:=0) rfl;have o1:=zc hr2 (i:=1) rfl;have o2:=zc hr2 (i:=2) rfl;have o3:=zc hr2 (i:=3) rfl;have f0:=ze hr2 0;have f1:=ze hr2 1;have f2:=ze hr2 2;have f3:=ze hr2 3;have HX2:Hd (Ext w w2):=HX1.o.trans hx2;clear hr2 hx2;go_wp2;refine bodyPost_ret (v:=.tuple #[.pointer none,.agg #[.int .i64 8,.int .i64 0,.int .i64 0,.slice none 0 0]]) (by simp [results,results179,go_sem,o0,o1,o2,o3]) rfl ⟨rfl,?_⟩;exact Z9 HX2.o (by omega) _ _ _ _
 | some ix=>
  rw [hf] at HL;simp only at HL;obtain⟨hix,hfi⟩:=zU hf;have hrel:ls[ix].r=true:=by unfold zP at hcd;rw [hfi] at hcd;simpa using hcd
  obtain⟨len,hlen⟩:∃len,ls.length=len:=⟨_,rfl⟩
  obtain⟨g,cap,rfl,hcap,hcell⟩:∃g cap,lsv=.slice (some ⟨g,0,none⟩) len cap/\len<=cap/\∀i u,(zu ls)[i]?=some u->w.cell? ⟨g,i,none⟩=some u:=by
   rcases h6 with⟨_,hn⟩|⟨g,cap,e,hc,_,hcell,_⟩
   ·omega
   ·exact⟨g,cap,by rw [<-hlen];exact e,by omega,hcell⟩
  obtain⟨_,_,_,_,_,_,_,_,l8⟩:=XM hcell ix hix;rw [hrel] at l8;have hgl:=lG w _ l8;have hk0:(0:Int)<=(ix:Int):=by omega
  have hk1:(ix:Int)<len:=by omega
  clear hf hfi hcd hrel h6 hcell;go_enter func179,ntmps179;go_wp2_with fail
  have hres0:=zf2 w kk s i kd m k n f c pp;have hXW:=zf3 w kk s i kd m k n f c pp;generalize lP (lP w _) _=W at hres0 hXW ⊢;refine(HL.o W hXW).mono ?_;rintro e w1 ⟨rfl,hx1⟩;have HX1:Hd (Ext w w1):=hXW.trans hx1;have HRS:Hd _:=hx1.block hres0;have c1:=HX1.o.cell c1;clear hx1 hXW hres0;have l8:=HX1.o.cell l8;go_wp2_with fail
  refine(HCo.o _).mono ?_;rintro e w2 ⟨rfl,hx2⟩;have hr2:=hx2.block HRS.o;have o0:=zc hr2 (i:=0) rfl;have o1:=zc hr2 (i:=1) rfl;have o2:=zc hr2 (i:=2) rfl;have o3:=zc hr2 (i:=3) rfl;have f0:=ze hr2 0;have f1:=ze hr2 1;have f2:=ze hr2 2;have f3:=ze hr2 3;have HX2:Hd (Ext w w2):=HX1.o.trans hx2;clear hr2 hx2;go_wp2;refine bodyPost_ret (v:=.tuple #[.pointer none,.agg #[.int .i64 8,.int .i64 0,.int .i64 0,.slice none 0 0]]) (by simp [results,results179,go_sem,o0,o1,o2,o3]) rfl ⟨rfl,?_⟩;exact Z9 HX2.o (by omega) _ _ _ _
end
section
theorem X9 {G:Nat->Prop}(p ix:Nat)(S:List Stk)(ls:List LsV)(kk s i kd m k n f c pp:Int)(hS:S.length<=100)(hls:ls.length<=1000)(hix:ix<ls.length)(hf:ls.findIdx? (zE s i)=some ix)(hrel:ls[ix].r=false)(w:World)(hGl:∀b,G b->b<w.heap.size)(h:RefAt w G p S ls) :
  Calls Tryz.prog 179 #[.pointer (some ⟨p,0,none⟩),zN kk s i kd m k n f c pp] w fun e w'=>∃q,e=.returned (.tuple #[.pointer (some ⟨q,0,none⟩),zr 0 ls[ix].f ls[ix].c (.slice none 0 0)])/\RefAt w' (ZO G w w') q S (ls.set ix ls[ix].free)/\Ext w w':=by
 have HL:Hd (∀w',Ext w w'->Calls Tryz.prog 187 #[.pointer (some ⟨p,0,none⟩),.int .i64 s,.int .i64 i] w' fun e w''=>e=.returned (.int .i64 (ix:Int))/\Ext w' w''):=fun w' hx=>by have:=YE p S ls s i hls w' (h.ext hx);rw [hf] at this;exact this
 have HCp:Hd (∀w',Ext w w'->_):=fun w' hx=>qT p S ls hS hls w' (h.ext hx)
 have HG:=hid h;obtain⟨stv,lsv,css,h1,h2,h3,h4,h5,h6⟩:=h;have c1:w.cell? ⟨p,1,none⟩=some lsv:=zc h1 rfl;have hp:=lG w _ c1;clear h1 h2 h3 h4 h5;obtain⟨len,hlen⟩:∃len,ls.length=len:=⟨_,rfl⟩
 obtain⟨g,cap,rfl,hcap,hcell⟩:∃g cap,lsv=.slice (some ⟨g,0,none⟩) len cap/\len<=cap/\∀i u,(zu ls)[i]?=some u->w.cell? ⟨g,i,none⟩=some u:=by
  rcases h6 with⟨_,hn⟩|⟨g,cap,e,hc,_,hcell,_⟩
  ·omega
  ·exact⟨g,cap,by rw [<-hlen];exact e,by omega,hcell⟩
 obtain⟨_,_,_,_,_,_,_,_,l8⟩:=XM hcell ix hix;rw [hrel] at l8;have hgl:=lG w _ l8;have hk0:(0:Int)<=(ix:Int):=by omega
 have hk1:(ix:Int)<len:=by omega
 have HLen:=hid hlen;rw [hlen] at HCp;clear hf hrel h6 hcell hlen;unfold zr;unfold zN;go_enter func179,ntmps179;go_wp2_with fail
 have hres0:=zf2 w kk s i kd m k n f c pp;have hXW:=zf3 w kk s i kd m k n f c pp;generalize lP (lP w _) _=W at hres0 hXW ⊢;refine(HL.o W hXW).mono ?_;rintro e w1 ⟨rfl,hx1⟩;have HX1:Hd (Ext w w1):=hXW.trans hx1;have HRS:Hd _:=hx1.block hres0;have c1:=HX1.o.cell c1;have l8:=HX1.o.cell l8;clear hx1 hXW hres0;go_wp2_with fail
 refine(HCp.o _ HX1.o).mono ?_;rintro e w2 ⟨q,v1,v2,css,rfl,q1,q2,q3,q4,q5,q6,hx2,q7,q8⟩;obtain⟨g2,cap2,rfl,hg2w,hcap2,_⟩:∃g cap,v2=.slice (some ⟨g,0,none⟩) len cap/\w1.heap.size<=g/\len<=cap/\cap<=maxLen:=by
  rcases zw q3 with⟨_,hn,_⟩|h
  ·omega
  ·exact h
 have HRS2:Hd _:=hx2.block HRS.o;have HX2:Hd (Ext w w2):=HX1.o.trans hx2;have y1:w2.cell? ⟨q,1,none⟩=some (.slice (some ⟨g2,0,none⟩) len cap2):=zc q1 rfl;obtain⟨b0,b1,b2,b3,b4,b5,b6,b7,b8⟩:=XM (fun i u hu=>zk q3 hu) ix hix;have f8:w2.frozen? ⟨g2,ix*9+8,none⟩=false:=by obtain⟨cur,hc⟩:=zf q3 (g:=g2) rfl;exact ze hc _
 have hg2l:=lG w2 _ b8;have hql:=lG w2 _ y1;have hqg:q≠g2:=by obtain⟨cur,hc⟩:=zf q3 (g:=g2) rfl;exact fun e=>zh q1 hc (by decide) e
 have HQ:Hd _:=And.intro q1 (And.intro q2 (And.intro q3 (And.intro q4 (And.intro q5 (And.intro q6 (And.intro hx2 q7))))));clear q1 q2 q3 q4 q5 q6 hx2 l8 c1 q7 q8;obtain⟨lf,hlf⟩:∃lf,ls[ix].f=lf:=⟨_,rfl⟩
 obtain⟨lc,hlc⟩:∃lc,ls[ix].c=lc:=⟨_,rfl⟩
 have HLF:Hd (ls[ix].f=lf/\ls[ix].c=lc):=⟨hlf,hlc⟩
 rw [hlf] at b6;rw [hlc] at b7;clear hlf hlc;have o0:w2.cell? ⟨w.heap.size+1,0,none⟩=some (.int .i64 0):=zc HRS2.o rfl;have o1:w2.cell? ⟨w.heap.size+1,1,none⟩=some (.int .i64 0):=zc HRS2.o rfl;have o2:w2.cell? ⟨w.heap.size+1,2,none⟩=some (.int .i64 0):=zc HRS2.o rfl;have o3:w2.cell? ⟨w.heap.size+1,3,none⟩=some (.slice none 0 0):=zc HRS2.o rfl;have t0:=ze HRS2.o 0;have t1:=ze HRS2.o 1;have t2:=ze HRS2.o 2;have t3:=ze HRS2.o 3;have hrl:=lG w2 _ o0;have hx1l:=HX1.o.le;have hwg:w.heap.size+1≠g2:=by obtain⟨cur,hc⟩:=zf HQ.o.2.2.1 (g:=g2) rfl;exact zh HRS2.o hc (by decide)
 generalize ls[ix].s=e0 at *;generalize ls[ix].i=e1 at *;generalize ls[ix].kd=e2 at *;generalize ls[ix].m=e3 at *;generalize ls[ix].k=e4 at *;generalize ls[ix].n=e5 at *;generalize ls[ix].r=e8 at *;go_wp2_with fail
 have hZr:((w2.setCell ⟨g2,ix*9+8,none⟩ (.bool true)).alloc (.cells #[.int .i64 e0,.int .i64 e1,.int .i64 e2,.int .i64 e3,.int .i64 e4,.int .i64 e5,.int .i64 lf,.int .i64 lc,.bool true] 56)).heap[w.heap.size+1]?=some (.cells #[.int .i64 0,.int .i64 0,.int .i64 0,.slice none 0 0] 33 (0,0)):=zC ((Below.heap_setCell _ _ _ _ (by show w.heap.size+1≠g2;exact hwg)).trans HRS2.o);have hZl:((w2.setCell ⟨g2,ix*9+8,none⟩ (.bool true)).alloc (.cells #[.int .i64 e0,.int .i64 e1,.int .i64 e2,.int .i64 e3,.int .i64 e4,.int .i64 e5,.int .i64 lf,.int .i64 lc,.bool true] 56)).heap[w2.heap.size]?=some (.cells #[.int .i64 e0,.int .i64 e1,.int .i64 e2,.int .i64 e3,.int .i64 e4,.int .i64 e5,.int .i64 lf,.int .i64 lc,.bool true] 56 (0,0)):=zm (by simp [rC]);have hZt:Turn (fun b=>b=g2) w2 ((w2.setCell ⟨g2,ix*9+8,none⟩ (.bool true)).alloc (.cells #[.int .i64 e0,.int .i64 e1,.int .i64 e2,.int .i64 e3,.int .i64 e4,.int .i64 e5,.int .i64 lf,.int .i64 lc,.bool true] 56)):=Turn.alloc (Turn.setCell (S:=fun b=>b=g2) (p:=⟨g2,ix*9+8,none⟩) (Turn.refl _ w2) (fun _=>rfl) _) _;have hZo:((w2.setCell ⟨g2,ix*9+8,none⟩ (.bool true)).alloc (.cells #[.int .i64 e0,.int .i64 e1,.int .i64 e2,.int .i64 e3,.int .i64 e4,.int .i64 e5,.int .i64 lf,.int .i64 lc,.bool true] 56)).ownsRow w1.heap.size 56 9 (.slice (some ⟨g2,0,none⟩) len cap2) len (zu (ls.set ix ls[ix].free)):=by rw [QD ls ix hix];exact lR.alloc (zI HQ.o.2.2.1 _ _) _
 generalize lP (rC w2 _ _) _=Z at hZr hZl hZt hZo ⊢;have z6:Z.cell? ⟨w2.heap.size,6,none⟩=some (.int .i64 lf):=zc hZl rfl;have z7:Z.cell? ⟨w2.heap.size,7,none⟩=some (.int .i64 lc):=zc hZl rfl;have o0:Z.cell? ⟨w.heap.size+1,0,none⟩=some (.int .i64 0):=zc hZr rfl;have o1:Z.cell? ⟨w.heap.size+1,1,none⟩=some (.int .i64 0):=zc hZr rfl;have o2:Z.cell? ⟨w.heap.size+1,2,none⟩=some (.int .i64 0):=zc hZr rfl;have o3:Z.cell? ⟨w.heap.size+1,3,none⟩=some (.slice none 0 0):=zc hZr rfl;have t0:=ze hZr 0;have t1:=ze hZr 1;have t2:=ze hZr 2;have t3:=ze hZr 3;have hne:w.heap.size+1≠w2.heap.size:=by omega
 have HZ:Hd _:=And.intro hZt hZo;have HZR:Hd _:=hZr;clear hZt hZo hZr hZl b0 b1 b2 b3 b4 b5 b6 b7 b8 f8 y1
 go_region
 all_goals go_wp2
 all_goals refine bodyPost_ret (v:=.tuple #[.pointer (some ⟨q,0,none⟩),.agg #[.int .i64 0,.int .i64 lf,.int .i64 lc,.slice none 0 0]]) (by simp [results,results179,go_sem,o0,o1,o2,o3]) rfl ⟨q,by rw [HLF.o.1,HLF.o.2],?_⟩
 all_goals
  have hTY:=set4 (g:=w.heap.size+1) (lI Z) (.int .i64 0) (.int .i64 lf) (.int .i64 lc) (.slice none 0 0);obtain⟨q1,q2,q3,q4,q5,q6,hx2,q7⟩:=HQ.o;have hT:Turn (fun b=>b=g2\/b=w.heap.size+1) w2 _:=(HZ.o.1.mono (fun b _ e=>.inl e)).trans (hTY.mono (fun b _ e=>.inr e));have hlt:w.heap.size<=w1.heap.size:=hx1l;obtain⟨cur,hcur⟩:=zf q3 (g:=g2) rfl;refine⟨YC (css:=css) (hT.ref q1 ?_) (zv (hT.owns q2 ?_) hlt) (zv (hTY.owns ?_ ?_) hlt) q7 (.inr (by rw [rK];omega)) q4 (fun i' hi'=>?_) (by omega),?_⟩
  ·rintro (e|e)
   ·exact hqg e
   ·exact zh q1 HRS2.o (by decide) e
  ·intro b hb hor;obtain⟨cur',hc'⟩:=zf q2 hb;rcases hor with e|e
   ·exact zh hc' hcur (by decide) e
   ·exact zh hc' HRS2.o (by decide) e
  ·rw [rK,HLen.o];exact HZ.o.2
  ·intro b hb e;simp [lH] at hb;omega
  ·obtain⟨cs,m1,m2⟩:=q5 i' hi';refine⟨cs,m1,(m2.turn hT (fun b hb hor=>?_)).mono (fun b hb=>.inl hb)⟩;have:=hGl b hb;omega
  ·exact Turn.ext ((lM (S:=fun _=>False) HX2.o).trans' hT (fun b hb hor=>by omega))
end
section
theorem RowIs.slice {w:World}{G:Nat->Prop}{v:Value}{n:Nat}{xs:List Value}(h:RowIs w G v n xs):∃a cap,v=.slice a n cap:=by
 rcases h with⟨rfl,rfl⟩|⟨g,cap,rfl,_⟩
 ·exact⟨none,0,rfl⟩
 ·exact⟨_,_,rfl⟩
theorem xc {G:Nat->Prop}(p ix:Nat)(S:List Stk)(ls:List LsV)(kk s i kd m k n f c pp:Int)(hls:ls.length<=1000)(hix:ix<ls.length)(hf:ls.findIdx? (zE s i)=some ix)(w:World)(h:RefAt w G p S ls) :
  Calls Tryz.prog 177 #[.pointer (some ⟨p,0,none⟩),zN kk s i kd m k n f c pp] w fun e w'=>e=.returned (.tuple #[.pointer none,if Z6 ls[ix] kd m k n c then zr 0 ls[ix].f ls[ix].c (.slice none 0 0) else zr 6 0 0 (.slice none 0 0)])/\Ext w w':=by
 have HL:Hd (∀w',Ext w w'->Calls Tryz.prog 187 #[.pointer (some ⟨p,0,none⟩),.int .i64 s,.int .i64 i] w' fun e w''=>e=.returned (.int .i64 (ix:Int))/\Ext w' w''):=fun w' hx=>by have:=YE p S ls s i hls w' (h.ext hx);rw [hf] at this;exact this
 have HCo:Hd (∀w',_):=fun w'=>yn 6 w'
 obtain⟨stv,lsv,css,h1,h2,h3,h4,h5,h6⟩:=h;have c1:w.cell? ⟨p,1,none⟩=some lsv:=zc h1 rfl;have hp:=lG w _ c1;clear h1 h2 h3 h4 h5;obtain⟨len,hlen⟩:∃len,ls.length=len:=⟨_,rfl⟩
 obtain⟨g,cap,rfl,hcap,hcell⟩:∃g cap,lsv=.slice (some ⟨g,0,none⟩) len cap/\len<=cap/\∀i u,(zu ls)[i]?=some u->w.cell? ⟨g,i,none⟩=some u:=by
  rcases h6 with⟨_,hn⟩|⟨g,cap,e,hc,_,hcell,_⟩
  ·omega
  ·exact⟨g,cap,by rw [<-hlen];exact e,by omega,hcell⟩
 obtain⟨l0,l1,l2,l3,l4,l5,l6,l7,l8⟩:=XM hcell ix hix;have hgl:=lG w _ l8;have hk0:(0:Int)<=(ix:Int):=by omega
 have hk1:(ix:Int)<len:=by omega
 have heq:=fun (a b c e a' b' c' e':Int) (w:World)=>Ya 9998 a b c e a' b' c' e' w
 clear hf h6 hcell hlen;unfold zr at HCo ⊢;unfold zN;have HB:Hd (Z6 ls[ix] kd m k n c=((ls[ix].kd == kd && (ls[ix].m == m && (ls[ix].k == k && ls[ix].n == n))) && ls[ix].c == c)):=rfl;generalize hbc:Z6 ls[ix] kd m k n c=bc at *;clear hbc;generalize ls[ix]=l at *;obtain⟨ls0,ls1,lkd,lm,lk,ln,lf,lc,lr⟩:=l;simp only at *;by_cases hb1:(lkd == kd && (lm == m && (lk == k && ln == n)))=true
 ·by_cases hc:lc=c
  ·have hbt:bc=true:=by rw [HB.o,hb1,hc];simp
   subst hbt;subst hc;rw [if_pos rfl];clear HB HCo;go_enter func177,ntmps177;go_wp2_with fail
   have hres0:((w.alloc (.cells #[.int .i64 kk,.int .i64 s,.int .i64 i,.int .i64 kd,.int .i64 m,.int .i64 k,.int .i64 n,.int .i64 f,.int .i64 lc,.int .i64 pp] 51)).alloc (.cells #[.int .i64 0,.int .i64 0,.int .i64 0,.slice none 0 0] 33)).heap[w.heap.size+1]?=some (.cells #[.int .i64 0,.int .i64 0,.int .i64 0,.slice none 0 0] 33 (0,0)):=zm (by simp);have hreq0:((w.alloc (.cells #[.int .i64 kk,.int .i64 s,.int .i64 i,.int .i64 kd,.int .i64 m,.int .i64 k,.int .i64 n,.int .i64 f,.int .i64 lc,.int .i64 pp] 51)).alloc (.cells #[.int .i64 0,.int .i64 0,.int .i64 0,.slice none 0 0] 33)).heap[w.heap.size]?=some (.cells #[.int .i64 kk,.int .i64 s,.int .i64 i,.int .i64 kd,.int .i64 m,.int .i64 k,.int .i64 n,.int .i64 f,.int .i64 lc,.int .i64 pp] 51 (0,0)):=zC (heap_alloc_new _ _);have hXW:Ext w ((w.alloc (.cells #[.int .i64 kk,.int .i64 s,.int .i64 i,.int .i64 kd,.int .i64 m,.int .i64 k,.int .i64 n,.int .i64 f,.int .i64 lc,.int .i64 pp] 51)).alloc (.cells #[.int .i64 0,.int .i64 0,.int .i64 0,.slice none 0 0] 33)):=((lI w).alloc _).alloc _;generalize lP (lP w _) _=W at hres0 hreq0 hXW ⊢;refine(HL.o W hXW).mono ?_;rintro e w1 ⟨rfl,hx1⟩;have HX1:Hd (Ext w w1):=hXW.trans hx1;have HRS:Hd _:=hx1.block hres0;have HRQ:Hd _:=hx1.block hreq0;clear hx1 hXW hres0 hreq0;have r1:w1.cell? ⟨w.heap.size,1,none⟩=some (.int .i64 s):=zc HRQ.o rfl;have r2:w1.cell? ⟨w.heap.size,2,none⟩=some (.int .i64 i):=zc HRQ.o rfl;have r3:w1.cell? ⟨w.heap.size,3,none⟩=some (.int .i64 kd):=zc HRQ.o rfl;have r4:w1.cell? ⟨w.heap.size,4,none⟩=some (.int .i64 m):=zc HRQ.o rfl;have r5:w1.cell? ⟨w.heap.size,5,none⟩=some (.int .i64 k):=zc HRQ.o rfl;have r6:w1.cell? ⟨w.heap.size,6,none⟩=some (.int .i64 n):=zc HRQ.o rfl;have r8:w1.cell? ⟨w.heap.size,8,none⟩=some (.int .i64 lc):=zc HRQ.o rfl;have c1:=HX1.o.cell c1;have l0:=HX1.o.cell l0;have l1:=HX1.o.cell l1;have l2:=HX1.o.cell l2;have l3:=HX1.o.cell l3;have l4:=HX1.o.cell l4;have l5:=HX1.o.cell l5;have l6:=HX1.o.cell l6;have l7:=HX1.o.cell l7
   have l8:=HX1.o.cell l8;have hl1:=HX1.o.le;have hrl:=lG w1 _ r1;go_wp2_with fail
   have hZr:(w1.alloc (.cells #[.int .i64 ls0,.int .i64 ls1,.int .i64 lkd,.int .i64 lm,.int .i64 lk,.int .i64 ln,.int .i64 lf,.int .i64 lc,.bool lr] 56)).heap[w.heap.size+1]?=some (.cells #[.int .i64 0,.int .i64 0,.int .i64 0,.slice none 0 0] 33 (0,0)):=zC HRS.o;have hZl:(w1.alloc (.cells #[.int .i64 ls0,.int .i64 ls1,.int .i64 lkd,.int .i64 lm,.int .i64 lk,.int .i64 ln,.int .i64 lf,.int .i64 lc,.bool lr] 56)).heap[w1.heap.size]?=some (.cells #[.int .i64 ls0,.int .i64 ls1,.int .i64 lkd,.int .i64 lm,.int .i64 lk,.int .i64 ln,.int .i64 lf,.int .i64 lc,.bool lr] 56 (0,0)):=heap_alloc_new _ _;have HXC:Hd (Ext w (w1.alloc (.cells #[.int .i64 ls0,.int .i64 ls1,.int .i64 lkd,.int .i64 lm,.int .i64 lk,.int .i64 ln,.int .i64 lf,.int .i64 lc,.bool lr] 56))):=HX1.o.alloc _;generalize lP w1 _=Z at hZr hZl HXC ⊢;have z6:Z.cell? ⟨w1.heap.size,6,none⟩=some (.int .i64 lf):=zc hZl rfl;have z7:Z.cell? ⟨w1.heap.size,7,none⟩=some (.int .i64 lc):=zc hZl rfl;have o0:Z.cell? ⟨w.heap.size+1,0,none⟩=some (.int .i64 0):=zc hZr rfl;have o1:Z.cell? ⟨w.heap.size+1,1,none⟩=some (.int .i64 0):=zc hZr rfl;have o2:Z.cell? ⟨w.heap.size+1,2,none⟩=some (.int .i64 0):=zc hZr rfl;have o3:Z.cell? ⟨w.heap.size+1,3,none⟩=some (.slice none 0 0):=zc hZr rfl;have t0:=ze hZr 0;have t1:=ze hZr 1;have t2:=ze hZr 2;have t3:=ze hZr 3;have hne:w.heap.size+1≠w1.heap.size:=by have:=(Array.getElem?_eq_some_iff.1 HRS.o).1;omega
   clear hZr hZl l0 l1 l2 l3 l4 l5 l6 l7 l8 c1 r1 r2 r3 r4 r5 r6 r8
   go_region
   all_goals go_wp2
   all_goals refine bodyPost_ret (v:=.tuple #[.pointer none,.agg #[.int .i64 0,.int .i64 lf,.int .i64 lc,.slice none 0 0]]) (by simp [results,results177,go_sem,o0,o1,o2,o3]) rfl ⟨rfl,?_⟩
   all_goals first|exact lJ (Z9 HXC.o (by omega) _ _ _ _)|exact Z9 HXC.o (by omega) _ _ _ _
  ·have hbt:bc=false:=by rw [HB.o,hb1];simpa using hc
   subst hbt;rw [if_neg (by simp)];clear HB;go_enter func177,ntmps177;go_wp2_with fail
   have hres0:=zf2 w kk s i kd m k n f c pp;have hreq0:=zf4 w kk s i kd m k n f c pp;have hXW:=zf3 w kk s i kd m k n f c pp;generalize lP (lP w _) _=W at hres0 hreq0 hXW ⊢;refine(HL.o W hXW).mono ?_;rintro e w1 ⟨rfl,hx1⟩;have HX1:Hd (Ext w w1):=hXW.trans hx1;have HRS:Hd _:=hx1.block hres0;have HRQ:Hd _:=hx1.block hreq0;clear hx1 hXW hres0 hreq0;have r1:w1.cell? ⟨w.heap.size,1,none⟩=some (.int .i64 s):=zc HRQ.o rfl;have r2:w1.cell? ⟨w.heap.size,2,none⟩=some (.int .i64 i):=zc HRQ.o rfl;have r3:w1.cell? ⟨w.heap.size,3,none⟩=some (.int .i64 kd):=zc HRQ.o rfl;have r4:w1.cell? ⟨w.heap.size,4,none⟩=some (.int .i64 m):=zc HRQ.o rfl;have r5:w1.cell? ⟨w.heap.size,5,none⟩=some (.int .i64 k):=zc HRQ.o rfl;have r6:w1.cell? ⟨w.heap.size,6,none⟩=some (.int .i64 n):=zc HRQ.o rfl;have r8:w1.cell? ⟨w.heap.size,8,none⟩=some (.int .i64 c):=zc HRQ.o rfl;have c1:=HX1.o.cell c1;have l0:=HX1.o.cell l0;have l1:=HX1.o.cell l1;have l2:=HX1.o.cell l2;have l3:=HX1.o.cell l3;have l4:=HX1.o.cell l4;have l5:=HX1.o.cell l5;have l6:=HX1.o.cell l6;have l7:=HX1.o.cell l7;have l8:=HX1.o.cell l8;have hl1:=HX1.o.le;have hrl:=lG w1 _ r1;go_wp2_with fail
   have HRC:Hd _:=zC (o:=.cells #[.int .i64 ls0,.int .i64 ls1,.int .i64 lkd,.int .i64 lm,.int .i64 lk,.int .i64 ln,.int .i64 lf,.int .i64 lc,.bool lr] 56) HRS.o;have HXC:Hd (Ext w (w1.alloc (.cells #[.int .i64 ls0,.int .i64 ls1,.int .i64 lkd,.int .i64 lm,.int .i64 lk,.int .i64 ln,.int .i64 lf,.int .i64 lc,.bool lr] 56))):=HX1.o.alloc _;refine(HCo.o _).mono ?_;rintro e w9 ⟨rfl,hx9⟩;have hr9:=hx9.block HRC.o;have o0:=zc hr9 (i:=0) rfl;have o1:=zc hr9 (i:=1) rfl;have o2:=zc hr9 (i:=2) rfl;have o3:=zc hr9 (i:=3) rfl;have f0:=ze hr9 0;have f1:=ze hr9 1;have f2:=ze hr9 2;have f3:=ze hr9 3;have HX9:Hd (Ext w w9):=HXC.o.trans hx9;clear hr9 hx9;go_wp2;refine bodyPost_ret (v:=.tuple #[.pointer none,.agg #[.int .i64 6,.int .i64 0,.int .i64 0,.slice none 0 0]]) (by simp [results,results177,go_sem,o0,o1,o2,o3]) rfl ⟨rfl,?_⟩;exact Z9 HX9.o (by omega) _ _ _ _
 ·have hb2:(lkd == kd && (lm == m && (lk == k && ln == n)))=false:=by simpa using hb1
  have hbt:bc=false:=by rw [HB.o,hb2];rfl
  subst hbt;rw [if_neg (by simp)];clear HB hb1;go_enter func177,ntmps177;go_wp2_with fail
  have hres0:=zf2 w kk s i kd m k n f c pp;have hreq0:=zf4 w kk s i kd m k n f c pp;have hXW:=zf3 w kk s i kd m k n f c pp;generalize lP (lP w _) _=W at hres0 hreq0 hXW ⊢;refine(HL.o W hXW).mono ?_;rintro e w1 ⟨rfl,hx1⟩;have HX1:Hd (Ext w w1):=hXW.trans hx1;have HRS:Hd _:=hx1.block hres0;have HRQ:Hd _:=hx1.block hreq0;clear hx1 hXW hres0 hreq0;have r1:w1.cell? ⟨w.heap.size,1,none⟩=some (.int .i64 s):=zc HRQ.o rfl;have r2:w1.cell? ⟨w.heap.size,2,none⟩=some (.int .i64 i):=zc HRQ.o rfl;have r3:w1.cell? ⟨w.heap.size,3,none⟩=some (.int .i64 kd):=zc HRQ.o rfl;have r4:w1.cell? ⟨w.heap.size,4,none⟩=some (.int .i64 m):=zc HRQ.o rfl;have r5:w1.cell? ⟨w.heap.size,5,none⟩=some (.int .i64 k):=zc HRQ.o rfl;have r6:w1.cell? ⟨w.heap.size,6,none⟩=some (.int .i64 n):=zc HRQ.o rfl;have r8:w1.cell? ⟨w.heap.size,8,none⟩=some (.int .i64 c):=zc HRQ.o rfl;have c1:=HX1.o.cell c1;have l0:=HX1.o.cell l0;have l1:=HX1.o.cell l1;have l2:=HX1.o.cell l2;have l3:=HX1.o.cell l3;have l4:=HX1.o.cell l4;have l5:=HX1.o.cell l5;have l6:=HX1.o.cell l6;have l7:=HX1.o.cell l7;have l8:=HX1.o.cell l8;have hl1:=HX1.o.le;have hrl:=lG w1 _ r1;go_wp2_with fail
  have HRC:Hd _:=zC (o:=.cells #[.int .i64 ls0,.int .i64 ls1,.int .i64 lkd,.int .i64 lm,.int .i64 lk,.int .i64 ln,.int .i64 lf,.int .i64 lc,.bool lr] 56) HRS.o;have HXC:Hd (Ext w (w1.alloc (.cells #[.int .i64 ls0,.int .i64 ls1,.int .i64 lkd,.int .i64 lm,.int .i64 lk,.int .i64 ln,.int .i64 lf,.int .i64 lc,.bool lr] 56))):=HX1.o.alloc _;refine(HCo.o _).mono ?_;rintro e w9 ⟨rfl,hx9⟩;have hr9:=hx9.block HRC.o;have o0:=zc hr9 (i:=0) rfl;have o1:=zc hr9 (i:=1) rfl;have o2:=zc hr9 (i:=2) rfl;have o3:=zc hr9 (i:=3) rfl;have f0:=ze hr9 0;have f1:=ze hr9 1;have f2:=ze hr9 2;have f3:=ze hr9 3;have HX9:Hd (Ext w w9):=HXC.o.trans hx9;clear hr9 hx9;go_wp2;refine bodyPost_ret (v:=.tuple #[.pointer none,.agg #[.int .i64 6,.int .i64 0,.int .i64 0,.slice none 0 0]]) (by simp [results,results177,go_sem,o0,o1,o2,o3]) rfl ⟨rfl,?_⟩;exact Z9 HX9.o (by omega) _ _ _ _
end
section
theorem Yw {w:World}{G:Nat->Prop}{S:List Stk}{stv:Value}{css:List (List Value)}(h3:RowIs w G stv S.length css.flatten)(h4:css.length=S.length)(h5:∀i (h:i<S.length),∃cs,css[i]?=some cs/\RefStk w G S[i] cs)(j:Nat)(hj:j<S.length) :
  ∃g cap ta tcap vs,stv=.slice (some ⟨g,0,none⟩) S.length cap/\S.length<=cap/\G g/\
   (w.cell? ⟨g,j*7,none⟩=some (.int .i64 S[j].kd)/\w.cell? ⟨g,j*7+1,none⟩=some (.int .i64 S[j].m)/\w.cell? ⟨g,j*7+2,none⟩=some (.int .i64 S[j].k)/\w.cell? ⟨g,j*7+3,none⟩=some (.int .i64 S[j].n)/\w.cell? ⟨g,j*7+4,none⟩=some (.slice ta S[j].ts.length tcap)/\w.cell? ⟨g,j*7+5,none⟩=some (.int .i64 S[j].leased)/\w.cell? ⟨g,j*7+6,none⟩=some (.int .i64 S[j].gone))/\
   RowIs w G (.slice ta S[j].ts.length tcap) S[j].ts.length vs/\vs.length=S[j].ts.length/\∀i (h:i<S[j].ts.length),∃v,vs[i]?=some v/\DrawsIs w G S[j].each v S[j].ts[i].1:=by
 rcases h3 with⟨_,hn⟩|⟨g,cap,e,hc,hg,hcell,_⟩
 ·omega
 ·obtain⟨cs,hcs,tv,vs,rfl,k1,k2,k3⟩:=h5 j hj;obtain⟨ta,tcap,rfl⟩:=k1.slice;have key:∀i v,i<7->[Value.int .i64 (S[j].kd:Int),.int .i64 S[j].m,.int .i64 S[j].k,.int .i64 S[j].n,.slice ta S[j].ts.length tcap,.int .i64 S[j].leased,.int .i64 S[j].gone][i]?=some v->w.cell? ⟨g,j*7+i,none⟩=some v:=fun i v hi hv=>hcell _ _ ((y9 h4 h5 j hj i hi hcs).trans hv)
  exact⟨g,cap,ta,tcap,vs,e,hc,hg,⟨key 0 _ (by omega) rfl,key 1 _ (by omega) rfl,key 2 _ (by omega) rfl,key 3 _ (by omega) rfl,key 4 _ (by omega) rfl,key 5 _ (by omega) rfl,key 6 _ (by omega) rfl⟩,k1,k2,k3⟩
theorem Jt {α:Type}{p:α->Bool}{l:List α}(h:l.findIdx? p=none):l.find? p=none:=by rw [List.find?_eq_none];intro x hx;have:=List.findIdx?_eq_none_iff.1 h x hx;simp [this]
def zV (S:List Stk)(ls:List LsV)(kd m k n c:Int):Int:=match S.find? (fun x=>x.is kd m k n) with
 | none=>2
 | some x=>if c<1\/40<c then 5 else if (x.ts.length:Int) - x.leased<c then 7 else if 30<=ls.length then 4 else 0
theorem YV (R:List StkR)(ls:List LsV)(kd m k n c:Int):ZH R ls kd m k n c=zV (R.map StkR.abs) ls kd m k n c:=by
 unfold ZH zV;rw [List.find?_map];show (match R.find? (fun x=>x.is kd m k n) with|none=>_|some x=>_)=(match Option.map StkR.abs (R.find? fun x=>x.is kd m k n) with|none=>_|some x=>_)
 cases R.find? (fun x=>x.is kd m k n)<;>rfl
theorem XI {G:Nat->Prop}(p:Nat)(S:List Stk)(ls:List LsV)(kk s i kd m k n f c pp:Int)(hS:S.length<=100)(hSm:∀x∈S,x.ts.length<=1000/\x.leased<=1000)(hls:ls.length<=1000)(hf:ls.findIdx? (zE s i)=none)(hcd:zV S ls kd m k n c≠0)(w:World)(h:RefAt w G p S ls) :
  Calls Tryz.prog 177 #[.pointer (some ⟨p,0,none⟩),zN kk s i kd m k n f c pp] w fun e w'=>e=.returned (.tuple #[.pointer none,zr (zV S ls kd m k n c) 0 0 (.slice none 0 0)])/\Ext w w':=by
 have HL:Hd (∀w',Ext w w'->Calls Tryz.prog 187 #[.pointer (some ⟨p,0,none⟩),.int .i64 s,.int .i64 i] w' fun e w''=>e=.returned (.int .i64 (-1))/\Ext w' w''):=fun w' hx=>by have:=YE p S ls s i hls w' (h.ext hx);rw [hf] at this;exact this
 have HFi:Hd (∀w',Ext w w'->_):=fun w' hx=>yB p S ls kd m k n hS w' (h.ext hx)
 have HCo:Hd (∀w',_):=fun w'=>yn (zV S ls kd m k n c) w'
 obtain⟨stv,lsv,css,h1,h2,h3,h4,h5,h6⟩:=h;have c0:w.cell? ⟨p,0,none⟩=some stv:=zc h1 rfl;have c1:w.cell? ⟨p,1,none⟩=some lsv:=zc h1 rfl;obtain⟨la,lcap,rfl⟩:=h6.slice;have hp:=lG w _ c1;clear h1 h2 hf;unfold zr at HCo ⊢;unfold zN;unfold zJ at HFi;cases hfx:S.findIdx? (fun x=>x.is kd m k n) with
 | none=>
  have hlc:zV S ls kd m k n c=2:=by unfold zV;rw [Jt hfx]
  rw [hlc] at HCo ⊢;rw [hfx] at HFi;simp only at HFi;clear hcd hlc hfx h3 h4 h5 h6;go_enter func177,ntmps177;go_wp2_with fail
  have hres0:=zf2 w kk s i kd m k n f c pp;have hreq0:=zf4 w kk s i kd m k n f c pp;have hXW:=zf3 w kk s i kd m k n f c pp;generalize lP (lP w _) _=W at hres0 hreq0 hXW ⊢;refine(HL.o W hXW).mono ?_;rintro e w1 ⟨rfl,hx1⟩;have HX1:Hd (Ext w w1):=hXW.trans hx1;have HRS:Hd _:=hx1.block hres0;have HRQ:Hd _:=hx1.block hreq0;clear hx1 hXW hres0 hreq0;have r1:w1.cell? ⟨w.heap.size,1,none⟩=some (.int .i64 s):=zc HRQ.o rfl;have r2:w1.cell? ⟨w.heap.size,2,none⟩=some (.int .i64 i):=zc HRQ.o rfl;have r3:w1.cell? ⟨w.heap.size,3,none⟩=some (.int .i64 kd):=zc HRQ.o rfl;have r4:w1.cell? ⟨w.heap.size,4,none⟩=some (.int .i64 m):=zc HRQ.o rfl;have r5:w1.cell? ⟨w.heap.size,5,none⟩=some (.int .i64 k):=zc HRQ.o rfl;have r6:w1.cell? ⟨w.heap.size,6,none⟩=some (.int .i64 n):=zc HRQ.o rfl;have r8:w1.cell? ⟨w.heap.size,8,none⟩=some (.int .i64 c):=zc HRQ.o rfl;have c0:=HX1.o.cell c0;have c1:=HX1.o.cell c1;have hrl:=lG w1 _ r1;go_wp2_with fail
  refine(HFi.o _ HX1.o).mono ?_;rintro e w2 ⟨rfl,hx2⟩;have HRC:Hd _:=hx2.block HRS.o;have HXC:Hd (Ext w w2):=HX1.o.trans hx2;clear hx2;go_wp2_with fail
  refine(HCo.o _).mono ?_;rintro e w9 ⟨rfl,hx9⟩;have hr9:=hx9.block HRC.o;have o0:=zc hr9 (i:=0) rfl;have o1:=zc hr9 (i:=1) rfl;have o2:=zc hr9 (i:=2) rfl;have o3:=zc hr9 (i:=3) rfl;have f0:=ze hr9 0;have f1:=ze hr9 1;have f2:=ze hr9 2;have f3:=ze hr9 3;have HX9:Hd (Ext w w9):=HXC.o.trans hx9;clear hr9 hx9;go_wp2;refine bodyPost_ret (v:=.tuple #[.pointer none,.agg #[.int .i64 2,.int .i64 0,.int .i64 0,.slice none 0 0]]) (by simp [results,results177,go_sem,o0,o1,o2,o3]) rfl ⟨rfl,?_⟩;exact Z9 HX9.o (by omega) _ _ _ _
 | some ix=>
  obtain⟨hix,hfi⟩:=zU hfx;have hlc:zV S ls kd m k n c=if c<1\/40<c then 5 else if (S[ix].ts.length:Int) - S[ix].leased<c then 7 else if 30<=ls.length then 4 else 0:=by unfold zV;rw [hfi]
  rw [hlc] at HCo hcd ⊢;rw [hfx] at HFi;simp only at HFi;obtain⟨g,cap,ta,tcap,vs,rfl,hcap,_,⟨s0,s1,s2,s3,s4,s5,s6⟩,q1,q2,q3⟩:=Yw h3 h4 h5 ix hix;clear q1 q2 q3;obtain⟨hm1,hm2⟩:=hSm S[ix] (List.getElem_mem hix);have hgl:=lG w _ s0;obtain⟨len,hlen⟩:∃len,S.length=len:=⟨_,rfl⟩
  obtain⟨len2,hlen2⟩:∃len,ls.length=len:=⟨_,rfl⟩
  rw [hlen] at c0 hcap hix hS;rw [hlen2] at c1 HCo hcd hls ⊢;have hk0:(0:Int)<=(ix:Int):=by omega
  have hk1:(ix:Int)<len:=by omega
  clear hlc hfx h3 h4 h5 h6 hlen hlen2 hfi hSm;generalize S[ix].gone=sg at *;generalize S[ix].ts.length=tn at *;generalize S[ix].leased=sl at *;generalize (S[ix].kd:Int)=x0 at *;generalize (S[ix].m:Int)=x1 at *;generalize (S[ix].k:Int)=x2 at *;generalize (S[ix].n:Int)=x3 at *;by_cases hcc:c<1\/40<c
  ·rw [if_pos hcc] at HCo hcd ⊢;go_enter func177,ntmps177;go_wp2_with fail
   have hres0:=zf2 w kk s i kd m k n f c pp;have hreq0:=zf4 w kk s i kd m k n f c pp;have hXW:=zf3 w kk s i kd m k n f c pp;generalize lP (lP w _) _=W at hres0 hreq0 hXW ⊢;refine(HL.o W hXW).mono ?_;rintro e w1 ⟨rfl,hx1⟩;have HX1:Hd (Ext w w1):=hXW.trans hx1;have HRS:Hd _:=hx1.block hres0;have HRQ:Hd _:=hx1.block hreq0;clear hx1 hXW hres0 hreq0;have r1:w1.cell? ⟨w.heap.size,1,none⟩=some (.int .i64 s):=zc HRQ.o rfl;have r2:w1.cell? ⟨w.heap.size,2,none⟩=some (.int .i64 i):=zc HRQ.o rfl;have r3:w1.cell? ⟨w.heap.size,3,none⟩=some (.int .i64 kd):=zc HRQ.o rfl;have r4:w1.cell? ⟨w.heap.size,4,none⟩=some (.int .i64 m):=zc HRQ.o rfl;have r5:w1.cell? ⟨w.heap.size,5,none⟩=some (.int .i64 k):=zc HRQ.o rfl;have r6:w1.cell? ⟨w.heap.size,6,none⟩=some (.int .i64 n):=zc HRQ.o rfl;have r8:w1.cell? ⟨w.heap.size,8,none⟩=some (.int .i64 c):=zc HRQ.o rfl;have hrl:=lG w1 _ r1;go_wp2_with fail
   refine(HFi.o _ HX1.o).mono ?_;rintro e w2 ⟨rfl,hx2⟩;have HRC:Hd _:=hx2.block HRS.o;have HXC:Hd (Ext w w2):=HX1.o.trans hx2;have r8:=hx2.cell r8;clear hx2 HL HFi r1 r2 r3 r4 r5 r6;by_cases hcl:c<1
   ·go_wp2_with fail
    refine(HCo.o _).mono ?_;rintro e w9 ⟨rfl,hx9⟩;have hr9:=hx9.block HRC.o;have o0:=zc hr9 (i:=0) rfl;have o1:=zc hr9 (i:=1) rfl;have o2:=zc hr9 (i:=2) rfl;have o3:=zc hr9 (i:=3) rfl;have f0:=ze hr9 0;have f1:=ze hr9 1;have f2:=ze hr9 2;have f3:=ze hr9 3;have HX9:Hd (Ext w w9):=HXC.o.trans hx9;clear hr9 hx9;go_wp2;refine bodyPost_ret (v:=.tuple #[.pointer none,.agg #[.int .i64 5,.int .i64 0,.int .i64 0,.slice none 0 0]]) (by simp [results,results177,go_sem,o0,o1,o2,o3]) rfl ⟨rfl,?_⟩;exact Z9 HX9.o (by omega) _ _ _ _
   ·have hc4:40<c:=by omega
    clear hcc;go_wp2_with fail
    refine(HCo.o _).mono ?_;rintro e w9 ⟨rfl,hx9⟩;have hr9:=hx9.block HRC.o;have o0:=zc hr9 (i:=0) rfl;have o1:=zc hr9 (i:=1) rfl;have o2:=zc hr9 (i:=2) rfl;have o3:=zc hr9 (i:=3) rfl;have f0:=ze hr9 0;have f1:=ze hr9 1;have f2:=ze hr9 2;have f3:=ze hr9 3;have HX9:Hd (Ext w w9):=HXC.o.trans hx9;clear hr9 hx9;go_wp2;refine bodyPost_ret (v:=.tuple #[.pointer none,.agg #[.int .i64 5,.int .i64 0,.int .i64 0,.slice none 0 0]]) (by simp [results,results177,go_sem,o0,o1,o2,o3]) rfl ⟨rfl,?_⟩;exact Z9 HX9.o (by omega) _ _ _ _
  ·rw [if_neg hcc] at HCo hcd ⊢;have hc1:¬c<1:=by omega
   have hc2:¬40<c:=by omega
   clear hcc;by_cases hfew:(tn:Int) - sl<c
   ·rw [if_pos hfew] at HCo hcd ⊢;go_enter func177,ntmps177;go_wp2_with fail
    have hres0:=zf2 w kk s i kd m k n f c pp;have hreq0:=zf4 w kk s i kd m k n f c pp;have hXW:=zf3 w kk s i kd m k n f c pp;generalize lP (lP w _) _=W at hres0 hreq0 hXW ⊢;refine(HL.o W hXW).mono ?_;rintro e w1 ⟨rfl,hx1⟩;have HX1:Hd (Ext w w1):=hXW.trans hx1;have HRS:Hd _:=hx1.block hres0;have HRQ:Hd _:=hx1.block hreq0;clear hx1 hXW hres0 hreq0;have r1:w1.cell? ⟨w.heap.size,1,none⟩=some (.int .i64 s):=zc HRQ.o rfl;have r2:w1.cell? ⟨w.heap.size,2,none⟩=some (.int .i64 i):=zc HRQ.o rfl;have r3:w1.cell? ⟨w.heap.size,3,none⟩=some (.int .i64 kd):=zc HRQ.o rfl;have r4:w1.cell? ⟨w.heap.size,4,none⟩=some (.int .i64 m):=zc HRQ.o rfl;have r5:w1.cell? ⟨w.heap.size,5,none⟩=some (.int .i64 k):=zc HRQ.o rfl;have r6:w1.cell? ⟨w.heap.size,6,none⟩=some (.int .i64 n):=zc HRQ.o rfl;have r8:w1.cell? ⟨w.heap.size,8,none⟩=some (.int .i64 c):=zc HRQ.o rfl;have hrl:=lG w1 _ r1;go_wp2_with fail
    refine(HFi.o _ HX1.o).mono ?_;rintro e w2 ⟨rfl,hx2⟩;have HRC:Hd _:=hx2.block HRS.o;have HXC:Hd (Ext w w2):=HX1.o.trans hx2;have r8:=hx2.cell r8;have c0:=HXC.o.cell c0;have c1:=HXC.o.cell c1;have s0:=HXC.o.cell s0;have s1:=HXC.o.cell s1;have s2:=HXC.o.cell s2;have s3:=HXC.o.cell s3;have s4:=HXC.o.cell s4;have s5:=HXC.o.cell s5;have s6:=HXC.o.cell s6;have hl2:=HXC.o.le;have hrl2:=lG w2 _ r8;clear hx2 HL HFi r1 r2 r3 r4 r5 r6;go_wp2_with fail
    have HRC:Hd _:=zC (o:=.cells #[.int .i64 x0,.int .i64 x1,.int .i64 x2,.int .i64 x3,.slice ta tn tcap,.int .i64 sl,.int .i64 sg] 198) HRC.o;have HXC:Hd (Ext w (w2.alloc (.cells #[.int .i64 x0,.int .i64 x1,.int .i64 x2,.int .i64 x3,.slice ta tn tcap,.int .i64 sl,.int .i64 sg] 198))):=HXC.o.alloc _;refine(HCo.o _).mono ?_;rintro e w9 ⟨rfl,hx9⟩;have hr9:=hx9.block HRC.o;have o0:=zc hr9 (i:=0) rfl;have o1:=zc hr9 (i:=1) rfl;have o2:=zc hr9 (i:=2) rfl;have o3:=zc hr9 (i:=3) rfl;have f0:=ze hr9 0;have f1:=ze hr9 1;have f2:=ze hr9 2;have f3:=ze hr9 3;have HX9:Hd (Ext w w9):=HXC.o.trans hx9;clear hr9 hx9;go_wp2;refine bodyPost_ret (v:=.tuple #[.pointer none,.agg #[.int .i64 7,.int .i64 0,.int .i64 0,.slice none 0 0]]) (by simp [results,results177,go_sem,o0,o1,o2,o3]) rfl ⟨rfl,?_⟩;exact Z9 HX9.o (by omega) _ _ _ _
   ·rw [if_neg hfew] at HCo hcd ⊢;by_cases hfull:30<=len2
    ·rw [if_pos hfull] at HCo hcd ⊢;go_enter func177,ntmps177;go_wp2_with fail
     have hres0:=zf2 w kk s i kd m k n f c pp;have hreq0:=zf4 w kk s i kd m k n f c pp;have hXW:=zf3 w kk s i kd m k n f c pp;generalize lP (lP w _) _=W at hres0 hreq0 hXW ⊢;refine(HL.o W hXW).mono ?_;rintro e w1 ⟨rfl,hx1⟩;have HX1:Hd (Ext w w1):=hXW.trans hx1;have HRS:Hd _:=hx1.block hres0;have HRQ:Hd _:=hx1.block hreq0;clear hx1 hXW hres0 hreq0;have r1:w1.cell? ⟨w.heap.size,1,none⟩=some (.int .i64 s):=zc HRQ.o rfl;have r2:w1.cell? ⟨w.heap.size,2,none⟩=some (.int .i64 i):=zc HRQ.o rfl;have r3:w1.cell? ⟨w.heap.size,3,none⟩=some (.int .i64 kd):=zc HRQ.o rfl;have r4:w1.cell? ⟨w.heap.size,4,none⟩=some (.int .i64 m):=zc HRQ.o rfl;have r5:w1.cell? ⟨w.heap.size,5,none⟩=some (.int .i64 k):=zc HRQ.o rfl;have r6:w1.cell? ⟨w.heap.size,6,none⟩=some (.int .i64 n):=zc HRQ.o rfl;have r8:w1.cell? ⟨w.heap.size,8,none⟩=some (.int .i64 c):=zc HRQ.o rfl;have hrl:=lG w1 _ r1;go_wp2_with fail
     refine(HFi.o _ HX1.o).mono ?_;rintro e w2 ⟨rfl,hx2⟩;have HRC:Hd _:=hx2.block HRS.o;have HXC:Hd (Ext w w2):=HX1.o.trans hx2;have r8:=hx2.cell r8;have c0:=HXC.o.cell c0;have c1:=HXC.o.cell c1;have s0:=HXC.o.cell s0;have s1:=HXC.o.cell s1;have s2:=HXC.o.cell s2;have s3:=HXC.o.cell s3;have s4:=HXC.o.cell s4;have s5:=HXC.o.cell s5;have s6:=HXC.o.cell s6;have hl2:=HXC.o.le;have hpl2:p<w2.heap.size:=lG w2 _ c1;have hrl2:=lG w2 _ r8;clear hx2 HL HFi r1 r2 r3 r4 r5 r6;go_wp2_with fail
     have HRC:Hd _:=zC (o:=.cells #[.int .i64 x0,.int .i64 x1,.int .i64 x2,.int .i64 x3,.slice ta tn tcap,.int .i64 sl,.int .i64 sg] 198) HRC.o;have HXC:Hd (Ext w (w2.alloc (.cells #[.int .i64 x0,.int .i64 x1,.int .i64 x2,.int .i64 x3,.slice ta tn tcap,.int .i64 sl,.int .i64 sg] 198))):=HXC.o.alloc _;refine(HCo.o _).mono ?_;rintro e w9 ⟨rfl,hx9⟩;have hr9:=hx9.block HRC.o;have o0:=zc hr9 (i:=0) rfl;have o1:=zc hr9 (i:=1) rfl;have o2:=zc hr9 (i:=2) rfl;have o3:=zc hr9 (i:=3) rfl;have f0:=ze hr9 0;have f1:=ze hr9 1;have f2:=ze hr9 2;have f3:=ze hr9 3;have HX9:Hd (Ext w w9):=HXC.o.trans hx9;clear hr9 hx9;go_wp2;refine bodyPost_ret (v:=.tuple #[.pointer none,.agg #[.int .i64 4,.int .i64 0,.int .i64 0,.slice none 0 0]]) (by simp [results,results177,go_sem,o0,o1,o2,o3]) rfl ⟨rfl,?_⟩;exact Z9 HX9.o (by omega) _ _ _ _
    ·rw [if_neg hfull] at hcd;exact absurd rfl hcd
end
end Go.Proofs.YtmnjhhachdlmkaaGreat
