import Derived.Test.YtmnjhhachdlmkaaGreatK16
namespace Go.Proofs.YtmnjhhachdlmkaaGreat
set_option linter.all false
set_option maxRecDepth 100000
set_option maxHeartbeats 3200000
open Tryz
open Nat renaming lt_of_lt_of_le -> rA
open Ext renaming refl -> lI
open World renaming ownsRow -> lR
open Go.RowKit Go.Maps
open World renaming block_lt_of_cell? -> lG
open Value renaming ownBlock -> lH
section
section
variable {P:Program}
theorem XS (w:World)(dT sT ty elem:TypeId)(sz g n dCap:Nat)(a:Addr)(sCap:Nat)(cur:Array Value)(t:TypeId)(cs:List Value)
  (hu:P.underlying dT=some (.slice elem)) (hs:(P.info? elem).map (·.size)=some sz)
  (hg:w.heap[g]?=some (.cells cur t (0,0))) (hn:cs.length=n*sz) (hcur:cur.size=n*sz)
  (hsrc:∀j v,cs[j]?=some v->w.cell? (a.add j)=some v) (h1:∀v∈cs,v.oneCell'=true) :
  (Builtin.copy_ #[dT,sT] ty #[.slice (some ⟨g,0,none⟩) n dCap,.slice (some a) n sCap]).run P w=.ok (goInt n) (w.setRow g cs.toArray):=by
 have hl:=run_loadCells_list (P:=P) w a cs hsrc;have hst:=run_storeCells_at P g 0 t cs 0 cur w hg (by simp;omega) h1;have e:(cur.toList.take (0+0)++cs++cur.toList.drop (0+0+cs.length))=cs:=by rw [List.drop_of_length_le (by simp;omega)];simp
 rw [e] at hst;rw [hn] at hl;cases hq:P.info? elem with
 | none=>simp [hq] at hs
 | some i=>
  have hi:i.size=sz:=by simpa [hq] using hs
  simp [Builtin.copy_,run_underlying hu,Builtin.lenOf,Builtin.firstCells,sizeOf,typeInfo,hq,hi,hl,hst]
theorem vo (w:World)(dT sT ty elem:TypeId)(sz:Nat)(d a:Option Addr)(dCap sCap:Nat)(hu:P.underlying dT=some (.slice elem))(hs:(P.info? elem).map (·.size)=some sz) :
  (Builtin.copy_ #[dT,sT] ty #[.slice d 0 dCap,.slice a 0 sCap]).run P w=.ok (goInt 0) w:=by
 cases hq:P.info? elem with
 | none=>simp [hq] at hs
 | some i=>
  have hl:∀(x:Addr),(loadCells x 0).run P w=.ok #[] w:=fun x=>by simpa using run_loadCells_list (P:=P) w x [] (by simp)
  cases d<;>cases a<;>simp [Builtin.copy_,run_underlying hu,Builtin.lenOf,Builtin.firstCells,sizeOf,typeInfo,hq,storeCells,hl]
end
theorem Ud (w:World)(g:Nat)(cs:Array Value):Turn (fun b=>b=g) w (w.setRow g cs):=⟨rfl,rfl,rfl,by simp [World.setRow],fun k _ hk=>setRow_other w g k cs hk⟩
structure GV where
 wv:Value
 ov:Value
 pv:Value
 bW:Value
 bS:Value
 bL:Value
 bO:Value
 ar:Bool:=false
 fi:Int:=0
def Zp (B:Nat)(v:GV):Array Value:=#[.pointer (some ⟨B,0,none⟩),v.wv,.slice none 0 0,v.ov,v.pv,.bool v.ar,.int .i64 v.fi,v.bW,v.bS,v.bL,v.bO]
def yZ (P:Nat)(v:GV)(b:Nat):Prop:=b=P\/v.pv.ownBlock=some b\/v.bW.ownBlock=some b\/v.bS.ownBlock=some b\/v.bL.ownBlock=some b\/v.bO.ownBlock=some b
def OpRow (w:World)(G:Nat->Prop)(ov:Value)(ops:List OpV):Prop:=∃a cap,ov=.slice a ops.length cap/\(ops.length=0\/∃g,a=some ⟨g,0,none⟩/\G g/\∀i u,(zz ops)[i]?=some u->w.cell? ⟨g,i,none⟩=some u)
def OneIs (w:World)(G:Nat->Prop)(v:Value)(q:Nat):Prop:=∃g cap,v=.slice (some ⟨g,0,none⟩) 1 cap/\G g/\w.cell? ⟨g,0,none⟩=some (.pointer (some ⟨q,0,none⟩))
def PartIs (w:World)(G:Nat->Prop)(cs:List Value):Prop:=∃(f t:Int)(wv:Value)(d:Bool)(q:Nat),cs=[.int .i64 f,.int .i64 t,wv,.bool d]/\OneIs w G wv q
def PartRow (w:World)(G:Nat->Prop)(pv:Value)(np:Nat):Prop:=∃css:List (List Value),w.ownsRow 0 100 4 pv np css.flatten/\css.length=np/\∀c∈css,PartIs w G c
structure GameOf (w:World)(P B:Nat)(G:Nat->Prop)(v:GV)(q:Nat)(S:List Stk)(ls:List LsV)(ops:List OpV)(c:Nat):Prop where
 blk:w.heap[P]?=some (.cells (Zp B v) 94 (0,0))
 wrow:OneIs w G v.wv q
 ref:RefAt w G q S ls
 orow:OpRow w G v.ov ops
 prow:∃np,np<=c/\PartRow w G v.pv np
 bW:∃m,m<=c/\BookRow w G 31 1 mkW v.bW m
 bS:∃m,m<=c/\BookRow w G 44 7 mkS v.bS m
 bL:∃m,m<=c/\BookRow w G 38 9 mkL v.bL m
 bO:∃m,m<=c/\BookRow w G 69 4 mkO v.bO m
 ltG:∀b,G b->b<w.heap.size
 apart:∀b,yZ P v b->¬G b
theorem OpRow.turn {S G:Nat->Prop}{w w':World}{ov:Value}{ops:List OpV}(h:OpRow w G ov ops)(ht:Turn S w w')(hs:∀b,G b->¬S b):OpRow w' G ov ops:=by obtain⟨a,cap,h1,h2⟩:=h;exact⟨a,cap,h1,h2.imp id (fun ⟨g,e,hg,hc⟩=>⟨g,e,hg,fun i u hu=>ht.cell (hc i u hu) (hs g hg)⟩)⟩
theorem OpRow.mono {G G':Nat->Prop}{w:World}{ov:Value}{ops:List OpV}(h:OpRow w G ov ops)(hg:∀b,G b->G' b):OpRow w G' ov ops:=by obtain⟨a,cap,h1,h2⟩:=h;exact⟨a,cap,h1,h2.imp id (fun ⟨g,e,h3,hc⟩=>⟨g,e,hg g h3,hc⟩)⟩
theorem OneIs.turn {S G:Nat->Prop}{w w':World}{v:Value}{q:Nat}(h:OneIs w G v q)(ht:Turn S w w')(hs:∀b,G b->¬S b):OneIs w' G v q:=by obtain⟨g,cap,h1,h2,h3⟩:=h;exact⟨g,cap,h1,h2,ht.cell h3 (hs g h2)⟩
theorem OneIs.mono {G G':Nat->Prop}{w:World}{v:Value}{q:Nat}(h:OneIs w G v q)(hg:∀b,G b->G' b):OneIs w G' v q:=by obtain⟨g,cap,h1,h2,h3⟩:=h;exact⟨g,cap,h1,hg g h2,h3⟩
theorem PartIs.turn {S G:Nat->Prop}{w w':World}{cs:List Value}(h:PartIs w G cs)(ht:Turn S w w')(hs:∀b,G b->¬S b):PartIs w' G cs:=by obtain⟨f,t,wv,d,q,h1,h2⟩:=h;exact⟨f,t,wv,d,q,h1,h2.turn ht hs⟩
theorem PartIs.mono {G G':Nat->Prop}{w:World}{cs:List Value}(h:PartIs w G cs)(hg:∀b,G b->G' b):PartIs w G' cs:=by obtain⟨f,t,wv,d,q,h1,h2⟩:=h;exact⟨f,t,wv,d,q,h1,h2.mono hg⟩
theorem PartRow.turn {S G:Nat->Prop}{w w':World}{pv:Value}{np:Nat}(h:PartRow w G pv np)(ht:Turn S w w')(hs:∀b,G b->¬S b)(hp:∀b,pv.ownBlock=some b->¬S b):PartRow w' G pv np:=by obtain⟨css,h1,h2,h3⟩:=h;exact⟨css,ht.owns h1 hp,h2,fun c hc=>(h3 c hc).turn ht hs⟩
theorem PartRow.mono {G G':Nat->Prop}{w:World}{pv:Value}{np:Nat}(h:PartRow w G pv np)(hg:∀b,G b->G' b):PartRow w G' pv np:=by obtain⟨css,h1,h2,h3⟩:=h;exact⟨css,h1,h2,fun c hc=>(h3 c hc).mono hg⟩
section
variable {w w':World}{P B q c:Nat}{G:Nat->Prop}{v:GV}{S:List Stk}{ls:List LsV}{ops:List OpV}
theorem GameOf.turn {X:Nat->Prop}(h:GameOf w P B G v q S ls ops c)(ht:Turn X w w')(hg:∀b,G b->¬X b)(ho:∀b,yZ P v b->¬X b):GameOf w' P B G v q S ls ops c where
 blk:=ht.ref h.blk (ho _ (.inl rfl))
 wrow:=h.wrow.turn ht hg
 ref:=h.ref.turn ht hg
 orow:=h.orow.turn ht hg
 prow:=let ⟨np,h1,h2⟩:=h.prow;⟨np,h1,h2.turn ht hg (fun b hb=>ho b (.inr (.inl hb)))⟩
 bW:=let ⟨m,h1,h2⟩:=h.bW;⟨m,h1,h2.turn ht hg (fun b hb=>ho b (.inr (.inr (.inl hb))))⟩
 bS:=let ⟨m,h1,h2⟩:=h.bS;⟨m,h1,h2.turn ht hg (fun b hb=>ho b (.inr (.inr (.inr (.inl hb)))))⟩
 bL:=let ⟨m,h1,h2⟩:=h.bL;⟨m,h1,h2.turn ht hg (fun b hb=>ho b (.inr (.inr (.inr (.inr (.inl hb))))))⟩
 bO:=let ⟨m,h1,h2⟩:=h.bO;⟨m,h1,h2.turn ht hg (fun b hb=>ho b (.inr (.inr (.inr (.inr (.inr hb))))))⟩
 ltG:=fun b hb=>rA (h.ltG b hb) ht.size
 apart:=h.apart
theorem GameOf.ext (h:GameOf w P B G v q S ls ops c)(hx:Ext w w'):GameOf w' P B G v q S ls ops c:=h.turn (X:=fun _=>False) (Turn.of_ext hx) (fun _ _=>id) (fun _ _=>id)
theorem GameOf.typ (h:GameOf w P B G v q S ls ops c){b:Nat}(hb:yZ P v b):∃cur t,w.heap[b]?=some (.cells cur t (0,0))/\(t=94\/t=100\/t=31\/t=44\/t=38\/t=69):=by
 rcases hb with e|e|e|e|e|e
 ·exact⟨_,_,by rw [e];exact h.blk,.inl rfl⟩
 ·obtain⟨np,_,css,h1,_⟩:=h.prow;obtain⟨cur,hc⟩:=zf h1 e;exact⟨cur,_,hc,.inr (.inl rfl)⟩
 ·obtain⟨m,_,vs,h1,_⟩:=h.bW;obtain⟨cur,hc⟩:=zf h1 e;exact⟨cur,_,hc,.inr (.inr (.inl rfl))⟩
 ·obtain⟨m,_,vs,h1,_⟩:=h.bS;obtain⟨cur,hc⟩:=zf h1 e;exact⟨cur,_,hc,.inr (.inr (.inr (.inl rfl)))⟩
 ·obtain⟨m,_,vs,h1,_⟩:=h.bL;obtain⟨cur,hc⟩:=zf h1 e;exact⟨cur,_,hc,.inr (.inr (.inr (.inr (.inl rfl))))⟩
 ·obtain⟨m,_,vs,h1,_⟩:=h.bO;obtain⟨cur,hc⟩:=zf h1 e;exact⟨cur,_,hc,.inr (.inr (.inr (.inr (.inr rfl))))⟩
theorem GameOf.lt (h:GameOf w P B G v q S ls ops c){b:Nat}(hb:yZ P v b):b<w.heap.size:=by obtain⟨cur,t,hc,_⟩:=h.typ hb;exact(Array.getElem?_eq_some_iff.1 hc).1
theorem GameOf.not_own (h:GameOf w P B G v q S ls ops c){b:Nat}{cur:Array Value}{e:TypeId}(hc:w.heap[b]?=some (.cells cur e (0,0)))(h1:e≠94)(h2:e≠100)(h3:e≠31)(h4:e≠44)(h5:e≠38)(h6:e≠69):¬yZ P v b:=fun hb=>by
 obtain⟨cur',t,hc',ht⟩:=h.typ hb;rw [hc] at hc';injection hc' with hc'
 injection hc' with _ hc' _
 subst hc';rcases ht with e|e|e|e|e|e
 ·exact h1 e
 ·exact h2 e
 ·exact h3 e
 ·exact h4 e
 ·exact h5 e
 ·exact h6 e
structure GStep (X:Nat->Prop)(w w':World)(P:Nat)(v v':GV)(G G':Nat->Prop):Prop where
 turn:Turn (fun b=>yZ P v b\/X b) w w'
 sub:∀b,G b->G' b
 new:∀b,G' b->G b\/X b
 own:∀b,yZ P v' b->yZ P v b\/X b
theorem GStep.refl (X:Nat->Prop)(w:World)(P:Nat)(v:GV)(G:Nat->Prop):GStep X w w P v v G G:=⟨Turn.refl _ _,fun _ h=>h,fun _ h=>.inl h,fun _ h=>.inl h⟩
theorem GStep.of_ext {X:Nat->Prop}(hx:Ext w w'):GStep X w w' P v v G G:=⟨Turn.of_ext hx,fun _ h=>h,fun _ h=>.inl h,fun _ h=>.inl h⟩
theorem GStep.trans {X Y:Nat->Prop}{w'':World}{v' v'':GV}{G' G'':Nat->Prop}(h:GStep X w w' P v v' G G')(k:GStep Y w' w'' P v' v'' G' G'')(hy:∀b,Y b->X b):GStep X w w'' P v v'' G G'' where
 turn:=h.turn.trans' k.turn (fun b _ hb=>hb.elim (h.own b) (fun hb=>.inr (hy b hb)))
 sub:=fun b hb=>k.sub b (h.sub b hb)
 new:=fun b hb=>(k.new b hb).elim (h.new b) (fun hb=>.inr (hy b hb))
 own:=fun b hb=>(k.own b hb).elim (h.own b) (fun hb=>.inr (hy b hb))
theorem GStep.mono {X Y:Nat->Prop}{v':GV}{G':Nat->Prop}(h:GStep X w w' P v v' G G')(hy:∀b,X b->Y b):GStep Y w w' P v v' G G' where
 turn:=h.turn.mono (fun b _ hb=>hb.imp id (hy b))
 sub:=h.sub
 new:=fun b hb=>(h.new b hb).imp id (hy b)
 own:=fun b hb=>(h.own b hb).imp id (hy b)
end
end
section
section
variable {w:World}{P B q c:Nat}{G:Nat->Prop}{v:GV}{S:List Stk}{ls:List LsV}{ops:List OpV}
theorem QE (h:GameOf w P B G v q S ls ops c)(hc:c<=900000)(base:Nat)(la:Option Addr)(n lcap:Nat)(xs:List Value)(hn:n<=100000000)(ho:w.ownsRow base 146 1 (.slice la n lcap) n xs)(hbw:base<=w.heap.size)(hGl:∀q,lH (.slice la n lcap)=some q->¬G q)(X:Nat->Prop)(hX:∀b,(lH (.slice la n lcap)=some b\/w.heap.size<=b)->X b) :
  Calls Tryz.prog 106 #[.pointer (some ⟨P,7,none⟩),.slice la n lcap] w fun e w'=>e=.returned (.tuple #[])/\∃bv' G',GameOf w' P B G' { v with bW:=bv' } q S ls ops (c+1)/\GStep X w w' P v { v with bW:=bv' } G G':=by
 obtain⟨npv,hnpv,hrpv⟩:=h.prow;have opv:=hrpv;obtain⟨csspv,opv,_⟩:=opv;obtain⟨nbW,hnbW,hrbW⟩:=h.bW;have obW:=hrbW;obtain⟨vsbW,obW,_⟩:=obW;obtain⟨nbS,hnbS,hrbS⟩:=h.bS;have obS:=hrbS;obtain⟨vsbS,obS,_⟩:=obS;obtain⟨nbL,hnbL,hrbL⟩:=h.bL;have obL:=hrbL;obtain⟨vsbL,obL,_⟩:=obL;obtain⟨nbO,hnbO,hrbO⟩:=h.bO;have obO:=hrbO;obtain⟨vsbO,obO,_⟩:=obO;refine(uG P nbW base (Zp B v) rfl v.bW rfl la n lcap xs (by omega) hn w h.blk hrbW ho hGl (fun b hb=>h.apart b (.inr (.inr (.inl hb)))) h.ltG (h.apart P (.inl rfl)) hbw).mono ?_;rintro e w' ⟨rfl,bv',hP',⟨G',hsub,hnew,hbv,hGP,hbk⟩,hbo,ht⟩;have hGt:∀b,G b->¬(b=P\/v.bW.ownBlock=some b\/lH (.slice la n lcap)=some b):=fun b hb hor=>by
  rcases hor with e|e|e
  ·exact h.apart b (.inl e) hb
  ·exact h.apart b (.inr (.inr (.inl e))) hb
  ·exact hGl b e hb
 have fpv:∀b,v.pv.ownBlock=some b->¬(b=P\/v.bW.ownBlock=some b\/lH (.slice la n lcap)=some b):=fun b hb hor=>by
  obtain⟨cur,hcur⟩:=zf opv hb;rcases hor with e|e|e
  ·exact zh hcur h.blk (by decide) e
  ·obtain⟨cur2,hc2⟩:=zf obW e;exact zh hcur hc2 (by decide) rfl
  ·obtain⟨cur2,hc2⟩:=zf ho e;exact zh hcur hc2 (by decide) rfl
 have apv:∀b,v.pv.ownBlock=some b->¬G' b:=fun b hb hg=>by
  rcases hnew b hg with e|e|e
  ·exact h.apart b (.inr (.inl hb)) e
  ·exact fpv b hb (.inr (.inr e))
  ·have:=zx opv hb;omega
 have fbS:∀b,v.bS.ownBlock=some b->¬(b=P\/v.bW.ownBlock=some b\/lH (.slice la n lcap)=some b):=fun b hb hor=>by
  obtain⟨cur,hcur⟩:=zf obS hb;rcases hor with e|e|e
  ·exact zh hcur h.blk (by decide) e
  ·obtain⟨cur2,hc2⟩:=zf obW e;exact zh hcur hc2 (by decide) rfl
  ·obtain⟨cur2,hc2⟩:=zf ho e;exact zh hcur hc2 (by decide) rfl
 have abS:∀b,v.bS.ownBlock=some b->¬G' b:=fun b hb hg=>by
  rcases hnew b hg with e|e|e
  ·exact h.apart b (.inr (.inr (.inr (.inl hb)))) e
  ·exact fbS b hb (.inr (.inr e))
  ·have:=zx obS hb;omega
 have fbL:∀b,v.bL.ownBlock=some b->¬(b=P\/v.bW.ownBlock=some b\/lH (.slice la n lcap)=some b):=fun b hb hor=>by
  obtain⟨cur,hcur⟩:=zf obL hb;rcases hor with e|e|e
  ·exact zh hcur h.blk (by decide) e
  ·obtain⟨cur2,hc2⟩:=zf obW e;exact zh hcur hc2 (by decide) rfl
  ·obtain⟨cur2,hc2⟩:=zf ho e;exact zh hcur hc2 (by decide) rfl
 have abL:∀b,v.bL.ownBlock=some b->¬G' b:=fun b hb hg=>by
  rcases hnew b hg with e|e|e
  ·exact h.apart b (.inr (.inr (.inr (.inr (.inl hb))))) e
  ·exact fbL b hb (.inr (.inr e))
  ·have:=zx obL hb;omega
 have fbO:∀b,v.bO.ownBlock=some b->¬(b=P\/v.bW.ownBlock=some b\/lH (.slice la n lcap)=some b):=fun b hb hor=>by
  obtain⟨cur,hcur⟩:=zf obO hb;rcases hor with e|e|e
  ·exact zh hcur h.blk (by decide) e
  ·obtain⟨cur2,hc2⟩:=zf obW e;exact zh hcur hc2 (by decide) rfl
  ·obtain⟨cur2,hc2⟩:=zf ho e;exact zh hcur hc2 (by decide) rfl
 have abO:∀b,v.bO.ownBlock=some b->¬G' b:=fun b hb hg=>by
  rcases hnew b hg with e|e|e
  ·exact h.apart b (.inr (.inr (.inr (.inr (.inr hb))))) e
  ·exact fbO b hb (.inr (.inr e))
  ·have:=zx obO hb;omega
 refine⟨rfl,bv',G',⟨hP',(h.wrow.turn ht hGt).mono hsub,(h.ref.turn ht hGt).mono hsub,(h.orow.turn ht hGt).mono hsub,⟨npv,by omega,(hrpv.turn ht hGt fpv).mono hsub⟩,⟨nbW+1,by omega,hbk⟩,⟨nbS,by omega,(hrbS.turn ht hGt fbS).mono hsub⟩,⟨nbL,by omega,(hrbL.turn ht hGt fbL).mono hsub⟩,⟨nbO,by omega,(hrbO.turn ht hGt fbO).mono hsub⟩,fun b hb=>?_,fun b hb=>?_⟩,⟨ht.mono (fun b _ hb=>?_),hsub,fun b hb=>?_,fun b hb=>?_⟩⟩
 ·rcases hnew b hb with e|e|e
  ·exact rA (h.ltG b e) ht.size
  ·exact rA (zx ho e) ht.size
  ·exact e.2
 ·rcases hb with e|e|e|e|e|e
  ·rw [e];exact hGP
  ·exact apv b e
  ·exact hbv b e
  ·exact abS b e
  ·exact abL b e
  ·exact abO b e
 ·rcases hb with e|e|e
  ·exact .inl (.inl e)
  ·exact .inl (.inr (.inr (.inl e)))
  ·exact .inr (hX b (.inl e))
 ·rcases hnew b hb with e|e|e
  ·exact .inl e
  ·exact .inr (hX b (.inl e))
  ·exact .inr (hX b (.inr e.1))
 ·rcases hb with e|e|e|e|e|e
  ·exact .inl (.inl e)
  ·exact .inl (.inr (.inl e))
  ·exact(hbo b e).elim (fun e=>.inl (.inr (.inr (.inl e)))) (fun e=>.inr (hX b (.inr e)))
  ·exact .inl (.inr (.inr (.inr (.inl e))))
  ·exact .inl (.inr (.inr (.inr (.inr (.inl e)))))
  ·exact .inl (.inr (.inr (.inr (.inr (.inr e)))))
theorem vL (h:GameOf w P B G v q S ls ops c)(hc:c<=900000)(base:Nat)(la:Option Addr)(n lcap:Nat)(xs:List Value)(hn:n<=100000000)(ho:w.ownsRow base 116 7 (.slice la n lcap) n xs)(hbw:base<=w.heap.size)(hGl:∀q,lH (.slice la n lcap)=some q->¬G q)(X:Nat->Prop)(hX:∀b,(lH (.slice la n lcap)=some b\/w.heap.size<=b)->X b) :
  Calls Tryz.prog 78 #[.pointer (some ⟨P,7,none⟩),.slice la n lcap] w fun e w'=>e=.returned (.tuple #[])/\∃bv' G',GameOf w' P B G' { v with bS:=bv' } q S ls ops (c+1)/\GStep X w w' P v { v with bS:=bv' } G G':=by
 obtain⟨npv,hnpv,hrpv⟩:=h.prow;have opv:=hrpv;obtain⟨csspv,opv,_⟩:=opv;obtain⟨nbW,hnbW,hrbW⟩:=h.bW;have obW:=hrbW;obtain⟨vsbW,obW,_⟩:=obW;obtain⟨nbS,hnbS,hrbS⟩:=h.bS;have obS:=hrbS;obtain⟨vsbS,obS,_⟩:=obS;obtain⟨nbL,hnbL,hrbL⟩:=h.bL;have obL:=hrbL;obtain⟨vsbL,obL,_⟩:=obL;obtain⟨nbO,hnbO,hrbO⟩:=h.bO;have obO:=hrbO;obtain⟨vsbO,obO,_⟩:=obO;refine(V9 P nbS base (Zp B v) rfl v.bS rfl la n lcap xs (by omega) hn w h.blk hrbS ho hGl (fun b hb=>h.apart b (.inr (.inr (.inr (.inl hb))))) h.ltG (h.apart P (.inl rfl)) hbw).mono ?_;rintro e w' ⟨rfl,bv',hP',⟨G',hsub,hnew,hbv,hGP,hbk⟩,hbo,ht⟩;have hGt:∀b,G b->¬(b=P\/v.bS.ownBlock=some b\/lH (.slice la n lcap)=some b):=fun b hb hor=>by
  rcases hor with e|e|e
  ·exact h.apart b (.inl e) hb
  ·exact h.apart b (.inr (.inr (.inr (.inl e)))) hb
  ·exact hGl b e hb
 have fpv:∀b,v.pv.ownBlock=some b->¬(b=P\/v.bS.ownBlock=some b\/lH (.slice la n lcap)=some b):=fun b hb hor=>by
  obtain⟨cur,hcur⟩:=zf opv hb;rcases hor with e|e|e
  ·exact zh hcur h.blk (by decide) e
  ·obtain⟨cur2,hc2⟩:=zf obS e;exact zh hcur hc2 (by decide) rfl
  ·obtain⟨cur2,hc2⟩:=zf ho e;exact zh hcur hc2 (by decide) rfl
 have apv:∀b,v.pv.ownBlock=some b->¬G' b:=fun b hb hg=>by
  rcases hnew b hg with e|e|e
  ·exact h.apart b (.inr (.inl hb)) e
  ·exact fpv b hb (.inr (.inr e))
  ·have:=zx opv hb;omega
 have fbW:∀b,v.bW.ownBlock=some b->¬(b=P\/v.bS.ownBlock=some b\/lH (.slice la n lcap)=some b):=fun b hb hor=>by
  obtain⟨cur,hcur⟩:=zf obW hb;rcases hor with e|e|e
  ·exact zh hcur h.blk (by decide) e
  ·obtain⟨cur2,hc2⟩:=zf obS e;exact zh hcur hc2 (by decide) rfl
  ·obtain⟨cur2,hc2⟩:=zf ho e;exact zh hcur hc2 (by decide) rfl
 have abW:∀b,v.bW.ownBlock=some b->¬G' b:=fun b hb hg=>by
  rcases hnew b hg with e|e|e
  ·exact h.apart b (.inr (.inr (.inl hb))) e
  ·exact fbW b hb (.inr (.inr e))
  ·have:=zx obW hb;omega
 have fbL:∀b,v.bL.ownBlock=some b->¬(b=P\/v.bS.ownBlock=some b\/lH (.slice la n lcap)=some b):=fun b hb hor=>by
  obtain⟨cur,hcur⟩:=zf obL hb;rcases hor with e|e|e
  ·exact zh hcur h.blk (by decide) e
  ·obtain⟨cur2,hc2⟩:=zf obS e;exact zh hcur hc2 (by decide) rfl
  ·obtain⟨cur2,hc2⟩:=zf ho e;exact zh hcur hc2 (by decide) rfl
 have abL:∀b,v.bL.ownBlock=some b->¬G' b:=fun b hb hg=>by
  rcases hnew b hg with e|e|e
  ·exact h.apart b (.inr (.inr (.inr (.inr (.inl hb))))) e
  ·exact fbL b hb (.inr (.inr e))
  ·have:=zx obL hb;omega
 have fbO:∀b,v.bO.ownBlock=some b->¬(b=P\/v.bS.ownBlock=some b\/lH (.slice la n lcap)=some b):=fun b hb hor=>by
  obtain⟨cur,hcur⟩:=zf obO hb;rcases hor with e|e|e
  ·exact zh hcur h.blk (by decide) e
  ·obtain⟨cur2,hc2⟩:=zf obS e;exact zh hcur hc2 (by decide) rfl
  ·obtain⟨cur2,hc2⟩:=zf ho e;exact zh hcur hc2 (by decide) rfl
 have abO:∀b,v.bO.ownBlock=some b->¬G' b:=fun b hb hg=>by
  rcases hnew b hg with e|e|e
  ·exact h.apart b (.inr (.inr (.inr (.inr (.inr hb))))) e
  ·exact fbO b hb (.inr (.inr e))
  ·have:=zx obO hb;omega
 refine⟨rfl,bv',G',⟨hP',(h.wrow.turn ht hGt).mono hsub,(h.ref.turn ht hGt).mono hsub,(h.orow.turn ht hGt).mono hsub,⟨npv,by omega,(hrpv.turn ht hGt fpv).mono hsub⟩,⟨nbW,by omega,(hrbW.turn ht hGt fbW).mono hsub⟩,⟨nbS+1,by omega,hbk⟩,⟨nbL,by omega,(hrbL.turn ht hGt fbL).mono hsub⟩,⟨nbO,by omega,(hrbO.turn ht hGt fbO).mono hsub⟩,fun b hb=>?_,fun b hb=>?_⟩,⟨ht.mono (fun b _ hb=>?_),hsub,fun b hb=>?_,fun b hb=>?_⟩⟩
 ·rcases hnew b hb with e|e|e
  ·exact rA (h.ltG b e) ht.size
  ·exact rA (zx ho e) ht.size
  ·exact e.2
 ·rcases hb with e|e|e|e|e|e
  ·rw [e];exact hGP
  ·exact apv b e
  ·exact abW b e
  ·exact hbv b e
  ·exact abL b e
  ·exact abO b e
 ·rcases hb with e|e|e
  ·exact .inl (.inl e)
  ·exact .inl (.inr (.inr (.inr (.inl e))))
  ·exact .inr (hX b (.inl e))
 ·rcases hnew b hb with e|e|e
  ·exact .inl e
  ·exact .inr (hX b (.inl e))
  ·exact .inr (hX b (.inr e.1))
 ·rcases hb with e|e|e|e|e|e
  ·exact .inl (.inl e)
  ·exact .inl (.inr (.inl e))
  ·exact .inl (.inr (.inr (.inl e)))
  ·exact(hbo b e).elim (fun e=>.inl (.inr (.inr (.inr (.inl e))))) (fun e=>.inr (hX b (.inr e)))
  ·exact .inl (.inr (.inr (.inr (.inr (.inl e)))))
  ·exact .inl (.inr (.inr (.inr (.inr (.inr e)))))
theorem vy (h:GameOf w P B G v q S ls ops c)(hc:c<=900000)(base:Nat)(la:Option Addr)(n lcap:Nat)(xs:List Value)(hn:n<=100000000)(ho:w.ownsRow base 56 9 (.slice la n lcap) n xs)(hbw:base<=w.heap.size)(hGl:∀q,lH (.slice la n lcap)=some q->¬G q)(X:Nat->Prop)(hX:∀b,(lH (.slice la n lcap)=some b\/w.heap.size<=b)->X b) :
  Calls Tryz.prog 79 #[.pointer (some ⟨P,7,none⟩),.slice la n lcap] w fun e w'=>e=.returned (.tuple #[])/\∃bv' G',GameOf w' P B G' { v with bL:=bv' } q S ls ops (c+1)/\GStep X w w' P v { v with bL:=bv' } G G':=by
 obtain⟨npv,hnpv,hrpv⟩:=h.prow;have opv:=hrpv;obtain⟨csspv,opv,_⟩:=opv;obtain⟨nbW,hnbW,hrbW⟩:=h.bW;have obW:=hrbW;obtain⟨vsbW,obW,_⟩:=obW;obtain⟨nbS,hnbS,hrbS⟩:=h.bS;have obS:=hrbS;obtain⟨vsbS,obS,_⟩:=obS;obtain⟨nbL,hnbL,hrbL⟩:=h.bL;have obL:=hrbL;obtain⟨vsbL,obL,_⟩:=obL;obtain⟨nbO,hnbO,hrbO⟩:=h.bO;have obO:=hrbO;obtain⟨vsbO,obO,_⟩:=obO;refine(VO P nbL base (Zp B v) rfl v.bL rfl la n lcap xs (by omega) hn w h.blk hrbL ho hGl (fun b hb=>h.apart b (.inr (.inr (.inr (.inr (.inl hb)))))) h.ltG (h.apart P (.inl rfl)) hbw).mono ?_;rintro e w' ⟨rfl,bv',hP',⟨G',hsub,hnew,hbv,hGP,hbk⟩,hbo,ht⟩;have hGt:∀b,G b->¬(b=P\/v.bL.ownBlock=some b\/lH (.slice la n lcap)=some b):=fun b hb hor=>by
  rcases hor with e|e|e
  ·exact h.apart b (.inl e) hb
  ·exact h.apart b (.inr (.inr (.inr (.inr (.inl e))))) hb
  ·exact hGl b e hb
 have fpv:∀b,v.pv.ownBlock=some b->¬(b=P\/v.bL.ownBlock=some b\/lH (.slice la n lcap)=some b):=fun b hb hor=>by
  obtain⟨cur,hcur⟩:=zf opv hb;rcases hor with e|e|e
  ·exact zh hcur h.blk (by decide) e
  ·obtain⟨cur2,hc2⟩:=zf obL e;exact zh hcur hc2 (by decide) rfl
  ·obtain⟨cur2,hc2⟩:=zf ho e;exact zh hcur hc2 (by decide) rfl
 have apv:∀b,v.pv.ownBlock=some b->¬G' b:=fun b hb hg=>by
  rcases hnew b hg with e|e|e
  ·exact h.apart b (.inr (.inl hb)) e
  ·exact fpv b hb (.inr (.inr e))
  ·have:=zx opv hb;omega
 have fbW:∀b,v.bW.ownBlock=some b->¬(b=P\/v.bL.ownBlock=some b\/lH (.slice la n lcap)=some b):=fun b hb hor=>by
  obtain⟨cur,hcur⟩:=zf obW hb;rcases hor with e|e|e
  ·exact zh hcur h.blk (by decide) e
  ·obtain⟨cur2,hc2⟩:=zf obL e;exact zh hcur hc2 (by decide) rfl
  ·obtain⟨cur2,hc2⟩:=zf ho e;exact zh hcur hc2 (by decide) rfl
 have abW:∀b,v.bW.ownBlock=some b->¬G' b:=fun b hb hg=>by
  rcases hnew b hg with e|e|e
  ·exact h.apart b (.inr (.inr (.inl hb))) e
  ·exact fbW b hb (.inr (.inr e))
  ·have:=zx obW hb;omega
 have fbS:∀b,v.bS.ownBlock=some b->¬(b=P\/v.bL.ownBlock=some b\/lH (.slice la n lcap)=some b):=fun b hb hor=>by
  obtain⟨cur,hcur⟩:=zf obS hb;rcases hor with e|e|e
  ·exact zh hcur h.blk (by decide) e
  ·obtain⟨cur2,hc2⟩:=zf obL e;exact zh hcur hc2 (by decide) rfl
  ·obtain⟨cur2,hc2⟩:=zf ho e;exact zh hcur hc2 (by decide) rfl
 have abS:∀b,v.bS.ownBlock=some b->¬G' b:=fun b hb hg=>by
  rcases hnew b hg with e|e|e
  ·exact h.apart b (.inr (.inr (.inr (.inl hb)))) e
  ·exact fbS b hb (.inr (.inr e))
  ·have:=zx obS hb;omega
 have fbO:∀b,v.bO.ownBlock=some b->¬(b=P\/v.bL.ownBlock=some b\/lH (.slice la n lcap)=some b):=fun b hb hor=>by
  obtain⟨cur,hcur⟩:=zf obO hb;rcases hor with e|e|e
  ·exact zh hcur h.blk (by decide) e
  ·obtain⟨cur2,hc2⟩:=zf obL e;exact zh hcur hc2 (by decide) rfl
  ·obtain⟨cur2,hc2⟩:=zf ho e;exact zh hcur hc2 (by decide) rfl
 have abO:∀b,v.bO.ownBlock=some b->¬G' b:=fun b hb hg=>by
  rcases hnew b hg with e|e|e
  ·exact h.apart b (.inr (.inr (.inr (.inr (.inr hb))))) e
  ·exact fbO b hb (.inr (.inr e))
  ·have:=zx obO hb;omega
 refine⟨rfl,bv',G',⟨hP',(h.wrow.turn ht hGt).mono hsub,(h.ref.turn ht hGt).mono hsub,(h.orow.turn ht hGt).mono hsub,⟨npv,by omega,(hrpv.turn ht hGt fpv).mono hsub⟩,⟨nbW,by omega,(hrbW.turn ht hGt fbW).mono hsub⟩,⟨nbS,by omega,(hrbS.turn ht hGt fbS).mono hsub⟩,⟨nbL+1,by omega,hbk⟩,⟨nbO,by omega,(hrbO.turn ht hGt fbO).mono hsub⟩,fun b hb=>?_,fun b hb=>?_⟩,⟨ht.mono (fun b _ hb=>?_),hsub,fun b hb=>?_,fun b hb=>?_⟩⟩
 ·rcases hnew b hb with e|e|e
  ·exact rA (h.ltG b e) ht.size
  ·exact rA (zx ho e) ht.size
  ·exact e.2
 ·rcases hb with e|e|e|e|e|e
  ·rw [e];exact hGP
  ·exact apv b e
  ·exact abW b e
  ·exact abS b e
  ·exact hbv b e
  ·exact abO b e
 ·rcases hb with e|e|e
  ·exact .inl (.inl e)
  ·exact .inl (.inr (.inr (.inr (.inr (.inl e)))))
  ·exact .inr (hX b (.inl e))
 ·rcases hnew b hb with e|e|e
  ·exact .inl e
  ·exact .inr (hX b (.inl e))
  ·exact .inr (hX b (.inr e.1))
 ·rcases hb with e|e|e|e|e|e
  ·exact .inl (.inl e)
  ·exact .inl (.inr (.inl e))
  ·exact .inl (.inr (.inr (.inl e)))
  ·exact .inl (.inr (.inr (.inr (.inl e))))
  ·exact(hbo b e).elim (fun e=>.inl (.inr (.inr (.inr (.inr (.inl e)))))) (fun e=>.inr (hX b (.inr e)))
  ·exact .inl (.inr (.inr (.inr (.inr (.inr e)))))
theorem UR (h:GameOf w P B G v q S ls ops c)(hc:c<=900000)(base:Nat)(la:Option Addr)(n lcap:Nat)(xs:List Value)(hn:n<=100000000)(ho:w.ownsRow base 134 4 (.slice la n lcap) n xs)(hbw:base<=w.heap.size)(hGl:∀q,lH (.slice la n lcap)=some q->¬G q)(X:Nat->Prop)(hX:∀b,(lH (.slice la n lcap)=some b\/w.heap.size<=b)->X b) :
  Calls Tryz.prog 68 #[.pointer (some ⟨P,7,none⟩),.slice la n lcap] w fun e w'=>e=.returned (.tuple #[])/\∃bv' G',GameOf w' P B G' { v with bO:=bv' } q S ls ops (c+1)/\GStep X w w' P v { v with bO:=bv' } G G':=by
 obtain⟨npv,hnpv,hrpv⟩:=h.prow;have opv:=hrpv;obtain⟨csspv,opv,_⟩:=opv;obtain⟨nbW,hnbW,hrbW⟩:=h.bW;have obW:=hrbW;obtain⟨vsbW,obW,_⟩:=obW;obtain⟨nbS,hnbS,hrbS⟩:=h.bS;have obS:=hrbS;obtain⟨vsbS,obS,_⟩:=obS;obtain⟨nbL,hnbL,hrbL⟩:=h.bL;have obL:=hrbL;obtain⟨vsbL,obL,_⟩:=obL;obtain⟨nbO,hnbO,hrbO⟩:=h.bO;have obO:=hrbO;obtain⟨vsbO,obO,_⟩:=obO;refine(JF P nbO base (Zp B v) rfl v.bO rfl la n lcap xs (by omega) hn w h.blk hrbO ho hGl (fun b hb=>h.apart b (.inr (.inr (.inr (.inr (.inr hb)))))) h.ltG (h.apart P (.inl rfl)) hbw).mono ?_;rintro e w' ⟨rfl,bv',hP',⟨G',hsub,hnew,hbv,hGP,hbk⟩,hbo,ht⟩;have hGt:∀b,G b->¬(b=P\/v.bO.ownBlock=some b\/lH (.slice la n lcap)=some b):=fun b hb hor=>by
  rcases hor with e|e|e
  ·exact h.apart b (.inl e) hb
  ·exact h.apart b (.inr (.inr (.inr (.inr (.inr e))))) hb
  ·exact hGl b e hb
 have fpv:∀b,v.pv.ownBlock=some b->¬(b=P\/v.bO.ownBlock=some b\/lH (.slice la n lcap)=some b):=fun b hb hor=>by
  obtain⟨cur,hcur⟩:=zf opv hb;rcases hor with e|e|e
  ·exact zh hcur h.blk (by decide) e
  ·obtain⟨cur2,hc2⟩:=zf obO e;exact zh hcur hc2 (by decide) rfl
  ·obtain⟨cur2,hc2⟩:=zf ho e;exact zh hcur hc2 (by decide) rfl
 have apv:∀b,v.pv.ownBlock=some b->¬G' b:=fun b hb hg=>by
  rcases hnew b hg with e|e|e
  ·exact h.apart b (.inr (.inl hb)) e
  ·exact fpv b hb (.inr (.inr e))
  ·have:=zx opv hb;omega
 have fbW:∀b,v.bW.ownBlock=some b->¬(b=P\/v.bO.ownBlock=some b\/lH (.slice la n lcap)=some b):=fun b hb hor=>by
  obtain⟨cur,hcur⟩:=zf obW hb;rcases hor with e|e|e
  ·exact zh hcur h.blk (by decide) e
  ·obtain⟨cur2,hc2⟩:=zf obO e;exact zh hcur hc2 (by decide) rfl
  ·obtain⟨cur2,hc2⟩:=zf ho e;exact zh hcur hc2 (by decide) rfl
 have abW:∀b,v.bW.ownBlock=some b->¬G' b:=fun b hb hg=>by
  rcases hnew b hg with e|e|e
  ·exact h.apart b (.inr (.inr (.inl hb))) e
  ·exact fbW b hb (.inr (.inr e))
  ·have:=zx obW hb;omega
 have fbS:∀b,v.bS.ownBlock=some b->¬(b=P\/v.bO.ownBlock=some b\/lH (.slice la n lcap)=some b):=fun b hb hor=>by
  obtain⟨cur,hcur⟩:=zf obS hb;rcases hor with e|e|e
  ·exact zh hcur h.blk (by decide) e
  ·obtain⟨cur2,hc2⟩:=zf obO e;exact zh hcur hc2 (by decide) rfl
  ·obtain⟨cur2,hc2⟩:=zf ho e;exact zh hcur hc2 (by decide) rfl
 have abS:∀b,v.bS.ownBlock=some b->¬G' b:=fun b hb hg=>by
  rcases hnew b hg with e|e|e
  ·exact h.apart b (.inr (.inr (.inr (.inl hb)))) e
  ·exact fbS b hb (.inr (.inr e))
  ·have:=zx obS hb;omega
 have fbL:∀b,v.bL.ownBlock=some b->¬(b=P\/v.bO.ownBlock=some b\/lH (.slice la n lcap)=some b):=fun b hb hor=>by
  obtain⟨cur,hcur⟩:=zf obL hb;rcases hor with e|e|e
  ·exact zh hcur h.blk (by decide) e
  ·obtain⟨cur2,hc2⟩:=zf obO e;exact zh hcur hc2 (by decide) rfl
  ·obtain⟨cur2,hc2⟩:=zf ho e;exact zh hcur hc2 (by decide) rfl
 have abL:∀b,v.bL.ownBlock=some b->¬G' b:=fun b hb hg=>by
  rcases hnew b hg with e|e|e
  ·exact h.apart b (.inr (.inr (.inr (.inr (.inl hb))))) e
  ·exact fbL b hb (.inr (.inr e))
  ·have:=zx obL hb;omega
 refine⟨rfl,bv',G',⟨hP',(h.wrow.turn ht hGt).mono hsub,(h.ref.turn ht hGt).mono hsub,(h.orow.turn ht hGt).mono hsub,⟨npv,by omega,(hrpv.turn ht hGt fpv).mono hsub⟩,⟨nbW,by omega,(hrbW.turn ht hGt fbW).mono hsub⟩,⟨nbS,by omega,(hrbS.turn ht hGt fbS).mono hsub⟩,⟨nbL,by omega,(hrbL.turn ht hGt fbL).mono hsub⟩,⟨nbO+1,by omega,hbk⟩,fun b hb=>?_,fun b hb=>?_⟩,⟨ht.mono (fun b _ hb=>?_),hsub,fun b hb=>?_,fun b hb=>?_⟩⟩
 ·rcases hnew b hb with e|e|e
  ·exact rA (h.ltG b e) ht.size
  ·exact rA (zx ho e) ht.size
  ·exact e.2
 ·rcases hb with e|e|e|e|e|e
  ·rw [e];exact hGP
  ·exact apv b e
  ·exact abW b e
  ·exact abS b e
  ·exact abL b e
  ·exact hbv b e
 ·rcases hb with e|e|e
  ·exact .inl (.inl e)
  ·exact .inl (.inr (.inr (.inr (.inr (.inr e)))))
  ·exact .inr (hX b (.inl e))
 ·rcases hnew b hb with e|e|e
  ·exact .inl e
  ·exact .inr (hX b (.inl e))
  ·exact .inr (hX b (.inr e.1))
 ·rcases hb with e|e|e|e|e|e
  ·exact .inl (.inl e)
  ·exact .inl (.inr (.inl e))
  ·exact .inl (.inr (.inr (.inl e)))
  ·exact .inl (.inr (.inr (.inr (.inl e))))
  ·exact .inl (.inr (.inr (.inr (.inr (.inl e)))))
  ·exact(hbo b e).elim (fun e=>.inl (.inr (.inr (.inr (.inr (.inr e)))))) (fun e=>.inr (hX b (.inr e)))
theorem Ub (h:GameOf w P B G v q S ls ops c)(hc:c<=900000) :
  Calls Tryz.prog 43 #[.pointer (some ⟨P,7,none⟩)] w fun e w'=>e=.returned (.bool true)/\Ext w w':=by
 obtain⟨n1,h1,r1⟩:=h.bW;obtain⟨n2,h2,r2⟩:=h.bS;obtain⟨n3,h3,r3⟩:=h.bL;obtain⟨n4,h4,r4⟩:=h.bO;exact KD P n1 n2 n3 n4 (Zp B v) v.bW v.bS v.bL v.bO rfl rfl rfl rfl (by omega) (by omega) (by omega) (by omega) w h.blk r1 r2 r3 r4
end
end
section
section
variable {w:World}{P B q c:Nat}{G:Nat->Prop}{v:GV}{S:List Stk}{ls:List LsV}{ops0:List OpV}
theorem GameOf.setOv {w':World}{gm n cap:Nat}{ops:List OpV}(h:GameOf w P B G v q S ls ops0 c)(ht:Turn (fun b=>b=P) w w')(hb:w'.heap[P]?=some (.cells (Zp B { v with ov:=.slice (some ⟨gm,0,none⟩) n cap }) 94 (0,0)))(hgm:w.heap.size<=gm)(hg1:gm<w'.heap.size)(hn:n=ops.length)(hc:∀i u,(zz ops)[i]?=some u->w'.cell? ⟨gm,i,none⟩=some u) :
  GameOf w' P B (fun b=>G b\/b=gm) { v with ov:=.slice (some ⟨gm,0,none⟩) n cap } q S ls ops c/\GStep (fun b=>w.heap.size<=b) w w' P v { v with ov:=.slice (some ⟨gm,0,none⟩) n cap } G (fun b=>G b\/b=gm):=by
 have hG:∀b,G b->¬b=P:=fun b hb e=>h.apart b (.inl e) hb
 have hsub:∀b,G b->(G b\/b=gm):=fun b hb=>.inl hb
 have hne:∀b,yZ P v b->b≠P->¬b=P:=fun _ _ h=>h
 obtain⟨npv,hnpv,csspv,opv,hpv⟩:=h.prow;obtain⟨nW,hnW,vsW,oW,hW⟩:=h.bW;obtain⟨nS,hnS,vsS,oS,hS⟩:=h.bS;obtain⟨nL,hnL,vsL,oL,hL⟩:=h.bL;obtain⟨nO,hnO,vsO,oO,hO⟩:=h.bO;refine⟨⟨hb,(h.wrow.turn ht hG).mono hsub,(h.ref.turn ht hG).mono hsub,⟨some ⟨gm,0,none⟩,cap,by rw [<-hn],?_⟩,⟨npv,hnpv,(PartRow.turn ⟨csspv,opv,hpv⟩ ht hG (fun b hb e=>Zk h.blk opv (by decide) (by rw [<-e];exact hb))).mono hsub⟩,⟨nW,hnW,(BookRow.turn ⟨vsW,oW,hW⟩ ht hG (fun b hb e=>Zk h.blk oW (by decide) (by rw [<-e];exact hb))).mono hsub⟩,⟨nS,hnS,(BookRow.turn ⟨vsS,oS,hS⟩ ht hG (fun b hb e=>Zk h.blk oS (by decide) (by rw [<-e];exact hb))).mono hsub⟩,⟨nL,hnL,(BookRow.turn ⟨vsL,oL,hL⟩ ht hG (fun b hb e=>Zk h.blk oL (by decide) (by rw [<-e];exact hb))).mono hsub⟩,⟨nO,hnO,(BookRow.turn ⟨vsO,oO,hO⟩ ht hG (fun b hb e=>Zk h.blk oO (by decide) (by rw [<-e];exact hb))).mono hsub⟩,fun b hb=>?_,fun b hb hor=>?_⟩,⟨ht.mono (fun b _ e=>.inl (.inl e)),hsub,fun b hb=>hb.imp id (fun e=>by omega),fun b hb=>.inl hb⟩⟩
 ·exact .inr ⟨gm,rfl,.inr rfl,hc⟩
 ·rcases hb with e|e
  ·exact rA (h.ltG b e) ht.size
  ·omega
 ·rcases hor with e|e
  ·exact h.apart b hb e
  ·have:=h.lt (b:=b) hb;omega
theorem ge {F:Nat->Prop}{sv lv dv:Value}{R:List StkR}{ls':List LsV}{ops:List OpV}{fl:Bool}{ah:Int}{kn:Bool}(h:GameOf w P B G v q S ls ops0 c)(hc:c<=900000)(hst:StoreOf w B F sv lv dv R ls' ops fl ah kn)(hn:ops.length<=1000000)(hpre:∃new,ops=ops0++new)(hk:∀o∈ops,0<=o.k/\o.k<=5) :
  Calls Tryz.prog 41 #[.pointer (some ⟨P,0,none⟩)] w fun e w'=>e=.returned (.bool true)/\∃v' G',GameOf w' P B G' v' q S ls ops (c+1)/\GStep (fun b=>w.heap.size<=b) w w' P v v' G G'/\v'.wv=v.wv/\v'.pv=v.pv/\v'.ar=v.ar/\v'.fi=v.fi:=by
 obtain⟨i0,hi,hz0,hz1,hz2⟩:=info_parts Vw;have heq:=gQ;have HD:Hd (∀w',Ext w w'->_):=fun w' hx=>VG hn w' (hst.ext hx)
 have H:=hid h;have HK:=hid hk;obtain⟨new,hnew⟩:=hpre;have HPre:Hd (∀j (hj:j<ops0.length),∃hj':j<ops.length,ops0[j]=ops[j]):=fun j hj=>by subst hnew;exact⟨by simp;omega,by rw [List.getElem_append_left hj]⟩
 obtain⟨n,hnn⟩:∃n,ops.length=n:=⟨_,rfl⟩
 obtain⟨n0,hn0⟩:∃n0,ops0.length=n0:=⟨_,rfl⟩
 have HN:=hid hnn;have HN0:=hid hn0;have hnl:n0<=n:=by rw [<-hnn,<-hn0,hnew,List.length_append];omega
 obtain⟨oa,ocap,hov,hor⟩:=h.orow;have HOR:Hd _:=hor;rw [hn0] at hov;rw [hnn] at hn HD;have hblk:=h.blk;unfold Zp at hblk;rw [hov] at hblk;have c0:w.cell? ⟨P,0,none⟩=some (.pointer (some ⟨B,0,none⟩)):=zc hblk rfl;have c3:w.cell? ⟨P,3,none⟩=some (.slice oa n0 ocap):=zc hblk rfl;have hPl:=lG w _ c0;have HBK:Hd _:=hblk;have HOV:=hid hov;clear h hk hnn hn0 hnew hor hst hblk hov;go_enter func41,ntmps41;go_wp2_with fail
 refine(HD.o _ (lI _)).mono ?_;rintro e w1 ⟨l,rfl,hl,hx1⟩;obtain⟨la,lcap,rfl⟩:=zo hl;have HL:=hid hl;have HX1:=hid hx1;have c3:=hx1.cell c3;have hPl1:=lG w1 _ c3;have hsz1:=hx1.le;clear hl hx1 HD;have hnlI:¬(n:Int)<(n0:Int):=by omega
 go_wp2_with fail
 have hdn:decide (n<n0)=false:=by simp;omega
 rw [hdn];clear hdn
 go_loopw [4,5] (fun at_ _ wr=>∃j:Nat,j<=n/\at_=.int .i64 (j:Int)/\Ext w1 wr) (fun at_ _ _=>n - (intOf at_).toNat)
 case atStart=>exact⟨0,Nat.zero_le _,rfl,lI _⟩
 case round=>
  obtain⟨j,hj,rfl,hx⟩:=hrel;have HX:=hid hx;have c3:=hx.cell c3;have hPl2:=lG wr _ c3;clear hx;by_cases hlt:j<n
  ·have hjo:j<ops.length:=by rw [HN.o];exact hlt
   obtain⟨gl,rfl⟩:∃g,la=some ⟨g,0,none⟩:=by
    rcases zw HL.o with⟨_,h2,_⟩|⟨g,c,h1,_⟩
    ·omega
    ·injection h1 with e1 _ _
     exact⟨g,e1⟩
   have hkj:=HK.o ops[j] (List.getElem_mem hjo);have HI:Hd (∀w',_):=fun w'=>gL ops[j] hkj.1 hkj.2 w'
   have hpj:j<n0->∃go,oa=some ⟨go,0,none⟩/\wr.cell? ⟨go,j*4,none⟩=some (.int .i64 ops[j].k)/\wr.cell? ⟨go,j*4+1,none⟩=some (.string ops[j].a)/\wr.cell? ⟨go,j*4+2,none⟩=some (.string ops[j].b)/\wr.cell? ⟨go,j*4+3,none⟩=some (.string ops[j].c):=fun hj0=>by
    have hj0':j<ops0.length:=by rw [HN0.o];exact hj0
    obtain⟨go,e,_,hcell⟩:=HOR.o.resolve_left (by omega);obtain⟨_,heo⟩:=HPre.o j hj0';have hxx:=HX1.o.trans HX.o;have k0:=hxx.cell (hcell (j*4+0) _ ((ZB ops0 j 0 hj0' (by omega)).trans rfl));have k1:=hxx.cell (hcell (j*4+1) _ ((ZB ops0 j 1 hj0' (by omega)).trans rfl));have k2:=hxx.cell (hcell (j*4+2) _ ((ZB ops0 j 2 hj0' (by omega)).trans rfl));have k3:=hxx.cell (hcell (j*4+3) _ ((ZB ops0 j 3 hj0' (by omega)).trans rfl));rw [heo] at k0 k1 k2 k3;exact⟨go,e,k0,k1,k2,k3⟩
   have e0:wr.cell? ⟨gl,j*4,none⟩=some (.int .i64 ops[j].k):=HX.o.cell (zk HL.o ((ZB ops j 0 hjo (by omega)).trans rfl));have e1:wr.cell? ⟨gl,j*4+1,none⟩=some (.string ops[j].a):=HX.o.cell (zk HL.o ((ZB ops j 1 hjo (by omega)).trans rfl));have e2:wr.cell? ⟨gl,j*4+2,none⟩=some (.string ops[j].b):=HX.o.cell (zk HL.o ((ZB ops j 2 hjo (by omega)).trans rfl));have e3:wr.cell? ⟨gl,j*4+3,none⟩=some (.string ops[j].c):=HX.o.cell (zk HL.o ((ZB ops j 3 hjo (by omega)).trans rfl));clear hkj;generalize ops[j].k=ok at *;generalize ops[j].a=oA at *;generalize ops[j].b=oB at *;generalize ops[j].c=oC at *;have hk0:(0:Int)<=(j:Int):=by omega
   have hk1:(j:Int)<n:=by omega
   have hgl:=lG wr _ e0;go_wp2_with fail
   refine(HI.o _).mono ?_;rintro e w2 ⟨rfl,hx2⟩;have c3:=hx2.cell c3;have e0:=hx2.cell e0;have e1:=hx2.cell e1;have e2:=hx2.cell e2;have e3:=hx2.cell e3;have HX2:Hd (Ext w1 w2):=HX.o.trans hx2;by_cases hj0:j<n0
   ·obtain⟨go,rfl,d0,d1,d2,d3⟩:=hpj hj0;have d0:=hx2.cell d0;have d1:=hx2.cell d1;have d2:=hx2.cell d2;have d3:=hx2.cell d3;have hd:decide ((j:Int)<(n0:Int))=true:=by simp;omega
    have hj0I:(j:Int)<(n0:Int):=by omega
    clear hx2 hpj;go_wp2;go_quiet (fail)
    go_wp2
    go_roundw
    case rel=>exact⟨j+1,by omega,by go_num,HX2.o.drewN _⟩
    case measure=>simp [intOf];omega
   ·have hd:decide ((j:Int)<(n0:Int))=false:=by simp;omega
    clear hx2 hpj;go_wp2;go_quiet (fail)
    go_wp2
    go_roundw
    case rel=>exact⟨j+1,by omega,by go_num,HX2.o.drewN _⟩
    case measure=>simp [intOf];omega
  ·obtain rfl:j=n:=by omega
   clear hlt hj;have HXr:Hd (Ext w wr):=HX1.o.trans HX.o;have hszr:=HXr.o.le;go_wp2_with (at_make;refine wpList_make_full _ rfl _ _ 69 rfl wr.heap.size 134 i0 _ 4 underlying69 hi hz0 hz1 _ _ _ _ j rfl rfl (by omega) (by omega) (by rw [hz2];omega) (by unfold maxLen;omega) (Nat.le_refl _) ?_)
   intro w6 ho6 hg6;have hx6:Ext wr w6:=Ext.grown (lI wr) hg6 (by simp);obtain⟨gm,hgm⟩:∃gm,wr.heap.size=gm:=⟨_,rfl⟩
   rw [hgm] at ho6 ⊢;have HM6:=hid ho6;have HX6:=hid hx6;have HGM:=hid hgm;have hb6:=hx6.block (HXr.o.block HBK.o);have c36:w6.cell? ⟨P,3,none⟩=some (.slice oa n0 ocap):=zc hb6 rfl;have f36:=ze hb6 3;have hPl6:=lG w6 _ c36;have HB6:Hd _:=hb6;have hPg:P≠gm:=by rw [<-hgm];omega
   have hgm6:gm<w6.heap.size:=(Array.getElem?_eq_some_iff.1 (zf ho6 (g:=gm) rfl).choose_spec).1;clear ho6 hg6 hx6 hb6;go_wp2_with fail
   have HB7:Hd ((w6.setCell ⟨P,3,none⟩ (.slice (some ⟨gm,0,none⟩) j j)).heap[P]?=some (.cells (Zp B { v with ov:=.slice (some ⟨gm,0,none⟩) j j }) 94 (0,0))):=zg HB6.o _;have HT7:Hd (Turn (fun b=>b=P) w (w6.setCell ⟨P,3,none⟩ (.slice (some ⟨gm,0,none⟩) j j))):=Turn.setCell (S:=fun b=>b=P) (p:=⟨P,3,none⟩) (Turn.of_ext (HXr.o.trans HX6.o)) (fun _=>rfl) _;have HM7:Hd ((w6.setCell ⟨P,3,none⟩ (.slice (some ⟨gm,0,none⟩) j j)).ownsRow gm 134 4 (.slice (some ⟨gm,0,none⟩) j j) j _):=zi HM6.o (by simp [lH];omega) _;have HL7:Hd ((w6.setCell ⟨P,3,none⟩ (.slice (some ⟨gm,0,none⟩) j j)).ownsRow w.heap.size 134 4 (.slice la j lcap) j (zz ops)):=zi (HX6.o.owns (HX.o.owns HL.o)) (fun e=>by have:=(lR.lt HL.o P e).1;omega) _;have h7s:(w6.setCell ⟨P,3,none⟩ (.slice (some ⟨gm,0,none⟩) j j)).heap.size=w6.heap.size:=by simp
   generalize World.setCell w6 _ _=w7 at HB7 HT7 HM7 HL7 h7s ⊢;have c37:w7.cell? ⟨P,3,none⟩=some (.slice (some ⟨gm,0,none⟩) j j):=zc HB7.o rfl;have hPl7:=lG w7 _ c37;have hcopy:∃w8,(∀ty,(Builtin.copy_ #[69,69] ty #[.slice (some ⟨gm,0,none⟩) j j,.slice la j lcap]).run Tryz.prog w7=.ok (goInt j) w8)/\Turn (fun b=>b=gm) w7 w8/\(∀i u,(zz ops)[i]?=some u->w8.cell? ⟨gm,i,none⟩=some u)/\∃cur,w8.heap[gm]?=some (.cells cur 134 (0,0)):=by
    obtain⟨cur,hcur⟩:=zf HM7.o (g:=gm) rfl;have hlo:(zz ops).length=j*4:=by rw [xE,HN.o]
    rcases zw HL7.o with⟨_,hj0,_⟩|⟨gl,c',h1,_⟩
    ·have hr:=fun ty=>vo (P:=Tryz.prog) w7 69 69 ty 134 4 (some ⟨gm,0,none⟩) la j lcap underlying69 (by rw [hi];simp [hz1])
     refine⟨w7,fun ty=>?_,Turn.refl _ _,fun i u hu=>?_,cur,hcur⟩
     ·have:=hr ty;rw [hj0] at this ⊢;exact this
     ·have hil:=(List.getElem?_eq_some_iff.1 hu).1;omega
    ·injection h1 with e1 _ e3
     subst e1;have hcsz:cur.size=j*4:=by
      rcases HM7.o.2 with⟨hh,_⟩|⟨g2,c2,cur2,hh,_,hh3,_,_,hh6,_⟩
      ·simp at hh
      ·simp at hh;obtain⟨rfl,rfl⟩:=hh;rw [hcur] at hh3;injection hh3 with hh3
       injection hh3 with hh3 _ _
       rw [hh3];exact hh6
     have hr:=fun ty=>XS (P:=Tryz.prog) w7 69 69 ty 134 4 gm j j ⟨gl,0,none⟩ lcap cur 134 (zz ops) underlying69 (by rw [hi];simp [hz1]) hcur hlo hcsz (fun a u hu=>by rw [Z1];simpa using zk HL7.o hu) (kH ops)
     refine⟨w7.setRow gm (zz ops).toArray,hr,Ud _ _ _,fun i u hu=>?_,(zz ops).toArray,setRow_heap w7 gm cur _ _ _ hcur⟩;rw [cell_of_row _ gm i _ _ _ (setRow_heap w7 gm cur _ _ _ hcur)];simpa using hu
   obtain⟨w8,hrun,hT8,hcell8,hcur8⟩:=hcopy;have HR8:=hid hrun;have HT8:=hid hT8;have HC8:=hid hcell8;clear hrun hT8 hcell8 hcur8;rw [HR8.o];have HG8:Hd (GameOf w8 P B (fun b=>G b\/b=gm) { v with ov:=.slice (some ⟨gm,0,none⟩) j j } q S ls ops c/\GStep (fun b=>w.heap.size<=b) w w8 P v { v with ov:=.slice (some ⟨gm,0,none⟩) j j } G (fun b=>G b\/b=gm)):=by have hT:Turn (fun b=>b=P) w w8:=HT7.o.trans' HT8.o (fun b hb e=>by have:=HGM.o;omega);exact H.o.setOv hT (HT8.o.ref HB7.o (fun e=>hPg e)) (by have:=HGM.o;omega) (rA (by omega) HT8.o.size) HN.o.symm HC8.o
   have HL8:Hd (w8.ownsRow w.heap.size 134 4 (.slice la j lcap) j (zz ops)):=HT8.o.owns HL7.o (fun b hb e=>by have h1:=zx HL.o hb;have h2:=HX.o.le;have h3:=HGM.o;omega)
   have hb8:=HG8.o.1.blk;have hPl8:P<w8.heap.size:=(Array.getElem?_eq_some_iff.1 hb8).1;have hs8:w.heap.size<=w8.heap.size:=HG8.o.2.turn.size;clear c37 hb8;go_wp2_with fail
   refine(UR HG8.o.1 hc w.heap.size la j lcap (zz ops) (by omega) HL8.o hs8 (fun b hb hg=>?_) (fun b=>w.heap.size<=b) (fun b hb=>?_)).mono ?_
   ·have h1:=lR.lt HL.o b hb;rcases hg with e|e
    ·have:=H.o.ltG b e;omega
    ·have h2:=HX.o.le;have h3:=HGM.o;omega
   ·rcases hb with e|e
    ·exact(lR.lt HL8.o b e).1
    ·omega
   rintro e w9 ⟨rfl,bv',G',hg9,hs9⟩;have HF:Hd _:=And.intro hg9 hs9;clear hg9 hs9;go_wp2;go_ret;exact⟨rfl,_,_,HF.o.1,HG8.o.2.trans HF.o.2 (fun b hb=>hb),rfl,rfl,rfl,rfl⟩
end
end
end Go.Proofs.YtmnjhhachdlmkaaGreat
