import Derived.ShutString
import Derived.ChangeOld
import Derived.JoinedCond
import Derived.Test.YtmnjhhachdlmkaaGreatK27
namespace Go.Proofs.YtmnjhhachdlmkaaGreat
set_option linter.all false
set_option maxRecDepth 100000
open List renaming mem_map -> sC
open World renaming block_lt_of_cell? -> lG
section
open Go.ChangeShapes Go.WideShapes Go.ChangeAt Go.RowKit Go.Joins
section
variable {H:Type}{enc:TypeId×Value->H}{W:World}
theorem kM (b off i:Nat):(⟨b,off,none⟩:Addr).add i=⟨b,off+i,none⟩:=by unfold Addr.add;split<;>simp_all
theorem xu {fuel:Nat}{v:Value}{y:DataW H×List MemPlace}(h:DataW.trod enc Tryz.prog W 0 (fun _=>true) true fuel 22 [v]=some y)(hb:Rows.uptoBulk y.1<=1048576) :
  ∃(a:Option Addr) (n cap:Nat),v=.slice a n cap/\n<=60000/\ScriptAt W W.heap.size a n:=by
 rcases Go.Deep.open_slice Tryz.underlying22 h with⟨hcs,_⟩|⟨a,len,cap,m,n,D,Pl,hcs,_,hl,_,hm,rfl,hx⟩
 ·exact⟨none,0,0,by simpa using hcs,by omega,.inl rfl⟩
 ·simp only [if_true] at hm;subst hm;simp only [Rows.uptoBulk] at hb;have hd:∀i,i<len->Rows.uptoBulk (D i)<=1048576:=fun i hi=>by
   have:=Jv (d:=D i) (l:=(List.range len).map D) (sC.2 ⟨i,by simpa using hi,rfl⟩);omega
  have h18:=UT ((List.range len).map D) 18 (fun d hd'=>by
   obtain⟨i,hi,rfl⟩:=sC.1 hd';have hi':i<len:=by simpa using hi
   obtain⟨cs',_,ht⟩:=hx i (by omega);exact(Vt ht (hd i hi')).1)
  simp only [List.length_map,List.length_range] at h18;refine⟨some a,len,m,by simpa using hcs,by omega,?_⟩;by_cases h0:len=0
  ·exact .inl h0
  right
  obtain⟨b,off,spot⟩:=a;rw [vQ] at hx;have hspot:spot=none:=by obtain⟨cs',hc,_⟩:=hx 0 (by omega);obtain⟨_,hlen,hcell⟩:=World.cells?_some hc;have h1:=hcell 0 (by omega);rw [List.getElem?_eq_getElem (by omega)] at h1;simpa [Addr.add] using World.cell?_spot h1
  subst hspot;have each:∀i,i<len->∃cs:Array Value,StepIs W W.heap.size cs/\cs.size=21/\∀j v,cs[j]?=some v->W.cell? ⟨b,off+i*21+j,none⟩=some v:=fun i hi=>by
   obtain⟨cs',hc,ht⟩:=hx i (by omega);obtain⟨_,hlen,hcell⟩:=World.cells?_some hc;obtain⟨_,sk,sa,sb,kd,m,k,n,r0,r1,r2,r3,r4,r5,r6,r7,r8,r9,st,ss,ca,cl,ccap,a,len,cap,D,h1,h12,h2,h3,h4,h5,h6,h7⟩:=Vt ht (hd i hi);refine⟨cs'.toArray,⟨sk,sa,sb,kd,m,k,n,r0,r1,r2,r3,r4,r5,r6,r7,r8,r9,st,ss,ca,cl,ccap,a,len,cap,D,by rw [h1],h12,h2,h3,h4,h5,h6,h7⟩,by simpa using hlen,fun j v hv=>?_⟩;have hv':cs'[j]?=some v:=by simpa using hv
   have hj:j<21:=by have:=(List.getElem?_eq_some_iff.1 hv').1;omega
   have:=hcell j hj;rw [kM,kM,hv'] at this;exact this
  refine⟨b,off,rfl,?_,fun i hi=>by obtain⟨cs,h1,_,h3⟩:=each i hi;exact⟨cs,h1,h3⟩⟩;obtain⟨cs,_,h2,h3⟩:=each 0 (by omega);exact lG W _ (h3 0 cs[0] (Array.getElem?_eq_getElem (by omega)))
end
end
section
open Go.ChangeShapes Go.WideShapes Go.ChangeAt Go.RowKit Go.Joins
theorem gZ:ownKnob Tryz.prog.godebug=none:=by kernel_rfl
theorem uW:laidOutB Tryz.prog=true:=by kernel_rfl
theorem xL (H:Type)(enc:TypeId×Value->H)(W:World)(base:Nat)(args:Array Value)(ds gs:List (DataW H))(before:List MemPlace)
  (hval:∀(j:Nat) t v,Tryz.f4.params[j]?=some t->args[j]?=some v->Value.okWide Tryz.prog W .any base t v)
  (hW:DataW.Whole enc Tryz.prog Tryz.f4.params.toList Rows.servesSpec.vars false W args.toList ds gs before) (hk:Rows.uptoSmall H (ds++gs)=true) :
  Calls Tryz.prog 4 args W fun e W'=>∃v,e=.returned v/\Rows.servesSpec.post enc Tryz.prog Tryz.f4 false true false false W args v W':=by
 have hW':=hW;obtain⟨p,q,hA0,hV,rfl,hfz,hnd⟩:=hW;have hA:DataW.TrodAll enc Tryz.prog W 0 (fun _=>true) true Tryz.f4.params.toList args.toList ds p:=hA0;rw [Tryz.params4] at hA hval;obtain⟨v0,vs0,d0,ds0,p0,q0,hargs,rfl,rfl,h0,r0⟩:=trodAll_cons hA;obtain⟨rfl,rfl,rfl⟩:=trodAll_nil r0;obtain rfl:args=#[v0]:=by cases args;simp_all
 obtain⟨rfl,rfl⟩:=trodVars_none hV;have k0:=h0;have lt0:∀x∈p0,x.block<W.heap.size:=by obtain⟨m,hm⟩:=k0;exact DataW.trod_lt m _ _ _ hm
 have hbulk:Rows.uptoBulk d0<=1048576:=by have h:Rows.uptoBulkAll ([d0]++[])<=1048576:=of_decide_eq_true hk;simpa [Rows.uptoBulkAll] using h
 obtain⟨a0,len0,cap0,rfl⟩:=okWide_slice Tryz.underlying22 (hval 0 22 v0 rfl rfl);obtain⟨a,n,cap,hv,hn,hs⟩:∃(a:Option Addr) (n cap:Nat),Value.slice a0 len0 cap0=.slice a n cap/\n<=60000/\ScriptAt W W.heap.size a n:=by obtain⟨fuel,hf⟩:=h0;exact xu (y:=(d0,p0)) hf hbulk
 injection hv with e1 e2 e3
 subst e1;subst e2;subst e3;clear hA0 h0;refine(uc W _ _ _ hn hs).mono fun e W' ⟨he,bel⟩=>?_
 subst he;exact⟨_,rfl,_,_,_,[],_,[],hW',trodAll_mk1 (shut_bool Tryz.underlying4 _),trodAll_cons_mk (Below.trod uW (by kernel_rfl) (of_decide_eq_true (by kernel_rfl)) k0 bel lt0) trodAll_mk0,rfl,bel.frame _,fun h=>by cases h⟩
theorem vM (os:Os)(started:os.Started)(H:Type)(enc:TypeId×Value->H)(F:Stop.Interp) :
  ReturnsInHanded {} Tryz.checked os 4 .any ((Rows.OpenSpec.upto Rows.servesSpec).pre6 enc Tryz.prog Tryz.f4 Rows.servesUptoRow.domain false) (((Rows.OpenSpec.upto Rows.servesSpec).at F).post enc Tryz.prog Tryz.f4 false true false false):=by
 refine returnsInHanded_of_cond (C:=Tryz.checked) (s:=Rows.OpenSpec.upto Rows.servesSpec) (k:=Rows.uptoSmall) rfl gZ started (by kernel_rfl) Tryz.func4
  (OpenSpec.witness (enc:=enc) (C:=Tryz.checked) (s:=Rows.OpenSpec.upto Rows.servesSpec) (k:=Rows.uptoSmall) rfl false ⟨#[],#[.slice none 0 0],[]⟩ 8 (by kernel_rfl) (by kernel_rfl) (by kernel_rfl)
    (x:=([.nil],[],[])) (by kernel_rfl) rfl (by kernel_rfl)) ?_
 intro W base args ds gs before hval hW _ hk _;exact xL H enc W base args ds gs before hval hW hk
theorem uA:Rows.servesUptoRow.holds Tryz.pinned (Rows.OpenSpec.upto Rows.servesSpec):=
 OpenClaim.holds_of_cond 4 Tryz.f4 rfl rfl rfl rfl rfl rfl rfl ⟨rfl,rfl,rfl,rfl,rfl⟩ rfl rfl rfl rfl rfl (by kernel_rfl) Tryz.func4 (by kernel_rfl)
  (of_decide_eq_true (by kernel_rfl)) (by unfold Func.isWrapper;first|(rw [if_pos (by decide +kernel)];kernel_rfl)|(rw [if_neg (by decide +kernel)];exact⟨rfl,rfl⟩))
  (fun os started H enc _ F=>vM os started H enc F)
theorem serves_holds:Rows.ServesUptoSaid:=uA
theorem XX (H:Type)(enc:TypeId×Value->H)(W:World)(base:Nat)(args:Array Value)(ds gs:List (DataW H))(before:List MemPlace)
  (hval:∀(j:Nat) t v,Tryz.f5.params[j]?=some t->args[j]?=some v->Value.okWide Tryz.prog W .any base t v)
  (hW:DataW.Whole enc Tryz.prog Tryz.f5.params.toList Rows.failsSpec.vars false W args.toList ds gs before) (hk:Rows.uptoSmall H (ds++gs)=true) :
  Calls Tryz.prog 5 args W fun e W'=>∃v,e=.returned v/\Rows.failsSpec.post enc Tryz.prog Tryz.f5 false true false false W args v W':=by
 have hW':=hW;obtain⟨p,q,hA0,hV,rfl,hfz,hnd⟩:=hW;have hA:DataW.TrodAll enc Tryz.prog W 0 (fun _=>true) true Tryz.f5.params.toList args.toList ds p:=hA0;rw [Tryz.params5] at hA hval;obtain⟨v0,vs0,d0,ds0,p0,q0,hargs,rfl,rfl,h0,r0⟩:=trodAll_cons hA;obtain⟨rfl,rfl,rfl⟩:=trodAll_nil r0;obtain rfl:args=#[v0]:=by cases args;simp_all
 obtain⟨rfl,rfl⟩:=trodVars_none hV;have k0:=h0;have lt0:∀x∈p0,x.block<W.heap.size:=by obtain⟨m,hm⟩:=k0;exact DataW.trod_lt m _ _ _ hm
 have hbulk:Rows.uptoBulk d0<=1048576:=by have h:Rows.uptoBulkAll ([d0]++[])<=1048576:=of_decide_eq_true hk;simpa [Rows.uptoBulkAll] using h
 obtain⟨a0,len0,cap0,rfl⟩:=okWide_slice Tryz.underlying22 (hval 0 22 v0 rfl rfl);obtain⟨a,n,cap,hv,hn,hs⟩:∃(a:Option Addr) (n cap:Nat),Value.slice a0 len0 cap0=.slice a n cap/\n<=60000/\ScriptAt W W.heap.size a n:=by obtain⟨fuel,hf⟩:=h0;exact xu (y:=(d0,p0)) hf hbulk
 injection hv with e1 e2 e3
 subst e1;subst e2;subst e3;clear hA0 h0;refine(UW W _ _ _ hn hs).mono fun e W' ⟨he,bel⟩=>?_
 subst he;exact⟨_,rfl,_,_,_,[],_,[],hW',trodAll_mk1 (shut_bool Tryz.underlying4 _),trodAll_cons_mk (Below.trod uW (by kernel_rfl) (of_decide_eq_true (by kernel_rfl)) k0 bel lt0) trodAll_mk0,rfl,bel.frame _,fun h=>by cases h⟩
theorem V0 (os:Os)(started:os.Started)(H:Type)(enc:TypeId×Value->H)(F:Stop.Interp) :
  ReturnsInHanded {} Tryz.checked os 5 .any ((Rows.OpenSpec.upto Rows.failsSpec).pre6 enc Tryz.prog Tryz.f5 Rows.failsUptoRow.domain false) (((Rows.OpenSpec.upto Rows.failsSpec).at F).post enc Tryz.prog Tryz.f5 false true false false):=by
 refine returnsInHanded_of_cond (C:=Tryz.checked) (s:=Rows.OpenSpec.upto Rows.failsSpec) (k:=Rows.uptoSmall) rfl gZ started (by kernel_rfl) Tryz.func5
  (OpenSpec.witness (enc:=enc) (C:=Tryz.checked) (s:=Rows.OpenSpec.upto Rows.failsSpec) (k:=Rows.uptoSmall) rfl false ⟨#[],#[.slice none 0 0],[]⟩ 8 (by kernel_rfl) (by kernel_rfl) (by kernel_rfl)
    (x:=([.nil],[],[])) (by kernel_rfl) rfl (by kernel_rfl)) ?_
 intro W base args ds gs before hval hW _ hk _;exact XX H enc W base args ds gs before hval hW hk
theorem UC:Rows.failsUptoRow.holds Tryz.pinned (Rows.OpenSpec.upto Rows.failsSpec):=
 OpenClaim.holds_of_cond 5 Tryz.f5 rfl rfl rfl rfl rfl rfl rfl ⟨rfl,rfl,rfl,rfl,rfl⟩ rfl rfl rfl rfl rfl (by kernel_rfl) Tryz.func5 (by kernel_rfl)
  (of_decide_eq_true (by kernel_rfl)) (by unfold Func.isWrapper;first|(rw [if_pos (by decide +kernel)];kernel_rfl)|(rw [if_neg (by decide +kernel)];exact⟨rfl,rfl⟩))
  (fun os started H enc _ F=>V0 os started H enc F)
theorem fails_holds:Rows.FailsUptoSaid:=UC
end
end Go.Proofs.YtmnjhhachdlmkaaGreat
