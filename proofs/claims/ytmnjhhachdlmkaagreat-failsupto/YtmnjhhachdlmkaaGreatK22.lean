import Derived.Test.YtmnjhhachdlmkaaGreatK21
namespace Go.Proofs.YtmnjhhachdlmkaaGreat
set_option linter.all false
set_option maxRecDepth 100000
set_option maxHeartbeats 800000
open Tryz
open World renaming ownsRow_nil -> rB
open List renaming append_nil -> rL, getElem_mem -> lV, getD_eq_getElem?_getD -> rT, getElem?_eq_getElem -> lZ, length_append -> lW, mem_map -> sC
open Turn renaming of_ext -> lM
open StkR renaming abs -> lL
open Int renaming eq_ofNat_of_zero_le -> rZ
open Nat renaming lt_of_lt_of_le -> rA, le_trans -> rH
open Go.RowKit Go.Maps
open Value renaming ownBlock -> lH
section
theorem kA (k s i ck cm cl cn f c p:Int)(h1:(k == 1)=false)(h2:(k == 2)=false)(h3:(k == 3)=false)(h4:(k == 4)=false)(w:World) :
  Calls Tryz.prog 55 #[.agg #[.int .i64 k,.int .i64 s,.int .i64 i,.int .i64 ck,.int .i64 cm,.int .i64 cl,.int .i64 cn,.int .i64 f,.int .i64 c,.int .i64 p]] w fun e w'=>
   e=.returned (.tuple #[.nilIface,.int .i64 1])/\Ext w w':=by
 go_enter func55,ntmps55;go_wp2_with (go_at_call 84;refine(Vl k s i ck cm cl cn f c p h1 h2 h3 h4 _).mono ?_;rintro e w1 ⟨rfl,hx⟩)
 have HX:Ext w w1:=(Ext.refl w).alloc _ |>.trans hx;clear hx;go_quiet (fail)
 go_wp2;go_ret2;exact⟨rfl,HX.drewN _⟩
theorem Vj {kn fl:Bool}{ah:Int}{S:List Stk}{ls:List LsV}{rec:ByteArray}:∀o∈ZM fl ah (ZA kn S ls rec),0<=o.k/\o.k<=5:=fun o ho=>by
 have h1:=List.mem_of_mem_take ho;unfold ZA at h1;split at h1
 ·simp only [xY,List.mem_cons,List.not_mem_nil,or_false] at h1;rcases h1 with rfl|rfl<;>simp
 ·simp only [yH,List.mem_cons,List.not_mem_nil,or_false] at h1;rcases h1 with rfl|rfl|rfl|rfl<;>simp
theorem XP {kn fl:Bool}{ah:Int}{n:Nat}{l:List OpV}(hah:yv fl ah)(hn:l.length=n)(h1:1<=n)(h4:n<=4) :
  (Zg fl ah n=true/\ZM fl ah l≠[]/\(ZM fl ah l).length<=4/\(fl=true->((ZM fl ah l).length:Int)<=ah)/\ZZ fl ah n=fl/\ye fl ah n=Zr fl ah (ZM fl ah l).length)\/
  (Zg fl ah n=false/\fl=true/\ah=((ZM fl ah l).length:Int)/\(ZM fl ah l).length<=4/\ZZ fl ah n=false):=by
 have hl:=Y7 fl ah hah l;rw [hn] at hl;by_cases hb:fl=true/\ah<n
 ·right
  have h0:=hah hb.1;have e1:YI fl ah n=ah.toNat:=by unfold YI;rw [if_pos hb]
  refine⟨by simp [Zg,hb.1,hb.2],hb.1,by rw [hl,e1];omega,by rw [hl,e1];omega,by simp [ZZ,hb.2]⟩
 ·left
  have e1:YI fl ah n=n:=by unfold YI;rw [if_neg hb]
  rw [e1] at hl;refine⟨?_,fun e=>by rw [e] at hl;simp at hl;omega,by omega,fun hf=>?_,?_,by rw [hl];unfold ye;rw [if_neg hb]⟩
  ·unfold Zg;cases fl
   ·rfl
   ·simp at hb ⊢;exact hb
  ·rw [hl];have:¬ah<n:=fun h=>hb ⟨hf,h⟩
   omega
  ·unfold ZZ;cases fl
   ·rfl
   ·simp at hb ⊢;exact hb
def X1 (kk:Int):TypeId:=if kk=1 then 201 else if kk=2 then 203 else if kk=3 then 205 else 207
def qW (kk s i kd m k n f c p:Int)(W:World)(rb:Nat):Prop:=
 (kk=1/\inB s i kd m k n f c p (f == 0 && p == 0)=true/\Zh W rb s i kd m k n c)\/(kk=2/\inB s i kd m k n f c p (i == 0)=true/\yi W rb s kd m k n f c p)\/
 (kk=3/\inB s i kd m k n f c p ((kd == 0 && (m == 0 && (k == 0 && n == 0))) && (f == 0 && (c == 0 && p == 0)))=true/\Zf W rb s i)\/(kk=4/\inB s i kd m k n f c p (s == 0 && (i == 0 && (f == 0 && (c == 0 && p == 0))))=true/\yE W rb kd m k n)
theorem gi {s i kd m k n f c p:Int}{W:World}{rb:Nat}(h:qW 1 s i kd m k n f c p W rb):inB s i kd m k n f c p (f == 0 && p == 0)=true/\Zh W rb s i kd m k n c:=by
 rcases h with h|h|h|h
 ·exact h.2
 all_goals exact absurd h.1 (by decide)
theorem gz {s i kd m k n f c p:Int}{W:World}{rb:Nat}(h:qW 2 s i kd m k n f c p W rb):inB s i kd m k n f c p (i == 0)=true/\yi W rb s kd m k n f c p:=by
 rcases h with h|h|h|h
 ·exact absurd h.1 (by decide)
 ·exact h.2
 all_goals exact absurd h.1 (by decide)
theorem gD {s i kd m k n f c p:Int}{W:World}{rb:Nat}(h:qW 3 s i kd m k n f c p W rb):inB s i kd m k n f c p ((kd == 0 && (m == 0 && (k == 0 && n == 0))) && (f == 0 && (c == 0 && p == 0)))=true/\Zf W rb s i:=by
 rcases h with h|h|h|h
 ·exact absurd h.1 (by decide)
 ·exact absurd h.1 (by decide)
 ·exact h.2
 ·exact absurd h.1 (by decide)
theorem gF {s i kd m k n f c p:Int}{W:World}{rb:Nat}(h:qW 4 s i kd m k n f c p W rb):inB s i kd m k n f c p (s == 0 && (i == 0 && (f == 0 && (c == 0 && p == 0))))=true/\yE W rb kd m k n:=by
 rcases h with h|h|h|h
 ·exact absurd h.1 (by decide)
 ·exact absurd h.1 (by decide)
 ·exact absurd h.1 (by decide)
 ·exact h.2
theorem AskAns.o1 {B:Nat}{s i kd m k n f c p:Int}{req:Value}{w:World}{Pp:World->World->Int->Int->Int->Value->Prop}(h:AskAns B 201 (fun W rb=>Zh W rb s i kd m k n c) req w Pp):AskAns B (X1 1) (qW 1 s i kd m k n f c p) req w Pp:=⟨h.ask,fun w1 rb hx hr hq=>h.ans w1 rb hx hr (gi hq).2⟩
theorem AskAns.o2 {B:Nat}{s i kd m k n f c p:Int}{req:Value}{w:World}{Pp:World->World->Int->Int->Int->Value->Prop}(h:AskAns B 203 (fun W rb=>yi W rb s kd m k n f c p) req w Pp):AskAns B (X1 2) (qW 2 s i kd m k n f c p) req w Pp:=⟨h.ask,fun w1 rb hx hr hq=>h.ans w1 rb hx hr (gz hq).2⟩
theorem AskAns.o3 {B:Nat}{s i kd m k n f c p:Int}{req:Value}{w:World}{Pp:World->World->Int->Int->Int->Value->Prop}(h:AskAns B 205 (fun W rb=>Zf W rb s i) req w Pp):AskAns B (X1 3) (qW 3 s i kd m k n f c p) req w Pp:=⟨h.ask,fun w1 rb hx hr hq=>h.ans w1 rb hx hr (gD hq).2⟩
theorem AskAns.o4 {B:Nat}{s i kd m k n f c p:Int}{req:Value}{w:World}{Pp:World->World->Int->Int->Int->Value->Prop}(h:AskAns B 207 (fun W rb=>yE W rb kd m k n) req w Pp):AskAns B (X1 4) (qW 4 s i kd m k n f c p) req w Pp:=⟨h.ask,fun w1 rb hx hr hq=>h.ans w1 rb hx hr (gF hq).2⟩
def Qq (A:Ans)(w w'':World)(B:Nat)(F:Nat->Prop)(R:List StkR)(ls:List LsV)(ops:List OpV)(fl:Bool)(ah:Int)(e:Ending):Prop:=
 ∃c0 f0 n0 zs ra rl rc R' ls' F' new fl' ah',e=.returned (zr c0 f0 n0 (.slice ra rl rc))/\zs.length<=100000000/\AskSo A w w'' B F R ls ops fl ah c0 f0 n0 zs (.slice ra rl rc) R' ls' F' new fl' ah'
structure AskDoes (A:Ans)(B:Nat)(F:Nat->Prop)(R:List StkR)(ls:List LsV)(ops:List OpV)(fl:Bool)(ah:Int)(tt:TypeId)(Q:World->Nat->Prop)(req:Value)(w:World):Prop where
 ask:Calls Tryz.prog 20 #[.pointer (some ⟨B,0,none⟩),req] w fun e w''=>Qq A w w'' B F R ls ops fl ah e
 ans:∀w1 rb,Ext w w1->w.heap.size<=rb->Q w1 rb->Calls Tryz.prog 54 #[.pointer (some ⟨B,0,none⟩),.iface tt (.pointer (some ⟨rb,0,none⟩)),.int .i64 0] w1 fun e w''=>Qq A w1 w'' B F R ls ops fl ah e
def xQ (A:Ans)(G:Nat->Prop)(q:Nat)(req:Value)(w:World):Prop:=
 Calls Tryz.prog 149 #[.pointer (some ⟨q,0,none⟩),req] w fun e w''=>∃pv v,e=.returned (.tuple #[pv,zr A.c A.f A.n v])/\RefSo G A w w'' pv v
section
variable {w:World}{B q:Nat}{G F:Nat->Prop}{R:List StkR}{ls:List LsV}{ops:List OpV}{fl:Bool}{ah:Int}{kn:Bool}{req:Value}{tt:TypeId}{Q:World->Nat->Prop}{f:FuncId}{args:Array Value}
theorem Qi {c0 f0 n0:Int}(hst:StoreOk w B F R ls ops fl ah)(h:zA f args w (yc c0 f0 n0)):Calls Tryz.prog f args w fun e w''=>Qq ⟨c0,f0,n0,[],none⟩ w w'' B F R ls ops fl ah e:=by refine Calls.mono h ?_;rintro e w' ⟨c,f,n,a,l,cap,he,rfl,rfl,rfl,hv,hx⟩;rw [hv] at he;exact⟨c,f,n,[],none,0,0,R,ls,F,[],fl,ah,he,by simp,rB _ _ _ _,by rw [rL];exact hst.ext hx,lM hx,fun b hb=>.inl hb,fun b hb=>by simp [lH] at hb,⟨.inl ⟨rfl,rfl⟩⟩⟩
theorem Xh {f0 n0:Int}{zs:List Int}(hz:zs.length<=100000000)(hst:StoreOk w B F R ls ops fl ah)(h:zA f args w (vd f0 n0 zs)):Calls Tryz.prog f args w fun e w''=>Qq ⟨0,f0,n0,zs,none⟩ w w'' B F R ls ops fl ah e:=by
 refine Calls.mono h ?_;rintro e w' ⟨c,f,n,a,l,cap,he,rfl,rfl,rfl,hv,hx⟩;exact⟨0,f,n,zs,a,l,cap,R,ls,F,[],fl,ah,he,hz,hv,by rw [rL];exact hst.ext hx,lM hx,fun b hb=>.inl hb,fun b hb hf=>by have h1:=(World.ownsRow.lt hv b hb).1;have h2:=hst.lt b hf;omega,⟨.inl ⟨rfl,rfl⟩⟩⟩
theorem DoPost.ok {R':List StkR}{ls':List LsV}{new:List OpV}{fl':Bool}{ah':Int}{kn':Bool}{w':World}(h:DoPost w w' B F R' ls' (ops++new) fl' ah' kn')(hk:∀o∈ops,0<=o.k/\o.k<=5)(hn:∀o∈new,0<=o.k/\o.k<=5):StoreOk w' B (ZO F w w') R' ls' (ops++new) fl' ah'/\Turn F w w':=by obtain⟨sv,lv,dv,h1,h2⟩:=h;exact⟨⟨⟨sv,lv,dv,kn',h1⟩,fun o ho=>(List.mem_append.1 ho).elim (hk o) (hn o)⟩,h2⟩
theorem ua {f0 n0:Int}{R':List StkR}{ls':List LsV}{rec:ByteArray}(hah:yv fl ah)(hst:StoreOk w B F R ls ops fl ah)(h:zA f args w (Xj B F R ls ops fl ah kn rec R' ls' f0 n0)):Calls Tryz.prog f args w fun e w''=>Qq ⟨0,f0,n0,[],some (R'.map lL,ls')⟩ w w'' B F R ls ops fl ah e:=by
 have hlen:=XV kn (R.map lL) ls rec;unfold Xj at h;have hk:=Vj (kn:=kn) (fl:=fl) (ah:=ah) (S:=R.map lL) (ls:=ls) (rec:=rec);rcases XP (kn:=kn) hah rfl (by rw [hlen];split<;>omega) (by rw [hlen];split<;>omega) with⟨h1,h2,h3,h4,h5,h6⟩|⟨h1,h2,h3,h4,h5⟩
 ·rw [if_pos h1] at h;refine Calls.mono h ?_;rintro e w' ⟨c,f,n,a,l,cap,he,rfl,rfl,rfl,hv,hd⟩;rw [hv] at he;obtain⟨hs,ht⟩:=hd.ok hst.kinds hk;rw [h5,h6] at hs;exact⟨0,f,n,[],none,0,0,R',ls',ZO F w w',_,fl,_,he,by simp,rB _ _ _ _,hs,ht,fun b hb=>hb.imp id (fun h=>h.1),fun b hb=>by simp [lH] at hb,⟨.inr (.inl ⟨rfl,h2,h3,rfl,h4,rfl⟩)⟩⟩
 ·rw [if_neg (by rw [h1];decide)] at h;refine Calls.mono h ?_;rintro e w' ⟨c,f,n,a,l,cap,he,rfl,rfl,rfl,hv,hd⟩;rw [hv] at he;obtain⟨hs,ht⟩:=hd.ok hst.kinds hk;rw [h5] at hs;exact⟨10,0,0,[],none,0,0,R,ls,ZO F w w',_,false,_,he,by simp,rB _ _ _ _,hs,ht,fun b hb=>hb.imp id (fun h=>h.1),fun b hb=>by simp [lH] at hb,⟨.inr (.inr ⟨rfl,by simp,rfl,h2,h3,h4,rfl⟩)⟩⟩
theorem yj {c0 f0 n0:Int}(hst:StoreOk w B F R ls ops fl ah)(h:AskAns B tt Q req w (yc c0 f0 n0)):AskDoes ⟨c0,f0,n0,[],none⟩ B F R ls ops fl ah tt Q req w:=
 ⟨Qi hst h.ask,fun w1 rb hx hr hq=>Qi (hst.ext hx) (h.ans w1 rb hx hr hq)⟩
theorem US {f0 n0:Int}{zs:List Int}(hz:zs.length<=100000000)(hst:StoreOk w B F R ls ops fl ah)(h:AskAns B tt Q req w (vd f0 n0 zs)):AskDoes ⟨0,f0,n0,zs,none⟩ B F R ls ops fl ah tt Q req w:=
 ⟨Xh hz hst h.ask,fun w1 rb hx hr hq=>Xh hz (hst.ext hx) (h.ans w1 rb hx hr hq)⟩
theorem uV {f0 n0:Int}{R':List StkR}{ls':List LsV}{rec:ByteArray}(hah:yv fl ah)(hst:StoreOk w B F R ls ops fl ah)(h:AskAns B tt Q req w (Xj B F R ls ops fl ah kn rec R' ls' f0 n0)):AskDoes ⟨0,f0,n0,[],some (R'.map lL,ls')⟩ B F R ls ops fl ah tt Q req w:=
 ⟨ua hah hst h.ask,fun w1 rb hx hr hq=>ua hah (hst.ext hx) (h.ans w1 rb hx hr hq)⟩
end
def vl (l:List Int):Nat->Int:=fun j=>l.getD j 0
theorem g9 (s i kd m k n c:Int):ZD (vl [s,i,kd,m,k,n,c]) leaseL=true↔inB s i kd m k n 0 c 0 true=true:=by simp [ZD,leaseL,vl,inB,Yr,Ym];omega
theorem g8 (s kd m k n f c p:Int):ZD (vl [s,kd,m,k,n,f,c,p]) fetchL=true↔inB s 0 kd m k n f c p true=true:=by simp [ZD,fetchL,vl,inB,Yr,Ym];omega
theorem gP (s i:Int):ZD (vl [s,i]) releaseL=true↔inB s i 0 0 0 0 0 0 0 true=true:=by simp [ZD,releaseL,vl,inB,Yr,Ym]
theorem gX (kd m k n:Int):ZD (vl [kd,m,k,n]) statusL=true↔inB 0 0 kd m k n 0 0 0 true=true:=by simp [ZD,statusL,vl,inB,Yr,Ym];omega
theorem V5 {a b:Bool}(h:a=true↔b=true)(hb:b=false):a=false:=by
 cases a
 ·rfl
 ·rw [h.1 rfl] at hb;cases hb
theorem yN {kk s i kd m k n f c p:Int}(hck:∀w',Calls Tryz.prog 55 #[.agg #[.int .i64 kk,.int .i64 s,.int .i64 i,.int .i64 kd,.int .i64 m,.int .i64 k,.int .i64 n,.int .i64 f,.int .i64 c,.int .i64 p]] w' fun e w''=>e=.returned (.tuple #[.nilIface,.int .i64 1])/\Ext w' w'')(hR:∀w',Calls Tryz.prog 153 #[zN kk s i kd m k n f c p] w' fun e w''=>e=.returned (.bool false)/\Ext w' w'')(hno:∀W rb,¬qW kk s i kd m k n f c p W rb){R:List StkR}{ls:List LsV}{ops:List OpV} :
  (∀w B F fl ah,StoreOk w B F R ls ops fl ah->AskDoes (.code 1) B F R ls ops fl ah (X1 kk) (qW kk s i kd m k n f c p) (zN kk s i kd m k n f c p) w)/\(∀w G q,RefAt w G q (R.map lL) ls->(∀b,G b->b<w.heap.size)->xQ (.code 1) G q (zN kk s i kd m k n f c p) w):=
 ⟨fun w B _F _ _ hst=>⟨Qi hst (Yf (kg B kk s i kd m k n f c p w (fun w' _=>hck w'))),fun w1 rb _ _ hq=>absurd hq (hno w1 rb)⟩,fun w _G q _ hG=>U1 q kk s i kd m k n f c p hR w hG⟩
structure GoodA (A:Ans):Prop where
 ne:A.c≠10
 c:0<=A.c/\A.c<256
 f:0<=A.f/\A.f<4294967296
 n:0<=A.n/\A.n<4294967296
 zs:inU64 A.zs
theorem YD {c0 f0 n0:Int}{nx:Option (List Stk×List LsV)}(h1:0<=c0/\c0<10)(h2:0<=f0/\f0<=1000)(h3:0<=n0/\n0<=1000):GoodA ⟨c0,f0,n0,[],nx⟩:=
 ⟨fun e=>by have e:c0=10:=e;omega,⟨h1.1,by show c0<256;omega⟩,⟨h2.1,by show f0<4294967296;omega⟩,⟨h3.1,by show n0<4294967296;omega⟩,fun _ h=>by simp at h⟩
theorem Vc {c0:Int}(h1:0<=c0/\c0<10):GoodA (.code c0):=YD h1 (by decide) (by decide)
theorem Zv {c0:Int}{s i kd m k n f c p kk:Int}{R:List StkR}{ls:List LsV}{ops:List OpV}(h1:∀w B F fl ah,StoreOk w B F R ls ops fl ah->AskDoes (.code c0) B F R ls ops fl ah (X1 kk) (qW kk s i kd m k n f c p) (zN kk s i kd m k n f c p) w)(h2:∀w G q,RefAt w G q (R.map lL) ls->(∀b,G b->b<w.heap.size)->xQ (.code c0) G q (zN kk s i kd m k n f c p) w)(hc:0<=c0/\c0<10) :
  ∃A:Ans,GoodA A/\(∀w B F fl ah,yv fl ah->StoreOk w B F R ls ops fl ah->AskDoes A B F R ls ops fl ah (X1 kk) (qW kk s i kd m k n f c p) (zN kk s i kd m k n f c p) w)/\(∀w G q,RefAt w G q (R.map lL) ls->(∀b,G b->b<w.heap.size)->xQ A G q (zN kk s i kd m k n f c p) w)/\∀S' ls',A.next=some (S',ls')->InvS S' ls':=
 ⟨.code c0,Vc hc,fun w B F fl ah _=>h1 w B F fl ah,h2,fun S' ls' h=>by simp [Ans.code] at h⟩
theorem yA {G:Nat->Prop}(c f n:Int){w w':World}(hx:Ext w w'):RefSo G ⟨c,f,n,[],none⟩ w w' (.pointer none) (.slice none 0 0):=⟨rB _ _ _ _,hx,.inl ⟨rfl,rfl⟩⟩
theorem gE {x:Stk}{kd m k n:Int}(h:x.is kd m k n=true):(x.kd:Int)=kd/\(x.m:Int)=m/\(x.k:Int)=k/\(x.n:Int)=n:=by simp [Stk.is] at h;exact⟨h.1,h.2.1,h.2.2.1,h.2.2.2⟩
section
variable {R:List StkR}{ls:List LsV}{ops:List OpV}
abbrev Q8 (R:List StkR)(ls:List LsV)(ops:List OpV)(kk s i kd m k n f c p:Int):Prop:=
 ∃A:Ans,GoodA A/\(∀w B F fl ah,yv fl ah->StoreOk w B F R ls ops fl ah->AskDoes A B F R ls ops fl ah (X1 kk) (qW kk s i kd m k n f c p) (zN kk s i kd m k n f c p) w)/\(∀w G q,RefAt w G q (R.map lL) ls->(∀b,G b->b<w.heap.size)->xQ A G q (zN kk s i kd m k n f c p) w)/\∀S' ls',A.next=some (S',ls')->InvS S' ls'
theorem UH (hI:InvS (R.map lL) ls)(hops:ops.length<=1000000)(s i kd m k n f c p:Int):Q8 R ls ops 1 s i kd m k n f c p:=by
 have hsm:=hI.small;cases hin:inB s i kd m k n f c p (f == 0 && p == 0) with
 | false=>
  have hR:∀w',Calls Tryz.prog 153 #[zN 1 s i kd m k n f c p] w' fun e w''=>e=.returned (.bool false)/\Ext w' w'':=fun w'=>by have:=QS s i kd m k n f c p w';rw [hin] at this;exact this
  cases hz:(f == 0 && p == 0) with
  | false=>
   have hb:=yN (R:=R) (ls:=ls) (ops:=ops) (fun w'=>kP s i kd m k n f c p (by simp at hz ⊢;intro h1 h2;exact hz h1.symm h2.symm) w') hR (fun W rb ho=>by rw [(gi ho).1] at hin;cases hin)
   exact Zv hb.1 hb.2 (by decide)
  | true=>
   simp at hz;obtain⟨rfl,rfl⟩:=hz;have hb:=yN (R:=R) (ls:=ls) (ops:=ops) (fun w'=>(Xv s i kd m k n c (vl [s,i,kd,m,k,n,c]) ⟨rfl,rfl,rfl,rfl,rfl,rfl,rfl⟩ w').mono (fun e w'' h=>by
    rcases h with⟨h,_⟩|⟨_,h⟩
    ·rw [V5 (g9 s i kd m k n c) (by simpa using hin)] at h;cases h
    ·exact h)) hR (fun W rb ho=>by rw [(gi ho).1] at hin;cases hin)
   exact Zv hb.1 hb.2 (by decide)
 | true=>
  have hR:∀w',Calls Tryz.prog 153 #[zN 1 s i kd m k n f c p] w' fun e w''=>e=.returned (.bool true)/\Ext w' w'':=fun w'=>by have:=QS s i kd m k n f c p w';rw [hin] at this;exact this
  obtain⟨rfl,rfl⟩:f=0/\p=0:=by simp [inB] at hin;exact⟨hin.2.2.2.2.2.2.2.2.2.1,hin.2.2.2.2.2.2.2.2.2.2⟩
  have hfit:ZD (vl [s,i,kd,m,k,n,c]) leaseL=true:=(g9 s i kd m k n c).2 (by simpa using hin);have hrg:(0<=s/\s<=2147483647)/\(0<=i/\i<=2147483647)/\(0<=c/\c<=2147483647)/\(0<=kd/\kd<256)/\(0<=m/\m<256)/\(0<=k/\k<256)/\(0<=n/\n<256):=by simp [inB,yU,yV] at hin;omega
  have hSl:(R.map lL).length<=100:=by have:=hI.stocks;omega
  have hSm:∀x∈R.map lL,x.ts.length<=1000/\x.leased<=1000:=fun x hx=>by have:=hI.made x hx;omega
  have hll:ls.length<=900:=by have:=hI.leases;omega
  cases hf:ls.findIdx? (zE s i) with
  | some ix=>
   obtain⟨hix,_⟩:=zU hf;refine⟨if Z6 ls[ix] kd m k n c then ⟨0,ls[ix].f,ls[ix].c,[],none⟩ else .code 6,?_,fun w B F fl ah hah hst=>?_,fun w G q hr hG=>?_,fun S' ls' h=>?_⟩
   ·have hfc:=hsm.fc _ (lV hix);split
    ·exact YD (by decide) ⟨hfc.1,hfc.2.1⟩ hfc.2.2
    ·exact Vc (by decide)
   ·obtain⟨sv,lv,dv,kn,h1⟩:=hst.ex;have:=Xq s i kd m k n c ix hsm hix hf (vl [s,i,kd,m,k,n,c]) ⟨rfl,rfl,rfl,rfl,rfl,rfl,rfl⟩ hfit w h1;split
    ·rename_i hb
     rw [if_pos hb] at this;exact yj hst this.o1
    ·rename_i hb
     rw [if_neg hb] at this;exact yj hst this.o1
   ·refine qp _ q 1 s i kd m k n 0 c 0 rfl hR w hG (fun w' hx=>(xc q ix (R.map lL) ls 1 s i kd m k n 0 c 0 (by omega) hix hf w' (hr.ext hx)).mono ?_);rintro e w'' ⟨he,hx'⟩;split at he
    ·rename_i hb
     simp only [if_pos hb];exact⟨none,none,0,0,he,yA _ _ _ hx'⟩
    ·rename_i hb
     simp only [if_neg hb];exact⟨none,none,0,0,he,yA _ _ _ hx'⟩
   ·split at h<;>simp [Ans.code] at h
  | none=>
   by_cases hcd:zV (R.map lL) ls kd m k n c=0
   ·have hcd':=hcd;cases hfx:(R.map lL).findIdx? (fun x=>x.is kd m k n) with
    | none=>
     unfold zV at hcd;rw [z9 hfx] at hcd;simp at hcd
    | some ix=>
     obtain⟨hix,hfi⟩:=zU hfx;have hixR:ix<R.length:=by simpa using hix
     have hfxR:R.find? (fun x=>x.is kd m k n)=some R[ix]:=by rw [YP] at hfx;obtain⟨_,h2⟩:=zU hfx;exact h2
     have hc40:1<=c/\c<=40:=by
      unfold zV at hcd;rw [hfi] at hcd;simp only at hcd;split at hcd
      ·simp at hcd
      ·omega
     obtain⟨cn,rfl⟩:=rZ (show 0<=c by omega);obtain⟨sn,rfl⟩:=rZ hrg.1.1;obtain⟨im,rfl⟩:=rZ hrg.2.1.1;obtain⟨kdn,rfl⟩:=rZ hrg.2.2.2.1.1;obtain⟨mn,rfl⟩:=rZ hrg.2.2.2.2.1.1;obtain⟨kn',rfl⟩:=rZ hrg.2.2.2.2.2.1.1;obtain⟨nn,rfl⟩:=rZ hrg.2.2.2.2.2.2.1;have hab:(R.map lL)[ix]=R[ix].abs:=by simp
     have hset:(R.set ix (R[ix].lend cn)).map lL=(R.map lL).set ix ((R.map lL)[ix].lend cn):=by rw [List.map_set,hab];rfl
     have hlsd:(R.map lL)[ix].leased=R[ix].leased:=by rw [hab];rfl
     refine⟨⟨0,R[ix].leased,cn,[],some ((R.set ix (R[ix].lend cn)).map lL,ls++[⟨sn,im,kdn,mn,kn',nn,R[ix].leased,cn,false⟩])⟩,YD (by decide) (by have:=(hSm _ (lV hix)).2;rw [hlsd] at this;omega) (by omega),fun w B F fl ah hah hst=>?_,fun w G q hr hG=>?_,fun S' ls' h=>?_⟩
     ·obtain⟨sv,lv,dv,kn,h1⟩:=hst.ex;exact uV hah hst (AskAns.o1 (jc sn im kdn mn kn' nn cn ix hsm hops hah hf (by rw [YV];exact hcd') hixR hfxR (by omega) (by omega) (by omega) (by omega) w h1))
     ·refine qp _ q 1 sn im kdn mn kn' nn 0 cn 0 rfl hR w hG (fun w' hx=>(VS q ix cn (R.map lL) ls 1 sn im kdn mn kn' nn 0 0 hSl hSm hll hf hix hfx hcd' w' (fun b hb=>rA (hG b hb) hx.le) (hr.ext hx)).mono ?_);rintro e w'' ⟨q',he,hra,hx'⟩;rw [hlsd] at he hra;exact⟨some ⟨q',0,none⟩,none,0,0,he,rB _ _ _ _,hx',.inr ⟨_,_,q',rfl,rfl,by rw [hset];exact hra⟩⟩
     ·injection h with h
      injection h with h1 h2
      subst h1 h2;rw [hset,<-hlsd];refine hI.lease hix hfx hcd' ?_;unfold xH;simp only;omega
   ·have hc10:0<=zV (R.map lL) ls kd m k n c/\zV (R.map lL) ls kd m k n c<10:=by
     unfold zV;split
     ·decide
     ·split
      ·decide
      ·split
       ·decide
       ·split<;>decide
    refine Zv (c0:=zV (R.map lL) ls kd m k n c) (fun w B F fl ah hst=>?_) (fun w G q hr hG=>?_) hc10
    ·obtain⟨sv,lv,dv,kn,h1⟩:=hst.ex;have:=V4 s i kd m k n c hsm hf (by rw [YV];exact hcd) (vl [s,i,kd,m,k,n,c]) ⟨rfl,rfl,rfl,rfl,rfl,rfl,rfl⟩ hfit w h1;rw [YV] at this;exact yj hst this.o1
    ·refine qp _ q 1 s i kd m k n 0 c 0 rfl hR w hG (fun w' hx=>(XI q (R.map lL) ls 1 s i kd m k n 0 c 0 hSl hSm (by omega) hf hcd w' (hr.ext hx)).mono ?_);rintro e w'' ⟨he,hx'⟩;exact⟨none,none,0,0,he,yA _ _ _ hx'⟩
end
end
section
section
variable {R:List StkR}{ls:List LsV}{ops:List OpV}
theorem uR (hI:InvS (R.map lL) ls)(s i kd m k n f c p:Int):Q8 R ls ops 4 s i kd m k n f c p:=by
 have hsm:=hI.small;have hSl:(R.map lL).length<=100:=by have:=hI.stocks;omega
 cases hin:inB s i kd m k n f c p (s == 0 && (i == 0 && (f == 0 && (c == 0 && p == 0)))) with
 | false=>
  have hR:∀w',Calls Tryz.prog 153 #[zN 4 s i kd m k n f c p] w' fun e w''=>e=.returned (.bool false)/\Ext w' w'':=fun w'=>by have:=Qv s i kd m k n f c p w';rw [hin] at this;exact this
  cases hz:(s == 0 && (i == 0 && (f == 0 && (c == 0 && p == 0)))) with
  | false=>
   have hb:=yN (R:=R) (ls:=ls) (ops:=ops) (fun w'=>kY s i kd m k n f c p (by simp at hz ⊢;intro h1 h2 h3 h4 h5;exact hz h1.symm h2.symm h3.symm h4.symm h5.symm) w') hR (fun W rb ho=>by rw [(gF ho).1] at hin;cases hin)
   exact Zv hb.1 hb.2 (by decide)
  | true=>
   simp at hz;obtain⟨rfl,rfl,rfl,rfl,rfl⟩:=hz;have hb:=yN (R:=R) (ls:=ls) (ops:=ops) (fun w'=>(uP kd m k n (vl [kd,m,k,n]) ⟨rfl,rfl,rfl,rfl⟩ w').mono (fun e w'' h=>by
    rcases h with⟨h,_⟩|⟨_,h⟩
    ·rw [V5 (gX kd m k n) (by simpa using hin)] at h;cases h
    ·exact h)) hR (fun W rb ho=>by rw [(gF ho).1] at hin;cases hin)
   exact Zv hb.1 hb.2 (by decide)
 | true=>
  have hR:∀w',Calls Tryz.prog 153 #[zN 4 s i kd m k n f c p] w' fun e w''=>e=.returned (.bool true)/\Ext w' w'':=fun w'=>by have:=Qv s i kd m k n f c p w';rw [hin] at this;exact this
  obtain⟨rfl,rfl,rfl,rfl,rfl⟩:s=0/\i=0/\f=0/\c=0/\p=0:=by simp [inB] at hin;exact hin.2.2.2.2.2.2.2.2.2
  have hfit:ZD (vl [kd,m,k,n]) statusL=true:=(gX kd m k n).2 (by simpa using hin);cases hfx:(R.map lL).findIdx? (fun x=>x.is kd m k n) with
  | none=>
   have hfR:R.find? (fun x=>x.is kd m k n)=none:=by rw [YP] at hfx;exact z9 hfx
   refine Zv (c0:=2) (fun w B F fl ah hst=>?_) (fun w G q hr hG=>xN q (R.map lL) ls 4 0 0 kd m k n 0 0 0 rfl hR hSl hfx w hG hr) (by decide);obtain⟨sv,lv,dv,kn,h1⟩:=hst.ex;have:=xr kd m k n hsm (vl [kd,m,k,n]) ⟨rfl,rfl,rfl,rfl⟩ hfit w h1;rw [hfR] at this;exact yj hst this.o4
  | some ix=>
   obtain⟨hix,hfi⟩:=zU hfx;have hixR:ix<R.length:=by simpa using hix
   have hfR:R.find? (fun x=>x.is kd m k n)=some R[ix]:=by rw [YP] at hfx;obtain⟨_,h2⟩:=zU hfx;exact h2
   have hab:(R.map lL)[ix]=R[ix].abs:=by simp
   refine⟨⟨0,R[ix].leased,R[ix].ts.length,[],none⟩,YD (by decide) (by have:=(hsm.made _ (lV hixR)).2;omega) (by have:=(hsm.made _ (lV hixR)).1;omega),fun w B F fl ah hah hst=>?_,fun w G q hr hG=>?_,fun S' ls' h=>by simp at h⟩
   ·obtain⟨sv,lv,dv,kn,h1⟩:=hst.ex;have:=xr kd m k n hsm (vl [kd,m,k,n]) ⟨rfl,rfl,rfl,rfl⟩ hfit w h1;rw [hfR] at this;exact yj hst this.o4
   ·have:=vu q ix (R.map lL) ls 4 0 0 kd m k n 0 0 0 rfl hR hSl hix hfx w hG hr;rw [hab] at this;exact this
theorem VD (hI:InvS (R.map lL) ls)(hops:ops.length<=1000000)(s i kd m k n f c p:Int):Q8 R ls ops 3 s i kd m k n f c p:=by
 have hsm:=hI.small;have hSl:(R.map lL).length<=100:=by have:=hI.stocks;omega
 have hll:ls.length<=900:=by have:=hI.leases;omega
 cases hin:inB s i kd m k n f c p ((kd == 0 && (m == 0 && (k == 0 && n == 0))) && (f == 0 && (c == 0 && p == 0))) with
 | false=>
  have hR:∀w',Calls Tryz.prog 153 #[zN 3 s i kd m k n f c p] w' fun e w''=>e=.returned (.bool false)/\Ext w' w'':=fun w'=>by have:=QQ s i kd m k n f c p w';rw [hin] at this;exact this
  cases hz:((kd == 0 && (m == 0 && (k == 0 && n == 0))) && (f == 0 && (c == 0 && p == 0))) with
  | false=>
   have hb:=yN (R:=R) (ls:=ls) (ops:=ops) (fun w'=>ki s i kd m k n f c p (by
    cases hq:((0 == kd && (0 == m && (0 == k && 0 == n))) && (0 == f && (0 == c && 0 == p)))
    ·rfl
    ·simp at hq;obtain⟨⟨rfl,rfl,rfl,rfl⟩,rfl,rfl,rfl⟩:=hq;simp at hz) w') hR (fun W rb ho=>by rw [(gD ho).1] at hin;cases hin)
   exact Zv hb.1 hb.2 (by decide)
  | true=>
   simp at hz;obtain⟨⟨rfl,rfl,rfl,rfl⟩,rfl,rfl,rfl⟩:=hz;have hb:=yN (R:=R) (ls:=ls) (ops:=ops) (fun w'=>(uu s i (vl [s,i]) ⟨rfl,rfl⟩ w').mono (fun e w'' h=>by
    rcases h with⟨h,_⟩|⟨_,h⟩
    ·rw [V5 (gP s i) (by simpa using hin)] at h;cases h
    ·exact h)) hR (fun W rb ho=>by rw [(gD ho).1] at hin;cases hin)
   exact Zv hb.1 hb.2 (by decide)
 | true=>
  have hR:∀w',Calls Tryz.prog 153 #[zN 3 s i kd m k n f c p] w' fun e w''=>e=.returned (.bool true)/\Ext w' w'':=fun w'=>by have:=QQ s i kd m k n f c p w';rw [hin] at this;exact this
  obtain⟨⟨rfl,rfl,rfl,rfl⟩,rfl,rfl,rfl⟩:(kd=0/\m=0/\k=0/\n=0)/\f=0/\c=0/\p=0:=by simp [inB] at hin;exact hin.2.2.2.2.2.2.2.2.2
  have hfit:ZD (vl [s,i]) releaseL=true:=(gP s i).2 (by simpa using hin);have hrg:(0<=s/\s<=2147483647)/\(0<=i/\i<=2147483647):=by simp [inB,yU,yV] at hin;omega
  by_cases hcd:zP ls s i=0
  ·cases hf:ls.findIdx? (zE s i) with
   | none=>
    unfold zP at hcd;rw [z9 hf] at hcd;simp at hcd
   | some ix=>
    obtain⟨hix,hfi⟩:=zU hf;have hrel:ls[ix].r=false:=by
     unfold zP at hcd;rw [hfi] at hcd;simp only at hcd;cases hq:ls[ix].r
     ·rfl
     ·rw [hq] at hcd;simp at hcd
    obtain⟨sn,rfl⟩:=rZ hrg.1.1;obtain⟨im,rfl⟩:=rZ hrg.2.1;refine⟨⟨0,ls[ix].f,ls[ix].c,[],some (R.map lL,ls.set ix ls[ix].free)⟩,YD (by decide) ⟨(hsm.fc _ (lV hix)).1,(hsm.fc _ (lV hix)).2.1⟩ (hsm.fc _ (lV hix)).2.2,fun w B F fl ah hah hst=>?_,fun w G q hr hG=>?_,fun S' ls' h=>?_⟩
    ·obtain⟨sv,lv,dv,kn,h1⟩:=hst.ex;exact uV hah hst (AskAns.o3 (VJ sn im ix hsm hops hah hcd hix hf (by omega) (by omega) w h1))
    ·refine qP _ q 3 sn im 0 0 0 0 0 0 0 rfl hR w hG (fun w' hx=>(X9 q ix (R.map lL) ls 3 sn im 0 0 0 0 0 0 0 hSl (by omega) hix hf hrel w' (fun b hb=>rA (hG b hb) hx.le) (hr.ext hx)).mono ?_);rintro e w'' ⟨q',he,hra,hx'⟩;exact⟨some ⟨q',0,none⟩,none,0,0,he,rB _ _ _ _,hx',.inr ⟨_,_,q',rfl,rfl,hra⟩⟩
    ·injection h with h
     injection h with h1 h2
     subst h1 h2;exact hI.free hix
  ·have h8:zP ls s i=8:=by
    unfold zP at hcd ⊢;split
    ·rfl
    ·rename_i l hl
     rw [hl] at hcd;simp only at hcd ⊢;split
     ·rfl
     ·rename_i hq
      rw [if_neg hq] at hcd;exact absurd rfl hcd
   refine Zv (c0:=8) (fun w B F fl ah hst=>?_) (fun w G q hr hG=>?_) (by decide)
   ·obtain⟨sv,lv,dv,kn,h1⟩:=hst.ex;have:=X7 s i hsm hcd (vl [s,i]) ⟨rfl,rfl⟩ hfit w h1;rw [h8] at this;exact yj hst this.o3
   ·refine qP _ q 3 s i 0 0 0 0 0 0 0 rfl hR w hG (fun w' hx=>(xe q (R.map lL) ls 3 s i 0 0 0 0 0 0 0 (by omega) hcd w' (hr.ext hx)).mono ?_);rintro e w'' ⟨he,hx'⟩;exact⟨none,none,0,0,he,yA _ _ _ hx'⟩
theorem Je {x:Stk}{p:Int}{j L:Nat}(hj:j<x.ts.length)(hl:x.ts[j].1.length=x.each)(hz:1<=x.sh.z)(hL:L=x.sh.x+x.sh.y+x.sh.z):(ZN x p j).length=L:=by
 have hge:(x.ts.getD j ([],false)).1=x.ts[j].1:=by rw [rT,lZ hj];rfl
 have hl':x.ts[j].1.length=x.sh.x+x.sh.y+(x.sh.x+x.sh.y+x.sh.z):=hl;have hp0:(Zw x.sh x.ts[j].1).length=L:=by rw [Zw,List.length_drop];omega
 have hp1:(yF x.sh x.ts[j].1).length=L:=by rw [yF,List.length_zipWith,YZ _ _ hl',hp0];omega
 rw [ZN,hge];split
 ·rw [YW hl' hz];exact hp0
 ·rw [Y6 hl' hz];exact hp1
theorem xw {x:Stk}{p:Int}{f L c:Nat}(h:∀i:Nat,(hi:i<c)->(ZN x p (f+i)).length=L):∀j,j<=c->(ZX x p f j).length=j*L
 | 0,_=>by simp [ZX]
 | j+1,hj=>by rw [qc,lW,xw h j (by omega),h j (by omega),Nat.add_mul,Nat.one_mul]
theorem jf {x:Stk}{p:Int}{f c:Nat}(hpp:p=0\/p=1)(hok:StkOk x)(h:∀i:Nat,i<c->∃hi:f+i<x.ts.length,x.ts[f+i].2=true):inU64 (ZX x p f c):=by
 intro z hz;unfold ZX at hz;obtain⟨i,hi,hz⟩:=List.mem_flatMap.1 hz;obtain⟨h1,h2⟩:=h i (List.mem_range.1 hi);have hge:x.ts.getD (f+i) ([],false)=x.ts[f+i]:=by rw [rT,lZ h1];rfl
 obtain⟨_,_,k1,k2⟩:=hok.ts _ (lV h1) h2;rw [ZN,hge] at hz;split at hz
 ·exact k1 z hz
 ·exact k2 z hz
theorem ja (hI:InvS (R.map lL) ls)(s i kd m k n f c p:Int):Q8 R ls ops 2 s i kd m k n f c p:=by
 have hsm:=hI.small;have hSl:(R.map lL).length<=100:=by have:=hI.stocks;omega
 have hll:ls.length<=900:=by have:=hI.leases;omega
 cases hin:inB s i kd m k n f c p (i == 0) with
 | false=>
  have hR:∀w',Calls Tryz.prog 153 #[zN 2 s i kd m k n f c p] w' fun e w''=>e=.returned (.bool false)/\Ext w' w'':=fun w'=>by have:=Qw s i kd m k n f c p w';rw [hin] at this;exact this
  cases hz:(i == 0) with
  | false=>
   have hb:=yN (R:=R) (ls:=ls) (ops:=ops) (fun w'=>kf s i kd m k n f c p (by simp at hz ⊢;exact fun h=>hz h.symm) w') hR (fun W rb ho=>by rw [(gz ho).1] at hin;cases hin)
   exact Zv hb.1 hb.2 (by decide)
  | true=>
   simp at hz;subst hz;have hb:=yN (R:=R) (ls:=ls) (ops:=ops) (fun w'=>(uj s kd m k n f c p (vl [s,kd,m,k,n,f,c,p]) ⟨rfl,rfl,rfl,rfl,rfl,rfl,rfl,rfl⟩ w').mono (fun e w'' h=>by
    rcases h with⟨h,_⟩|⟨_,h⟩
    ·rw [V5 (g8 s kd m k n f c p) (by simpa using hin)] at h;cases h
    ·exact h)) hR (fun W rb ho=>by rw [(gz ho).1] at hin;cases hin)
   exact Zv hb.1 hb.2 (by decide)
 | true=>
  have hR:∀w',Calls Tryz.prog 153 #[zN 2 s i kd m k n f c p] w' fun e w''=>e=.returned (.bool true)/\Ext w' w'':=fun w'=>by have:=Qw s i kd m k n f c p w';rw [hin] at this;exact this
  obtain rfl:i=0:=by simp [inB] at hin;exact hin.2.2.2.2.2.2.2.2.2
  have hfit:ZD (vl [s,kd,m,k,n,f,c,p]) fetchL=true:=(g8 s kd m k n f c p).2 (by simpa using hin);have hrg:(0<=f/\f<=2147483647)/\(0<=c/\c<=2147483647)/\(0<=p/\p<256):=by simp [inB,yU,yV] at hin;omega
  have hno:∀cd:Int,cd≠0->0<=cd/\cd<10->((R.find? (fun x=>x.is kd m k n)=none/\cd=2)\/((R.find? (fun x=>x.is kd m k n)).isSome/\cd=ZP ls s kd m k n f c p))->((R.map lL).findIdx? (fun x=>x.is kd m k n)=none/\cd=2)\/(∃ix,(R.map lL).findIdx? (fun x=>x.is kd m k n)=some ix)/\((c<1\/40<c)/\cd=5\/1<=c/\c<=40/\1<p/\cd=9)->Q8 R ls ops 2 s 0 kd m k n f c p:=fun cd h0 h10 h1 h2=>by
   refine Zv (c0:=cd) (fun w B F fl ah hst=>?_) (fun w G q hr hG=>?_) h10
   ·obtain⟨sv,lv,dv,kn,hs1⟩:=hst.ex;exact yj hst (AskAns.o2 (QP s kd m k n f c p cd hsm h0 hrg.1.1 hrg.1.2 h1 (vl [s,kd,m,k,n,f,c,p]) ⟨rfl,rfl,rfl,rfl,rfl,rfl,rfl,rfl⟩ hfit w hs1))
   ·refine qo _ q 2 s 0 kd m k n f c p rfl hR w hG (fun w' hx=>(VI q (R.map lL) ls 2 s 0 kd m k n f c p cd hSl h2 w' (hr.ext hx)).mono ?_);rintro e w'' ⟨he,hx'⟩;exact⟨none,0,0,he,yA _ _ _ hx'⟩
  cases hfx:(R.map lL).findIdx? (fun x=>x.is kd m k n) with
  | none=>
   have hfR:R.find? (fun x=>x.is kd m k n)=none:=by rw [YP] at hfx;exact z9 hfx
   exact hno 2 (by decide) (by decide) (.inl ⟨hfR,rfl⟩) (.inl ⟨hfx,rfl⟩)
  | some ix=>
   obtain⟨hix,hfi⟩:=zU hfx;have hixR:ix<R.length:=by simpa using hix
   have hfR:R.find? (fun x=>x.is kd m k n)=some R[ix]:=by rw [YP] at hfx;obtain⟨_,h2⟩:=zU hfx;exact h2
   have hsome:(R.find? (fun x=>x.is kd m k n)).isSome:=by rw [hfR];rfl
   by_cases hcc:c<1\/40<c
   ·exact hno 5 (by decide) (by decide) (.inr ⟨hsome,by unfold ZP;rw [if_pos hcc]⟩) (.inr ⟨⟨ix,hfx⟩,.inl ⟨hcc,rfl⟩⟩)
   ·by_cases hp1:1<p
    ·exact hno 9 (by decide) (by decide) (.inr ⟨hsome,by unfold ZP;rw [if_neg hcc,if_pos (by omega)]⟩) (.inr ⟨⟨ix,hfx⟩,.inr ⟨by omega,by omega,hp1,rfl⟩⟩)
    ·have hpp:p=0\/p=1:=by omega
     have hab:(R.map lL)[ix]=R[ix].abs:=by simp
     have hmem:R[ix].abs∈R.map lL:=sC.2 ⟨R[ix],lV hixR,rfl⟩;have hisx:R[ix].abs.is kd m k n=true:=by have:=(List.findIdx?_eq_some_iff_getElem.1 hfx).2.1;rw [hab] at this;exact this
     obtain⟨e1,e2,e3,e4⟩:=gE hisx;have hcls:=hI.cls _ hmem;obtain⟨hofc,hok⟩:=Yc hcls;have hle:=Sh.le hok;obtain⟨L,hL⟩:∃L,L=R[ix].abs.sh.x+R[ix].abs.sh.y+R[ix].abs.sh.z:=⟨_,rfl⟩
     have hLb:1<=L/\L<=27:=by
      rw [hL];show 1<=(zB R[ix].abs.kd R[ix].abs.m R[ix].abs.k R[ix].abs.n).x+(zB R[ix].abs.kd R[ix].abs.m R[ix].abs.k R[ix].abs.n).y+(zB R[ix].abs.kd R[ix].abs.m R[ix].abs.k R[ix].abs.n).z/\(zB R[ix].abs.kd R[ix].abs.m R[ix].abs.k R[ix].abs.n).x+(zB R[ix].abs.kd R[ix].abs.m R[ix].abs.k R[ix].abs.n).y+(zB R[ix].abs.kd R[ix].abs.m R[ix].abs.k R[ix].abs.n).z<=27
      omega
     have hmade:=hI.made _ hmem;have hlen:∀j (h:j<R[ix].abs.ts.length),R[ix].abs.ts[j].1.length=R[ix].abs.each:=fun j h=>(hI.ts _ hmem _ (lV h)).1
     have hfiA:(R.map lL).find? (fun x=>x.is kd m k n)=some R[ix].abs:=by rw [hfi,hab]
     have hinj:∀j:Nat,ls.any (Zx s kd m k n j)=true->j<R[ix].abs.ts.length:=fun j hj=>by have:=Ko hI hfiA hj;omega
     obtain⟨fn,rfl⟩:=rZ hrg.1.1;obtain⟨cn,rfl⟩:=rZ hrg.2.1.1;have href:∀w G q,RefAt w G q (R.map lL) ls->_:=fun w G q (hr:RefAt w G q (R.map lL) ls)=>jy q ix fn cn L (R.map lL) ls 2 s 0 kd m k n p hSl (by omega) hsm.fc (by omega) (by omega) (by omega) hpp hix hfx (by rw [hab];exact e1) (by rw [hab];exact e2) (by rw [hab];exact e3) (by rw [hab];exact e4) (by rw [<-e1,<-e2,<-e3,<-e4];exact hcls) (by rw [hab];exact hL) hLb.1 hLb.2 (by rw [hab];omega) (by intro j h;simp only [hab] at h ⊢;exact hlen j h) (by rw [hab];exact hinj) w hr
     by_cases hall:∀j:Nat,j<cn->ls.any (Zx s kd m k n ((fn+j:Nat):Int))=true
     ·have h0:=hinj fn (by have:=hall 0 (by omega);simpa using this);have hcode:ZP ls s kd m k n fn cn p=0:=by
       unfold ZP;rw [if_neg hcc,if_neg (by omega),if_pos];intro j hj;rw [jN hI];have:=hall j (by omega);simpa using this
      have hlz:(ZX R[ix].abs p fn cn).length=cn*L:=xw (c:=cn) (fun j hj=>Je (hinj (fn+j) (hall j hj)) (hlen _ _) hle.2.2.2.2.1 hL) cn (Nat.le_refl _);have hcL:cn*L<=40*27:=Nat.mul_le_mul (by omega) hLb.2;refine⟨⟨0,fn,cn,ZX R[ix].abs p fn cn,none⟩,⟨by show (0:Int)≠10;decide,by show (0:Int)<=0/\(0:Int)<256;decide,by show 0<=(fn:Int)/\(fn:Int)<4294967296;omega,by show 0<=(cn:Int)/\(cn:Int)<4294967296;omega,jf hpp (hI.stkOk hmem) (fun j hj=>⟨hinj (fn+j) (hall j hj),vR hI hfiA (hinj (fn+j) (hall j hj)) (hall j hj)⟩)⟩,fun w B F fl ah hah hst=>?_,fun w G q hr hG=>?_,fun S' ls' h=>by simp at h⟩
      ·obtain⟨sv,lv,dv,kn,hs1⟩:=hst.ex;exact US (by rw [hlz];omega) hst (AskAns.o2 (UA fn cn L R[ix] s kd m k n p hsm hpp (by have e:R[ix].abs.ts.length=R[ix].ts.length:=rfl;omega) (by omega) (by omega) hfR hL hLb.1 hLb.2 hcode (fun j hj=>⟨hinj (fn+j) (hall j hj),vR hI hfiA (hinj (fn+j) (hall j hj)) (hall j hj)⟩) (hI.stkOk hmem).ts hlz (vl [s,kd,m,k,n,fn,cn,p]) ⟨rfl,rfl,rfl,rfl,rfl,rfl,rfl,rfl⟩ hfit w hs1))
      ·refine qo _ q 2 s 0 kd m k n fn cn p rfl hR w hG (fun w' hx=>(href w' G q (hr.ext hx)).mono ?_);rintro e w'' (⟨⟨j,hj,hq⟩,_⟩|⟨_,v,he,hv,hx'⟩)
       ·rw [hall j hj] at hq;cases hq
       ·rw [hab,<-hlz] at hv;obtain⟨va,vc,rfl⟩:=zo hv;exact⟨va,_,vc,he,hv,hx',.inl ⟨rfl,rfl⟩⟩
     ·have hcode:ZP ls s kd m k n fn cn p=8:=by
       unfold ZP;rw [if_neg hcc,if_neg (by omega),if_neg];intro hh;apply hall;intro j hj;have:=hh j (by omega);rw [jN hI] at this;simpa using this
      refine Zv (c0:=8) (fun w B F fl ah hst=>?_) (fun w G q hr hG=>?_) (by decide)
      ·obtain⟨sv,lv,dv,kn,hs1⟩:=hst.ex;exact yj hst (AskAns.o2 (QP s kd m k n fn cn p 8 hsm (by decide) (by omega) (by omega) (.inr ⟨hsome,hcode.symm⟩) (vl [s,kd,m,k,n,fn,cn,p]) ⟨rfl,rfl,rfl,rfl,rfl,rfl,rfl,rfl⟩ hfit w hs1))
      ·refine qo _ q 2 s 0 kd m k n fn cn p rfl hR w hG (fun w' hx=>(href w' G q (hr.ext hx)).mono ?_);rintro e w'' (⟨_,he,hx'⟩|⟨hq,_⟩)
       ·exact⟨none,0,0,he,yA _ _ _ hx'⟩
       ·exact absurd hq hall
theorem un (hI:InvS (R.map lL) ls)(hops:ops.length<=1000000)(kk s i kd m k n f c p:Int):Q8 R ls ops kk s i kd m k n f c p:=by
 by_cases h1:kk=1
 ·subst h1;exact UH hI hops s i kd m k n f c p
 by_cases h2:kk=2
 ·subst h2;exact ja hI s i kd m k n f c p
 by_cases h3:kk=3
 ·subst h3;exact VD hI hops s i kd m k n f c p
 by_cases h4:kk=4
 ·subst h4;exact uR hI s i kd m k n f c p
 have hb:=yN (R:=R) (ls:=ls) (ops:=ops) (kk:=kk) (fun w'=>kA kk s i kd m k n f c p (by simpa using h1) (by simpa using h2) (by simpa using h3) (by simpa using h4) w') (fun w'=>Un kk s i kd m k n f c p (by simp [Qm,h1,h2,h3,h4]) w') (fun W rb ho=>by
  rcases ho with ho|ho|ho|ho
  ·exact h1 ho.1
  ·exact h2 ho.1
  ·exact h3 ho.1
  ·exact h4 ho.1)
 exact Zv hb.1 hb.2 (by decide)
end
end
section
section
variable {R:List StkR}{ls:List LsV}{ops:List OpV}
theorem Km {kd m k n:Int}(h:yb kd m k n=true):0<=kd/\0<=m/\0<=k/\0<=n:=by
 by_cases h0:kd=0
 ·subst h0;rw [j5] at h;simp at h;omega
 ·by_cases h1:kd=1
  ·subst h1;rw [j6] at h;simp at h;omega
  ·by_cases h2:kd=2
   ·subst h2;rw [jM] at h;simp at h;omega
   ·rw [uC m k n h0 h1 h2] at h;cases h
abbrev uJ (R:List StkR)(ls:List LsV)(ops:List OpV)(kd m k n:Int)(a:Option Addr)(len cap:Nat)(D:List Int):Prop:=
 ∃A:Ans,A.c≠10/\(A.next=none->A.c≠0)/\(A.next≠none->A.c=0)/\
  (∀w B F fl ah gh,yv fl ah->StoreOk w B F R ls ops fl ah->WordsAt w gh 0 D->Calls Tryz.prog 34 #[.pointer (some ⟨B,0,none⟩),zJ kd m k n,.slice (some ⟨gh,0,none⟩) len (len+8)] w fun e w''=>∃c0 f0 n0 zs R' ls' F' new fl' ah',e=.returned (.int .i64 c0)/\AskSo A w w'' B F R ls ops fl ah c0 f0 n0 zs (.slice none 0 0) R' ls' F' new fl' ah')/\
  (∀w G q,RefAt w G q (R.map lL) ls->(∀b,G b->b<w.heap.size)->DrawsAt w a len D->Calls Tryz.prog 102 #[.pointer (some ⟨q,0,none⟩),zJ kd m k n,.slice a len cap] w fun e w''=>∃pa,e=.returned (.tuple #[.pointer pa,.int .i64 A.c])/\RefSo G A w w'' (.pointer pa) (.slice none 0 0))/\
  ∀S' ls',A.next=some (S',ls')->InvS S' ls'
theorem xa {kd m k n:Int}{a:Option Addr}{len cap:Nat}{D:List Int}(c0:Int)(hc:c0≠0)(hc10:c0≠10)
  (h1:∀w B gh F fl ah,yv fl ah->StoreOk w B F R ls ops fl ah->WordsAt w gh 0 D->Calls Tryz.prog 65 #[.pointer (some ⟨B,0,none⟩),zJ kd m k n,.slice (some ⟨gh,0,none⟩) len (len+8)] w fun e w''=>e=.returned (.int .i64 c0)/\Ext w w'')
  (h2:∀w G q,RefAt w G q (R.map lL) ls->Calls Tryz.prog 102 #[.pointer (some ⟨q,0,none⟩),zJ kd m k n,.slice a len cap] w fun e w''=>e=.returned (.tuple #[.pointer none,.int .i64 c0])/\Ext w w''):uJ R ls ops kd m k n a len cap D:=by
 refine⟨.code c0,hc10,fun _=>hc,fun h=>absurd rfl h,fun w B F fl ah gh hah hst hz=>?_,fun w G q hr hG hd=>?_,fun S' ls' h=>by simp [Ans.code] at h⟩
 ·refine(qC kd m k n (some ⟨gh,0,none⟩) len (len+8) B F w hst.lt (fun w1 w2 c=>c=c0/\Ext w1 w2) (fun w1 w2 c h=>lM h.2) (fun w1 w2 w3 c hx h=>⟨h.1,hx.trans h.2⟩) (fun w' hx=>(h1 w' B gh F fl ah hah (hst.ext hx) (hz.ext hx)).mono (fun e w'' h=>⟨c0,h.1,rfl,h.2⟩))).mono ?_;rintro e w' ⟨c,rfl,rfl,hx⟩;exact⟨c,0,0,[],R,ls,F,[],fl,ah,rfl,rB _ _ _ _,by rw [rL];exact hst.ext hx,lM hx,fun b hb=>.inl hb,fun b hb=>by simp [lH] at hb,⟨.inl ⟨rfl,rfl⟩⟩⟩
 ·refine(h2 w G q hr).mono ?_;rintro e w' ⟨he,hx⟩;exact⟨none,he,Ql G c0 hx⟩
theorem DoPost.back {w w1 w2:World}{B:Nat}{F:Nat->Prop}{R':List StkR}{ls':List LsV}{ops':List OpV}{fl':Bool}{ah':Int}{kn':Bool}(h:DoPost w1 w2 B F R' ls' ops' fl' ah' kn')(hx:Ext w w1)(hF:∀b,F b->b<w2.heap.size):DoPost w w2 B F R' ls' ops' fl' ah' kn':=by obtain⟨sv,lv,dv,h1,h2⟩:=h;have h3:=hx.le;exact⟨sv,lv,dv,h1.mono (fun b hb=>hb.imp id (fun h=>⟨by omega,h.2⟩)) (fun b hb=>hb.elim (hF b) (fun h=>h.2)),(lM hx).trans h2⟩
theorem Ui (hI:InvS (R.map lL) ls)(hops:ops.length<=1000000)(kd m k n:Int)(a:Option Addr)(len cap:Nat)(D:List Int)(hD:D.length=len)(hu:inU64 D)(hlen:len<=100000000)(hcap:len<=cap):uJ R ls ops kd m k n a len cap D:=by
 have hsm:=hI.small;have hSl:(R.map lL).length<=100:=by have:=hI.stocks;omega
 cases hcls:yb kd m k n with
 | false=>
  exact xa 2 (by decide) (by decide) (fun w B gh F _ _ _ _ _=>uF kd m k n hcls (some ⟨gh,0,none⟩) len (len+8) B w) (fun w G q _=>Q0 q kd m k n hcls a len cap w)
 | true=>
  obtain⟨p1,p2,p3,p4⟩:=Km hcls;obtain⟨kd,rfl⟩:=rZ p1;obtain⟨m,rfl⟩:=rZ p2;obtain⟨k,rfl⟩:=rZ p3;obtain⟨n,rfl⟩:=rZ p4;obtain⟨E,hE⟩:∃E,E=(zB kd m k n).x+(zB kd m k n).y+((zB kd m k n).x+(zB kd m k n).y+(zB kd m k n).z):=⟨_,rfl⟩
  have hle:=Sh.le (Yc hcls).2;have hE1:1<=E:=by omega
  by_cases hno:len % E≠0\/len / E<1\/12<len / E
  ·exact xa 3 (by decide) (by decide) (fun w B gh F _ _ _ _ _=>vH kd m k n hcls (some ⟨gh,0,none⟩) len (len+8) B E hE (by omega) hno w) (fun w G q _=>Qo q kd m k n hcls a len cap E hE (by omega) hno w)
  ·have hmod:len % E=0:=by omega
   have hcnt:len=(len / E)*E:=by have:=Nat.div_add_mod len E;rw [Nat.mul_comm,hmod] at this;omega
   obtain⟨cnt,hcn⟩:∃cnt,len / E=cnt:=⟨_,rfl⟩
   rw [hcn] at hno hcnt;have hSm:∀x∈R.map lL,1<=x.ts.length/\x.ts.length<=1000:=fun x hx=>by have:=hI.made x hx;omega
   have hu01:∀u,u.length=E->inU64 u->inU64 (Zw (zB kd m k n) u)/\inU64 (yF (zB kd m k n) u):=fun u _ hu=>⟨uS _ hu,uM _ _⟩
   by_cases hcd:zY (R.map lL) kd m k n cnt=0
   ·refine⟨⟨0,0,0,[],some (Ye (R.map lL) kd m k n (Zc (zM D E cnt)),ls)⟩,by simp,fun h=>by simp at h,fun _=>rfl,fun w B F fl ah gh hah hst hz=>?_,fun w G q hr hG hd=>?_,fun S' ls' h=>?_⟩
    ·obtain⟨sv,lv,dv,kn,h1⟩:=hst.ex;refine(qC kd m k n (some ⟨gh,0,none⟩) len (len+8) B F w hst.lt (fun w1 w2 c=>(∀b,F b->b<w2.heap.size)/\jg kn fl ah R ls ops kd m k n (Zc (zM D E cnt)) B F w1 w2 (.returned (.int .i64 c))) (fun w1 w2 c h=>by obtain⟨_,_,_,⟨_,_,_,_,ht⟩,_⟩:=h;exact ht) (fun w1 w2 w3 c hx h=>?_) (fun w' hx=>?_)).mono ?_
     ·obtain⟨hF2,hc,R',hd,hm⟩:=h;exact⟨hF2,hc,R',hd.back hx hF2,hm⟩
     ·refine(uL kd m k n hcls gh 0 len (len+8) cnt E D hE hD (by omega) hcnt (by omega) (by omega) hu hu01 hsm.stocks (fun x hx=>(hsm.made x hx).1) hsm.leases hops hah hsm.ok hsm.lok w' (h1.ext hx) (hz.ext hx)).mono ?_;rintro e w'' (⟨hq,_⟩|⟨_,hc,R',hd,hm⟩)
      ·exact absurd hcd hq
      ·refine⟨_,hc,fun b hb=>?_,rfl,R',hd,hm⟩;obtain⟨_,_,_,hs,ht⟩:=hd;exact rA (hst.lt b hb) (rH hx.le ht.size)
     ·rintro e w' ⟨c,rfl,_,hc,R',hd,hm⟩;injection hc with hc
      injection hc with _ hc
      obtain⟨rec,hrec⟩:∃rec:ByteArray,rec=⟨(yM kd m k n (zB kd m k n) (Zc (zM D E cnt))).toArray⟩:=⟨_,rfl⟩
      rw [<-hrec] at hc hd hm;have hlen:=XV kn (R.map lL) ls rec;have hk:=Vj (kn:=kn) (fl:=fl) (ah:=ah) (S:=R.map lL) (ls:=ls) (rec:=rec);obtain⟨hs,ht⟩:=hd.ok hst.kinds hk;rcases XP (kn:=kn) hah rfl (by rw [hlen];split<;>omega) (by rw [hlen];split<;>omega) with⟨g1,g2,g3,g4,g5,g6⟩|⟨g1,g2,g3,g4,g5⟩
      ·rw [g5,g6] at hs;rw [g1,if_pos rfl] at hc hm;rw [hc];exact⟨0,0,0,[],R',ls,ZO F w w',_,fl,_,rfl,rB _ _ _ _,hs,ht,fun b hb=>hb.imp id (fun h=>h.1),fun b hb=>by simp [lH] at hb,⟨.inr (.inl ⟨by rw [hm],g2,g3,rfl,g4,rfl⟩)⟩⟩
      ·rw [g5] at hs;rw [g1,if_neg (by decide)] at hc hm;rw [hc];exact⟨10,0,0,[],R',ls,ZO F w w',_,false,_,rfl,rB _ _ _ _,hs,ht,fun b hb=>hb.imp id (fun h=>h.1),fun b hb=>by simp [lH] at hb,⟨.inr (.inr ⟨hm,by simp,rfl,g2,g3,g4,rfl⟩)⟩⟩
    ·have hl1:1<=len:=by
      rw [hcnt];exact Nat.mul_pos (by omega) hE1
     obtain⟨b,off,rfl,hz⟩:=hd.resolve_left (by omega);refine(vr q (R.map lL) ls kd m k n hcls b off len cap E cnt D hE hD hcap hcnt (by omega) (by omega) hSl (by have:=hI.leases;omega) hSm hcd w hG hr hz).mono ?_;rintro e w' ⟨q',he,hra,hx⟩;exact⟨some ⟨q',0,none⟩,he,rB _ _ _ _,hx,.inr ⟨_,_,q',rfl,rfl,hra⟩⟩
    ·injection h with h
     injection h with h1 h2
     subst h1 h2;exact hI.make hcls (Zm _ _ _) (by omega) (fun u hmu=>by obtain⟨j,hj,rfl⟩:=sC.1 hmu;rw [<-hE];exact⟨Yx (hD.trans hcnt) (List.mem_range.1 hj),Uv hu _ _⟩) hcd
   ·have h4:zY (R.map lL) kd m k n cnt=4:=by
     unfold zY at hcd ⊢;split
     ·rename_i x hx
      rw [hx] at hcd;simp only at hcd ⊢;split
      ·rfl
      ·rename_i hq
       rw [if_neg hq] at hcd;exact absurd rfl hcd
     ·rename_i hx
      rw [hx] at hcd;simp only at hcd ⊢;split
      ·rfl
      ·rename_i hq
       rw [if_neg hq] at hcd;exact absurd rfl hcd
    refine xa 4 (by decide) (by decide) (fun w B gh F fl ah hah hst hz=>?_) (fun w G q hr=>QN q (R.map lL) ls kd m k n hcls a len cap E cnt hE hcnt (by omega) (by omega) hSl (fun x hx=>(hSm x hx).2) hcd w hr);obtain⟨sv,lv,dv,kn,h1⟩:=hst.ex;refine(uL kd m k n hcls gh 0 len (len+8) cnt E D hE hD (by omega) hcnt (by omega) (by omega) hu hu01 hsm.stocks (fun x hx=>(hsm.made x hx).1) hsm.leases hops hah hsm.ok hsm.lok w h1 hz).mono ?_;rintro e w'' (⟨_,he,hx⟩|⟨hq,_⟩)
    ·rw [h4] at he;exact⟨he,hx⟩
    ·exact absurd hq hcd
end
end
section
structure LiveAt (w:World)(P B N0 c:Nat)(G:Nat->Prop)(v:GV)(q:Nat)(R:List StkR)(ls:List LsV)(F:Nat->Prop)(ops:List OpV)(fl:Bool)(ah:Int):Prop where
 game:GameOf w P B G v q (R.map lL) ls ops c
 store:StoreOk w B F R ls ops fl ah
 ar:ArIs v fl ah
 ah:yv fl ah
 far:Far F G P v
 inv:InvS (R.map lL) ls
 ops:ops.length<=4*c
 hF:∀b,F b->N0<=b
 hP:∀b,yZ P v b->N0<=b
 hN:N0<=w.heap.size
def Live (w:World)(P B N0 c:Nat):Prop:=∃G v q R ls F ops fl ah,LiveAt w P B N0 c G v q R ls F ops fl ah
theorem Live.ext {w w':World}{P B N0 c:Nat}(h:Live w P B N0 c)(hx:Ext w w'):Live w' P B N0 c:=by obtain⟨G,v,q,R,ls,F,ops,fl,ah,h⟩:=h;exact⟨G,v,q,R,ls,F,ops,fl,ah,⟨h.game.ext hx,h.store.ext hx,h.ar,h.ah,h.far,h.inv,h.ops,h.hF,h.hP,rH h.hN hx.le⟩⟩
theorem Live.count {w:World}{P B N0 c c':Nat}(h:Live w P B N0 c)(hc:c<=c'):Live w P B N0 c':=by obtain⟨G,v,q,R,ls,F,ops,fl,ah,h⟩:=h;exact⟨G,v,q,R,ls,F,ops,fl,ah,⟨h.game.count hc,h.store,h.ar,h.ah,h.far,h.inv,by have:=h.ops;omega,h.hF,h.hP,h.hN⟩⟩
theorem LiveAt.next {w w':World}{P B N0 c c':Nat}{G G':Nat->Prop}{v v':GV}{q q':Nat}{R R':List StkR}{ls ls':List LsV}{F F':Nat->Prop}{ops new:List OpV}{fl fl':Bool}{ah ah':Int}(h:LiveAt w P B N0 c G v q R ls F ops fl ah)(hc:c+1<=c')(k1:GameOf w' P B G' v' q' (R'.map lL) ls' (ops++new) c')(k2:StoreOk w' B F' R' ls' (ops++new) fl' ah')(k3:Far F' G' P v')(k4:new.length<=4)(k5:Old w w' F F' P v v')(k6:ArIs v' fl' ah')(k7:yv fl' ah')(k8:InvS (R'.map lL) ls'):Live w' P B N0 c'/\Turn (fun b=>N0<=b) w w':=by obtain⟨g1,g2,g3⟩:=k5;have hN:=h.hN;exact⟨⟨G',v',q',R',ls',F',ops++new,fl',ah',⟨k1,k2,k6,k7,k3,k8,by rw [lW];have:=h.ops;omega,fun b hb=>(g2 b hb).elim (h.hF b) (fun hl=>by omega),fun b hb=>(g3 b hb).elim (h.hP b) (fun hl=>by omega),rH h.hN g1.size⟩⟩,g1.mono (fun b _ hb=>hb.elim (h.hF b) (h.hP b))⟩
theorem QT {w:World}{P B N0 c:Nat}(h:Live w P B N0 c)(hc:c<=200000) :
  Calls Tryz.prog 44 #[.pointer (some ⟨P,0,none⟩)] w fun e w'=>e=.returned (.bool true)/\Live w' P B N0 (c+3)/\Turn (fun b=>N0<=b) w w':=by
 obtain⟨G,v,q,R,ls,F,ops,fl,ah,h⟩:=h;have h5:=h.ops;have hsm:=h.inv.small;refine(Kq h.game (by omega) h.store h.far (by omega) hsm.stocks (fun x hx=>(hsm.made x hx).1) (by have:=hsm.leases;omega)).mono ?_;rintro e w' ⟨rfl,v',G',k1,k2,k3,k4,k5,k6⟩;refine⟨rfl,h.next (new:=[]) (by omega) (by rw [rL];exact k1) (by rw [rL];exact k2) k3 (by simp) k4 (h.ar.same k5 k6) h.ah h.inv⟩
theorem kj {w:World}{P B N0 c:Nat}(h:Live w P B N0 c)(hc:c<=200000)(kk s i kd m k n f cc pp:Int) :
  Calls Tryz.prog 70 #[.pointer (some ⟨P,0,none⟩),zN kk s i kd m k n f cc pp] w fun e w'=>e=.returned (.bool true)/\Live w' P B N0 (c+3)/\Turn (fun b=>N0<=b) w w':=by
 obtain⟨G,v,q,R,ls,F,ops,fl,ah,h⟩:=h;have h5:=h.ops;obtain⟨A,a1,a3,a4,a5⟩:=un (ops:=ops) h.inv (by omega) kk s i kd m k n f cc pp;refine(gB A h.game (by omega) h.store h.ar h.ah h.far (by omega) a1.ne kk s i kd m k n f cc pp (fun w' hx=>(a3 w' B F fl ah h.ah (h.store.ext hx)).ask) (fun w' hr hG=>a4 w' G q hr hG)).mono ?_;rintro e w' ⟨rfl,v',G',q',R',ls',F',new,fl',ah',k1,k2,k3,k4,k5,k6,k7,k8⟩;refine⟨rfl,h.next (by omega) k1 k2 k3 k4 k5 k6 k7 ?_⟩;rcases k8 with⟨e1,e2⟩|k8
 ·rw [e1,e2];exact h.inv
 ·exact a5 _ _ k8
theorem uZ {w:World}{P B N0 c:Nat}(h:Live w P B N0 c)(hc:c<=200000)(sk sa sb kd m k n r0 r1 r2 r3 r4 r5 r6 r7 r8 r9 st:Int)(ss:ByteArray)(ca:Option Addr)(cl ccap:Nat)(a:Option Addr)(len cap:Nat)(D:List Int)(hD:D.length=len)(hu:inU64 D)(hlen:len<=100000000)(hcap:len<=cap)(hd:DrawsAt w a len D)(hda:∀b off,len≠0/\a=some ⟨b,off,none⟩->b<N0) :
  Calls Tryz.prog 69 #[.pointer (some ⟨P,0,none⟩),.agg #[.int .i64 sk,.int .i64 sa,.int .i64 sb,.int .i64 kd,.int .i64 m,.int .i64 k,.int .i64 n,.slice a len cap,.int .i64 r0,.int .i64 r1,.int .i64 r2,.int .i64 r3,.int .i64 r4,.int .i64 r5,.int .i64 r6,.int .i64 r7,.int .i64 r8,.int .i64 r9,.string ss,.slice ca cl ccap,.int .i64 st]] w fun e w'=>e=.returned (.bool true)/\Live w' P B N0 (c+3)/\Turn (fun b=>N0<=b) w w':=by
 obtain⟨G,v,q,R,ls,F,ops,fl,ah,h⟩:=h;have h5:=h.ops;obtain⟨A,a1,a2,a2',a3,a4,a5⟩:=Ui (ops:=ops) h.inv (by omega) kd m k n a len cap D hD hu hlen hcap;have hN:=h.hN;refine(j8 A h.game (by omega) h.store h.ar h.ah h.far (by omega) a1 a2 a2' sk sa sb kd m k n r0 r1 r2 r3 r4 r5 r6 r7 r8 r9 st ss ca cl ccap a len cap D hD hlen hd (fun b off e=>⟨fun hf=>by have:=h.hF b hf;have:=hda b off e;omega,by have:=hda b off e;omega⟩) (fun w' gh hx _ hz=>a3 w' B F fl ah gh h.ah (h.store.ext hx) hz) (fun w' hr hG hd'=>a4 w' G q hr hG hd')).mono ?_;rintro e w' ⟨rfl,v',G',q',R',ls',F',new,fl',ah',k1,k2,k3,k4,k5,k6,k7,k8⟩;refine⟨rfl,h.next (by omega) k1 k2 k3 k4 k5 k6 k7 ?_⟩;rcases k8 with⟨e1,e2⟩|k8
 ·rw [e1,e2];exact h.inv
 ·exact a5 _ _ k8
theorem JL {w:World}{P B N0 c:Nat}(h:Live w P B N0 c)(hc:c<=300000) :
  Calls Tryz.prog 43 #[.pointer (some ⟨P,7,none⟩)] w fun e w'=>e=.returned (.bool true)/\Ext w w':=by
 obtain⟨G,v,q,R,ls,F,ops,fl,ah,h⟩:=h;have h5:=h.ops;exact Ub h.game (by omega)
end
end Go.Proofs.YtmnjhhachdlmkaaGreat
