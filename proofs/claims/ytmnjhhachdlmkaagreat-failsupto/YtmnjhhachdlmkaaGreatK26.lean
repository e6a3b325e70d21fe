import Derived.Test.YtmnjhhachdlmkaaGreatK25
import Derived.Test.YtmnjhhachdlmkaaGreatK01
import Derived.Test.YtmnjhhachdlmkaaGreatK08
import Derived.Test.YtmnjhhachdlmkaaGreatK13
import Derived.Test.YtmnjhhachdlmkaaGreatK22
namespace Go.Proofs.YtmnjhhachdlmkaaGreat
set_option linter.all false
set_option maxRecDepth 100000
set_option maxHeartbeats 6400000
open Tryz
open Nat renaming le_trans -> rH
open Ext renaming refl -> lI, alloc -> lK, setCell -> rF, drew -> lJ, block -> rW, chain -> lY
open List renaming take -> rS, drop -> rR, drop_drop -> rX, length_eq_zero_iff -> sO
open AllReady renaming cons -> lN, nil -> lS
open UInt8 renaming toNat_lt -> sB
section
open Go.RowKit
theorem Va:∀(k:Nat)(h:k<fetchL.length),fetchL[k].1=k/\1<=fetchL[k].2.1/\fetchL[k].2.1<=4/\0<=fetchL[k].2.2/\fetchL[k].2.2<=2147483647:=by decide
theorem xZ (s:ByteArray)(hs:s.size<=maxLen)(h1:0<s.size)(hk:(s[0]).toNat=2)(w:World) :
  Calls Tryz.prog 58 #[.string s] w fun e w'=>
   (∃vs b,zK fetchL (s.extract 1 s.size).data.toList=some (vs,[])/\e=.returned (.tuple #[.iface 203 (.pointer (some ⟨b,0,none⟩)),.int .i64 0])/\w'.heap[b]?=some (.cells (Z8 vs 8) 212 (0,0))/\Ext w w'/\w.heap.size<=b)\/
   ((∀vs,zK fetchL (s.extract 1 s.size).data.toList≠some (vs,[]))/\e=.returned (.tuple #[.nilIface,.int .i64 1])/\Ext w w'):=by
 have hne:s.toList.isEmpty=false:=by
  rw [ByteArray.toList_eq];cases hx:s.data.toList with
  | nil=>have:s.size=0:=(by rw [<-ByteArray.size_data,<-Array.length_toList,hx];rfl);omega
  | cons _ _=>rfl
 have hse:(s.extract 1 s.size).size<=maxLen:=by rw [ByteArray.size_extract];omega
 have HS:=hid hse;unfold maxLen at hs;clear hse;have hm2:=qZ;go_enter func58,ntmps58;go_wp2_with (go_at_call 84;refine(Xo 0 0 0 0 0 0 0 0 0 _).mono ?_;rintro e w1 ⟨b,rfl,hb,hlt,hx⟩)
 have HB:Hd _:=hb;have hltw:w.heap.size<=b:=hlt;clear hb hlt;by_cases HD:∃vs,zK fetchL (s.extract 1 s.size).data.toList=some (vs,[])
 ·obtain⟨vs,hd⟩:=HD;have HDD:Hd _:=hd;clear hd
  go_region_with (first
   | (go_at_call 218;refine(YT b _).mono ?_;rintro e w2 ⟨g,cap,rfl,ho,hx2⟩)
   | (go_at_call 87;refine(Qp b g cap 8 _ w.heap.size 212 fetchL (s.extract 1 s.size) _ rfl (by decide) (by decide) Va HS.o ho (by exact hx2.block (by exact HB.o)) hltw (by exact rH hx.le hx2.le) vs HDD.o).mono ?_;rintro e w3 ⟨rfl,hb3,hbel⟩))
  all_goals go_wp2
  all_goals go_ret2
  all_goals exact .inl ⟨vs,b,HDD.o,rfl,hb3,Below.trans ((hx.drew).trans hx2) hbel,hltw⟩
 ·have HDD:Hd (∀vs,zK fetchL (s.extract 1 s.size).data.toList≠some (vs,[])):=fun vs h=>HD ⟨vs,h⟩
  clear HD
  go_region_with (first
   | (go_at_call 218;refine(YT b _).mono ?_;rintro e w2 ⟨g,cap,rfl,ho,hx2⟩)
   | (go_at_call 87;refine(xX b g cap 8 _ w.heap.size 212 fetchL (s.extract 1 s.size) _ rfl (by decide) (by decide) Va HS.o ho (by exact hx2.block (by exact HB.o)) hltw (by exact rH hx.le hx2.le) HDD.o).mono ?_;rintro e w3 ⟨rfl,hbel⟩))
  all_goals go_wp2
  all_goals go_ret2
  all_goals exact .inr ⟨HDD.o,rfl,Below.trans ((hx.drew).trans hx2) hbel⟩
end
section
open Go.RowKit
theorem Vq (str:ByteArray)(hs:str.size<=maxLen)(h1:0<str.size)(hk:(str[0]).toNat=2)(w:World) :
  Calls Tryz.prog 107 #[.string str] w fun e w'=>
   (∃s ck cm cl cn f c p:Nat,zK fetchL (str.extract 1 str.size).data.toList=some ([s,ck,cm,cl,cn,f,c,p],[])/\e=.returned (.tuple #[.agg #[.int .i64 2,.int .i64 (s:Int),.int .i64 0,.int .i64 (ck:Int),.int .i64 (cm:Int),.int .i64 (cl:Int),.int .i64 (cn:Int),.int .i64 (f:Int),.int .i64 (c:Int),.int .i64 (p:Int)],.int .i64 0])/\Ext w w')\/
   ((∀vs,zK fetchL (str.extract 1 str.size).data.toList≠some (vs,[]))/\e=.returned (.tuple #[.agg #[.int .i64 0,.int .i64 0,.int .i64 0,.int .i64 0,.int .i64 0,.int .i64 0,.int .i64 0,.int .i64 0,.int .i64 0,.int .i64 0],.int .i64 1])/\Ext w w'):=by
 have hne:str.toList.isEmpty=false:=by
  rw [ByteArray.toList_eq];cases hx:str.data.toList with
  | nil=>have:str.size=0:=(by rw [<-ByteArray.size_data,<-Array.length_toList,hx];rfl);omega
  | cons _ _=>rfl
 have x0:((⟨#[83,75,70,67,80]⟩:ByteArray)[0]).toNat=83:=rfl;have x1:((⟨#[83,75,70,67,80]⟩:ByteArray)[1]).toNat=75:=rfl;have x2:((⟨#[83,75,70,67,80]⟩:ByteArray)[2]).toNat=70:=rfl;have x3:((⟨#[83,75,70,67,80]⟩:ByteArray)[3]).toNat=67:=rfl;have x4:((⟨#[83,75,70,67,80]⟩:ByteArray)[4]).toNat=80:=rfl;have hes:(str.extract 1 str.size).size<=9223372036854775807:=by rw [ByteArray.size_extract];unfold maxLen at hs;omega
 unfold maxLen at hs;have HBAD:Hd (∀T:List UInt8,T.length≠szs fetchL->∀vs,zK fetchL T≠some (vs,[])):=fun T h vs h'=>h ((ZI _ _ _).1 h').1
 go_enter func107,ntmps107;go_wp2_with (go_at_call 151;refine(Kh _).mono ?_;rintro e w1 ⟨rfl,rfl⟩)
 generalize hT0:str.extract 1 str.size=t0 at *;have HT0:=hid hT0;clear hT0;have l0:t0.data.toList.length=t0.size:=by simp
 have L0:Hd _:=l0;clear l0;refine wp_loop_rounds 6 ?_;rw [rounds_succ];by_cases c0:t0.size<4
 ·go_wp2;refine bodyPost_ret (v:=.tuple #[.agg #[.int .i64 0,.int .i64 0,.int .i64 0,.int .i64 0,.int .i64 0,.int .i64 0,.int .i64 0,.int .i64 0,.int .i64 0,.int .i64 0],.int .i64 1]) (by simp [results,results107,go_sem]) rfl (.inr ⟨HBAD.o _ ?_,rfl,?_⟩)
  ·rw [HT0.o,L0.o];simp only [szs,fetchL];simp;omega
  ·repeat (first|exact lI _|refine lK ?_ _|refine rF ?_ (by simp) _|refine lJ ?_)
 ·skip
  go_wp2_with (go_at_call 152;refine(Yi t0 (by omega) (by unfold maxLen;omega) _).mono ?_;rintro e w1 ⟨rfl,rfl⟩)
  generalize hv:be (rS 4 t0.data.toList)=s at *;have V_s:=hid hv;clear hv;have e0:(t0.extract 4 t0.size).data.toList=t0.data.toList.drop 4:=Zq t0 4;have s0:(t0.extract 4 t0.size).size+4=t0.size:=by rw [ByteArray.size_extract];omega
  generalize t0.extract 4 t0.size=t1 at *;have E0:=hid e0;have S0:=hid s0;have S0a:t1.size<=t0.size:=by omega
  clear e0 s0;rw [rounds_succ];by_cases c1:t1.size<4
  ·go_wp2;refine bodyPost_ret (v:=.tuple #[.agg #[.int .i64 0,.int .i64 0,.int .i64 0,.int .i64 0,.int .i64 0,.int .i64 0,.int .i64 0,.int .i64 0,.int .i64 0,.int .i64 0],.int .i64 1]) (by simp [results,results107,go_sem]) rfl (.inr ⟨HBAD.o _ ?_,rfl,?_⟩)
   ·rw [HT0.o,L0.o];simp only [szs,fetchL];simp;have:=S0.o;omega
   ·repeat (first|exact lI _|refine lK ?_ _|refine rF ?_ (by simp) _|refine lJ ?_)
  ·skip
   have b1a:∀q,q<4->q<t1.size:=by omega
   have i10:(0:Int)<(t1.size:Int):=by omega
   have i11:(1:Int)<(t1.size:Int):=by omega
   have i12:(2:Int)<(t1.size:Int):=by omega
   have i13:(3:Int)<(t1.size:Int):=by omega
   have j10:0<t1.size:=by omega
   have j11:1<t1.size:=by omega
   have j12:2<t1.size:=by omega
   have j13:3<t1.size:=by omega
   go_wp2;refine wp_region_any (by kernel_rfl) ?_
   change wpAny _ _ _ _ _ _ _ (World.drew _)
   refine wpAny_take (i:=0) (v:=.string t1) rfl (by kernel_rfl) (by kernel_rfl) (by kernel_rfl) (fun _ _ _ h=>h) (Or.inl ⟨by rfl,by intro w;go_simp⟩) ?_;refine wpAny_take (i:=1) (v:=.int .u8 ((t1[0]'j10).toNat:Int)) rfl (by kernel_rfl) (by kernel_rfl) (by kernel_rfl) (fun _ _ _ h=>h) (Or.inl ⟨by rfl,by intro w;go_simp⟩) ?_;refine wpAny_take (i:=2) (v:=.int .i64 (IntKind.i64.wrap ((t1[0]'j10).toNat:Int))) rfl (by kernel_rfl) (by kernel_rfl) (by kernel_rfl) (fun _ _ _ h=>h) (Or.inl ⟨by rfl,by intro w;go_simp⟩) ?_;refine wpAny_take (i:=3) (v:=.string t1) rfl (by kernel_rfl) (by kernel_rfl) (by kernel_rfl) (fun _ _ _ h=>h) (Or.inl ⟨by rfl,by intro w;go_simp⟩) ?_;refine wpAny_take (i:=4) (v:=.int .u8 ((t1[1]'j11).toNat:Int)) rfl (by kernel_rfl) (by kernel_rfl) (by kernel_rfl) (fun _ _ _ h=>h) (Or.inl ⟨by rfl,by intro w;go_simp⟩) ?_;refine wpAny_take (i:=5) (v:=.int .i64 (IntKind.i64.wrap ((t1[1]'j11).toNat:Int))) rfl (by kernel_rfl) (by kernel_rfl) (by kernel_rfl) (fun _ _ _ h=>h) (Or.inl ⟨by rfl,by intro w;go_simp⟩) ?_;refine wpAny_take (i:=6) (v:=.string t1) rfl (by kernel_rfl) (by kernel_rfl) (by kernel_rfl) (fun _ _ _ h=>h) (Or.inl ⟨by rfl,by intro w;go_simp⟩) ?_;refine wpAny_take (i:=7) (v:=.int .u8 ((t1[2]'j12).toNat:Int)) rfl (by kernel_rfl) (by kernel_rfl) (by kernel_rfl) (fun _ _ _ h=>h) (Or.inl ⟨by rfl,by intro w;go_simp⟩) ?_;refine wpAny_take (i:=8) (v:=.int .i64 (IntKind.i64.wrap ((t1[2]'j12).toNat:Int))) rfl (by kernel_rfl) (by kernel_rfl) (by kernel_rfl) (fun _ _ _ h=>h) (Or.inl ⟨by rfl,by intro w;go_simp⟩) ?_;refine wpAny_take (i:=9) (v:=.string t1) rfl (by kernel_rfl) (by kernel_rfl) (by kernel_rfl) (fun _ _ _ h=>h) (Or.inl ⟨by rfl,by intro w;go_simp⟩) ?_;refine wpAny_take (i:=10) (v:=.int .u8 ((t1[3]'j13).toNat:Int)) rfl (by kernel_rfl) (by kernel_rfl) (by kernel_rfl) (fun _ _ _ h=>h) (Or.inl ⟨by rfl,by intro w;go_simp⟩) ?_;refine wpAny_take (i:=11) (v:=.int .i64 (IntKind.i64.wrap ((t1[3]'j13).toNat:Int))) rfl (by kernel_rfl) (by kernel_rfl) (by kernel_rfl) (fun _ _ _ h=>h) (Or.inl ⟨by rfl,by intro w;go_simp⟩) ?_
   refine wpAny_take (i:=12) (v:=.agg #[.int .i64 (IntKind.i64.wrap ((t1[0]'j10).toNat:Int)),.int .i64 (IntKind.i64.wrap ((t1[1]'j11).toNat:Int)),.int .i64 (IntKind.i64.wrap ((t1[2]'j12).toNat:Int)),.int .i64 (IntKind.i64.wrap ((t1[3]'j13).toNat:Int))]) rfl (by kernel_rfl) (by kernel_rfl) (by kernel_rfl) (fun _ _ _ h=>h) (Or.inl ⟨by rfl,by intro w;go_simp⟩) ?_;refine wpAny_take (i:=13) (v:=.pointer (some ⟨w.heap.size+1,3,none⟩)) rfl (by kernel_rfl) (by kernel_rfl) (by kernel_rfl) (fun _ _ _ h=>h) (Or.inl ⟨by rfl,by intro w;go_simp⟩) ?_;refine wpAny_ready (rs:=[14]) (by kernel_rfl) (by simp) ?_;refine lN rfl (fun K hK=>?_) lS;go_simp;refine hK _ _ ?_;clear hK K;refine wpAny_done (by kernel_rfl) ?_ _;have w10:IntKind.i64.wrap ((t1[0]'j10).toNat:Int)=((t1[0]'j10).toNat:Int):=Q9 (by omega) (by have:=sB (t1[0]'j10);omega);have w11:IntKind.i64.wrap ((t1[1]'j11).toNat:Int)=((t1[1]'j11).toNat:Int):=Q9 (by omega) (by have:=sB (t1[1]'j11);omega);have w12:IntKind.i64.wrap ((t1[2]'j12).toNat:Int)=((t1[2]'j12).toNat:Int):=Q9 (by omega) (by have:=sB (t1[2]'j12);omega);have w13:IntKind.i64.wrap ((t1[3]'j13).toNat:Int)=((t1[3]'j13).toNat:Int):=Q9 (by omega) (by have:=sB (t1[3]'j13);omega);simp only [w10,w11,w12,w13];clear w10 w11 w12 w13;generalize hv:(t1[0]'j10).toNat=ck at *;have V_ck:=hid hv;clear hv;have B_ck:ck<256:=by rw [<-V_ck.o];exact sB _
   generalize hv:(t1[1]'j11).toNat=cm at *;have V_cm:=hid hv;clear hv;have B_cm:cm<256:=by rw [<-V_cm.o];exact sB _
   generalize hv:(t1[2]'j12).toNat=cl at *;have V_cl:=hid hv;clear hv;have B_cl:cl<256:=by rw [<-V_cl.o];exact sB _
   generalize hv:(t1[3]'j13).toNat=cn at *;have V_cn:=hid hv;clear hv;have B_cn:cn<256:=by rw [<-V_cn.o];exact sB _
   go_wp2;have e1:(t1.extract 4 t1.size).data.toList=t1.data.toList.drop 4:=Zq t1 4;have s1:(t1.extract 4 t1.size).size+4=t1.size:=by rw [ByteArray.size_extract];omega
   generalize t1.extract 4 t1.size=t2 at *;have E1:=hid e1;have S1:=hid s1;have S1a:t2.size<=t1.size:=by omega
   clear e1 s1;rw [rounds_succ];by_cases c2:t2.size<4
   ·go_wp2;refine bodyPost_ret (v:=.tuple #[.agg #[.int .i64 0,.int .i64 0,.int .i64 0,.int .i64 0,.int .i64 0,.int .i64 0,.int .i64 0,.int .i64 0,.int .i64 0,.int .i64 0],.int .i64 1]) (by simp [results,results107,go_sem]) rfl (.inr ⟨HBAD.o _ ?_,rfl,?_⟩)
    ·rw [HT0.o,L0.o];simp only [szs,fetchL];simp;have:=S0.o;have:=S1.o;omega
    ·repeat (first|exact lI _|refine lK ?_ _|refine rF ?_ (by simp) _|refine lJ ?_)
   ·skip
    go_wp2_with (go_at_call 152;refine(Yi t2 (by omega) (by unfold maxLen;omega) _).mono ?_;rintro e w1 ⟨rfl,rfl⟩)
    generalize hv:be (rS 4 t2.data.toList)=f at *;have V_f:=hid hv;clear hv;have e2:(t2.extract 4 t2.size).data.toList=t2.data.toList.drop 4:=Zq t2 4;have s2:(t2.extract 4 t2.size).size+4=t2.size:=by rw [ByteArray.size_extract];omega
    generalize t2.extract 4 t2.size=t3 at *;have E2:=hid e2;have S2:=hid s2;have S2a:t3.size<=t2.size:=by omega
    clear e2 s2;rw [rounds_succ];by_cases c3:t3.size<4
    ·go_wp2;refine bodyPost_ret (v:=.tuple #[.agg #[.int .i64 0,.int .i64 0,.int .i64 0,.int .i64 0,.int .i64 0,.int .i64 0,.int .i64 0,.int .i64 0,.int .i64 0,.int .i64 0],.int .i64 1]) (by simp [results,results107,go_sem]) rfl (.inr ⟨HBAD.o _ ?_,rfl,?_⟩)
     ·rw [HT0.o,L0.o];simp only [szs,fetchL];simp;have:=S0.o;have:=S1.o;have:=S2.o;omega
     ·repeat (first|exact lI _|refine lK ?_ _|refine rF ?_ (by simp) _|refine lJ ?_)
    ·skip
     go_wp2_with (go_at_call 152;refine(Yi t3 (by omega) (by unfold maxLen;omega) _).mono ?_;rintro e w1 ⟨rfl,rfl⟩)
     generalize hv:be (rS 4 t3.data.toList)=c at *;have V_c:=hid hv;clear hv;have e3:(t3.extract 4 t3.size).data.toList=t3.data.toList.drop 4:=Zq t3 4;have s3:(t3.extract 4 t3.size).size+4=t3.size:=by rw [ByteArray.size_extract];omega
     generalize t3.extract 4 t3.size=t4 at *;have E3:=hid e3;have S3:=hid s3;have S3a:t4.size<=t3.size:=by omega
     clear e3 s3;rw [rounds_succ];by_cases c4:t4.size<1
     ·go_wp2;refine bodyPost_ret (v:=.tuple #[.agg #[.int .i64 0,.int .i64 0,.int .i64 0,.int .i64 0,.int .i64 0,.int .i64 0,.int .i64 0,.int .i64 0,.int .i64 0,.int .i64 0],.int .i64 1]) (by simp [results,results107,go_sem]) rfl (.inr ⟨HBAD.o _ ?_,rfl,?_⟩)
      ·rw [HT0.o,L0.o];simp only [szs,fetchL];simp;have:=S0.o;have:=S1.o;have:=S2.o;have:=S3.o;omega
      ·repeat (first|exact lI _|refine lK ?_ _|refine rF ?_ (by simp) _|refine lJ ?_)
     ·skip
      go_wp2;generalize hv:(t4[0]'(by omega)).toNat=p at *;have V_p:=hid hv;clear hv;have B_p:p<256:=by rw [<-V_p.o];exact sB _
      have wp:wrap64 (p:Int)=(p:Int):=w64 (by omega) (by omega);simp only [wp];clear wp;have e4:(t4.extract 1 t4.size).data.toList=t4.data.toList.drop 1:=Zq t4 1;have s4:(t4.extract 1 t4.size).size+1=t4.size:=by rw [ByteArray.size_extract];omega
      generalize t4.extract 1 t4.size=t5 at *;have E4:=hid e4;have S4:=hid s4;have S4a:t5.size<=t4.size:=by omega
      clear e4 s4;rw [rounds_succ];have D0:t0.data.toList=rR 0 t0.data.toList:=rfl;have f_s:be (rS 4 (rR 0 t0.data.toList))=s:=by rw [<-D0];exact V_s.o
      have D1:t1.data.toList=rR 4 t0.data.toList:=by rw [E0.o,D0,rX]
      have f_ck:be (rS 1 (rR 4 t0.data.toList))=ck:=by rw [show 4=4+0 from rfl,<-rX,<-D1,yY t1 0 j10];exact V_ck.o
      have f_cm:be (rS 1 (rR 5 t0.data.toList))=cm:=by rw [show 5=4+1 from rfl,<-rX,<-D1,yY t1 1 j11];exact V_cm.o
      have f_cl:be (rS 1 (rR 6 t0.data.toList))=cl:=by rw [show 6=4+2 from rfl,<-rX,<-D1,yY t1 2 j12];exact V_cl.o
      have f_cn:be (rS 1 (rR 7 t0.data.toList))=cn:=by rw [show 7=4+3 from rfl,<-rX,<-D1,yY t1 3 j13];exact V_cn.o
      have D2:t2.data.toList=rR 8 t0.data.toList:=by rw [E1.o,D1,rX]
      have f_f:be (rS 4 (rR 8 t0.data.toList))=f:=by rw [<-D2];exact V_f.o
      have D3:t3.data.toList=rR 12 t0.data.toList:=by rw [E2.o,D2,rX]
      have f_c:be (rS 4 (rR 12 t0.data.toList))=c:=by rw [<-D3];exact V_c.o
      have D4:t4.data.toList=rR 16 t0.data.toList:=by rw [E3.o,D3,rX]
      have f_p:be (rS 1 (rR 16 t0.data.toList))=p:=by rw [<-D4,show t4.data.toList=rR 0 t4.data.toList from rfl,yY t4 0 (by omega)];exact V_p.o
      have HVAL:Hd (ZT fetchL t0.data.toList=[s,ck,cm,cl,cn,f,c,p]):=by
       show ZT fetchL t0.data.toList=[s,ck,cm,cl,cn,f,c,p]
       rw [<-f_s,<-f_ck,<-f_cm,<-f_cl,<-f_cn,<-f_f,<-f_c,<-f_p];simp [fetchL,ZT,rX]
      have HBD:Hd (Zu fetchL t0.data.toList↔inB s 0 ck cm cl cn f c p ((0:Int) == 0)=true):=by
       show Zu fetchL t0.data.toList↔inB s 0 ck cm cl cn f c p ((0:Int) == 0)=true
       have hb:Zu fetchL t0.data.toList↔((s:Int)<=2147483647/\(ck:Int)<=255/\(cm:Int)<=255/\(cl:Int)<=255/\(cn:Int)<=255/\(f:Int)<=2147483647/\(c:Int)<=2147483647/\(p:Int)<=255):=by rw [<-f_s,<-f_ck,<-f_cm,<-f_cl,<-f_cn,<-f_f,<-f_c,<-f_p];simp [fetchL,Zu,rX]
       rw [hb];simp [inB,Yr,Ym]
       try omega
      clear f_s f_ck f_cm f_cl f_cn f_f f_c f_p D0 D1 D2 D3 D4;cases hB:inB s 0 ck cm cl cn f c p ((0:Int) == 0)
      ·have HBB:Hd _:=hB;clear hB;go_wp2_with (go_at_call 153;refine(Qw s 0 ck cm cl cn f c p _).mono ?_;rw [HBB.o];rintro e w1 ⟨rfl,hx1⟩;obtain⟨la,ca0,ca1,ca2,ca3,ca4,ca5,ca6,ca7,ca8,ca9,fa0,fa1,fa2,fa3,fa4,fa5,fa6,fa7,fa8,fa9⟩:=QU (W:=w1) (g:=w.heap.size) (by repeat (first|(with_reducible refine zy ?_)|((with_reducible refine zm ?_);(simp;done))|(with_reducible refine zC ?_)|(with_reducible (apply rW;assumption))));obtain⟨lb,cb0,cb1,cb2,cb3,cb4,cb5,cb6,cb7,cb8,cb9,_⟩:=Z7 (W:=w1) (g:=w.heap.size+1) (t:=51) (v0:=.int .i64 2) (v1:=.int .i64 (s:Int)) (v2:=.int .i64 0) (v3:=.int .i64 (ck:Int)) (v4:=.int .i64 (cm:Int)) (v5:=.int .i64 (cl:Int)) (v6:=.int .i64 (cn:Int)) (v7:=.int .i64 (f:Int)) (v8:=.int .i64 (c:Int)) (v9:=.int .i64 (p:Int)) (by repeat (first|(with_reducible refine zy ?_)|((with_reducible refine zm ?_);(simp;done))|(with_reducible refine zC ?_)|(with_reducible (apply rW;assumption)))))
       refine bodyPost_ret (v:=.tuple #[.agg #[.int .i64 0,.int .i64 0,.int .i64 0,.int .i64 0,.int .i64 0,.int .i64 0,.int .i64 0,.int .i64 0,.int .i64 0,.int .i64 0],.int .i64 1]) (by simp [results,results107,go_sem, *]) rfl (.inr ⟨?_,rfl,?_⟩)
       ·intro vs h;rw [HT0.o] at h;have h3:=HBD.o.1 ((ZI _ _ _).1 h).2.2;rw [HBB.o] at h3;simp at h3
       ·repeat (first|(with_reducible exact lI _)|(with_reducible assumption)|(with_reducible refine lJ ?_)|(with_reducible refine lK ?_ _)|(with_reducible refine rF ?_ (by simp) _)|(with_reducible (apply lY;assumption)))
      ·have HBB:Hd _:=hB;clear hB;by_cases ce:t5.size=0
       ·have hem:t5.toList.isEmpty=true:=by
         rw [ByteArray.toList_eq,List.isEmpty_iff,<-sO];simpa using ce
        have CE:Hd _:=ce;clear ce;go_wp2_with (go_at_call 153;refine(Qw s 0 ck cm cl cn f c p _).mono ?_;rw [HBB.o];rintro e w1 ⟨rfl,hx1⟩;obtain⟨la,ca0,ca1,ca2,ca3,ca4,ca5,ca6,ca7,ca8,ca9,fa0,fa1,fa2,fa3,fa4,fa5,fa6,fa7,fa8,fa9⟩:=QU (W:=w1) (g:=w.heap.size) (by repeat (first|(with_reducible refine zy ?_)|((with_reducible refine zm ?_);(simp;done))|(with_reducible refine zC ?_)|(with_reducible (apply rW;assumption))));obtain⟨lb,cb0,cb1,cb2,cb3,cb4,cb5,cb6,cb7,cb8,cb9,_⟩:=Z7 (W:=w1) (g:=w.heap.size+1) (t:=51) (v0:=.int .i64 2) (v1:=.int .i64 (s:Int)) (v2:=.int .i64 0) (v3:=.int .i64 (ck:Int)) (v4:=.int .i64 (cm:Int)) (v5:=.int .i64 (cl:Int)) (v6:=.int .i64 (cn:Int)) (v7:=.int .i64 (f:Int)) (v8:=.int .i64 (c:Int)) (v9:=.int .i64 (p:Int)) (by repeat (first|(with_reducible refine zy ?_)|((with_reducible refine zm ?_);(simp;done))|(with_reducible refine zC ?_)|(with_reducible (apply rW;assumption)))))
        refine bodyPost_ret (v:=.tuple #[.agg #[.int .i64 2,.int .i64 (s:Int),.int .i64 0,.int .i64 (ck:Int),.int .i64 (cm:Int),.int .i64 (cl:Int),.int .i64 (cn:Int),.int .i64 (f:Int),.int .i64 (c:Int),.int .i64 (p:Int)],.int .i64 0]) (by simp [results,results107,go_sem, *]) rfl (.inl ⟨s,ck,cm,cl,cn,f,c,p,?_,rfl,?_⟩)
        ·rw [HT0.o];refine(ZI _ _ _).2 ⟨?_,HVAL.o.symm,HBD.o.2 HBB.o⟩;rw [L0.o];simp only [szs,fetchL];simp;have:=CE.o;have:=S0.o;have:=S1.o;have:=S2.o;have:=S3.o;have:=S4.o;omega
        ·repeat (first|(with_reducible exact lI _)|(with_reducible assumption)|(with_reducible refine lJ ?_)|(with_reducible refine lK ?_ _)|(with_reducible refine rF ?_ (by simp) _)|(with_reducible (apply lY;assumption)))
       ·have hem:t5.toList.isEmpty=false:=by
         rw [ByteArray.toList_eq,List.isEmpty_eq_false_iff];intro h;apply ce;rw [<-ByteArray.size_data,<-Array.length_toList,h];rfl
        have CE:Hd (1<=t5.size):=by show 1<=t5.size;omega
        clear ce;go_wp2_with (go_at_call 153;refine(Qw s 0 ck cm cl cn f c p _).mono ?_;rw [HBB.o];rintro e w1 ⟨rfl,hx1⟩;obtain⟨la,ca0,ca1,ca2,ca3,ca4,ca5,ca6,ca7,ca8,ca9,fa0,fa1,fa2,fa3,fa4,fa5,fa6,fa7,fa8,fa9⟩:=QU (W:=w1) (g:=w.heap.size) (by repeat (first|(with_reducible refine zy ?_)|((with_reducible refine zm ?_);(simp;done))|(with_reducible refine zC ?_)|(with_reducible (apply rW;assumption))));obtain⟨lb,cb0,cb1,cb2,cb3,cb4,cb5,cb6,cb7,cb8,cb9,_⟩:=Z7 (W:=w1) (g:=w.heap.size+1) (t:=51) (v0:=.int .i64 2) (v1:=.int .i64 (s:Int)) (v2:=.int .i64 0) (v3:=.int .i64 (ck:Int)) (v4:=.int .i64 (cm:Int)) (v5:=.int .i64 (cl:Int)) (v6:=.int .i64 (cn:Int)) (v7:=.int .i64 (f:Int)) (v8:=.int .i64 (c:Int)) (v9:=.int .i64 (p:Int)) (by repeat (first|(with_reducible refine zy ?_)|((with_reducible refine zm ?_);(simp;done))|(with_reducible refine zC ?_)|(with_reducible (apply rW;assumption)))))
        refine bodyPost_ret (v:=.tuple #[.agg #[.int .i64 0,.int .i64 0,.int .i64 0,.int .i64 0,.int .i64 0,.int .i64 0,.int .i64 0,.int .i64 0,.int .i64 0,.int .i64 0],.int .i64 1]) (by simp [results,results107,go_sem, *]) rfl (.inr ⟨HBAD.o _ ?_,rfl,?_⟩)
        ·rw [HT0.o,L0.o];simp only [szs,fetchL];simp;have:=CE.o;have:=S0.o;have:=S1.o;have:=S2.o;have:=S3.o;have:=S4.o;omega
        ·repeat (first|(with_reducible exact lI _)|(with_reducible assumption)|(with_reducible refine lJ ?_)|(with_reducible refine lK ?_ _)|(with_reducible refine rF ?_ (by simp) _)|(with_reducible (apply lY;assumption)))
end
section
open Go.RowKit
theorem xj:∀(k:Nat)(h:k<releaseL.length),releaseL[k].1=k/\1<=releaseL[k].2.1/\releaseL[k].2.1<=4/\0<=releaseL[k].2.2/\releaseL[k].2.2<=2147483647:=by decide
theorem vb (s:ByteArray)(hs:s.size<=maxLen)(h1:0<s.size)(hk:(s[0]).toNat=3)(w:World) :
  Calls Tryz.prog 58 #[.string s] w fun e w'=>
   (∃vs b,zK releaseL (s.extract 1 s.size).data.toList=some (vs,[])/\e=.returned (.tuple #[.iface 205 (.pointer (some ⟨b,0,none⟩)),.int .i64 0])/\w'.heap[b]?=some (.cells (Z8 vs 2) 214 (0,0))/\Ext w w'/\w.heap.size<=b)\/
   ((∀vs,zK releaseL (s.extract 1 s.size).data.toList≠some (vs,[]))/\e=.returned (.tuple #[.nilIface,.int .i64 1])/\Ext w w'):=by
 have hne:s.toList.isEmpty=false:=by
  rw [ByteArray.toList_eq];cases hx:s.data.toList with
  | nil=>have:s.size=0:=(by rw [<-ByteArray.size_data,<-Array.length_toList,hx];rfl);omega
  | cons _ _=>rfl
 have hse:(s.extract 1 s.size).size<=maxLen:=by rw [ByteArray.size_extract];omega
 have HS:=hid hse;unfold maxLen at hs;clear hse;have hm2:=Yn;go_enter func58,ntmps58;go_wp2_with (go_at_call 84;refine(ve 0 0 0 0 0 0 0 0 0 _).mono ?_;rintro e w1 ⟨b,rfl,hb,hlt,hx⟩)
 have HB:Hd _:=hb;have hltw:w.heap.size<=b:=hlt;clear hb hlt;by_cases HD:∃vs,zK releaseL (s.extract 1 s.size).data.toList=some (vs,[])
 ·obtain⟨vs,hd⟩:=HD;have HDD:Hd _:=hd;clear hd
  go_region_with (first
   | (go_at_call 220;refine(yx b _).mono ?_;rintro e w2 ⟨g,cap,rfl,ho,hx2⟩)
   | (go_at_call 87;refine(Qp b g cap 2 _ w.heap.size 214 releaseL (s.extract 1 s.size) _ rfl (by decide) (by decide) xj HS.o ho (by exact hx2.block (by exact HB.o)) hltw (by exact rH hx.le hx2.le) vs HDD.o).mono ?_;rintro e w3 ⟨rfl,hb3,hbel⟩))
  all_goals go_wp2
  all_goals go_ret2
  all_goals exact .inl ⟨vs,b,HDD.o,rfl,hb3,Below.trans ((hx.drew).trans hx2) hbel,hltw⟩
 ·have HDD:Hd (∀vs,zK releaseL (s.extract 1 s.size).data.toList≠some (vs,[])):=fun vs h=>HD ⟨vs,h⟩
  clear HD
  go_region_with (first
   | (go_at_call 220;refine(yx b _).mono ?_;rintro e w2 ⟨g,cap,rfl,ho,hx2⟩)
   | (go_at_call 87;refine(xX b g cap 2 _ w.heap.size 214 releaseL (s.extract 1 s.size) _ rfl (by decide) (by decide) xj HS.o ho (by exact hx2.block (by exact HB.o)) hltw (by exact rH hx.le hx2.le) HDD.o).mono ?_;rintro e w3 ⟨rfl,hbel⟩))
  all_goals go_wp2
  all_goals go_ret2
  all_goals exact .inr ⟨HDD.o,rfl,Below.trans ((hx.drew).trans hx2) hbel⟩
end
section
open Go.RowKit
theorem vU (str:ByteArray)(hs:str.size<=maxLen)(h1:0<str.size)(hk:(str[0]).toNat=3)(w:World) :
  Calls Tryz.prog 107 #[.string str] w fun e w'=>
   (∃s i:Nat,zK releaseL (str.extract 1 str.size).data.toList=some ([s,i],[])/\e=.returned (.tuple #[.agg #[.int .i64 3,.int .i64 (s:Int),.int .i64 (i:Int),.int .i64 0,.int .i64 0,.int .i64 0,.int .i64 0,.int .i64 0,.int .i64 0,.int .i64 0],.int .i64 0])/\Ext w w')\/
   ((∀vs,zK releaseL (str.extract 1 str.size).data.toList≠some (vs,[]))/\e=.returned (.tuple #[.agg #[.int .i64 0,.int .i64 0,.int .i64 0,.int .i64 0,.int .i64 0,.int .i64 0,.int .i64 0,.int .i64 0,.int .i64 0,.int .i64 0],.int .i64 1])/\Ext w w'):=by
 have hne:str.toList.isEmpty=false:=by
  rw [ByteArray.toList_eq];cases hx:str.data.toList with
  | nil=>have:str.size=0:=(by rw [<-ByteArray.size_data,<-Array.length_toList,hx];rfl);omega
  | cons _ _=>rfl
 have x0:((⟨#[83,73]⟩:ByteArray)[0]).toNat=83:=rfl;have x1:((⟨#[83,73]⟩:ByteArray)[1]).toNat=73:=rfl;have hes:(str.extract 1 str.size).size<=9223372036854775807:=by rw [ByteArray.size_extract];unfold maxLen at hs;omega
 unfold maxLen at hs;have HBAD:Hd (∀T:List UInt8,T.length≠szs releaseL->∀vs,zK releaseL T≠some (vs,[])):=fun T h vs h'=>h ((ZI _ _ _).1 h').1
 go_enter func107,ntmps107;go_wp2_with (go_at_call 151;refine(ke _).mono ?_;rintro e w1 ⟨rfl,rfl⟩)
 generalize hT0:str.extract 1 str.size=t0 at *;have HT0:=hid hT0;clear hT0;have l0:t0.data.toList.length=t0.size:=by simp
 have L0:Hd _:=l0;clear l0;refine wp_loop_rounds 3 ?_;rw [rounds_succ];by_cases c0:t0.size<4
 ·go_wp2;refine bodyPost_ret (v:=.tuple #[.agg #[.int .i64 0,.int .i64 0,.int .i64 0,.int .i64 0,.int .i64 0,.int .i64 0,.int .i64 0,.int .i64 0,.int .i64 0,.int .i64 0],.int .i64 1]) (by simp [results,results107,go_sem]) rfl (.inr ⟨HBAD.o _ ?_,rfl,?_⟩)
  ·rw [HT0.o,L0.o];simp only [szs,releaseL];simp;omega
  ·repeat (first|exact lI _|refine lK ?_ _|refine rF ?_ (by simp) _|refine lJ ?_)
 ·skip
  go_wp2_with (go_at_call 152;refine(Yi t0 (by omega) (by unfold maxLen;omega) _).mono ?_;rintro e w1 ⟨rfl,rfl⟩)
  generalize hv:be (rS 4 t0.data.toList)=s at *;have V_s:=hid hv;clear hv;have e0:(t0.extract 4 t0.size).data.toList=t0.data.toList.drop 4:=Zq t0 4;have s0:(t0.extract 4 t0.size).size+4=t0.size:=by rw [ByteArray.size_extract];omega
  generalize t0.extract 4 t0.size=t1 at *;have E0:=hid e0;have S0:=hid s0;have S0a:t1.size<=t0.size:=by omega
  clear e0 s0;rw [rounds_succ];by_cases c1:t1.size<4
  ·go_wp2;refine bodyPost_ret (v:=.tuple #[.agg #[.int .i64 0,.int .i64 0,.int .i64 0,.int .i64 0,.int .i64 0,.int .i64 0,.int .i64 0,.int .i64 0,.int .i64 0,.int .i64 0],.int .i64 1]) (by simp [results,results107,go_sem]) rfl (.inr ⟨HBAD.o _ ?_,rfl,?_⟩)
   ·rw [HT0.o,L0.o];simp only [szs,releaseL];simp;have:=S0.o;omega
   ·repeat (first|exact lI _|refine lK ?_ _|refine rF ?_ (by simp) _|refine lJ ?_)
  ·skip
   go_wp2_with (go_at_call 152;refine(Yi t1 (by omega) (by unfold maxLen;omega) _).mono ?_;rintro e w1 ⟨rfl,rfl⟩)
   generalize hv:be (rS 4 t1.data.toList)=i at *;have V_i:=hid hv;clear hv;have e1:(t1.extract 4 t1.size).data.toList=t1.data.toList.drop 4:=Zq t1 4;have s1:(t1.extract 4 t1.size).size+4=t1.size:=by rw [ByteArray.size_extract];omega
   generalize t1.extract 4 t1.size=t2 at *;have E1:=hid e1;have S1:=hid s1;have S1a:t2.size<=t1.size:=by omega
   clear e1 s1;rw [rounds_succ];have D0:t0.data.toList=rR 0 t0.data.toList:=rfl;have f_s:be (rS 4 (rR 0 t0.data.toList))=s:=by rw [<-D0];exact V_s.o
   have D1:t1.data.toList=rR 4 t0.data.toList:=by rw [E0.o,D0,rX]
   have f_i:be (rS 4 (rR 4 t0.data.toList))=i:=by rw [<-D1];exact V_i.o
   have HVAL:Hd (ZT releaseL t0.data.toList=[s,i]):=by
    show ZT releaseL t0.data.toList=[s,i]
    rw [<-f_s,<-f_i];simp [releaseL,ZT]
   have HBD:Hd (Zu releaseL t0.data.toList↔inB s i 0 0 0 0 0 0 0 (((0:Int) == 0 && ((0:Int) == 0 && ((0:Int) == 0 && (0:Int) == 0))) && ((0:Int) == 0 && ((0:Int) == 0 && (0:Int) == 0)))=true):=by
    show Zu releaseL t0.data.toList↔inB s i 0 0 0 0 0 0 0 (((0:Int) == 0 && ((0:Int) == 0 && ((0:Int) == 0 && (0:Int) == 0))) && ((0:Int) == 0 && ((0:Int) == 0 && (0:Int) == 0)))=true
    have hb:Zu releaseL t0.data.toList↔((s:Int)<=2147483647/\(i:Int)<=2147483647):=by rw [<-f_s,<-f_i];simp [releaseL,Zu]
    rw [hb];simp [inB,Yr,Ym]
    try omega
   clear f_s f_i D0 D1;cases hB:inB s i 0 0 0 0 0 0 0 (((0:Int) == 0 && ((0:Int) == 0 && ((0:Int) == 0 && (0:Int) == 0))) && ((0:Int) == 0 && ((0:Int) == 0 && (0:Int) == 0)))
   ·have HBB:Hd _:=hB;clear hB;go_wp2_with (go_at_call 153;refine(QQ s i 0 0 0 0 0 0 0 _).mono ?_;rw [HBB.o];rintro e w1 ⟨rfl,hx1⟩;obtain⟨la,ca0,ca1,ca2,ca3,ca4,ca5,ca6,ca7,ca8,ca9,fa0,fa1,fa2,fa3,fa4,fa5,fa6,fa7,fa8,fa9⟩:=QU (W:=w1) (g:=w.heap.size) (by repeat (first|(with_reducible refine zy ?_)|((with_reducible refine zm ?_);(simp;done))|(with_reducible refine zC ?_)|(with_reducible (apply rW;assumption))));obtain⟨lb,cb0,cb1,cb2,cb3,cb4,cb5,cb6,cb7,cb8,cb9,_⟩:=Z7 (W:=w1) (g:=w.heap.size+1) (t:=51) (v0:=.int .i64 3) (v1:=.int .i64 (s:Int)) (v2:=.int .i64 (i:Int)) (v3:=.int .i64 0) (v4:=.int .i64 0) (v5:=.int .i64 0) (v6:=.int .i64 0) (v7:=.int .i64 0) (v8:=.int .i64 0) (v9:=.int .i64 0) (by repeat (first|(with_reducible refine zy ?_)|((with_reducible refine zm ?_);(simp;done))|(with_reducible refine zC ?_)|(with_reducible (apply rW;assumption)))))
    refine bodyPost_ret (v:=.tuple #[.agg #[.int .i64 0,.int .i64 0,.int .i64 0,.int .i64 0,.int .i64 0,.int .i64 0,.int .i64 0,.int .i64 0,.int .i64 0,.int .i64 0],.int .i64 1]) (by simp [results,results107,go_sem, *]) rfl (.inr ⟨?_,rfl,?_⟩)
    ·intro vs h;rw [HT0.o] at h;have h3:=HBD.o.1 ((ZI _ _ _).1 h).2.2;rw [HBB.o] at h3;simp at h3
    ·repeat (first|(with_reducible exact lI _)|(with_reducible assumption)|(with_reducible refine lJ ?_)|(with_reducible refine lK ?_ _)|(with_reducible refine rF ?_ (by simp) _)|(with_reducible (apply lY;assumption)))
   ·have HBB:Hd _:=hB;clear hB;by_cases ce:t2.size=0
    ·have hem:t2.toList.isEmpty=true:=by
      rw [ByteArray.toList_eq,List.isEmpty_iff,<-sO];simpa using ce
     have CE:Hd _:=ce;clear ce;go_wp2_with (go_at_call 153;refine(QQ s i 0 0 0 0 0 0 0 _).mono ?_;rw [HBB.o];rintro e w1 ⟨rfl,hx1⟩;obtain⟨la,ca0,ca1,ca2,ca3,ca4,ca5,ca6,ca7,ca8,ca9,fa0,fa1,fa2,fa3,fa4,fa5,fa6,fa7,fa8,fa9⟩:=QU (W:=w1) (g:=w.heap.size) (by repeat (first|(with_reducible refine zy ?_)|((with_reducible refine zm ?_);(simp;done))|(with_reducible refine zC ?_)|(with_reducible (apply rW;assumption))));obtain⟨lb,cb0,cb1,cb2,cb3,cb4,cb5,cb6,cb7,cb8,cb9,_⟩:=Z7 (W:=w1) (g:=w.heap.size+1) (t:=51) (v0:=.int .i64 3) (v1:=.int .i64 (s:Int)) (v2:=.int .i64 (i:Int)) (v3:=.int .i64 0) (v4:=.int .i64 0) (v5:=.int .i64 0) (v6:=.int .i64 0) (v7:=.int .i64 0) (v8:=.int .i64 0) (v9:=.int .i64 0) (by repeat (first|(with_reducible refine zy ?_)|((with_reducible refine zm ?_);(simp;done))|(with_reducible refine zC ?_)|(with_reducible (apply rW;assumption)))))
     refine bodyPost_ret (v:=.tuple #[.agg #[.int .i64 3,.int .i64 (s:Int),.int .i64 (i:Int),.int .i64 0,.int .i64 0,.int .i64 0,.int .i64 0,.int .i64 0,.int .i64 0,.int .i64 0],.int .i64 0]) (by simp [results,results107,go_sem, *]) rfl (.inl ⟨s,i,?_,rfl,?_⟩)
     ·rw [HT0.o];refine(ZI _ _ _).2 ⟨?_,HVAL.o.symm,HBD.o.2 HBB.o⟩;rw [L0.o];simp only [szs,releaseL];simp;have:=CE.o;have:=S0.o;have:=S1.o;omega
     ·repeat (first|(with_reducible exact lI _)|(with_reducible assumption)|(with_reducible refine lJ ?_)|(with_reducible refine lK ?_ _)|(with_reducible refine rF ?_ (by simp) _)|(with_reducible (apply lY;assumption)))
    ·have hem:t2.toList.isEmpty=false:=by
      rw [ByteArray.toList_eq,List.isEmpty_eq_false_iff];intro h;apply ce;rw [<-ByteArray.size_data,<-Array.length_toList,h];rfl
     have CE:Hd (1<=t2.size):=by show 1<=t2.size;omega
     clear ce;go_wp2_with (go_at_call 153;refine(QQ s i 0 0 0 0 0 0 0 _).mono ?_;rw [HBB.o];rintro e w1 ⟨rfl,hx1⟩;obtain⟨la,ca0,ca1,ca2,ca3,ca4,ca5,ca6,ca7,ca8,ca9,fa0,fa1,fa2,fa3,fa4,fa5,fa6,fa7,fa8,fa9⟩:=QU (W:=w1) (g:=w.heap.size) (by repeat (first|(with_reducible refine zy ?_)|((with_reducible refine zm ?_);(simp;done))|(with_reducible refine zC ?_)|(with_reducible (apply rW;assumption))));obtain⟨lb,cb0,cb1,cb2,cb3,cb4,cb5,cb6,cb7,cb8,cb9,_⟩:=Z7 (W:=w1) (g:=w.heap.size+1) (t:=51) (v0:=.int .i64 3) (v1:=.int .i64 (s:Int)) (v2:=.int .i64 (i:Int)) (v3:=.int .i64 0) (v4:=.int .i64 0) (v5:=.int .i64 0) (v6:=.int .i64 0) (v7:=.int .i64 0) (v8:=.int .i64 0) (v9:=.int .i64 0) (by repeat (first|(with_reducible refine zy ?_)|((with_reducible refine zm ?_);(simp;done))|(with_reducible refine zC ?_)|(with_reducible (apply rW;assumption)))))
     refine bodyPost_ret (v:=.tuple #[.agg #[.int .i64 0,.int .i64 0,.int .i64 0,.int .i64 0,.int .i64 0,.int .i64 0,.int .i64 0,.int .i64 0,.int .i64 0,.int .i64 0],.int .i64 1]) (by simp [results,results107,go_sem, *]) rfl (.inr ⟨HBAD.o _ ?_,rfl,?_⟩)
     ·rw [HT0.o,L0.o];simp only [szs,releaseL];simp;have:=CE.o;have:=S0.o;have:=S1.o;omega
     ·repeat (first|(with_reducible exact lI _)|(with_reducible assumption)|(with_reducible refine lJ ?_)|(with_reducible refine lK ?_ _)|(with_reducible refine rF ?_ (by simp) _)|(with_reducible (apply lY;assumption)))
end
section
open Go.RowKit
theorem Xd:∀(k:Nat)(h:k<statusL.length),statusL[k].1=k/\1<=statusL[k].2.1/\statusL[k].2.1<=4/\0<=statusL[k].2.2/\statusL[k].2.2<=2147483647:=by decide
theorem Xn (s:ByteArray)(hs:s.size<=maxLen)(h1:0<s.size)(hk:(s[0]).toNat=4)(w:World) :
  Calls Tryz.prog 58 #[.string s] w fun e w'=>
   (∃vs b,zK statusL (s.extract 1 s.size).data.toList=some (vs,[])/\e=.returned (.tuple #[.iface 207 (.pointer (some ⟨b,0,none⟩)),.int .i64 0])/\w'.heap[b]?=some (.cells (Z8 vs 4) 216 (0,0))/\Ext w w'/\w.heap.size<=b)\/
   ((∀vs,zK statusL (s.extract 1 s.size).data.toList≠some (vs,[]))/\e=.returned (.tuple #[.nilIface,.int .i64 1])/\Ext w w'):=by
 have hne:s.toList.isEmpty=false:=by
  rw [ByteArray.toList_eq];cases hx:s.data.toList with
  | nil=>have:s.size=0:=(by rw [<-ByteArray.size_data,<-Array.length_toList,hx];rfl);omega
  | cons _ _=>rfl
 have hse:(s.extract 1 s.size).size<=maxLen:=by rw [ByteArray.size_extract];omega
 have HS:=hid hse;unfold maxLen at hs;clear hse;have hm2:=qM;go_enter func58,ntmps58;go_wp2_with (go_at_call 84;refine(XL 0 0 0 0 0 0 0 0 0 _).mono ?_;rintro e w1 ⟨b,rfl,hb,hlt,hx⟩)
 have HB:Hd _:=hb;have hltw:w.heap.size<=b:=hlt;clear hb hlt;by_cases HD:∃vs,zK statusL (s.extract 1 s.size).data.toList=some (vs,[])
 ·obtain⟨vs,hd⟩:=HD;have HDD:Hd _:=hd;clear hd
  go_region_with (first
   | (go_at_call 222;refine(YF b _).mono ?_;rintro e w2 ⟨g,cap,rfl,ho,hx2⟩)
   | (go_at_call 87;refine(Qp b g cap 4 _ w.heap.size 216 statusL (s.extract 1 s.size) _ rfl (by decide) (by decide) Xd HS.o ho (by exact hx2.block (by exact HB.o)) hltw (by exact rH hx.le hx2.le) vs HDD.o).mono ?_;rintro e w3 ⟨rfl,hb3,hbel⟩))
  all_goals go_wp2
  all_goals go_ret2
  all_goals exact .inl ⟨vs,b,HDD.o,rfl,hb3,Below.trans ((hx.drew).trans hx2) hbel,hltw⟩
 ·have HDD:Hd (∀vs,zK statusL (s.extract 1 s.size).data.toList≠some (vs,[])):=fun vs h=>HD ⟨vs,h⟩
  clear HD
  go_region_with (first
   | (go_at_call 222;refine(YF b _).mono ?_;rintro e w2 ⟨g,cap,rfl,ho,hx2⟩)
   | (go_at_call 87;refine(xX b g cap 4 _ w.heap.size 216 statusL (s.extract 1 s.size) _ rfl (by decide) (by decide) Xd HS.o ho (by exact hx2.block (by exact HB.o)) hltw (by exact rH hx.le hx2.le) HDD.o).mono ?_;rintro e w3 ⟨rfl,hbel⟩))
  all_goals go_wp2
  all_goals go_ret2
  all_goals exact .inr ⟨HDD.o,rfl,Below.trans ((hx.drew).trans hx2) hbel⟩
end
section
open Go.RowKit
theorem vN (str:ByteArray)(hs:str.size<=maxLen)(h1:0<str.size)(hk:(str[0]).toNat=4)(w:World) :
  Calls Tryz.prog 107 #[.string str] w fun e w'=>
   (∃ck cm cl cn:Nat,zK statusL (str.extract 1 str.size).data.toList=some ([ck,cm,cl,cn],[])/\e=.returned (.tuple #[.agg #[.int .i64 4,.int .i64 0,.int .i64 0,.int .i64 (ck:Int),.int .i64 (cm:Int),.int .i64 (cl:Int),.int .i64 (cn:Int),.int .i64 0,.int .i64 0,.int .i64 0],.int .i64 0])/\Ext w w')\/
   ((∀vs,zK statusL (str.extract 1 str.size).data.toList≠some (vs,[]))/\e=.returned (.tuple #[.agg #[.int .i64 0,.int .i64 0,.int .i64 0,.int .i64 0,.int .i64 0,.int .i64 0,.int .i64 0,.int .i64 0,.int .i64 0,.int .i64 0],.int .i64 1])/\Ext w w'):=by
 have hne:str.toList.isEmpty=false:=by
  rw [ByteArray.toList_eq];cases hx:str.data.toList with
  | nil=>have:str.size=0:=(by rw [<-ByteArray.size_data,<-Array.length_toList,hx];rfl);omega
  | cons _ _=>rfl
 have x0:((⟨#[75]⟩:ByteArray)[0]).toNat=75:=rfl;have hes:(str.extract 1 str.size).size<=9223372036854775807:=by rw [ByteArray.size_extract];unfold maxLen at hs;omega
 unfold maxLen at hs;have HBAD:Hd (∀T:List UInt8,T.length≠szs statusL->∀vs,zK statusL T≠some (vs,[])):=fun T h vs h'=>h ((ZI _ _ _).1 h').1
 go_enter func107,ntmps107;go_wp2_with (go_at_call 151;refine(JT _).mono ?_;rintro e w1 ⟨rfl,rfl⟩)
 generalize hT0:str.extract 1 str.size=t0 at *;have HT0:=hid hT0;clear hT0;have l0:t0.data.toList.length=t0.size:=by simp
 have L0:Hd _:=l0;clear l0;refine wp_loop_rounds 2 ?_;rw [rounds_succ];by_cases c0:t0.size<4
 ·go_wp2;refine bodyPost_ret (v:=.tuple #[.agg #[.int .i64 0,.int .i64 0,.int .i64 0,.int .i64 0,.int .i64 0,.int .i64 0,.int .i64 0,.int .i64 0,.int .i64 0,.int .i64 0],.int .i64 1]) (by simp [results,results107,go_sem]) rfl (.inr ⟨HBAD.o _ ?_,rfl,?_⟩)
  ·rw [HT0.o,L0.o];simp only [szs,statusL];simp;omega
  ·repeat (first|exact lI _|refine lK ?_ _|refine rF ?_ (by simp) _|refine lJ ?_)
 ·skip
  have b0a:∀q,q<4->q<t0.size:=by omega
  have i00:(0:Int)<(t0.size:Int):=by omega
  have i01:(1:Int)<(t0.size:Int):=by omega
  have i02:(2:Int)<(t0.size:Int):=by omega
  have i03:(3:Int)<(t0.size:Int):=by omega
  have j00:0<t0.size:=by omega
  have j01:1<t0.size:=by omega
  have j02:2<t0.size:=by omega
  have j03:3<t0.size:=by omega
  go_wp2;refine wp_region_any (by kernel_rfl) ?_
  change wpAny _ _ _ _ _ _ _ (World.drew _)
  refine wpAny_take (i:=0) (v:=.string t0) rfl (by kernel_rfl) (by kernel_rfl) (by kernel_rfl) (fun _ _ _ h=>h) (Or.inl ⟨by rfl,by intro w;go_simp⟩) ?_;refine wpAny_take (i:=1) (v:=.int .u8 ((t0[0]'j00).toNat:Int)) rfl (by kernel_rfl) (by kernel_rfl) (by kernel_rfl) (fun _ _ _ h=>h) (Or.inl ⟨by rfl,by intro w;go_simp⟩) ?_;refine wpAny_take (i:=2) (v:=.int .i64 (IntKind.i64.wrap ((t0[0]'j00).toNat:Int))) rfl (by kernel_rfl) (by kernel_rfl) (by kernel_rfl) (fun _ _ _ h=>h) (Or.inl ⟨by rfl,by intro w;go_simp⟩) ?_;refine wpAny_take (i:=3) (v:=.string t0) rfl (by kernel_rfl) (by kernel_rfl) (by kernel_rfl) (fun _ _ _ h=>h) (Or.inl ⟨by rfl,by intro w;go_simp⟩) ?_;refine wpAny_take (i:=4) (v:=.int .u8 ((t0[1]'j01).toNat:Int)) rfl (by kernel_rfl) (by kernel_rfl) (by kernel_rfl) (fun _ _ _ h=>h) (Or.inl ⟨by rfl,by intro w;go_simp⟩) ?_;refine wpAny_take (i:=5) (v:=.int .i64 (IntKind.i64.wrap ((t0[1]'j01).toNat:Int))) rfl (by kernel_rfl) (by kernel_rfl) (by kernel_rfl) (fun _ _ _ h=>h) (Or.inl ⟨by rfl,by intro w;go_simp⟩) ?_;refine wpAny_take (i:=6) (v:=.string t0) rfl (by kernel_rfl) (by kernel_rfl) (by kernel_rfl) (fun _ _ _ h=>h) (Or.inl ⟨by rfl,by intro w;go_simp⟩) ?_;refine wpAny_take (i:=7) (v:=.int .u8 ((t0[2]'j02).toNat:Int)) rfl (by kernel_rfl) (by kernel_rfl) (by kernel_rfl) (fun _ _ _ h=>h) (Or.inl ⟨by rfl,by intro w;go_simp⟩) ?_;refine wpAny_take (i:=8) (v:=.int .i64 (IntKind.i64.wrap ((t0[2]'j02).toNat:Int))) rfl (by kernel_rfl) (by kernel_rfl) (by kernel_rfl) (fun _ _ _ h=>h) (Or.inl ⟨by rfl,by intro w;go_simp⟩) ?_;refine wpAny_take (i:=9) (v:=.string t0) rfl (by kernel_rfl) (by kernel_rfl) (by kernel_rfl) (fun _ _ _ h=>h) (Or.inl ⟨by rfl,by intro w;go_simp⟩) ?_;refine wpAny_take (i:=10) (v:=.int .u8 ((t0[3]'j03).toNat:Int)) rfl (by kernel_rfl) (by kernel_rfl) (by kernel_rfl) (fun _ _ _ h=>h) (Or.inl ⟨by rfl,by intro w;go_simp⟩) ?_;refine wpAny_take (i:=11) (v:=.int .i64 (IntKind.i64.wrap ((t0[3]'j03).toNat:Int))) rfl (by kernel_rfl) (by kernel_rfl) (by kernel_rfl) (fun _ _ _ h=>h) (Or.inl ⟨by rfl,by intro w;go_simp⟩) ?_
  refine wpAny_take (i:=12) (v:=.agg #[.int .i64 (IntKind.i64.wrap ((t0[0]'j00).toNat:Int)),.int .i64 (IntKind.i64.wrap ((t0[1]'j01).toNat:Int)),.int .i64 (IntKind.i64.wrap ((t0[2]'j02).toNat:Int)),.int .i64 (IntKind.i64.wrap ((t0[3]'j03).toNat:Int))]) rfl (by kernel_rfl) (by kernel_rfl) (by kernel_rfl) (fun _ _ _ h=>h) (Or.inl ⟨by rfl,by intro w;go_simp⟩) ?_;refine wpAny_take (i:=13) (v:=.pointer (some ⟨w.heap.size+1,3,none⟩)) rfl (by kernel_rfl) (by kernel_rfl) (by kernel_rfl) (fun _ _ _ h=>h) (Or.inl ⟨by rfl,by intro w;go_simp⟩) ?_;refine wpAny_ready (rs:=[14]) (by kernel_rfl) (by simp) ?_;refine lN rfl (fun K hK=>?_) lS;go_simp;refine hK _ _ ?_;clear hK K;refine wpAny_done (by kernel_rfl) ?_ _;have w00:IntKind.i64.wrap ((t0[0]'j00).toNat:Int)=((t0[0]'j00).toNat:Int):=Q9 (by omega) (by have:=sB (t0[0]'j00);omega);have w01:IntKind.i64.wrap ((t0[1]'j01).toNat:Int)=((t0[1]'j01).toNat:Int):=Q9 (by omega) (by have:=sB (t0[1]'j01);omega);have w02:IntKind.i64.wrap ((t0[2]'j02).toNat:Int)=((t0[2]'j02).toNat:Int):=Q9 (by omega) (by have:=sB (t0[2]'j02);omega);have w03:IntKind.i64.wrap ((t0[3]'j03).toNat:Int)=((t0[3]'j03).toNat:Int):=Q9 (by omega) (by have:=sB (t0[3]'j03);omega);simp only [w00,w01,w02,w03];clear w00 w01 w02 w03;generalize hv:(t0[0]'j00).toNat=ck at *;have V_ck:=hid hv;clear hv;have B_ck:ck<256:=by rw [<-V_ck.o];exact sB _
  generalize hv:(t0[1]'j01).toNat=cm at *;have V_cm:=hid hv;clear hv;have B_cm:cm<256:=by rw [<-V_cm.o];exact sB _
  generalize hv:(t0[2]'j02).toNat=cl at *;have V_cl:=hid hv;clear hv;have B_cl:cl<256:=by rw [<-V_cl.o];exact sB _
  generalize hv:(t0[3]'j03).toNat=cn at *;have V_cn:=hid hv;clear hv;have B_cn:cn<256:=by rw [<-V_cn.o];exact sB _
  go_wp2;have e0:(t0.extract 4 t0.size).data.toList=t0.data.toList.drop 4:=Zq t0 4;have s0:(t0.extract 4 t0.size).size+4=t0.size:=by rw [ByteArray.size_extract];omega
  generalize t0.extract 4 t0.size=t1 at *;have E0:=hid e0;have S0:=hid s0;have S0a:t1.size<=t0.size:=by omega
  clear e0 s0;rw [rounds_succ];have D0:t0.data.toList=rR 0 t0.data.toList:=rfl;have f_ck:be (rS 1 (rR 0 t0.data.toList))=ck:=by rw [show 0=0+0 from rfl,<-rX,<-D0,yY t0 0 j00];exact V_ck.o
  have f_cm:be (rS 1 (rR 1 t0.data.toList))=cm:=by rw [show 1=0+1 from rfl,<-rX,<-D0,yY t0 1 j01];exact V_cm.o
  have f_cl:be (rS 1 (rR 2 t0.data.toList))=cl:=by rw [show 2=0+2 from rfl,<-rX,<-D0,yY t0 2 j02];exact V_cl.o
  have f_cn:be (rS 1 (rR 3 t0.data.toList))=cn:=by rw [show 3=0+3 from rfl,<-rX,<-D0,yY t0 3 j03];exact V_cn.o
  have HVAL:Hd (ZT statusL t0.data.toList=[ck,cm,cl,cn]):=by
   show ZT statusL t0.data.toList=[ck,cm,cl,cn]
   rw [<-f_ck,<-f_cm,<-f_cl,<-f_cn];simp [statusL,ZT,rX]
  have HBD:Hd (Zu statusL t0.data.toList↔inB 0 0 ck cm cl cn 0 0 0 ((0:Int) == 0 && ((0:Int) == 0 && ((0:Int) == 0 && ((0:Int) == 0 && (0:Int) == 0))))=true):=by
   show Zu statusL t0.data.toList↔inB 0 0 ck cm cl cn 0 0 0 ((0:Int) == 0 && ((0:Int) == 0 && ((0:Int) == 0 && ((0:Int) == 0 && (0:Int) == 0))))=true
   have hb:Zu statusL t0.data.toList↔((ck:Int)<=255/\(cm:Int)<=255/\(cl:Int)<=255/\(cn:Int)<=255):=by rw [<-f_ck,<-f_cm,<-f_cl,<-f_cn];simp [statusL,Zu,rX]
   rw [hb];simp [inB,Yr,Ym]
   try omega
  clear f_ck f_cm f_cl f_cn D0;cases hB:inB 0 0 ck cm cl cn 0 0 0 ((0:Int) == 0 && ((0:Int) == 0 && ((0:Int) == 0 && ((0:Int) == 0 && (0:Int) == 0))))
  ·have HBB:Hd _:=hB;clear hB;go_wp2_with (go_at_call 153;refine(Qv 0 0 ck cm cl cn 0 0 0 _).mono ?_;rw [HBB.o];rintro e w1 ⟨rfl,hx1⟩;obtain⟨la,ca0,ca1,ca2,ca3,ca4,ca5,ca6,ca7,ca8,ca9,fa0,fa1,fa2,fa3,fa4,fa5,fa6,fa7,fa8,fa9⟩:=QU (W:=w1) (g:=w.heap.size) (by repeat (first|(with_reducible refine zy ?_)|((with_reducible refine zm ?_);(simp;done))|(with_reducible refine zC ?_)|(with_reducible (apply rW;assumption))));obtain⟨lb,cb0,cb1,cb2,cb3,cb4,cb5,cb6,cb7,cb8,cb9,_⟩:=Z7 (W:=w1) (g:=w.heap.size+1) (t:=51) (v0:=.int .i64 4) (v1:=.int .i64 0) (v2:=.int .i64 0) (v3:=.int .i64 (ck:Int)) (v4:=.int .i64 (cm:Int)) (v5:=.int .i64 (cl:Int)) (v6:=.int .i64 (cn:Int)) (v7:=.int .i64 0) (v8:=.int .i64 0) (v9:=.int .i64 0) (by repeat (first|(with_reducible refine zy ?_)|((with_reducible refine zm ?_);(simp;done))|(with_reducible refine zC ?_)|(with_reducible (apply rW;assumption)))))
   refine bodyPost_ret (v:=.tuple #[.agg #[.int .i64 0,.int .i64 0,.int .i64 0,.int .i64 0,.int .i64 0,.int .i64 0,.int .i64 0,.int .i64 0,.int .i64 0,.int .i64 0],.int .i64 1]) (by simp [results,results107,go_sem, *]) rfl (.inr ⟨?_,rfl,?_⟩)
   ·intro vs h;rw [HT0.o] at h;have h3:=HBD.o.1 ((ZI _ _ _).1 h).2.2;rw [HBB.o] at h3;simp at h3
   ·repeat (first|(with_reducible exact lI _)|(with_reducible assumption)|(with_reducible refine lJ ?_)|(with_reducible refine lK ?_ _)|(with_reducible refine rF ?_ (by simp) _)|(with_reducible (apply lY;assumption)))
  ·have HBB:Hd _:=hB;clear hB;by_cases ce:t1.size=0
   ·have hem:t1.toList.isEmpty=true:=by
     rw [ByteArray.toList_eq,List.isEmpty_iff,<-sO];simpa using ce
    have CE:Hd _:=ce;clear ce;go_wp2_with (go_at_call 153;refine(Qv 0 0 ck cm cl cn 0 0 0 _).mono ?_;rw [HBB.o];rintro e w1 ⟨rfl,hx1⟩;obtain⟨la,ca0,ca1,ca2,ca3,ca4,ca5,ca6,ca7,ca8,ca9,fa0,fa1,fa2,fa3,fa4,fa5,fa6,fa7,fa8,fa9⟩:=QU (W:=w1) (g:=w.heap.size) (by repeat (first|(with_reducible refine zy ?_)|((with_reducible refine zm ?_);(simp;done))|(with_reducible refine zC ?_)|(with_reducible (apply rW;assumption))));obtain⟨lb,cb0,cb1,cb2,cb3,cb4,cb5,cb6,cb7,cb8,cb9,_⟩:=Z7 (W:=w1) (g:=w.heap.size+1) (t:=51) (v0:=.int .i64 4) (v1:=.int .i64 0) (v2:=.int .i64 0) (v3:=.int .i64 (ck:Int)) (v4:=.int .i64 (cm:Int)) (v5:=.int .i64 (cl:Int)) (v6:=.int .i64 (cn:Int)) (v7:=.int .i64 0) (v8:=.int .i64 0) (v9:=.int .i64 0) (by repeat (first|(with_reducible refine zy ?_)|((with_reducible refine zm ?_);(simp;done))|(with_reducible refine zC ?_)|(with_reducible (apply rW;assumption)))))
    refine bodyPost_ret (v:=.tuple #[.agg #[.int .i64 4,.int .i64 0,.int .i64 0,.int .i64 (ck:Int),.int .i64 (cm:Int),.int .i64 (cl:Int),.int .i64 (cn:Int),.int .i64 0,.int .i64 0,.int .i64 0],.int .i64 0]) (by simp [results,results107,go_sem, *]) rfl (.inl ⟨ck,cm,cl,cn,?_,rfl,?_⟩)
    ·rw [HT0.o];refine(ZI _ _ _).2 ⟨?_,HVAL.o.symm,HBD.o.2 HBB.o⟩;rw [L0.o];simp only [szs,statusL];simp;have:=CE.o;have:=S0.o;omega
    ·repeat (first|(with_reducible exact lI _)|(with_reducible assumption)|(with_reducible refine lJ ?_)|(with_reducible refine lK ?_ _)|(with_reducible refine rF ?_ (by simp) _)|(with_reducible (apply lY;assumption)))
   ·have hem:t1.toList.isEmpty=false:=by
     rw [ByteArray.toList_eq,List.isEmpty_eq_false_iff];intro h;apply ce;rw [<-ByteArray.size_data,<-Array.length_toList,h];rfl
    have CE:Hd (1<=t1.size):=by show 1<=t1.size;omega
    clear ce;go_wp2_with (go_at_call 153;refine(Qv 0 0 ck cm cl cn 0 0 0 _).mono ?_;rw [HBB.o];rintro e w1 ⟨rfl,hx1⟩;obtain⟨la,ca0,ca1,ca2,ca3,ca4,ca5,ca6,ca7,ca8,ca9,fa0,fa1,fa2,fa3,fa4,fa5,fa6,fa7,fa8,fa9⟩:=QU (W:=w1) (g:=w.heap.size) (by repeat (first|(with_reducible refine zy ?_)|((with_reducible refine zm ?_);(simp;done))|(with_reducible refine zC ?_)|(with_reducible (apply rW;assumption))));obtain⟨lb,cb0,cb1,cb2,cb3,cb4,cb5,cb6,cb7,cb8,cb9,_⟩:=Z7 (W:=w1) (g:=w.heap.size+1) (t:=51) (v0:=.int .i64 4) (v1:=.int .i64 0) (v2:=.int .i64 0) (v3:=.int .i64 (ck:Int)) (v4:=.int .i64 (cm:Int)) (v5:=.int .i64 (cl:Int)) (v6:=.int .i64 (cn:Int)) (v7:=.int .i64 0) (v8:=.int .i64 0) (v9:=.int .i64 0) (by repeat (first|(with_reducible refine zy ?_)|((with_reducible refine zm ?_);(simp;done))|(with_reducible refine zC ?_)|(with_reducible (apply rW;assumption)))))
    refine bodyPost_ret (v:=.tuple #[.agg #[.int .i64 0,.int .i64 0,.int .i64 0,.int .i64 0,.int .i64 0,.int .i64 0,.int .i64 0,.int .i64 0,.int .i64 0,.int .i64 0],.int .i64 1]) (by simp [results,results107,go_sem, *]) rfl (.inr ⟨HBAD.o _ ?_,rfl,?_⟩)
    ·rw [HT0.o,L0.o];simp only [szs,statusL];simp;have:=CE.o;have:=S0.o;omega
    ·repeat (first|(with_reducible exact lI _)|(with_reducible assumption)|(with_reducible refine lJ ?_)|(with_reducible refine lK ?_ _)|(with_reducible refine rF ?_ (by simp) _)|(with_reducible (apply lY;assumption)))
end
section
open Go.RowKit Go.Maps
theorem xn:∀(l:List (Nat×Int×Int))(r:List UInt8),Zu l r->∀(k:Nat)(h:k<(ZT l r).length)(h':k<l.length),((ZT l r)[k]:Int)<=l[k].2.2
 | [],_,_,k,h,_=>absurd h (by simp [ZT])
 | _::_,_,hb,0,_,_=>hb.1
 | _::t,_,hb,k+1,h,h'=>xn t _ hb.2 k (by simpa [ZT] using h) (by simpa using h')
theorem Zi {l:List (Nat×Int×Int)}{r:List UInt8}{vs:List Nat}(hd:zK l r=some (vs,[]))(k:Nat)(h:k<vs.length)(h':k<l.length):(vs[k]:Int)<=l[k].2.2:=by obtain⟨_,h2,h3⟩:=(ZI l r vs).1 hd;subst h2;exact xn l r h3 k h h'
structure BadRead (str:ByteArray):Prop where
 own:∀w,Calls Tryz.prog 58 #[.string str] w fun e w'=>e=.returned (.tuple #[.nilIface,.int .i64 1])/\Ext w w'
 ref:∀w,Calls Tryz.prog 107 #[.string str] w fun e w'=>e=.returned (.tuple #[zN 0 0 0 0 0 0 0 0 0 0,.int .i64 1])/\Ext w w'
structure OwnRead (str:ByteArray)(kk s i kd m k n f c p:Int):Prop where
 own:∀w,Calls Tryz.prog 58 #[.string str] w fun e w'=>∃b,e=.returned (.tuple #[.iface (X1 kk) (.pointer (some ⟨b,0,none⟩)),.int .i64 0])/\qW kk s i kd m k n f c p w' b/\Ext w w'/\w.heap.size<=b
 ref:∀w,Calls Tryz.prog 107 #[.string str] w fun e w'=>e=.returned (.tuple #[zN kk s i kd m k n f c p,.int .i64 0])/\Ext w w'
abbrev Xu (str:ByteArray):Prop:=BadRead str\/∃kk s i kd m k n f c p,OwnRead str kk s i kd m k n f c p
theorem Jh (str:ByteArray)(hs:str.size<=maxLen)(h1:0<str.size)(hk:(str[0]).toNat=1):Xu str:=by
 by_cases H:∃vs,zK leaseL (str.extract 1 str.size).data.toList=some (vs,[])
 ·obtain⟨vs,hd⟩:=H;have hl:=YY _ _ _ _ hd
  match vs,hl,hd with
  | [s,i,ck,cm,cl,cn,c],_,hd=>
   have b0:(s:Int)<=2147483647:=Zi hd 0 (by simp) (by decide);have b1:(i:Int)<=2147483647:=Zi hd 1 (by simp) (by decide);have b2:(ck:Int)<=255:=Zi hd 2 (by simp) (by decide);have b3:(cm:Int)<=255:=Zi hd 3 (by simp) (by decide);have b4:(cl:Int)<=255:=Zi hd 4 (by simp) (by decide);have b5:(cn:Int)<=255:=Zi hd 5 (by simp) (by decide);have b6:(c:Int)<=2147483647:=Zi hd 6 (by simp) (by decide);refine .inr ⟨1,(s:Int),(i:Int),(ck:Int),(cm:Int),(cl:Int),(cn:Int),0,(c:Int),0,fun w=>(XE str hs h1 hk w).mono fun e w' h=>?_,fun w=>(vO str hs h1 hk w).mono fun e w' h=>?_⟩
   ·rcases h with⟨vs',b,h1,h2,h3,h4,h5⟩|⟨h,_⟩
    ·rw [hd] at h1;simp at h1;subst h1;refine⟨b,h2,.inl ⟨rfl,?_,h3⟩,h4,h5⟩;simp [inB,yU,yV];omega
    ·exact absurd hd (h _)
   ·rcases h with⟨s',i',ck',cm',cl',cn',c',h1,h2,h3⟩|⟨h,_⟩
    ·rw [hd] at h1;simp at h1;obtain⟨rfl,rfl,rfl,rfl,rfl,rfl,rfl⟩:=h1;exact⟨h2,h3⟩
    ·exact absurd hd (h _)
 ·refine .inl ⟨fun w=>(XE str hs h1 hk w).mono fun e w' h=>?_,fun w=>(vO str hs h1 hk w).mono fun e w' h=>?_⟩
  ·rcases h with⟨vs',b,h1,_⟩|⟨_,h⟩
   ·exact absurd ⟨vs',h1⟩ H
   ·exact h
  ·rcases h with⟨s',i',ck',cm',cl',cn',c',h1,_⟩|⟨_,h⟩
   ·exact absurd ⟨_,h1⟩ H
   ·exact h
theorem JC (str:ByteArray)(hs:str.size<=maxLen)(h1:0<str.size)(hk:(str[0]).toNat=2):Xu str:=by
 by_cases H:∃vs,zK fetchL (str.extract 1 str.size).data.toList=some (vs,[])
 ·obtain⟨vs,hd⟩:=H;have hl:=YY _ _ _ _ hd
  match vs,hl,hd with
  | [s,ck,cm,cl,cn,f,c,p],_,hd=>
   have b0:(s:Int)<=2147483647:=Zi hd 0 (by simp) (by decide);have b1:(ck:Int)<=255:=Zi hd 1 (by simp) (by decide);have b2:(cm:Int)<=255:=Zi hd 2 (by simp) (by decide);have b3:(cl:Int)<=255:=Zi hd 3 (by simp) (by decide);have b4:(cn:Int)<=255:=Zi hd 4 (by simp) (by decide);have b5:(f:Int)<=2147483647:=Zi hd 5 (by simp) (by decide);have b6:(c:Int)<=2147483647:=Zi hd 6 (by simp) (by decide);have b7:(p:Int)<=255:=Zi hd 7 (by simp) (by decide);refine .inr ⟨2,(s:Int),0,(ck:Int),(cm:Int),(cl:Int),(cn:Int),(f:Int),(c:Int),(p:Int),fun w=>(xZ str hs h1 hk w).mono fun e w' h=>?_,fun w=>(Vq str hs h1 hk w).mono fun e w' h=>?_⟩
   ·rcases h with⟨vs',b,h1,h2,h3,h4,h5⟩|⟨h,_⟩
    ·rw [hd] at h1;simp at h1;subst h1;refine⟨b,h2,.inr<|.inl ⟨rfl,?_,h3⟩,h4,h5⟩;simp [inB,yU,yV];omega
    ·exact absurd hd (h _)
   ·rcases h with⟨s',ck',cm',cl',cn',f',c',p',h1,h2,h3⟩|⟨h,_⟩
    ·rw [hd] at h1;simp at h1;obtain⟨rfl,rfl,rfl,rfl,rfl,rfl,rfl,rfl⟩:=h1;exact⟨h2,h3⟩
    ·exact absurd hd (h _)
 ·refine .inl ⟨fun w=>(xZ str hs h1 hk w).mono fun e w' h=>?_,fun w=>(Vq str hs h1 hk w).mono fun e w' h=>?_⟩
  ·rcases h with⟨vs',b,h1,_⟩|⟨_,h⟩
   ·exact absurd ⟨vs',h1⟩ H
   ·exact h
  ·rcases h with⟨s',ck',cm',cl',cn',f',c',p',h1,_⟩|⟨_,h⟩
   ·exact absurd ⟨_,h1⟩ H
   ·exact h
theorem JG (str:ByteArray)(hs:str.size<=maxLen)(h1:0<str.size)(hk:(str[0]).toNat=3):Xu str:=by
 by_cases H:∃vs,zK releaseL (str.extract 1 str.size).data.toList=some (vs,[])
 ·obtain⟨vs,hd⟩:=H;have hl:=YY _ _ _ _ hd
  match vs,hl,hd with
  | [s,i],_,hd=>
   have b0:(s:Int)<=2147483647:=Zi hd 0 (by simp) (by decide);have b1:(i:Int)<=2147483647:=Zi hd 1 (by simp) (by decide);refine .inr ⟨3,(s:Int),(i:Int),0,0,0,0,0,0,0,fun w=>(vb str hs h1 hk w).mono fun e w' h=>?_,fun w=>(vU str hs h1 hk w).mono fun e w' h=>?_⟩
   ·rcases h with⟨vs',b,h1,h2,h3,h4,h5⟩|⟨h,_⟩
    ·rw [hd] at h1;simp at h1;subst h1;refine⟨b,h2,.inr<|.inr<|.inl ⟨rfl,?_,h3⟩,h4,h5⟩;simp [inB,yU,yV];omega
    ·exact absurd hd (h _)
   ·rcases h with⟨s',i',h1,h2,h3⟩|⟨h,_⟩
    ·rw [hd] at h1;simp at h1;obtain⟨rfl,rfl⟩:=h1;exact⟨h2,h3⟩
    ·exact absurd hd (h _)
 ·refine .inl ⟨fun w=>(vb str hs h1 hk w).mono fun e w' h=>?_,fun w=>(vU str hs h1 hk w).mono fun e w' h=>?_⟩
  ·rcases h with⟨vs',b,h1,_⟩|⟨_,h⟩
   ·exact absurd ⟨vs',h1⟩ H
   ·exact h
  ·rcases h with⟨s',i',h1,_⟩|⟨_,h⟩
   ·exact absurd ⟨_,h1⟩ H
   ·exact h
theorem j7 (str:ByteArray)(hs:str.size<=maxLen)(h1:0<str.size)(hk:(str[0]).toNat=4):Xu str:=by
 by_cases H:∃vs,zK statusL (str.extract 1 str.size).data.toList=some (vs,[])
 ·obtain⟨vs,hd⟩:=H;have hl:=YY _ _ _ _ hd
  match vs,hl,hd with
  | [ck,cm,cl,cn],_,hd=>
   have b0:(ck:Int)<=255:=Zi hd 0 (by simp) (by decide);have b1:(cm:Int)<=255:=Zi hd 1 (by simp) (by decide);have b2:(cl:Int)<=255:=Zi hd 2 (by simp) (by decide);have b3:(cn:Int)<=255:=Zi hd 3 (by simp) (by decide);refine .inr ⟨4,0,0,(ck:Int),(cm:Int),(cl:Int),(cn:Int),0,0,0,fun w=>(Xn str hs h1 hk w).mono fun e w' h=>?_,fun w=>(vN str hs h1 hk w).mono fun e w' h=>?_⟩
   ·rcases h with⟨vs',b,h1,h2,h3,h4,h5⟩|⟨h,_⟩
    ·rw [hd] at h1;simp at h1;subst h1;refine⟨b,h2,.inr<|.inr<|.inr ⟨rfl,?_,h3⟩,h4,h5⟩;simp [inB,yU,yV];omega
    ·exact absurd hd (h _)
   ·rcases h with⟨ck',cm',cl',cn',h1,h2,h3⟩|⟨h,_⟩
    ·rw [hd] at h1;simp at h1;obtain⟨rfl,rfl,rfl,rfl⟩:=h1;exact⟨h2,h3⟩
    ·exact absurd hd (h _)
 ·refine .inl ⟨fun w=>(Xn str hs h1 hk w).mono fun e w' h=>?_,fun w=>(vN str hs h1 hk w).mono fun e w' h=>?_⟩
  ·rcases h with⟨vs',b,h1,_⟩|⟨_,h⟩
   ·exact absurd ⟨vs',h1⟩ H
   ·exact h
  ·rcases h with⟨ck',cm',cl',cn',h1,_⟩|⟨_,h⟩
   ·exact absurd ⟨_,h1⟩ H
   ·exact h
theorem JE (str:ByteArray)(hs:str.size<=maxLen):Xu str:=by
 by_cases h0:str.size=0
 ·have he:str.toList.isEmpty=true:=by
   rw [ByteArray.toList_eq,List.isEmpty_iff,<-sO];simpa using h0
  exact .inl ⟨fun w=>Xr str he w,fun w=>vp str he w⟩
 have hp:0<str.size:=by omega
 have hne:str.toList.isEmpty=false:=by rw [ByteArray.toList_eq,List.isEmpty_eq_false_iff];intro h;apply h0;rw [<-ByteArray.size_data,<-Array.length_toList,h];rfl
 by_cases h1:(str[0]).toNat=1
 ·exact Jh str hs hp h1
 by_cases h2:(str[0]).toNat=2
 ·exact JC str hs hp h2
 by_cases h3:(str[0]).toNat=3
 ·exact JG str hs hp h3
 by_cases h4:(str[0]).toNat=4
 ·exact j7 str hs hp h4
 have hu:Qm (((str[0]).toNat:Nat):Int)=⟨#[]⟩:=by unfold Qm;rw [if_neg (by omega),if_neg (by omega),if_neg (by omega),if_neg (by omega)]
 exact .inl ⟨fun w=>Uw str hs hp hne _ rfl (sB _) (by simp;omega) (by simp;omega) (by simp;omega) (by simp;omega) w,fun w=>U3 str hs hp hne _ rfl (sB _) hu w⟩
end
end Go.Proofs.YtmnjhhachdlmkaaGreat
