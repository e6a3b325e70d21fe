import Derived.Lib.AppendStr
import Derived.Deep.AppendLies
import Derived.Laws.StructEq
import Derived.Deep.RegionHeld
import Derived.Deep.RegionHeld3
import Derived.Lib.AppendZerosOnto
import Derived.Maps.OwnSet
import Derived.Test.YtmnjhhachdlmkaaGreatK01
namespace Go.Proofs.YtmnjhhachdlmkaaGreat
set_option linter.all false
set_option maxRecDepth 100000
set_option maxHeartbeats 3200000
open Tryz
open Nat renaming zero_le -> lT, le_refl -> lO, le_trans -> rH, mul_le_mul -> rN, add_mul -> rO, lt_of_lt_of_le -> rA
open List renaming take_succ_eq_append_getElem -> rV, take_of_length_le -> rM, getD_eq_getElem?_getD -> rT, getElem?_eq_getElem -> lZ, append_nil -> rL, map_append -> rY, getElem_mem -> lV, length_append -> lW
open World renaming ownsRow_nil -> rB, ownsRow -> lR, news_of_block -> rI, alloc -> lP
open Ext renaming grown -> rG, refl -> lI, drew -> lJ, alloc -> lK, chain -> lY, owns -> rE, setCell -> rF
open Int renaming natCast_mul -> rQ
open Value renaming ownBlock -> lH
section
open Go.RowKit
def QA (l:List UInt8):Int:=l.foldl (fun h b=>IntKind.u64.wrap (bits .xor .u64 h (b.toNat:Int)*1099511628211)) 14695981039346656037
theorem Vm (l:List UInt8)(b:UInt8):QA (l++[b])=IntKind.u64.wrap (bits .xor .u64 (QA l) (b.toNat:Int)*1099511628211):=by simp [QA]
theorem ju (l:List UInt8):0<=QA l/\QA l<=18446744073709551615:=by
 rcases List.eq_nil_or_concat l with rfl|⟨t,b,rfl⟩
 ·decide
 ·rw [List.concat_eq_append,Vm,IntKind.wrap_u64];omega
theorem gS (s:ByteArray)(hs:s.size<=1000000000)(w:World):Calls Tryz.prog 171 #[.string s] w fun e w'=>e=.returned (.int .u64 (QA s.data.toList))/\w=w':=by
 go_enter func171,ntmps171;go_wp2
 go_loop [3,4,7] (fun h _ i=>∃k:Nat,k<=s.size/\i=.int .i64 k/\h=.int .u64 (QA (s.data.toList.take k))) (fun _ _ i=>s.size - (intOf i).toNat)
 case atStart=>exact⟨0,lT _,rfl,rfl⟩
 case round=>
  obtain⟨k,hk,rfl,rfl⟩:=hrel;by_cases hlt:k<s.size
  ·have HS:Hd (QA (s.data.toList.take (k+1))=IntKind.u64.wrap (bits .xor .u64 (QA (s.data.toList.take k)) ((s[k]).toNat:Int)*1099511628211)):=by
    have hl:k<s.data.toList.length:=by simpa using hlt
    show QA (s.data.toList.take (k+1))=_
    rw [rV hl,Vm]
    rfl
   have hbw:IntKind.u64.wrap ((s[k]).toNat:Int)=((s[k]).toNat:Int):=by rw [IntKind.wrap_u64];have:=(s[k]).toNat_lt;omega
   generalize QA (s.data.toList.take k)=h at *;go_wp2
   go_round
   case rel=>exact⟨k+1,by omega,by go_num,by rw [HS.o]⟩
   case measure=>simp [intOf];omega
  ·go_wp2;go_ret;exact⟨qU (by rw [rM (by simp;omega)]),rfl⟩
def ZV (l:List UInt8):List UInt8:=(zG l.length 4++zG (QA l).toNat 8)++l
theorem Qk (l:List UInt8):(ZV l).length=12+l.length:=by simp [ZV,ZG];omega
theorem xi (s:ByteArray):Lib.strCells s=Ze s.data.toList:=by
 unfold Lib.strCells Ze
 rfl
theorem jE (s:ByteArray)(hs:s.size<=1000000000)(w:World):Calls Tryz.prog 128 #[.string s] w fun e w'=>e=.returned (.string ⟨(ZV s.data.toList).toArray⟩)/\Ext w w':=by
 obtain⟨i0,hi,hz0,hz1,hz2⟩:=info_parts Q6;have hr:=ju s.data.toList;obtain⟨h,hh⟩:∃h:Nat,QA s.data.toList=(h:Int):=⟨(QA s.data.toList).toNat,by omega⟩
 have HS:Hd _:=gS s hs;rw [hh] at HS hr;have HF:Hd (ZV s.data.toList=(zG s.size 4++zG h 8)++s.data.toList):=by
  show ZV s.data.toList=_
  simp [ZV,hh]
 clear hh;have hwr:IntKind.u64.wrap (s.size:Int)=(s.size:Int):=by rw [IntKind.wrap_u64];omega
 go_enter func128,ntmps128;go_wp2_with fail
 refine(J2 w.heap.size 0 (.slice none 0 0) [] s.size 4 (by omega) (by omega) w (rB _ _ _ _) (lO _) (by omega)).mono ?_;rintro e w1 ⟨v1,rfl,ho1,hb1,_⟩;have hl1:=hb1.size;have hx1:Ext w w1:=hb1;clear hb1;go_wp2_with fail
 refine(HS.o _).mono ?_;rintro e w1' ⟨rfl,rfl⟩;go_wp2_with fail
 refine(J2 w.heap.size _ v1 ([]++zG s.size 4) h 8 (by omega) (by omega) w1 ho1 hl1 (by omega)).mono ?_;rintro e w2 ⟨v2,rfl,ho2,hb2,_⟩;have hl2:=hb2.size;have hx2:Ext w w2:=Below.trans hx1 hb2;obtain⟨g2,cp2,rfl,hg2,hg2'⟩:=ho2.form (by omega);clear ho1 hb2 hx1;go_wp2_with (at_builtin;refine Lib.wpList_append_own_string _ rfl _ _ 136 9 rfl w.heap.size 5 i0 underlying136 underlying9 hi hz0 hz1 hz2 _ _ _ rfl ho2 s rfl ?c1 ?c2 ?c3 ?_)
 case c1=>unfold maxLen;omega
 case c2=>omega
 case c3=>omega
 intro v3 w3 ho3 hg3 _;have hx3:Ext w w3:=rG hx2 hg3 (fun k hk=>by simp [lH] at hk;omega);obtain⟨g3,cp3,rfl,_,_⟩:=ho3.form (by omega);have hcv:(convert 136 9 (.slice (some ⟨g3,0,none⟩) (12+s.size) cp3)).run Tryz.prog w3=.ok (.string ⟨(ZV s.data.toList).toArray⟩) w3:=by refine YG (base:=w.heap.size) (by rw [Qk];simp) ?_;rw [HF.o];have h3:=ho3;rw [xi] at h3;simpa [yk] using h3
 clear ho3 hg3 ho2;go_wp2;go_ret;exact⟨rfl,hx3⟩
end
section
theorem Ya (d:Nat)(a b c e a' b' c' e':Int)(w:World):(Op.equalIn (d+2) 49 (.agg #[.int .i64 a,.int .i64 b,.int .i64 c,.int .i64 e]) (.agg #[.int .i64 a',.int .i64 b',.int .i64 c',.int .i64 e'])).run Tryz.prog w =
  .ok (a == a' && (b == b' && (c == c' && e == e'))) w:=by
 have u3:=underlying3;have a3:=Tryz.isAgg3;have z3:=Tryz.sizeOf3;have hS:Tryz.prog.underlying 49=some (.struct (Tryz.prog.fieldsOf 49)):=by kernel_rfl
 have hp:Tryz.prog.stoodInHeld 49=false:=by kernel_rfl
 rw [show d+2=(d+1)+1 from rfl,run_equalIn_agg w (d+1) 49 _ _ hS hp];simp only [Program.fieldsOf,underlying49];go_simp;by_cases h1:a=a'<;>by_cases h2:b=b'<;>by_cases h3:c=c'<;>by_cases h4:e=e'<;>simp [h1,h2,h3,h4]
theorem Xm {a b:Int}{B:Bool}{r:Result Bool}{w:World}(h:r=.ok B w):(if a=b then r else .ok false w)=.ok (a == b && B) w:=by by_cases e:a=b<;>simp [e,h]
theorem JU {a b:Int}{w:World}:(if a=b then Result.ok true w else .ok false w)=.ok (a == b) w:=by by_cases e:a=b<;>simp [e]
theorem Kt {a b c e a' b' c' e':Int}{B:Bool}{r:Result Bool}{w:World}(h:r=.ok B w):(if a=a'->b=b'->c=c'->¬e=e' then .ok false w else r)=.ok ((a == a' && (b == b' && (c == c' && e == e'))) && B) w:=by by_cases h1:a=a'<;>by_cases h2:b=b'<;>by_cases h3:c=c'<;>by_cases h4:e=e'<;>simp [h1,h2,h3,h4,h]
theorem qv (a b c x1 x2 x3 x4 f g h a' b' c' x1' x2' x3' x4' f' g' h':Int)(w:World) :
  (Op.equalIn 10000 51 (.agg #[.int .i64 a,.int .i64 b,.int .i64 c,.int .i64 x1,.int .i64 x2,.int .i64 x3,.int .i64 x4,.int .i64 f,.int .i64 g,.int .i64 h]) (.agg #[.int .i64 a',.int .i64 b',.int .i64 c',.int .i64 x1',.int .i64 x2',.int .i64 x3',.int .i64 x4',.int .i64 f',.int .i64 g',.int .i64 h'])).run Tryz.prog w =
  .ok (a == a' && (b == b' && (c == c' && ((x1 == x1' && (x2 == x2' && (x3 == x3' && x4 == x4'))) && (f == f' && (g == g' && h == h')))))) w:=by
 have u3:=underlying3;have a3:=Tryz.isAgg3;have z3:=Tryz.sizeOf3;have a23:=Tryz.isAgg49;have z23:=Tryz.sizeOf49;have hS:Tryz.prog.underlying 51=some (.struct (Tryz.prog.fieldsOf 51)):=by kernel_rfl
 have hp:Tryz.prog.stoodInHeld 51=false:=by kernel_rfl
 have hc:=fun (a b c e a' b' c' e':Int) (w:World)=>Ya 9997 a b c e a' b' c' e' w
 rw [show (10000:Nat)=9999+1 from rfl,run_equalIn_agg w 9999 51 _ _ hS hp];simp only [Program.fieldsOf,underlying51];go_simp;exact Xm (Xm (Xm (Kt (Xm (Xm JU)))))
end
section
section
open Go.RowKit
def xA (bt:Bool)(x y:Int):Int:=if bt then bits .xor .u64 x y else IntKind.u64.wrap (x+y)
def ZE (bt:Bool)(x y:Int):Int:=if bt then bits .xor .u64 x y else IntKind.u64.wrap (x - y)
def qG (bt:Bool)(x y:Int):Int:=if bt then bits .and .u64 x y else IntKind.u64.wrap (x*y)
theorem uE (x y:Int)(w:World):Calls Tryz.prog 231 #[.agg #[],.int .u64 x,.int .u64 y] w fun e w'=>e=.returned (.int .u64 (xA false x y))/\Ext w w':=by go_enter func231,ntmps231;go_wp2;go_ret;exact⟨rfl,(lI w).alloc _⟩
theorem V7 (x y:Int)(w:World):Calls Tryz.prog 230 #[.agg #[],.int .u64 x,.int .u64 y] w fun e w'=>e=.returned (.int .u64 (ZE false x y))/\Ext w w':=by go_enter func230,ntmps230;go_wp2;go_ret;exact⟨rfl,(lI w).alloc _⟩
theorem Vv (x y:Int)(w:World):Calls Tryz.prog 232 #[.agg #[],.int .u64 x,.int .u64 y] w fun e w'=>e=.returned (.int .u64 (qG false x y))/\Ext w w':=by go_enter func232,ntmps232;go_wp2;go_ret;exact⟨rfl,(lI w).alloc _⟩
theorem UQ (x y:Int)(w:World):Calls Tryz.prog 228 #[.agg #[],.int .u64 x,.int .u64 y] w fun e w'=>e=.returned (.int .u64 (xA true x y))/\Ext w w':=by go_enter func228,ntmps228;go_wp2;go_ret;exact⟨rfl,(lI w).alloc _⟩
theorem ur (x y:Int)(w:World):Calls Tryz.prog 227 #[.agg #[],.int .u64 x,.int .u64 y] w fun e w'=>e=.returned (.int .u64 (ZE true x y))/\Ext w w':=by go_enter func227,ntmps227;go_wp2;go_ret;exact⟨rfl,(lI w).alloc _⟩
theorem ux (x y:Int)(w:World):Calls Tryz.prog 229 #[.agg #[],.int .u64 x,.int .u64 y] w fun e w'=>e=.returned (.int .u64 (qG true x y))/\Ext w w':=by go_enter func229,ntmps229;go_wp2;go_ret;exact⟨rfl,(lI w).alloc _⟩
theorem JX (n:Int)(w:World):Calls Tryz.prog 135 #[.int .i64 n] w fun e w'=>e=.returned (.bool (decide (1<=n) && decide (n<=3)))/\w=w':=by
 go_enter func135,ntmps135;go_wp2
 all_goals go_ret
 all_goals (refine⟨zH ?_,rfl⟩;simp [*];try omega)
theorem KO (w : World) : (method 417 284 (.agg #[]) "dealer/triple.plus").run Tryz.prog w = .ok (231, .agg #[]) w := by kernel_rfl
theorem kS (w : World) : (method 417 284 (.agg #[]) "dealer/triple.minus").run Tryz.prog w = .ok (230, .agg #[]) w := by kernel_rfl
theorem ks (w : World) : (method 417 284 (.agg #[]) "dealer/triple.times").run Tryz.prog w = .ok (232, .agg #[]) w := by kernel_rfl
theorem Ku (w : World) : (method 417 283 (.agg #[]) "dealer/triple.plus").run Tryz.prog w = .ok (228, .agg #[]) w := by kernel_rfl
theorem ku (w : World) : (method 417 283 (.agg #[]) "dealer/triple.minus").run Tryz.prog w = .ok (227, .agg #[]) w := by kernel_rfl
theorem kI (w : World) : (method 417 283 (.agg #[]) "dealer/triple.times").run Tryz.prog w = .ok (229, .agg #[]) w := by kernel_rfl
theorem ZS:(Tryz.prog.info? 146).map (fun i=>(i.zero,i.size,i.bytes))=some (some (.int .u64 0),1,8):=by kernel_rfl
def WordsAt (w:World)(b off:Nat)(zs:List Int):Prop:=∀i,i<zs.length->w.cell? ⟨b,off+i,none⟩=some (.int .u64 (zs.getD i 0))
theorem WordsAt.ext {w w':World}{b off:Nat}{zs:List Int}(h:WordsAt w b off zs)(hx:Ext w w'):WordsAt w' b off zs:=fun i hi=>hx.cell (h i hi)
end
section
open Go.RowKit
theorem kl (w : World) : (nilAhead 417 284 (.agg #[]) "dealer/triple.minus").run Tryz.prog w = .ok (some false) w := by kernel_rfl
theorem Ua (f:Int->Int->Int)(zs ys:List Int)(k:Nat)(h:k<zs.length)(h2:k<ys.length) :
  List.zipWith f (zs.take (k+1)) (ys.take (k+1))=List.zipWith f (zs.take k) (ys.take k)++[f (zs.getD k 0) (ys.getD k 0)]:=by
 rw [rV h,rV h2,List.zipWith_append (by simp;omega)];simp [rT,lZ h,lZ h2]
theorem QR {a b:World}{p:Addr}{v:Value}(hc:a.cell? p=some v)(h:Ext a b):b.cell? p=some v/\Ext a b:=⟨h.cell hc,h⟩
theorem KN (b off cap b2 off2 cap2 n:Nat)(zs ys:List Int)(hn:zs.length=n)(hn2:ys.length=n)(hsm:n<=1000)(w:World)(hz:WordsAt w b off zs)(hy:WordsAt w b2 off2 ys) :
  Calls Tryz.prog 143 #[.iface 284 (.agg #[]),.slice (some ⟨b,off,none⟩) n cap,.slice (some ⟨b2,off2,none⟩) n cap2] w fun e w'=>
   ∃v,e=.returned v/\w'.ownsRow w.heap.size 146 1 v n ((List.zipWith (ZE false) zs ys).map (Value.int .u64))/\Ext w w':=by
 obtain⟨i0,hi,hz0,hz1,hz2⟩:=info_parts ZS;have HZ:=hid hz;have HY:=hid hy;have HN:=hid hn;have HN2:=hid hn2;have hm:=kS;have hnw:=kl;clear hz hy hn hn2;go_enter func143,ntmps143;go_wp2
 go_loopw [7,8,9,12] (fun u _ _ i wr=>∃k:Nat,k<=n/\i=.int .i64 k/\wr.ownsRow w.heap.size 146 1 u k ((List.zipWith (ZE false) (zs.take k) (ys.take k)).map (Value.int .u64))/\Ext w wr) (fun _ _ _ i _=>n - (intOf i).toNat)
 case atStart=>exact⟨0,lT _,rfl,rB _ _ _ _,lI _⟩
 case round=>
  obtain⟨k,hk,rfl,ho,hx⟩:=hrel;have hlow:=fun q hq=>(lR.lt ho q hq).1
  have HO:Hd _:=ho;clear ho;by_cases hlt:k<n
  ·have e0:wr.cell? ⟨b,off+k,none⟩=some (.int .u64 (zs.getD k 0)):=hx.cell (HZ.o k (by have:=HN.o;omega));have e1w:w.cell? ⟨b2,off2+k,none⟩=some (.int .u64 (ys.getD k 0)):=HY.o k (by have:=HN2.o;omega);have e1:wr.cell? ⟨b2,off2+k,none⟩=some (.int .u64 (ys.getD k 0)):=hx.cell (HY.o k (by have:=HN2.o;omega));generalize hzk:zs.getD k 0=z at *;generalize hyk:ys.getD k 0=y at *;have hk0:(0:Int)<=(k:Int):=by omega
   have hk1:(k:Int)<n:=by omega
   go_wp2
   go_region_held3 (fun w'=>w'.cell? ⟨b2,off2+k,none⟩=some (.int .u64 y)/\Ext w w') (first
     | (refine QR e1w ?_;(repeat (first|with_reducible exact lI _|with_reducible assumption|with_reducible refine lJ ?_|with_reducible refine lK ?_ _|with_reducible (apply lY;assumption)));done)
     | exact QR e1w (rG (lK (lY hx2 (lJ hx)) _) hgrow hlow))
    (first
      | (go_at_call 230;refine(V7 _ _ _).mono ?_;rintro e w' ⟨rfl,hx2⟩)
      | (refine step_append_lies _ (by rfl) _ _ 31 (by rfl) w.heap.size 146 i0 (.int .u64 0) 1 8 underlying31 hi hz0 hz1 hz2 (by rfl) (by decide) u7 k _ (by rfl) (rE (lK (lY hx2 (lJ (lI _))) _) HO.o) ⟨_,0,none⟩ 1 1 [.int .u64 (ZE false z y)] (by rfl) (by rfl) (rI (heap_alloc_new _ _)) (by simp [Value.oneCell']) (by decide) (by simp [maxLen];omega) (by omega) (rH hx.le (Ext.le (lK (lY hx2 (lJ (lI _))) _))) _ rfl ?_;intro g cap3 w1 hown1 hgrow hat hlt1))
   have R:w1.ownsRow w.heap.size 146 1 (.slice (some ⟨g,0,none⟩) (k+1) cap3) (k+1) ((List.zipWith (ZE false) (zs.take (k+1)) (ys.take (k+1))).map (Value.int .u64)):=by have h:=hown1;rw [Ua (ZE false) zs ys k (by have:=HN.o;omega) (by have:=HN2.o;omega),hzk,hyk];simpa using h
   have R2:Ext w w1:=rG (lK (lY hx2 (lJ hx)) _) hgrow hlow;clear hown1 hgrow;go_wp2
   go_roundw
   case rel=>exact⟨k+1,by omega,by go_num,R,R2⟩
   case measure=>simp [intOf];omega
  ·obtain rfl:k=n:=by omega
   go_wp2;go_ret;refine⟨_,rfl,?_,hx⟩;have h:=HO.o;rw [rM (by have:=HN.o;omega),rM (by have:=HN2.o;omega)] at h;exact h
end
section
open Go.RowKit
theorem Kg (w : World) : (nilAhead 417 283 (.agg #[]) "dealer/triple.minus").run Tryz.prog w = .ok (some false) w := by kernel_rfl
theorem Kj (b off cap b2 off2 cap2 n:Nat)(zs ys:List Int)(hn:zs.length=n)(hn2:ys.length=n)(hsm:n<=1000)(w:World)(hz:WordsAt w b off zs)(hy:WordsAt w b2 off2 ys) :
  Calls Tryz.prog 143 #[.iface 283 (.agg #[]),.slice (some ⟨b,off,none⟩) n cap,.slice (some ⟨b2,off2,none⟩) n cap2] w fun e w'=>
   ∃v,e=.returned v/\w'.ownsRow w.heap.size 146 1 v n ((List.zipWith (ZE true) zs ys).map (Value.int .u64))/\Ext w w':=by
 obtain⟨i0,hi,hz0,hz1,hz2⟩:=info_parts ZS;have HZ:=hid hz;have HY:=hid hy;have HN:=hid hn;have HN2:=hid hn2;have hm:=ku;have hnw:=Kg;clear hz hy hn hn2;go_enter func143,ntmps143;go_wp2
 go_loopw [7,8,9,12] (fun u _ _ i wr=>∃k:Nat,k<=n/\i=.int .i64 k/\wr.ownsRow w.heap.size 146 1 u k ((List.zipWith (ZE true) (zs.take k) (ys.take k)).map (Value.int .u64))/\Ext w wr) (fun _ _ _ i _=>n - (intOf i).toNat)
 case atStart=>exact⟨0,lT _,rfl,rB _ _ _ _,lI _⟩
 case round=>
  obtain⟨k,hk,rfl,ho,hx⟩:=hrel;have hlow:=fun q hq=>(lR.lt ho q hq).1
  have HO:Hd _:=ho;clear ho;by_cases hlt:k<n
  ·have e0:wr.cell? ⟨b,off+k,none⟩=some (.int .u64 (zs.getD k 0)):=hx.cell (HZ.o k (by have:=HN.o;omega));have e1w:w.cell? ⟨b2,off2+k,none⟩=some (.int .u64 (ys.getD k 0)):=HY.o k (by have:=HN2.o;omega);have e1:wr.cell? ⟨b2,off2+k,none⟩=some (.int .u64 (ys.getD k 0)):=hx.cell (HY.o k (by have:=HN2.o;omega));generalize hzk:zs.getD k 0=z at *;generalize hyk:ys.getD k 0=y at *;have hk0:(0:Int)<=(k:Int):=by omega
   have hk1:(k:Int)<n:=by omega
   go_wp2
   go_region_held3 (fun w'=>w'.cell? ⟨b2,off2+k,none⟩=some (.int .u64 y)/\Ext w w') (first
     | (refine QR e1w ?_;(repeat (first|with_reducible exact lI _|with_reducible assumption|with_reducible refine lJ ?_|with_reducible refine lK ?_ _|with_reducible (apply lY;assumption)));done)
     | exact QR e1w (rG (lK (lY hx2 (lJ hx)) _) hgrow hlow))
    (first
      | (go_at_call 227;refine(ur _ _ _).mono ?_;rintro e w' ⟨rfl,hx2⟩)
      | (refine step_append_lies _ (by rfl) _ _ 31 (by rfl) w.heap.size 146 i0 (.int .u64 0) 1 8 underlying31 hi hz0 hz1 hz2 (by rfl) (by decide) u7 k _ (by rfl) (rE (lK (lY hx2 (lJ (lI _))) _) HO.o) ⟨_,0,none⟩ 1 1 [.int .u64 (ZE true z y)] (by rfl) (by rfl) (rI (heap_alloc_new _ _)) (by simp [Value.oneCell']) (by decide) (by simp [maxLen];omega) (by omega) (rH hx.le (Ext.le (lK (lY hx2 (lJ (lI _))) _))) _ rfl ?_;intro g cap3 w1 hown1 hgrow hat hlt1))
   have R:w1.ownsRow w.heap.size 146 1 (.slice (some ⟨g,0,none⟩) (k+1) cap3) (k+1) ((List.zipWith (ZE true) (zs.take (k+1)) (ys.take (k+1))).map (Value.int .u64)):=by have h:=hown1;rw [Ua (ZE true) zs ys k (by have:=HN.o;omega) (by have:=HN2.o;omega),hzk,hyk];simpa using h
   have R2:Ext w w1:=rG (lK (lY hx2 (lJ hx)) _) hgrow hlow;clear hown1 hgrow;go_wp2
   go_roundw
   case rel=>exact⟨k+1,by omega,by go_num,R,R2⟩
   case measure=>simp [intOf];omega
  ·obtain rfl:k=n:=by omega
   go_wp2;go_ret;refine⟨_,rfl,?_,hx⟩;have h:=HO.o;rw [rM (by have:=HN.o;omega),rM (by have:=HN2.o;omega)] at h;exact h
end
end
section
open Go.RowKit
theorem KH (w : World) : (nilAhead 417 284 (.agg #[]) "dealer/triple.plus").run Tryz.prog w = .ok (some false) w := by kernel_rfl
theorem kG (w : World) : (nilAhead 417 284 (.agg #[]) "dealer/triple.times").run Tryz.prog w = .ok (some false) w := by kernel_rfl
def qz (bt:Bool)(zs ys:List Int)(k n r c:Nat):Nat->Int
 | 0=>0
 | i+1=>xA bt (qz bt zs ys k n r c i) (qG bt (zs.getD (r*k+i) 0) (ys.getD (i*n+c) 0))
def xM (bt:Bool)(zs ys:List Int)(k n r c:Nat):List Int:=(List.range c).map fun j=>qz bt zs ys k n r j k
def Y0 (bt:Bool)(zs ys:List Int)(k n r:Nat):List Int:=(List.range r).flatMap fun i=>xM bt zs ys k n i n
theorem Vi (bt:Bool)(zs ys:List Int)(k n r c:Nat):xM bt zs ys k n r (c+1)=xM bt zs ys k n r c++[qz bt zs ys k n r c k]:=by simp [xM,List.range_succ]
theorem Q1 (bt:Bool)(zs ys:List Int)(k n r:Nat):Y0 bt zs ys k n (r+1)=Y0 bt zs ys k n r++xM bt zs ys k n r n:=by simp [Y0,List.range_succ]
theorem Zj {r m k q:Nat}(h:r<m)(g:q<k):r*k+q<m*k:=by have:=rN (show r+1<=m by omega) (lO k);rw [rO] at this;omega
theorem zt {x:Nat}(h:x<=1000000):IntKind.i64.wrap (x:Int)=x:=by exact Q9 (by omega) (by omega)
theorem yp {a b:World}{p1 p2 p3 p4:Addr}{v1 v2 v3 v4:Value}(h1:a.cell? p1=some v1)(h2:a.cell? p2=some v2)(h3:a.cell? p3=some v3)(h4:a.cell? p4=some v4)(h:Ext a b) :
  (b.cell? p1=some v1/\b.cell? p2=some v2/\b.cell? p3=some v3/\b.cell? p4=some v4)/\Ext a b:=⟨⟨h.cell h1,h.cell h2,h.cell h3,h.cell h4⟩,h⟩
theorem K8 (b off cap b2 off2 cap2 p m k n la lb:Nat)(zs ys:List Int)(hla:la=m*k)(hlb:lb=k*n)(hn:zs.length=la)(hn2:ys.length=lb)(hm:m<=3)(hk:k<=3)(hnn:n<=3)(w:World)(hz:WordsAt w b off zs)(hy:WordsAt w b2 off2 ys) :
  Calls Tryz.prog 174 #[.iface 284 (.agg #[]),.agg #[.int .i64 p,.int .i64 m,.int .i64 k,.int .i64 n],.slice (some ⟨b,off,none⟩) la cap,.slice (some ⟨b2,off2,none⟩) lb cap2] w fun e w'=>
   ∃v,e=.returned v/\w'.ownsRow w.heap.size 146 1 v (m*n) ((Y0 false zs ys k n m).map (Value.int .u64))/\Ext w w':=by
 obtain⟨i0,hi,hz0,hz1,hz2⟩:=info_parts ZS;have HZ:=hid hz;have HY:=hid hy;have HN:=hid hn;have HN2:=hid hn2;have HLA:=hid hla;have HLB:=hid hlb;have hm1:=KO;have hm2:=ks;have hnw:=KH;have hnt:=kG;clear hz hy hn hn2 hla hlb;go_enter func174,ntmps174;go_wp2;generalize hW:lP w _=W;have hxW:Ext w W:=hW▸(lI w).alloc _;have hb:W.heap[w.heap.size]?=some (.cells #[.int .i64 p,.int .i64 m,.int .i64 k,.int .i64 n] 240):=by rw [<-hW];exact heap_alloc_new w _
 have hs1:W.cell? ⟨w.heap.size,1,none⟩=some (.int .i64 m):=by rw [cell_of_row W _ 1 _ _ _ hb];rfl
 have hs2:W.cell? ⟨w.heap.size,2,none⟩=some (.int .i64 k):=by rw [cell_of_row W _ 2 _ _ _ hb];rfl
 have hs3:W.cell? ⟨w.heap.size,3,none⟩=some (.int .i64 n):=by rw [cell_of_row W _ 3 _ _ _ hb];rfl
 clear hb;have HXW:=hid hxW;clear hxW hW
 go_loopw [9,16] (fun u i wr=>∃r:Nat,r<=m/\i=.int .i64 r/\wr.ownsRow W.heap.size 146 1 u (r*n) ((Y0 false zs ys k n r).map (Value.int .u64))/\Ext W wr) (fun _ i _=>m - (intOf i).toNat)
 case atStart=>exact⟨0,lT _,rfl,by rw [Nat.zero_mul];exact rB _ _ _ _,lI _⟩
 case round=>
  obtain⟨r,hr,rfl,ho,hx⟩:=hrel;have HO:Hd _:=ho;clear ho;by_cases hlt:r<m
  ·have f1:=hx.cell hs1;have f2:=hx.cell hs2;have f3:=hx.cell hs3;have g1:=rN hr (lO n);have hrk:=rN (show r<=2 by omega) hk;go_wp2
   go_loopw [9,21] (fun u i ws=>∃c:Nat,c<=n/\i=.int .i64 c/\ws.ownsRow W.heap.size 146 1 u (r*n+c) ((Y0 false zs ys k n r++xM false zs ys k n r c).map (Value.int .u64))/\Ext W ws) (fun _ i _=>n - (intOf i).toNat)
   case atStart=>exact⟨0,lT _,rfl,by rw [show xM false zs ys k n r 0=[] from rfl,rL];exact HO.o,hx⟩
   case round=>
    clear f1 f2 f3 HO hx;obtain⟨c,hc,rfl,ho,hx⟩:=hrel
    rename World=>W2
    have hlow:=fun q hq=>(lR.lt ho q hq).1
    have HO:Hd _:=ho;clear ho;by_cases hlc:c<n
    ·have f2:=hx.cell hs2;have f3:=hx.cell hs3;go_wp2
     go_loopw [12,26] (fun u i wt=>∃q:Nat,q<=k/\i=.int .i64 q/\u=.int .u64 (qz false zs ys k n r c q)/\Ext W2 wt) (fun _ i _=>k - (intOf i).toNat)
     case atStart=>exact⟨0,lT _,rfl,rfl,lI _⟩
     case round=>
      obtain⟨q,hq,rfl,rfl,hx3⟩:=hrel;by_cases hlq:q<k
      ·have e0w:=(HXW.o.trans hx).cell (HZ.o (r*k+q) (by rw [HN.o,HLA.o];exact Zj hlt hlq));have e1w:=(HXW.o.trans hx).cell (HY.o (q*n+c) (by rw [HN2.o,HLB.o];exact Zj hlq hlc));have b0:r*k+q<la:=by rw [HLA.o];exact Zj hlt hlq
       have b1:q*n+c<lb:=by rw [HLB.o];exact Zj hlq hlc
       have hqn:=rN (show q<=2 by omega) hnn;have v1:IntKind.i64.wrap ((r:Int)*(k:Int))=((r*k:Nat):Int):=by rw [<-rQ];exact zt (by omega)
       have v2:IntKind.i64.wrap ((q:Int)*(n:Int))=((q*n:Nat):Int):=by rw [<-rQ];exact zt (by omega)
       have hD:qz false zs ys k n r c (q+1)=xA false (qz false zs ys k n r c q) (qG false (zs.getD (r*k+q) 0) (ys.getD (q*n+c) 0)):=rfl;generalize hzk:zs.getD (r*k+q) 0=z at *;generalize hyk:ys.getD (q*n+c) 0=y at *;generalize hdd:qz false zs ys k n r c q=dd at *;generalize r*k=rk at *;generalize q*n=qn at *;have s1:(rk:Int)+(q:Int)=((rk+q:Nat):Int):=by omega
       have s2:(qn:Int)+(c:Int)=((qn+c:Nat):Int):=by omega
       have v3:IntKind.i64.wrap ((rk:Int)+(q:Int))=((rk+q:Nat):Int):=by rw [s1];exact zt (by omega)
       have v4:IntKind.i64.wrap ((qn:Int)+(c:Int))=((qn+c:Nat):Int):=by rw [s2];exact zt (by omega)
       generalize hx1:rk+q=x1 at *;generalize hx2:qn+c=x2 at *;clear s1 s2 hx1 hx2 hrk hqn g1;have d0:(0:Int)<=(x1:Int):=by omega
       have d1:(x1:Int)<la:=by omega
       have d2:(0:Int)<=(x2:Int):=by omega
       have d3:(x2:Int)<lb:=by omega
       have j1:=hx3.cell f2;have j2:=hx3.cell f3;have j3:=hx3.cell e0w;have j4:=hx3.cell e1w;go_wp2
       go_region_held3 (fun w'=>(w'.cell? ⟨w.heap.size,2,none⟩=some (.int .i64 k)/\w'.cell? ⟨w.heap.size,3,none⟩=some (.int .i64 n)/\w'.cell? ⟨b,off+x1,none⟩=some (.int .u64 z)/\w'.cell? ⟨b2,off2+x2,none⟩=some (.int .u64 y))/\Ext W2 w')
        ((refine yp f2 f3 e0w e1w ?_;(repeat (first|with_reducible exact lI _|with_reducible assumption|with_reducible refine lJ ?_|with_reducible refine lK ?_ _|with_reducible (apply lY;assumption)));done))
        (first
          | (go_at_call 232;refine(Vv _ _ _).mono ?_;rintro e w1 ⟨rfl,hx4⟩)
          | (go_at_call 231;refine(uE _ _ _).mono ?_;rintro e w2 ⟨rfl,hx5⟩))
       all_goals (go_wp2;go_roundw)
       all_goals first
        | (refine⟨q+1,by omega,by go_num,by rw [hD],?_⟩;(repeat (first|with_reducible exact lI _|with_reducible assumption|with_reducible refine lJ ?_|with_reducible refine lK ?_ _|with_reducible (apply lY;assumption)));done)
        | (simp [intOf];omega)
      ·obtain rfl:q=k:=by omega
       have hxx:Ext W _:=hx.trans hx3;have ho2:=rE hx3 HO.o;have hbase:=hxx.le;go_wp2_with (at_builtin;refine wpList_append_own _ rfl _ _ 31 rfl W.heap.size 146 i0 (.int .u64 0) 1 8 underlying31 hi hz0 hz1 hz2 rfl (by decide) _ _ _ rfl (lR.alloc ho2 _) ⟨_,0,none⟩ 1 1 [.int .u64 (qz false zs ys q n r c q)] rfl rfl ?c1 ?c2 ?c3 ?c4 ?c5 ?_)
       case c1=>exact cell_one_new _ _ _
       case c2=>intro u hu;simp at hu;subst hu;rfl
       case c3=>have:=rN (show r<=3 by omega) hnn;unfold maxLen;omega
       case c4=>have:=rN (show r<=3 by omega) hnn;omega
       case c5=>simp;omega
       ·intro v' w1 hown' hgrow _;have R:w1.ownsRow W.heap.size 146 1 v' (r*n+(c+1)) ((Y0 false zs ys q n r++xM false zs ys q n r (c+1)).map (Value.int .u64)):=by
         rw [Vi,rY,rY,<-Nat.add_assoc];exact hown'
        have R2:Ext W w1:=rG (hxx.alloc _) hgrow hlow;clear hown' hgrow;go_wp2
        go_roundw
        case rel=>exact⟨c+1,by omega,by go_num,R,R2⟩
        case measure=>simp [intOf];omega
    ·obtain rfl:c=n:=by omega
     have R:lR W2 W.heap.size 146 1 u9 ((r+1)*c) ((Y0 false zs ys k c (r+1)).map (Value.int .u64)):=by rw [Q1,rO,Nat.one_mul];exact HO.o
     go_wp2
     go_roundw
     case rel=>exact⟨r+1,by omega,by go_num,R,hx⟩
     case measure=>simp [intOf];omega
  ·obtain rfl:r=m:=by omega
   go_wp2;go_ret;exact⟨_,rfl,zv HO.o HXW.o.le,HXW.o.trans hx⟩
end
section
open Go.RowKit
theorem Ks (n:Nat)(hn:1<=n)(hn2:n<=1000)(w:World) :
  Calls Tryz.prog 173 #[.slice none 0 0,.int .i64 n] w fun e w'=>∃v,e=.returned v/\w'.ownsRow w.heap.size 146 1 v 0 []/\Ext w w':=by
 obtain⟨i0,hi,hz0,hz1,hz2⟩:=info_parts ZS;obtain⟨G,cur,hG1,hG2,hcs,hrz⟩:∃(G:Nat) (cur:Array Value),n<=G/\G<=maxLen/\cur.size=G/\∀ty,(Builtin.append_ #[31,3] ty #[.slice none 0 0,.int .i64 n]).run Tryz.prog w =
   .ok (.slice (some ⟨w.heap.size,0,none⟩) n G) (w.drew.alloc (.cells cur 146)):=by
  have h:=fun ty=>Lib.run_append_grow_zeros (P:=Tryz.prog) w 31 3 ty 146 i0 _ .i64 .i64 underlying31 underlying3 hi hz0 none 0 0 [] (by rw [hz1];exact run_firstCells_none w.drew 1 0 0 0) n (by omega) (by omega) (by omega) (by omega) (by rw [hz2];omega)
    (by rw [hz2];exact growslice_fits (by omega) (by omega))
  simp only [Nat.zero_add] at h;refine⟨_,_,?_,?_,?_,h⟩
  ·exact grownCap_ge w _ _ _
  ·exact grownCap_le_maxLen w _ _ _ (by unfold maxLen;omega)
  ·have:=grownCap_ge w n 0 146;simp [size_zeroCells,Value.cells];omega
 have HC:=hid hcs;have HG:Hd (n<=G/\G<=maxLen):=⟨hG1,hG2⟩
 unfold maxLen at hG2;clear hcs;go_enter func173,ntmps173;go_wp2_with (at_builtin;refine Lib.wpList_append_run _ rfl _ _ _ _ rfl _ _ rfl rfl _ _ (hrz _) ?_)
 go_ret;refine⟨_,rfl,World.ownsRow_made w.drew cur G (lO _) HG.o.2 (by rw [Nat.mul_one];exact HC.o),(lI w).drew.alloc _⟩
structure URow where
 b:Nat
 off:Nat
 n:Nat
 cap:Nat
 zs:List Int
def URow.val (r:URow):Value:=.slice (some ⟨r.b,r.off,none⟩) r.n r.cap
def URow.ok (r:URow)(w:World):Prop:=WordsAt w r.b r.off r.zs/\1<=r.n/\r.n<=30/\r.zs.length=r.n
def Yh (rs:List URow):Nat:=(rs.map (·.n)).sum
def Y4 (rs:List URow):List Value:=rs.flatMap fun r=>r.zs.map (Value.int .u64)
theorem Vd (rs:List URow)(r:URow):Yh (rs++[r])=Yh rs+r.n:=by simp [Yh]
theorem U7 (rs:List URow)(r:URow):Y4 (rs++[r])=Y4 rs++r.zs.map (Value.int .u64):=by simp [Y4]
theorem Kn (rs:List URow)(w:World)(h:∀r∈rs,r.ok w):Yh rs<=rs.length*30:=by
 induction rs with
 | nil=>simp [Yh]
 | cons r t ih=>
  have h1:=(h r (by simp)).2.2.1;have h2:=ih (fun x hx=>h x (by simp [hx]));simp [Yh] at h2 ⊢;omega
theorem ZJ (zs:List Int):∀u∈zs.map (Value.int .u64),u.oneCell'=true:=by
 intro u hu;obtain⟨x,_,rfl⟩:=List.mem_map.1 hu
 rfl
theorem WordsAt.cells {w:World}{b off:Nat}{zs:List Int}(h:WordsAt w b off zs):∀j u,(zs.map (Value.int .u64))[j]?=some u->w.cell? ((⟨b,off,none⟩:Addr).add j)=some u:=by intro j u hu;rw [List.getElem?_map] at hu;obtain⟨x,hx,rfl⟩:=Option.map_eq_some_iff.1 hu;have hj:=(List.getElem?_eq_some_iff.1 hx).1;have:=h j hj;rw [rT,hx] at this;rw [show (⟨b,off,none⟩:Addr).add j=⟨b,off+j,none⟩ by simp [Addr.add]];simpa using this
theorem JA (g m:Nat)(rs:List URow)(w:World)(hM:rs.length=m)(hm1:1<=m)(hm2:m<=10)(hrs:∀r∈rs,r.ok w)(hc:∀(i:Nat)(h:i<rs.length),w.cell? ⟨g,i,none⟩=some rs[i].val) :
  Calls Tryz.prog 141 #[.slice (some ⟨g,0,none⟩) m m] w fun e w'=>
   ∃v,e=.returned v/\w'.ownsRow w.heap.size 146 1 v (Yh rs) (Y4 rs)/\Ext w w':=by
 obtain⟨i0,hi,hz0,hz1,hz2⟩:=info_parts ZS;have HL:Hd (∀k,Yh (rs.take k)<=300):=fun k=>by have h1:=Kn (rs.take k) w (fun r hr=>hrs r (List.mem_of_mem_take hr));have h2:=List.length_take_le k rs;have h3:=List.length_take_le' k rs;omega
 have HR:=hid hrs;have HC:=hid hc;have H1:Hd (1<=Yh rs):=by
  match rs,(show 1<=rs.length by omega),hrs with
  | r::t,_,hrs=>
   have:=(hrs r (by simp)).2.1;show 1<=Yh (r::t)
   simp [Yh];omega
 have hT:∀k (h:k<rs.length),rs.take (k+1)=rs.take k++[rs[k]]:=fun k h=>rV h
 have HT:Hd _:=hT;clear hrs hc hT;have HM:=hid hM;clear hM;go_enter func141,ntmps141;go_wp2
 go_loop [3,5,11] (fun t _ i=>∃k:Nat,k<=m/\i=.int .i64 k/\t=.int .i64 (Yh (rs.take k))) (fun _ _ i=>m - (intOf i).toNat)
 case atStart=>exact⟨0,lT _,rfl,rfl⟩
 case round=>
  obtain⟨k,hk,rfl,rfl⟩:=hrel;have hL:=HL.o k;by_cases hlt:k<m
  ·have hlt':k<rs.length:=by have:=HM.o;omega
   have hcx:w.cell? ⟨g,k,none⟩=some (.slice (some ⟨rs[k].b,rs[k].off,none⟩) rs[k].n rs[k].cap):=HC.o k (by have:=HM.o;omega);have hn1:=(HR.o rs[k] (lV hlt')).2.1;have hn2:=(HR.o rs[k] (lV hlt')).2.2.1;have HS:Hd (Yh (rs.take (k+1))=Yh (rs.take k)+rs[k].n):=by
    show Yh (rs.take (k+1))=Yh (rs.take k)+rs[k].n
    rw [HT.o k hlt',Vd]
   generalize rs[k]=r at *;generalize Yh (rs.take k)=S at *;go_wp2
   go_round
   case rel=>exact⟨k+1,by omega,by go_num,by rw [HS.o];go_num⟩
   case measure=>simp [intOf];omega
  ·obtain rfl:m=k:=by omega
   have eS:rs.take m=rs:=rM (by have:=HM.o;omega);rw [eS] at hL ⊢;have h1:=H1.o;clear eS;go_wp2_with fail
   refine(Ks _ h1 (by omega) _).mono ?_;rintro e w1 ⟨v,rfl,ho0,hx0⟩;go_wp2
   go_loopw [6,8,27] (fun u _ i wr=>∃k:Nat,k<=m/\i=.int .i64 k/\wr.ownsRow w.heap.size 146 1 u (Yh (rs.take k)) (Y4 (rs.take k))/\Ext w wr) (fun _ _ i _=>m - (intOf i).toNat)
   case atStart=>exact⟨0,lT _,rfl,ho0,hx0⟩
   case round=>
    obtain⟨j,hj,rfl,ho,hx⟩:=hrel;have hLj:=HL.o j;clear ho0 hx0;by_cases hlt:j<m
    ·have hlt':j<rs.length:=by have:=HM.o;omega
     have hcx:wr.cell? ⟨g,j,none⟩=some (.slice (some ⟨rs[j].b,rs[j].off,none⟩) rs[j].n rs[j].cap):=hx.cell (HC.o j hlt');obtain⟨hro,hn1,hn2,hzl⟩:=HR.o rs[j] (lV hlt');have HRO:=hid (hro.ext hx);have HZL:=hid hzl;have HS:Hd (Yh (rs.take (j+1))=Yh (rs.take j)+rs[j].n):=by
      show Yh (rs.take (j+1))=Yh (rs.take j)+rs[j].n
      rw [HT.o j hlt',Vd]
     have HF:Hd (Y4 (rs.take (j+1))=Y4 (rs.take j)++rs[j].zs.map (Value.int .u64)):=by
      show Y4 (rs.take (j+1))=Y4 (rs.take j)++rs[j].zs.map (Value.int .u64)
      rw [HT.o j hlt',U7]
     clear hro hzl;generalize rs[j]=r at *;generalize Yh (rs.take j)=S at *;generalize Y4 (rs.take j)=X at *;have hsz:=hx.le;go_wp2_with (at_builtin;refine wpList_append_own _ rfl _ _ 31 rfl w.heap.size 146 i0 _ 1 8 underlying31 hi hz0 hz1 hz2 rfl (by decide) _ _ _ rfl ho ⟨r.b,r.off,none⟩ r.n r.cap (r.zs.map (Value.int .u64)) rfl (by simp [HZL.o]) ?c1 ?c2 ?c3 ?c4 ?c5 ?_)
     case c1=>exact HRO.o.cells
     case c2=>exact ZJ _
     case c3=>unfold maxLen;omega
     case c4=>omega
     case c5=>omega
     ·intro v' w2 hown' hgrow _;have R2:Ext w w2:=rG hx hgrow (fun k hk=>(ho.lt k hk).1);have R:w2.ownsRow w.heap.size 146 1 v' (Yh (rs.take (j+1))) (Y4 (rs.take (j+1))):=by
       rw [HS.o,HF.o];exact hown'
      clear hown' hgrow ho hx;go_wp2
      go_roundw
      case rel=>exact⟨j+1,by omega,by go_num,R,R2⟩
      case measure=>simp [intOf];omega
    ·obtain rfl:m=j:=by omega
     have eS:rs.take m=rs:=rM (by have:=HM.o;omega);rw [eS] at ho;clear eS;go_wp2;go_ret;exact⟨_,rfl,ho,hx⟩
theorem vi (b off n cap:Nat)(w:World):(binOp BinOp.eql 31 (.slice (some ⟨b,off,none⟩) n cap) (.slice none 0 0)).run Tryz.prog w=.ok (.bool false) w:=by kernel_rfl
theorem JV (b off n cap:Nat)(zs:List Int)(hn:zs.length=n)(h1:1<=n)(h2:n<=100)(w:World)(hz:WordsAt w b off zs) :
  Calls Tryz.prog 140 #[.slice (some ⟨b,off,none⟩) n cap] w fun e w'=>
   ∃v,e=.returned v/\w'.ownsRow w.heap.size 146 1 v n (zs.map (Value.int .u64))/\Ext w w':=by
 obtain⟨i0,hi,hz0,hz1,hz2⟩:=info_parts ZS;have HZ:=hid hz;have HN:=hid hn;clear hz hn;have hq:=vi b off n cap w;go_enter func140,ntmps140;go_wp2_with (at_builtin;refine wpList_append_own _ rfl _ _ 31 rfl w.heap.size 146 i0 _ 1 8 underlying31 hi hz0 hz1 hz2 rfl (by decide) _ _ _ rfl (World.ownsRow_lit (base:=w.heap.size) w #[] 0 (lO _) (by decide) rfl) ⟨b,off,none⟩ n cap (zs.map (Value.int .u64)) rfl (by simp [HN.o]) ?c1 ?c2 ?c3 ?c4 ?c5 ?_)
 case c1=>exact(HZ.o.ext ((lI w).alloc _)).cells
 case c2=>exact ZJ _
 case c3=>unfold maxLen;omega
 case c4=>omega
 case c5=>simp
 intro v' w1 hown hgrow _;go_wp2;go_ret;refine⟨_,rfl,by simpa using hown,rG ((lI w).alloc _) hgrow (fun k hk=>?_)⟩;simp [lH] at hk;omega
end
section
section
open Go.RowKit
def zJ (kd m k n:Int):Value:=.agg #[.int .i64 kd,.int .i64 m,.int .i64 k,.int .i64 n]
def yb (kd m k n:Int):Bool:=
 if kd=0 then decide (m=1) && (decide (k=1) && decide (n=1))
 else if kd=1 then (decide (1<=m) && decide (m<=3)) && ((decide (1<=k) && decide (k<=3)) && (decide (1<=n) && decide (n<=3)))
 else if kd=2 then (decide (1<=m) && decide (m<=3)) && (decide (k=1) && decide (n=1))
 else false
theorem QY (kd m k n:Int)(w:World):Calls Tryz.prog 95 #[zJ kd m k n] w fun e w'=>e=.returned (.bool (yb kd m k n))/\Ext w w':=by
 unfold zJ;go_enter func95,ntmps95;go_wp2_with (first|(go_at_call 135;refine(JX _ _).mono ?_;rintro e w' ⟨rfl,rfl⟩)|go_in)
 all_goals go_ret
 all_goals (refine⟨zH (Bool.eq_iff_iff.2 ?_),(lI w).alloc _⟩;simp_all [yb])
 all_goals (try omega)
theorem kz (m k n:Int)(w:World):Calls Tryz.prog 136 #[zJ 2 m k n] w fun e w'=>e=.returned (.agg #[.int .i64 m,.int .i64 1,.int .i64 1,.int .i64 1])/\Ext w w':=by
 unfold zJ;go_enter func136,ntmps136;go_wp2;refine bodyPost_ret (v:=.agg #[.int .i64 m,.int .i64 1,.int .i64 1,.int .i64 1]) (by simp [results,results136,go_sem]) rfl ⟨rfl,?_⟩
 (repeat (first|exact lI _|refine lJ ?_|refine lK ?_ _|refine rF ?_ (by simp) _))
theorem kp (kd m k n:Int)(h:¬kd=2)(w:World):Calls Tryz.prog 136 #[zJ kd m k n] w fun e w'=>e=.returned (.agg #[.int .i64 1,.int .i64 m,.int .i64 k,.int .i64 n])/\Ext w w':=by
 unfold zJ;go_enter func136,ntmps136;go_wp2;refine bodyPost_ret (v:=.agg #[.int .i64 1,.int .i64 m,.int .i64 k,.int .i64 n]) (by simp [results,results136,go_sem]) rfl ⟨rfl,?_⟩
 (repeat (first|exact lI _|refine lJ ?_|refine lK ?_ _|refine rF ?_ (by simp) _))
theorem Xl (kd m k n:Int)(w:World):Calls Tryz.prog 139 #[zJ kd m k n] w fun e w'=>e=.returned (if kd=2 then .iface 283 (.agg #[]) else .iface 284 (.agg #[]))/\Ext w w':=by
 unfold zJ;go_enter func139,ntmps139;go_wp2
 all_goals go_ret
 all_goals (refine⟨?_,(lI w).alloc _⟩;simp_all)
theorem yJ {a b:Nat}(h1:a<=3)(h2:b<=3):a*b<=9:=rN h1 h2
theorem kZ {a b c:Nat}(h1:a<=3)(h2:b<=3)(h3:c<=3):a*b*c<=27:=rN (yJ h1 h2) h3
theorem kQ {a b c:Nat}(h1:a<=3)(h2:b<=3)(h3:c<=3):IntKind.i64.wrap (IntKind.i64.wrap ((a:Int)*b)*c)=((a*b*c:Nat):Int):=by
 have e1:IntKind.i64.wrap ((a:Int)*b)=((a*b:Nat):Int):=by rw [<-rQ];exact zt (by have:=yJ h1 h2;omega)
 rw [e1,<-rQ];exact zt (by have:=kZ h1 h2 h3;omega)
end
section
open Go.RowKit
theorem j9 (p m k n:Nat)(hp:p<=3)(hm:m<=3)(hk:k<=3)(hn:n<=3)(w:World) :
  Calls Tryz.prog 137 #[.agg #[.int .i64 p,.int .i64 m,.int .i64 k,.int .i64 n]] w fun e w'=>
   e=.returned (.tuple #[.int .i64 (p*m*k:Nat),.int .i64 (p*k*n:Nat),.int .i64 (p*m*n:Nat)])/\Ext w w':=by
 have e1:=kQ hp hm hk;have e2:=kQ hp hk hn;have e3:=kQ hp hm hn;have HE:Hd _:=And.intro e1 (And.intro e2 e3);clear e1 e2 e3 hp hm hk hn;go_enter func137,ntmps137;go_wp2;generalize hW:lP w _=W;have hxW:Ext w W:=hW▸(lI w).alloc _;have hb:W.heap[w.heap.size]?=some (.cells #[.int .i64 p,.int .i64 m,.int .i64 k,.int .i64 n] 240):=by rw [<-hW];exact heap_alloc_new w _
 have s0:W.cell? ⟨w.heap.size,0,none⟩=some (.int .i64 p):=by rw [cell_of_row W _ 0 _ _ _ hb];rfl
 have s1:W.cell? ⟨w.heap.size,1,none⟩=some (.int .i64 m):=by rw [cell_of_row W _ 1 _ _ _ hb];rfl
 have s2:W.cell? ⟨w.heap.size,2,none⟩=some (.int .i64 k):=by rw [cell_of_row W _ 2 _ _ _ hb];rfl
 have s3:W.cell? ⟨w.heap.size,3,none⟩=some (.int .i64 n):=by rw [cell_of_row W _ 3 _ _ _ hb];rfl
 clear hb;have HXW:=hid hxW;clear hxW hW
 go_region_held3 (fun w'=>(w'.cell? ⟨w.heap.size,0,none⟩=some (.int .i64 p)/\w'.cell? ⟨w.heap.size,1,none⟩=some (.int .i64 m)/\w'.cell? ⟨w.heap.size,2,none⟩=some (.int .i64 k)/\w'.cell? ⟨w.heap.size,3,none⟩=some (.int .i64 n))/\Ext W w')
  ((refine yp s0 s1 s2 s3 ?_;(repeat (first|with_reducible exact lI _|with_reducible assumption|with_reducible refine lJ ?_|with_reducible refine lK ?_ _));done))
  (fail)
 go_wp2;go_ret3;obtain⟨e1,e2,e3⟩:=HE.o;exact⟨by rw [<-e1,<-e2,<-e3];rfl,HXW.o.drew⟩
structure Sh where
 bt:Bool
 p:Nat
 m:Nat
 k:Nat
 n:Nat
def Sh.ok (s:Sh):Prop:=1<=s.p/\s.p<=3/\1<=s.m/\s.m<=3/\1<=s.k/\s.k<=3/\1<=s.n/\s.n<=3/\(s.p=1\/s.m=1/\s.k=1/\s.n=1)
def Sh.x (s:Sh):Nat:=s.p*s.m*s.k
def Sh.y (s:Sh):Nat:=s.p*s.k*s.n
def Sh.z (s:Sh):Nat:=s.p*s.m*s.n
def Sh.val (s:Sh):Value:=.agg #[.int .i64 s.p,.int .i64 s.m,.int .i64 s.k,.int .i64 s.n]
def Sh.num (s:Sh):Value:=.iface (if s.bt then 283 else 284) (.agg #[])
def ofCls (kd m k n:Nat)(s:Sh):Prop:=(kd=2/\s=⟨true,m,1,1,1⟩/\k=1/\n=1)\/((kd=0\/kd=1)/\s=⟨false,1,m,k,n⟩)
theorem ofCls.mk {kd m k n:Nat}(h:yb kd m k n=true):∃s,ofCls kd m k n s/\s.ok:=by
 unfold yb at h;split at h
 ·refine⟨⟨false,1,m,k,n⟩,.inr ⟨.inl (by omega),rfl⟩,?_⟩;simp at h;simp [Sh.ok];omega
 ·split at h
  ·refine⟨⟨false,1,m,k,n⟩,.inr ⟨.inr (by omega),rfl⟩,?_⟩;simp at h;simp [Sh.ok];omega
  ·split at h
   ·simp at h;refine⟨⟨true,m,1,1,1⟩,.inl ⟨by omega,rfl,by omega,by omega⟩,?_⟩;simp [Sh.ok];omega
   ·cases h
theorem Xy {kd m k n:Nat}{s:Sh}(h:ofCls kd m k n s)(w:World):Calls Tryz.prog 136 #[zJ kd m k n] w fun e w'=>e=.returned s.val/\Ext w w':=by
 rcases h with⟨rfl,rfl,_,_⟩|⟨h,rfl⟩
 ·exact kz m k n w
 ·exact kp kd m k n (by omega) w
theorem kT {kd m k n:Nat}{s:Sh}(h:ofCls kd m k n s)(w:World):Calls Tryz.prog 139 #[zJ kd m k n] w fun e w'=>e=.returned s.num/\Ext w w':=by
 refine(Xl kd m k n w).mono ?_;rintro e w' ⟨rfl,hx⟩;refine⟨?_,hx⟩;rcases h with⟨rfl,rfl,_,_⟩|⟨h,rfl⟩
 ·rfl
 ·rw [if_neg (by omega)];rfl
theorem Qj {s:Sh}(h:s.ok)(w:World):Calls Tryz.prog 137 #[s.val] w fun e w'=>e=.returned (.tuple #[.int .i64 (s.x:Int),.int .i64 (s.y:Int),.int .i64 (s.z:Int)])/\Ext w w':=
 j9 s.p s.m s.k s.n h.2.1 h.2.2.2.1 h.2.2.2.2.2.1 h.2.2.2.2.2.2.2.1 w
theorem Sh.le {s:Sh}(h:s.ok):1<=s.x/\s.x<=9/\1<=s.y/\s.y<=9/\1<=s.z/\s.z<=9:=by
 obtain⟨h1,h2,h3,h4,h5,h6,h7,h8,h9⟩:=h;unfold Sh.x Sh.y Sh.z;rcases h9 with e|⟨e1,e2,e3⟩
 ·rw [e];simp only [Nat.one_mul];exact⟨rN h3 h5,rN h4 h6,rN h5 h7,rN h6 h8,rN h3 h7,rN h4 h8⟩
 ·rw [e1,e2,e3];simp only [Nat.mul_one];omega
theorem Jq {kd m k n:Nat}{s:Sh}(h:ofCls kd m k n s)(hs:s.ok)(w:World):Calls Tryz.prog 138 #[zJ kd m k n] w fun e w'=>e=.returned (.int .i64 (s.x+s.y+s.z:Nat))/\Ext w w':=by
 have hle:=Sh.le hs;have HS:Hd _:=Xy h;have HL:Hd _:=Qj hs;generalize s.x=x at *;generalize s.y=y at *;generalize s.z=z at *;generalize s.val=sv at *;clear h hs;unfold zJ;go_enter func138,ntmps138;go_wp2_with (first|(go_at_call 136;refine(HS.o _).mono ?_;rintro e w1 ⟨rfl,hx1⟩)|(go_at_call 137;refine(HL.o _).mono ?_;rintro e w2 ⟨rfl,hx2⟩)|go_in)
 go_ret;refine⟨qU (by go_num),?_⟩
 (repeat (first|with_reducible exact lI _|with_reducible assumption|with_reducible refine lJ ?_|with_reducible refine lK ?_ _|with_reducible (apply lY;assumption)))
end
end
section
section
open Go.RowKit
def yf (rs:List ByteArray):List UInt8:=rs.flatMap fun r=>ZV r.data.toList
theorem UK (rs:List ByteArray)(r:ByteArray):yf (rs++[r])=yf rs++ZV r.data.toList:=by simp [yf]
theorem Jx (rs:List ByteArray)(h:∀r∈rs,r.size<=100000):(yf rs).length<=rs.length*100012:=by
 induction rs with
 | nil=>simp [yf]
 | cons r t ih=>
  have h1:=h r (by simp);have h2:=ih (fun x hx=>h x (by simp [hx]));have h3:=Qk r.data.toList;have h4:r.data.toList.length=r.size:=by simp
  simp only [yf,List.flatMap_cons,lW,List.length_cons] at h2 ⊢;omega
def jv:ByteArray:=⟨#[115,116,111,114,101,46,110,101,119]⟩
def kt:ByteArray:=⟨#[115,116,111,114,101]⟩
def Qc:ByteArray:=⟨#[]⟩
def yH (b:List UInt8):List OpV:=[⟨0,jv,Qc,⟨b.toArray⟩⟩,⟨2,jv,Qc,Qc⟩,⟨3,jv,kt,Qc⟩,⟨4,Qc,Qc,Qc⟩]
def xY (b:List UInt8):List OpV:=[⟨1,kt,Qc,⟨b.toArray⟩⟩,⟨2,kt,Qc,Qc⟩]
theorem kV (w:World):(convert 136 9 (.slice none 0 0)).run Tryz.prog w=.ok (.string ⟨#[]⟩) w:=by kernel_rfl
theorem DidOps.known {B:Nat}{sv lv dv:Value}{fl:Bool}{ah:Int}{kn:Bool}{k:Nat}{xs:List Value}{ops:List OpV}{w w1 w2:World}{dv':Value}(h:DidOps B sv lv dv fl ah kn k xs ops w1 w2 dv')(hx:Ext w w1)(b:Bool):DidOps B sv lv dv fl ah b k xs ops w (w2.setCell ⟨B,5,none⟩ (.bool b)) dv' where
 deal:=h.deal.set5 b
 row:=zi h.row (h.deal.rne h.row (by decide)) _
 turn:=Turn.setCell ((Turn.of_ext hx).trans h.turn) (fun _=>.inl rfl) _
 own:=fun q hq hl=>h.own q hq (rA hl hx.le)
 same:=h.same
theorem vT (B rcap m k:Nat)(ra:Option Addr)(rs:List ByteArray)(sv lv dv:Value)(fl:Bool)(ah:Int)(kn:Bool)(hah:fl=true->0<=ah/\ah<=9223372036854775807)(xs:List Value)(w:World)(h:DealAt w B sv lv dv fl ah kn)(ho:w.ownsRow 0 134 4 dv k xs)
  (hm:rs.length=m) (hm2:m<=2000) (hr:∀r∈rs,r.size<=100000) (hc:∀i (hi:i<rs.length),∃rb,ra=some ⟨rb,0,none⟩/\w.cell? ⟨rb,i,none⟩=some (.string rs[i])) (hk:k<=1000000) :
  Calls Tryz.prog 91 #[.pointer (some ⟨B,2,none⟩),.slice ra m rcap] w fun e w'=>
   ∃dv',e=.returned (.bool (Zg fl ah 4))/\DidOps B sv lv dv fl ah (Zg fl ah 4) k xs (yH (yf rs)) w w' dv':=by
 obtain⟨i0,hi,hz0,hz1,hz2⟩:=info_parts Q6;have HD:=hid h;have HO:=hid ho;have HM:=hid hm;have HR:=hid hr;have HC:Hd _:=hc;have HAH:Hd _:=hah;clear h ho hm hr hc hah;obtain⟨ok,hok⟩:∃ok,Zg fl ah 4=ok:=⟨_,rfl⟩
 rw [hok];have HOK:=hid hok;clear hok;go_enter func91,ntmps91;go_wp2
 go_loopw [5,10] (fun u i wr=>∃(j n:Nat),j<=m/\i=.int .i64 j/\(yf (rs.take j)).length=n/\wr.ownsRow w.heap.size 5 1 u n (Ze (yf (rs.take j)))/\Ext w wr) (fun _ i _=>m - (intOf i).toNat)
 case atStart=>exact⟨0,0,lT _,rfl,rfl,rB _ _ _ _,lI _⟩
 case round=>
  obtain⟨j,n,hj,rfl,hn,hor,hx⟩:=hrel;have hn2:n<=2000*100012:=by
   rw [<-hn];have h1:=Jx (rs.take j) (fun r hr=>HR.o r (List.mem_of_mem_take hr));have h2:(rs.take j).length<=2000:=by rw [List.length_take,HM.o];omega
   exact rH h1 (rN h2 (lO _))
  have HN:=hid hn;have HOR:=hid hor;have hlow:=fun q hq=>(lR.lt hor q hq).1
  clear hn hor;by_cases hlt:j<m
  ·have hjl:j<rs.length:=by rw [HM.o];exact hlt
   obtain⟨rb,hra,hrc⟩:=HC.o j hjl;subst hra;have k0:wr.cell? ⟨rb,j,none⟩=some (.string rs[j]):=hx.cell hrc;clear hrc;have hrs:rs[j].size<=100000:=HR.o _ (lV hjl);have HF:Hd (yf (rs.take (j+1))=yf (rs.take j)++ZV rs[j].data.toList):=by
    show yf (rs.take (j+1))=_
    rw [rV hjl,UK]
   have HFr:Hd _:=jE rs[j] (by omega);have hls:(ZV rs[j].data.toList).length=12+rs[j].size:=by rw [Qk];simp
   have HLS:Hd _:=hls;generalize rs[j]=r at *;have hsz:(⟨(ZV r.data.toList).toArray⟩:ByteArray).size=12+r.size:=by show (ZV r.data.toList).toArray.size=_;rw [List.size_toArray];exact hls
   have HST:Hd (Lib.strCells ⟨(ZV r.data.toList).toArray⟩=Ze (ZV r.data.toList)):=by
    show Lib.strCells ⟨(ZV r.data.toList).toArray⟩=Ze (ZV r.data.toList)
    rw [xi]
   generalize hfr:(⟨(ZV r.data.toList).toArray⟩:ByteArray)=fr at *;clear hls hfr;go_wp2_with fail
   refine(HFr.o _).mono ?_;rintro e w1 ⟨rfl,hx1⟩;have hw1:=(hx.trans hx1).le;go_wp2_with (at_builtin;refine Lib.wpList_append_own_string _ rfl _ _ 136 9 rfl w.heap.size 5 i0 underlying136 underlying9 hi hz0 hz1 hz2 _ _ _ rfl (rE hx1 HOR.o) _ rfl ?c1 ?c2 ?c3 ?_)
   case c1=>rw [hsz];unfold maxLen;omega
   case c2=>rw [hsz];omega
   case c3=>exact hw1
   intro v3 w3 ho3 hg3 _;have R2:Ext w w3:=rG (hx.trans hx1) hg3 hlow;have R1:w3.ownsRow w.heap.size 5 1 v3 (n+(12+r.size)) (Ze (yf (rs.take (j+1)))):=by rw [HF.o,yk,<-HST.o];exact ho3
   have R3:(yf (rs.take (j+1))).length=n+(12+r.size):=by rw [HF.o,lW,HN.o,HLS.o]
   have HRR:Hd _:=And.intro R1 (And.intro R2 R3);clear R1 R2 R3 ho3 hg3;go_wp2
   go_roundw
   case rel=>
    obtain⟨R1,R2,R3⟩:=HRR.o;exact⟨j+1,_,by omega,by go_num,R3,R1,R2⟩
   case measure=>simp [intOf];omega
  ·obtain rfl:m=j:=by omega
   have hall:rs.take m=rs:=rM (by rw [HM.o];exact lO _);rw [hall] at HOR HN;have HDr:=hid (HD.o.ext hx);have HOr:Hd (wr.ownsRow 0 134 4 dv k xs):=rE hx HO.o;have HLT:Hd (∀q,dv.ownBlock=some q->q<wr.heap.size):=fun q hq=>(lR.lt HOr.o q hq).2
   have HX:=hid hx;obtain⟨FB,hFB⟩:∃FB,yf rs=FB:=⟨_,rfl⟩
   rw [hFB] at HOR HN;have HFB:=hid hFB;have hcv:(convert 136 9 u5).run Tryz.prog wr.drew=.ok (.string ⟨FB.toArray⟩) wr.drew:=by
    rcases zw HOR.o with⟨h1,h2,h3⟩|⟨gb,cb,h1,_,_,_⟩
    ·have h4:=HN.o;rw [h2,List.length_eq_zero_iff] at h4;rw [h1,h4];exact kV _
    ·have h4:=lR.drew HOR.o;rw [h1] at h4 ⊢;exact YG HN.o h4
   clear hFB HOR HN HC HR hall hx;go_wp2_with fail
   go_region_with (first
    | (go_at_call 129
       refine(jB B _ k 4 sv lv dv fl ah kn HAH.o xs (yH FB) _ ?ca ?cb ?cc ?cd rfl (by omega) hk).mono ?_
       case ca=>exact HDr.o.ext (lK (lJ (lI _)) _)
       case cb=>exact rE (lK (lJ (lI _)) _) HOr.o
       case cc=>exact heap_alloc_new _ _
       case cd=>exact fun hq=>absurd (HLT.o _ hq) (Nat.lt_irrefl _)
       rintro e w1 ⟨dv',rfl,hd1⟩;rw [show Zg fl ah (yH FB).length=ok from HOK.o];have f5:=hd1.deal.frozen 5;have c5:=hd1.deal.cells.2.2.2.2.2))
   have HRR:Hd _:=hd1.known (w:=w) (lK (lJ HX.o) _) ok;clear hd1;go_wp2;go_ret;exact⟨dv',rfl,by rw [HFB.o];exact HRR.o⟩
end
section
open Go.RowKit
theorem UN (B k:Nat)(r:ByteArray)(fv sv lv dv:Value)(fl:Bool)(ah:Int)(hah:fl=true->0<=ah/\ah<=9223372036854775807)(xs:List Value)(w:World)(h:DealAt w B sv lv dv fl ah true)(ho:w.ownsRow 0 134 4 dv k xs)(hr:r.size<=100000)(hk:k<=1000000) :
  Calls Tryz.prog 144 #[.pointer (some ⟨B,2,none⟩),.string r,fv] w fun e w'=>
   ∃dv',e=.returned (.bool (Zg fl ah 2))/\DidOps B sv lv dv fl ah (Zg fl ah 2) k xs (xY (ZV r.data.toList)) w w' dv':=by
 have HD:=hid h;have HO:=hid ho;have HAH:Hd _:=hah;obtain⟨c0,c1,c2,c3,c4,c5⟩:=h.cells;have HF:Hd _:=jE r (by omega);clear h ho c0 c1 c2 c3 c4 hah;obtain⟨ok,hok⟩:∃ok,Zg fl ah 2=ok:=⟨_,rfl⟩
 rw [hok];have HOK:=hid hok;clear hok;obtain⟨FB,hFB⟩:∃FB,ZV r.data.toList=FB:=⟨_,rfl⟩
 rw [hFB] at HF;have HFB:=hid hFB;clear hFB;go_enter func144,ntmps144;go_wp2_with fail
 have HLT:Hd (∀q,dv.ownBlock=some q->q<w.heap.size):=fun q hq=>(lR.lt HO.o q hq).2
 go_region_with (first
  | (go_at_call 128;refine(HF.o _).mono ?_;rintro e w1 ⟨rfl,hx1⟩)
  | (go_at_call 129
     refine(jB B _ k 2 sv lv dv fl ah true HAH.o xs (xY FB) _ ?ca ?cb ?cc ?cd rfl (by omega) hk).mono ?_
     case ca=>exact HD.o.ext (lK (lY hx1 (lJ (lI _))) _)
     case cb=>exact rE (lK (lY hx1 (lJ (lI _))) _) HO.o
     case cc=>exact heap_alloc_new _ _
     case cd=>exact fun hq=>absurd (rA (HLT.o _ hq) (Ext.le (lY hx1 (lJ (lI _))))) (Nat.lt_irrefl _)
     rintro e w2 ⟨dv',rfl,hd1⟩;rw [show Zg fl ah (xY FB).length=ok from HOK.o];have f5:=hd1.deal.frozen 5;have c5:=hd1.deal.cells.2.2.2.2.2))
 have HRR:Hd _:=hd1.known (w:=w) (lK (lY hx1 (lJ (lI _))) _) ok;clear hd1;go_wp2;go_ret;exact⟨dv',rfl,by rw [HFB.o];exact HRR.o⟩
end
section
open Go.RowKit
structure StkV where
 blk:Nat
 kd:Int
 m:Int
 k:Int
 n:Int
def StkV.is (s:StkV)(kd m k n:Int):Bool:=s.kd == kd && (s.m == m && (s.k == k && s.n == n))
def StkV.clsAt (s:StkV)(w:World):Prop:=w.cell? ⟨s.blk,0,none⟩=some (.int .i64 s.kd)/\w.cell? ⟨s.blk,1,none⟩=some (.int .i64 s.m)/\w.cell? ⟨s.blk,2,none⟩=some (.int .i64 s.k)/\w.cell? ⟨s.blk,3,none⟩=some (.int .i64 s.n)
def qf (l:List StkV)(kd m k n:Int):Value:=match l.find? (fun s=>s.is kd m k n) with|some s=>.pointer (some ⟨s.blk,0,none⟩)|none=>.pointer none
def StocksAt (w:World)(sv:Value)(l:List StkV):Prop:=
 (sv=.slice none 0 0/\l=[]\/∃g cap,sv=.slice (some ⟨g,0,none⟩) l.length cap/\∀i (h:i<l.length),w.cell? ⟨g,i,none⟩=some (.pointer (some ⟨l[i].blk,0,none⟩)))/\∀s∈l,s.clsAt w
theorem StocksAt.ext {w w':World}{sv:Value}{l:List StkV}(h:StocksAt w sv l)(hx:Ext w w'):StocksAt w' sv l:=by
 refine⟨?_,fun s hs=>?_⟩
 ·rcases h.1 with h1|⟨g,cap,h1,h2⟩
  ·exact .inl h1
  ·exact .inr ⟨g,cap,h1,fun i hi=>hx.cell (h2 i hi)⟩
 ·obtain⟨a,b,c,d⟩:=h.2 s hs;exact⟨hx.cell a,hx.cell b,hx.cell c,hx.cell d⟩
theorem JQ (l:List StkV){kd m k n:Int}(j:Nat)(hj:j<l.length)(hno:∀s∈l.take j,s.is kd m k n=false)(h:l[j].is kd m k n=true):qf l kd m k n=.pointer (some ⟨l[j].blk,0,none⟩):=by
 have e:l=l.take j++(l[j]::l.drop (j+1)):=by simp
 have:l.find? (fun s=>s.is kd m k n)=some l[j]:=by
  have h1:(l.take j++(l[j]::l.drop (j+1))).find? (fun s=>s.is kd m k n)=some l[j]:=by
   rw [List.find?_append,List.find?_eq_none.2 (fun s hs=>by rw [hno s hs];simp),List.find?_cons,h]
   rfl
  rw [<-e] at h1;exact h1
 unfold qf;rw [this]
theorem U2 (l:List StkV){kd m k n:Int}(hno:∀s∈l,s.is kd m k n=false):qf l kd m k n=.pointer none:=by unfold qf;rw [List.find?_eq_none.2 (fun s hs=>by rw [hno s hs];simp)]
theorem gq (B:Nat)(l:List StkV)(kd m k n:Int)(sv lv dv:Value)(fl:Bool)(ah:Int)(kn:Bool)(w:World)(h:DealAt w B sv lv dv fl ah kn)(hs:StocksAt w sv l)(hl:l.length<=100) :
  Calls Tryz.prog 168 #[.pointer (some ⟨B,0,none⟩),zJ kd m k n] w fun e w'=>e=.returned (qf l kd m k n)/\Ext w w':=by
 unfold zJ;rcases hs with⟨⟨rfl,rfl⟩|⟨g,cap,rfl,hc⟩,hcl⟩
 ·obtain⟨c0,_⟩:=h.cells;have hB:=h.lt;clear h hcl;go_enter func168,ntmps168;go_wp2
  go_loop [12] (fun i=>i=.int .i64 0) (fun _=>0)
  case atStart=>rfl
  case round=>
   obtain rfl:=hrel;go_wp2;go_ret;exact⟨rfl,(lI w).alloc _⟩
 ·have HC:=hid hc;have HCL:=hid hcl;have heq:=fun (a b c e a' b' c' e':Int) (w:World)=>Ya 9998 a b c e a' b' c' e' w
  obtain⟨c0,_⟩:=h.cells;have hB:=h.lt;clear h hc hcl;obtain⟨len,hlen⟩:∃len,l.length=len:=⟨_,rfl⟩
  have HLEN:=hid hlen;rw [hlen] at c0 hl;clear hlen;go_enter func168,ntmps168;go_wp2;have hf:=ZQ (lI (w.alloc (.cells #[.int .i64 kd,.int .i64 m,.int .i64 k,.int .i64 n] 49)));have HXV:Hd (Ext w (w.alloc (.cells #[.int .i64 kd,.int .i64 m,.int .i64 k,.int .i64 n] 49))):=(lI w).alloc _;generalize lP w _=V at hf HXV ⊢;obtain⟨d0,d1,d2,d3⟩:=hf
  go_loopw [12] (fun i wr=>∃j:Nat,j<=len/\i=.int .i64 j/\(∀s∈l.take j,s.is kd m k n=false)/\Ext V wr) (fun i _=>len - (intOf i).toNat)
  case atStart=>exact⟨0,lT _,rfl,by simp,lI _⟩
  case round=>
   obtain⟨j,hj,rfl,hno,hxr⟩:=hrel;have d0:=hxr.cell d0;have d1:=hxr.cell d1;have d2:=hxr.cell d2;have d3:=hxr.cell d3;have HXR:Hd (Ext w wr):=HXV.o.trans hxr;have HXR2:=hid hxr;clear hxr;have HNO:=hid hno;clear hno;by_cases hlt:j<len
   ·have hjl:j<l.length:=by rw [HLEN.o];exact hlt
    have e0:=HXR.o.cell (HC.o j hjl);obtain⟨b0,b1,b2,b3⟩:=HCL.o l[j] (lV hjl);have b0:=HXR.o.cell b0;have b1:=HXR.o.cell b1;have b2:=HXR.o.cell b2;have b3:=HXR.o.cell b3;have HIS:Hd (l[j].is kd m k n=(l[j].kd == kd && (l[j].m == m && (l[j].k == k && l[j].n == n)))):=rfl;have HT:Hd (l.take (j+1)=l.take j++[l[j]]):=rV hjl;by_cases his:l[j].is kd m k n=true
    ·have HFV:Hd (qf l kd m k n=.pointer (some ⟨l[j].blk,0,none⟩)):=JQ l j hjl HNO.o his;rw [HIS.o] at his;generalize l[j]=s at *;obtain⟨blk,skd,sm,sk,sn⟩:=s;simp only at *;go_wp2
     go_region
     all_goals go_wp2
     all_goals go_ret
     all_goals exact⟨by rw [HFV.o];rfl,HXR.o.drew⟩
    ·have HN2:Hd (∀s∈l.take (j+1),s.is kd m k n=false):=fun s hs=>by
      rw [HT.o] at hs;rcases List.mem_append.1 hs with h|h
      ·exact HNO.o s h
      ·rw [List.mem_singleton.1 h];simpa using his
     rw [HIS.o] at his;generalize l[j]=s at *;obtain⟨blk,skd,sm,sk,sn⟩:=s;simp only at *;have his2:(skd == kd && (sm == m && (sk == k && sn == n)))=false:=by simpa using his
     clear his;go_wp2
     go_region
     all_goals go_wp2
     all_goals go_roundw
     all_goals first
      | exact⟨j+1,by omega,by go_num,HN2.o,HXR2.o.drew⟩
      | (simp [intOf];omega)
   ·obtain rfl:j=len:=by omega
    have hall:l.take j=l:=rM (by rw [HLEN.o];exact lO _);have HNO2:=HNO.o;rw [hall] at HNO2;have HFV:Hd (qf l kd m k n=.pointer none):=U2 l HNO2;clear HNO2 hall HNO;go_wp2;go_ret;exact⟨by rw [HFV.o];rfl,HXR.o⟩
end
section
open Go.RowKit Go.Maps
theorem Z5 {w w':World}{cs:Array Value}{t:TypeId}(h:Ext (w.alloc (.cells cs t)) w')(i:Nat){v:Value}(hv:cs[i]?=some v):w'.cell? ⟨w.heap.size,i,none⟩=some v:=by have hb:(w.alloc (.cells cs t)).heap[w.heap.size]?=some (.cells cs t (0,0)):=heap_alloc_new w _;exact h.cell (by rw [cell_of_row _ _ i _ _ _ hb];exact hv)
theorem Xb:(Tryz.prog.info? 151).map (fun i=>(i.zero,i.size,i.bytes))=some (some (.pointer none),1,8):=by kernel_rfl
end
end
section
open Go.RowKit
structure LsV where
 s:Int
 i:Int
 kd:Int
 m:Int
 k:Int
 n:Int
 f:Int
 c:Int
 r:Bool
def LsV.cells (l:LsV):List Value:=[.int .i64 l.s,.int .i64 l.i,.int .i64 l.kd,.int .i64 l.m,.int .i64 l.k,.int .i64 l.n,.int .i64 l.f,.int .i64 l.c,.bool l.r]
theorem kN (B:Nat)(ss ii:Int)(sv dv:Value)(fl:Bool)(ah:Int)(kn:Bool)(w:World)(h:DealAt w B sv (.slice none 0 0) dv fl ah kn) :
  Calls Tryz.prog 165 #[.pointer (some ⟨B,0,none⟩),.int .i64 ss,.int .i64 ii] w fun e w'=>e=.returned (.pointer none)/\w=w':=by
 obtain⟨c0,c1,_⟩:=h.cells;have hB:=h.lt;clear h;go_enter func165,ntmps165;go_wp2
 go_loopw [14] (fun i wr=>i=.int .i64 0/\wr=w) (fun _ _=>0)
 case atStart=>exact⟨rfl,rfl⟩
 case round=>
  obtain⟨rfl,rfl⟩:=hrel;go_wp2;go_ret;exact⟨rfl,rfl⟩
end
section
open Go.RowKit
theorem KR (w : World) : (nilAhead 417 283 (.agg #[]) "dealer/triple.plus").run Tryz.prog w = .ok (some false) w := by kernel_rfl
theorem kw (w : World) : (nilAhead 417 283 (.agg #[]) "dealer/triple.times").run Tryz.prog w = .ok (some false) w := by kernel_rfl
theorem gr (b off cap b2 off2 cap2 p m k n la lb:Nat)(zs ys:List Int)(hla:la=m*k)(hlb:lb=k*n)(hn:zs.length=la)(hn2:ys.length=lb)(hm:m<=3)(hk:k<=3)(hnn:n<=3)(w:World)(hz:WordsAt w b off zs)(hy:WordsAt w b2 off2 ys) :
  Calls Tryz.prog 174 #[.iface 283 (.agg #[]),.agg #[.int .i64 p,.int .i64 m,.int .i64 k,.int .i64 n],.slice (some ⟨b,off,none⟩) la cap,.slice (some ⟨b2,off2,none⟩) lb cap2] w fun e w'=>
   ∃v,e=.returned v/\w'.ownsRow w.heap.size 146 1 v (m*n) ((Y0 true zs ys k n m).map (Value.int .u64))/\Ext w w':=by
 obtain⟨i0,hi,hz0,hz1,hz2⟩:=info_parts ZS;have HZ:=hid hz;have HY:=hid hy;have HN:=hid hn;have HN2:=hid hn2;have HLA:=hid hla;have HLB:=hid hlb;have hm1:=Ku;have hm2:=kI;have hnw:=KR;have hnt:=kw;clear hz hy hn hn2 hla hlb;go_enter func174,ntmps174;go_wp2;generalize hW:lP w _=W;have hxW:Ext w W:=hW▸(lI w).alloc _;have hb:W.heap[w.heap.size]?=some (.cells #[.int .i64 p,.int .i64 m,.int .i64 k,.int .i64 n] 240):=by rw [<-hW];exact heap_alloc_new w _
 have hs1:W.cell? ⟨w.heap.size,1,none⟩=some (.int .i64 m):=by rw [cell_of_row W _ 1 _ _ _ hb];rfl
 have hs2:W.cell? ⟨w.heap.size,2,none⟩=some (.int .i64 k):=by rw [cell_of_row W _ 2 _ _ _ hb];rfl
 have hs3:W.cell? ⟨w.heap.size,3,none⟩=some (.int .i64 n):=by rw [cell_of_row W _ 3 _ _ _ hb];rfl
 clear hb;have HXW:=hid hxW;clear hxW hW
 go_loopw [9,16] (fun u i wr=>∃r:Nat,r<=m/\i=.int .i64 r/\wr.ownsRow W.heap.size 146 1 u (r*n) ((Y0 true zs ys k n r).map (Value.int .u64))/\Ext W wr) (fun _ i _=>m - (intOf i).toNat)
 case atStart=>exact⟨0,lT _,rfl,by rw [Nat.zero_mul];exact rB _ _ _ _,lI _⟩
 case round=>
  obtain⟨r,hr,rfl,ho,hx⟩:=hrel;have HO:Hd _:=ho;clear ho;by_cases hlt:r<m
  ·have f1:=hx.cell hs1;have f2:=hx.cell hs2;have f3:=hx.cell hs3;have g1:=rN hr (lO n);have hrk:=rN (show r<=2 by omega) hk;go_wp2
   go_loopw [9,21] (fun u i ws=>∃c:Nat,c<=n/\i=.int .i64 c/\ws.ownsRow W.heap.size 146 1 u (r*n+c) ((Y0 true zs ys k n r++xM true zs ys k n r c).map (Value.int .u64))/\Ext W ws) (fun _ i _=>n - (intOf i).toNat)
   case atStart=>exact⟨0,lT _,rfl,by rw [show xM true zs ys k n r 0=[] from rfl,rL];exact HO.o,hx⟩
   case round=>
    clear f1 f2 f3 HO hx;obtain⟨c,hc,rfl,ho,hx⟩:=hrel
    rename World=>W2
    have hlow:=fun q hq=>(lR.lt ho q hq).1
    have HO:Hd _:=ho;clear ho;by_cases hlc:c<n
    ·have f2:=hx.cell hs2;have f3:=hx.cell hs3;go_wp2
     go_loopw [12,26] (fun u i wt=>∃q:Nat,q<=k/\i=.int .i64 q/\u=.int .u64 (qz true zs ys k n r c q)/\Ext W2 wt) (fun _ i _=>k - (intOf i).toNat)
     case atStart=>exact⟨0,lT _,rfl,rfl,lI _⟩
     case round=>
      obtain⟨q,hq,rfl,rfl,hx3⟩:=hrel;by_cases hlq:q<k
      ·have e0w:=(HXW.o.trans hx).cell (HZ.o (r*k+q) (by rw [HN.o,HLA.o];exact Zj hlt hlq));have e1w:=(HXW.o.trans hx).cell (HY.o (q*n+c) (by rw [HN2.o,HLB.o];exact Zj hlq hlc));have b0:r*k+q<la:=by rw [HLA.o];exact Zj hlt hlq
       have b1:q*n+c<lb:=by rw [HLB.o];exact Zj hlq hlc
       have hqn:=rN (show q<=2 by omega) hnn;have v1:IntKind.i64.wrap ((r:Int)*(k:Int))=((r*k:Nat):Int):=by rw [<-rQ];exact zt (by omega)
       have v2:IntKind.i64.wrap ((q:Int)*(n:Int))=((q*n:Nat):Int):=by rw [<-rQ];exact zt (by omega)
       have hD:qz true zs ys k n r c (q+1)=xA true (qz true zs ys k n r c q) (qG true (zs.getD (r*k+q) 0) (ys.getD (q*n+c) 0)):=rfl;generalize hzk:zs.getD (r*k+q) 0=z at *;generalize hyk:ys.getD (q*n+c) 0=y at *;generalize hdd:qz true zs ys k n r c q=dd at *;generalize r*k=rk at *;generalize q*n=qn at *;have s1:(rk:Int)+(q:Int)=((rk+q:Nat):Int):=by omega
       have s2:(qn:Int)+(c:Int)=((qn+c:Nat):Int):=by omega
       have v3:IntKind.i64.wrap ((rk:Int)+(q:Int))=((rk+q:Nat):Int):=by rw [s1];exact zt (by omega)
       have v4:IntKind.i64.wrap ((qn:Int)+(c:Int))=((qn+c:Nat):Int):=by rw [s2];exact zt (by omega)
       generalize hx1:rk+q=x1 at *;generalize hx2:qn+c=x2 at *;clear s1 s2 hx1 hx2 hrk hqn g1;have d0:(0:Int)<=(x1:Int):=by omega
       have d1:(x1:Int)<la:=by omega
       have d2:(0:Int)<=(x2:Int):=by omega
       have d3:(x2:Int)<lb:=by omega
       have j1:=hx3.cell f2;have j2:=hx3.cell f3;have j3:=hx3.cell e0w;have j4:=hx3.cell e1w;go_wp2
       go_region_held3 (fun w'=>(w'.cell? ⟨w.heap.size,2,none⟩=some (.int .i64 k)/\w'.cell? ⟨w.heap.size,3,none⟩=some (.int .i64 n)/\w'.cell? ⟨b,off+x1,none⟩=some (.int .u64 z)/\w'.cell? ⟨b2,off2+x2,none⟩=some (.int .u64 y))/\Ext W2 w')
        ((refine yp f2 f3 e0w e1w ?_;(repeat (first|with_reducible exact lI _|with_reducible assumption|with_reducible refine lJ ?_|with_reducible refine lK ?_ _|with_reducible (apply lY;assumption)));done))
        (first
          | (go_at_call 229;refine(ux _ _ _).mono ?_;rintro e w1 ⟨rfl,hx4⟩)
          | (go_at_call 228;refine(UQ _ _ _).mono ?_;rintro e w2 ⟨rfl,hx5⟩))
       all_goals (go_wp2;go_roundw)
       all_goals first
        | (refine⟨q+1,by omega,by go_num,by rw [hD],?_⟩;(repeat (first|with_reducible exact lI _|with_reducible assumption|with_reducible refine lJ ?_|with_reducible refine lK ?_ _|with_reducible (apply lY;assumption)));done)
        | (simp [intOf];omega)
      ·obtain rfl:q=k:=by omega
       have hxx:Ext W _:=hx.trans hx3;have ho2:=rE hx3 HO.o;have hbase:=hxx.le;go_wp2_with (at_builtin;refine wpList_append_own _ rfl _ _ 31 rfl W.heap.size 146 i0 (.int .u64 0) 1 8 underlying31 hi hz0 hz1 hz2 rfl (by decide) _ _ _ rfl (lR.alloc ho2 _) ⟨_,0,none⟩ 1 1 [.int .u64 (qz true zs ys q n r c q)] rfl rfl ?c1 ?c2 ?c3 ?c4 ?c5 ?_)
       case c1=>exact cell_one_new _ _ _
       case c2=>intro u hu;simp at hu;subst hu;rfl
       case c3=>have:=rN (show r<=3 by omega) hnn;unfold maxLen;omega
       case c4=>have:=rN (show r<=3 by omega) hnn;omega
       case c5=>simp;omega
       ·intro v' w1 hown' hgrow _;have R:w1.ownsRow W.heap.size 146 1 v' (r*n+(c+1)) ((Y0 true zs ys q n r++xM true zs ys q n r (c+1)).map (Value.int .u64)):=by
         rw [Vi,rY,rY,<-Nat.add_assoc];exact hown'
        have R2:Ext W w1:=rG (hxx.alloc _) hgrow hlow;clear hown' hgrow;go_wp2
        go_roundw
        case rel=>exact⟨c+1,by omega,by go_num,R,R2⟩
        case measure=>simp [intOf];omega
    ·obtain rfl:c=n:=by omega
     have R:lR W2 W.heap.size 146 1 u9 ((r+1)*c) ((Y0 true zs ys k c (r+1)).map (Value.int .u64)):=by rw [Q1,rO,Nat.one_mul];exact HO.o
     go_wp2
     go_roundw
     case rel=>exact⟨r+1,by omega,by go_num,R,hx⟩
     case measure=>simp [intOf];omega
  ·obtain rfl:r=m:=by omega
   go_wp2;go_ret;exact⟨_,rfl,zv HO.o HXW.o.le,HXW.o.trans hx⟩
end
end Go.Proofs.YtmnjhhachdlmkaaGreat
