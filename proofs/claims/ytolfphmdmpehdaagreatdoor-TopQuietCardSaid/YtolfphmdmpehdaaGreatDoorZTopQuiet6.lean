/- fight.target's three functions; cmp.Or of two numbers. And more. -/
import Derived.Test.YtolfphmdmpehdaaGreatDoorZTopQuiet5
set_option linter.unusedVariables false
set_option maxHeartbeats 16000000
set_option maxRecDepth 100000
open Go.Value (int slice)
open Go.IntKind (i64)
namespace Go.Proofs.YtolfphmdmpehdaaGreatDoor
open Go.RowKit
theorem Nu(x y:Int)(b:Nat)(w:World)(h0:w.cell? ⟨b,0,none⟩=some (int i64 x))(h1:w.cell? ⟨b,1,none⟩=some (int i64 y)):
  Calls Tryz.prog 187 #[slice (some ⟨b,0,none⟩) 2 2] w λe w'=>e=.returned (int i64 (if x=0 then y else x))/\w'=w:=by
 by_cases hx:x=0
 ·subst hx
  by_cases hy:y=0
  ·subst hy
   go_enter Tryz.func187,Tryz.ntmps187;go_wp2;refine wp_loop_rounds 3 ?_;rw[rounds_succ];go_wp2;rw[rounds_succ];go_wp2;rw[rounds_succ];go_wp2;go_ret;exact⟨rfl,rfl⟩
  ·have hyb:=beq_eq_false_iff_ne.2 hy
   go_enter Tryz.func187,Tryz.ntmps187;go_wp2;refine wp_loop_rounds 2 ?_;rw[rounds_succ];go_wp2;rw[rounds_succ];go_wp2;go_ret;exact⟨by simp,rfl⟩
 ·have hxb:=beq_eq_false_iff_ne.2 hx
  go_enter Tryz.func187,Tryz.ntmps187;go_wp2;refine wp_loop_rounds 1 ?_;rw[rounds_succ];go_wp2;go_ret;exact⟨by simp,rfl⟩
def yD(u:aC):Prop:=0<=u.at_/\u.at_<=144
structure Tb(w:World)(bw bu:Nat)(X:WV)(u1 u2 u3 u4 u5:Value)(u:aC):Prop where
 x:Bw w bw X u1 u2 u3 u4 u5
 u:dB w ⟨bu,0,none⟩ u
theorem Tb.below{w V:World}{bw bu n:Nat}{X:WV}{u1 u2 u3 u4 u5:Value}{u:aC}(h:Tb w bw bu X u1 u2 u3 u4 u5 u)(hb:Below n w V)(h1:bw<n)(h2:bu<n):Tb V bw bu X u1 u2 u3 u4 u5 u:=
 ⟨h.x.below hb h1,h.u.below hb h2⟩
theorem yE(X:WV)(u o:aC)(Wn bw bu:Nat)(u1 u2 u3 u4 u5:Value)(w:World)(hT:Tb w bw bu X u1 u2 u3 u4 u5 u)(hW:X.wide=(Wn:Nat))(h1:0<Wn)(h2:Wn<=12)(hu:yD u)(ho:yD o):
  Calls Tryz.prog 201 #[o.val,.pointer (some ⟨bw,0,none⟩),.pointer (some ⟨bu,0,none⟩)] w λe w'=>e=.returned (int i64 (jr Wn u o))/\Below w.heap.size w w':=by
 obtain⟨an,han⟩:∃n:Nat,u.at_=n:=⟨u.at_.toNat,by have:=hu.1;omega⟩;obtain⟨cn,hcn⟩:∃n:Nat,o.at_=n:=⟨o.at_.toNat,by have:=ho.1;omega⟩;have FU:Hid (jr Wn u o=pJ Wn an cn):=by unfold Hid jr;rw[han,hcn];rfl
 have LL:Hid (0<Wn/\Wn<=12/\an<=144/\cn<=144):=⟨h1,h2,by have:=hu.2;omega,by have:=ho.2;omega⟩;have HE:=aj (iG han hcn hW);have T0:=aj (hT);have B0:Hid (Below _ w (w.alloc (Obj.cells #[int i64 o.id,int i64 o.aA,int i64 o.kind,int i64 o.at_,int i64 o.life,int i64 o.load,int i64 o.task,int i64 o.goal] 74))):=(Below.refl _ _).alloc (Nat.le_refl _) _;have O0:Hid (dB _ ⟨w.heap.size,0,none⟩ o):=dB.mk' o rfl;clear hT han hcn hW h1 h2 hu ho;unfold aC.val;go_enter Tryz.func201,Tryz.ntmps201;go_upto_region 1 with fail
 generalize (w.alloc _)=w0 at *;have T1:=T0.out.below B0.out T0.out.x.lt T0.out.u.lt;obtain⟨x0,x1,x2,x3,x4,x5,x6,x7,x8⟩:=T1.x;obtain⟨y0,y1,y2,y3,y4,y5,y6,y7⟩:=T1.u;obtain⟨q0,q1,q2,q3,q4,q5,q6,q7⟩:=O0.out;rw[HE.out.1] at y3;rw[HE.out.2.1] at q3;rw[HE.out.2.2] at x2;clear T1;go_wp2_with fail
 refine(Du _ _ _ Wn an cn w0 LL.out.1 LL.out.2.1 LL.out.2.2.1 LL.out.2.2.2).mono ?_;rintro e w1 ⟨rfl,hb⟩;have B1:=aj (B0.out.trans (hb.mono B0.out.size));clear hb x0 x1 x2 x3 x4 x5 x6 x7 x8 y0 y1 y2 y3 y4 y5 y6 y7 q0 q1 q2 q3 q4 q5 q6 q7;obtain⟨f,hf⟩:∃f,pJ Wn an cn=f:=⟨_,rfl⟩;rw[hf] at FU ⊢;clear hf;go_wp2;go_ret;exact⟨by rw[FU.out];rfl,B1.out⟩
theorem Nv(X:WV)(u o:aC)(Wn bw bu bf bk:Nat)(rng:Int)(u1 u2 u3 u4 u5:Value)(w:World)(hT:Tb w bw bu X u1 u2 u3 u4 u5 u)(hF:w.cell? ⟨bf,0,none⟩=some (.func (Fn.func 201) #[] #[.pointer (some ⟨bw,0,none⟩),.pointer (some ⟨bu,0,none⟩)]))(hK:w.cell? ⟨bk,3,none⟩=some (int i64 rng))(hW:X.wide=(Wn:Nat))(h1:0<Wn)(h2:Wn<=12)(hu:yD u)(ho:yD o):
  Calls Tryz.prog 203 #[o.val,.pointer (some ⟨bu,0,none⟩),.pointer (some ⟨bf,0,none⟩),.pointer (some ⟨bk,0,none⟩)] w λe w'=>e=.returned (.bool (lS Wn u rng o))/\Below w.heap.size w w':=by
 have T0:=aj (hT);have GG:Hid (X.wide=(Wn:Nat)/\0<Wn/\Wn<=12/\yD u/\yD o):=⟨hW,h1,h2,hu,ho⟩;have CF:=aj (jD hF hK (cell_lt hF) (cell_lt hK));have B0:Hid (Below _ w (w.alloc (Obj.cells #[int i64 o.id,int i64 o.aA,int i64 o.kind,int i64 o.at_,int i64 o.life,int i64 o.load,int i64 o.task,int i64 o.goal] 74))):=(Below.refl _ _).alloc (Nat.le_refl _) _;have O0:Hid (dB _ ⟨w.heap.size,0,none⟩ o):=dB.mk' o rfl;have CB:Hid (∀V,Below w.heap.size w V->dB V ⟨w.heap.size,0,none⟩ o->(V.cell? ⟨w.heap.size,1,none⟩=some (int i64 o.aA)/\V.cell? ⟨bu,1,none⟩=some (int i64 u.aA)/\V.cell? ⟨bf,0,none⟩=some (.func (Fn.func 201) #[] #[.pointer (some ⟨bw,0,none⟩),.pointer (some ⟨bu,0,none⟩)])/\V.cell? ⟨bk,3,none⟩=some (int i64 rng)/\dB V ⟨w.heap.size,0,none⟩ o/\Tb V bw bu X u1 u2 u3 u4 u5 u)):=λV hb h0=>
  ⟨by have:=h0.c1;rw[Nat.zero_add] at this;exact this,by have:=(T0.out.u.below hb T0.out.u.lt).c1;rw[Nat.zero_add] at this;exact this,by rw[hb.cell (p:=⟨bf,0,none⟩) CF.out.2.2.1];exact CF.out.1,by rw[hb.cell (p:=⟨bk,3,none⟩) CF.out.2.2.2];exact CF.out.2.1,h0,T0.out.below hb T0.out.x.lt T0.out.u.lt⟩
 clear hT hF hK hW h1 h2 hu ho;unfold aC.val;go_enter Tryz.func203,Tryz.ntmps203;go_upto_region 1 with fail
 generalize (w.alloc _)=w0 at *;by_cases hp:o.aA=u.aA
 ·have S1:Hid (lS Wn u rng o=true):=by unfold Hid lS;rw[hp];simp
  obtain⟨d1,d2,d3,d4,⟨q0,q1,q2,q3,q4,q5,q6,q7⟩,-⟩:=CB.out w0 B0.out O0.out;rw[hp] at d1 q1;go_quiet (fail);go_wp2;go_ret;exact⟨by rw[S1.out];rfl,⟨B0.out.os,B0.out.tape,B0.out.output,B0.out.size,B0.out.block⟩⟩
 ·have hp':(o.aA==u.aA)=false:=by rw[beq_eq_false_iff_ne];exact hp
  have S1:Hid (lS Wn u rng o=decide (rng<jr Wn u o)):=by unfold Hid lS;rw[hp'];rfl
  clear hp;refine aH [(true,0),(true,1),(true,2),(true,3),(true,4),(true,5),(true,6),(true,7),(true,9),(true,10),(false,8)] [(true,11),(true,12),(false,13)] (λV=>(V.cell? _=some _/\V.cell? _=some _/\V.cell? _=some _/\V.cell? _=some _/\dB V _ o/\Tb V bw bu X u1 u2 u3 u4 u5 u)) (by kernel_rfl) (by kernel_rfl) (by kernel_rfl) (by decide+kernel) (by decide+kernel) (CB.out _ B0.out.drew (O0.out.below ((Below.refl _ _).drew) O0.out.lt)) ?_;have B1:Hid (Below _ w {w0 with drawn:=w0.drawn+1}):=B0.out.drew;have O1:Hid (dB {w0 with drawn:=w0.drawn+1} _ o):=O0.out.below ((Below.refl _ _).drew) O0.out.lt;generalize ({w0 with drawn:=w0.drawn+1}:World)=w1 at *;clear B0 O0;refine ay rfl (.pointer (some ⟨w.heap.size,1,none⟩)) (by go_simp) (λV hV=>by go_simp) ?_;go_simp;refine ay rfl (int i64 o.aA) (by go_simp) (λV hV=>by obtain⟨d1,d2,d3,d4,⟨q0,q1,q2,q3,q4,q5,q6,q7⟩,-⟩:=hV;go_simp) ?_;go_simp;refine ay rfl (.pointer (some ⟨bu,1,none⟩)) (by go_simp) (λV hV=>by go_simp) ?_;go_simp;refine ay rfl (int i64 u.aA) (by go_simp) (λV hV=>by obtain⟨d1,d2,d3,d4,⟨q0,q1,q2,q3,q4,q5,q6,q7⟩,-⟩:=hV;go_simp) ?_;go_simp;refine ay rfl (.bool false) (by go_simp) (λV hV=>by go_simp) ?_;go_simp;refine ay rfl (.bool false) (by go_simp) (λV hV=>by go_simp) ?_;go_simp;refine ay rfl (.func (Fn.func 201) #[] #[.pointer (some ⟨bw,0,none⟩),.pointer (some ⟨bu,0,none⟩)]) (by go_simp) (λV hV=>by obtain⟨d1,d2,d3,d4,⟨q0,q1,q2,q3,q4,q5,q6,q7⟩,-⟩:=hV;go_simp) ?_;go_simp;refine ay rfl (.agg #[int i64 o.id,int i64 o.aA,int i64 o.kind,int i64 o.at_,int i64 o.life,int i64 o.load,int i64 o.task,int i64 o.goal]) (by go_simp) (λV hV=>by obtain⟨d1,d2,d3,d4,⟨q0,q1,q2,q3,q4,q5,q6,q7⟩,-⟩:=hV;go_simp) ?_;go_simp;refine ay rfl (.pointer (some ⟨bk,3,none⟩)) (by go_simp) (λV hV=>by go_simp) ?_;go_simp;refine ay rfl (int i64 rng) (by go_simp) (λV hV=>by obtain⟨d1,d2,d3,d4,⟨q0,q1,q2,q3,q4,q5,q6,q7⟩,-⟩:=hV;go_simp) ?_;go_simp;refine bF rfl 201 (#[o.val]++ #[.pointer (some ⟨bw,0,none⟩),.pointer (some ⟨bu,0,none⟩)]) (by go_simp) (by go_simp;rfl) ?_;refine(yE X u o Wn bw bu _ _ _ _ _ w1 (T0.out.below B1.out T0.out.x.lt T0.out.u.lt) GG.out.1 GG.out.2.1 GG.out.2.2.1 GG.out.2.2.2.1 GG.out.2.2.2.2).mono ?_;rintro e w2 ⟨rfl,hb⟩;have B2:=aj (B1.out.trans (hb.mono B1.out.size));refine⟨_,rfl,CB.out _ B2.out (O1.out.below hb O1.out.lt),?_⟩;clear hb B1 O1;go_simp;obtain⟨t,ht⟩:∃t,jr Wn u o=t:=⟨_,rfl⟩;rw[ht] at S1 ⊢;clear ht;refine bY rfl (.bool (decide (rng<t))) (by go_simp) (λV hV=>by go_simp) ?_;go_simp;refine bY rfl (.bool (decide (rng<t))) (by go_simp) (λV hV=>by go_simp) ?_;go_simp;refine aN rfl (.bool (decide (rng<t))) w2 (by go_simp) (by go_simp) trivial ?_;go_simp;unfold aP;go_wp2;go_ret;exact⟨by rw[S1.out];rfl,B2.out⟩
theorem Nw(X:WV)(u a b:aC)(Wn bw bu bf:Nat)(u1 u2 u3 u4 u5:Value)(w:World)(hT:Tb w bw bu X u1 u2 u3 u4 u5 u)(hF:w.cell? ⟨bf,0,none⟩=some (.func (Fn.func 201) #[] #[.pointer (some ⟨bw,0,none⟩),.pointer (some ⟨bu,0,none⟩)]))(hW:X.wide=(Wn:Nat))(h1:0<Wn)(h2:Wn<=12)(hu:yD u)(ha:yD a)(hb:yD b)(la:0<=a.life/\a.life<=1000000)(lb:0<=b.life/\b.life<=1000000):
  Calls Tryz.prog 205 #[a.val,b.val,.pointer (some ⟨bf,0,none⟩)] w λe w'=>e=.returned (int i64 (pO Wn u a b))/\Below w.heap.size w w':=by
 have T0:=aj (hT);have GG:=aj (uG hW h1 h2 hu ha hb);have CF:=aj (eU hF (cell_lt hF));have wl:IntKind.i64.wrap (a.life-b.life)=a.life-b.life:=by rw[IntKind.wrap_i64];omega
 have wf:IntKind.i64.wrap (jr Wn u a-jr Wn u b)=jr Wn u a-jr Wn u b:=by
  have g1:=nO Wn u.at_.toNat a.at_.toNat;have g2:=nO Wn u.at_.toNat b.at_.toNat;unfold jr;rw[IntKind.wrap_i64];omega
 have B0:Hid (Below w.heap.size w ((w.alloc (Obj.cells #[int i64 a.id,int i64 a.aA,int i64 a.kind,int i64 a.at_,int i64 a.life,int i64 a.load,int i64 a.task,int i64 a.goal] 74)).alloc (Obj.cells #[int i64 b.id,int i64 b.aA,int i64 b.kind,int i64 b.at_,int i64 b.life,int i64 b.load,int i64 b.task,int i64 b.goal] 74))):=((Below.refl _ _).alloc (Nat.le_refl _) _).alloc (by simp) _;have A0:Hid (dB ((w.alloc (Obj.cells #[int i64 a.id,int i64 a.aA,int i64 a.kind,int i64 a.at_,int i64 a.life,int i64 a.load,int i64 a.task,int i64 a.goal] 74)).alloc (Obj.cells #[int i64 b.id,int i64 b.aA,int i64 b.kind,int i64 b.at_,int i64 b.life,int i64 b.load,int i64 b.task,int i64 b.goal] 74)) ⟨w.heap.size,0,none⟩ a):=(dB.mk' a rfl).below ((Below.refl _ _).alloc (Nat.le_refl _) _) (by simp);have V0:Hid (dB ((w.alloc (Obj.cells #[int i64 a.id,int i64 a.aA,int i64 a.kind,int i64 a.at_,int i64 a.life,int i64 a.load,int i64 a.task,int i64 a.goal] 74)).alloc (Obj.cells #[int i64 b.id,int i64 b.aA,int i64 b.kind,int i64 b.at_,int i64 b.life,int i64 b.load,int i64 b.task,int i64 b.goal] 74)) ⟨w.heap.size+1,0,none⟩ b):=dB.mk' b (by simp);have CB:Hid (∀V,Below w.heap.size w V->dB V ⟨w.heap.size,0,none⟩ a->dB V ⟨w.heap.size+1,0,none⟩ b->(V.cell? ⟨bf,0,none⟩=some (.func (Fn.func 201) #[] #[.pointer (some ⟨bw,0,none⟩),.pointer (some ⟨bu,0,none⟩)])/\dB V ⟨w.heap.size,0,none⟩ a/\dB V ⟨w.heap.size+1,0,none⟩ b/\V.cell? ⟨w.heap.size,4,none⟩=some (int i64 a.life)/\V.cell? ⟨w.heap.size+1,4,none⟩=some (int i64 b.life))):=λV hb h0 h1=>
  ⟨by rw[hb.cell (p:=⟨bf,0,none⟩) CF.out.2];exact CF.out.1,h0,h1,by have:=h0.c4;rw[Nat.zero_add] at this;exact this,by have:=h1.c4;rw[Nat.zero_add] at this;exact this⟩
 clear hT hF hW h1 h2 hu ha hb la lb;unfold aC.val;go_enter Tryz.func205,Tryz.ntmps205;go_upto_region 1 with fail
 generalize ((w.alloc _).alloc _)=w0 at *;refine aH [(true,0),(true,1),(true,3),(true,4),(true,7),(true,8),(true,9),(true,10),(true,11),(false,2),(false,5),(true,6),(false,12),(false,13)] [(false,14)] (λV=>(V.cell? _=some _/\dB V _ a/\dB V _ b/\V.cell? _=some _/\V.cell? _=some _)) (by kernel_rfl) (by kernel_rfl) (by kernel_rfl) (by decide+kernel) (by decide+kernel) (CB.out _ B0.out.drew (A0.out.below ((Below.refl _ _).drew) A0.out.lt) (V0.out.below ((Below.refl _ _).drew) V0.out.lt)) ?_;have B1:Hid (Below _ w {w0 with drawn:=w0.drawn+1}):=B0.out.drew;have A1:Hid (dB {w0 with drawn:=w0.drawn+1} _ a):=A0.out.below ((Below.refl _ _).drew) A0.out.lt;have V1:Hid (dB {w0 with drawn:=w0.drawn+1} _ b):=V0.out.below ((Below.refl _ _).drew) V0.out.lt;generalize ({w0 with drawn:=w0.drawn+1}:World)=w1 at *;clear B0 A0 V0;refine ay rfl (.func (Fn.func 201) #[] #[.pointer (some ⟨bw,0,none⟩),.pointer (some ⟨bu,0,none⟩)]) (by go_simp) (λV hV=>by obtain⟨d1,⟨q0,q1,q2,q3,q4,q5,q6,q7⟩,⟨r0,r1,r2,r3,r4,r5,r6,r7⟩,d2,d3⟩:=hV;go_simp) ?_;go_simp;refine ay rfl (.agg #[int i64 a.id,int i64 a.aA,int i64 a.kind,int i64 a.at_,int i64 a.life,int i64 a.load,int i64 a.task,int i64 a.goal]) (by go_simp) (λV hV=>by obtain⟨d1,⟨q0,q1,q2,q3,q4,q5,q6,q7⟩,⟨r0,r1,r2,r3,r4,r5,r6,r7⟩,d2,d3⟩:=hV;go_simp) ?_;go_simp;refine ay rfl (.func (Fn.func 201) #[] #[.pointer (some ⟨bw,0,none⟩),.pointer (some ⟨bu,0,none⟩)]) (by go_simp) (λV hV=>by obtain⟨d1,⟨q0,q1,q2,q3,q4,q5,q6,q7⟩,⟨r0,r1,r2,r3,r4,r5,r6,r7⟩,d2,d3⟩:=hV;go_simp) ?_;go_simp;refine ay rfl (.agg #[int i64 b.id,int i64 b.aA,int i64 b.kind,int i64 b.at_,int i64 b.life,int i64 b.load,int i64 b.task,int i64 b.goal]) (by go_simp) (λV hV=>by obtain⟨d1,⟨q0,q1,q2,q3,q4,q5,q6,q7⟩,⟨r0,r1,r2,r3,r4,r5,r6,r7⟩,d2,d3⟩:=hV;go_simp) ?_;go_simp;refine ay rfl (.pointer (some ⟨w.heap.size,4,none⟩)) (by go_simp) (λV hV=>by go_simp) ?_;go_simp;refine ay rfl (int i64 a.life) (by go_simp) (λV hV=>by obtain⟨d1,⟨q0,q1,q2,q3,q4,q5,q6,q7⟩,⟨r0,r1,r2,r3,r4,r5,r6,r7⟩,d2,d3⟩:=hV;go_simp) ?_;go_simp;refine ay rfl (.pointer (some ⟨w.heap.size+1,4,none⟩)) (by go_simp) (λV hV=>by go_simp) ?_;go_simp;refine ay rfl (int i64 b.life) (by go_simp) (λV hV=>by obtain⟨d1,⟨q0,q1,q2,q3,q4,q5,q6,q7⟩,⟨r0,r1,r2,r3,r4,r5,r6,r7⟩,d2,d3⟩:=hV;go_simp) ?_;go_simp;refine ay rfl (int i64 (a.life-b.life)) (by go_simp) (λV hV=>by go_simp) ?_;go_simp;refine bF rfl 201 (#[a.val]++ #[.pointer (some ⟨bw,0,none⟩),.pointer (some ⟨bu,0,none⟩)]) (by go_simp) (by go_simp;rfl) ?_;refine(yE X u a Wn bw bu _ _ _ _ _ w1 (T0.out.below B1.out T0.out.x.lt T0.out.u.lt) GG.out.1 GG.out.2.1 GG.out.2.2.1 GG.out.2.2.2.1 GG.out.2.2.2.2.1).mono ?_;rintro e w2 ⟨rfl,hb⟩;have B2:=aj (B1.out.trans (hb.mono B1.out.size));have A2:=aj (A1.out.below hb A1.out.lt);have V2:=aj (V1.out.below hb V1.out.lt);refine⟨_,rfl,CB.out _ B2.out A2.out V2.out,?_⟩;clear hb B1 A1 V1;go_simp;refine bF rfl 201 (#[b.val]++ #[.pointer (some ⟨bw,0,none⟩),.pointer (some ⟨bu,0,none⟩)]) (by go_simp) (by go_simp;rfl) ?_;refine(yE X u b Wn bw bu _ _ _ _ _ w2 (T0.out.below B2.out T0.out.x.lt T0.out.u.lt) GG.out.1 GG.out.2.1 GG.out.2.2.1 GG.out.2.2.2.1 GG.out.2.2.2.2.2).mono ?_;rintro e w3 ⟨rfl,hb⟩;have B3:=aj (B2.out.trans (hb.mono B2.out.size));have A3:=aj (A2.out.below hb A2.out.lt);have V3:=aj (V2.out.below hb V2.out.lt);refine⟨_,rfl,CB.out _ B3.out A3.out V3.out,?_⟩;clear hb B2 A2 V2;go_simp;obtain⟨fa,hfa⟩:∃t,jr Wn u a=t:=⟨_,rfl⟩;obtain⟨fb,hfb⟩:∃t,jr Wn u b=t:=⟨_,rfl⟩;have SO:Hid (pO Wn u a b=if fa-fb=0 then a.life-b.life else fa-fb):=by unfold Hid pO;rw[hfa,hfb]
 rw[hfa,hfb] at wf;rw[hfa,hfb];clear hfa hfb;refine ay rfl (int i64 (fa-fb)) (by go_simp) (λV hV=>by go_simp) ?_;go_simp;have BA:Hid (Below _ w3 (w3.alloc (Obj.cells #[int i64 (fa-fb),int i64 (a.life-b.life)] 3))):=(Below.refl _ _).alloc (Nat.le_refl _) _;have s0:(w3.alloc (Obj.cells #[int i64 (fa-fb),int i64 (a.life-b.life)] 3)).cell? ⟨w3.heap.size,0,none⟩=some (int i64 (fa-fb)):=by simp
 have s1:(w3.alloc (Obj.cells #[int i64 (fa-fb),int i64 (a.life-b.life)] 3)).cell? ⟨w3.heap.size,1,none⟩=some (int i64 (a.life-b.life)):=by simp
 refine dw rfl (slice (some ⟨w3.heap.size,0,none⟩) 2 2) _ (by go_simp) (by go_simp) (CB.out _ (B3.out.trans (BA.out.mono B3.out.size)) (A3.out.below BA.out A3.out.lt) (V3.out.below BA.out V3.out.lt)) ?_;go_simp;generalize (w3.alloc _)=w4 at *;have B4:=aj (B3.out.trans (BA.out.mono B3.out.size));have A4:=aj (A3.out.below BA.out A3.out.lt);have V4:=aj (V3.out.below BA.out V3.out.lt);refine bF rfl 187 #[slice (some ⟨w3.heap.size,0,none⟩) 2 2] (by go_simp) (by go_simp) ?_;refine(Nu _ _ _ w4 s0 s1).mono ?_;rintro e w5 ⟨rfl,rfl⟩;refine⟨_,rfl,CB.out _ B4.out A4.out V4.out,?_⟩;rw[<-SO.out];obtain⟨t,ht⟩:∃t,pO Wn u a b=t:=⟨_,rfl⟩;have ST:=aj (ht);rw[ht];clear ht SO s0 s1 BA;go_simp;refine aN rfl (int i64 t) w5 (by go_simp) (by go_simp) trivial ?_;go_simp;unfold aP;go_wp2;go_ret;exact⟨by rw[ST.out];rfl,B4.out⟩
theorem Jg(m:aC)(W:World):(Instr.field 74 (.agg #[int i64 m.id,int i64 m.aA,int i64 m.kind,int i64 m.at_,int i64 m.life,int i64 m.load,int i64 m.task,int i64 m.goal]) 0).run Tryz.prog W=.ok (int i64 m.id) W:=by kernel_rfl
theorem yF(vk vw:Value)(ks:List KV)(X:WV)(u:aC)(Wn:Nat)(k:KV)(w:World)(hk:Kl w vk ks)(hw:Wl w vw X)(e1:X.wide=(Wn:Nat))(h1:0<Wn)(h2:Wn<=12)(hl:X.us.length<=1000000)
  (hu:yD u) (hk0:0<=u.kind) (hk':ks[u.kind.toNat]? =some k) (hus:∀h∈X.us,yD h/\0<=h.life/\h.life<=1000000):
  Calls Tryz.prog 160 #[vk,vw,u.val] w λe w'=>∃t,e=.returned (int i64 t)/\tq Wn u k X.us t/\Below w.heap.size w w':=by
 obtain⟨kn,hkn⟩:∃n:Nat,u.kind=n:=⟨u.kind.toNat,by omega⟩;have hkk:ks[kn]? =some k:=by rw[hkn,Int.toNat_natCast] at hk';exact hk'
 have hkl:kn<ks.length:=(List.getElem?_eq_some_iff.1 hkk).1;have H:Hid (Wl w vw X):=hw;have GD:Hid (X.wide=(Wn:Nat)/\0<Wn/\Wn<=12/\yD u/\X.us.length<=1000000/\∀h∈X.us,yD h/\0<=h.life/\h.life<=1000000):=⟨e1,h1,h2,hu,hl,hus⟩;obtain⟨p1,q1,p2,q2,p3,q3,p4,q4,p5,q5,rfl⟩:=aV hw;obtain⟨pk,qk,rfl,ck1,ck2,kc⟩:=hk;obtain⟨xk,rfl,hxl,hxc⟩:=kc (by intro h;subst h;simp at hkl);have KK:Hid (Kc w (xk.add (kn*11)) k/\(xk.add (kn*11)).block<w.heap.size):=⟨hxc kn k hkk,by rw[add_block];exact hxl⟩;have HE:Hid (u.kind=(kn:Nat)):=hkn;clear hw e1 h1 h2 hl hu hk0 hk' hus hkn kc hxc hxl hkk;unfold aC.val;go_enter Tryz.func160,Tryz.ntmps160;go_upto_region 1 with fail
 have B0:Hid (Below w.heap.size w ((w.alloc (Obj.cells #[int i64 X.turn,int i64 X.next,int i64 X.wide,int i64 X.high,slice p1 X.gs.length q1,slice p2 X.os.length q2,slice p3 X.gold.length q3,slice p4 X.us.length q4,slice p5 X.qs.length q5] 29)).alloc (Obj.cells #[int i64 u.id,int i64 u.aA,int i64 u.kind,int i64 u.at_,int i64 u.life,int i64 u.load,int i64 u.task,int i64 u.goal] 74))):=((Below.refl _ _).alloc (Nat.le_refl _) _).alloc (by simp) _;have T0:Hid (Tb ((w.alloc (Obj.cells #[int i64 X.turn,int i64 X.next,int i64 X.wide,int i64 X.high,slice p1 X.gs.length q1,slice p2 X.os.length q2,slice p3 X.gold.length q3,slice p4 X.us.length q4,slice p5 X.qs.length q5] 29)).alloc (Obj.cells #[int i64 u.id,int i64 u.aA,int i64 u.kind,int i64 u.at_,int i64 u.life,int i64 u.load,int i64 u.task,int i64 u.goal] 74)) w.heap.size (w.heap.size+1) X (slice p1 X.gs.length q1) (slice p2 X.os.length q2) (slice p3 X.gold.length q3) (slice p4 X.us.length q4) (slice p5 X.qs.length q5) u):=⟨(Bw.mk' X _ _ _ _ _ rfl).below ((Below.refl _ _).alloc (Nat.le_refl _) _) (by simp),dB.mk' u (by simp)⟩;have Z0:Hid (((w.alloc (Obj.cells #[int i64 X.turn,int i64 X.next,int i64 X.wide,int i64 X.high,slice p1 X.gs.length q1,slice p2 X.os.length q2,slice p3 X.gold.length q3,slice p4 X.us.length q4,slice p5 X.qs.length q5] 29)).alloc (Obj.cells #[int i64 u.id,int i64 u.aA,int i64 u.kind,int i64 u.at_,int i64 u.life,int i64 u.load,int i64 u.task,int i64 u.goal] 74)).heap.size=w.heap.size+2):=by unfold Hid;simp
 generalize ((w.alloc (Obj.cells #[int i64 X.turn,int i64 X.next,int i64 X.wide,int i64 X.high,slice p1 X.gs.length q1,slice p2 X.os.length q2,slice p3 X.gold.length q3,slice p4 X.us.length q4,slice p5 X.qs.length q5] 29)).alloc (Obj.cells #[int i64 u.id,int i64 u.aA,int i64 u.kind,int i64 u.at_,int i64 u.life,int i64 u.load,int i64 u.task,int i64 u.goal] 74))=w0 at *;obtain⟨z0,z1,z2,z3,z4,z5,z6,z7,z8,z9,z10⟩:=KK.out.1.below B0.out KK.out.2;obtain⟨y0,y1,y2,y3,y4,y5,y6,y7⟩:=T0.out.u;rw[HE.out] at y2;go_upto_region 2 with fail
 have BK:Hid (Below w0.heap.size w0 (w0.alloc (Obj.cells #[.string k.b,int i64 k.n0,int i64 k.n1,int i64 k.n2,int i64 k.n3,int i64 k.n4,int i64 k.n5,int i64 k.n6,int i64 k.n7,.bool k.f,.bool k.t] 77))):=(Below.refl _ _).alloc (Nat.le_refl _) _;have K1:Hid (Kc (w0.alloc (Obj.cells #[.string k.b,int i64 k.n0,int i64 k.n1,int i64 k.n2,int i64 k.n3,int i64 k.n4,int i64 k.n5,int i64 k.n6,int i64 k.n7,.bool k.f,.bool k.t] 77)) ⟨w.heap.size+2,0,none⟩ k):=lK k Z0.out;have Z1:Hid ((w0.alloc (Obj.cells #[.string k.b,int i64 k.n0,int i64 k.n1,int i64 k.n2,int i64 k.n3,int i64 k.n4,int i64 k.n5,int i64 k.n6,int i64 k.n7,.bool k.f,.bool k.t] 77)).heap.size=w.heap.size+3):=by have:=Z0.out;unfold Hid;simp;omega
 rw[Z0.out];generalize (w0.alloc (Obj.cells #[.string k.b,int i64 k.n0,int i64 k.n1,int i64 k.n2,int i64 k.n3,int i64 k.n4,int i64 k.n5,int i64 k.n6,int i64 k.n7,.bool k.f,.bool k.t] 77))=w1 at *;have B1:Hid (Below w.heap.size w w1):=B0.out.trans (BK.out.mono B0.out.size);have T1:Hid (Tb w1 (w.heap.size) (w.heap.size+1) X (slice p1 X.gs.length q1) (slice p2 X.os.length q2) (slice p3 X.gold.length q3) (slice p4 X.us.length q4) (slice p5 X.qs.length q5) u):=T0.out.below BK.out T0.out.x.lt T0.out.u.lt;clear z0 z1 z2 z3 z4 z5 z6 z7 z8 z9 z10 y0 y1 y2 y3 y4 y5 y6 y7 B0 BK T0 Z0;have c2:w1.cell? ⟨w.heap.size+2,2,none⟩=some (int i64 k.n1):=by have:=K1.out.c2;rw[Nat.zero_add] at this;exact this
 by_cases h0:k.n1=0
 ·have N1:Hid (k.n1=0):=h0
  rw[h0] at c2;go_wp2;go_ret;exact⟨-1,rfl,.inl ⟨N1.out,rfl⟩,B1.out⟩
 have N1:Hid (k.n1≠0):=h0;have h0':(k.n1==0)=false:=by rw[beq_eq_false_iff_ne];exact h0
 clear h0;have sf:∀(a:Addr) (f:Fn) (x y:Array Value) (w:World) (m:Mode),(store a (.func f x y) m).run Tryz.prog w=stored Tryz.prog w a (.func f x y) m:=λa f x y w m=>run_store _ w a _ m rfl
 go_upto_region 5 with fail
 clear sf;have BF:Hid (Below w1.heap.size w1 (w1.alloc (Obj.cells #[.func (Fn.func 201) #[] #[.pointer (some ⟨w.heap.size,0,none⟩),.pointer (some ⟨w.heap.size+1,0,none⟩)]] 262))):=(Below.refl _ _).alloc (Nat.le_refl _) _;have F2:Hid ((w1.alloc (Obj.cells #[.func (Fn.func 201) #[] #[.pointer (some ⟨w.heap.size,0,none⟩),.pointer (some ⟨w.heap.size+1,0,none⟩)]] 262)).cell? ⟨w.heap.size+3,0,none⟩=some (.func (Fn.func 201) #[] #[.pointer (some ⟨w.heap.size,0,none⟩),.pointer (some ⟨w.heap.size+1,0,none⟩)])):=dh Z1.out rfl;have Z2:Hid (w.heap.size+3<(w1.alloc (Obj.cells #[.func (Fn.func 201) #[] #[.pointer (some ⟨w.heap.size,0,none⟩),.pointer (some ⟨w.heap.size+1,0,none⟩)]] 262)).heap.size):=by have:=Z1.out;unfold Hid;simp;omega
 rw[Z1.out];generalize (w1.alloc (Obj.cells #[.func (Fn.func 201) #[] #[.pointer (some ⟨w.heap.size,0,none⟩),.pointer (some ⟨w.heap.size+1,0,none⟩)]] 262))=w2 at *;have B2:Hid (Below w.heap.size w w2):=B1.out.trans (BF.out.mono B1.out.size);have T2:Hid (Tb w2 (w.heap.size) (w.heap.size+1) X (slice p1 X.gs.length q1) (slice p2 X.os.length q2) (slice p3 X.gold.length q3) (slice p4 X.us.length q4) (slice p5 X.qs.length q5) u):=T1.out.below BF.out T1.out.x.lt T1.out.u.lt;have K2:Hid (w2.cell? ⟨w.heap.size+2,3,none⟩=some (int i64 k.n2)):=by have:=(K1.out.below BF.out K1.out.lt).c3;rw[Nat.zero_add] at this;exact this
 clear c2 B1 T1 K1 Z1 BF h0';obtain⟨x0,x1,x2,x3,x4,x5,x6,x7,x8⟩:=T2.out.x;have US:Hid (jF w (slice p4 X.us.length q4) X.us):=H.out.slices.2.2.2.1;go_wp2_with fail
 refine(clone_any _ X.us w2 (US.out.below B2.out) GD.out.2.2.2.2.1).mono ?_;rintro e w3 ⟨v,rfl,ho,hb⟩;have O3:Hid (dQ w3 w2.heap.size v X.us):=ho;have B3:Hid (Below w2.heap.size w2 w3):=hb;have TT:Hid (∀W,Below w2.heap.size w2 W->Tb W (w.heap.size) (w.heap.size+1) X (slice p1 X.gs.length q1) (slice p2 X.os.length q2) (slice p3 X.gold.length q3) (slice p4 X.us.length q4) (slice p5 X.qs.length q5) u/\W.cell? ⟨w.heap.size+3,0,none⟩=some (.func (Fn.func 201) #[] #[.pointer (some ⟨w.heap.size,0,none⟩),.pointer (some ⟨w.heap.size+1,0,none⟩)])/\W.cell? ⟨w.heap.size+2,3,none⟩=some (int i64 k.n2)):=λW hW=>
  ⟨T2.out.below hW T2.out.x.lt T2.out.u.lt,by rw[hW.cell (p:=⟨w.heap.size+3,0,none⟩) Z2.out];exact F2.out,by rw[hW.cell (p:=⟨w.heap.size+2,3,none⟩) (show w.heap.size+2<w2.heap.size by have:=Z2.out;omega)];exact K2.out⟩
 have PR:Hid (∀W,Below w2.heap.size w2 W->∀h∈X.us,Calls Tryz.prog 203 (#[h.val]++ #[.pointer (some ⟨w.heap.size+1,0,none⟩),.pointer (some ⟨w.heap.size+3,0,none⟩),.pointer (some ⟨w.heap.size+2,0,none⟩)]) W λe w'=>e=.returned (.bool (lS Wn u k.n2 h))/\Below W.heap.size W w'):=λW hW h hh=>
  Nv X u h Wn _ _ _ _ k.n2 _ _ _ _ _ W (TT.out W hW).1 (TT.out W hW).2.1 (TT.out W hW).2.2 GD.out.1 GD.out.2.1 GD.out.2.2.1 GD.out.2.2.2.1 (GD.out.2.2.2.2.2 h hh).1
 clear ho hb x0 x1 x2 x3 x4 x5 x6 x7 x8 F2 K2;go_wp2_with fail
 refine(del_any 203 (by intro args w;go_simp) v #[.pointer (some ⟨w.heap.size+1,0,none⟩),.pointer (some ⟨w.heap.size+3,0,none⟩),.pointer (some ⟨w.heap.size+2,0,none⟩)] X.us (lS Wn u k.n2) w3 w2.heap.size O3.out B3.out.size GD.out.2.2.2.2.1 (λW hW h hh=>PR.out W (B3.out.trans hW) h hh)).mono ?_;rintro e w4 ⟨v4,rfl,ho,hb⟩;have B4:Hid (Below w2.heap.size w2 w4):=B3.out.trans hb;have L4:Hid (jF w4 v4 (lT Wn u k.n2 X.us)):=ho.l;obtain⟨a4,c4,rfl⟩:=ho.len;obtain⟨hs,Ar⟩:∃hs,lT Wn u k.n2 X.us=hs:=⟨_,rfl⟩;have HS:Hid (lT Wn u k.n2 X.us=hs):=Ar;have e4:(X.us.filter (λo=> !lS Wn u k.n2 o)).length=hs.length:=by rw[<-Ar];rfl
 rw[Ar,e4] at L4;rw[e4];clear ho hb e4 Ar O3 B3 PR;have BW:Hid (Below w.heap.size w w4):=B2.out.trans (B4.out.mono B2.out.size);cases hs with
 |nil=>
  simp only[List.length_nil];go_wp2;go_ret;exact⟨-1,rfl,.inr (.inl ⟨N1.out,HS.out,rfl⟩),BW.out⟩
 |cons f0 tl=>
  have HM:Hid (∀h∈f0::tl,h∈X.us):=λh hh=>by rw[<-HS.out] at hh;exact(List.mem_filter.1 hh).1
  have TL:Hid (tl.length<=1000000):=by
   have h1:(lT Wn u k.n2 X.us).length<=X.us.length:=List.length_filter_le _ _;rw[HS.out,List.length_cons] at h1;have h2:=GD.out.2.2.2.2.1;unfold Hid;omega
  have hne:(((f0::tl).length:Nat):Int)≠0:=by rw[List.length_cons];omega
  have hne':((((f0::tl).length:Nat):Int)==0)=false:=by rw[beq_eq_false_iff_ne];exact hne
  obtain⟨n,hn⟩:∃n,(f0::tl).length=n:=⟨_,rfl⟩;have HN:Hid ((f0::tl).length=n):=hn;rw[hn] at hne hne' ⊢;clear hn;have L5:Hid (jF w4 (slice a4 n c4) (f0::tl)):=by rw[<-HN.out];exact L4.out
  clear L4;go_upto_region 10 with fail
  have BX:Hid (∀V,Below w2.heap.size w2 V->Bw V (w.heap.size) X (slice p1 X.gs.length q1) (slice p2 X.os.length q2) (slice p3 X.gold.length q3) (slice p4 X.us.length q4) (slice p5 X.qs.length q5)):=λV hV=>(TT.out V hV).1.x
  refine aH [(true,0),(true,1),(true,2),(false,3),(true,4),(false,5)] [(false,6)] (λV=>Bw V (w.heap.size) X (slice p1 X.gs.length q1) (slice p2 X.os.length q2) (slice p3 X.gold.length q3) (slice p4 X.us.length q4) (slice p5 X.qs.length q5)) (by kernel_rfl) (by kernel_rfl) (by kernel_rfl) (by decide+kernel) (by decide+kernel) (BX.out _ B4.out.drew) ?_;have B5:Hid (Below w2.heap.size w2 {w4 with drawn:=w4.drawn+1}):=B4.out.drew;have L6:Hid (jF {w4 with drawn:=w4.drawn+1} (slice a4 n c4) (f0::tl)):=L5.out.below ((Below.refl _ _).drew);generalize ({w4 with drawn:=w4.drawn+1}:World)=w5 at *;clear B4 L5 BW;refine ay rfl (.agg #[int i64 X.turn,int i64 X.next,int i64 X.wide,int i64 X.high,slice p1 X.gs.length q1,slice p2 X.os.length q2,slice p3 X.gold.length q3,slice p4 X.us.length q4,slice p5 X.qs.length q5]) (by go_simp) (λV hV=>by obtain⟨x0,x1,x2,x3,x4,x5,x6,x7,x8⟩:=hV;go_simp) ?_;go_simp;refine ay rfl (slice a4 n c4) (by go_simp) (λV hV=>by go_simp) ?_;go_simp;refine ay rfl (.func (Fn.func 205) #[] #[.pointer (some ⟨w.heap.size+3,0,none⟩)]) (by go_simp) (λV hV=>by go_simp) ?_;go_simp;refine bF rfl 206 #[slice a4 n c4,.func (Fn.func 205) #[] #[.pointer (some ⟨w.heap.size+3,0,none⟩)]] (by go_simp) (by go_simp) ?_;refine(Aq 205 (by intro args w;go_simp) _ #[.pointer (some ⟨w.heap.size+3,0,none⟩)] f0 tl (pK Wn u) (pO Wn u) w5 L6.out TL.out (λa ha b hb=>Jc (GD.out.2.2.2.2.2 a (HM.out a ha)).2 (GD.out.2.2.2.2.2 b (HM.out b hb)).2) (λW hW a ha b hb=>?_)).mono ?_
  ·have Yl:=B5.out.trans (hW.mono B5.out.size)
   exact Nw X u a b Wn _ _ _ _ _ _ _ _ W (TT.out W Yl).1 (TT.out W Yl).2.1 GD.out.1 GD.out.2.1 GD.out.2.2.1 GD.out.2.2.2.1 (GD.out.2.2.2.2.2 a (HM.out a ha)).1 (GD.out.2.2.2.2.2 b (HM.out b hb)).1 (GD.out.2.2.2.2.2 a (HM.out a ha)).2 (GD.out.2.2.2.2.2 b (HM.out b hb)).2
  rintro e w6 ⟨rfl,hb⟩;have B6:Hid (Below w2.heap.size w2 w6):=B5.out.trans (hb.mono B5.out.size);refine⟨_,rfl,BX.out _ B6.out,?_⟩;clear hb L6 B5;obtain⟨m,hm⟩:∃m,ig (pK Wn u) f0 tl=m:=⟨_,rfl⟩;have MM:Hid (ig (pK Wn u) f0 tl=m):=hm;rw[hm];clear hm;unfold aC.val;have hfi:=λW=>Jg m W
  go_simp;refine ay rfl (int i64 m.id) (by go_simp) (λV hV=>by go_simp) ?_;go_simp;refine bF rfl 113 #[.agg #[int i64 X.turn,int i64 X.next,int i64 X.wide,int i64 X.high,slice p1 X.gs.length q1,slice p2 X.os.length q2,slice p3 X.gold.length q3,slice p4 X.us.length q4,slice p5 X.qs.length q5],int i64 m.id] (by go_simp) (by go_simp) ?_;refine(mM _ X m.id w6 (H.out.below (B2.out.trans (B6.out.mono B2.out.size)))).mono ?_;rintro e w7 ⟨r,rfl,hf,hb⟩;have B7:Hid (Below w2.heap.size w2 w7):=B6.out.trans (hb.mono B6.out.size);have RR:Hid (tq Wn u k X.us r):=.inr (.inr ⟨N1.out,f0,tl,HS.out,by rw[MM.out];exact hf⟩);refine⟨_,rfl,BX.out _ B7.out,?_⟩;clear hb hf hfi;go_simp;refine aN rfl (int i64 r) w7 (by go_simp) (by go_simp) trivial ?_;go_simp;unfold aP;go_wp2;go_ret;exact⟨r,rfl,RR.out,B2.out.trans (B7.out.mono B2.out.size)⟩
theorem Dv{ks:List KV}{X:WV}(h:aQ ks X):∀u∈X.us,yD u/\0<=u.life/\u.life<=1000000:=by
 intro u hu;obtain⟨i,hi⟩:=List.mem_iff_getElem?.1 hu;obtain⟨k,f⟩:=h.fine hi;obtain⟨Wn,Hn,e1,e2,G⟩:=h.good;have h1:=f.at_;have h2:=f.life;have h3:=jY h.kinds (List.mem_of_getElem? f.kk);have h4:=G.gl;have h5:=G.pos.2;exact⟨⟨h1.1,by omega⟩,by omega,by omega⟩
theorem yG{ks:List KV}{W:Nat}{us:List aC}{u:aC}{k:KV}(hk:ks[u.kind.toNat]? =some k):lU ks W us u=tgt W u k us:=by
 unfold lU;rw[hk]
theorem pR{ks:List KV}{u:aC}{k:KV}(hk:ks[u.kind.toNat]? =some k):nC ks u=k.n1:=by
 unfold nC;rw[hk]
theorem vP(vk:Value)(ks:List KV)(X:WV)(us:List aC)(g1 g2 g3 g5:Value)(g cap Wn:Nat)(rest:List Value)(w:World)(hX:aQ ks X)(hus:X.us=us)(hW:X.wide=(Wn:Nat))(h1:0<Wn)(h2:Wn<=12)(hne:us≠[])
  (hk:Kl w vk ks) (hw:Wl w (.agg #[int i64 X.turn,int i64 X.next,int i64 X.wide,int i64 X.high,g1,g2,g3,slice (some ⟨g,0,none⟩) us.length cap,g5]) X) (hub:Ub w g us rest):
  Calls Tryz.prog 110 #[vk,.agg #[int i64 X.turn,int i64 X.next,int i64 X.wide,int i64 X.high,g1,g2,g3,slice (some ⟨g,0,none⟩) us.length cap,g5]] w λe w'=>∃ev,e=.returned ev/\dY w' w.heap.size ev (strikes ks Wn us us).2/\Ub w' g (hurt us (strikes ks Wn us us).1) rest/\Kp g w w':=by
 obtain⟨xu,hxu⟩:∃x:Addr,(⟨g,0,none⟩:Addr)=x:=⟨_,rfl⟩;have YO:=aj (hxu);have Ym:=aj (hub);have K:=aj (hk);have R:=aj (uG hX hus hW h1 h2 hne);have FT:Hid (∀h∈us,yD h/\0<=h.life/\h.life<=1000000):=by rw[<-hus];exact Dv hX
 have zQ:us.length<=40:=by rw[<-hus];exact hX.ul
 have UC:Hid (∀(i:Nat) k,us[i]? =some k->dB w (xu.add (i*8)) k):=λi k hi=>by
  rw[<-hxu,Addr.add_lit,Nat.zero_add];exact hub.kQ hi
 have UL:Hid (xu.block<w.heap.size/\g<w.heap.size):=⟨by rw[<-hxu];exact hub.lt,hub.lt⟩;have hcap:us.length<=cap/\cap<=9223372036854775807:=by
  obtain⟨a,c,he,h1,h2,-⟩:=hw.slices.2.2.2.1;injection he with _ _ he
  subst he;rw[hus] at h1;exact⟨h1,h2⟩
 obtain⟨hcap1,hcap2⟩:=hcap;have hlen:=List.length_pos_iff.2 hne;have HL:=aj (hlen);rw[hxu] at hw ⊢;have H:=aj (hw);obtain⟨pk,qk,rfl,ck1,ck2,kc⟩:=hk;have Uj:ks≠[]:=by
  intro h;obtain⟨u,hu⟩:∃u,us[0]? =some u:=⟨_,List.getElem?_eq_getElem hlen⟩;rw[<-hus] at hu;obtain⟨k,f⟩:=hX.fine hu;have:=f.kk;rw[h] at this;simp at this
 obtain⟨xk,rfl,hxl,hxc⟩:=kc Uj;have KC:=aj (eU hxc hxl);clear hub hX hus hW h1 h2 hne hw kc Uj hxc hxl hxu hlen;go_enter Tryz.func110,Tryz.ntmps110;go_upto_region 2 with fail
 have B0:Hid (Below _ w (w.alloc (Obj.cells #[int i64 X.turn,int i64 X.next,int i64 X.wide,int i64 X.high,g1,g2,g3,slice (some xu) us.length cap,g5] 29))):=(Below.refl _ _).alloc (Nat.le_refl _) _;have X0:Hid (Bw _ w.heap.size X g1 g2 g3 (slice (some xu) us.length cap) g5):=Bw.mk' X _ _ _ _ _ rfl;generalize (w.alloc _)=w0 at *;have x7:=X0.out.c7;obtain⟨w1,hmk,hbk,hb1,hs1⟩:=Io us.length w0 (by omega);go_upto_region 3 with fail
 have BK:=aj (hbk);have B1:=aj (B0.out.trans (hb1.mono B0.out.size));have X1:=aj (X0.out.below hb1 X0.out.lt);obtain⟨lb,hlb⟩:∃z,w0.heap.size=z:=⟨_,rfl⟩;have Dw:Hid (w.heap.size<lb/\w1.heap.size=lb+1):=⟨by rw[<-hlb];exact X0.out.lt,by rw[<-hlb];exact hs1⟩;rw[hlb] at BK ⊢;clear hmk hbk hb1 hs1 x7 hlb B0 X0;have x7:=X1.out.c7;go_upto_region 4 with fail
 clear x7;go_loopw [5,19] (λv5 v19 V=>∃(n:Nat) (ev:Value),v19=int i64 (n:Nat)/\ev=v5/\n<=us.length/\Bk V lb (strikes ks Wn us (us.take n)).1 #[]/\dY V w1.heap.size ev (strikes ks Wn us (us.take n)).2/\(strikes ks Wn us (us.take n)).2.length<=n/\Kp lb w1 V) (λ_ v19 _=>us.length-(intOf v19).toNat)
 case atStart=>exact⟨0,_,rfl,rfl,Nat.zero_le _,BK.out,dY.nil _ _,Nat.le_refl _,Kp.refl _ _⟩
 case round=>
  obtain⟨n,ev,rfl,rfl,hn,hbk,hev,hel,hkp⟩:=hrel;have L1:=aj (hbk);have E1:=aj (eU hev hel);have KP:=aj (hkp);have BL:=aj (hkp.below (Below.refl _ _) (by have:=Dw.out.2;omega) (Nat.le_refl _));have BB:=aj (B1.out.trans (BL.out.mono (by have:=Dw.out.1;omega)));have XR:=aj (X1.out.below BL.out Dw.out.1);clear hbk hev hel hkp BK;by_cases h0:n=us.length
  ·subst h0
   have hx9:=YO.out;subst hx9;have hnl:¬(((us.length:Nat):Int)<(us.length:Nat)):=by omega
   rw[List.take_of_length_le (Nat.le_refl _)] at L1 E1;obtain⟨ls,hls⟩:∃l,(strikes ks Wn us us).1=l:=⟨_,rfl⟩;obtain⟨es,hes⟩:∃l,(strikes ks Wn us us).2=l:=⟨_,rfl⟩;have LS:Hid (ls.length=us.length/\yA 40000 ls/\(strikes ks Wn us us).1=ls/\(strikes ks Wn us us).2=es):=⟨by rw[<-hls];exact dU,by
    have:=gV (W:=Wn) (us:=us) R.out.1.kinds us.length (Nat.le_refl _);rw[List.take_of_length_le (Nat.le_refl _),hls] at this;intro x hx;have:=this x hx;omega,hls,hes⟩
   rw[hls] at L1;rw[hes] at E1;generalize wr=w2 at *;have UB:=aj (Ym.out.below BB.out Ym.out.lt);have NG:Hid (g<w.heap.size/\w.heap.size<lb):=⟨UL.out.2,Dw.out.1⟩;clear hls hes hnl;go_upto_region 12 with fail
   go_loopw [56] (λv56 V=>∃(n:Nat),v56=int i64 (n:Nat)/\n<=us.length/\Ub V g (jR us ls n) rest/\Kp g w2 V) (λv56 _=>us.length-(intOf v56).toNat)
   case atStart=>exact⟨0,rfl,Nat.zero_le _,by rw[yB];exact UB.out,Kp.refl _ _⟩
   case round=>
    obtain⟨n,rfl,hn,hub,hkp⟩:=hrel;have U2:=aj (hub);have P2:=aj (hkp);have L2:=aj (L1.out.kp hkp (by have:=NG.out;omega));have X2:=aj (XR.out.kp9 hkp (by have:=NG.out;omega));clear hub hkp;by_cases h0:n=us.length
    ·subst h0
     have hnl:¬(((us.length:Nat):Int)<(us.length:Nat)):=by omega
     go_wp2;go_ret;refine⟨ev,rfl,?_,?_,?_⟩
     ·rw[LS.out.2.2.2]
      exact(E1.out.1.kp9 P2.out (by have:=NG.out;have:=Dw.out.2;omega)).mono (by have:=Dw.out;omega)
     ·have:=U2.out
      rw[Dp LS.out.1] at this;rw[LS.out.2.2.1];exact this
     ·exact(Kp.of BB.out).trans P2.out
    ·have hnl:n<us.length:=by omega
     have hni:((n:Nat):Int)<(us.length:Nat):=by omega
     obtain⟨u,hu⟩:∃u,us[n]? =some u:=⟨_,List.getElem?_eq_getElem hnl⟩;obtain⟨x,hx⟩:∃x,ls[n]? =some x:=⟨_,List.getElem?_eq_getElem (by rw[LS.out.1];exact hnl)⟩;have xb:=LS.out.2.1 x (List.mem_of_getElem? hx);have ub:=(FT.out u (List.mem_of_getElem? hu)).2;have wsub:IntKind.i64.wrap (u.life-x)=u.life-x:=by rw[IntKind.wrap_i64];omega
     have WN:IntKind.i64.wrap ((n:Nat)+1:Int)=((n:Nat):Int)+1:=by rw[IntKind.wrap_i64];omega
     have cl:=L2.out.cell hx;have x7:=X2.out.c7;have c4:=(U2.out.kQ (vO LS.out.1 hu)).c4;have t4:=U2.out.thaw (n*8+4);have U3:Hid (Ub (wr.setCell ⟨g,n*8+4,none⟩ (int i64 (u.life-x))) g (jR us ls (n+1)) rest):=by
      unfold Hid;rw[<-yC LS.out.1 hu hx];exact U2.out.LH (vO LS.out.1 hu) _
     have P3:Hid (Kp g w2 (wr.setCell ⟨g,n*8+4,none⟩ (int i64 (u.life-x)))):=P2.out.trans (Kp.set _ _ _);clear xb ub hu hx;go_wp2;go_round
     case rel=>exact⟨n+1,by go_num,by omega,U3.out,P3.out⟩
     case measure=>simp[intOf];omega
  ·have hnl:n<us.length:=by omega
   have hni:((n:Nat):Int)<(us.length:Nat):=by omega
   obtain⟨u,hu⟩:∃u,us[n]? =some u:=⟨_,List.getElem?_eq_getElem hnl⟩;obtain⟨k,fu⟩:=R.out.1.fine (show X.us[n]? =some u by rw[R.out.2.1];exact hu);obtain⟨kn,hkn⟩:∃n:Nat,u.kind=n:=⟨u.kind.toNat,by have:=fu.k0.1;omega⟩;have hkk:ks[kn]? =some k:=by have:=fu.kk;rw[hkn,Int.toNat_natCast] at this;exact this
   have hkl:=(List.getElem?_eq_some_iff.1 hkk).1;have UK:=aj (jD hu hkn fu.kk fu.k0.1);have KK:Hid (Kc w (xk.add (kn*11)) k/\(xk.add (kn*11)).block<w.heap.size):=⟨KC.out.1 kn k hkk,by rw[add_block];exact KC.out.2⟩;have NX:=lV (ks:=ks) (W:=Wn) (us:=us) hu;have WN:IntKind.i64.wrap ((n:Nat)+1:Int)=((n:Nat):Int)+1:=by rw[IntKind.wrap_i64];omega
   obtain⟨y0,y1,y2,y3,y4,y5,y6,y7⟩:=(UC.out n u hu).below BB.out (by rw[add_block];exact UL.out.1);clear hu fu hkn hkk;have WZ:=aj (NX);clear NX;go_upto_region 6 with fail
   have BA:Hid (Below _ wr (wr.alloc (Obj.cells #[int i64 u.id,int i64 u.aA,int i64 u.kind,int i64 u.at_,int i64 u.life,int i64 u.load,int i64 u.task,int i64 u.goal] 74))):=(Below.refl _ _).alloc (Nat.le_refl _) _;obtain⟨bu,hbu⟩:∃z,wr.heap.size=z:=⟨_,rfl⟩;have U2:=aj (dB.mk' u hbu);have VB:Hid (∀b,ev.ownBlock=some b->b<bu):=λb hb=>by rw[<-hbu];exact(E1.out.1.block b hb).2
   have YP:Hid (w1.heap.size<=bu):=by unfold Hid;rw[<-hbu];exact KP.out.size
   rw[hbu];generalize (wr.alloc _)=w2 at *;have B2:=aj (BB.out.trans (BA.out.mono BB.out.size));have L2:=aj (L1.out.below BA.out);have E2:=aj (E1.out.1.below BA.out);have P2:=aj (KP.out.trans (Kp.of BA.out));have X2:=aj (XR.out.below BA.out XR.out.lt);clear y0 y1 y2 y3 y4 y5 y6 y7 hbu BA BB L1 KP XR BL;obtain⟨x0,x1,x2,x3,x4,x5,x6,x7,x8⟩:=X2.out;obtain⟨y0,y1,y2,y3,y4,y5,y6,y7⟩:=U2.out;go_wp2_with fail
   refine(yF _ _ ks X u Wn k w2 (K.out.below B2.out) (H.out.below B2.out) R.out.2.2.1 R.out.2.2.2.1 R.out.2.2.2.2.1 (by rw[R.out.2.1];omega) (FT.out u (List.mem_of_getElem? UK.out.1)).1 UK.out.2.2.2 UK.out.2.2.1 (by rw[R.out.2.1];exact FT.out)).mono ?_;rintro e w3 ⟨t,rfl,ht,hb⟩;have TQ:Hid (t=lU ks Wn us u):=by unfold Hid;rw[yG UK.out.2.2.1];rw[R.out.2.1] at ht;exact Ui ht
   have TW:=QH R.out.1 ht;rw[R.out.2.1] at TW;have B3:=aj (B2.out.trans (hb.mono B2.out.size));have L3:=aj (L2.out.below hb);have E3:=aj (E2.out.below hb);have P3:=aj (P2.out.trans (Kp.of hb));have X3:=aj (X2.out.below hb X2.out.lt);have U3:=aj (U2.out.below hb U2.out.lt);clear hb ht x0 x1 x2 x3 x4 x5 x6 x7 x8 y0 y1 y2 y3 y4 y5 y6 y7 B2 L2 E2 P2 X2 U2;rcases TW with⟨rfl,-⟩|⟨hn1,tn,x,f0,tl,rfl,hx,-,-⟩
   ·have SAME:Hid (strikes ks Wn us (us.take (n+1))=strikes ks Wn us (us.take n)):=by
     unfold Hid;rw[WZ.out];unfold stk;rw[<-TQ.out,if_pos rfl]
    go_wp2;go_round
    case rel=>exact⟨n+1,_,by go_num,rfl,by omega,by rw[SAME.out];exact L3.out,by rw[SAME.out];exact E3.out,by rw[SAME.out];have:=E1.out.2;omega,P3.out⟩
    case measure=>simp[intOf];omega
   ·have htl:=(List.getElem?_eq_some_iff.1 hx).1
    obtain⟨ls,hls⟩:∃l,(strikes ks Wn us (us.take n)).1=l:=⟨_,rfl⟩;obtain⟨es,hes⟩:∃l,(strikes ks Wn us (us.take n)).2=l:=⟨_,rfl⟩;have hll:ls.length=us.length:=by rw[<-hls];exact dU
    obtain⟨ln,hln⟩:∃x,ls[tn]? =some x:=⟨_,List.getElem?_eq_getElem (by omega)⟩;have W_:=gV (W:=Wn) (us:=us) R.out.1.kinds n hn;rw[hls] at W_;have YQ:=W_ ln (List.mem_of_getElem? hln);have Uk:=Jf R.out.1.kinds u;rw[pR UK.out.2.2.1] at Uk;have YR:IntKind.i64.wrap (ln+k.n1)=ln+k.n1:=by rw[IntKind.wrap_i64];omega
    have NEW:Hid (strikes ks Wn us (us.take (n+1))=(ls.set tn (ln+k.n1),es++[⟨2,u.id,x.id⟩])):=by
     unfold Hid;rw[WZ.out];unfold stk;rw[<-TQ.out,if_neg (by omega),Int.toNat_natCast,pR UK.out.2.2.1,hls,hes,hx,List.getD_eq_getElem?_getD,hln];rfl
    rw[hls] at L3;rw[hes] at E3;have EL:Hid (es.length<=n):=by rw[<-hes];exact E1.out.2
    have htn:¬((tn:Nat):Int)= -1:=by omega
    have htb:(((tn:Nat):Int)== -1)=false:=by rw[beq_eq_false_iff_ne];exact htn
    have UT:Hid (dB w (xu.add (tn*8)) x/\(xu.add (tn*8)).block<w.heap.size):=⟨UC.out tn x hx,by rw[add_block];exact UL.out.1⟩;have htu:((tn:Nat):Int)<(us.length:Nat):=by omega
    have Xa:Hid (ls.length=us.length/\ls[tn]? =some ln):=⟨hll,hln⟩;clear hx WZ W_ YQ Uk hn1 E1 hls hes hll hln TQ htn;go_upto_region 8 with fail
    have CB:Hid (∀V,Below w.heap.size w V->Bk V lb ls #[]->dB V ⟨bu,0,none⟩ u->(V.cell? ⟨lb,tn,none⟩=some (int i64 ln)/\V.cell? ⟨bu,2,none⟩=some (int i64 (kn:Nat))/\V.cell? ⟨(xk.add (kn*11)).block,(xk.add (kn*11)).off+2,none⟩=some (int i64 k.n1))):=λV hb hl hu=>⟨hl.cell Xa.out.2,by have:=hu.c2;rw[Nat.zero_add,UK.out.2.1] at this;exact this,(KK.out.1.below hb KK.out.2).c2⟩
    refine aH [(true,0),(true,1),(true,2),(true,3),(true,4),(true,5),(true,6),(true,7),(true,8),(true,9),(true,10),(true,11)] [(false,12)] (λV=>V.cell? ⟨lb,tn,none⟩=some (int i64 ln)/\V.cell? ⟨bu,2,none⟩=some (int i64 (kn:Nat))/\V.cell? ⟨(xk.add (kn*11)).block,(xk.add (kn*11)).off+2,none⟩=some (int i64 k.n1)) (by kernel_rfl) (by kernel_rfl) (by kernel_rfl) (by decide+kernel) (by decide+kernel) (CB.out _ B3.out.drew (L3.out.below ((Below.refl _ _).drew)) (U3.out.below ((Below.refl _ _).drew) U3.out.lt)) ?_;have D4:Hid (Below w3.heap.size w3 {w3 with drawn:=w3.drawn+1}):=(Below.refl _ _).drew;generalize ({w3 with drawn:=w3.drawn+1}:World)=w4 at *;have B4:=aj (B3.out.trans (D4.out.mono B3.out.size));have L4:=aj (L3.out.below D4.out);have E4:=aj (E3.out.below D4.out);have P4:=aj (P3.out.trans (Kp.of D4.out));have X4:=aj (X3.out.below D4.out X3.out.lt);have U4:=aj (U3.out.below D4.out U3.out.lt);clear B3 L3 E3 P3 X3 U3 D4;refine ay rfl (slice (some ⟨lb,0,none⟩) us.length us.length) (by go_simp) (λV hV=>by go_simp) ?_;go_simp;refine ay rfl (int i64 (tn:Nat)) (by go_simp) (λV hV=>by go_simp) ?_;go_simp;refine ay rfl (.pointer (some ⟨lb,tn,none⟩)) (by go_simp) (λV hV=>by go_simp) ?_;go_simp;refine ay rfl (int i64 ln) (by go_simp) (λV hV=>by obtain⟨d1,d2,d3⟩:=hV;go_simp) ?_;go_simp;refine ay rfl (slice (some xk) ks.length qk) (by go_simp) (λV hV=>by go_simp) ?_;go_simp;refine ay rfl (.pointer (some ⟨bu,2,none⟩)) (by go_simp) (λV hV=>by go_simp) ?_;go_simp;refine ay rfl (int i64 (kn:Nat)) (by go_simp) (λV hV=>by obtain⟨d1,d2,d3⟩:=hV;go_simp) ?_;go_simp;refine ay rfl (.pointer (some (xk.add (kn*11)))) (by go_simp) (λV hV=>by go_simp) ?_;go_simp;refine ay rfl (.pointer (some ⟨(xk.add (kn*11)).block,(xk.add (kn*11)).off+2,none⟩)) (by go_simp) (λV hV=>by go_simp) ?_;go_simp;refine ay rfl (int i64 k.n1) (by go_simp) (λV hV=>by obtain⟨d1,d2,d3⟩:=hV;go_simp) ?_;go_simp;refine ay rfl (int i64 (ln+k.n1)) (by go_simp) (λV hV=>by go_simp) ?_;go_simp;refine ay rfl (.pointer (some ⟨lb,tn,none⟩)) (by go_simp) (λV hV=>by go_simp) ?_;go_simp;unfold aW;have t4:=L4.out.thaw tn;have c4:=L4.out.cell Xa.out.2;have L5:Hid (Bk (w4.setCell ⟨lb,tn,none⟩ (int i64 (ln+k.n1))) lb (ls.set tn (ln+k.n1)) #[]):=L4.out.set tn _ (by rw[Xa.out.1];omega);have K5:Hid (Kp lb w4 (w4.setCell ⟨lb,tn,none⟩ (int i64 (ln+k.n1)))):=Kp.set _ _ _;refine g_ rfl (w4.setCell ⟨lb,tn,none⟩ (int i64 (ln+k.n1))) (by go_simp) (by go_simp) trivial ?_;go_simp;clear t4 c4;generalize (w4.setCell _ _)=w5 at *;have B5:=aj (K5.out.below B4.out B4.out.size (by have:=Dw.out.1;omega));have E5:=aj (E4.out.kp9 K5.out (by have:=Dw.out.2;omega));have P5:=aj (P4.out.trans K5.out);have X5:=aj (X4.out.kp9 K5.out (by have:=Dw.out.1;omega));have U5:=aj (U4.out.kp9 K5.out (by have:=Dw.out.2;have:=YP.out;show bu≠lb;omega));unfold aP;clear B4 L4 E4 P4 X4 U4 K5 CB;go_upto_region 9 with fail
    have CB:Hid (∀V,Below w.heap.size w V->Bw V w.heap.size X g1 g2 g3 (slice (some xu) us.length cap) g5->dB V ⟨bu,0,none⟩ u->(V.cell? ⟨bu,0,none⟩=some (int i64 u.id)/\V.cell? ⟨w.heap.size,7,none⟩=some (slice (some xu) us.length cap)/\V.cell? (xu.add (tn*8))=some (int i64 x.id))):=λV hb hx hu=>⟨hu.c0,hx.c7,(UT.out.1.below hb UT.out.2).c0⟩
    refine aH [(true,0),(true,1),(true,2),(true,3),(true,4),(true,5),(true,6),(true,7),(true,8),(true,9),(false,10),(false,11)] [(false,12)] (λV=>V.cell? ⟨bu,0,none⟩=some (int i64 u.id)/\V.cell? ⟨w.heap.size,7,none⟩=some (slice (some xu) us.length cap)/\V.cell? (xu.add (tn*8))=some (int i64 x.id)) (by kernel_rfl) (by kernel_rfl) (by kernel_rfl) (by decide+kernel) (by decide+kernel) (CB.out _ B5.out.drew (X5.out.below ((Below.refl _ _).drew) X5.out.lt) (U5.out.below ((Below.refl _ _).drew) U5.out.lt)) ?_;have D6:Hid (Below w5.heap.size w5 {w5 with drawn:=w5.drawn+1}):=(Below.refl _ _).drew;generalize ({w5 with drawn:=w5.drawn+1}:World)=w6 at *;have B6:=aj (B5.out.trans (D6.out.mono B5.out.size));have L6:=aj (L5.out.below D6.out);have E6:=aj (E5.out.below D6.out);have P6:=aj (P5.out.trans (Kp.of D6.out));have X6:=aj (X5.out.below D6.out X5.out.lt);have U6:=aj (U5.out.below D6.out U5.out.lt);clear B5 L5 E5 P5 X5 U5 D6;refine ay rfl (ev) (by go_simp) (λV hV=>by go_simp) ?_;go_simp;refine ay rfl (.pointer (some ⟨bu,0,none⟩)) (by go_simp) (λV hV=>by go_simp) ?_;go_simp;refine ay rfl (int i64 u.id) (by go_simp) (λV hV=>by obtain⟨d1,d2,d3⟩:=hV;go_simp) ?_;go_simp;refine ay rfl (.pointer (some ⟨w.heap.size,7,none⟩)) (by go_simp) (λV hV=>by go_simp) ?_;go_simp;refine ay rfl (slice (some xu) us.length cap) (by go_simp) (λV hV=>by obtain⟨d1,d2,d3⟩:=hV;go_simp) ?_;go_simp;refine ay rfl (int i64 (tn:Nat)) (by go_simp) (λV hV=>by go_simp) ?_;go_simp;refine ay rfl (.pointer (some (xu.add (tn*8)))) (by go_simp) (λV hV=>by go_simp) ?_;go_simp;refine ay rfl (.pointer (some (xu.add (tn*8)))) (by go_simp) (λV hV=>by go_simp) ?_;go_simp;refine ay rfl (int i64 x.id) (by go_simp) (λV hV=>by obtain⟨d1,d2,d3⟩:=hV;go_simp) ?_;go_simp;refine ay rfl (.agg #[int i64 2,int i64 u.id,int i64 x.id]) (by go_simp) (λV hV=>by go_simp) ?_;go_simp;have BA:Hid (Below _ w6 (w6.alloc (Obj.cells #[int i64 2,int i64 u.id,int i64 x.id] 169))):=(Below.refl _ _).alloc (Nat.le_refl _) _;have EC:Hid (oK (w6.alloc (Obj.cells #[.int _ 2,.int _ u.id,.int _ x.id] _)) _ _):=oK.mk' ⟨2,u.id,x.id⟩ rfl;refine dw rfl (slice (some ⟨w6.heap.size,0,none⟩) 1 1) (w6.alloc (Obj.cells #[int i64 2,int i64 u.id,int i64 x.id] 169)) (by go_simp) (by go_simp) (CB.out _ (B6.out.trans (BA.out.mono B6.out.size)) (X6.out.below BA.out X6.out.lt) (U6.out.below BA.out U6.out.lt)) ?_;go_simp;generalize (w6.alloc _)=w7 at *;have B7:=aj (B6.out.trans (BA.out.mono B6.out.size));have L7:=aj (L6.out.below BA.out);have E7:=aj (E6.out.below BA.out);have P7:=aj (P6.out.trans (Kp.of BA.out));have X7:=aj (X6.out.below BA.out X6.out.lt);have U7:=aj (U6.out.below BA.out U6.out.lt);clear B6 L6 E6 P6 X6 U6 BA;obtain⟨gg,gc,w8,hr,ho8,hg8,-,-⟩:=Ip w7 58 w1.heap.size ev es E7.out _ _ EC.out (by have:=EL.out;omega) P7.out.size;have GB:Hid (∀b,ev.ownBlock=some b->w1.heap.size<=b):=λb hb=>(E7.out.block b hb).1
    have BG:=aj ((Below.refl _ _).grown hg8 P7.out.size (λb hb=>GB.out b hb));have B8:=aj (B7.out.trans (BG.out.mono (by have:=Dw.out;omega)));have L8:=aj (L7.out.low BG.out (by have:=Dw.out.2;omega));have P8:=aj (Ae P7.out hg8 (λb hb=>GB.out b hb));have X8:=aj (X7.out.below BG.out (by have:=Dw.out;omega));have O8:=aj (ho8);have U8:=aj (U7.out.gb hg8 (λe=>Nat.lt_irrefl _ (VB.out bu e)));refine dw rfl _ w8 (by go_simp) (f_ _ _ _ _ rfl _ _ (by go_simp) (by go_simp) hr) (CB.out _ B8.out X8.out U8.out) ?_;clear hr ho8 hg8 B7 L7 E7 P7 X7 U7 BG GB EC;go_simp;unfold aW;refine aN rfl (slice (some ⟨gg,0,none⟩) (es.length+1) gc) w8 (by go_simp) (by go_simp) trivial ?_;go_simp;unfold aP;go_wp2;go_round
    case rel=>exact⟨n+1,_,by go_num,rfl,by omega,by rw[NEW.out];exact L8.out,by rw[NEW.out];exact O8.out,by rw[NEW.out];have:=EL.out;simp;omega,P8.out⟩
    case measure=>simp[intOf];omega
theorem yH(vk:Value)(t n W H:Int)(g1 g2 g3 g5:Value)(a:Option Addr)(c:Nat)(w:World):
  Calls Tryz.prog 110 #[vk,.agg #[int i64 t,int i64 n,int i64 W,int i64 H,g1,g2,g3,slice a 0 c,g5]] w λe w'=>e=.returned (slice none 0 0)/\Below w.heap.size w w':=by
 go_enter Tryz.func110,Tryz.ntmps110;go_upto_region 2 with fail
 have B0:Hid (Below _ w (w.alloc (Obj.cells #[int i64 t,int i64 n,int i64 W,int i64 H,g1,g2,g3,slice a 0 c,g5] 29))):=(Below.refl _ _).alloc (Nat.le_refl _) _;have x7:(w.alloc (Obj.cells #[int i64 t,int i64 n,int i64 W,int i64 H,g1,g2,g3,slice a 0 c,g5] 29)).cell? ⟨w.heap.size,7,none⟩=some (slice a 0 c):=by simp
 have xl:w.heap.size<(w.alloc (Obj.cells #[int i64 t,int i64 n,int i64 W,int i64 H,g1,g2,g3,slice a 0 c,g5] 29)).heap.size:=by simp
 generalize (w.alloc _)=w0 at *;obtain⟨w1,Ul,-,hb1,-⟩:=Io 0 w0 (by omega);have hmk:(Instr.makeSlice 23 (.int _ 0) (.int _ 0)).run _ w0=.ok _ w1:=Ul;clear Ul;go_upto_region 3 with fail
 have y7:w1.cell? ⟨w.heap.size,7,none⟩=some (slice a 0 c):=by rw[hb1.cell (p:=⟨w.heap.size,7,none⟩) xl];exact x7
 have B1:=aj (B0.out.trans (hb1.mono B0.out.size));clear hmk x7 xl hb1 B0;go_wp2;refine wp_loop_rounds 1 ?_;rw[rounds_succ];go_wp2;refine wp_loop_rounds 1 ?_;rw[rounds_succ];go_wp2;go_ret;exact⟨rfl,B1.out⟩
def Jk(w:World)(g:Nat)(ks:List aO)(rest:List Value):Prop:=w.heap[g]? =some (.cells (ks.flatMap aO.cs++rest).toArray 93 (0,0))
theorem Jk.lt{w:World}{g:Nat}{ks:List aO}{rest:List Value}(h:Jk w g ks rest):g<w.heap.size:=lt_of_block h
theorem Jk.thaw{w:World}{g:Nat}{ks:List aO}{rest:List Value}(h:Jk w g ks rest)(i:Nat):w.frozen? ⟨g,i,none⟩=false:=by
 unfold Jk at h;simp[World.frozen?,h]
theorem Jk.below{w w':World}{g B:Nat}{ks:List aO}{rest:List Value}(h:Jk w g ks rest)(hb:Below B w w')(hB:g<B):Jk w' g ks rest:=by
 unfold Jk at *;rw[hb.block g hB];exact h
theorem Jk.at_{w:World}{g:Nat}{ks:List aO}{rest:List Value}(h:Jk w g ks rest){i:Nat}{o:aO}(ho:ks[i]? =some o){j:Nat}(hj:j<4):w.cell? ⟨g,i*4+j,none⟩=o.cs[j]? :=by
 unfold Jk at h;have hi:=(List.getElem?_eq_some_iff.1 ho).1;simp only[World.cell?,h];have e:(ks.flatMap aO.cs++rest).toArray[i*4+j]? =o.cs[j]? :=by
  rw[List.getElem?_toArray,List.getElem?_append_left (by rw[fO];omega),lD ks i j o ho hj]
 simp only[e];simp
theorem Jk.RZ{w:World}{g:Nat}{ks:List aO}{rest:List Value}(h:Jk w g ks rest){i:Nat}{o:aO}(ho:ks[i]? =some o):jS w ⟨g,i*4,none⟩ o:=
 ⟨h.at_ ho (j:=0) (by decide),h.at_ ho (j:=1) (by decide),h.at_ ho (j:=2) (by decide),h.at_ ho (j:=3) (by decide)⟩
theorem rC:∀(ks:List aO) (i:Nat) (o:aO) (rest:List Value),i<ks.length->
  (ks.set i o).flatMap aO.cs++rest=((((ks.flatMap aO.cs++rest).set (i*4) (int i64 o.aA)).set (i*4+1) (int i64 o.unit)).set (i*4+2) (int i64 o.kind)).set (i*4+3) (int i64 o.left)
 |[],i,o,rest,h=>by simp at h
 |k::ks,0,o,rest,_=>by
  simp[aO.cs]
 |k::ks,i+1,o,rest,h=>by
  have ih:=rC ks i o rest (by simpa using h);rw[show(i+1)*4=i*4+4 by omega,show i*4+4+1=i*4+1+4 by omega,show i*4+4+2=i*4+2+4 by omega,show i*4+4+3=i*4+3+4 by omega,List.set_cons_succ,List.flatMap_cons,List.append_assoc,ih,List.flatMap_cons];simp[aO.cs]
theorem Jk.put{w:World}{g:Nat}{ks:List aO}{rest:List Value}(h:Jk w g ks rest){i:Nat}(hi:i<ks.length)(o:aO):
  Jk ((((w.setCell ⟨g,i*4,none⟩ (int i64 o.aA)).setCell ⟨g,i*4+1,none⟩ (int i64 o.unit)).setCell ⟨g,i*4+2,none⟩ (int i64 o.kind)).setCell ⟨g,i*4+3,none⟩ (int i64 o.left)) g (ks.set i o) rest:=by
 unfold Jk at *;have h0:=heap_setCell_same w g (i*4) _ _ (int i64 o.aA) h;have h1:=heap_setCell_same _ g (i*4+1) _ _ (int i64 o.unit) h0;have h2:=heap_setCell_same _ g (i*4+2) _ _ (int i64 o.kind) h1;have h3:=heap_setCell_same _ g (i*4+3) _ _ (int i64 o.left) h2;rw[h3,rC ks i o rest hi];simp
theorem Jh{B g:Nat}{w W:World}{i:Nat}(o:aO)(h:Below B w W)(hb:B<=g):Below B w ((((W.setCell ⟨g,i*4,none⟩ (int i64 o.aA)).setCell ⟨g,i*4+1,none⟩ (int i64 o.unit)).setCell ⟨g,i*4+2,none⟩ (int i64 o.kind)).setCell ⟨g,i*4+3,none⟩ (int i64 o.left)):=
 (((h.setCell (p:=⟨g,i*4,none⟩) hb _).setCell (p:=⟨g,i*4+1,none⟩) hb _).setCell (p:=⟨g,i*4+2,none⟩) hb _).setCell (p:=⟨g,i*4+3,none⟩) hb _
theorem pU:∀(ks:List aO) (i:Nat) (o:aO) (a:Int) (rest:List Value),ks[i]? =some o->(ks.set i {o with left:=a}).flatMap aO.cs++rest=(ks.flatMap aO.cs++rest).set (i*4+3) (int i64 a)
 |[],i,o,a,rest,h=>by simp at h
 |k::ks,0,o,a,rest,h=>by
  simp at h;subst h;simp[aO.cs]
 |k::ks,i+1,o,a,rest,h=>by
  have ih:=pU ks i o a rest (by simpa using h);rw[show(i+1)*4+3=i*4+3+4 by omega,List.set_cons_succ,List.flatMap_cons,List.append_assoc,ih,List.flatMap_cons];simp[aO.cs]
theorem Jk.BI{w:World}{g:Nat}{ks:List aO}{rest:List Value}(h:Jk w g ks rest){i:Nat}{o:aO}(ho:ks[i]? =some o)(a:Int):Jk (w.setCell ⟨g,i*4+3,none⟩ (int i64 a)) g (ks.set i {o with left:=a}) rest:=by
 unfold Jk at *;have h0:=heap_setCell_same w g (i*4+3) _ _ (int i64 a) h;rw[h0,pU ks i o a rest ho];simp
theorem dK.jk{w:World}{base:Nat}{v:Value}{ks:List aO}(h:dK w base v ks):(v=slice none 0 0/\ks=[])\/∃g cap rest,v=slice (some ⟨g,0,none⟩) ks.length cap/\base<=g/\ks.length<=cap/\cap<=maxLen/\ks.length*4+rest.length=cap*4/\Jk w g ks rest:=by
 rcases h.2 with⟨h1,h2⟩|⟨g,cap,cur,h1,h2,h3,h4,h5,h6,h7⟩
 ·exact .inl ⟨h1,List.length_eq_zero_iff.1 h2⟩
 ·refine .inr ⟨g,cap,cur.toList.drop (ks.length*4),h1,h2,h4,h5,?_,?_⟩
  ·have e6:cur.toList.length=cap*4:=by simpa using h6
   rw[List.length_drop,e6];have:ks.length*4<=cap*4:=Nat.mul_le_mul_right _ h4;omega
  ·unfold Jk
   rw[<-h7,List.take_append_drop,Array.toArray_toList];exact h3
theorem Jk.YT{w:World}{base g cap:Nat}{ks:List aO}{rest:List Value}(h:Jk w g ks rest)(hb:base<=g)(h1:ks.length<=cap)(h2:cap<=maxLen)(h3:ks.length*4+rest.length=cap*4):dK w base (slice (some ⟨g,0,none⟩) ks.length cap) ks:=by
 refine⟨fO ks,.inr ⟨g,cap,_,rfl,hb,h,h1,h2,?_,?_⟩⟩
 ·simp only[List.size_toArray,List.length_append,fO];omega
 ·show(ks.flatMap aO.cs++rest).take (ks.length*4)=_
  rw[List.take_append_of_le_length (by rw[fO];exact Nat.le_refl _),List.take_of_length_le (by rw[fO];exact Nat.le_refl _)]
theorem Jk.take{w:World}{g:Nat}{ks:List aO}{rest:List Value}(h:Jk w g ks rest)(m:Nat):Jk w g (ks.take m) ((ks.drop m).flatMap aO.cs++rest):=by
 unfold Jk at *;rw[<-List.append_assoc,<-List.flatMap_append,List.take_append_drop];exact h
def Xb(p:aO->Bool)(ks:List aO)(r:Int):Prop:=(r= -1/\ks.any p=false)\/∃(k:Nat) (x:aO),r=k/\ks[k]? =some x/\p x=true/\(ks.take k).any p=false
theorem Dx{p:aO->Bool}{ks:List aO}{k:Nat}{x:aO}(h:ks[k]? =some x):(ks.take (k+1)).any p=((ks.take k).any p||p x):=by
 obtain⟨hi,e⟩:=List.getElem?_eq_some_iff.1 h;rw[List.take_succ_eq_append_getElem hi,List.any_append,e];simp
theorem qI(w:World)(g m n c:Nat)(ks:List aO)(rest:List Value)(hg:Jk w g ks rest)(hn:0<n)(hm:m+n=ks.length):
  ∃w',(∀ty,(Builtin.clear_ #[27] ty #[slice (some ⟨g,m*4,none⟩) n c]).run Tryz.prog w=.ok (.tuple #[]) w')/\Jk w' g (ks.take m++List.replicate n (⟨0,0,0,0⟩:aO)) rest/\Below g w w'/\w'.heap.size=w.heap.size/\Kp g w w':=by
 have hzv:∀w,(zeroValue 93).run Tryz.prog w=.ok (.agg #[int i64 0,int i64 0,int i64 0,int i64 0]) w:=λw=>by kernel_rfl
 have hzc:(Builtin.zeroCells (Value.agg #[int i64 0,int i64 0,int i64 0,int i64 0]).cells n).toList=(List.replicate n (⟨0,0,0,0⟩:aO)).flatMap aO.cs:=by
  have hz8:(Value.agg #[int i64 0,int i64 0,int i64 0,int i64 0]).cells= #[int i64 0,int i64 0,int i64 0,int i64 0]:=by rfl
  rw[hz8];unfold Builtin.zeroCells;apply List.ext_getElem?;intro i;by_cases hi:i<n*4
  ·have e1:(List.replicate n (⟨0,0,0,0⟩:aO))[i/4]? =some ⟨0,0,0,0⟩:=by
    rw[List.getElem?_replicate,if_pos (by omega)]
   have e2:=lD _ (i/4) (i%4) _ e1 (Nat.mod_lt _ (by decide));rw[show i/4*4+i%4=i by omega] at e2;rw[e2];have h4:i%4<4:=Nat.mod_lt _ (by decide);simp[aO.cs,hi];generalize i%4=r at *
   match r,h4 with
   |0,_=>rfl
   |1,_=>rfl
   |2,_=>rfl
   |3,_=>rfl
  ·rw[List.getElem?_eq_none (by simp;omega),List.getElem?_eq_none (by rw[fO,List.length_replicate];omega)]
 obtain⟨vs,hvs⟩:∃vs,(List.replicate n (⟨0,0,0,0⟩:aO)).flatMap aO.cs=vs:=⟨_,rfl⟩;have hvl:vs.length=n*4:=by rw[<-hvs,fO,List.length_replicate]
 have h1c:∀v∈vs,v.oneCell'=true:=by
  intro v hv;rw[<-hvs] at hv;obtain⟨k,-,hk⟩:=List.mem_flatMap.1 hv;simp[aO.cs] at hk;rcases hk with rfl|rfl|rfl|rfl<;>rfl
 have hst:=run_storeCells_at (P:=Tryz.prog) g (m*4) 93 vs 0 _ w hg (by simp only[List.size_toArray,List.length_append,fO,hvl];omega) h1c;have hml:(ks.take m).length=m:=by rw[List.length_take];omega
 have hL:(ks.flatMap aO.cs++rest).toArray.toList.take (m*4+0)++vs++(ks.flatMap aO.cs++rest).toArray.toList.drop (m*4+0+vs.length)=(ks.take m++List.replicate n (⟨0,0,0,0⟩:aO)).flatMap aO.cs++rest:=by
  have e1:(ks.flatMap aO.cs++rest).take (m*4)=(ks.take m).flatMap aO.cs:=by
   conv=>lhs;rw[<-List.take_append_drop m ks,List.flatMap_append,List.append_assoc]
   rw[List.take_left' (by rw[fO,hml])]
  have e2:(ks.flatMap aO.cs++rest).drop (m*4+vs.length)=rest:=by
   rw[List.drop_left' (by rw[fO,hvl];omega)]
  show(ks.flatMap aO.cs++rest).take (m*4)++vs++(ks.flatMap aO.cs++rest).drop (m*4+vs.length)=_;rw[e1,e2,List.flatMap_append,hvs]
 rw[hL] at hst;refine⟨w.setRow g ((ks.take m++List.replicate n (⟨0,0,0,0⟩:aO)).flatMap aO.cs++rest).toArray,λty=>?_,?_,?_,?_,?_⟩
 ·obtain⟨n',rfl⟩:∃n',n=n'+1:=⟨n-1,by omega⟩
  simp only[hvs] at hzc;simp[Builtin.clear_,run_underlying Tryz.underlying27,hzv,hzc,hst]
 ·exact setRow_heap w g _ _ _ _ hg
 ·exact⟨rfl,rfl,rfl,by simp,λk hk=>setRow_other _ _ _ _ (by omega)⟩
 ·simp
 ·exact⟨rfl,rfl,rfl,by simp,λk hk hn=>setRow_other _ _ _ _ (by omega)⟩
theorem Ji(K:Nat)(eK:∀args w,(callFunc K args).run Tryz.prog w=.ok (.enter K args) w)(u:Value)(cs:Array Value)(ks:List aO)(p:aO->Bool)(w:World)(hu:KT w u ks)
  (hp:∀W,Below w.heap.size w W->∀k∈ks,Calls Tryz.prog K (#[k.val]++cs) W λe w'=>e=.returned (.bool (p k))/\Below W.heap.size W w'):
  Calls Tryz.prog 98 #[u,.func (Fn.func K) #[] cs] w λe w'=>∃r:Int,e=.returned (int i64 r)/\Xb p ks r/\Below w.heap.size w w':=by
 obtain⟨a,c,rfl,c1,c2,ca⟩:=hu;have Ca:=aj (ca);have Hp:=aj (hp);clear ca hp;go_enter Tryz.func98,Tryz.ntmps98;go_wp2;go_loopw [8] (λi W'=>∃k:Nat,k<=ks.length/\i=int i64 (k:Nat)/\(ks.take k).any p=false/\Below w.heap.size w W') (λi _=>ks.length-(intOf i).toNat)
 case atStart=>exact⟨0,Nat.zero_le _,rfl,by simp,Below.refl _ _⟩
 case round=>
  obtain⟨k,hk,rfl,ht,hb⟩:=hrel;have Ht:=aj (ht);have B:=aj (hb);clear ht hb;by_cases h0:k=ks.length
  ·subst h0
   go_wp2;go_ret;refine⟨_,rfl,.inl ⟨rfl,?_⟩,B⟩;have:=Ht.out;rw[List.take_of_length_le (Nat.le_refl _)] at this;exact this
  ·have hkx:k<ks.length:=by omega
   obtain⟨x,rfl,hx1,hx⟩:=Ca.out (by intro h;rw[h] at hkx;simp at hkx);obtain⟨y,hy⟩:∃y,ks[k]? =some y:=⟨_,List.getElem?_eq_getElem hkx⟩;have Yc:=(hx k y hy).below B.out (by rw[add_block];exact hx1);obtain⟨q0,q1,q2,q3⟩:=Yc;have hc:=Hp.out wr B.out y (List.mem_of_getElem? hy);have Hs:Hid _:=Dx (p:=p) hy;have Hm:=aj (hy);clear hx hx1 hy;cases hy:p y with
   |true=>
    rw[hy] at hc;have Hc:=aj (hc);have Hy:=aj (hy);clear hc hy;go_wp2_with fail
    refine Calls.mono Hc.out ?_;rintro e w1 ⟨rfl,b1⟩;have B1:=aj (B.out.trans (b1.mono B.out.size));clear b1;go_wp2;go_ret;exact⟨_,rfl,.inr ⟨k,y,rfl,Hm,Hy,Ht⟩,B1⟩
   |false=>
    rw[hy] at hc;have Hc:=aj (hc);have Hy:=aj (hy);clear hc hy;go_wp2_with fail
    refine Calls.mono Hc.out ?_;rintro e w1 ⟨rfl,b1⟩;have B1:=aj (B.out.trans (b1.mono B.out.size));clear b1;go_wp2;go_round
    case rel=>exact⟨k+1,by omega,by go_num,by have:=Hs.out;rw[Ht.out,Hy.out] at this;exact this,B1⟩
    case measure=>simp[intOf];omega
theorem Dy{ks L:List aO}{p:aO->Bool}{i j:Nat}{y:aO}(h:L.take i=(ks.take j).filter (λk=> !p k))(hd:L.drop j=ks.drop j)(hij:i<j)(hl:L.length=ks.length)(hy:ks[j]? =some y)(hp:p y=false):
  (L.set i y).take (i+1)=(ks.take (j+1)).filter (λk=> !p k)/\(L.set i y).drop (j+1)=ks.drop (j+1):=by
 have hj:=(List.getElem?_eq_some_iff.1 hy).1;have hi:i<L.length:=by omega
 constructor
 ·rw[List.take_succ_eq_append_getElem (by simpa using hi),List.take_set_of_le (Nat.le_refl _),List.getElem_set_self,h]
  have:(ks.take (j+1))=ks.take j++[y]:=by
   rw[List.take_succ_eq_append_getElem hj];rw[(List.getElem?_eq_some_iff.1 hy).2]
  rw[this,List.filter_append];simp[hp]
 ·rw[List.drop_set_of_lt (by omega)]
  have h1:L.drop (j+1)=(L.drop j).drop 1:=by rw[List.drop_drop]
  rw[h1,hd,List.drop_drop]
theorem rD{ks L:List aO}{p:aO->Bool}{i j:Nat}{y:aO}(h:L.take i=(ks.take j).filter (λk=> !p k))(hd:L.drop j=ks.drop j)(hy:ks[j]? =some y)(hp:p y=true):
  L.take i=(ks.take (j+1)).filter (λk=> !p k)/\L.drop (j+1)=ks.drop (j+1):=by
 have hj:=(List.getElem?_eq_some_iff.1 hy).1;constructor
 ·have:(ks.take (j+1))=ks.take j++[y]:=by
   rw[List.take_succ_eq_append_getElem hj];rw[(List.getElem?_eq_some_iff.1 hy).2]
  rw[this,List.filter_append,h];simp[hp]
 ·have h1:L.drop (j+1)=(L.drop j).drop 1:=by rw[List.drop_drop]
  rw[h1,hd,List.drop_drop]
theorem yI{ks:List aO}{p:aO->Bool}{i:Nat}{x:aO}(hx:ks[i]? =some x)(hp:p x=true)(hn:(ks.take i).any p=false):ks.take i=(ks.take (i+1)).filter (λk=> !p k):=by
 have hi:=(List.getElem?_eq_some_iff.1 hx).1;have:(ks.take (i+1))=ks.take i++[x]:=by
  rw[List.take_succ_eq_append_getElem hi];rw[(List.getElem?_eq_some_iff.1 hx).2]
 rw[this,List.filter_append];have e:(ks.take i).filter (λk=> !p k)=ks.take i:=by
  rw[List.filter_eq_self];intro a ha;have:=List.any_eq_false.1 hn a ha;simpa using this
 rw[e];simp[hp]
theorem tu{w w1 w':World}{g n c:Nat}(h:Below w.heap.size w w1)(k:Kp g w1 w'):w.grownBy w' (slice (some ⟨g,0,none⟩) n c).ownBlock:=
 ⟨k.os.trans h.os,k.tape.trans h.tape,k.output.trans h.output,Nat.le_trans h.size k.size,λi hi hr=>(k.block i (Nat.lt_of_lt_of_le hi h.size) (λe=>hr (by rw[e];rfl))).trans (h.block i hi)⟩
theorem Un(wb:World)(g i:Nat)(y:aO):Kp g wb ((((wb.setCell ⟨g,i*4,none⟩ (int i64 y.aA)).setCell ⟨g,i*4+1,none⟩ (int i64 y.unit)).setCell ⟨g,i*4+2,none⟩ (int i64 y.kind)).setCell ⟨g,i*4+3,none⟩ (int i64 y.left)):=
 (((Kp.set (z:=g) _ _ _).trans (Kp.set _ _ _)).trans (Kp.set _ _ _)).trans (Kp.set _ _ _)
theorem Jj(K:Nat)(eK:∀args w,(callFunc K args).run Tryz.prog w=.ok (.enter K args) w)(u:Value)(cs:Array Value)(ks:List aO)(p:aO->Bool)(w:World)(base:Nat)(hu:dK w base u ks)(hbase:base<=w.heap.size)(hl:ks.length<=1000000)
  (hp:∀W,Below base w W->w.grownBy W u.ownBlock->∀k∈ks,Calls Tryz.prog K (#[k.val]++cs) W λe w'=>e=.returned (.bool (p k))/\Below W.heap.size W w'):
  Calls Tryz.prog 53 #[u,.func (Fn.func K) #[] cs] w λe w'=>∃v,e=.returned v/\dK w' base v (ks.filter (λk=> !p k))/\Below base w w'/\w.grownBy w' u.ownBlock/\v.ownBlock=u.ownBlock:=by
 have H':=aj (Ji K eK u cs ks p w hu.l (λW hW k hk=>hp W (hW.mono hbase) ⟨hW.os,hW.tape,hW.output,hW.size,λk hk _=>hW.block k hk⟩ k hk));have Hp:=aj (hp);have U:=aj (hu);have HB:Hid (base<=w.heap.size/\ks.length<=1000000):=⟨hbase,hl⟩;clear hp hu hbase;go_enter Tryz.func53,Tryz.ntmps53;go_wp2_with fail
 refine Calls.mono H'.out ?_;rintro e w1 ⟨r,rfl,hf,hb⟩;have B1:=aj (hb.mono HB.out.1);have U1:=aj (U.out.below hb);have S1:=aj (hb.size);have G1:=aj (hb);clear hb U H';rcases hf with⟨rfl,hno⟩|⟨i0,x,rfl,hx,hpx,hnx⟩
 ·have NO:Hid (ks.filter (λk=> !p k)=ks):=by
   unfold Hid;rw[List.filter_eq_self];intro a ha;have:=List.any_eq_false.1 hno a ha;simpa using this
  clear hno;go_wp2;go_ret;exact⟨u,rfl,by rw[NO.out];exact U1.out,B1.out,⟨G1.out.os,G1.out.tape,G1.out.output,G1.out.size,λk hk _=>G1.out.block k hk⟩,rfl⟩
 have hi0:=(List.getElem?_eq_some_iff.1 hx).1;rcases U1.out.jk with⟨rfl,h⟩|⟨g,cap,rest,rfl,hbg,hkc,hcm,hcl,hub⟩
 ·rw[h] at hi0;simp at hi0
 have ST:=aj (yI hx hpx hnx);have GG:=aj (jD hbg hkc hcm hcl);have UB:=aj (hub);have hcm':cap<=9223372036854775807:=by unfold maxLen at hcm;omega
 clear hx hpx hnx hbg hcm hcl hub U1;have hm1:(((i0:Nat):Int)== -1)=false:=by rw[beq_eq_false_iff_ne];omega
 go_wp2;go_loopw [5,6] (λvi vj W=>∃(i j:Nat) (L:List aO),vi=int i64 (i:Nat)/\vj=int i64 (j:Nat)/\i<j/\j<=ks.length/\L.length=ks.length/\L.take i=(ks.take j).filter (λk=> !p k)/\L.drop j=ks.drop j/\Jk W g L rest/\Below base w W/\Kp g w1 W) (λ_ vj _=>ks.length-(intOf vj).toNat)
 case atStart=>exact⟨i0,i0+1,ks,rfl,by go_num,by omega,by omega,rfl,ST.out,rfl,UB.out,B1.out,Kp.refl _ _⟩
 case round=>
  obtain⟨i,j,L,rfl,rfl,hij,hjn,TM,TP,TS,TU,hLb,hLk⟩:=hrel;have LU:=aj (TU);have LB:=aj (hLb);have LK:=aj (hLk);clear hLk;have LL:=aj (iG TM TP TS);clear TU hLb TM TP TS UB B1 ST;by_cases h0:j=ks.length
  ·subst h0
   obtain⟨wc,hcl,Qy,hBc,Wv,hKc⟩:=qI wr g i (ks.length-i) (cap-i) L rest LU.out (by omega) (by rw[LL.out.1];omega);have UC:Hid (Jk wc g (L.take i) ((List.replicate (ks.length-i) (⟨0,0,0,0⟩:aO)).flatMap aO.cs++rest)):=by
    unfold Jk at Qy;unfold Hid Jk;rw[<-List.append_assoc,<-List.flatMap_append];exact Qy
   have BC:=aj (LB.out.trans (hBc.mono GG.out.1));have KC:=aj (LK.out.trans hKc);have IL:Hid ((L.take i).length=i):=by unfold Hid;rw[List.length_take,LL.out.1];omega
   clear Qy hBc Wv hKc;go_wp2;go_ret;have h1:=UC.out.YT (base:=base) (cap:=cap) GG.out.1 (by rw[IL.out];have:=GG.out.2.1;omega) GG.out.2.2.1 (by
    rw[IL.out,List.length_append,fO,List.length_replicate];have:=GG.out.2.2.2;omega)
   rw[IL.out] at h1;refine⟨_,rfl,?_,BC.out,tu G1.out KC.out,rfl⟩;have h2:=LL.out.2.1;rw[List.take_of_length_le (Nat.le_refl _)] at h2;rw[<-h2];exact h1
  ·have hjl:j<ks.length:=by omega
   have hji:((j:Nat):Int)<(ks.length:Nat):=by omega
   obtain⟨y,hy⟩:∃y,ks[j]? =some y:=⟨_,List.getElem?_eq_getElem hjl⟩;have TV:L[j]? =some y:=by
    have h1:(L.drop j)[0]? =(ks.drop j)[0]? :=by rw[LL.out.2.2]
    rw[List.getElem?_drop,List.getElem?_drop] at h1;rw[Nat.add_zero] at h1;rw[h1];exact hy
   obtain⟨q0,q1,q2,q3⟩:=LU.out.RZ TV;have HY:=aj (hy);have wi:IntKind.i64.wrap ((i:Nat)+1:Int)=((i:Nat):Int)+1:=by rw[IntKind.wrap_i64];omega
   have wj:IntKind.i64.wrap ((j:Nat)+1:Int)=((j:Nat):Int)+1:=by rw[IntKind.wrap_i64];omega
   clear TV hy;go_upto_region 8 with fail
   have BA:Hid (Below _ wr (wr.alloc (Obj.cells #[int i64 y.aA,int i64 y.unit,int i64 y.kind,int i64 y.left] 93))):=(Below.refl _ _).alloc (Nat.le_refl _) _;have XA:Hid (jS _ ⟨wr.heap.size,0,none⟩ y):=jS.mk' y rfl;generalize (wr.alloc _)=wa at *;have UA:=aj (LU.out.below BA.out LU.out.lt);have AB:=aj (LB.out.trans (BA.out.mono (Nat.le_trans HB.out.1 LB.out.size)));have KA:=aj (LK.out.trans (Kp.of BA.out));clear LK;obtain⟨z,hz⟩:∃z,wr.heap.size=z:=⟨_,rfl⟩;rw[hz] at XA ⊢;have ZG:Hid (g<z):=by rw[<-hz];exact LU.out.lt
   clear hz BA LU LB q0 q1 q2 q3;obtain⟨q0,q1,q2,q3⟩:=XA.out;cases hpy:p y with
   |true=>
    have PY:=aj (hpy);have hc:=Hp.out wa AB.out (tu G1.out KA.out) y (List.mem_of_getElem? HY.out);rw[hpy] at hc;have Hc:=aj (hc);clear hc hpy;go_wp2_with fail
    refine Calls.mono Hc.out ?_;rintro e wb ⟨rfl,hb⟩;have UW:=aj (UA.out.below hb UA.out.lt);have WB:=aj (AB.out.trans (hb.mono (Nat.le_trans HB.out.1 AB.out.size)));have KW:=aj (KA.out.trans (Kp.of hb));clear KA;clear hb q0 q1 q2 q3 UA AB XA Hc;go_wp2;go_round
    case rel=>exact⟨i,j+1,L,rfl,by go_num,by omega,by omega,LL.out.1,(rD LL.out.2.1 LL.out.2.2 HY.out PY.out).1,(rD LL.out.2.1 LL.out.2.2 HY.out PY.out).2,UW.out,WB.out,KW.out⟩
    case measure=>simp[intOf];omega
   |false=>
    have PY:=aj (hpy);have hc:=Hp.out wa AB.out (tu G1.out KA.out) y (List.mem_of_getElem? HY.out);rw[hpy] at hc;have Hc:=aj (hc);clear hc hpy;go_wp2_with fail
    refine Calls.mono Hc.out ?_;rintro e wb ⟨rfl,hb⟩;have UW:=aj (UA.out.below hb UA.out.lt);have WB:=aj (AB.out.trans (hb.mono (Nat.le_trans HB.out.1 AB.out.size)));have KW:=aj (KA.out.trans (Kp.of hb));clear KA;have XB:=aj (XA.out.below hb XA.out.lt);clear hb q0 q1 q2 q3 UA AB XA Hc;have hil:i<L.length:=by rw[LL.out.1];omega
    obtain⟨z0,hz0⟩:∃z0,L[i]? =some z0:=⟨_,List.getElem?_eq_getElem hil⟩;obtain⟨q0,q1,q2,q3⟩:=XB.out;obtain⟨r0,r1,r2,r3⟩:=UW.out.RZ hz0;have f0:=UW.out.thaw (i*4);have f1:=UW.out.thaw (i*4+1);have f2:=UW.out.thaw (i*4+2);have f3:=UW.out.thaw (i*4+3);have UP:=aj (UW.out.put hil y);have BP:Hid (Below _ w ((((wb.setCell _ _).setCell _ _).setCell _ _).setCell ⟨g,i*4+3,none⟩ _)):=Jh y WB.out GG.out.1;have KP:=aj (KW.out.trans (Un wb g i y));have DK:=Dy LL.out.2.1 LL.out.2.2 hij LL.out.1 HY.out PY.out;have DH:Hid ((L.set i y).length=ks.length/\(L.set i y).take (i+1)=(ks.take (j+1)).filter (λk=> !p k)/\(L.set i y).drop (j+1)=ks.drop (j+1)):=⟨by rw[List.length_set];exact LL.out.1,DK.1,DK.2⟩;clear DK hz0 hil;go_wp2;go_round
    case rel=>exact⟨i+1,j+1,L.set i y,by go_num,by go_num,by omega,by omega,DH.out.1,DH.out.2.1,DH.out.2.2,UP.out,BP.out,KP.out⟩
    case measure=>simp[intOf];omega
def bJ(u:aC):Bool:=decide (u.life<=0)
def iM(us:List aC)(j:aO):Bool:= !us.any (λu=>u.id==j.unit)
theorem rE(u:aC)(w:World):Calls Tryz.prog 111 (#[u.val]++ #[]) w λe w'=>e=.returned (.bool (bJ u))/\Below w.heap.size w w':=by
 rw[Array.append_empty];have B0:Hid (Below w.heap.size w (w.alloc (Obj.cells #[int i64 u.id,int i64 u.aA,int i64 u.kind,int i64 u.at_,int i64 u.life,int i64 u.load,int i64 u.task,int i64 u.goal] 74))):=(Below.refl _ _).alloc (Nat.le_refl _) _;have O0:Hid (dB (w.alloc (Obj.cells #[int i64 u.id,int i64 u.aA,int i64 u.kind,int i64 u.at_,int i64 u.life,int i64 u.load,int i64 u.task,int i64 u.goal] 74)) ⟨w.heap.size,0,none⟩ u):=dB.mk' u rfl;unfold aC.val;go_enter Tryz.func111,Tryz.ntmps111;go_upto_region 1 with fail
 generalize (w.alloc (Obj.cells #[int i64 u.id,int i64 u.aA,int i64 u.kind,int i64 u.at_,int i64 u.life,int i64 u.load,int i64 u.task,int i64 u.goal] 74))=w0 at *;obtain⟨q0,q1,q2,q3,q4,q5,q6,q7⟩:=O0.out;go_wp2;go_ret;exact⟨rfl,B0.out⟩
theorem Jl(X:WV)(us:List aC)(v1 v2 v3 v4 v5:Value)(id:Int)(w:World)(h:jF w v4 us):
  Calls Tryz.prog 113 #[.agg #[int i64 X.turn,int i64 X.next,int i64 X.wide,int i64 X.high,v1,v2,v3,v4,v5],int i64 id] w λe w'=>∃r:Int,e=.returned (int i64 r)/\jg (λu=>u.id==id) us r/\Below w.heap.size w w':=by
 have U:Hid (jF w v4 us):=h;clear h;go_enter Tryz.func113,Tryz.ntmps113;go_wp2_with fail
 have B0:Hid (Below w.heap.size w ((w.alloc (Obj.cells #[int i64 X.turn,int i64 X.next,int i64 X.wide,int i64 X.high,v1,v2,v3,v4,v5] 29)).alloc (Obj.cells #[int i64 id] 3))):=((Below.refl _ _).alloc (Nat.le_refl _) _).alloc (by simp) _;have C0:Hid (((w.alloc (Obj.cells #[int i64 X.turn,int i64 X.next,int i64 X.wide,int i64 X.high,v1,v2,v3,v4,v5] 29)).alloc (Obj.cells #[int i64 id] 3)).cell? ⟨w.heap.size+1,0,none⟩=some (int i64 id)):=dh (by simp) rfl;generalize ((w.alloc (Obj.cells #[int i64 X.turn,int i64 X.next,int i64 X.wide,int i64 X.high,v1,v2,v3,v4,v5] 29)).alloc (Obj.cells #[int i64 id] 3))=w0 at *;refine(nS 161 (by intro args w;go_simp) v4 #[.pointer (some ⟨w.heap.size+1,0,none⟩)] us (λu=>u.id==id) w0 (U.out.below B0.out) (λV hV k=>zO k id (w.heap.size+1) V (by rw[hV.cell (p:=⟨w.heap.size+1,0,none⟩) (cell_lt C0.out)];exact C0.out))).mono ?_;rintro e w1 ⟨r,rfl,hf,hb⟩;have F:Hid (jg (λu=>u.id==id) us r/\Below w.heap.size w w1):=⟨hf,B0.out.trans (hb.mono B0.out.size)⟩;clear hf hb;go_wp2;go_ret;exact⟨r,rfl,F.out.1,F.out.2⟩
theorem Dz(X:WV)(us:List aC)(j:aO)(bw:Nat)(v1 v2 v3 v4 v5:Value)(w:World)(hb:Bw w bw X v1 v2 v3 v4 v5)(hw:jF w v4 us):
  Calls Tryz.prog 112 (#[j.val]++ #[.pointer (some ⟨bw,0,none⟩)]) w λe w'=>e=.returned (.bool (iM us j))/\Below w.heap.size w w':=by
 have H:Hid (jF w v4 us):=hw;have B0:Hid (Below w.heap.size w (w.alloc (Obj.cells #[int i64 j.aA,int i64 j.unit,int i64 j.kind,int i64 j.left] 93))):=(Below.refl _ _).alloc (Nat.le_refl _) _;have O0:Hid (jS (w.alloc (Obj.cells #[int i64 j.aA,int i64 j.unit,int i64 j.kind,int i64 j.left] 93)) ⟨w.heap.size,0,none⟩ j):=jS.mk' j rfl;have X0:Hid (Bw (w.alloc (Obj.cells #[int i64 j.aA,int i64 j.unit,int i64 j.kind,int i64 j.left] 93)) bw X v1 v2 v3 v4 v5):=hb.below B0.out hb.lt;clear hw hb;show Calls Tryz.prog 112 #[j.val,.pointer (some ⟨bw,0,none⟩)] w _;unfold aO.val;go_enter Tryz.func112,Tryz.ntmps112;go_upto_region 1 with fail
 generalize (w.alloc (Obj.cells #[int i64 j.aA,int i64 j.unit,int i64 j.kind,int i64 j.left] 93))=w0 at *;obtain⟨q0,q1,q2,q3⟩:=O0.out;obtain⟨x0,x1,x2,x3,x4,x5,x6,x7,x8⟩:=X0.out;go_wp2_with fail
 refine(Jl X us v1 v2 v3 v4 v5 j.unit w0 (H.out.below B0.out)).mono ?_;rintro e w1 ⟨r,rfl,hf,hb⟩;have B1:Hid (Below w.heap.size w w1):=B0.out.trans (hb.mono B0.out.size);have OR:Hid (iM us j=decide (r<0)):=by
  have:=hf.has;unfold Hid iM;rw[<-this];by_cases h:0<=r
  ·rw[decide_eq_true h,decide_eq_false (by omega)];rfl
  ·rw[decide_eq_false h,decide_eq_true (by omega)];rfl
 clear hb hf q0 q1 q2 q3 x0 x1 x2 x3 x4 x5 x6 x7 x8;go_wp2;go_ret;exact⟨by rw[OR.out];rfl,B1.out⟩
theorem yJ(vk:Value)(ks:List KV)(X:WV)(g1 g2 g3 g4 g5:Value)(Wn base:Nat)(w:World)(hX:aQ ks X)(hW:X.wide=(Wn:Nat))(h1:0<Wn)(h2:Wn<=12)
  (hk:Kl w vk ks) (hw:Wl w (.agg #[int i64 X.turn,int i64 X.next,int i64 X.wide,int i64 X.high,g1,g2,g3,g4,g5]) X) (hub:dQ w base g4 X.us):
  Calls Tryz.prog 110 #[vk,.agg #[int i64 X.turn,int i64 X.next,int i64 X.wide,int i64 X.high,g1,g2,g3,g4,g5]] w λe w'=>∃ev,e=.returned ev/\dY w' w.heap.size ev (strikes ks Wn X.us X.us).2/\dQ w' base g4 (hurt X.us (strikes ks Wn X.us X.us).1)/\w.grownBy w' g4.ownBlock:=by
 by_cases hne:X.us=[]
 ·obtain⟨a,c,rfl⟩:=hub.len
  rw[hne] at hub hw ⊢;refine(yH vk _ _ _ _ g1 g2 g3 g5 a c w).mono ?_;rintro e w' ⟨rfl,hb⟩;exact⟨_,rfl,dY.nil _ _,hub.below hb,Ii hb⟩
 ·rcases hub.ub with⟨-,h⟩|⟨g,cap,rest,rfl,hbg,hkc,hcm,hcl,hu⟩
  ·exact absurd h hne
  ·refine(vP vk ks X X.us g1 g2 g3 g5 g cap Wn rest w hX rfl hW h1 h2 hne hk hw hu).mono ?_
   rintro e w' ⟨ev,rfl,he,hu',hkp⟩;have hl:(hurt X.us (strikes ks Wn X.us X.us).1).length=X.us.length:=iq dU;have h3:=hu'.Ql (base:=base) (cap:=cap) hbg (by rw[hl];exact hkc) hcm (by rw[hl];exact hcl);rw[hl] at h3;exact⟨ev,rfl,he,h3,ny hkp⟩
def iO(u:aC):bM:=⟨3,u.id,0⟩
def struck(ks:List KV)(Wn:Nat)(X:WV):List aC:=hurt X.us (strikes ks Wn X.us X.us).1
def stays(ks:List KV)(Wn:Nat)(X:WV):List aC:=(struck ks Wn X).filter (λu=> !bJ u)
def iw(ks:List KV)(Wn:Nat)(X:WV):WV:={X with us:=stays ks Wn X,qs:=X.qs.filter (λj=> !iM (stays ks Wn X) j)}
def lW(ks:List KV)(Wn:Nat)(X:WV):List bM:=(strikes ks Wn X.us X.us).2++((struck ks Wn X).filter bJ).map iO
theorem iT{ks:List KV}{W:Nat}{us:List aC}:∀(l:List aC) (s:List Int×List bM),(l.foldl (stk ks W us) s).2.length<=s.2.length+l.length
 |[],s=>Nat.le_refl _
 |u::l,s=>by
  rw[List.foldl_cons];have h1:=iT (ks:=ks) (W:=W) (us:=us) l (stk ks W us s u);have h2:(stk ks W us s u).2.length<=s.2.length+1:=by
   unfold stk;split
   ·omega
   ·simp
  rw[List.length_cons];omega
theorem DC{hs:List aC}{n:Nat}{y:aC}(hy:hs[n]? =some y):((hs.take (n+1)).filter bJ).map iO=((hs.take n).filter bJ).map iO++(if bJ y then[iO y] else[]):=by
 obtain⟨hi,e⟩:=List.getElem?_eq_some_iff.1 hy;rw[List.take_succ_eq_append_getElem hi,e,List.filter_append,List.map_append];cases h:bJ y<;>simp[h]
def DF(ks:List KV)(X:WV)(w w':World)(v ev:Value):Prop:=
 (Wd.aF ks X≠0/\v=.agg #[int i64 0,int i64 0,int i64 0,int i64 0,slice none 0 0,slice none 0 0,slice none 0 0,slice none 0 0,slice none 0 0]/\ev=slice none 0 0)
 \/(Wd.aF ks X=0/\∃Wn:Nat,X.wide=(Wn:Nat)/\0<Wn/\Wn<=12/\Wo w' w.heap.size v (iw ks Wn X)/\dY w' w.heap.size ev (lW ks Wn X))
theorem DI(vk vw:Value)(ks:List KV)(X:WV)(w:World)(hk:Kl w vk ks)(hb:∀k∈ks,k.b.size<=9223372036854775807)(hw:Wl w vw X):
  Calls Tryz.prog 61 #[vk,vw] w λe w'=>∃v ev r,e=.returned (.tuple #[v,ev,r])/\Er r (Wd.aF ks X)/\DF ks X w w' v ev/\Below w.heap.size w w':=by
 have K:Hid (Kl w vk ks/\∀k∈ks,k.b.size<=9223372036854775807):=⟨hk,hb⟩;have H:=aj (hw);obtain⟨p1,q1,p2,q2,p3,q3,p4,q4,p5,q5,rfl⟩:=aV hw;obtain⟨pk,qk,rfl,ck1,ck2,kc⟩:=hk;clear hb hw kc;go_enter Tryz.func61,Tryz.ntmps61;go_upto_region 1 with fail
 obtain⟨B0,X0,Z0⟩:=n_ w (int i64 X.turn) (int i64 X.next) (int i64 X.wide) (int i64 X.high) (slice p1 X.gs.length q1) (slice p2 X.os.length q2) (slice p3 X.gold.length q3) (slice p4 X.us.length q4) (slice p5 X.qs.length q5);generalize ((w.alloc _).alloc _)=w0 at *;obtain⟨x0,x1,x2,x3,x4,x5,x6,x7,x8⟩:=X0.out.cells;go_wp2_with fail
 refine(dI _ _ ks X w0 (K.out.1.below B0.out) K.out.2 (H.out.below B0.out)).mono ?_;rintro e w1 ⟨r,rfl,hr,hb⟩;obtain⟨fw,hfw⟩:∃f,Wd.aF ks X=f:=⟨_,rfl⟩;have FW:=aj (hfw);rw[hfw] at hr;have B1:=aj (B0.out.trans (hb.mono B0.out.size));have X1:=aj (X0.out.below hb X0.out.lt);have Z1:=aj (Z0.out.below hb Z0.out.lt);clear hb hfw x0 x1 x2 x3 x4 x5 x6 x7 x8 X0 B0 Z0;rcases hr with⟨rfl,rfl⟩|⟨hf,rfl⟩
 case inr=>
  have HF:=aj (hf);clear hf;obtain⟨z0,z1,z2,z3,z4,z5,z6,z7,z8⟩:=Z1.out.cells;obtain⟨t0,t1,t2,t3,t4,t5,t6,t7,t8⟩:=Z1.out.bC;have KZ:=aj (dF w1 (w.heap.size+1));obtain⟨y0,y1,y2,y3,y4,y5,y6,y7,y8⟩:=(Z1.out.jJ).cells;go_wp2;clear z0 z1 z2 z3 z4 z5 z6 z7 z8 t0 t1 t2 t3 t4 t5 t6 t7 t8;generalize World.setCell _ ⟨_,8,none⟩ _=w9 at *;refine bodyPost_ret (v:=.tuple #[.agg _,slice _ 0 0,.iface 85 (int i64 fw)]) (by simp[results,Tryz.results61,go_sem,y0,y1,y2,y3,y4,y5,y6,y7,y8]) rfl ⟨_,_,_,rfl,by rw[FW.out];exact Er.no HF.out,.inl ⟨by rw[FW.out];exact HF.out,rfl,rfl⟩,KZ.out.below B1.out B1.out.size (by omega)⟩
 have WR:=aj (aY FW.out);obtain⟨Wn,Hn,e1,e2,G⟩:=WR.out.good;have GD:Hid (X.wide=(Wn:Nat)/\0<Wn/\Wn<=12):=⟨e1,G.w1,G.w2⟩;clear e1 e2 G;obtain⟨x0,x1,x2,x3,x4,x5,x6,x7,x8⟩:=X1.out.cells;go_wp2_with fail
 refine(gy _ X w1 (H.out.below B1.out) WR.out.len).mono ?_;rintro e w2 ⟨cu,rfl,⟨k1,k2,k3,k4,k5,rfl,⟨o1,o2,o3,o4,o5⟩,-,-,d14,d15,-,d24,d25,d34,d35,d45⟩,hb⟩;obtain⟨a1,r1,rfl⟩:=o1.len;obtain⟨a2,r2,rfl⟩:=o2.len;obtain⟨a3,r3,rfl⟩:=o3.len;obtain⟨a4,r4,rfl⟩:=o4.len;obtain⟨a5,r5,rfl⟩:=o5.len;obtain⟨b1,hb1⟩:∃z,w1.heap.size=z:=⟨_,rfl⟩;rw[hb1] at o1 o2 o3 o4 o5;have BS:Hid (w.heap.size+1<b1/\b1<=w2.heap.size):=⟨by rw[<-hb1];exact Z1.out.lt,by rw[<-hb1];exact hb.size⟩;have X2:=aj (X1.out.below hb X1.out.lt);have Z2:=aj (Z1.out.below hb Z1.out.lt);have B2:=aj (B1.out.trans (hb.mono B1.out.size));have O2:=aj (fK o1 o2 o3 o4 o5);have DD:=aj (Fe d14 d15 d24 d25 d34 d35 d45);clear hb hb1 x0 x1 x2 x3 x4 x5 x6 x7 x8 o1 o2 o3 o4 o5 d14 d15 d24 d25 d34 d35 d45 X1 Z1 B1;obtain⟨z0,z1,z2,z3,z4,z5,z6,z7,z8⟩:=X2.out.cells;obtain⟨t0,t1,t2,t3,t4,t5,t6,t7,t8⟩:=X2.out.bC;have KZ:=aj (bP w2 w.heap.size (int i64 X.turn) (int i64 X.next) (int i64 X.wide) (int i64 X.high) (slice a1 X.gs.length r1) (slice a2 X.os.length r2) (slice a3 X.gold.length r3) (slice a4 X.us.length r4) (slice a5 X.qs.length r5));have X3:=aj (X2.out.put (int i64 X.turn) (int i64 X.next) (int i64 X.wide) (int i64 X.high) (slice a1 X.gs.length r1) (slice a2 X.os.length r2) (slice a3 X.gold.length r3) (slice a4 X.us.length r4) (slice a5 X.qs.length r5));go_upto_region 5 with fail
 clear z0 z1 z2 z3 z4 z5 z6 z7 z8 t0 t1 t2 t3 t4 t5 t6 t7 t8;generalize World.setCell _ ⟨_,8,none⟩ _=w3 at *;have Z3:=aj (Z2.out.kp KZ.out (by omega));have B3:=aj (KZ.out.below B2.out B2.out.size (Nat.le_refl _));have O3:Hid (Ow w3 b1 (slice a1 X.gs.length r1) X.gs/\Ow w3 b1 (slice a2 X.os.length r2) X.os/\Ow w3 b1 (slice a3 X.gold.length r3) X.gold/\dQ w3 b1 (slice a4 X.us.length r4) X.us/\dK w3 b1 (slice a5 X.qs.length r5) X.qs):=by
  have h:=BS.out.1;exact⟨O2.out.1.kp KZ.out (by omega),O2.out.2.1.kp KZ.out (by omega),O2.out.2.2.1.kp KZ.out (by omega),O2.out.2.2.2.1.kp KZ.out (by omega),O2.out.2.2.2.2.kp KZ.out (by omega)⟩
 obtain⟨b3,hb3⟩:∃z,w3.heap.size=z:=⟨_,rfl⟩;have S3:Hid (b1<=b3/\w3.heap.size=b3):=⟨by rw[<-hb3];exact Nat.le_trans BS.out.2 KZ.out.size,hb3⟩;have L3:Hid (Wl w3 (.agg #[int i64 X.turn,int i64 X.next,int i64 X.wide,int i64 X.high,slice a1 X.gs.length r1,slice a2 X.os.length r2,slice a3 X.gold.length r3,slice a4 X.us.length r4,slice a5 X.qs.length r5]) X):=⟨(slice a1 X.gs.length r1),(slice a2 X.os.length r2),(slice a3 X.gold.length r3),(slice a4 X.us.length r4),(slice a5 X.qs.length r5),rfl,O3.out.1.ro,O3.out.2.1.ro,O3.out.2.2.1.ro,O3.out.2.2.2.1.l,O3.out.2.2.2.2.l⟩;clear hb3 KZ X2 Z2 B2 O2;obtain⟨x0,x1,x2,x3,x4,x5,x6,x7,x8⟩:=X3.out.cells;go_wp2_with fail
 refine(yJ _ ks X _ _ _ _ _ Wn b1 w3 WR.out GD.out.1 GD.out.2.1 GD.out.2.2 (K.out.1.below B3.out) L3.out O3.out.2.2.2.1).mono ?_;rintro e w4 ⟨ev,rfl,hev,hu4,hg⟩;rw[S3.out.2] at hev;have BG:=aj ((Below.refl _ _).grown hg (by have:=S3.out;omega) (λk hk=>(O3.out.2.2.2.1.block k hk).1));have X4:=aj (X3.out.below BG.out (by have:=BS.out.1;omega));have Z4:=aj (Z3.out.below BG.out BS.out.1);have B4:=aj (B3.out.trans (BG.out.mono (by have:=BS.out.1;omega)));have O4:Hid (Ow w4 b1 (slice a1 X.gs.length r1) X.gs/\Ow w4 b1 (slice a2 X.os.length r2) X.os/\Ow w4 b1 (slice a3 X.gold.length r3) X.gold/\dK w4 b1 (slice a5 X.qs.length r5) X.qs):=⟨bK O3.out.1 hg (λb h1 h2=>DD.out.1 b h1 h2),bK O3.out.2.1 hg (λb h1 h2=>DD.out.2.2.1 b h1 h2),bK O3.out.2.2.1 hg (λb h1 h2=>DD.out.2.2.2.2.1 b h1 h2),bK O3.out.2.2.2.2 hg (λb h1 h2=>DD.out.2.2.2.2.2.2 b h2 h1)⟩;have LB:Hid ((∀b,(slice a1 X.gs.length r1).ownBlock=some b->b<b3)/\(∀b,(slice a2 X.os.length r2).ownBlock=some b->b<b3)/\(∀b,(slice a3 X.gold.length r3).ownBlock=some b->b<b3)/\(∀b,(slice a4 X.us.length r4).ownBlock=some b->b<b3)/\(∀b,(slice a5 X.qs.length r5).ownBlock=some b->b<b3)):=by
  rw[<-S3.out.2];exact⟨λb h=>(O3.out.1.block b h).2,λb h=>(O3.out.2.1.block b h).2,λb h=>(O3.out.2.2.1.block b h).2,λb h=>(O3.out.2.2.2.1.block b h).2,λb h=>(O3.out.2.2.2.2.block b h).2⟩
 obtain⟨hs,Ar⟩:∃l,struck ks Wn X=l:=⟨_,rfl⟩;obtain⟨es,hes⟩:∃l,(strikes ks Wn X.us X.us).2=l:=⟨_,rfl⟩;have hu4':dQ w4 b1 _ (struck ks Wn X):=hu4;rw[Ar] at hu4';rw[hes] at hev;have U4:=aj (hu4');have E4:=aj (hev);have HS:Hid (struck ks Wn X=hs/\(strikes ks Wn X.us X.us).2=es/\hs.length<=40/\es.length<=40):=by
  have zQ:=WR.out.ul;refine⟨Ar,hes,?_,?_⟩
  ·rw[<-Ar];unfold struck;rw[iq dU];exact zQ
  ·rw[<-hes]
   have:=iT (ks:=ks) (W:=Wn) (us:=X.us) X.us (List.replicate X.us.length 0,[]);unfold strikes;simp at this;omega
 have S4:Hid (b3<=w4.heap.size):=by have:=S3.out.2;have:=hg.size;unfold Hid;omega
 have Lc:Hid (hs.length=X.us.length):=by unfold Hid;rw[<-HS.out.1];unfold struck;exact iq dU
 have hsl:=WR.out.ul;clear hev hu4 hu4' hg Ar hes x0 x1 x2 x3 x4 x5 x6 x7 x8 X3 Z3 B3 O3 L3 BG;obtain⟨-,-,-,-,-,-,-,x7,-⟩:=X4.out.cells;go_upto_region 8 with fail
 clear x7;go_loopw [8,28] (λv8 v28 V=>∃(n:Nat) (ev:Value),v28=int i64 (n:Nat)/\ev=v8/\n<=X.us.length/\dY V b3 ev (es++((hs.take n).filter bJ).map iO)/\Below b3 w4 V) (λ_ v28 _=>X.us.length-(intOf v28).toNat)
 case atStart=>exact⟨0,_,rfl,rfl,Nat.zero_le _,by simpa using E4.out,Below.refl _ _⟩
 case round=>
  obtain⟨n,ev',rfl,rfl,hn,hev,hbb⟩:=hrel;have E5:=aj (hev);have BB:=aj (hbb);have UL:=aj (dQ.l (jZ U4.out hbb (λb h=>LB.out.2.2.2.1 b h)));clear hev hbb E4;by_cases h0:n=X.us.length
  ·subst h0
   rw[List.take_of_length_le (by rw[Lc.out];exact Nat.le_refl _)] at E5;have hnl:¬(((X.us.length:Nat):Int)<(X.us.length:Nat)):=by omega
   obtain⟨fs,hfs⟩:∃l,es++(hs.filter bJ).map iO=l:=⟨_,rfl⟩;have FE:Hid (lW ks Wn X=fs):=by unfold Hid lW;rw[HS.out.1,HS.out.2.1];exact hfs
   rw[hfs] at E5;have U5:Hid (dQ wr b1 (slice a4 X.us.length r4) hs):=jZ U4.out BB.out (λb h=>LB.out.2.2.2.1 b h);have O5:Hid (Ow wr b1 (slice a1 X.gs.length r1) X.gs/\Ow wr b1 (slice a2 X.os.length r2) X.os/\Ow wr b1 (slice a3 X.gold.length r3) X.gold/\dK wr b1 (slice a5 X.qs.length r5) X.qs):=⟨jZ O4.out.1 BB.out (λb h=>LB.out.1 b h),jZ O4.out.2.1 BB.out (λb h=>LB.out.2.1 b h),jZ O4.out.2.2.1 BB.out (λb h=>LB.out.2.2.1 b h),jZ O4.out.2.2.2 BB.out (λb h=>LB.out.2.2.2.2 b h)⟩;have X5:=aj (X4.out.below BB.out (by have:=BS.out.1;have:=S3.out.1;omega));have Z5:=aj (Z4.out.below BB.out (by have:=BS.out.1;have:=S3.out.1;omega));have B5:=aj (B4.out.trans (BB.out.mono (by have:=BS.out.1;have:=S3.out.1;omega)));have S5:Hid (b1<=wr.heap.size):=by have:=S4.out;have:=BB.out.size;have:=S3.out.1;unfold Hid;omega
   clear hfs UL BB U4 O4 X4 Z4 B4 S4;obtain⟨-,-,-,-,-,-,-,x7,-⟩:=X5.out.cells;go_wp2_with fail
   refine(Ap _ (by intro args w;go_simp) (slice a4 X.us.length r4) #[] hs bJ wr b1 U5.out S5.out (by have:=HS.out.2.2.1;omega) (λW _ _ h _=>rE h W)).mono ?_;rintro e w6 ⟨v4,rfl,ho,hb,hg,hown⟩;obtain⟨st,hst⟩:∃l,hs.filter (λk=> !bJ k)=l:=⟨_,rfl⟩;have ST:Hid (stays ks Wn X=st):=by unfold Hid stays;rw[HS.out.1];exact hst
   rw[hst] at ho;obtain⟨a6,r6,rfl⟩:=ho.len;have U6:=aj (ho);have OB:=aj (hown);have O6:Hid (Ow w6 b1 (slice a1 X.gs.length r1) X.gs/\Ow w6 b1 (slice a2 X.os.length r2) X.os/\Ow w6 b1 (slice a3 X.gold.length r3) X.gold/\dK w6 b1 (slice a5 X.qs.length r5) X.qs):=⟨bK O5.out.1 hg (λb h1 h2=>DD.out.1 b h1 h2),bK O5.out.2.1 hg (λb h1 h2=>DD.out.2.2.1 b h1 h2),bK O5.out.2.2.1 hg (λb h1 h2=>DD.out.2.2.2.2.1 b h1 h2),bK O5.out.2.2.2 hg (λb h1 h2=>DD.out.2.2.2.2.2.2 b h2 h1)⟩;have E6:Hid (dY w6 b3 ev' fs):=bK E5.out hg (λb h1 h2=>by have:=LB.out.2.2.2.1 b h2;have:=(E5.out.block b h1).1;omega);have X6:=aj (X5.out.below hb (by have:=BS.out.1;omega));have Z6:=aj (Z5.out.below hb BS.out.1);have B6:=aj (B5.out.trans (hb.mono (by have:=BS.out.1;omega)));have S6:=aj (Nat.le_trans S5.out hb.size);clear ho hb hg hown hst x7 U5 O5 X5 Z5 B5 S5 E5;obtain⟨-,-,-,-,-,-,-,x7,-⟩:=X6.out.cells;have t7:=X6.out.thaw 7;have X7:Hid (Wx _ _ _ _ _ _ _ _ _ (slice a6 st.length r6) _):=X6.out.wS _;have K7:Hid (Kp _ w6 (w6.setCell ⟨w.heap.size,7,none⟩ (slice a6 st.length r6))):=Kp.set _ _ _;go_upto_region 14 with fail
   clear x7 t7;generalize (w6.setCell _ _)=w7 at *;have U7:=aj (U6.out.kp K7.out (by have:=BS.out.1;omega));have O7:Hid (Ow w7 b1 (slice a1 X.gs.length r1) X.gs/\Ow w7 b1 (slice a2 X.os.length r2) X.os/\Ow w7 b1 (slice a3 X.gold.length r3) X.gold/\dK w7 b1 (slice a5 X.qs.length r5) X.qs):=by
    have h:=BS.out.1;exact⟨O6.out.1.kp K7.out (by omega),O6.out.2.1.kp K7.out (by omega),O6.out.2.2.1.kp K7.out (by omega),O6.out.2.2.2.kp K7.out (by omega)⟩
   have E7:=aj (E6.out.kp9 K7.out (by have:=BS.out.1;have:=S3.out.1;omega));have Z7:=aj (Z6.out.kp K7.out (by omega));have B7:=aj (K7.out.below B6.out B6.out.size (Nat.le_refl _));have S7:=aj (Nat.le_trans S6.out K7.out.size);clear K7 U6 O6 E6 Z6 B6 S6 X6;obtain⟨-,-,-,-,-,-,-,-,x8⟩:=X7.out.cells;go_wp2_with fail
   refine(Jj _ (by intro args w;go_simp) (slice a5 X.qs.length r5) #[.pointer (some ⟨w.heap.size,0,none⟩)] X.qs (iM st) w7 b1 O7.out.2.2.2 S7.out (by have:=WR.out.ql;omega) (λW hbW hgW j _=>Dz X st j _ _ _ _ _ _ W (Tz (X7.out.below hbW (by have:=BS.out.1;omega))) (dQ.l (bK U7.out hgW (λb h1 h2=>DD.out.2.2.2.2.2.2 b (by rw[<-OB.out];exact h1) h2))))).mono ?_;rintro e w8 ⟨v5,rfl,ho,hb,hg,-⟩;obtain⟨DJ,OG⟩:∃l,X.qs.filter (λk=> !iM st k)=l:=⟨_,rfl⟩;have FO:Hid (iw ks Wn X={X with us:=st,qs:=DJ}):=by unfold Hid iw;rw[ST.out,OG]
   rw[OG] at ho;obtain⟨a8,r8,rfl⟩:=ho.len;have J8:=aj (ho);have O8:Hid (Ow w8 b1 (slice a1 X.gs.length r1) X.gs/\Ow w8 b1 (slice a2 X.os.length r2) X.os/\Ow w8 b1 (slice a3 X.gold.length r3) X.gold/\dQ w8 b1 (slice a6 st.length r6) st):=⟨bK O7.out.1 hg (λb h1 h2=>DD.out.2.1 b h1 h2),bK O7.out.2.1 hg (λb h1 h2=>DD.out.2.2.2.1 b h1 h2),bK O7.out.2.2.1 hg (λb h1 h2=>DD.out.2.2.2.2.2.1 b h1 h2),bK U7.out hg (λb h1 h2=>DD.out.2.2.2.2.2.2 b (by rw[<-OB.out];exact h1) h2)⟩;have E8:Hid (dY w8 b3 ev' fs):=bK E7.out hg (λb h1 h2=>by have:=LB.out.2.2.2.2 b h2;have:=(E7.out.block b h1).1;omega);have X8:=aj (X7.out.below hb (by have:=BS.out.1;omega));have Z8:=aj (Z7.out.below hb BS.out.1);have B8:=aj (B7.out.trans (hb.mono (by have:=BS.out.1;omega)));clear ho hb hg OG x8 U7 O7 X7 Z7 B7 S7 E7;obtain⟨-,-,-,-,-,-,-,-,x8⟩:=X8.out.cells;have t8:=X8.out.thaw 8;have X9:Hid (Wx _ _ _ _ _ _ _ _ _ _ (slice a8 DJ.length r8)):=X8.out.Gn _;have K9:Hid (Kp _ w8 (w8.setCell ⟨w.heap.size,8,none⟩ (slice a8 DJ.length r8))):=Kp.set _ _ _;go_upto_region 16 with fail
   clear x8 t8;generalize (w8.setCell _ _)=w9 at *;have J9:=aj (J8.out.kp K9.out (by have:=BS.out.1;omega));have O9:Hid (Ow w9 b1 (slice a1 X.gs.length r1) X.gs/\Ow w9 b1 (slice a2 X.os.length r2) X.os/\Ow w9 b1 (slice a3 X.gold.length r3) X.gold/\dQ w9 b1 (slice a6 st.length r6) st):=by
    have h:=BS.out.1;exact⟨O8.out.1.kp K9.out (by omega),O8.out.2.1.kp K9.out (by omega),O8.out.2.2.1.kp K9.out (by omega),O8.out.2.2.2.kp K9.out (by omega)⟩
   have E9:=aj (E8.out.kp9 K9.out (by have:=BS.out.1;have:=S3.out.1;omega));have Z9:=aj (Z8.out.kp K9.out (by omega));have B9:=aj (K9.out.below B8.out B8.out.size (Nat.le_refl _));clear K9 J8 O8 E8 Z8 B8 X8;obtain⟨x0,x1,x2,x3,x4,x5,x6,x7,x8⟩:=X9.out.cells;obtain⟨z0,z1,z2,z3,z4,z5,z6,z7,z8⟩:=Z9.out.cells;obtain⟨t0,t1,t2,t3,t4,t5,t6,t7,t8⟩:=Z9.out.bC;have KZ:=aj (bP w9 (w.heap.size+1) (int i64 X.turn) (int i64 X.next) (int i64 X.wide) (int i64 X.high) (slice a1 X.gs.length r1) (slice a2 X.os.length r2) (slice a3 X.gold.length r3) (slice a6 st.length r6) (slice a8 DJ.length r8));obtain⟨y0,y1,y2,y3,y4,y5,y6,y7,y8⟩:=(Z9.out.put (int i64 X.turn) (int i64 X.next) (int i64 X.wide) (int i64 X.high) (slice a1 X.gs.length r1) (slice a2 X.os.length r2) (slice a3 X.gold.length r3) (slice a6 st.length r6) (slice a8 DJ.length r8)).cells;go_wp2;clear x0 x1 x2 x3 x4 x5 x6 x7 x8 z0 z1 z2 z3 z4 z5 z6 z7 z8 t0 t1 t2 t3 t4 t5 t6 t7 t8;generalize World.setCell _ ⟨_,8,none⟩ _=wz at *;refine bodyPost_ret (v:=.tuple #[.agg #[int i64 X.turn,int i64 X.next,int i64 X.wide,int i64 X.high,slice a1 X.gs.length r1,slice a2 X.os.length r2,slice a3 X.gold.length r3,slice a6 st.length r6,slice a8 DJ.length r8],ev',.nilIface]) (by simp[results,Tryz.results61,go_sem,y0,y1,y2,y3,y4,y5,y6,y7,y8]) rfl ⟨_,_,_,rfl,by rw[FW.out];exact Er.nil,.inr ⟨FW.out,Wn,GD.out.1,GD.out.2.1,GD.out.2.2,?_,?_⟩,KZ.out.below B9.out B9.out.size (by omega)⟩
   ·have h:=BS.out.1
    rw[FO.out];exact⟨_,_,_,_,_,rfl,(O9.out.1.kp KZ.out (by omega)).mono (by omega),(O9.out.2.1.kp KZ.out (by omega)).mono (by omega),(O9.out.2.2.1.kp KZ.out (by omega)).mono (by omega),(O9.out.2.2.2.kp KZ.out (by omega)).mono (by omega),(J9.out.kp KZ.out (by omega)).mono (by omega)⟩
   ·have h:=BS.out.1
    have h':=S3.out.1;rw[FE.out];exact(E9.out.kp9 KZ.out (by omega)).mono (by omega)
  ·have hnl:n<X.us.length:=by omega
   have Xc:n<hs.length:=by rw[Lc.out];exact hnl
   have hni:((n:Nat):Int)<(X.us.length:Nat):=by omega
   obtain⟨y,hy⟩:∃y,hs[n]? =some y:=⟨_,List.getElem?_eq_getElem Xc⟩;obtain⟨a',c',he,-,-,hu⟩:=UL.out;obtain⟨xu,hxu,hxl,hxc⟩:=hu (by intro h;rw[h] at Xc;simp at Xc);injection he with he1 he2 he3
   subst he1;subst hxu;obtain⟨y0,y1,y2,y3,y4,y5,y6,y7⟩:=hxc n y hy;have NX:=DC hy;have WN:IntKind.i64.wrap ((n:Nat)+1:Int)=((n:Nat):Int)+1:=by rw[IntKind.wrap_i64];omega
   obtain⟨fs,hfs⟩:∃l,es++((hs.take n).filter bJ).map iO=l:=⟨_,rfl⟩;have FL:Hid (fs.length<=80):=by
    have h1:((hs.take n).filter bJ).length<=(hs.take n).length:=List.length_filter_le _ _;have h2:(hs.take n).length<=n:=by simp;omega
    have h3:=HS.out.2.2.2;unfold Hid;rw[<-hfs,List.length_append,List.length_map];omega
   have NY:Hid (es++((hs.take (n+1)).filter bJ).map iO=fs++(if bJ y then[iO y] else[])):=by unfold Hid;rw[NX,<-List.append_assoc,hfs]
   rw[hfs] at E5;clear hu he2 he3 hxl hxc hy NX hfs;go_upto_region 10 with fail
   have BA:Hid (Below _ wr (wr.alloc (Obj.cells #[int i64 y.id,int i64 y.aA,int i64 y.kind,int i64 y.at_,int i64 y.life,int i64 y.load,int i64 y.task,int i64 y.goal] 74))):=(Below.refl _ _).alloc (Nat.le_refl _) _;obtain⟨bu,hbu⟩:∃z,wr.heap.size=z:=⟨_,rfl⟩;have U6:=aj (dB.mk' y hbu);rw[hbu];generalize (wr.alloc _)=w6 at *;have B6:=aj (BB.out.trans (BA.out.mono (Nat.le_trans S4.out BB.out.size)));have E6:=aj (E5.out.below BA.out);clear y0 y1 y2 y3 y4 y5 y6 y7 hbu BA BB E5 UL;obtain⟨y0,y1,y2,y3,y4,y5,y6,y7⟩:=U6.out;have FG:Hid (Calls Tryz.prog 111 #[.agg #[int i64 y.id,int i64 y.aA,int i64 y.kind,int i64 y.at_,int i64 y.life,int i64 y.load,int i64 y.task,int i64 y.goal]] w6 λe w'=>e=.returned (.bool (bJ y))/\Below w6.heap.size w6 w'):=by
    have:=rE y w6;rw[Array.append_empty] at this;exact this
   go_wp2_with fail
   refine Calls.mono FG.out ?_;rintro e w7 ⟨rfl,hb⟩;have B7:=aj (B6.out.trans (hb.mono (Nat.le_trans S4.out B6.out.size)));have E7:=aj (E6.out.below hb);have U7:=aj (U6.out.below hb U6.out.lt);clear hb y0 y1 y2 y3 y4 y5 y6 y7 FG B6 E6 U6;cases hfl:bJ y with
   |false=>
    have NZ:Hid (es++((hs.take (n+1)).filter bJ).map iO=fs):=by unfold Hid;rw[NY.out,hfl];simp
    clear hfl;go_wp2;go_round
    case rel=>exact⟨n+1,_,by go_num,rfl,by omega,by rw[NZ.out];exact E7.out,B7.out⟩
    case measure=>simp[intOf];omega
   |true=>
    have NZ:Hid (es++((hs.take (n+1)).filter bJ).map iO=fs++[iO y]):=by unfold Hid;rw[NY.out,hfl];simp
    clear hfl;obtain⟨y0,y1,y2,y3,y4,y5,y6,y7⟩:=U7.out;have BA:Hid (Below _ w7 (w7.alloc (Obj.cells #[int i64 3,int i64 y.id,int i64 0] 169))):=(Below.refl _ _).alloc (Nat.le_refl _) _;have EC:Hid (oK (w7.alloc (Obj.cells #[.int _ 3,.int _ y.id,.int _ 0] _)) _ _):=oK.mk' (iO y) rfl;have E8:=aj (E7.out.below BA.out);have B8:=aj (B7.out.trans (BA.out.mono (Nat.le_trans S4.out B7.out.size)));have SZ:=aj (Nat.le_trans S4.out B8.out.size);go_wp2_with (at_builtin;refine sV _ rfl _ _ rfl b3 _ fs rfl E8.out _ (iO y) rfl EC.out (by have:=FL.out;omega) SZ.out ?_);intro gg gc w9 o9 g9 _ _;have E9:=aj (o9);have B9:=aj (B8.out.grown g9 (Nat.le_trans S4.out B8.out.size) (λk hk=>(E8.out.block k hk).1));clear o9 g9 y0 y1 y2 y3 y4 y5 y6 y7 BA EC E8 B8 SZ;go_wp2;go_round
    case rel=>exact⟨n+1,_,by go_num,rfl,by omega,by rw[NZ.out];exact E9.out,B9.out⟩
    case measure=>simp[intOf];omega
end Go.Proofs.YtolfphmdmpehdaaGreatDoor
namespace Go.Proofs.YtolfphmdmpehdaaGreatDoor
theorem mX{α:Type}{p:α->Bool}:∀(l:List α) (i:Nat) (x:α),(l.filter p)[i]? =some x->∃j,l[j]? =some x/\p x=true/\(l.filter p).take i=(l.take j).filter p
 |[],i,x,h=>by simp at h
 |a::l,i,x,h=>by
  cases hp:p a with
  |true=>
   rw[List.filter_cons_of_pos hp] at h ⊢;cases i with
   |zero=>
    simp at h;subst h;exact⟨0,rfl,hp,rfl⟩
   |succ i=>
    rw[List.getElem?_cons_succ] at h;obtain⟨j,h1,h2,h3⟩:=mX l i x h;exact⟨j+1,by rw[List.getElem?_cons_succ];exact h1,h2,by rw[List.take_succ_cons,List.take_succ_cons,List.filter_cons_of_pos hp,h3]⟩
  |false=>
   have hn:¬p a=true:=by rw[hp];simp
   rw[List.filter_cons_of_neg hn] at h ⊢;obtain⟨j,h1,h2,h3⟩:=mX l i x h;exact⟨j+1,by rw[List.getElem?_cons_succ];exact h1,h2,by rw[List.take_succ_cons,List.filter_cons_of_neg hn,h3]⟩
theorem rF{us:List aC}{lost:List Int}{j:Nat}{y:aC}(h:(hurt us lost)[j]? =some y):∃u x,us[j]? =some u/\lost[j]? =some x/\y={u with life:=u.life-x}:=by
 unfold hurt at h;rw[List.getElem?_zipWith] at h;cases hu:us[j]? with
 |none=>rw[hu] at h;simp at h
 |some u=>
  cases hx:lost[j]? with
  |none=>rw[hu,hx] at h;simp at h
  |some x=>
   rw[hu,hx] at h;simp at h;exact⟨u,x,rfl,rfl,h.symm⟩
theorem DT{us:List aC}{lost:List Int}{j:Nat}{y:aC}(h:y∈(hurt us lost).take j):∃i u x,i<j/\us[i]? =some u/\lost[i]? =some x/\y={u with life:=u.life-x}:=by
 obtain⟨i,hi⟩:=List.mem_iff_getElem?.1 h;have hl:i<j:=by
  have:=(List.getElem?_eq_some_iff.1 hi).1;rw[List.length_take] at this;omega
 rw[List.getElem?_take,if_pos hl] at hi;obtain⟨u,x,h1,h2,h3⟩:=rF hi;exact⟨i,u,x,hl,h1,h2,h3⟩
theorem DV{ks:List KV}{Wn:Nat}{X:WV}(h:aQ ks X):yA 40000 (strikes ks Wn X.us X.us).1:=by
 have:=gV (W:=Wn) (us:=X.us) h.kinds X.us.length (Nat.le_refl _);rw[List.take_of_length_le (Nat.le_refl _)] at this;intro x hx;have:=this x hx;have:=h.ul;omega
theorem rG{ks:List KV}{Wn:Nat}{X:WV}(h:aQ ks X){i:Nat}{y:aC}(hy:(stays ks Wn X)[i]? =some y):
  ∃j u x,X.us[j]? =some u/\(strikes ks Wn X.us X.us).1[j]? =some x/\y={u with life:=u.life-x}/\1<=u.life-x/\0<=x/\(stays ks Wn X).take i=((struck ks Wn X).take j).filter (λu=> !bJ u):=by
 obtain⟨j,h1,h2,h3⟩:=mX (struck ks Wn X) i y hy;obtain⟨u,x,hu,hx,rfl⟩:=rF h1;have hl:1<=u.life-x:=by
  unfold bJ at h2;simp at h2;omega
 exact⟨j,u,x,hu,hx,rfl,hl,(DV h x (List.mem_of_getElem? hx)).1,h3⟩
theorem tC{ks:List KV}{Wn:Nat}{X:WV}(h:aQ ks X):Wd.aF ks (iw ks Wn X)=0:=by
 obtain⟨Wm,Hm,e1,e2,G⟩:=h.good;refine Wd.dR h.kinds (by show Fd.fault X.wide X.high X.gs X.os=0;rw[e1,e2];exact Fd.dH G) h.nums ?_ ?_ ?_ ?_
 ·show(stays ks Wn X).length<=40
  have h1:(stays ks Wn X).length<=(struck ks Wn X).length:=List.length_filter_le _ _;have h2:(struck ks Wn X).length=X.us.length:=by unfold struck;exact iq dU
  have:=h.ul;omega
 ·intro i y hy
  have hy':(stays ks Wn X)[i]? =some y:=hy;obtain⟨j,u,x,hu,hx,rfl,hl,hx0,ht⟩:=rG h hy';obtain⟨k,f⟩:=h.fine hu;have AH:∀p∈(stays ks Wn X).take i,∃j' u' x',j'<j/\X.us[j']? =some u'/\p={u' with life:=u'.life-x'}:=λp hp=>by
   rw[ht] at hp;obtain⟨j',u',x',a1,a2,-,a3⟩:=DT (List.mem_filter.1 hp).1;exact⟨j',u',x',a1,a2,a3⟩
  refine⟨k,f.id1,f.id2,?_,f.p,f.k0,f.kk,⟨hl,by have:=f.life.2;show u.life-x<=k.n0;omega⟩,f.load,f.task,f.at_,f.goal,?_,f.rest⟩
  ·show Wd.bH (stays ks Wn X) i _=false
   cases i with
   |zero=>rfl
   |succ i=>
    have hil:i<(stays ks Wn X).length:=by have:=(List.getElem?_eq_some_iff.1 hy').1;omega
    obtain⟨p,hp⟩:∃p,(stays ks Wn X)[i]? =some p:=⟨_,List.getElem?_eq_getElem hil⟩;simp only[Wd.bH,hp,decide_eq_false_iff_not];obtain⟨j',u',x',a1,a2,rfl⟩:=AH p (List.mem_of_getElem? (by rw[List.getElem?_take,if_pos (Nat.lt_succ_self _)];exact hp));have:=lG h (j-j'-1) j' u' u a2 (by rw[show j'+(j-j'-1)+1=j by omega];exact hu);show ¬u.id<=u'.id;omega
  ·have ho:=f.opn
   unfold Wd.open_ at ho;rw[Bool.and_eq_true] at ho;show Wd.open_ X.gs ((stays ks Wn X).take i) u.at_ k.f=true;unfold Wd.open_;rw[Bool.and_eq_true];refine⟨ho.1,?_⟩;rw[Bool.not_eq_true',List.any_eq_false];intro p hp;obtain⟨j',u',x',a1,a2,rfl⟩:=AH p hp;have h1:=ho.2;rw[Bool.not_eq_true',List.any_eq_false] at h1;exact h1 u' (List.mem_of_getElem? (by rw[List.getElem?_take,if_pos a1];exact a2))
 ·show(X.qs.filter _).length<=12
  have:=List.length_filter_le (λj=> !iM (stays ks Wn X) j) X.qs;have:=h.ql;omega
 ·intro j hj
  have hj':j∈X.qs.filter _:=hj;obtain⟨hjm,hjo⟩:=List.mem_filter.1 hj';have hx:=h.job hjm;unfold iM at hjo;rw[Bool.not_not,List.any_eq_true] at hjo;obtain⟨y,hy,hyi⟩:=hjo;have hfs:((stays ks Wn X).find? (λu=>u.id==j.unit)).isSome=true:=List.find?_isSome.2 ⟨y,hy,hyi⟩;obtain⟨y0,hy0⟩:=Option.isSome_iff_exists.1 hfs;have hm0:=List.mem_of_find?_eq_some hy0;have hi0:=List.find?_some hy0;obtain⟨i0,hi0'⟩:=List.mem_iff_getElem?.1 hm0;obtain⟨j0,u0,x0,hu0,-,rfl,-,-,-⟩:=rG h hi0';have QD:u0.id=j.unit:=by simpa using hi0
  cases hf:X.us.find? (λu=>u.id==j.unit) with
  |none=>
   unfold Wd.aJ at hx;rw[hf] at hx;cases hx
  |some u1=>
   have hm1:=List.mem_of_find?_eq_some hf;have hi1:u1.id=j.unit:=by simpa using List.find?_some hf
   obtain⟨j1,hj1⟩:=List.mem_iff_getElem?.1 hm1;have:=sH h hu0 hj1 (by rw[QD,hi1]);subst this;rw[hu0] at hj1;injection hj1 with hj1
   subst hj1;unfold Wd.aJ at hx ⊢;rw[hf] at hx;have hy1:(iw ks Wn X).us.find? _=some _:=hy0;rw[hy1];exact hx
open Go.RowKit
def qA(x y:Int):Int:=if x<y then -1 else if y<x then 1 else 0
def or3(x y z:Int):Int:=if x≠0 then x else if y≠0 then y else z
def Jm(o:aK):Int:=if o.what=3 then 0 else 1
def mY(a b:aK):Int:=or3 (qA a.aA b.aA) (qA a.unit b.unit) (qA (Jm a) (Jm b))
theorem DW(x:Int)(w:World):Calls Tryz.prog 231 #[int i64 x] w λe w'=>e=.returned (.bool false)/\w'=w:=by
 go_enter Tryz.func231,Tryz.ntmps231;go_wp2;go_ret;exact⟨by simp,rfl⟩
theorem yK(x y:Int)(w:World):Calls Tryz.prog 188 #[int i64 x,int i64 y] w λe w'=>e=.returned (int i64 (qA x y))/\w'=w:=by
 have NA:=aj (DW);by_cases h1:x<y
 ·go_enter Tryz.func188,Tryz.ntmps188
  go_wp2_with fail
  refine(NA.out _ _).mono ?_;rintro e w' ⟨rfl,rfl⟩;go_wp2_with fail
  refine(NA.out _ _).mono ?_;rintro e w' ⟨rfl,rfl⟩;go_wp2;go_ret;exact⟨by simp[qA,h1],rfl⟩
 ·by_cases h2:y<x
  ·go_enter Tryz.func188,Tryz.ntmps188
   go_wp2_with fail
   refine(NA.out _ _).mono ?_;rintro e w' ⟨rfl,rfl⟩;go_wp2_with fail
   refine(NA.out _ _).mono ?_;rintro e w' ⟨rfl,rfl⟩;go_wp2;go_ret;exact⟨by simp[qA,h1,h2],rfl⟩
  ·go_enter Tryz.func188,Tryz.ntmps188
   go_wp2_with fail
   refine(NA.out _ _).mono ?_;rintro e w' ⟨rfl,rfl⟩;go_wp2_with fail
   refine(NA.out _ _).mono ?_;rintro e w' ⟨rfl,rfl⟩;go_wp2;go_ret;exact⟨by unfold qA;rw[if_neg (by omega),if_neg (by omega)];rfl,rfl⟩
theorem Jo(o:aK)(w:World):Calls Tryz.prog 189 #[o.val] w λe w'=>e=.returned (int i64 (Jm o))/\Below w.heap.size w w':=by
 obtain⟨p,u,n,a⟩:=o;have BB:Hid (Below _ w (w.alloc (Obj.cells #[int i64 p,int i64 u,int i64 n,int i64 a] 96))):=(Below.refl _ _).alloc (Nat.le_refl _) _;unfold aK.val Jm;simp only;by_cases h:n=3
 ·subst h
  go_enter Tryz.func189,Tryz.ntmps189;go_wp2;go_ret;exact⟨rfl,BB⟩
 ·have hb:=beq_eq_false_iff_ne.2 h
  rw[if_neg h];go_enter Tryz.func189,Tryz.ntmps189;go_wp2;go_ret;exact⟨rfl,BB⟩
theorem QI(x y z:Int)(b:Nat)(w:World)(h0:w.cell? ⟨b,0,none⟩=some (int i64 x))(h1:w.cell? ⟨b,1,none⟩=some (int i64 y))(h2:w.cell? ⟨b,2,none⟩=some (int i64 z)):
  Calls Tryz.prog 187 #[slice (some ⟨b,0,none⟩) 3 3] w λe w'=>e=.returned (int i64 (or3 x y z))/\w'=w:=by
 by_cases hx:x=0
 ·subst hx
  by_cases hy:y=0
  ·subst hy
   by_cases hz:z=0
   ·subst hz
    go_enter Tryz.func187,Tryz.ntmps187;go_wp2;refine wp_loop_rounds 4 ?_;rw[rounds_succ];go_wp2;rw[rounds_succ];go_wp2;rw[rounds_succ];go_wp2;rw[rounds_succ];go_wp2;go_ret;exact⟨rfl,rfl⟩
   ·have hzb:=beq_eq_false_iff_ne.2 hz
    go_enter Tryz.func187,Tryz.ntmps187;go_wp2;refine wp_loop_rounds 3 ?_;rw[rounds_succ];go_wp2;rw[rounds_succ];go_wp2;rw[rounds_succ];go_wp2;go_ret;exact⟨by simp[or3],rfl⟩
  ·have hyb:=beq_eq_false_iff_ne.2 hy
   go_enter Tryz.func187,Tryz.ntmps187;go_wp2;refine wp_loop_rounds 2 ?_;rw[rounds_succ];go_wp2;rw[rounds_succ];go_wp2;go_ret;exact⟨by simp[or3,hy],rfl⟩
 ·have hxb:=beq_eq_false_iff_ne.2 hx
  go_enter Tryz.func187,Tryz.ntmps187;go_wp2;refine wp_loop_rounds 1 ?_;rw[rounds_succ];go_wp2;go_ret;exact⟨by simp[or3,hx],rfl⟩
end Go.Proofs.YtolfphmdmpehdaaGreatDoor
namespace Go.Proofs.YtolfphmdmpehdaaGreatDoor.So
abbrev T:=aK×Nat
def wJ(a b:aK):Prop:=a.aA<b.aA\/(a.aA=b.aA/\(a.unit<b.unit\/(a.unit=b.unit/\Jm a<Jm b)))
theorem tH{x y:Int}:qA x y<0↔x<y:=by
 unfold qA;split
 ·omega
 ·split<;>omega
theorem lX{x y:Int}:qA x y=0↔x=y:=by
 unfold qA;split
 ·omega
 ·split<;>omega
theorem iP(a b:aK):mY a b<0↔wJ a b:=by
 unfold mY or3 wJ;by_cases h1:qA a.aA b.aA=0
 ·rw[if_neg (λh=>h h1)]
  have e1:=lX.1 h1;by_cases h2:qA a.unit b.unit=0
  ·rw[if_neg (λh=>h h2),tH]
   have e2:=lX.1 h2;omega
  ·rw[if_pos h2,tH]
   have e2:¬a.unit=b.unit:=λe=>h2 (lX.2 e)
   omega
 ·rw[if_pos h1,tH]
  have e2:¬a.aA=b.aA:=λe=>h1 (lX.2 e)
  omega
instance (a b:aK):Decidable (wJ a b):=by unfold wJ;infer_instance
theorem Jp{a b:aK}(h:wJ a b):¬wJ b a:=by unfold wJ at *;omega
def lt(x y:T):Prop:=wJ x.1 y.1\/(¬wJ y.1 x.1/\x.2<y.2)
theorem lt_trans{x y z:T}(h:lt x y)(k:lt y z):lt x z:=by
 unfold lt wJ at *;omega
theorem QJ(x:T):¬lt x x:=by
 unfold lt wJ;omega
theorem tJ{x y:T}(h:x.2<y.2):wJ y.1 x.1↔lt y x:=by
 unfold lt wJ;omega
theorem tK{x y:T}(h:x.2<y.2):¬wJ y.1 x.1↔lt x y:=by
 unfold lt wJ;omega
theorem nG:∀{l l':List T},l.Perm l'->l.Pairwise lt->l'.Pairwise lt->l=l'
 |[],l',p,_,_=>by
  have:=p.length_eq;cases l' with
  |nil=>rfl
  |cons x l'=>simp at this
 |x::l,[],p,_,_=>by
  have:=p.length_eq;simp at this
 |x::l,y::l',p,h,h'=>by
  rw[List.pairwise_cons] at h h';have exy:x=y:=by
   have hx:=p.mem_iff.1 (List.mem_cons_self ..);have hy:=p.mem_iff.2 (List.mem_cons_self ..);rcases List.mem_cons.1 hx with e|hx
   ·exact e
   ·rcases List.mem_cons.1 hy with e|hy
    ·exact e.symm
    ·exact absurd (lt_trans (h.1 y hy) (h'.1 x hx)) (QJ x)
  subst exy;rw[nG (List.Perm.cons_inv p) h.2 h'.2]
theorem pV{S1 S2:List T}{x:T}(h:(S1++S2).Pairwise lt)(h1:∀y∈S1,lt y x)(h2:∀y∈S2,lt x y):(S1++x::S2).Pairwise lt:=by
 rw[List.pairwise_append] at h ⊢;refine⟨h.1,List.pairwise_cons.2 ⟨h2,h.2.1⟩,λa ha b hb=>?_⟩;rcases List.mem_cons.1 hb with rfl|hb
 ·exact h1 a ha
 ·exact h.2.2 a ha b hb
theorem Jq{S1 S2:List T}(h1:S1.Pairwise lt)(h2:S2.Pairwise lt)(h:∀x∈S1,∀y∈S2,lt x y):(S1++S2).Pairwise lt:=List.pairwise_append.2 ⟨h1,h2,h⟩
end Go.Proofs.YtolfphmdmpehdaaGreatDoor.So
namespace Go.Proofs.YtolfphmdmpehdaaGreatDoor
open Go.RowKit
theorem Ny:laidOutB Tryz.prog=true:=by kernel_rfl
theorem Jr:(214:TypeId)<Tryz.prog.types.size:=of_decide_eq_true (by kernel_rfl)
theorem Nz:(match Tryz.prog.underlying 214 with|some (.array _ _)|some (.struct _)=>true|_=>false)=true:=by kernel_rfl
theorem NH:Tryz.prog.keyTypeAt 3 214=true:=by kernel_rfl
theorem tN:Maps.Keyed Tryz.prog 214:=Maps.Keyed.of_law (deep_law_laid Ny (m:=3) (by omega) Jr NH Nz)
theorem Js:Tryz.prog.cellsOf 214=2:=by kernel_rfl
theorem QM:Tryz.prog.cellsOf 3=1:=by kernel_rfl
theorem NI:Tryz.prog.keyType 214=true:=by kernel_rfl
theorem NJ:∃m,Tryz.prog.types.size=m+1:=⟨Tryz.prog.types.size-1,by have h:0<Tryz.prog.types.size:=Nat.lt_of_le_of_lt (Nat.zero_le _) Jr;omega⟩
theorem Jt{p u:Int}(hp:(Lit.int i64 p).wf=true)(hu:(Lit.int i64 u).wf=true):∃kl,keyOf Tryz.prog 214 (.agg #[int i64 p,int i64 u])=some kl:=by
 obtain⟨m,hm⟩:=NJ;have ht:=NI;have hc:=Js;have hi:=QM;unfold keyOf;simp only[Tryz.underlying214];rw[if_pos (by simp[ht,Value.formed,Tryz.underlying214,hc]),hm];unfold Program.keyLits;simp only[Tryz.underlying214,Value.cells];rw[if_pos ⟨by rw[hc];rfl,by kernel_rfl⟩];simp[Program.keyLits,Tryz.underlying3,hp,hu,hi]
theorem NP(w:World):(zeroValue 3).run Tryz.prog w=.ok (int i64 0) w:=by kernel_rfl
theorem wf64{n:Int}(h0: -9223372036854775808<=n)(h1:n<=9223372036854775807):(Lit.int i64 n).wf=true:=WalkArith.wf_i64 (by omega)
def Um(w:World)(b n:Nat)(f:Int->Int->Int):Prop:=∃D:DataW Unit,w.ownsMap Tryz.prog 214 (plainElem Tryz.prog 3) b n D/\Maps.IsMap D/\∀p u kl,keyOf Tryz.prog 214 (.agg #[.int .i64 p,.int .i64 u])=some kl->D.atKey kl (.lit (.int .i64 0))=.lit (.int .i64 (f p u))
def rH(f:Int->Int->Int)(p u v:Int):Int->Int->Int:=λp' u'=>if p'=p/\u'=u then v else f p' u'
theorem NR(w:World):Um (w.alloc (.map #[] 0)) w.heap.size 0 (λ_ _=>0):=
 ⟨.map [],World.ownsMap_made _ _ _ _,Maps.isMap_empty,λp u kl _=>Maps.atKey_of_not_has rfl _⟩
theorem Um.lt{w:World}{b n:Nat}{f:Int->Int->Int}(h:Um w b n f):b<w.heap.size:=by
 obtain⟨D,h1,-⟩:=h;exact h1.lt
theorem Um.gb{w w':World}{b n:Nat}{f:Int->Int->Int}{r:Option Nat}(h:Um w b n f)(g:w.grownBy w' r)(hr:some b≠r):Um w' b n f:=by
 obtain⟨D,h1,h2⟩:=h;exact⟨D,h1.kept g hr,h2⟩
theorem Um.below{w w':World}{b n:Nat}{f:Int->Int->Int}(h:Um w b n f)(g:Below w.heap.size w w'):Um w' b n f:=
 h.gb (r:=none) ⟨g.os,g.tape,g.output,g.size,λk hk _=>g.block k hk⟩ (by simp)
theorem Um.put{w:World}{b n:Nat}{f:Int->Int->Int}(h:Um w b n f)(hn:n<maxLen){p u v:Int}(hp:(Lit.int i64 p).wf=true)(hu:(Lit.int i64 u).wf=true)(hv:(Lit.int i64 v).wf=true):
  ∃w',(Instr.mapUpdate 211 (.map (some b)) (.agg #[int i64 p,int i64 u]) (int i64 v)).run Tryz.prog w=.ok () w'/\Um w' b (n+1) (rH f p u v)/\w.grownBy w' (some b):=by
 obtain⟨D,h1,hD,h2⟩:=h;obtain⟨kl,hk⟩:=Jt hp hu;obtain⟨w',r,o,g⟩:=World.ownsMap.update h1 tN Tryz.underlying211 hn hk (plainElem_int Tryz.underlying3 hv);refine⟨w',r,⟨_,o,hD.put _ _,λp' u' kl' hk'=>?_⟩,g⟩;unfold rH;by_cases e:kl'=kl
 ·subst e
  have ei:=tN.inj hk hk';simp only[Value.agg.injEq,Array.mk.injEq,List.cons.injEq,Value.int.injEq,true_and,and_true] at ei;rw[if_pos ⟨ei.1.symm,ei.2.symm⟩];exact Maps.atKey_put_same hD (tN.key hk) _ _
 ·rw[Maps.atKey_put_other e,if_neg,h2 p' u' kl' hk']
  rintro⟨rfl,rfl⟩;exact e (Option.some.inj (hk'.symm.trans hk))
theorem Um.look{w:World}{b n:Nat}{f:Int->Int->Int}(h:Um w b n f){p u:Int}(hp:(Lit.int i64 p).wf=true)(hu:(Lit.int i64 u).wf=true):
  (Instr.lookup 211 (.map (some b)) (.agg #[int i64 p,int i64 u]) false).run Tryz.prog w=.ok (int i64 (f p u)) w:=by
 obtain⟨D,h1,hD,h2⟩:=h;obtain⟨kl,hk⟩:=Jt hp hu;obtain⟨c,hr,hat,-⟩:=h1.lookup_int tN Tryz.underlying211 Tryz.underlying3 (NP w) hk;rw[h2 p u kl hk] at hat;injection hat with e
 injection e with _ e
 rw[e];exact hr
end Go.Proofs.YtolfphmdmpehdaaGreatDoor
namespace Go.Proofs.YtolfphmdmpehdaaGreatDoor
namespace So
def lf(l:List aK):Nat->Int->Int->Int
 |0=>λ_ _=>0
 |q+1=>match l[q]? with
  |some o=>if o.what=3 then lf l q else rH (lf l q) o.aA o.unit (q:Nat)
  |none=>lf l q
def kp(l:List aK):Nat->List T
 |0=>[]
 |q+1=>match l[q]? with
  |some o=>if o.what=3\/lf l l.length o.aA o.unit=(q:Nat) then kp l q++[(o,q)] else kp l q
  |none=>kp l q
theorem Ju{l:List aK}{q:Nat}{o:aK}(h:l[q]? =some o)(h3:o.what=3):lf l (q+1)=lf l q:=by rw[lf];simp only[h];rw[if_pos h3]
theorem vS{l:List aK}{q:Nat}{o:aK}(h:l[q]? =some o)(h3:¬o.what=3):lf l (q+1)=rH (lf l q) o.aA o.unit (q:Nat):=by rw[lf];simp only[h];rw[if_neg h3]
theorem pW{l:List aK}{q:Nat}{o:aK}(h:l[q]? =some o)(h3:o.what=3\/lf l l.length o.aA o.unit=(q:Nat)):kp l (q+1)=kp l q++[(o,q)]:=by rw[kp];simp only[h];rw[if_pos h3]
theorem Pm{l:List aK}{q:Nat}{o:aK}(h:l[q]? =some o)(h3:¬(o.what=3\/lf l l.length o.aA o.unit=(q:Nat))):kp l (q+1)=kp l q:=by rw[kp];simp only[h];rw[if_neg h3]
theorem kT{l:List aK}:∀{q:Nat} {x:T},x∈kp l q->x.2<q/\l[x.2]? =some x.1/\(x.1.what=3\/lf l l.length x.1.aA x.1.unit=(x.2:Nat))
 |0,x,h=>by simp[kp] at h
 |q+1,x,h=>by
  rw[kp] at h;cases ho:l[q]? with
  |none=>
   simp only[ho] at h;obtain⟨h1,h2⟩:=kT h;exact⟨by omega,h2⟩
  |some o=>
   simp only[ho] at h;split at h
   ·rename_i hc
    rcases List.mem_append.1 h with h|h
    ·obtain⟨h1,h2⟩:=kT h
     exact⟨by omega,h2⟩
    ·simp at h
     subst h;exact⟨by simp,ho,hc⟩
   ·obtain⟨h1,h2⟩:=kT h
    exact⟨by omega,h2⟩
theorem Pn{l:List aK}{i:Nat}{o:aK}(ho:l[i]? =some o)(hc:o.what=3\/lf l l.length o.aA o.unit=(i:Nat)):∀{q:Nat},i<q->(o,i)∈kp l q
 |0,h=>by omega
 |q+1,h=>by
  by_cases e:i=q
  ·subst e
   rw[pW ho hc];simp
  ·have ih:=Pn ho hc (q:=q) (by omega)
   rw[kp];cases hq:l[q]? with
   |none=>exact ih
   |some o'=>
    simp only;split
    ·exact List.mem_append_left _ ih
    ·exact ih
theorem ku{l:List aK}:∀(q:Nat),(kp l q).Pairwise (λx y=>x.2<y.2)
 |0=>List.Pairwise.nil
 |q+1=>by
  rw[kp];cases hq:l[q]? with
  |none=>exact ku q
  |some o=>
   simp only;split
   ·refine List.pairwise_append.2 ⟨ku q,by simp,λx hx y hy=>?_⟩
    simp at hy;subst hy;exact(kT hx).1
   ·exact ku q
theorem tV{l:List aK}:∀(q:Nat),(kp l q).length<=q
 |0=>Nat.le_refl _
 |q+1=>by
  rw[kp];have:=tV (l:=l) q;cases hq:l[q]? with
  |none=>simp only;omega
  |some o=>
   simp only;split
   ·simp;omega
   ·omega
theorem tX{l:List aK}{i:Nat}{o:aK}(ho:l[i]? =some o)(h3:¬o.what=3):∀{q:Nat},i<q->(∀k x,i<k->k<q->l[k]? =some x->x.what=3\/x.aA≠o.aA\/x.unit≠o.unit)->lf l q o.aA o.unit=(i:Nat)
 |0,h,_=>by omega
 |q+1,h,hn=>by
  by_cases e:i=q
  ·subst e
   rw[vS ho h3];unfold rH;rw[if_pos ⟨rfl,rfl⟩]
  ·have ih:=tX ho h3 (q:=q) (by omega) (λk x h1 h2 hx=>hn k x h1 (by omega) hx)
   rw[lf];cases hq:l[q]? with
   |none=>exact ih
   |some x=>
    simp only;split
    ·exact ih
    ·rename_i hx3
     unfold rH;rw[if_neg]
     ·exact ih
     ·rintro⟨h1,h2⟩
      rcases hn q x (by omega) (by omega) hq with h|h|h
      ·exact hx3 h
      ·exact h h1.symm
      ·exact h h2.symm
def aX(l out:List aK):Prop:=∃S:List T,S.Perm (kp l l.length)/\S.Pairwise lt/\out=S.map Prod.fst
theorem aX.one{l out out':List aK}(h:aX l out)(h':aX l out'):out=out':=by
 obtain⟨S,p,r,rfl⟩:=h;obtain⟨S',p',r',rfl⟩:=h';rw[nG (p.trans p'.symm) r r']
theorem aX.len{l out:List aK}(h:aX l out):out.length<=l.length:=by
 obtain⟨S,p,r,rfl⟩:=h;have:=tV (l:=l) l.length;rw[List.length_map,p.length_eq];exact this
theorem aX.mem{l out:List aK}(h:aX l out){o:aK}(ho:o∈out):o∈l:=by
 obtain⟨S,p,r,rfl⟩:=h;obtain⟨x,hx,rfl⟩:=List.mem_map.1 ho;exact List.mem_of_getElem? (kT (p.mem_iff.1 hx)).2.1
end So
open Go.Proofs.YtolfphmdmpehdaaGreatDoor.So Go.RowKit
theorem yL{ks:List KV}{X:WV}{Wn Hn:Nat}{k:KV}{i:Nat}{us us':List aC}{left:Int}{cells:List Int}(h:Goes ks X Wn Hn k i us left cells us'):us'.length=us.length/\cells.length<=left.toNat:=by
 induction h with
 |stop=>exact⟨rfl,by simp⟩
 | @step us us' left u c gg cells hu hw hg h1 h2 h3 ih=>
  have hp:0<Fd.onto gg k.f:=by
   refine pG hw hg (λe=>?_);rw[List.any_eq_false] at h2;exact h2 u (List.mem_of_getElem? hu) (by rw[e];simp)
  obtain⟨i1,i2⟩:=ih;refine⟨by rw[i1];simp,?_⟩;simp only[List.length_cons];omega
theorem vT{ks:List KV}{X:WV}{Wn Hn n:Nat}{us us':List aC}{evs:List bM}(hk:∀k∈ks,k.n4<=1000)(h:Moves ks X Wn Hn n us evs us'):evs.length<=1000*(us.length-n):=by
 induction h with
 |done=>simp
 | @unit n us us1 us' u u1 k cells evs hu hkk hg h1 hm ih=>
  obtain⟨g1,g2⟩:=yL hg;have hn:=(List.getElem?_eq_some_iff.1 hu).1;have hs:=hk k (List.mem_of_getElem? hkk);rw[List.length_set,g1] at ih;rw[List.length_append,List.length_map];have:us.length-n=(us.length-(n+1))+1:=by omega
  rw[this];omega
theorem vU{ks:List KV}(h:Kd.aG (ks.map KV.k)=0):∀k∈ks,k.n4<=1000:=by
 intro k hk;unfold Kd.aG at h;split at h
 ·omega
 ·have h2:=gY h k.k (List.mem_map.2 ⟨k,hk,rfl⟩)
  unfold Kd.b_ at h2;split at h2
  ·omega
  ·rename_i h3
   rw[Bool.not_eq_true,List.any_eq_false] at h3;have:=h3 k.n4 (by simp[KV.k]);simp only[decide_eq_true_eq] at this;omega
inductive Ph (ks:List KV) (Wn Hn:Nat) (A:WV):Nat->WV->List bM->Prop
 |zero:Ph ks Wn Hn A 0 A []
 |one {T:WV} {es:List bM} {qs:List aO}:Tr ks A A.qs.length T es qs->Ph ks Wn Hn A 1 {T with qs:=qs} es
 |two {B:WV} {es evs:List bM} {us:List aC}:Ph ks Wn Hn A 1 B es->Moves ks B Wn Hn 0 B.us evs us->Ph ks Wn Hn A 2 {B with us:=us} (es++evs)
 |three {C:WV} {es:List bM}:Ph ks Wn Hn A 2 C es->Ph ks Wn Hn A 3 (Ir ks Wn Hn C) (es++vI ks Wn Hn C)
 |four {D:WV} {es:List bM}:Ph ks Wn Hn A 3 D es->Ph ks Wn Hn A 4 (iw ks Wn D) (es++lW ks Wn D)
theorem Ph.keep{ks:List KV}{Wn Hn:Nat}{A:WV}(h:aQ ks A)(e1:A.wide=(Wn:Nat))(e2:A.high=(Hn:Nat)){n:Nat}{Y:WV}{es:List bM}(p:Ph ks Wn Hn A n Y es):aQ ks Y/\Y.wide=(Wn:Nat)/\Y.high=(Hn:Nat)/\Y.turn=A.turn/\es.length<=50000*n:=by
 induction p with
 |zero=>exact⟨h,e1,e2,rfl,by simp⟩
 | @one T es qs t=>
  obtain⟨-,-,k3,-,k5,k6,k7,-⟩:=t.keep h;refine⟨aY (Ic h t),by show T.wide=_;rw[k6,e1],by show T.high=_;rw[k7,e2],k5,?_⟩;have:=h.ql;omega
 | @two B es evs us p0 m ih=>
  obtain⟨r,w1,w2,w3,w4⟩:=ih;obtain⟨Wm,Hm,f1,f2,G⟩:=r.good;obtain rfl:Wm=Wn:=by omega
  obtain rfl:Hm=Hn:=by omega
  refine⟨aY (yw r G w1 w2 (yt G m (yj r G))),w1,w2,w3,?_⟩;have hm:=vT (vU r.kinds) m;have hu:=r.ul;rw[List.length_append];omega
 | @three C es p0 ih=>
  obtain⟨r,w1,w2,w3,w4⟩:=ih;obtain⟨k0,k1,-,k3,k4,-⟩:=Iz (ks:=ks) (Wn:=Wn) (Hn:=Hn) r;refine⟨aY k0,by rw[<-w1];exact k3,by rw[<-w2];exact k4,by rw[<-w3];exact k1,?_⟩;have a1:=sQ (ks:=ks) (Y:=C) C.us.length;have a2:=sW (ks:=ks) (Wn:=Wn) (Hn:=Hn) (Y:=(tk ks C C.us.length).1) (tk ks C C.us.length).1.us.length;have a3:(tk ks C _).1.us.length=C.us.length:=(sO C.us.length).2.2.2.2.2.2.2.1;have hu:=r.ul;rw[List.length_append];unfold vI;rw[List.length_append];omega
 | @four D es p0 ih=>
  obtain⟨r,w1,w2,w3,w4⟩:=ih;refine⟨aY (tC r),w1,w2,w3,?_⟩;have a1:=iT (ks:=ks) (W:=Wn) (us:=D.us) D.us (List.replicate D.us.length 0,[]);have a2:((struck ks Wn D).filter bJ).length<=D.us.length:=by
   have h1:(struck ks Wn D).length=D.us.length:=by unfold struck;exact iq dU
   have h2:=List.length_filter_le bJ (struck ks Wn D);omega
  have hu:=r.ul;rw[List.length_append];unfold lW strikes;rw[List.length_append,List.length_map];simp at a1;unfold strikes at *;omega
theorem yM{ks:List KV}{Y Z:WV}{o:aK}(hg:fC ks Y o=some Z):Z.turn=Y.turn/\Z.wide=Y.wide/\Z.high=Y.high:=by
 unfold fC at hg;split at hg
 ·cases hg
 ·split at hg
  ·cases hg
  ·split at hg
   ·cases hg
   ·split at hg
    ·injection hg with hg
     subst hg;split<;>exact⟨rfl,rfl,rfl⟩
    ·cases hg
theorem tY{ks:List KV}{Y:WV}{out:List aK}:∀q,(gv ks Y out q).1.turn=Y.turn/\(gv ks Y out q).1.wide=Y.wide/\(gv ks Y out q).1.high=Y.high
 |0=>⟨rfl,rfl,rfl⟩
 |q+1=>by
  have ih:=tY (ks:=ks) (Y:=Y) (out:=out) q;cases hq:out[q]? with
  |none=>rw[gv];simp only[hq];exact ih
  |some o=>
   cases hg:fC ks (gv ks Y out q).1 o with
   |some Z=>
    rw[sG hq hg];obtain⟨a,b,c⟩:=yM hg;exact⟨a.trans ih.1,b.trans ih.2.1,c.trans ih.2.2⟩
   |none=>rw[zW hq hg];exact ih
def bg(ks:List KV)(X:WV)(l:List aK):Int:=if Wd.aF ks X≠0 then Wd.aF ks X else if 1000000<=X.turn then 4 else Od.faults l
def kG(ks:List KV)(X:WV)(l:List aK)(Y:WV)(es:List bM):Prop:=∃(out:List aK) (Wn Hn:Nat) (Z:WV),aX l out/\X.wide=(Wn:Nat)/\X.high=(Hn:Nat)/\Ph ks Wn Hn (gv ks X out out.length).1 4 Z es/\Y={Z with turn:=Z.turn+1}
end Go.Proofs.YtolfphmdmpehdaaGreatDoor
namespace Go.Proofs.YtolfphmdmpehdaaGreatDoor
open Go.RowKit
structure nM(Y:WV)(es:List bM)(qs:List aO)(z b1 bm be:Nat)(w5:World)(u1 u2 u3 u4 u5 ev qv:Value)(V:World):Prop where
 x:Wx V z (int i64 Y.turn) (int i64 Y.next) (int i64 Y.wide) (int i64 Y.high) u1 u2 u3 u4 u5
 o1:Ow V b1 u1 Y.gs
 o2:Ow V b1 u2 Y.os
 o3:Ow V b1 u3 Y.gold
 o4:dQ V b1 u4 Y.us
 o5:dK V b1 u5 Y.qs
 d:dP u5 qv
 l:∀x∈[u1,u2,u3,u4,u5],∀k,x.ownBlock=some k->k<bm\/be<=k
 e:dY V be ev es
 o:dK V be qv qs
 f:Fr (λk=>k=z\/k=bm) w5 V
 n:z<b1/\b1<=bm/\bm<be/\w5.heap.size=be
section
variable {Y:WV} {es:List bM} {qs:List aO} {z b1 bm be:Nat} {w5:World} {u1 u2 u3 u4 u5 ev qv:Value} {V V':World}
theorem nM.below(h:nM Y es qs z b1 bm be w5 u1 u2 u3 u4 u5 ev qv V)(hb:Below V.heap.size V V'):nM Y es qs z b1 bm be w5 u1 u2 u3 u4 u5 ev qv V':=
 ⟨h.x.below hb h.x.lt,h.o1.below hb,h.o2.below hb,h.o3.below hb,h.o4.below hb,h.o5.below hb,h.d,h.l,h.e.below hb,h.o.below hb,h.f.trans (Fr.below hb),h.n⟩
theorem nM.wl(h:nM Y es qs z b1 bm be w5 u1 u2 u3 u4 u5 ev qv V):Wl V (.agg #[int i64 Y.turn,int i64 Y.next,int i64 Y.wide,int i64 Y.high,u1,u2,u3,u4,u5]) Y:=
 ⟨u1,u2,u3,u4,u5,rfl,h.o1.ro,h.o2.ro,h.o3.ro,h.o4.l,h.o5.l⟩
theorem nM.map(h:nM Y es qs z b1 bm be w5 u1 u2 u3 u4 u5 ev qv V)(hf:Fr (λq=>q=bm) V V'):nM Y es qs z b1 bm be w5 u1 u2 u3 u4 u5 ev qv V':=by
 have hn:=h.n;have no:∀x∈[u1,u2,u3,u4,u5],∀k,x.ownBlock=some k->¬k=bm:=λx hx k hk=>by have:=h.l x hx k hk;omega
 exact⟨hf.wx h.x (by omega),hf.own h.o1 (no u1 (by simp)),hf.own h.o2 (no u2 (by simp)),hf.own h.o3 (no u3 (by simp)),hf.own h.o4 (no u4 (by simp)),hf.own h.o5 (no u5 (by simp)),h.d,h.l,
  hf.own h.e (λk hk=>by have:=(h.e.block k hk).1;omega),hf.own h.o (λk hk=>by have:=(h.o.block k hk).1;omega),h.f.trans (hf.mono (λk hk=>.inr hk)),h.n⟩
theorem nM.told(h:nM Y es qs z b1 bm be w5 u1 u2 u3 u4 u5 ev qv V){e:bM}{ev':Value}(g:V.grownBy V' ev.ownBlock)(he:dY V' be ev' (es++[e])):nM Y (es++[e]) qs z b1 bm be w5 u1 u2 u3 u4 u5 ev' qv V':=by
 have hn:=h.n;have hf:=Fr.gb g (λk hk=>hk);have ne:∀k,ev.ownBlock=some k->be<=k:=λk hk=>(h.e.block k hk).1
 refine⟨hf.wx h.x (λe=>by have:=ne z e;omega),hf.own h.o1 (dL h.o1 h.e (by decide)),hf.own h.o2 (dL h.o2 h.e (by decide)),hf.own h.o3 (dL h.o3 h.e (by decide)),hf.own h.o4 (dL h.o4 h.e (by decide)),hf.own h.o5 (dL h.o5 h.e (by decide)),h.d,h.l,he,hf.own h.o (dL h.o h.e (by decide)),?_,h.n⟩;refine⟨hf.os.trans h.f.os,hf.tape.trans h.f.tape,hf.output.trans h.f.output,Nat.le_trans h.f.size hf.size,λq hq hm=>(hf.block q (Nat.lt_of_lt_of_le hq h.f.size) (λe=>?_)).trans (h.f.block q hq hm)⟩;have:=ne q e;omega
theorem nM.left(h:nM Y es qs z b1 bm be w5 u1 u2 u3 u4 u5 ev qv V){j:aO}{Xd:Value}{gq:Nat}(g:V.grownBy V' qv.ownBlock)(ho:dK V' be Xd (qs++[j]))(hq:Xd.ownBlock=some gq)(hg:qv.ownBlock=some gq\/gq=V.heap.size):nM Y es (qs++[j]) z b1 bm be w5 u1 u2 u3 u4 u5 ev Xd V':=by
 have hn:=h.n;have hf:=Fr.gb g (λk hk=>hk);have ne:∀k,qv.ownBlock=some k->be<=k:=λk hk=>(h.o.block k hk).1
 refine⟨hf.wx h.x (λe=>by have:=ne z e;omega),hf.own h.o1 (dL h.o1 h.o (by decide)),hf.own h.o2 (dL h.o2 h.o (by decide)),hf.own h.o3 (dL h.o3 h.o (by decide)),hf.own h.o4 (dL h.o4 h.o (by decide)),hf.own h.o5 h.d,?_,h.l,hf.own h.e (dL h.e h.o (by decide)),ho,?_,h.n⟩
 ·intro k hk e
  rw[hq] at e;injection e with e
  subst e;rcases hg with hg|hg
  ·exact h.d _ hk hg
  ·have:=(h.o5.block _ hk).2;omega
 ·refine⟨hf.os.trans h.f.os,hf.tape.trans h.f.tape,hf.output.trans h.f.output,Nat.le_trans h.f.size hf.size,λq hq hm=>(hf.block q (Nat.lt_of_lt_of_le hq h.f.size) (λe=>?_)).trans (h.f.block q hq hm)⟩
  have:=ne q e;omega
theorem nM.box(h:nM Y es qs z b1 bm be w5 u1 u2 u3 u4 u5 ev qv V){b:Nat}(hk:Kp b V V')(hb:be<=b)(hl:∀x∈[u1,u2,u3,u4,u5,ev,qv],∀k,x.ownBlock=some k->k<b):nM Y es qs z b1 bm be w5 u1 u2 u3 u4 u5 ev qv V':=by
 have hn:=h.n;have hf:Fr (λq=>q=b) V V':=Fr.kp hk rfl;have no:∀x∈[u1,u2,u3,u4,u5,ev,qv],∀k,x.ownBlock=some k->¬k=b:=λx hx k hk=>by have:=hl x hx k hk;omega
 refine⟨hf.wx h.x (by omega),hf.own h.o1 (no u1 (by simp)),hf.own h.o2 (no u2 (by simp)),hf.own h.o3 (no u3 (by simp)),hf.own h.o4 (no u4 (by simp)),hf.own h.o5 (no u5 (by simp)),h.d,h.l,hf.own h.e (no ev (by simp)),hf.own h.o (no qv (by simp)),?_,h.n⟩;exact⟨hf.os.trans h.f.os,hf.tape.trans h.f.tape,hf.output.trans h.f.output,Nat.le_trans h.f.size hf.size,λq hq hm=>(hf.block q (Nat.lt_of_lt_of_le hq h.f.size) (λe=>by omega)).trans (h.f.block q hq hm)⟩
theorem nM.under(h:nM Y es qs z b1 bm be w5 u1 u2 u3 u4 u5 ev qv V):∀x∈[u1,u2,u3,u4,u5,ev,qv],∀k,x.ownBlock=some k->k<V.heap.size:=by
 intro x hx k hk;simp only[List.mem_cons,List.not_mem_nil,or_false] at hx;rcases hx with rfl|rfl|rfl|rfl|rfl|rfl|rfl
 ·exact(h.o1.block k hk).2
 ·exact(h.o2.block k hk).2
 ·exact(h.o3.block k hk).2
 ·exact(h.o4.block k hk).2
 ·exact(h.o5.block k hk).2
 ·exact(h.e.block k hk).2
 ·exact(h.o.block k hk).2
theorem nM.puts(h:nM Y es qs z b1 bm be w5 u1 u2 u3 u4 u5 ev qv V){Z:WV}{k1 k2 k3 k4 k5:Value}{B:Nat}(hB:be<=B)(hq:∀k,qv.ownBlock=some k->k<B)(hk:Kp z V V')(hx:Wx V' z (int i64 Z.turn) (int i64 Z.next) (int i64 Z.wide) (int i64 Z.high) k1 k2 k3 k4 k5)
  (p1:Ow V B k1 Z.gs) (p2:Ow V B k2 Z.os) (p3:Ow V B k3 Z.gold) (p4:dQ V B k4 Z.us) (p5:dK V B k5 Z.qs):nM Z es qs z b1 bm be w5 k1 k2 k3 k4 k5 ev qv V':=by
 have hn:=h.n;have hf:Fr (λq=>q=z) V V':=Fr.kp hk rfl;refine⟨hx,Ow.mono (hf.own p1 (λk hk=>by have:=(p1.block k hk).1;omega)) (by omega),Ow.mono (hf.own p2 (λk hk=>by have:=(p2.block k hk).1;omega)) (by omega),Ow.mono (hf.own p3 (λk hk=>by have:=(p3.block k hk).1;omega)) (by omega),dQ.mono (hf.own p4 (λk hk=>by have:=(p4.block k hk).1;omega)) (by omega),dK.mono (hf.own p5 (λk hk=>by have:=(p5.block k hk).1;omega)) (by omega),?_,?_,hf.own h.e (λk hk=>by have:=(h.e.block k hk).1;omega),hf.own h.o (λk hk=>by have:=(h.o.block k hk).1;omega),h.f.trans (hf.mono (λk hk=>.inl hk)),h.n⟩
 ·intro k hk e
  have:=(p5.block k hk).1;have:=hq k e;omega
 ·intro x hx k hk
  simp only[List.mem_cons,List.not_mem_nil,or_false] at hx;rcases hx with rfl|rfl|rfl|rfl|rfl
  ·have:=(p1.block k hk).1;omega
  ·have:=(p2.block k hk).1;omega
  ·have:=(p3.block k hk).1;omega
  ·have:=(p4.block k hk).1;omega
  ·have:=(p5.block k hk).1;omega
end
structure DX(Y:WV)(es:List bM)(z b1 be:Nat)(w5:World)(u1 u2 u3 u4 u5 ev:Value)(V:World):Prop where
 x:Wx V z (int i64 Y.turn) (int i64 Y.next) (int i64 Y.wide) (int i64 Y.high) u1 u2 u3 u4 u5
 o1:Ow V b1 u1 Y.gs
 o2:Ow V b1 u2 Y.os
 o3:Ow V b1 u3 Y.gold
 o4:dQ V b1 u4 Y.us
 o5:dK V b1 u5 Y.qs
 e:dY V be ev es
 f:Fr (λk=>k=z) w5 V
 n:z<b1/\b1<=be/\w5.heap.size=be
section
variable {Y:WV} {es:List bM} {z b1 be:Nat} {w5:World} {u1 u2 u3 u4 u5 ev:Value} {V V':World}
theorem DX.below(h:DX Y es z b1 be w5 u1 u2 u3 u4 u5 ev V)(hb:Below V.heap.size V V'):DX Y es z b1 be w5 u1 u2 u3 u4 u5 ev V':=
 ⟨h.x.below hb h.x.lt,h.o1.below hb,h.o2.below hb,h.o3.below hb,h.o4.below hb,h.o5.below hb,h.e.below hb,h.f.trans (Fr.below hb),h.n⟩
theorem DX.wl(h:DX Y es z b1 be w5 u1 u2 u3 u4 u5 ev V):Wl V (.agg #[int i64 Y.turn,int i64 Y.next,int i64 Y.wide,int i64 Y.high,u1,u2,u3,u4,u5]) Y:=
 ⟨u1,u2,u3,u4,u5,rfl,h.o1.ro,h.o2.ro,h.o3.ro,h.o4.l,h.o5.l⟩
theorem DX.told(h:DX Y es z b1 be w5 u1 u2 u3 u4 u5 ev V){fs:List bM}{ev':Value}(g:V.grownBy V' ev.ownBlock)(he:dY V' be ev' (es++fs)):DX Y (es++fs) z b1 be w5 u1 u2 u3 u4 u5 ev' V':=by
 have hn:=h.n;have hf:Fr (λq=>ev.ownBlock=some q) V V':=Fr.gb g (λk hk=>hk);have ne:∀k,ev.ownBlock=some k->be<=k:=λk hk=>(h.e.block k hk).1
 refine⟨hf.wx h.x (λe=>by have:=ne z e;omega),hf.own h.o1 (dL h.o1 h.e (by decide)),hf.own h.o2 (dL h.o2 h.e (by decide)),hf.own h.o3 (dL h.o3 h.e (by decide)),hf.own h.o4 (dL h.o4 h.e (by decide)),hf.own h.o5 (dL h.o5 h.e (by decide)),he,?_,h.n⟩;refine⟨hf.os.trans h.f.os,hf.tape.trans h.f.tape,hf.output.trans h.f.output,Nat.le_trans h.f.size hf.size,λq hq hm=>(hf.block q (Nat.lt_of_lt_of_le hq h.f.size) (λe=>?_)).trans (h.f.block q hq hm)⟩;have:=ne q e;omega
theorem DX.puts(h:DX Y es z b1 be w5 u1 u2 u3 u4 u5 ev V){Z:WV}{k1 k2 k3 k4 k5:Value}(hk:Kp z V V')(hx:Wx V' z (int i64 Z.turn) (int i64 Z.next) (int i64 Z.wide) (int i64 Z.high) k1 k2 k3 k4 k5)
  (p1:Ow V b1 k1 Z.gs) (p2:Ow V b1 k2 Z.os) (p3:Ow V b1 k3 Z.gold) (p4:dQ V b1 k4 Z.us) (p5:dK V b1 k5 Z.qs):DX Z es z b1 be w5 k1 k2 k3 k4 k5 ev V':=by
 have hn:=h.n;have hf:Fr (λq=>q=z) V V':=Fr.kp hk rfl;exact⟨hx,hf.own p1 (λk hk=>by have:=(p1.block k hk).1;omega),hf.own p2 (λk hk=>by have:=(p2.block k hk).1;omega),hf.own p3 (λk hk=>by have:=(p3.block k hk).1;omega),hf.own p4 (λk hk=>by have:=(p4.block k hk).1;omega),hf.own p5 (λk hk=>by have:=(p5.block k hk).1;omega),hf.own h.e (λk hk=>by have:=(h.e.block k hk).1;omega),h.f.trans hf,h.n⟩
end
structure uD(ks:List KV)(Y:WV)(ref:List Int)(b1 z:Nat)(w1:World)(u1 u2 u3 u4 u5 ur:Value)(V:World):Prop where
 x:Wx V z (int i64 Y.turn) (int i64 Y.next) (int i64 Y.wide) (int i64 Y.high) u1 u2 u3 u4 u5
 o1:Ow V b1 u1 Y.gs
 o2:Ow V b1 u2 Y.os
 o3:Ow V b1 u3 Y.gold
 o4:dQ V b1 u4 Y.us
 o5:dK V b1 u5 Y.qs
 r:Ow V b1 ur ref
 d:[u1,u2,u3,u4,u5,ur].Pairwise dP
 k:Kp z w1 V
 f:qC ks Y
section
variable {ks:List KV} {Y:WV} {ref:List Int} {b1 z:Nat} {w1:World} {u1 u2 u3 u4 u5 ur:Value} {V V':World}
theorem uD.below(h:uD ks Y ref b1 z w1 u1 u2 u3 u4 u5 ur V)(hb:Below V.heap.size V V'):uD ks Y ref b1 z w1 u1 u2 u3 u4 u5 ur V':=
 ⟨h.x.below hb h.x.lt,h.o1.below hb,h.o2.below hb,h.o3.below hb,h.o4.below hb,h.o5.below hb,h.r.below hb,h.d,h.k.trans (Kp.of hb),h.f⟩
theorem uD.wo(h:uD ks Y ref b1 z w1 u1 u2 u3 u4 u5 ur V):Wo V b1 (.agg #[int i64 Y.turn,int i64 Y.next,int i64 Y.wide,int i64 Y.high,u1,u2,u3,u4,u5]) Y:=⟨u1,u2,u3,u4,u5,rfl,h.o1,h.o2,h.o3,h.o4,h.o5⟩
theorem uD.qF(h:uD ks Y ref b1 z w1 u1 u2 u3 u4 u5 ur V):(dP u1 u2/\dP u1 u3/\dP u1 u4/\dP u1 u5/\dP u1 ur)/\(dP u2 u3/\dP u2 u4/\dP u2 u5/\dP u2 ur)/\(dP u3 u4/\dP u3 u5/\dP u3 ur)/\(dP u4 u5/\dP u4 ur)/\dP u5 ur:=by
 have:=h.d;simp only[List.pairwise_cons,List.mem_cons,List.not_mem_nil,or_false,forall_eq_or_imp,forall_eq] at this;obtain⟨⟨a1,a2,a3,a4,a5⟩,⟨b1,b2,b3,b4⟩,⟨c1,c2,c3⟩,⟨d1,d2⟩,e,-⟩:=this;exact⟨⟨a1,a2,a3,a4,a5⟩,⟨b1,b2,b3,b4⟩,⟨c1,c2,c3⟩,⟨d1,d2⟩,e⟩
theorem iU{u v v':Value}{n:Nat}(h:dP u v)(hu:∀k,u.ownBlock=some k->k<n)(hv:v'.ownBlock=v.ownBlock\/∃q,v'.ownBlock=some q/\n<=q):dP u v':=λk h1 h2=>by
 rcases hv with e|⟨q,e,hq⟩
 ·exact h k h1 (by rw[<-e];exact h2)
 ·rw[e] at h2
  injection h2 with h2
  have:=hu k h1;omega
theorem uD.refuse{ref':List Int}{ur':Value}(h:uD ks Y ref b1 z w1 u1 u2 u3 u4 u5 ur V)(hz:z<b1)(hw:w1.heap.size=b1)(g:V.grownBy V' ur.ownBlock)(ho:Ow V' b1 ur' ref')(hn:ur'.ownBlock=ur.ownBlock\/∃q,ur'.ownBlock=some q/\V.heap.size<=q):uD ks Y ref' b1 z w1 u1 u2 u3 u4 u5 ur' V':=by
 obtain⟨⟨d12,d13,d14,d15,Uo⟩,⟨d23,d24,d25,Ur⟩,⟨d34,d35,R_⟩,⟨d45,Si⟩,Sj⟩:=h.qF;have F:=Fr.gb g (λk hk=>hk);refine⟨F.wx h.x (λe=>by have:=(h.r.block z e).1;omega),F.own h.o1 (λb hb e=>Uo b hb e),F.own h.o2 (λb hb e=>Ur b hb e),F.own h.o3 (λb hb e=>R_ b hb e),F.own h.o4 (λb hb e=>Si b hb e),F.own h.o5 (λb hb e=>Sj b hb e),ho,?_,Ae h.k g (λk hk=>by rw[hw];exact(h.r.block k hk).1),h.f⟩;simp only[List.pairwise_cons,List.mem_cons,List.not_mem_nil,or_false,forall_eq_or_imp,forall_eq];exact⟨⟨d12,d13,d14,d15,iU Uo (λk hk=>(h.o1.block k hk).2) hn⟩,⟨d23,d24,d25,iU Ur (λk hk=>(h.o2.block k hk).2) hn⟩,⟨d34,d35,iU R_ (λk hk=>(h.o3.block k hk).2) hn⟩,⟨d45,iU Si (λk hk=>(h.o4.block k hk).2) hn⟩,iU Sj (λk hk=>(h.o5.block k hk).2) hn,by simp,by simp⟩
theorem uD.send{gu cap i:Nat}{rest:List Value}{u:aC}{o:aK}(h:uD ks Y ref b1 z w1 u1 u2 u3 (slice (some ⟨gu,0,none⟩) Y.us.length cap) u5 ur V)(hz:z<b1)(hw:w1.heap.size=b1)(hu:Y.us[i]? =some u)(hg:b1<=gu)(h1:Y.us.length<=cap)(h2:cap<=maxLen)(h3:Y.us.length*8+rest.length=cap*8)(hb:Ub V' gu (Y.us.set i (qQ o u)) rest)(hk:Kp gu V V'):
  uD ks (lF Y i u o) ref b1 z w1 u1 u2 u3 (slice (some ⟨gu,0,none⟩) Y.us.length cap) u5 ur V':=by
 obtain⟨⟨d12,d13,d14,d15,Uo⟩,⟨d23,d24,d25,Ur⟩,⟨d34,d35,R_⟩,⟨d45,Si⟩,Sj⟩:=h.qF;have F:Fr (λq=>q=gu) V V':=Fr.kp hk rfl;have own:(slice (some ⟨gu,0,none⟩) Y.us.length cap).ownBlock=some gu:=rfl;refine⟨F.wx h.x (by omega),F.own h.o1 (λb hb e=>d14 b hb (by rw[own,e])),F.own h.o2 (λb hb e=>d24 b hb (by rw[own,e])),F.own h.o3 (λb hb e=>d34 b hb (by rw[own,e])),?_,F.own h.o5 (λb hb e=>d45 gu own (by rw[hb,e])),F.own h.r (λb hb e=>Si gu own (by rw[hb,e])),h.d,?_,h.f.sent hu o⟩
 ·have:=hb.Ql (base:=b1) (cap:=cap) hg (by simpa using h1) h2 (by simpa using h3)
  simpa[lF] using this
 ·exact⟨hk.os.trans h.k.os,hk.tape.trans h.k.tape,hk.output.trans h.k.output,Nat.le_trans h.k.size hk.size,λq hq hn=>(hk.block q (Nat.lt_of_lt_of_le hq h.k.size) (by omega)).trans (h.k.block q hq hn)⟩
theorem uD.hire{gg cg pn:Nat}{rest:Array Value}{g:Int}{o:aK}{u5':Value}(h:uD ks Y ref b1 z w1 u1 u2 (slice (some ⟨gg,0,none⟩) Y.gold.length cg) u4 u5 ur V)(hz:z<b1)(hw:w1.heap.size=b1)(hg:b1<=gg)(h1:Y.gold.length<=cg)(h2:cg<=maxLen)(h3:Y.gold.length+rest.size=cg)
  (hx:Wx V' z (int i64 Y.turn) (int i64 Y.next) (int i64 Y.wide) (int i64 Y.high) u1 u2 (slice (some ⟨gg,0,none⟩) Y.gold.length cg) u4 u5') (hb:Bk V' gg (eH ks Y o).gold rest) (hj:dK V' b1 u5' (eH ks Y o).qs) (hf:Fr (λq=>q=z\/q=gg\/u5.ownBlock=some q) V V') (hn:u5'.ownBlock=u5.ownBlock\/∃q,u5'.ownBlock=some q/\V.heap.size<=q) (hfit:qC ks (eH ks Y o)):
  uD ks (eH ks Y o) ref b1 z w1 u1 u2 (slice (some ⟨gg,0,none⟩) Y.gold.length cg) u4 u5' ur V':=by
 obtain⟨⟨d12,d13,d14,d15,Uo⟩,⟨d23,d24,d25,Ur⟩,⟨d34,d35,R_⟩,⟨d45,Si⟩,Sj⟩:=h.qF;have own:(slice (some ⟨gg,0,none⟩) Y.gold.length cg).ownBlock=some gg:=rfl;have no:∀{u:Value},(∀k,u.ownBlock=some k->b1<=k/\k<V.heap.size)->dP u (slice (some ⟨gg,0,none⟩) Y.gold.length cg)->dP u u5->∀b,u.ownBlock=some b->¬(b=z\/b=gg\/u5.ownBlock=some b):=λhu e3 e5 b hb hs=>by
  rcases hs with e|e|e
  ·have:=(hu b hb).1;omega
  ·exact e3 b hb (by rw[own,e])
  ·exact e5 b hb e
 have el:(eH ks Y o).gold.length=Y.gold.length:=by simp[eH]
 refine⟨hx,hf.own h.o1 (no h.o1.block d13 d15),hf.own h.o2 (no h.o2.block d23 d25),?_,hf.own h.o4 (no h.o4.block d34.symm d45),hj,hf.own h.r (no h.r.block R_.symm Sj.symm),?_,?_,hfit⟩
 ·have:=hb.ow (base:=b1) (cap:=cg) hg (by omega) h2 (by omega)
  rw[el] at this;exact this
 ·simp only[List.pairwise_cons,List.mem_cons,List.not_mem_nil,or_false,forall_eq_or_imp,forall_eq]
  exact⟨⟨d12,d13,d14,iU d15 (λk hk=>(h.o1.block k hk).2) hn,Uo⟩,⟨d23,d24,iU d25 (λk hk=>(h.o2.block k hk).2) hn,Ur⟩,⟨d34,iU d35 (λk hk=>(h.o3.block k hk).2) hn,R_⟩,⟨iU d45 (λk hk=>(h.o4.block k hk).2) hn,Si⟩,(iU Sj.symm (λk hk=>(h.r.block k hk).2) hn).symm,by simp,by simp⟩
 ·exact⟨hf.os.trans h.k.os,hf.tape.trans h.k.tape,hf.output.trans h.k.output,Nat.le_trans h.k.size hf.size,λq hq hn=>(hf.block q (Nat.lt_of_lt_of_le hq h.k.size) (λe=>by
   rcases e with e|e|e
   ·exact hn e
   ·omega
   ·have:=(h.o5.block q e).1;omega)).trans (h.k.block q hq hn)⟩
end
theorem QO(o:aK)(u:aC)(b:Nat)(w:World)(x0:w.cell? ⟨b,0,none⟩=some (int i64 o.aA))(x1:w.cell? ⟨b,1,none⟩=some (int i64 o.unit)):
  Calls Tryz.prog 101 #[u.val,.pointer (some ⟨b,0,none⟩)] w λe w'=>e=.returned (.bool (kM o u))/\Below w.heap.size w w':=by
 have BB:Hid (∀ob,Below w.heap.size w (w.alloc ob)):=λob=>(Below.refl _ _).alloc (Nat.le_refl _) _
 have hb:b<w.heap.size:=cell_lt x0;have hne:b≠w.heap.size:=by omega
 have y0:∀ob,(w.alloc ob).cell? ⟨b,0,none⟩=some (int i64 o.aA):=λob=>by rw[(BB.out ob).cell (p:=⟨b,0,none⟩) hb];exact x0
 have y1:∀ob,(w.alloc ob).cell? ⟨b,1,none⟩=some (int i64 o.unit):=λob=>by rw[(BB.out ob).cell (p:=⟨b,1,none⟩) hb];exact x1
 unfold aC.val;by_cases h1:u.id=o.unit
 ·by_cases h2:u.aA=o.aA
  ·have E:Hid (kM o u=true):=decide_eq_true ⟨h1,h2⟩
   clear hne hb x0 x1;go_enter Tryz.func101,Tryz.ntmps101;go_wp2;go_ret;exact⟨by rw[E.out];rfl,BB.out _⟩
  ·have E:Hid (kM o u=false):=decide_eq_false (λh=>h2 h.2)
   have h2b:=beq_eq_false_iff_ne.2 h2;clear hne hb x0 x1;go_enter Tryz.func101,Tryz.ntmps101;go_wp2;go_ret;exact⟨by rw[E.out];rfl,BB.out _⟩
 ·have E:Hid (kM o u=false):=decide_eq_false (λh=>h1 h.1)
  have h1b:=beq_eq_false_iff_ne.2 h1;clear hne hb x0 x1;go_enter Tryz.func101,Tryz.ntmps101;go_wp2;go_ret;exact⟨by rw[E.out];rfl,BB.out _⟩
theorem Jv(a:Option Addr)(n c:Nat)(i:Nat)(w:World)(hn:n<=9223372036854775807):Calls Tryz.prog 153 #[slice a n c,int i64 (i:Nat)] w λe w'=>e=.returned (.bool (decide (i<n)))/\w'=w:=by
 by_cases h:i<n
 ·have hi:((i:Nat):Int)<(n:Nat):=by omega
  have E:=aj (decide_eq_true h);have h0:(0:Int)<=((i:Nat):Int):=by omega
  go_enter Tryz.func153,Tryz.ntmps153;go_wp2;go_ret;exact⟨by first|(rw[E.out];rfl)|rfl,rfl⟩
 ·have hi:¬((i:Nat):Int)<(n:Nat):=by omega
  have E:=aj (decide_eq_false h);have h0:(0:Int)<=((i:Nat):Int):=by omega
  go_enter Tryz.func153,Tryz.ntmps153;go_wp2;go_ret;exact⟨by first|(rw[E.out];rfl)|rfl,rfl⟩
theorem DY(a:Option Addr)(n c:Nat)(i:Nat)(w:World)(hn:n<=9223372036854775807):Calls Tryz.prog 154 #[slice a n c,int i64 (i:Nat)] w λe w'=>e=.returned (.bool (decide (i<n)))/\w'=w:=by
 by_cases h:i<n
 ·have hi:((i:Nat):Int)<(n:Nat):=by omega
  have E:=aj (decide_eq_true h);have h0:(0:Int)<=((i:Nat):Int):=by omega
  go_enter Tryz.func154,Tryz.ntmps154;go_wp2;go_ret;exact⟨by first|(rw[E.out];rfl)|rfl,rfl⟩
 ·have hi:¬((i:Nat):Int)<(n:Nat):=by omega
  have E:=aj (decide_eq_false h);have h0:(0:Int)<=((i:Nat):Int):=by omega
  go_enter Tryz.func154,Tryz.ntmps154;go_wp2;go_ret;exact⟨by first|(rw[E.out];rfl)|rfl,rfl⟩
theorem QS{w:World}{g i:Nat}{us:List aC}{rest:List Value}{u:aC}(h:Ub w g us rest)(hu:us[i]? =some u)(o:aK):Ub ((w.setCell ⟨g,i*8+6,none⟩ (int i64 o.what)).setCell ⟨g,i*8+7,none⟩ (int i64 o.arg)) g (us.set i (qQ o u)) rest:=by
 have hi:=(List.getElem?_eq_some_iff.1 hu).1;have h1:=h.Gm hu o.what;have h2:=h1.wS (i:=i) (o:={u with task:=o.what}) (by simp[hi]) o.arg;simpa[qQ] using h2
theorem Jw(g i:Nat)(us:List aC)(rest:List Value)(u:aC)(o:aK)(w:World)(h:Ub w g us rest)(hu:us[i]? =some u)(ho:o.what=0/\o.arg=0\/o.what=1\/o.what=2):
  Calls Tryz.prog 104 #[.pointer (some ⟨g,i*8,none⟩),o.val] w λe w'=>e=.returned (.tuple #[])/\Ub w' g (us.set i (qQ o u)) rest/\Kp g w w':=by
 have U0:=aj (h);have HU:=aj (hu);have gl:=h.lt;clear h hu;have W1:Hid (Kp g w (w.alloc (Obj.cells #[int i64 o.aA,int i64 o.unit,int i64 o.what,int i64 o.arg] 96))):=Kp.of ((Below.refl _ _).alloc (Nat.le_refl _) _);have U1:Hid (Ub (w.alloc (Obj.cells #[int i64 o.aA,int i64 o.unit,int i64 o.what,int i64 o.arg] 96)) g us _):=U0.out.below ((Below.refl _ _).alloc (Nat.le_refl _) _) gl;have X1:=aj (kW.mk' (w:=w) o rfl);unfold aK.val;go_enter Tryz.func104,Tryz.ntmps104;go_upto_region 1 with fail
 obtain⟨z,hz⟩:∃z,w.heap.size=z:=⟨_,rfl⟩;rw[hz] at X1 ⊢;have zg:Hid (z≠g):=by unfold Hid;omega
 clear hz gl;generalize w.alloc _=w1 at *;obtain⟨x0,x1,x2,x3⟩:=X1.out;simp only[Nat.zero_add] at x1 x2 x3;have UC:=U1.out.kQ HU.out;have c6:=UC.c6;have c7:=UC.c7;have t6:=U1.out.thaw (i*8+6);have t7:=U1.out.thaw (i*8+7);have FIN:Hid (Ub ((w1.setCell ⟨g,i*8+6,none⟩ (int i64 o.what)).setCell ⟨g,i*8+7,none⟩ (int i64 o.arg)) g (us.set i (qQ o u)) rest/\Kp g w ((w1.setCell ⟨g,i*8+6,none⟩ (int i64 o.what)).setCell ⟨g,i*8+7,none⟩ (int i64 o.arg))):=⟨QS U1.out HU.out o,(W1.out.trans (Kp.set _ _ _)).trans (Kp.set _ _ _)⟩;simp only at c6 c7;have zg':¬z=g:=zg.out;clear UC;rcases ho with⟨h0,ha⟩|h0|h0
 ·rw[h0] at x2
  rw[ha] at x3;rw[h0,ha] at FIN;clear h0 ha;go_wp2;go_end0;exact⟨rfl,FIN.out.1,FIN.out.2⟩
 ·rw[h0] at x2
  rw[h0] at FIN;clear h0;go_wp2_with fail
  go_region;go_wp2;go_end0;exact⟨rfl,FIN.out.1.below ((Below.refl _ _).drew) FIN.out.1.lt,FIN.out.2.trans (Kp.of (Below.refl _ _).drew)⟩
 ·rw[h0] at x2
  rw[h0] at FIN;clear h0;go_wp2_with fail
  go_region;go_wp2;go_end0;exact⟨rfl,FIN.out.1.below ((Below.refl _ _).drew) FIN.out.1.lt,FIN.out.2.trans (Kp.of (Below.refl _ _).drew)⟩
end Go.Proofs.YtolfphmdmpehdaaGreatDoor
