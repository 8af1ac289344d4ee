/- works.Spot: where a new unit would come. And more. -/
import Derived.Test.YtjpappkgdadhhaaGreatDoorZTopQuiet3
set_option linter.unusedVariables false
set_option maxHeartbeats 16000000
set_option maxRecDepth 100000
namespace Go.Proofs.YtjpappkgdadhhaaGreatDoor
open Go.Value (int slice)
open Go.IntKind (i64)
open Go.RowKit Wy
def sF(us:List aC)(x:Int):Bool:= !us.any (λu=>u.at_==x)
def jF(ks:List KV)(X:WV)(unit kind c F:Int):Prop:=
 (Wd.aF ks X≠0/\F=Wd.aF ks X/\c=0)\/(Wd.aF ks X=0/\X.us.any (λu=>u.id==unit)=false/\F=6/\c=0)
 \/(Wd.aF ks X=0/\X.us.any (λu=>u.id==unit)=true/\¬(0<=kind/\kind<(ks.length:Int))/\F=1/\c=0)
 \/(Wd.aF ks X=0/\∃(i kn Wn Hn an:Nat) (u:aC) (k:KV) (l:List Int),je (λu=>u.id==unit) X.us (i:Nat)/\X.us[i]? =some u/\kind=(kn:Nat)/\ks[kn]? =some k/\X.wide=(Wn:Nat)/\X.high=(Hn:Nat)/\Fd.Good Wn Hn X.gs X.os/\u.at_=(an:Nat)/\an<Wn*Hn
  /\aY (Fd.near Wn Hn) (λi _=>(X.gs.map λg=>Fd.onto g k.f).getD i 0) an (Wn*Hn) l/\iU l (Wn*Hn) (sF X.us) c F)
theorem Ia(vk vw:Value)(ks:List KV)(X:WV)(unit kind:Int)(w:World)(hk:Kl w vk ks)(hb:∀k∈ks,k.b.size<=9223372036854775807)(hw:Wl w vw X)(hs:Sd w):
 Calls Tryz.prog 86 #[vk,vw,int i64 unit,int i64 kind] w λe w'=>∃c r F,e=.returned (.tuple #[int i64 c,r])/\Er r F/\jF ks X unit kind c F/\Below w.heap.size w w':=by
 have K:Hid (Kl w vk ks/\∀k∈ks,k.b.size<=9223372036854775807):=⟨hk,hb⟩;have H:=aj (hw);have S:=aj (hs);obtain⟨p1,q1,p2,q2,p3,q3,p4,q4,p5,q5,rfl⟩:=bD hw;obtain⟨pk,qk,rfl,ck1,ck2,kc⟩:=hk;have KC:=aj (kc);clear hb hw hs kc;go_enter Tryz.func86,Tryz.ntmps86;go_upto_region 1 with fail
 have B0:Hid (Below _ w (w.alloc (Obj.cells #[int i64 X.turn,int i64 X.next,int i64 X.wide,int i64 X.high,slice p1 X.gs.length q1,slice p2 X.os.length q2,slice p3 X.gold.length q3,slice p4 X.us.length q4,slice p5 X.qs.length q5] 29))):=(Below.refl _ _).alloc (Nat.le_refl _) _;have X0:Hid (Bw _ w.heap.size X (slice p1 X.gs.length q1) (slice p2 X.os.length q2) (slice p3 X.gold.length q3) (slice p4 X.us.length q4) (slice p5 X.qs.length q5)):=Bw.mk' X _ _ _ _ _ rfl;generalize (w.alloc _)=w0 at *;obtain⟨x0,x1,x2,x3,x4,x5,x6,x7,x8⟩:=X0.out;go_wp2_with fail
 refine(dR _ _ ks X w0 (K.out.1.below B0.out) K.out.2 (H.out.below B0.out)).mono ?_;rintro e w1 ⟨r,rfl,hr,hb⟩;obtain⟨fw,hfw⟩:∃f,Wd.aF ks X=f:=⟨_,rfl⟩;have FW:=aj (hfw);rw[hfw] at hr;have B1:=aj (B0.out.trans (hb.mono B0.out.size));have X1:=aj (X0.out.below hb X0.out.lt);clear hb hfw x0 x1 x2 x3 x4 x5 x6 x7 x8 X0 B0;rcases hr with⟨rfl,rfl⟩|⟨hf,rfl⟩
 case inr=>
  have HF:=aj (hf);clear hf;go_wp2;go_ret2;exact⟨0,_,fw,rfl,Er.no HF.out,.inl (by rw[FW.out];exact⟨HF.out,rfl,rfl⟩),B1.out⟩
 obtain⟨x0,x1,x2,x3,x4,x5,x6,x7,x8⟩:=X1.out;go_wp2_with fail
 refine(lX _ X unit w1 (H.out.below B1.out)).mono ?_;rintro e w2 ⟨r,rfl,hf,hb⟩;have B2:=aj (B1.out.trans (hb.mono B1.out.size));have X2:=aj (X1.out.below hb X1.out.lt);have FI:=aj (hf);clear hb x0 x1 x2 x3 x4 x5 x6 x7 x8 X1 B1;rcases hf with⟨rfl,hno⟩|⟨i,u,rfl,hi,hid,-⟩
 ·have NO:=aj (hno)
  clear hno;go_wp2;go_ret2;exact⟨0,_,6,rfl,Er.no (by decide),.inr (.inl ⟨FW.out,NO.out,rfl,rfl⟩),B2.out⟩
 have AN:Hid (X.us.any (λu=>u.id==unit)=true):=List.any_eq_true.2 ⟨u,List.mem_of_getElem? hi,hid⟩;have UI:=aj (hi);have hil:=(List.getElem?_eq_some_iff.1 hi).1;clear hi hid;by_cases hk0:kind<0
 ·go_wp2
  go_ret2;exact⟨0,_,1,rfl,Er.no (by decide),.inr (.inr (.inl ⟨FW.out,AN.out,by omega,rfl,rfl⟩)),B2.out⟩
 by_cases hk1:(ks.length:Int)<=kind
 ·go_wp2
  go_ret2;exact⟨0,_,1,rfl,Er.no (by decide),.inr (.inr (.inl ⟨FW.out,AN.out,by omega,rfl,rfl⟩)),B2.out⟩
 obtain⟨kn,rfl⟩:∃n:Nat,kind=n:=⟨kind.toNat,by omega⟩;have hkl:kn<ks.length:=by omega
 obtain⟨k,hkk⟩:∃k,ks[kn]? =some k:=⟨_,List.getElem?_eq_getElem hkl⟩;have WR:=aj (bC FW.out);obtain⟨Wn,Hn,e1,e2,G⟩:=WR.out.good;obtain⟨k0,fu⟩:=WR.out.fine UI.out;have hat:=fu.at_;obtain⟨an,han⟩:∃n:Nat,u.at_=n:=⟨u.at_.toNat,by omega⟩;have GD:Hid (X.wide=(Wn:Nat)/\X.high=(Hn:Nat)/\Fd.Good Wn Hn X.gs X.os/\u.at_=(an:Nat)/\an<Wn*Hn/\ks[kn]? =some k):=⟨e1,e2,G,han,by have:=G.gl;omega,hkk⟩;obtain⟨pa,pc,he,-,-,hu⟩:=H.out.slices.2.2.2.1;obtain⟨xu,hxu,SQ,SX⟩:=hu (by intro h;rw[h] at hil;simp at hil);injection he with he1 he2 he3
 subst he1;subst hxu;obtain⟨xk,hxk,hxl,hxc⟩:=KC.out (by intro h;subst h;simp at hkl);subst hxk;have UK:Hid (dJ w (xu.add (i*8)) u/\(xu.add (i*8)).block<w.heap.size/\Kc w (xk.add (kn*11)) k/\(xk.add (kn*11)).block<w.heap.size):=⟨SX i u UI.out,by rw[add_block];exact SQ,hxc kn k hkk,by rw[add_block];exact hxl⟩;clear hu he2 he3 SQ SX hxl hxc e1 e2 G fu hat hkk KC han;go_upto_region 10 with fail
 refine aI [(true,0),(true,1),(true,2),(true,3),(true,4),(true,5),(true,6),(true,7),(true,8),(true,9),(true,10),(true,11),(true,12),(true,13),(false,14)] [(true,15),(true,16),(true,17),(false,18)] (λV=>Bw V w.heap.size X (slice p1 X.gs.length q1) (slice p2 X.os.length q2) (slice p3 X.gold.length q3) (slice (some xu) X.us.length q4) (slice p5 X.qs.length q5)/\V.cell? ⟨(xu.add (i*8)).block,(xu.add (i*8)).off+3,none⟩=some (int i64 u.at_)/\V.cell? ⟨(xk.add (kn*11)).block,(xk.add (kn*11)).off+9,none⟩=some (.bool k.f)) (by kernel_rfl) (by kernel_rfl) (by kernel_rfl) (by decide+kernel) (by decide+kernel) ?_ ?_
 ·exact⟨X2.out.below ((Below.refl _ _).drew) X2.out.lt,(UK.out.1.below B2.out UK.out.2.1).c3,(UK.out.2.2.1.below B2.out UK.out.2.2.2).c9⟩
 have X3:Hid (Bw {w2 with drawn:=w2.drawn+1} _ X _ _ _ _ _):=X2.out.below ((Below.refl _ _).drew) X2.out.lt;have B3:Hid (Below _ w {w2 with drawn:=w2.drawn+1}):=B2.out.drew;generalize ({w2 with drawn:=w2.drawn+1}:World)=w3 at *;clear X2 B2;refine ay rfl (.pointer (some ⟨w.heap.size,2,none⟩)) (by go_simp) (λV hV=>by go_simp) ?_;go_simp;refine ay rfl (.agg #[int i64 X.wide,int i64 X.high,slice p1 X.gs.length q1,slice p2 X.os.length q2]) (by go_simp) (λV hV=>by obtain⟨⟨x0,x1,x2,x3,x4,x5,x6,x7,x8⟩,cu,ck⟩:=hV;go_simp) ?_;go_simp;refine ay rfl (.pointer (some ⟨w.heap.size,7,none⟩)) (by go_simp) (λV hV=>by go_simp) ?_;go_simp;refine ay rfl (slice (some xu) X.us.length q4) (by go_simp) (λV hV=>by obtain⟨⟨x0,x1,x2,x3,x4,x5,x6,x7,x8⟩,cu,ck⟩:=hV;go_simp) ?_;go_simp;refine ay rfl (int i64 (i:Nat)) (by go_simp) (λV hV=>by go_simp) ?_;go_simp;refine ay rfl (.pointer (some (xu.add (i*8)))) (by go_simp) (λV hV=>by go_simp) ?_;go_simp;refine ay rfl (.pointer (some ⟨(xu.add (i*8)).block,(xu.add (i*8)).off+3,none⟩)) (by go_simp) (λV hV=>by go_simp) ?_;go_simp;refine ay rfl (int i64 u.at_) (by go_simp) (λV hV=>by obtain⟨⟨x0,x1,x2,x3,x4,x5,x6,x7,x8⟩,cu,ck⟩:=hV;go_simp) ?_;go_simp;refine ay rfl (slice (some xk) ks.length qk) (by go_simp) (λV hV=>by go_simp) ?_;go_simp;refine ay rfl (int i64 (kn:Nat)) (by go_simp) (λV hV=>by go_simp) ?_;go_simp;refine ay rfl (.pointer (some (xk.add (kn*11)))) (by go_simp) (λV hV=>by go_simp) ?_;go_simp;refine ay rfl (.pointer (some ⟨(xk.add (kn*11)).block,(xk.add (kn*11)).off+9,none⟩)) (by go_simp) (λV hV=>by go_simp) ?_;go_simp;refine ay rfl (.bool k.f) (by go_simp) (λV hV=>by obtain⟨⟨x0,x1,x2,x3,x4,x5,x6,x7,x8⟩,cu,ck⟩:=hV;go_simp) ?_;go_simp;refine ay rfl (.func (Fn.func 105) #[] #[.pointer (some ⟨w.heap.size,0,none⟩)]) (by go_simp) (λV hV=>by go_simp) ?_;go_simp;refine bI rfl 107 #[.agg #[int i64 X.wide,int i64 X.high,slice p1 X.gs.length q1,slice p2 X.os.length q2],int i64 u.at_,.bool k.f,.func (Fn.func 105) #[] #[.pointer (some ⟨w.heap.size,0,none⟩)]] (by go_simp) (by go_simp) ?_;have FL:Hid (Fl w3 (.agg #[int i64 X.wide,int i64 X.high,slice p1 X.gs.length q1,slice p2 X.os.length q2]) (Wn:Nat) (Hn:Nat) X.gs X.os):=by
  have:=oq (H.out.below B3.out);rw[GD.out.1,GD.out.2.1] at this;rw[GD.out.1,GD.out.2.1];exact this
 have UL:=aj (H.out.slices.2.2.2.1);rw[GD.out.2.2.2.1];refine(xG 105 (by intro args w;go_simp) #[.pointer (some ⟨w.heap.size,0,none⟩)] (sF X.us) _ Wn Hn X.gs X.os an k.f w3 FL.out (S.out.below B3.out) GD.out.2.2.1 GD.out.2.2.2.2.1
  (λV hV x=>Hq X.us x w.heap.size _ V (X3.out.below hV X3.out.lt).c7 ((UL.out.below B3.out).below hV))).mono ?_
 rintro e w4 ⟨l,c,r,F,rfl,hl,hr,hn,hb⟩;have B4:=aj (B3.out.trans (hb.mono B3.out.size));have X4:=aj (X3.out.below hb X3.out.lt);have NS:Hid (aY (Fd.near Wn Hn) (λi _=>(X.gs.map λg=>Fd.onto g k.f).getD i 0) an (Wn*Hn) l/\Er r F/\iU l (Wn*Hn) (sF X.us) c F):=⟨hl,hr,hn⟩;refine⟨_,rfl,⟨X4.out,(by have:=(UK.out.1.below B4.out UK.out.2.1).c3;rw[GD.out.2.2.2.1] at this;exact this),(UK.out.2.2.1.below B4.out UK.out.2.2.2).c9⟩,?_⟩;clear hb hl hr hn X3 B3 FL;go_simp;refine cO rfl (int i64 c) (by go_simp) (λV hV=>by go_simp) ?_;go_simp;refine cO rfl r (by go_simp) (λV hV=>by go_simp) ?_;go_simp;refine cO rfl (int i64 c) (by go_simp) (λV hV=>by go_simp) ?_;go_simp;refine aN rfl r w4 (by go_simp) (by go_simp) trivial ?_;go_simp;unfold aS;go_wp2;go_ret2;exact⟨c,r,F,rfl,NS.out.2.1,.inr (.inr (.inr ⟨FW.out,i,kn,Wn,Hn,an,u,k,l,FI.out,UI.out,rfl,GD.out.2.2.2.2.2,GD.out.1,GD.out.2.1,GD.out.2.2.1,GD.out.2.2.2.1,GD.out.2.2.2.2.1,NS.out.1,NS.out.2.2⟩)),B4.out⟩
end Go.Proofs.YtjpappkgdadhhaaGreatDoor
namespace Go.Proofs.YtjpappkgdadhhaaGreatDoor
open Go.Value (int slice)
open Go.IntKind (i64)
open Go.RowKit
structure bT where
 what:Int
 unit:Int
 arg:Int
def bT.val(k:bT):Value:=.agg #[int i64 k.what,int i64 k.unit,int i64 k.arg]
structure ou(w:World)(y:Addr)(k:bT):Prop where
 c0:w.cell? y=some (int i64 k.what)
 c1:w.cell? ⟨y.block,y.off+1,none⟩=some (int i64 k.unit)
 c2:w.cell? ⟨y.block,y.off+2,none⟩=some (int i64 k.arg)
theorem ou.lt{w:World}{y:Addr}{k:bT}(h:ou w y k):y.block<w.heap.size:=cell_lt h.c0
theorem ou.below{w w':World}{y:Addr}{k:bT}{B:Nat}(h:ou w y k)(hb:Below B w w')(hy:y.block<B):ou w' y k:=
 ⟨by rw[hb.cell (p:=y) hy];exact h.c0,by rw[hb.cell (p:=⟨y.block,y.off+1,none⟩) hy];exact h.c1,by rw[hb.cell (p:=⟨y.block,y.off+2,none⟩) hy];exact h.c2⟩
def RD(w:World)(v:Value)(ks:List bT):Prop:=∃a c,v=slice a ks.length c/\ks.length<=c/\c<=9223372036854775807/\(ks≠[]->∃x,a=some x/\x.block<w.heap.size/\∀(i:Nat) k,ks[i]? =some k->ou w (x.add (i*3)) k)
theorem RD.below{w w':World}{v:Value}{ks:List bT}(h:RD w v ks)(hb:Below w.heap.size w w'):RD w' v ks:=by
 obtain⟨a,c,h1,h2,h3,h4⟩:=h;refine⟨a,c,h1,h2,h3,λhn=>?_⟩;obtain⟨x,e,hx,hk⟩:=h4 hn;exact⟨x,e,Nat.lt_of_lt_of_le hx hb.size,λi k hi=>(hk i k hi).below hb (by rw[add_block];exact hx)⟩
theorem ou.mk'{w:World}{z:Nat}(k:bT)(hz:w.heap.size=z):ou (w.alloc (.cells #[int i64 k.what,int i64 k.unit,int i64 k.arg] 115)) ⟨z,0,none⟩ k:=by
 subst hz;constructor<;>simp
end Go.Proofs.YtjpappkgdadhhaaGreatDoor
namespace Go.Proofs.YtjpappkgdadhhaaGreatDoor
open Go.Value (int slice)
open Go.IntKind (i64)
def mG(l:List aP)(u:Int):Nat:=l.countP (λj=>decide (j.unit=u))
theorem CJ{l:List aP}{q:Nat}{j:aP}(h:l[q]? =some j)(u:Int):mG (l.take (q+1)) u=mG (l.take q) u+if j.unit=u then 1 else 0:=by
 unfold mG;rw[List.take_add_one,h,List.countP_append];simp[List.countP_cons]
def kF(l:List aP)(j:aP):aP:=if mG l j.unit=0 then{j with left:=j.left-1} else j
def one1(j:aP):aP:={j with left:=1}
def Comes(ks:List KV)(Y:WV)(j:aP)(c:Int):Prop:=jF ks Y j.unit j.kind c 0/\Wd.aV ks Y j.aA j.kind c=0
def kG(ks:List KV)(Y:WV)(j:aP):Prop:=∃c F,jF ks Y j.unit j.kind c F/\(F≠0\/Wd.aV ks Y j.aA j.kind c≠0)
inductive Tr (ks:List KV) (X:WV):Nat->WV->List bT->List aP->Prop
 |zero:Tr ks X 0 X [] []
 |wait {q:Nat} {Y:WV} {es:List bT} {qs:List aP} {j:aP}:Tr ks X q Y es qs->X.qs[q]? =some j->(kF (X.qs.take q) j).left≠0->Tr ks X (q+1) Y es (qs++[kF (X.qs.take q) j])
 |come {q:Nat} {Y:WV} {es:List bT} {qs:List aP} {j:aP} {c:Int}:Tr ks X q Y es qs->X.qs[q]? =some j->(kF (X.qs.take q) j).left=0->Comes ks Y j c->Tr ks X (q+1) (Wd.put ks Y j.aA j.kind c) (es++[⟨6,Y.next,c⟩]) qs
 |stay {q:Nat} {Y:WV} {es:List bT} {qs:List aP} {j:aP}:Tr ks X q Y es qs->X.qs[q]? =some j->(kF (X.qs.take q) j).left=0->kG ks Y j->Tr ks X (q+1) Y es (qs++[one1 j])
theorem Tr.keep{ks:List KV}{X:WV}(h:aT ks X){q:Nat}{Y:WV}{es:List bT}{qs:List aP}(t:Tr ks X q Y es qs):aT ks Y/\Y.qs=X.qs/\es.length<=q/\qs.length<=q/\Y.turn=X.turn/\Y.wide=X.wide/\Y.high=X.high/\Y.gs=X.gs/\Y.os=X.os/\Y.gold=X.gold:=by
 induction t with
 |zero=>exact⟨h,rfl,by simp,by simp,rfl,rfl,rfl,rfl,rfl,rfl⟩
 |wait _ _ _ ih=>
  obtain⟨i1,i2,i3,i4,i5⟩:=ih;exact⟨i1,i2,by omega,by simp;omega,i5⟩
 |come _ _ _ hc ih=>
  obtain⟨i1,i2,i3,i4,i5⟩:=ih;exact⟨bC (Ce i1 hc.2),i2,by simp;omega,by omega,i5⟩
 |stay _ _ _ _ ih=>
  obtain⟨i1,i2,i3,i4,i5⟩:=ih;exact⟨i1,i2,by omega,by simp;omega,i5⟩
theorem Tr.count{ks:List KV}{X:WV}{q:Nat}{Y:WV}{es:List bT}{qs:List aP}(t:Tr ks X q Y es qs):Y.us.length=X.us.length+es.length/\Y.next=X.next+(es.length:Int)/\qs.length+es.length=q:=by
 induction t with
 |zero=>simp
 |wait _ _ _ ih=>obtain⟨i1,i2,i3⟩:=ih;exact⟨i1,i2,by simp;omega⟩
 |come _ _ _ _ ih=>
  obtain⟨i1,i2,i3⟩:=ih;refine⟨?_,?_,by simp;omega⟩
  ·simp only[Wd.put,List.length_append,List.length_cons,List.length_nil]
   omega
  ·simp only[Wd.put,List.length_append,List.length_cons,List.length_nil,i2]
   omega
 |stay _ _ _ _ ih=>obtain⟨i1,i2,i3⟩:=ih;exact⟨i1,i2,by simp;omega⟩
def S_(X:WV)(j:aP):Prop:=∃o∈X.qs,j.aA=o.aA/\j.unit=o.unit/\j.kind=o.kind/\j.left≠0/\(j.left=1\/j.left=o.left\/j.left=o.left-1)
theorem Tr.from{ks:List KV}{X:WV}{q:Nat}{Y:WV}{es:List bT}{qs:List aP}(t:Tr ks X q Y es qs):∀j∈qs,S_ X j:=by
 induction t with
 |zero=>intro j hj;cases hj
 | @wait q Y es qs o _ ho hl ih=>
  intro j hj;rcases List.mem_append.1 hj with hj|hj
  ·exact ih j hj
  ·simp only[List.mem_singleton] at hj
   subst hj;refine⟨o,List.mem_of_getElem? ho,?_⟩;unfold kF at hl ⊢;split
   ·rename_i h
    rw[if_pos h] at hl;exact⟨rfl,rfl,rfl,hl,.inr (.inr rfl)⟩
   ·rename_i h
    rw[if_neg h] at hl;exact⟨rfl,rfl,rfl,hl,.inr (.inl rfl)⟩
 |come _ _ _ _ ih=>exact ih
 | @stay q Y es qs o _ ho _ _ ih=>
  intro j hj;rcases List.mem_append.1 hj with hj|hj
  ·exact ih j hj
  ·simp only[List.mem_singleton] at hj
   subst hj;exact⟨o,List.mem_of_getElem? ho,rfl,rfl,rfl,(by show(1:Int)≠0;decide),.inl rfl⟩
theorem Ib{ks:List KV}{X:WV}(h:aT ks X){Y:WV}{es:List bT}{qs:List aP}(t:Tr ks X X.qs.length Y es qs):Wd.aF ks {Y with qs:=qs}=0:=by
 obtain⟨R,eq,-,hq,-⟩:=t.keep h;have hf:=t.from;obtain⟨Wn,Hn,e1,e2,G⟩:=R.good;refine Wd.dV R.kinds (by show Fd.fault Y.wide Y.high Y.gs Y.os=0;rw[e1,e2];exact Fd.dQ G) R.nums R.ul (λi u hu=>?_) (by show qs.length<=12;have:=h.ql;omega) (λj hj=>?_)
 ·obtain⟨k,F⟩:=R.fine hu
  exact⟨k,F.id1,F.id2,F.up,F.p,F.k0,F.kk,F.life,F.load,F.task,F.at_,F.goal,F.opn,F.rest⟩
 ·obtain⟨o,ho,p1,p2,p3,p4,p5⟩:=hf j hj
  have h1:=R.job (j:=o) (by rw[eq];exact ho);unfold Wd.aK at h1 ⊢;show(match Y.us.find? (λu=>u.id==j.unit) with|none=>6|some u=>_)=(0:Int);rw[p2];cases hu:Y.us.find? (λu=>u.id==o.unit) with
  |none=>rw[hu] at h1;exact h1
  |some u=>
   rw[hu] at h1;simp only at h1 ⊢;cases hk:ks[u.kind.toNat]? with
   |none=>rw[hk] at h1;exact h1
   |some k=>
    rw[hk] at h1;simp only at h1 ⊢;rw[p1,p3];split at h1
    ·cases h1
    ·rename_i c1
     rw[if_neg c1];split at h1
     ·cases h1
     ·rename_i c2
      rw[if_neg];simp only[Bool.or_eq_true,Bool.not_eq_true',decide_eq_false_iff_not,not_or,Classical.not_not,Bool.not_eq_false] at c2 ⊢;refine⟨c2.1,?_⟩;have:=c2.2;rcases p5 with e|e|e<;>omega
def Aa(ks:List KV)(u:aC):Int:=match ks[u.kind.toNat]? with|some k=>k.n7|none=>0
def bM(ks:List KV)(Y:WV)(u:aC):Int:=if u.task=2/\u.at_=u.goal then min (min (Aa ks u-u.load) (Y.os.getD u.at_.toNat 0)) 10 else 0
def iV(u:aC)(n:Int):aC:={u with load:=n}
def fE(Y:WV)(i:Nat)(u:aC)(n:Int):WV:={Y with us:=Y.us.set i (iV u (u.load+n)),os:=Y.os.set u.at_.toNat (Y.os.getD u.at_.toNat 0-n)}
def tk(ks:List KV)(Y:WV):Nat->WV×List bT
 |0=>(Y,[])
 |q+1=>match (tk ks Y q).1.us[q]? with
  |none=>tk ks Y q
  |some u=>if 0<bM ks (tk ks Y q).1 u then(fE (tk ks Y q).1 q u (bM ks (tk ks Y q).1 u),(tk ks Y q).2++[⟨4,u.id,bM ks (tk ks Y q).1 u⟩]) else tk ks Y q
theorem oz{ks:List KV}{Y:WV}{q:Nat}{u:aC}(hu:(tk ks Y q).1.us[q]? =some u)(h:0<bM ks (tk ks Y q).1 u):tk ks Y (q+1)=(fE (tk ks Y q).1 q u (bM ks (tk ks Y q).1 u),(tk ks Y q).2++[⟨4,u.id,bM ks (tk ks Y q).1 u⟩]):=by
 rw[tk];simp only[hu];rw[if_pos h]
theorem uX{ks:List KV}{Y:WV}{q:Nat}{u:aC}(hu:(tk ks Y q).1.us[q]? =some u)(h:¬0<bM ks (tk ks Y q).1 u):tk ks Y (q+1)=tk ks Y q:=by
 rw[tk];simp only[hu];rw[if_neg h]
structure iW(ks:List KV)(Y:WV):Prop where
 wide:∃Wn Hn:Nat,Y.wide=Wn/\Y.high=Hn/\Fd.Good Wn Hn Y.gs Y.os
 units:∀u∈Y.us,(∃kn:Nat,∃k,u.kind=kn/\ks[kn]? =some k/\0<=u.load/\u.load<=k.n7/\k.n7<=1000)/\(∃an:Nat,u.at_=an/\an<Y.os.length)/\∃pn:Nat,u.aA=pn/\pn<Y.gold.length
 gold:∀g∈Y.gold,0<=g/\g<=1000000
 ul:Y.us.length<=40
theorem iW.sG{ks:List KV}{Y:WV}(h:iW ks Y){i:Nat}{x:Int}(hx:Y.os[i]? =some x):0<=x/\x<=1000000:=by
 obtain⟨Wn,Hn,-,-,G⟩:=h.wide;have hi:=(List.getElem?_eq_some_iff.1 hx).1;have hg:=List.getElem?_eq_getElem (l:=Y.gs) (i:=i) (by rw[G.gl,<-G.ol];exact hi);have:=G.cell i _ x hg hx;omega
theorem uY{ks:List KV}(h:Kd.aH (ks.map KV.k)=0):∀k∈ks,0<=k.n7/\k.n7<=1000:=by
 intro k hk;unfold Kd.aH at h;split at h
 ·omega
 ·have h2:=gX h k.k (List.mem_map.2 ⟨k,hk,rfl⟩)
  unfold Kd.dw at h2;split at h2
  ·omega
  ·rename_i h3
   rw[Bool.not_eq_true,List.any_eq_false] at h3;have:=h3 k.n7 (by simp[KV.k]);simp only[decide_eq_true_eq] at this;omega
theorem Ic{Y:WV}(h:Wd.aX Y=false):∀g∈Y.gold,0<=g/\g<=1000000:=by
 unfold Wd.aX at h;simp only[Bool.or_eq_false_iff] at h;obtain⟨-,-,h3,h4⟩:=h;intro g hg;rw[List.any_eq_false] at h4;have:=h4 g hg;unfold Wd.off at this;simp at this;exact this
theorem aT.Tc{ks:List KV}{Y:WV}(h:aT ks Y):iW ks Y:=by
 have kc:=uY h.kinds;obtain⟨Wn,Hn,e1,e2,G⟩:=h.good;refine⟨⟨Wn,Hn,e1,e2,G⟩,λu hu=>?_,Ic h.nums,h.ul⟩;obtain⟨i,hi⟩:=List.mem_iff_getElem?.1 hu;obtain⟨k,F⟩:=h.fine hi;have hl:Y.os.length=Y.gs.length:=by rw[G.gl,G.ol]
 exact⟨⟨u.kind.toNat,k,by have:=F.k0;omega,F.kk,F.load.1,F.load.2,(kc k (List.mem_of_getElem? F.kk)).2⟩,⟨u.at_.toNat,by have:=F.at_;omega,by have:=F.at_;omega⟩,⟨u.aA.toNat,by have:=F.p;omega,by have:=F.p;omega⟩⟩
theorem oC{ks:List KV}{Y:WV}{u:aC}{kn an:Nat}{k:KV}{x:Int}(hk:u.kind=kn)(hkk:ks[kn]? =some k)(ha:u.at_=an)(hx:Y.os[an]? =some x):bM ks Y u=(if u.task=2/\u.at_=u.goal then min (min (k.n7-u.load) x) 10 else 0):=by
 unfold bM Aa;rw[hk,ha,Int.toNat_natCast,Int.toNat_natCast];simp only[hkk,List.getD_eq_getElem?_getD,hx,Option.getD_some]
theorem iW.take{ks:List KV}{Y:WV}(h:iW ks Y){i:Nat}{u:aC}(hu:Y.us[i]? =some u)(hn:0<bM ks Y u):iW ks (fE Y i u (bM ks Y u)):=by
 obtain⟨⟨kn,k,e1,e2,l1,l2,l3⟩,⟨an,e3,hal⟩,pn,e4,hpl⟩:=h.units u (List.mem_of_getElem? hu);obtain⟨x,hx⟩:∃x,Y.os[an]? =some x:=⟨_,List.getElem?_eq_getElem hal⟩;have ey:=oC (ks:=ks) (Y:=Y) e1 e2 e3 hx;have hox:=h.sG hx;have hy:bM ks Y u<=k.n7-u.load/\bM ks Y u<=x:=by
  rw[ey] at hn ⊢;split
  ·omega
  ·rename_i hh;rw[if_neg hh] at hn;omega
 have eg:Y.os.getD u.at_.toNat 0=x:=by rw[e3,Int.toNat_natCast,List.getD_eq_getElem?_getD,hx,Option.getD_some]
 refine⟨?_,λv hv=>?_,h.gold,by simpa[fE] using h.ul⟩
 ·obtain⟨Wn,Hn,a1,a2,G⟩:=h.wide
  refine⟨Wn,Hn,a1,a2,⟨G.w1,G.w2,G.h1,G.h2,G.gl,by simpa[fE] using G.ol,λj g o hg ho=>?_⟩⟩;unfold fE at ho;simp only at ho;rw[eg,e3,Int.toNat_natCast,List.getElem?_set] at ho;split at ho
  ·rename_i ej
   subst ej;injection ho with ho
   have c:=G.cell an g x hg hx;refine⟨c.1,c.2.1,by omega,by omega,λh9=>c.2.2.2.2 (by omega)⟩
  ·exact G.cell j g o hg ho
 ·have hlen:(fE Y i u (bM ks Y u)).os.length=Y.os.length:=by simp[fE]
  rw[hlen];rcases List.mem_or_eq_of_mem_set hv with hv|rfl
  ·exact h.units v hv
  ·exact⟨⟨kn,k,e1,e2,by show 0<=u.load+_;omega,by show u.load+_<=_;omega,l3⟩,⟨an,e3,hal⟩,pn,e4,hpl⟩
def Vw(Y Z:WV):Prop:=Z.turn=Y.turn/\Z.next=Y.next/\Z.wide=Y.wide/\Z.high=Y.high/\Z.gs=Y.gs/\Z.gold=Y.gold/\Z.qs=Y.qs/\Z.us.length=Y.us.length/\Z.os.length=Y.os.length
theorem sH{ks:List KV}{Y:WV}:∀q,Vw Y (tk ks Y q).1
 |0=>⟨rfl,rfl,rfl,rfl,rfl,rfl,rfl,rfl,rfl⟩
 |q+1=>by
  have ih:=sH (ks:=ks) (Y:=Y) q;cases hu:(tk ks Y q).1.us[q]? with
  |none=>rw[tk];simp only[hu];exact ih
  |some u=>
   by_cases h:0<bM ks (tk ks Y q).1 u
   ·rw[oz hu h]
    obtain⟨a1,a2,a3,a4,a5,a6,a7,a8,a9⟩:=ih;exact⟨a1,a2,a3,a4,a5,a6,a7,by simpa[fE] using a8,by simpa[fE] using a9⟩
   ·rw[uX hu h];exact ih
theorem Ie{ks:List KV}{Y:WV}(h:iW ks Y):∀q,iW ks (tk ks Y q).1
 |0=>h
 |q+1=>by
  have ih:=Ie h q;cases hu:(tk ks Y q).1.us[q]? with
  |none=>rw[tk];simp only[hu];exact ih
  |some u=>
   by_cases hh:0<bM ks (tk ks Y q).1 u
   ·rw[oz hu hh];exact ih.take hu hh
   ·rw[uX hu hh];exact ih
theorem sJ{ks:List KV}{Y:WV}:∀q,(tk ks Y q).2.length<=q
 |0=>by simp[tk]
 |q+1=>by
  have ih:=sJ (ks:=ks) (Y:=Y) q;cases hu:(tk ks Y q).1.us[q]? with
  |none=>rw[tk];simp only[hu];omega
  |some u=>
   by_cases h:0<bM ks (tk ks Y q).1 u
   ·rw[oz hu h];simp;omega
   ·rw[uX hu h];omega
open Go.RowKit
theorem fK(ks:List aC):(ks.flatMap aC.cs).length=ks.length*8:=by
 induction ks with
 |nil=>rfl
 |cons x l ih=>rw[List.flatMap_cons,List.length_append,ih,List.length_cons,Nat.succ_mul,Nat.add_comm];rfl
theorem MH{w:World}{y:Addr}{ks:List aC}(hc:∀(i:Nat) k,ks[i]? =some k->dJ w (y.add (i*8)) k)(j:Nat)(u:Value)(hj:(ks.flatMap aC.cs)[j]? =some u):w.cell? (y.add j)=some u:=by
 have hjl:j<ks.length*8:=by rw[<-fK];exact(List.getElem?_eq_some_iff.1 hj).1
 obtain⟨i,r,hr,rfl⟩:∃i r,r<8/\j=i*8+r:=⟨j/8,j%8,Nat.mod_lt _ (by decide),by omega⟩;have hi:i<ks.length:=by omega
 obtain⟨k,hk⟩:∃k,ks[i]? =some k:=⟨_,List.getElem?_eq_getElem hi⟩;rw[kT ks i r k hk hr] at hj;have h:=hc i k hk;rcases Nat.eq_zero_or_pos r with rfl|hr0
 ·simp[aC.cs] at hj
  subst hj;exact h.c0
 ·have ea:y.add (i*8+r)=⟨(y.add (i*8)).block,(y.add (i*8)).off+r,none⟩:=by
   unfold Addr.add;rw[if_neg (by omega)];split<;>simp<;>omega
  rw[ea]
  match r,hr,hr0,hj with
  |1,_,_,hj=>simp[aC.cs] at hj;subst hj;exact h.c1
  |2,_,_,hj=>simp[aC.cs] at hj;subst hj;exact h.c2
  |3,_,_,hj=>simp[aC.cs] at hj;subst hj;exact h.c3
  |4,_,_,hj=>simp[aC.cs] at hj;subst hj;exact h.c4
  |5,_,_,hj=>simp[aC.cs] at hj;subst hj;exact h.c5
  |6,_,_,hj=>simp[aC.cs] at hj;subst hj;exact h.c6
  |7,_,_,hj=>simp[aC.cs] at hj;subst hj;exact h.c7
theorem Ac{ops:Array Oper}{rest:List Oper}{o:Oper}{a:Act}{Q:Exit->Act->World->Prop}(w:World)(hgd:o.guard=none)(s x:Operand)
 (ho:o.op=.call {callee:=.builtin .append,args:= #[s,x],argTypes:= #[26,26]}) (base:Nat) (v:Value) (ks:List aC) (hs:a.eval s=v) (hown:dA w base v ks)
 (u:Value) (ys:List aC) (hx:a.eval x=u) (hu:jd w u ys) (hl:ks.length+ys.length<=100000000) (hbase:base<=w.heap.size)
 (h:∀v' w',dA w' base v' (ks++ys)->w.grownBy w' v.ownBlock->(v'.ownBlock=v.ownBlock\/v'.ownBlock=some w.heap.size)->wpList Tryz.prog ops Q rest (a.put o.dst v') w'):
 wpList Tryz.prog ops Q (o::rest) a w:=by
 obtain⟨i0,hi,hz0,hz1,hz2⟩:=info_parts zS;obtain⟨ad,c,rfl,h1,h2,h3⟩:=hu;by_cases hn:ys=[]
 ·subst hn
  refine wpList_plain hgd λK hK=>?_
  have hrun:=fP (P:=Tryz.prog) (w:=w) base 26 o.type 35 i0 8 Tryz.underlying26 hi v ks.length _ hown ad c;have hx':a.eval x=slice ad 0 c:=hx;unfold Oper.wp;simp[execOp,ho,resolve,invoke,builtin,hs,hx',hrun,Result.andThen];exact hK _ _ (h v w (by simpa using hown) (World.grownBy.refl _ _) (.inl rfl))
 ·obtain⟨y,rfl,hy,hc⟩:=h3 hn
  refine wpList_append_lies w hgd s x 26 ho _ 35 i0 _ 8 64 Tryz.underlying26 hi hz0 hz1 hz2 rfl (by decide) v _ _ hs hown y _ c _ hx (fK ys) (MH hc) ?_ (List.length_pos_iff.2 hn) (by unfold maxLen;omega) (by omega) hbase _ rfl ?_
  ·intro u hu
   obtain⟨k,-,hk⟩:=List.mem_flatMap.1 hu;simp[aC.cs] at hk;rcases hk with rfl|rfl|rfl|rfl|rfl|rfl|rfl|rfl<;>rfl
  ·intro g cap w' k1 k2 k3 _
   refine h _ w' ?_ k2 ?_
   ·unfold dA
    rw[List.length_append,List.flatMap_append];exact k1
   ·rcases k3 with k3|k3
    ·exact .inl k3.symm
    ·exact .inr (by rw[k3];rfl)
def Ub(w:World)(g:Nat)(ks:List aC)(rest:List Value):Prop:=w.heap[g]? =some (.cells (ks.flatMap aC.cs++rest).toArray 35 (0,0))
theorem Ub.lt{w:World}{g:Nat}{ks:List aC}{rest:List Value}(h:Ub w g ks rest):g<w.heap.size:=lt_of_block h
theorem Ub.thaw{w:World}{g:Nat}{ks:List aC}{rest:List Value}(h:Ub w g ks rest)(i:Nat):w.frozen? ⟨g,i,none⟩=false:=by
 unfold Ub at h;simp[World.frozen?,h]
theorem Ub.below{w w':World}{g B:Nat}{ks:List aC}{rest:List Value}(h:Ub w g ks rest)(hb:Below B w w')(hB:g<B):Ub w' g ks rest:=by
 unfold Ub at *;rw[hb.block g hB];exact h
theorem Ub.at_{w:World}{g:Nat}{ks:List aC}{rest:List Value}(h:Ub w g ks rest){i:Nat}{o:aC}(ho:ks[i]? =some o){j:Nat}(hj:j<8):w.cell? ⟨g,i*8+j,none⟩=o.cs[j]? :=by
 unfold Ub at h;have hi:=(List.getElem?_eq_some_iff.1 ho).1;simp only[World.cell?,h];have e:(ks.flatMap aC.cs++rest).toArray[i*8+j]? =o.cs[j]? :=by
  rw[List.getElem?_toArray,List.getElem?_append_left (by rw[fK];omega),kT ks i j o ho hj]
 simp only[e];simp
theorem Ub.kH{w:World}{g:Nat}{ks:List aC}{rest:List Value}(h:Ub w g ks rest){i:Nat}{o:aC}(ho:ks[i]? =some o):dJ w ⟨g,i*8,none⟩ o:=
 ⟨h.at_ ho (j:=0) (by decide),h.at_ ho (j:=1) (by decide),h.at_ ho (j:=2) (by decide),h.at_ ho (j:=3) (by decide),h.at_ ho (j:=4) (by decide),h.at_ ho (j:=5) (by decide),h.at_ ho (j:=6) (by decide),h.at_ ho (j:=7) (by decide)⟩
theorem qR:∀(ks:List aC) (i:Nat) (o:aC) (rest:List Value),i<ks.length->
 (ks.set i o).flatMap aC.cs++rest=((((((((ks.flatMap aC.cs++rest).set (i*8) (int i64 o.id)).set (i*8+1) (int i64 o.aA)).set (i*8+2) (int i64 o.kind)).set (i*8+3) (int i64 o.at_)).set (i*8+4) (int i64 o.life)).set (i*8+5) (int i64 o.load)).set (i*8+6) (int i64 o.task)).set (i*8+7) (int i64 o.goal)
 |[],i,o,rest,h=>by simp at h
 |k::ks,0,o,rest,_=>by
  simp[aC.cs]
 |k::ks,i+1,o,rest,h=>by
  have ih:=qR ks i o rest (by simpa using h);rw[show(i+1)*8=i*8+8 by omega,show i*8+8+1=i*8+1+8 by omega,show i*8+8+2=i*8+2+8 by omega,show i*8+8+3=i*8+3+8 by omega,show i*8+8+4=i*8+4+8 by omega,show i*8+8+5=i*8+5+8 by omega,show i*8+8+6=i*8+6+8 by omega,show i*8+8+7=i*8+7+8 by omega,List.set_cons_succ,List.flatMap_cons,List.append_assoc,ih,List.flatMap_cons];simp[aC.cs]
theorem Ub.put{w:World}{g:Nat}{ks:List aC}{rest:List Value}(h:Ub w g ks rest){i:Nat}(hi:i<ks.length)(o:aC):
 Ub ((((((((w.setCell ⟨g,i*8,none⟩ (int i64 o.id)).setCell ⟨g,i*8+1,none⟩ (int i64 o.aA)).setCell ⟨g,i*8+2,none⟩ (int i64 o.kind)).setCell ⟨g,i*8+3,none⟩ (int i64 o.at_)).setCell ⟨g,i*8+4,none⟩ (int i64 o.life)).setCell ⟨g,i*8+5,none⟩ (int i64 o.load)).setCell ⟨g,i*8+6,none⟩ (int i64 o.task)).setCell ⟨g,i*8+7,none⟩ (int i64 o.goal)) g (ks.set i o) rest:=by
 unfold Ub at *;have h0:=heap_setCell_same w g (i*8) _ _ (int i64 o.id) h;have h1:=heap_setCell_same _ g (i*8+1) _ _ (int i64 o.aA) h0;have h2:=heap_setCell_same _ g (i*8+2) _ _ (int i64 o.kind) h1;have h3:=heap_setCell_same _ g (i*8+3) _ _ (int i64 o.at_) h2;have h4:=heap_setCell_same _ g (i*8+4) _ _ (int i64 o.life) h3;have h5:=heap_setCell_same _ g (i*8+5) _ _ (int i64 o.load) h4;have h6:=heap_setCell_same _ g (i*8+6) _ _ (int i64 o.task) h5;have h7:=heap_setCell_same _ g (i*8+7) _ _ (int i64 o.goal) h6;rw[h7,qR ks i o rest hi];simp
theorem oD{B g:Nat}{w W:World}{i:Nat}(o:aC)(h:Below B w W)(hb:B<=g):Below B w ((((((((W.setCell ⟨g,i*8,none⟩ (int i64 o.id)).setCell ⟨g,i*8+1,none⟩ (int i64 o.aA)).setCell ⟨g,i*8+2,none⟩ (int i64 o.kind)).setCell ⟨g,i*8+3,none⟩ (int i64 o.at_)).setCell ⟨g,i*8+4,none⟩ (int i64 o.life)).setCell ⟨g,i*8+5,none⟩ (int i64 o.load)).setCell ⟨g,i*8+6,none⟩ (int i64 o.task)).setCell ⟨g,i*8+7,none⟩ (int i64 o.goal)):=
 (((((((h.setCell (p:=⟨g,i*8,none⟩) hb _).setCell (p:=⟨g,i*8+1,none⟩) hb _).setCell (p:=⟨g,i*8+2,none⟩) hb _).setCell (p:=⟨g,i*8+3,none⟩) hb _).setCell (p:=⟨g,i*8+4,none⟩) hb _).setCell (p:=⟨g,i*8+5,none⟩) hb _).setCell (p:=⟨g,i*8+6,none⟩) hb _).setCell (p:=⟨g,i*8+7,none⟩) hb _
theorem oG:∀(ks:List aC) (i:Nat) (o:aC) (a:Int) (rest:List Value),ks[i]? =some o->(ks.set i {o with at_:=a}).flatMap aC.cs++rest=(ks.flatMap aC.cs++rest).set (i*8+3) (int i64 a)
 |[],i,o,a,rest,h=>by simp at h
 |k::ks,0,o,a,rest,h=>by
  simp at h;subst h;simp[aC.cs]
 |k::ks,i+1,o,a,rest,h=>by
  have ih:=oG ks i o a rest (by simpa using h);rw[show(i+1)*8+3=i*8+3+8 by omega,List.set_cons_succ,List.flatMap_cons,List.append_assoc,ih,List.flatMap_cons];simp[aC.cs]
theorem Ub.B_{w:World}{g:Nat}{ks:List aC}{rest:List Value}(h:Ub w g ks rest){i:Nat}{o:aC}(ho:ks[i]? =some o)(a:Int):Ub (w.setCell ⟨g,i*8+3,none⟩ (int i64 a)) g (ks.set i {o with at_:=a}) rest:=by
 unfold Ub at *;have h0:=heap_setCell_same w g (i*8+3) _ _ (int i64 a) h;rw[h0,oG ks i o a rest ho];simp
theorem oH:∀(ks:List aC) (i:Nat) (o:aC) (a:Int) (rest:List Value),ks[i]? =some o->(ks.set i {o with life:=a}).flatMap aC.cs++rest=(ks.flatMap aC.cs++rest).set (i*8+4) (int i64 a)
 |[],i,o,a,rest,h=>by simp at h
 |k::ks,0,o,a,rest,h=>by
  simp at h;subst h;simp[aC.cs]
 |k::ks,i+1,o,a,rest,h=>by
  have ih:=oH ks i o a rest (by simpa using h);rw[show(i+1)*8+4=i*8+4+8 by omega,List.set_cons_succ,List.flatMap_cons,List.append_assoc,ih,List.flatMap_cons];simp[aC.cs]
theorem Ub.LD{w:World}{g:Nat}{ks:List aC}{rest:List Value}(h:Ub w g ks rest){i:Nat}{o:aC}(ho:ks[i]? =some o)(a:Int):Ub (w.setCell ⟨g,i*8+4,none⟩ (int i64 a)) g (ks.set i {o with life:=a}) rest:=by
 unfold Ub at *;have h0:=heap_setCell_same w g (i*8+4) _ _ (int i64 a) h;rw[h0,oH ks i o a rest ho];simp
theorem oI:∀(ks:List aC) (i:Nat) (o:aC) (a:Int) (rest:List Value),ks[i]? =some o->(ks.set i {o with load:=a}).flatMap aC.cs++rest=(ks.flatMap aC.cs++rest).set (i*8+5) (int i64 a)
 |[],i,o,a,rest,h=>by simp at h
 |k::ks,0,o,a,rest,h=>by
  simp at h;subst h;simp[aC.cs]
 |k::ks,i+1,o,a,rest,h=>by
  have ih:=oI ks i o a rest (by simpa using h);rw[show(i+1)*8+5=i*8+5+8 by omega,List.set_cons_succ,List.flatMap_cons,List.append_assoc,ih,List.flatMap_cons];simp[aC.cs]
theorem Ub.Gi{w:World}{g:Nat}{ks:List aC}{rest:List Value}(h:Ub w g ks rest){i:Nat}{o:aC}(ho:ks[i]? =some o)(a:Int):Ub (w.setCell ⟨g,i*8+5,none⟩ (int i64 a)) g (ks.set i {o with load:=a}) rest:=by
 unfold Ub at *;have h0:=heap_setCell_same w g (i*8+5) _ _ (int i64 a) h;rw[h0,oI ks i o a rest ho];simp
theorem oJ:∀(ks:List aC) (i:Nat) (o:aC) (a:Int) (rest:List Value),ks[i]? =some o->(ks.set i {o with task:=a}).flatMap aC.cs++rest=(ks.flatMap aC.cs++rest).set (i*8+6) (int i64 a)
 |[],i,o,a,rest,h=>by simp at h
 |k::ks,0,o,a,rest,h=>by
  simp at h;subst h;simp[aC.cs]
 |k::ks,i+1,o,a,rest,h=>by
  have ih:=oJ ks i o a rest (by simpa using h);rw[show(i+1)*8+6=i*8+6+8 by omega,List.set_cons_succ,List.flatMap_cons,List.append_assoc,ih,List.flatMap_cons];simp[aC.cs]
theorem Ub.Gj{w:World}{g:Nat}{ks:List aC}{rest:List Value}(h:Ub w g ks rest){i:Nat}{o:aC}(ho:ks[i]? =some o)(a:Int):Ub (w.setCell ⟨g,i*8+6,none⟩ (int i64 a)) g (ks.set i {o with task:=a}) rest:=by
 unfold Ub at *;have h0:=heap_setCell_same w g (i*8+6) _ _ (int i64 a) h;rw[h0,oJ ks i o a rest ho];simp
theorem oK:∀(ks:List aC) (i:Nat) (o:aC) (a:Int) (rest:List Value),ks[i]? =some o->(ks.set i {o with goal:=a}).flatMap aC.cs++rest=(ks.flatMap aC.cs++rest).set (i*8+7) (int i64 a)
 |[],i,o,a,rest,h=>by simp at h
 |k::ks,0,o,a,rest,h=>by
  simp at h;subst h;simp[aC.cs]
 |k::ks,i+1,o,a,rest,h=>by
  have ih:=oK ks i o a rest (by simpa using h);rw[show(i+1)*8+7=i*8+7+8 by omega,List.set_cons_succ,List.flatMap_cons,List.append_assoc,ih,List.flatMap_cons];simp[aC.cs]
theorem Ub.wS{w:World}{g:Nat}{ks:List aC}{rest:List Value}(h:Ub w g ks rest){i:Nat}{o:aC}(ho:ks[i]? =some o)(a:Int):Ub (w.setCell ⟨g,i*8+7,none⟩ (int i64 a)) g (ks.set i {o with goal:=a}) rest:=by
 unfold Ub at *;have h0:=heap_setCell_same w g (i*8+7) _ _ (int i64 a) h;rw[h0,oK ks i o a rest ho];simp
theorem dA.ub{w:World}{base:Nat}{v:Value}{ks:List aC}(h:dA w base v ks):(v=slice none 0 0/\ks=[])\/∃g cap rest,v=slice (some ⟨g,0,none⟩) ks.length cap/\base<=g/\ks.length<=cap/\cap<=maxLen/\ks.length*8+rest.length=cap*8/\Ub w g ks rest:=by
 rcases h.2 with⟨h1,h2⟩|⟨g,cap,cur,h1,h2,h3,h4,h5,h6,h7⟩
 ·exact .inl ⟨h1,List.length_eq_zero_iff.1 h2⟩
 ·refine .inr ⟨g,cap,cur.toList.drop (ks.length*8),h1,h2,h4,h5,?_,?_⟩
  ·have e6:cur.toList.length=cap*8:=by simpa using h6
   rw[List.length_drop,e6];have:ks.length*8<=cap*8:=Nat.mul_le_mul_right _ h4;omega
  ·unfold Ub
   rw[<-h7,List.take_append_drop,Array.toArray_toList];exact h3
theorem Ub.PZ{w:World}{base g cap:Nat}{ks:List aC}{rest:List Value}(h:Ub w g ks rest)(hb:base<=g)(h1:ks.length<=cap)(h2:cap<=maxLen)(h3:ks.length*8+rest.length=cap*8):dA w base (slice (some ⟨g,0,none⟩) ks.length cap) ks:=by
 refine⟨fK ks,.inr ⟨g,cap,_,rfl,hb,h,h1,h2,?_,?_⟩⟩
 ·simp only[List.size_toArray,List.length_append,fK];omega
 ·show(ks.flatMap aC.cs++rest).take (ks.length*8)=_
  rw[List.take_append_of_le_length (by rw[fK];exact Nat.le_refl _),List.take_of_length_le (by rw[fK];exact Nat.le_refl _)]
theorem Ub.take{w:World}{g:Nat}{ks:List aC}{rest:List Value}(h:Ub w g ks rest)(m:Nat):Ub w g (ks.take m) ((ks.drop m).flatMap aC.cs++rest):=by
 unfold Ub at *;rw[<-List.append_assoc,<-List.flatMap_append,List.take_append_drop];exact h
theorem oL{w:World}{z:Nat}(y:aC)(hz:w.heap.size=z):Ub (w.alloc (Obj.cells #[int i64 y.id,int i64 y.aA,int i64 y.kind,int i64 y.at_,int i64 y.life,int i64 y.load,int i64 y.task,int i64 y.goal] 35)) z [y] []:=by
 subst hz;exact heap_alloc_new _ _
theorem Ig{a b:Int}(h:a=b):Ending.returned (int i64 a)=Ending.returned (int i64 b):=by rw[h]
theorem CO(vk vw:Value)(ks:List KV)(Y:WV)(u:aC)(kn an:Nat)(k:KV)(x:Int)(w:World)(hk:Kl w vk ks)(hw:Wl w vw Y)(hkn:u.kind=kn)(hkk:ks[kn]? =some k)(han:u.at_=an)(hx:Y.os[an]? =some x)
 (l1:0<=u.load) (l2:u.load<=1000) (l3:0<=k.n7) (l4:k.n7<=1000) (l5:0<=x/\x<=1000000):
 Calls Tryz.prog 89 #[vk,vw,u.val] w λe w'=>e=.returned (int i64 (bM ks Y u))/\Below w.heap.size w w':=by
 have K:=aj (hk);have H:=aj (hw);have NN:Hid (u.kind=(kn:Nat)/\ks[kn]? =some k/\u.at_=(an:Nat)/\Y.os[an]? =some x):=⟨hkn,hkk,han,hx⟩;have EY:=aj (oC hkn hkk han hx);have hkl:=(List.getElem?_eq_some_iff.1 hkk).1;have hal:=(List.getElem?_eq_some_iff.1 hx).1;have hki:((kn:Nat):Int)<(ks.length:Nat):=by omega
 have hai:((an:Nat):Int)<(Y.os.length:Nat):=by omega
 obtain⟨p1,q1,p2,q2,p3,q3,p4,q4,p5,q5,rfl⟩:=bD hw;obtain⟨pk,qk,rfl,ck1,ck2,kc⟩:=hk;obtain⟨xk,rfl,uZ,hxk⟩:=kc (by rintro hn;rw[hn] at hkl;simp at hkl);have KC:Hid (xk.block<w.heap.size/\Kc w (xk.add (kn*11)) k):=⟨uZ,hxk kn k hkk⟩;obtain⟨xo,rfl,hxo⟩:∃xo,p2=some xo/\xo.block<w.heap.size/\w.cell? (xo.add an)=some (int i64 x):=by
  obtain⟨k1,k2,k3,k4,k5,ev,r1,r2,r3,hu,r5⟩:=hw;have e9:k2=slice p2 Y.os.length q2:=by simp only[Value.agg.injEq,Array.mk.injEq,List.cons.injEq] at ev;exact ev.2.2.2.2.2.1.symm
  subst e9;obtain⟨a',c',e',-,-,hz⟩:=r2;injection e' with e1' e2' e3'
  subst e1';obtain⟨y,e,h1,h2⟩:=hz (by rintro hn;rw[hn] at hal;simp at hal);exact⟨y,e,h1,h2 an x hx⟩
 have XO:=aj (hxo);clear hw hxo hkn hkk han hx kc hxk uZ;unfold aC.val;go_enter Tryz.func89,Tryz.ntmps89;go_upto_region 1 with fail
 have BA:Hid (Below _ w (w.alloc (Obj.cells #[int i64 Y.turn,int i64 Y.next,int i64 Y.wide,int i64 Y.high,slice p1 Y.gs.length q1,slice (some xo) Y.os.length q2,slice p3 Y.gold.length q3,slice p4 Y.us.length q4,slice p5 Y.qs.length q5] 29))):=(Below.refl _ _).alloc (Nat.le_refl _) _;have X0:Hid (Bw _ w.heap.size Y (slice p1 Y.gs.length q1) (slice (some xo) Y.os.length q2) (slice p3 Y.gold.length q3) (slice p4 Y.us.length q4) (slice p5 Y.qs.length q5)):=Bw.mk' Y _ _ _ _ _ rfl;have U0:Hid (Ub ((w.alloc (Obj.cells #[int i64 Y.turn,int i64 Y.next,int i64 Y.wide,int i64 Y.high,slice p1 Y.gs.length q1,slice (some xo) Y.os.length q2,slice p3 Y.gold.length q3,slice p4 Y.us.length q4,slice p5 Y.qs.length q5] 29)).alloc (Obj.cells #[int i64 u.id,int i64 u.aA,int i64 u.kind,int i64 u.at_,int i64 u.life,int i64 u.load,int i64 u.task,int i64 u.goal] 35)) (w.heap.size+1) [u] []):=oL u (by simp);have B1:Hid (Below w.heap.size w ((w.alloc (Obj.cells #[int i64 Y.turn,int i64 Y.next,int i64 Y.wide,int i64 Y.high,slice p1 Y.gs.length q1,slice (some xo) Y.os.length q2,slice p3 Y.gold.length q3,slice p4 Y.us.length q4,slice p5 Y.qs.length q5] 29)).alloc (Obj.cells #[int i64 u.id,int i64 u.aA,int i64 u.kind,int i64 u.at_,int i64 u.life,int i64 u.load,int i64 u.task,int i64 u.goal] 35))):=BA.out.alloc (by simp) _;have X1:Hid (Bw ((w.alloc _).alloc (Obj.cells #[int i64 u.id,int i64 u.aA,int i64 u.kind,int i64 u.at_,int i64 u.life,int i64 u.load,int i64 u.task,int i64 u.goal] 35)) _ Y _ _ _ _ _):=X0.out.below ((Below.refl _ _).alloc (Nat.le_refl _) _) X0.out.lt;generalize ((w.alloc _).alloc _)=w1 at *;clear BA X0;have kc1:=KC.out.2.below B1.out (by rw[add_block];exact KC.out.1);have k8:=kc1.c8;have co:w1.cell? (xo.add an)=some (int i64 x):=by rw[B1.out.cell (by rw[add_block];exact XO.out.1)];exact XO.out.2
 obtain⟨x0,x1,x2,x3,x4,x5,x6,x7,x8⟩:=X1.out;obtain⟨y0,y1,y2,y3,y4,y5,y6,y7⟩:=U0.out.kH (i:=0) (o:=u) rfl;simp only[Nat.zero_mul,Nat.zero_add] at y0 y1 y2 y3 y4 y5 y6 y7;rw[NN.out.1] at y2;by_cases h2:u.task=2
 ·rw[h2] at y6
  by_cases hg:u.at_=u.goal
  ·have E:Hid (bM ks Y u=min (min (k.n7-u.load) x) 10):=by unfold Hid;rw[EY.out,if_pos ⟨h2,hg⟩]
   rw[<-hg,NN.out.2.2.1] at y7;rw[NN.out.2.2.1] at y3;have wr:IntKind.i64.wrap (k.n7-u.load)=k.n7-u.load:=by rw[IntKind.wrap_i64];omega
   clear h2 hg;go_upto_region 3 with fail
   go_region
   all_goals (try go_wp2)
   all_goals go_ret
   all_goals refine⟨?_,⟨B1.out.os,B1.out.tape,B1.out.output,B1.out.size,B1.out.block⟩⟩
   all_goals (rw[E.out];exact Ig (by omega))
  ·have E:Hid (bM ks Y u=0):=by unfold Hid;rw[EY.out,if_neg (λh=>hg h.2)]
   clear h2;go_wp2;go_ret;exact⟨by rw[E.out];rfl,⟨B1.out.os,B1.out.tape,B1.out.output,B1.out.size,B1.out.block⟩⟩
 ·have E:Hid (bM ks Y u=0):=by unfold Hid;rw[EY.out,if_neg (λh=>h2 h.1)]
  go_wp2;go_ret;exact⟨by rw[E.out];rfl,⟨B1.out.os,B1.out.tape,B1.out.output,B1.out.size,B1.out.block⟩⟩
structure Fr(S:Nat->Prop)(w w':World):Prop where
 os:w'.os=w.os
 tape:w'.tape=w.tape
 output:w'.output=w.output
 size:w.heap.size<=w'.heap.size
 block:∀k,k<w.heap.size->¬S k->w'.heap[k]? =w.heap[k]?
theorem Fr.below{S:Nat->Prop}{w w':World}(h:Below w.heap.size w w'):Fr S w w':=⟨h.os,h.tape,h.output,h.size,λk hk _=>h.block k hk⟩
theorem Fr.kp{S:Nat->Prop}{w w':World}{z:Nat}(h:Kp z w w')(hz:S z):Fr S w w':=⟨h.os,h.tape,h.output,h.size,λk hk hn=>h.block k hk (λe=>hn (e▸hz))⟩
theorem Fr.gb{S:Nat->Prop}{w w':World}{r:Option Nat}(h:w.grownBy w' r)(hr:∀k,r=some k->S k):Fr S w w':=⟨h.os,h.tape,h.output,h.size,λk hk hn=>h.block k hk (λe=>hn (hr k e.symm))⟩
theorem Fr.trans{S:Nat->Prop}{a b c:World}(h:Fr S a b)(k:Fr S b c):Fr S a c:=
 ⟨k.os.trans h.os,k.tape.trans h.tape,k.output.trans h.output,Nat.le_trans h.size k.size,λi hi hn=>(k.block i (Nat.lt_of_lt_of_le hi h.size) hn).trans (h.block i hi hn)⟩
theorem Fr.mono{S T:Nat->Prop}{a b:World}(h:Fr S a b)(hs:∀k,S k->T k):Fr T a b:=⟨h.os,h.tape,h.output,h.size,λk hk hn=>h.block k hk (λe=>hn (hs k e))⟩
theorem Fr.low{S:Nat->Prop}{w w':World}{n:Nat}(h:Fr S w w')(hn:n<=w.heap.size)(hs:∀k,S k->n<=k):Below n w w':=⟨h.os,h.tape,h.output,h.size,λk hk=>h.block k (by omega) (λe=>by have:=hs k e;omega)⟩
theorem Fr.own{S:Nat->Prop}{w w':World}{base:Nat}{T:TypeId}{size:Nat}{u:Value}{n:Nat}{cs:List Value}(f:Fr S w w')(h:w.ownsRow base T size u n cs)(hn:∀b,u.ownBlock=some b->¬S b):w'.ownsRow base T size u n cs:=by
 refine⟨h.1,?_⟩;rcases h.2 with h1|⟨g,cap,cur,h1,h2,h3,h4⟩
 ·exact .inl h1
 ·exact .inr ⟨g,cap,cur,h1,h2,(f.block g (lt_of_block h3) (hn g (by rw[h1];rfl))).trans h3,h4⟩
theorem Fr.cell{S:Nat->Prop}{w w':World}{p:Addr}{u:Value}(f:Fr S w w')(h:w.cell? p=some u)(hn:¬S p.block):w'.cell? p=some u:=by
 have hl:=cell_lt h;have e:=f.block p.block hl hn;unfold World.cell? at h ⊢;rw[e];exact h
theorem dS{w:World}{b1 b2:Nat}{T S:TypeId}{s1 s2:Nat}{u v:Value}{n m:Nat}{cs ds:List Value}(h:w.ownsRow b1 T s1 u n cs)(k:w.ownsRow b2 S s2 v m ds)(hT:T≠S):∀b,u.ownBlock=some b->¬v.ownBlock=some b:=by
 intro b hb hv;rcases h.2 with⟨h1,-⟩|⟨g,cap,cur,h1,-,h3,-⟩
 ·rw[h1] at hb;cases hb
 ·rcases k.2 with⟨k1,-⟩|⟨g',cap',cur',k1,-,k3,-⟩
  ·rw[k1] at hv;cases hv
  ·rw[h1] at hb
   rw[k1] at hv;simp[Value.ownBlock] at hb hv;subst hb;subst hv;rw[h3] at k3;injection k3 with k3
   injection k3 with _ k4
   exact hT k4
theorem Ih{a b:World}{r:Option Nat}(h:Below a.heap.size a b):a.grownBy b r:=⟨h.os,h.tape,h.output,h.size,λk hk _=>h.block k hk⟩
theorem mV{a b:World}{z:Nat}(h:Kp z a b):a.grownBy b (some z):=⟨h.os,h.tape,h.output,h.size,λk hk hn=>h.block k hk (λe=>hn (by rw[e]))⟩
theorem Ad{z:Nat}{a b c:World}{r:Option Nat}(h:Kp z a b)(g:b.grownBy c r)(hr:∀k,r=some k->a.heap.size<=k):Kp z a c:=
 ⟨g.os.trans h.os,g.tape.trans h.tape,g.output.trans h.output,Nat.le_trans h.size g.size,λi hi hz=>(g.block i (Nat.lt_of_lt_of_le hi h.size) (λe=>by have:=hr i e.symm;omega)).trans (h.block i hi hz)⟩
theorem aU{w w':World}{z:Nat}{p:Addr}{u:Value}(h:w.cell? p=some u)(k:Kp z w w')(hz:p.block≠z):w'.cell? p=some u:=by
 rw[World.cell?_of_block (k.block p.block (cell_lt h) hz)];exact h
theorem Bw.kp9{w w':World}{z y:Nat}{W:WV}{u1 u2 u3 u4 u5:Value}(h:Bw w z W u1 u2 u3 u4 u5)(k:Kp y w w')(hn:z≠y):Bw w' z W u1 u2 u3 u4 u5:=
 ⟨aU h.c0 k hn,aU h.c1 k hn,aU h.c2 k hn,aU h.c3 k hn,aU h.c4 k hn,aU h.c5 k hn,aU h.c6 k hn,aU h.c7 k hn,aU h.c8 k hn⟩
theorem dJ.kp9{w w':World}{z:Nat}{y:Addr}{u:aC}(h:dJ w y u)(k:Kp z w w')(hn:y.block≠z):dJ w' y u:=
 ⟨aU h.c0 k hn,aU h.c1 k hn,aU h.c2 k hn,aU h.c3 k hn,aU h.c4 k hn,aU h.c5 k hn,aU h.c6 k hn,aU h.c7 k hn⟩
theorem iH{w w':World}{r:Option Nat}{p:Addr}{u:Value}(h:w.cell? p=some u)(k:w.grownBy w' r)(hz:r≠some p.block):w'.cell? p=some u:=by
 rw[World.cell?_of_block (k.block p.block (cell_lt h) (λe=>hz e.symm))];exact h
theorem dJ.gb{w w':World}{r:Option Nat}{y:Addr}{u:aC}(h:dJ w y u)(k:w.grownBy w' r)(hn:r≠some y.block):dJ w' y u:=
 ⟨iH h.c0 k hn,iH h.c1 k hn,iH h.c2 k hn,iH h.c3 k hn,iH h.c4 k hn,iH h.c5 k hn,iH h.c6 k hn,iH h.c7 k hn⟩
theorem Td{w:World}{z:Nat}{X:WV}{u1 u2 u3 u4 u5:Value}(h:Wx w z (int i64 X.turn) (int i64 X.next) (int i64 X.wide) (int i64 X.high) u1 u2 u3 u4 u5):Bw w z X u1 u2 u3 u4 u5:=by
 obtain⟨h0,h1,h2,h3,h4,h5,h6,h7,h8⟩:=h.cells;exact⟨h0,h1,h2,h3,h4,h5,h6,h7,h8⟩
theorem jR{w w':World}{B base:Nat}{T:TypeId}{size:Nat}{u:Value}{n:Nat}{cs:List Value}(h:w.ownsRow base T size u n cs)(k:Below B w w')(hz:∀b,u.ownBlock=some b->b<B):w'.ownsRow base T size u n cs:=by
 refine⟨h.1,?_⟩;rcases h.2 with h1|⟨g,cap,cur,h1,h2,h3,h4⟩
 ·exact .inl h1
 ·exact .inr ⟨g,cap,cur,h1,h2,(k.block g (hz g (by rw[h1];rfl))).trans h3,h4⟩
theorem bQ{w w':World}{base:Nat}{T:TypeId}{size:Nat}{u:Value}{n:Nat}{cs:List Value}{r:Option Nat}(h:w.ownsRow base T size u n cs)(k:w.grownBy w' r)(hz:∀b,u.ownBlock=some b->r≠some b):w'.ownsRow base T size u n cs:=by
 refine⟨h.1,?_⟩;rcases h.2 with h1|⟨g,cap,cur,h1,h2,h3,h4⟩
 ·exact .inl h1
 ·exact .inr ⟨g,cap,cur,h1,h2,(k.block g (lt_of_block h3) (λe=>hz g (by rw[h1];rfl) e.symm)).trans h3,h4⟩
theorem lD{w:World}{z:Nat}(k:KV)(hz:w.heap.size=z):Kc (w.alloc (Obj.cells #[.string k.b,int i64 k.n0,int i64 k.n1,int i64 k.n2,int i64 k.n3,int i64 k.n4,int i64 k.n5,int i64 k.n6,int i64 k.n7,.bool k.f,.bool k.t] 37)) ⟨z,0,none⟩ k:=by
 subst hz;exact⟨by simp,by simp,by simp,by simp,by simp,by simp,by simp,by simp,by simp,by simp,by simp⟩
theorem Kc.kp9{w w':World}{z:Nat}{y:Addr}{k:KV}(h:Kc w y k)(q:Kp z w w')(hn:y.block≠z):Kc w' y k:=
 ⟨aU h.c0 q hn,aU h.c1 q hn,aU h.c2 q hn,aU h.c3 q hn,aU h.c4 q hn,aU h.c5 q hn,aU h.c6 q hn,aU h.c7 q hn,aU h.c8 q hn,aU h.c9 q hn,aU h.c10 q hn⟩
theorem Fr.wx{S:Nat->Prop}{w w':World}{z:Nat}{c0 c1 c2 c3 c4 c5 c6 c7 c8:Value}(f:Fr S w w')(h:Wx w z c0 c1 c2 c3 c4 c5 c6 c7 c8)(hn:¬S z):Wx w' z c0 c1 c2 c3 c4 c5 c6 c7 c8:=(f.block z h.lt hn).trans h
theorem Ow.bk{w:World}{base:Nat}{v:Value}{xs:List Int}(h:Ow w base v xs):(v=slice none 0 0/\xs=[])\/∃g cap rest,v=slice (some ⟨g,0,none⟩) xs.length cap/\base<=g/\xs.length<=cap/\cap<=maxLen/\xs.length+rest.size=cap/\Bk w g xs rest:=by
 rcases h.2 with⟨h1,h2⟩|⟨g,cap,cur,h1,h2,h3,h4,h5,h6,h7⟩
 ·exact .inl ⟨h1,List.length_eq_zero_iff.1 h2⟩
 ·have e6:cur.toList.length=cap:=by simpa using h6
  refine .inr ⟨g,cap,(cur.toList.drop xs.length).toArray,h1,h2,h4,h5,?_,?_⟩
  ·simp only[List.size_toArray,List.length_drop,e6];omega
  ·have e:cur=(intCells xs).toArray++(cur.toList.drop xs.length).toArray:=by
    apply Array.ext';rw[Nat.mul_one] at h7;have h8:cur.toList.take _=intCells xs:=h7;rw[Array.toList_append];show cur.toList=intCells xs++cur.toList.drop xs.length;rw[<-h8,List.take_append_drop]
   unfold Bk;rw[h3,<-e]
theorem Bk.ow{w:World}{base g cap:Nat}{xs:List Int}{rest:Array Value}(h:Bk w g xs rest)(hb:base<=g)(h1:xs.length<=cap)(h2:cap<=maxLen)(h3:xs.length+rest.size=cap):Ow w base (slice (some ⟨g,0,none⟩) xs.length cap) xs:=by
 refine⟨by simp,.inr ⟨g,cap,_,rfl,hb,h,h1,h2,?_,?_⟩⟩
 ·simp[intCells];omega
 ·simp[intCells]
theorem sK:(Tryz.prog.info? 115).map (λi=>(i.zero,i.size,i.bytes))=some (some (.agg #[int i64 0,int i64 0,int i64 0]),3,24):=by kernel_rfl
def bT.cs(k:bT):List Value:=[int i64 k.what,int i64 k.unit,int i64 k.arg]
theorem sN:∀(ks:List bT) (i j:Nat) (k:bT),ks[i]? =some k->j<3->(ks.flatMap bT.cs)[i*3+j]? =k.cs[j]?
 |[],i,j,k,h,_=>by simp at h
 |x::ks,0,j,k,h,hj=>by
  simp at h;subst h;rw[List.flatMap_cons,List.getElem?_append_left (by simp[bT.cs];omega)];simp
 |x::ks,i+1,j,k,h,hj=>by
  rw[List.flatMap_cons,List.getElem?_append_right (by simp[bT.cs];omega)];have:(i+1)*3+j-(bT.cs x).length=i*3+j:=by simp[bT.cs];omega
  rw[this];exact sN ks i j k (by simpa using h) hj
def dG(w:World)(base:Nat)(v:Value)(ks:List bT):Prop:=w.ownsRow base 115 3 v ks.length (ks.flatMap bT.cs)
theorem dG.nil(w:World)(base:Nat):dG w base (slice none 0 0) []:=World.ownsRow_nil _ _ _ _
theorem dG.below{w w':World}{base:Nat}{v:Value}{ks:List bT}(h:dG w base v ks)(hb:Below w.heap.size w w'):dG w' base v ks:=
 World.ownsRow.kept h (row:=none) ⟨hb.os,hb.tape,hb.output,hb.size,λk hk _=>hb.block k hk⟩ (by cases v.ownBlock<;>simp)
theorem dG.kept{w w':World}{base:Nat}{v:Value}{ks:List bT}{row:Option Nat}(h:dG w base v ks)(hg:w.grownBy w' row)(hne:v.ownBlock=none\/v.ownBlock≠row):dG w' base v ks:=World.ownsRow.kept h hg hne
theorem dG.alloc{w:World}{base:Nat}{v:Value}{ks:List bT}(h:dG w base v ks)(o:Obj):dG (w.alloc o) base v ks:=World.ownsRow.alloc h o
theorem dG.block{w:World}{base:Nat}{v:Value}{ks:List bT}(h:dG w base v ks):∀k,v.ownBlock=some k->base<=k/\k<w.heap.size:=World.ownsRow.lt h
theorem dG.mono{w:World}{base base':Nat}{v:Value}{ks:List bT}(h:dG w base v ks)(hb:base'<=base):dG w base' v ks:=by
 refine⟨h.1,?_⟩;rcases h.2 with h1|⟨g,cap,cur,h1,h2,h3⟩
 ·exact .inl h1
 ·exact .inr ⟨g,cap,cur,h1,Nat.le_trans hb h2,h3⟩
theorem dG.l{w:World}{base:Nat}{v:Value}{ks:List bT}(h:dG w base v ks):RD w v ks:=by
 rcases h.2 with⟨hv,h0⟩|⟨g,cap,cur,hv,hb,hg,h1,h2,h3,h4⟩
 ·exact⟨none,0,by rw[hv,h0],by omega,by omega,λhn=>absurd (List.length_eq_zero_iff.1 h0) hn⟩
 ·refine⟨_,cap,hv,h1,by unfold maxLen at h2;omega,λ_=>⟨_,rfl,lt_of_block hg,λi k hi=>?_⟩⟩
  have hil:=(List.getElem?_eq_some_iff.1 hi).1;have h5:w.ownsRow base 115 3 (slice (some ⟨g,0,none⟩) ks.length cap) ks.length (ks.flatMap bT.cs):=by rw[<-hv];exact h
  have hc:∀j u,j<3->k.cs[j]? =some u->w.cell? ⟨g,i*3+j,none⟩=some u:=λj u hj hu=>by
   rw[h5.cellAt (i*3+j) (by omega),sN ks i j k hi hj,hu]
  rw[Addr.add_lit,Nat.zero_add];exact⟨hc 0 _ (by decide) rfl,hc 1 _ (by decide) rfl,hc 2 _ (by decide) rfl⟩
theorem dG.len{w:World}{base:Nat}{v:Value}{ks:List bT}(h:dG w base v ks):∃a c,v=slice a ks.length c:=by
 obtain⟨a,c,h1,-⟩:=h.l;exact⟨a,c,h1⟩
theorem sO{ops:Array Oper}{rest:List Oper}{o:Oper}{a:Act}{Q:Exit->Act->World->Prop}(w:World)(hgd:o.guard=none)(s x:Operand)
 (ho:o.op=.call {callee:=.builtin .append,args:= #[s,x],argTypes:= #[63,63]}) (base:Nat) (v:Value) (ks:List bT) (hs:a.eval s=v) (hown:dG w base v ks)
 (b:Nat) (d:bT) (hx:a.eval x=slice (some ⟨b,0,none⟩) 1 1) (hd:ou w ⟨b,0,none⟩ d) (hl:ks.length<=1000000) (hbase:base<=w.heap.size)
 (h:∀g cap w',dG w' base (slice (some ⟨g,0,none⟩) (ks.length+1) cap) (ks++[d])->w.grownBy w' v.ownBlock->(v.ownBlock=some g\/g=w.heap.size)->g<w'.heap.size->wpList Tryz.prog ops Q rest (a.put o.dst (slice (some ⟨g,0,none⟩) (ks.length+1) cap)) w'):
 wpList Tryz.prog ops Q (o::rest) a w:=by
 obtain⟨i0,hi,hz0,hz1,hz2⟩:=info_parts sK;refine wpList_append_lies w hgd s x 63 ho _ 115 i0 _ 3 24 Tryz.underlying63 hi hz0 hz1 hz2 rfl (by decide) v _ _ hs hown _ 1 1 d.cs hx rfl ?_ ?_ (by decide) (by unfold maxLen;omega) (by omega) hbase _ rfl ?_
 ·intro j u hj
  have hjn:j<3:=(List.getElem?_eq_some_iff.1 hj).1;rw[Addr.add_lit,Nat.zero_add]
  match j,hjn,hj with
  |0,_,hj=>simp[bT.cs] at hj;subst hj;exact hd.c0
  |1,_,hj=>simp[bT.cs] at hj;subst hj;exact hd.c1
  |2,_,hj=>simp[bT.cs] at hj;subst hj;exact hd.c2
 ·intro u hu
  simp[bT.cs] at hu;rcases hu with rfl|rfl|rfl<;>rfl
 ·intro g cap w' h1 h2 h3 h4
  refine h g _ w' ?_ h2 h3 h4;unfold dG;rw[List.length_append,List.flatMap_append];simpa using h1
structure xI(ks:List KV)(Y Z:WV)(es:List bT)(b1 b:Nat)(w:World)(u1 u2 u3 u4 u5 ev:Value)(V:World):Prop where
 o1:Ow V b1 u1 Z.gs
 o2:Ow V b1 u2 Z.os
 o3:Ow V b1 u3 Z.gold
 o4:dA V b1 u4 Z.us
 o5:dh V b1 u5 Z.qs
 e:dG V b ev es
 d:[u1,u2,u3,u4,u5].Pairwise dM
 fr:Fr (λq=>u2.ownBlock=some q\/u4.ownBlock=some q) w V
 k:Vw Y Z
 f:iW ks Z
section
variable {ks:List KV} {Y Z:WV} {es:List bT} {b1 b:Nat} {w:World} {u1 u2 u3 u4 u5 ev:Value} {V V':World}
theorem xI.below(h:xI ks Y Z es b1 b w u1 u2 u3 u4 u5 ev V)(hb:Below V.heap.size V V'):xI ks Y Z es b1 b w u1 u2 u3 u4 u5 ev V':=
 ⟨h.o1.below hb,h.o2.below hb,h.o3.below hb,h.o4.below hb,h.o5.below hb,h.e.below hb,h.d,h.fr.trans (Fr.below hb),h.k,h.f⟩
theorem xI.wl(h:xI ks Y Z es b1 b w u1 u2 u3 u4 u5 ev V):Wl V (.agg #[int i64 Y.turn,int i64 Y.next,int i64 Y.wide,int i64 Y.high,u1,u2,u3,u4,u5]) Z:=by
 obtain⟨a1,a2,a3,a4,-⟩:=h.k;exact⟨u1,u2,u3,u4,u5,by rw[a1,a2,a3,a4],h.o1.ro,h.o2.ro,h.o3.ro,h.o4.l,h.o5.l⟩
theorem xI.qy(h:xI ks Y Z es b1 b w u1 u2 u3 u4 u5 ev V):(dM u1 u2/\dM u1 u3/\dM u1 u4/\dM u1 u5)/\(dM u2 u3/\dM u2 u4/\dM u2 u5)/\(dM u3 u4/\dM u3 u5)/\dM u4 u5:=by
 have:=h.d;simp only[List.pairwise_cons,List.mem_cons,List.not_mem_nil,or_false,forall_eq_or_imp,forall_eq] at this;obtain⟨⟨a1,a2,a3,a4⟩,⟨b1,b2,b3⟩,⟨c1,c2⟩,d1,-⟩:=this;exact⟨⟨a1,a2,a3,a4⟩,⟨b1,b2,b3⟩,⟨c1,c2⟩,d1⟩
theorem xI.take{gu gs cu co i:Nat}{ur:List Value}{sr:Array Value}{u:aC}{ev':Value}(h:xI ks Y Z es b1 b w u1 (slice (some ⟨gs,0,none⟩) Y.os.length co) u3 (slice (some ⟨gu,0,none⟩) Y.us.length cu) u5 ev V)(hwb:w.heap.size=b)
 (hl:∀x∈[u1,u3,u5],∀k,x.ownBlock=some k->k<b) (hgu:b1<=gu) (c1:Y.us.length<=cu) (c2:cu<=maxLen) (c3:Y.us.length*8+ur.length=cu*8) (hgs:b1<=gs) (d1:Y.os.length<=co) (d2:co<=maxLen) (d3:Y.os.length+sr.size=co)
 (hu:Z.us[i]? =some u) (hy:0<bM ks Z u) (hub:Ub V' gu (fE Z i u (bM ks Z u)).us ur) (hbk:Bk V' gs (fE Z i u (bM ks Z u)).os sr) (he:dG V' b ev' (es++[⟨4,u.id,bM ks Z u⟩])) (hf:Fr (λq=>q=gu\/q=gs\/ev.ownBlock=some q) V V'):
 xI ks Y (fE Z i u (bM ks Z u)) (es++[⟨4,u.id,bM ks Z u⟩]) b1 b w u1 (slice (some ⟨gs,0,none⟩) Y.os.length co) u3 (slice (some ⟨gu,0,none⟩) Y.us.length cu) u5 ev' V':=by
 obtain⟨⟨d12,d13,d14,d15⟩,⟨d23,d24,d25⟩,⟨d34,d35⟩,d45⟩:=h.qy;have Tf:(slice (some ⟨gu,0,none⟩) Y.us.length cu).ownBlock=some gu:=rfl;have ows:(slice (some ⟨gs,0,none⟩) Y.os.length co).ownBlock=some gs:=rfl;have no:∀x∈[u1,u3,u5],dM x (slice (some ⟨gs,0,none⟩) Y.os.length co)->dM x (slice (some ⟨gu,0,none⟩) Y.us.length cu)->∀q,x.ownBlock=some q->¬(q=gu\/q=gs\/ev.ownBlock=some q):=λx hx e2 e4 q hq hs=>by
  rcases hs with e|e|e
  ·exact e4 q hq (by rw[Tf,e])
  ·exact e2 q hq (by rw[ows,e])
  ·have h8:=(h.e.block q e).1;have h9:=hl x hx q hq;omega
 have k':Vw Y (fE Z i u (bM ks Z u)):=by
  obtain⟨a1,a2,a3,a4,a5,a6,a7,a8,a9⟩:=h.k;exact⟨a1,a2,a3,a4,a5,a6,a7,by simpa[fE] using a8,by simpa[fE] using a9⟩
 refine⟨hf.own h.o1 (no u1 (by simp) d12 d14),?_,hf.own h.o3 (no u3 (by simp) d23.symm d34),?_,hf.own h.o5 (no u5 (by simp) d25.symm d45.symm),he,h.d,?_,k',h.f.take hu hy⟩
 ·have:=hbk.ow (base:=b1) (cap:=co) hgs (by rw[k'.2.2.2.2.2.2.2.2];exact d1) d2 (by rw[k'.2.2.2.2.2.2.2.2];exact d3)
  rw[k'.2.2.2.2.2.2.2.2] at this;exact this
 ·have:=hub.PZ (base:=b1) (cap:=cu) hgu (by rw[k'.2.2.2.2.2.2.2.1];exact c1) c2 (by rw[k'.2.2.2.2.2.2.2.1];exact c3)
  rw[k'.2.2.2.2.2.2.2.1] at this;exact this
 ·refine⟨hf.os.trans h.fr.os,hf.tape.trans h.fr.tape,hf.output.trans h.fr.output,Nat.le_trans h.fr.size hf.size,λq hq hn=>(hf.block q (Nat.lt_of_lt_of_le hq h.fr.size) (λe=>?_)).trans (h.fr.block q hq hn)⟩
  rcases e with e|e|e
  ·exact hn (.inr (by rw[Tf,e]))
  ·exact hn (.inl (by rw[ows,e]))
  ·have:=(h.e.block q e).1;omega
end
end Go.Proofs.YtjpappkgdadhhaaGreatDoor
