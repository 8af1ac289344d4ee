/- works.isHome: its function. And more. -/
import Derived.Test.YtolfphmdmpehdaaGreatDoorZTopViews3
set_option linter.unusedVariables false
set_option linter.unusedSimpArgs false
set_option maxHeartbeats 16000000
set_option maxRecDepth 100000
open Go.Value (int slice)
open Go.IntKind (i64)
open Go.Obj (cells)
open Go.Proofs.Tryz
namespace Go.Proofs.YtolfphmdmpehdaaGreatDoor
section
open Go.RowKit
variable {Hn Wn i q:Nat} {Y:WV} {a:Act} {ks:List KV} {o:Oper} {ops:Array Oper} {rest:List Oper} {u:aI} {w:World} {y:Addr}
def vg(ks:List KV)(h:aI):Bool:=match ks[h.kind.toNat]? with|some k=>k.t|none=>false
def j_(ks:List KV)(near:List Int)(u h:aI):Bool:=decide (h.ay=u.ay)&&(vg ks h&&near.any (λx=>decide (h.at_=x)))
theorem Gh(ks:List KV)(near:List Int)(u h:aI)(kn:Nat)(k:KV)(bu bk bn:Nat)(xk:Addr)(qk:Nat)(vn:Value)(W:World)(hkn:h.kind=kn)(hkk:ks[kn]? =some k)
  (c1:W.cell? ⟨bu,1,none⟩=some (int i64 u.ay)) (c2:W.cell? ⟨bk,0,none⟩=some (slice (some xk) ks.length qk)) (c3:W.cell? ⟨bn,0,none⟩=some vn) (hK:Kc W (xk.add (kn*11)) k) (hn:Ro W vn near):
  Calls prog 199 (#[h.val]++ #[.pointer (some ⟨bu,0,none⟩),.pointer (some ⟨bk,0,none⟩),.pointer (some ⟨bn,0,none⟩)]) W λe w'=>e=.returned (.bool (j_ ks near u h))/\Below W.heap.size W w':=by
 have TO:Hid (vg ks h=k.t):=by unfold Hid vg;rw[hkn,bF];simp only[hkk]
 have hkl:=(aK.1 hkk).1;have hki:((kn:Nat):Int)<(ks.length:Nat):=by omega
 have HK:=aj (hkn);have RN:=aj (hn);have CC:=aj (lM c1 c2 c3 hK);obtain⟨na,nc,rfl,-⟩:=hn;clear hkn hkk c1 c2 c3 hK;unfold aI.val;go_enter func199,ntmps199;go_upto_region 1 with fail
 have BA:Hid (Below _ W (W.alloc (cells #[int i64 h.id,int i64 h.ay,int i64 h.kind,int i64 h.at_,int i64 h.life,int i64 h.load,int i64 h.task,int i64 h.goal] 74))):=aA;have U1:Hid (Ub _ W.heap.size _ []):=u_ h rfl;obtain⟨y,hy⟩:∃y,W.heap.size=y:=⟨_,rfl⟩;rw[hy] at U1 ⊢;have HY:=aj (hy);clear hy;generalize W.alloc _=w1 at *;have e1:w1.cell? ⟨bu,1,none⟩=some (int i64 u.ay):=by rw[BA.out.cell (p:=⟨bu,1,none⟩) (cell_lt CC.out.1)];exact CC.1
 have e2:w1.cell? ⟨bk,0,none⟩=some (slice (some xk) ks.length qk):=by rw[BA.out.cell (p:=⟨bk,0,none⟩) (cell_lt CC.out.2.1)];exact CC.2.1
 have e3:w1.cell? ⟨bn,0,none⟩=some (slice na near.length nc):=by rw[BA.out.cell (p:=⟨bn,0,none⟩) (cell_lt CC.out.2.2.1)];exact CC.2.2.1
 have k10:=(CC.2.2.2.below BA CC.2.2.2.lt).c10;obtain⟨y0,y1,y2,y3,y4,y5,y6,y7⟩:=U1.pV (i:=0) (o:=h) rfl;simp only[Nat.zero_mul,aO] at y0 y1 y2 y3 y4 y5 y6 y7;rw[HK.out] at y2;by_cases hp:h.ay=u.ay
 ·have PD:=aj (decide_eq_true hp)
  rw[hp] at y1;clear hp;cases hkt:k.t with
  |false=>
   rw[hkt] at k10;have E:Hid (j_ ks near u h=false):=by unfold Hid j_;rw[TO.out,hkt];simp
   clear hkt;go_wp2;go_ret;exact⟨by rw[E.out];rfl,BA⟩
  |true=>
   rw[hkt] at k10;have E:Hid (j_ ks near u h=near.any (λx=>decide (h.at_=x))):=by unfold Hid j_;rw[TO.out,hkt,PD.out];simp
   clear hkt;go_wp2_with fail
   refine(Rl _ _ _ w1 (RN.below BA)).mono ?_;rintro e w2 ⟨rfl,rfl⟩;go_wp2;go_ret;exact⟨by rw[E.out];rfl,BA⟩
 ·have E:Hid (j_ ks near u h=false):=by unfold Hid j_;rw[decide_eq_false hp];simp
  go_wp2;go_ret;exact⟨by rw[E.out];rfl,BA⟩
theorem Xe(v:Value)(W H:Nat)(gs os:List Int)(a:Nat)(w:World)(h:Fl w v W H gs os)(G:Fd.Good W H gs os)(ha:a<W*H)(hs:Sd w):
  Calls prog 198 #[v,int i64 (a:Nat)] w λe w'=>∃u,e=.returned (.tuple #[u,.nilIface])/\Ro w' u (Fd.near W H a)/\Below w.heap.size w w':=by
 have F0:=aj (h);have S0:=aj (hs);have G0:=aj (G);have HF:=aj (xG G ha);obtain⟨u1,u2,rfl,⟨a1,c,rfl,c1,c2,ca⟩,⟨b1,d,rfl,d1,d2,cb⟩⟩:=h;have Ha:=aj (ha);clear hs ca cb G ha;go_enter func198,ntmps198;go_wp2_with fail
 refine(tJ _ _ W H gs os _ _ (F0.below (aA.alloc (by simp) _)) (Ro.EX a (by simp))).mono ?_;rintro e w1 ⟨v1,rfl,hv,hb⟩;have B1:=aj ((aA.alloc (by simp) _).trans (hb.mono (by simp;omega)));have X1:=aj (((Bf.mk' (w:=w) W H (slice a1 gs.length c) (slice b1 os.length d) rfl).below (aB.alloc aN (cells #[Value.int IntKind.i64 a] 3)) (by simp)).below hb (by simp;omega));rw[HF.out] at hv;clear hb;rcases hv with⟨hz,rfl⟩|⟨hz,rfl⟩
 ·clear hz
  obtain⟨x0,x1,x2,x3⟩:=X1.out;go_wp2_with fail
  refine(B_ _ W H gs os a _ (F0.below B1) G0 Ha (S0.below B1)).mono ?_;rintro e w2 ⟨u,rfl,hu,hb2⟩;have U2:=aj (hu.ro);have B2:=aG B1 hb2;clear hu hb2 x0 x1 x2 x3;go_wp2;go_ret2;exact⟨_,rfl,U2,B2⟩
 ·exact absurd rfl hz
def JH(ks:List KV)(Wn Hn an:Nat)(Y:WV)(u:aI):Bool:=Y.us.any (j_ ks (Fd.near Wn Hn an) u)
theorem Gi(vk vw:Value)(ks:List KV)(Y:WV)(u:aI)(Wn Hn an:Nat)(w:World)(hk:Kl w vk ks)(hw:Wl w vw Y)(hf:mQ ks Y)(e1:Y.wide=(Wn:Nat))(e2:Y.high=(Hn:Nat))(G:Fd.Good Wn Hn Y.gs Y.os)(ha:u.at_=(an:Nat))(hal:an<Wn*Hn)(hs:Sd w):
  Calls prog 159 #[vk,vw,u.val] w λe w'=>e=.returned (.bool (JH ks Wn Hn an Y u))/\Below w.heap.size w w':=by
 have K:=aj (hk);have H:=aj (hw);have NN:=aj (Pz e1 e2 G ha hal hs hf);obtain⟨p1,q1,p2,q2,p3,q3,p4,q4,p5,q5,rfl⟩:=aX hw;obtain⟨pk,qk,rfl,ck1,ck2,kc⟩:=hk;clear hw kc hf e1 e2 G ha hal hs;unfold aI.val;go_enter func159,ntmps159;go_upto_region 1 with fail
 obtain⟨z,hz⟩:∃z,w.heap.size=z:=⟨_,rfl⟩;have BA:Hid (Below _ w (w.alloc (cells #[slice pk ks.length qk] 22))):=aA;have BB:Hid (Below _ _ ((w.alloc (cells #[slice pk ks.length qk] 22)).alloc (cells #[int i64 Y.turn,int i64 Y.next,int i64 Y.wide,int i64 Y.high,slice p1 Y.gs.length q1,slice p2 Y.os.length q2,slice p3 Y.gold.length q3,slice p4 Y.us.length q4,slice p5 Y.qs.length q5] 29))):=aA;have BC:Hid (Below _ _ (((w.alloc (cells #[slice pk ks.length qk] 22)).alloc (cells #[int i64 Y.turn,int i64 Y.next,int i64 Y.wide,int i64 Y.high,slice p1 Y.gs.length q1,slice p2 Y.os.length q2,slice p3 Y.gold.length q3,slice p4 Y.us.length q4,slice p5 Y.qs.length q5] 29)).alloc (cells #[int i64 u.id,int i64 u.ay,int i64 u.kind,int i64 u.at_,int i64 u.life,int i64 u.load,int i64 u.task,int i64 u.goal] 74))):=aA;have B1:=aj ((BA.trans (BB.mono BA.size)).trans (BC.mono (aJ BA.size BB.size)));have CK:Hid ((((w.alloc (cells #[slice pk ks.length qk] 22)).alloc (cells #[int i64 Y.turn,int i64 Y.next,int i64 Y.wide,int i64 Y.high,slice p1 Y.gs.length q1,slice p2 Y.os.length q2,slice p3 Y.gold.length q3,slice p4 Y.us.length q4,slice p5 Y.qs.length q5] 29)).alloc (cells #[int i64 u.id,int i64 u.ay,int i64 u.kind,int i64 u.at_,int i64 u.life,int i64 u.load,int i64 u.task,int i64 u.goal] 74)).cell? ⟨z,0,none⟩=some (slice pk ks.length qk)):=by
  rw[<-hz];have c0:(w.alloc (cells #[slice pk ks.length qk] 22)).cell? ⟨w.heap.size,0,none⟩=some (slice pk ks.length qk):=by simp
  have l0:=cell_lt c0;have c1:((w.alloc (cells #[slice pk ks.length qk] 22)).alloc (cells #[int i64 Y.turn,int i64 Y.next,int i64 Y.wide,int i64 Y.high,slice p1 Y.gs.length q1,slice p2 Y.os.length q2,slice p3 Y.gold.length q3,slice p4 Y.us.length q4,slice p5 Y.qs.length q5] 29)).cell? ⟨w.heap.size,0,none⟩=some (slice pk ks.length qk):=by rw[BB.out.cell (p:=⟨w.heap.size,0,none⟩) l0];exact c0
  unfold Hid;rw[BC.out.cell (p:=⟨w.heap.size,0,none⟩) (cell_lt c1)];exact c1
 have X1:Hid (Bw (((w.alloc (cells #[slice pk ks.length qk] 22)).alloc (cells #[int i64 Y.turn,int i64 Y.next,int i64 Y.wide,int i64 Y.high,slice p1 Y.gs.length q1,slice p2 Y.os.length q2,slice p3 Y.gold.length q3,slice p4 Y.us.length q4,slice p5 Y.qs.length q5] 29)).alloc (cells #[int i64 u.id,int i64 u.ay,int i64 u.kind,int i64 u.at_,int i64 u.life,int i64 u.load,int i64 u.task,int i64 u.goal] 74)) (z+1) Y (slice p1 Y.gs.length q1) (slice p2 Y.os.length q2) (slice p3 Y.gold.length q3) (slice p4 Y.us.length q4) (slice p5 Y.qs.length q5)):=(Bw.mk' (w:=(w.alloc (cells #[slice pk ks.length qk] 22))) Y _ _ _ _ _ (by rw[<-hz];simp)).below BC (by rw[<-hz];simp);have U1:Hid (Ub (((w.alloc (cells #[slice pk ks.length qk] 22)).alloc (cells #[int i64 Y.turn,int i64 Y.next,int i64 Y.wide,int i64 Y.high,slice p1 Y.gs.length q1,slice p2 Y.os.length q2,slice p3 Y.gold.length q3,slice p4 Y.us.length q4,slice p5 Y.qs.length q5] 29)).alloc (cells #[int i64 u.id,int i64 u.ay,int i64 u.kind,int i64 u.at_,int i64 u.life,int i64 u.load,int i64 u.task,int i64 u.goal] 74)) (z+2) [u] []):=u_ u (by rw[<-hz];simp);rw[hz];clear BA BB BC hz;generalize (((w.alloc _).alloc _).alloc _)=w1 at *;obtain⟨x0,x1,x2,x3,x4,x5,x6,x7,x8⟩:=X1.out;obtain⟨y0,y1,y2,y3,y4,y5,y6,y7⟩:=U1.pV (i:=0) (o:=u) rfl;simp only[Nat.zero_mul,aO] at y0 y1 y2 y3 y4 y5 y6 y7;rw[NN.out.2.2.2.1] at y3;go_wp2_with fail
 refine(Xe _ Wn Hn _ _ an w1 ?_ NN.2.2.1 NN.2.2.2.2.1 (NN.2.2.2.2.2.1.below B1)).mono ?_
 ·have h:=sN (H.below B1)
  rw[<-NN.out.1,<-NN.out.2.1];exact h
 rintro e w2 ⟨vn,rfl,hn,hb⟩;have B2:=aG B1 hb;have CK2:Hid (w2.cell? ⟨z,0,none⟩=some (slice pk ks.length qk)):=by unfold Hid;rw[hb.cell (p:=⟨z,0,none⟩) (cell_lt CK.out)];exact CK
 have X2:=aj (X1.below hb X1.lt);have U2:=aj (U1.below hb U1.lt);have RN0:=aj (hn);obtain⟨na,nc,rfl,-⟩:=hn;clear hb x0 x1 x2 x3 x4 x5 x6 x7 x8 y0 y1 y2 y3 y4 y5 y6 y7 B1 CK X1 U1;go_upto_region 3 with fail
 have BD:Hid (Below _ w2 (w2.alloc (cells #[slice na (Fd.near Wn Hn an).length nc] 23))):=aA;obtain⟨bn,hbn⟩:∃z,w2.heap.size=z:=⟨_,rfl⟩;have CN:Hid ((w2.alloc (cells #[slice na (Fd.near Wn Hn an).length nc] 23)).cell? ⟨bn,0,none⟩=some (slice na (Fd.near Wn Hn an).length nc)):=by unfold Hid;rw[<-hbn];simp
 rw[hbn];clear hbn;generalize (w2.alloc _)=w3 at *;have B3:=aG B2 BD;have CK3:Hid (w3.cell? ⟨z,0,none⟩=some (slice pk ks.length qk)):=by unfold Hid;rw[BD.out.cell (p:=⟨z,0,none⟩) (cell_lt CK2.out)];exact CK2
 have X3:=aj (X2.below BD X2.lt);have U3:=aj (U2.below BD U2.lt);have RN3:=aj (RN0.below BD);have x7:=X3.c7;clear BD B2 CK2 X2 U2 RN0;go_wp2_with fail
 refine(Rn _ (by intro args w;go_simp) _ #[.pointer (some ⟨z+2,0,none⟩),.pointer _,.pointer _] _ (j_ ks (Fd.near Wn Hn an) u) w3 (H.below B3).slices.2.2.2.1 (λW hW h hh=>?_)).mono ?_
 ·obtain⟨⟨kn,k,f1,f2,-⟩,-⟩:=NN.2.2.2.2.2.2.units h hh
  obtain⟨xk,hxk,hl,hc⟩:∃x,pk=some x/\x.block<w.heap.size/\∀(i:Nat) k,ks[i]? =some k->Kc w (x.add (i*11)) k:=by
   obtain⟨a',c',e',-,-,hx⟩:=K.out;injection e' with e1' e2' e3'
   subst e1';exact hx (by rintro hn;rw[hn] at f2;simp at f2)
  subst hxk;have bW:=B3.trans (hW.mono B3.size);obtain⟨-,y1,-⟩:=(U3.below hW U3.lt).pV (i:=0) (o:=u) rfl;simp only[Nat.zero_mul,aO] at y1;exact Gh ks _ u h kn k _ z bn xk qk _ W f1 f2 y1 (by rw[hW.cell (p:=⟨z,0,none⟩) (cell_lt CK3.out)];exact CK3) (by rw[hW.cell (p:=⟨bn,0,none⟩) (cell_lt CN.out)];exact CN) ((hc kn k f2).below bW (by rw[add_block];exact hl)) (RN3.below hW)
 rintro e w4 ⟨rfl,hb⟩;have B4:=aG B3 hb;clear hb x7;go_wp2;go_ret;exact⟨rfl,⟨B4.os,B4.tape,B4.output,B4.size,B4.block⟩⟩
def iw(Y:WV)(i:Nat)(u:aI):WV:={Y with us:=Y.us.set i (lV u 0),gold:=Y.gold.set u.ay.toNat (min (Y.gold.getD u.ay.toNat 0+u.load) 1000000)}
def brings(ks:List KV)(Wn Hn:Nat)(Y:WV)(u:aI):Bool:=decide (0<u.load)&&JH ks Wn Hn u.at_.toNat Y u
def br(ks:List KV)(Wn Hn:Nat)(Y:WV):Nat->WV×List dZ
 |0=>(Y,[])
 |q+1=>match (br ks Wn Hn Y q).1.us[q]? with
  |none=>br ks Wn Hn Y q
  |some u=>if brings ks Wn Hn (br ks Wn Hn Y q).1 u=true then(iw (br ks Wn Hn Y q).1 q u,(br ks Wn Hn Y q).2++[⟨5,u.id,u.load⟩]) else br ks Wn Hn Y q
theorem Gj(hu:(br ks Wn Hn Y q).1.us[q]? =some u)(h:brings ks Wn Hn (br ks Wn Hn Y q).1 u=true):br ks Wn Hn Y (q+1)=(iw (br ks Wn Hn Y q).1 q u,(br ks Wn Hn Y q).2++[⟨5,u.id,u.load⟩]):=by
 rw[br];simp only[hu];rw[if_pos h]
theorem JJ(hu:(br ks Wn Hn Y q).1.us[q]? =some u)(h:brings ks Wn Hn (br ks Wn Hn Y q).1 u=false):br ks Wn Hn Y (q+1)=br ks Wn Hn Y q:=by
 rw[br];simp only[hu];rw[if_neg (by rw[h];simp)]
theorem mQ.bring(h:mQ ks Y)(hu:Y.us[i]? =some u):mQ ks (iw Y i u):=by
 obtain⟨⟨kn,k,e1,e2,l1,l2,l3⟩,⟨an,e3,hal⟩,pn,e4,hpl⟩:=h.units u (aT hu);have hlen:(iw Y i u).gold.length=Y.gold.length:=by simp[iw]
 refine⟨h.wide,λv hv=>?_,λg hg=>?_,by simpa[iw] using h.ul⟩
 ·rw[hlen]
  rcases List.mem_or_eq_of_mem_set hv with hv|rfl
  ·exact h.units v hv
  ·exact⟨⟨kn,k,e1,e2,by show(0:Int)<=0;omega,by show(0:Int)<=k.n7;omega,l3⟩,⟨an,e3,hal⟩,pn,e4,hpl⟩
 ·rcases List.mem_or_eq_of_mem_set hg with hg|rfl
  ·exact h.gold g hg
  ·have:Y.gold.getD u.ay.toNat 0∈Y.gold:=by
    rw[e4,bF,dD,aH hpl];exact kG _
   have:=h.gold _ this;omega
def BrK(Y Z:WV):Prop:=Z.turn=Y.turn/\Z.next=Y.next/\Z.wide=Y.wide/\Z.high=Y.high/\Z.gs=Y.gs/\Z.os=Y.os/\Z.qs=Y.qs/\Z.us.length=Y.us.length/\Z.gold.length=Y.gold.length
theorem zF{ks:List KV}{Wn Hn:Nat}{Y:WV}:∀q,(br ks Wn Hn Y q).2.length<=q
 |0=>by simp[br]
 |q+1=>by
  have ih:=zF (ks:=ks) (Wn:=Wn) (Hn:=Hn) (Y:=Y) q;cases hu:(br ks Wn Hn Y q).1.us[q]? with
  |none=>rw[br];simp only[hu];omega
  |some u=>
   cases h:brings ks Wn Hn (br ks Wn Hn Y q).1 u with
   |true=>rw[Gj hu h];simp;omega
   |false=>rw[JJ hu h];omega
structure Gm(ks:List KV)(Y Z:WV)(es:List dZ)(b1 b:Nat)(w:World)(u1 u2 u3 u4 u5 ev:Value)(V:World):Prop where
 o1:Ow V b1 u1 Z.gs
 o2:Ow V b1 u2 Z.os
 o3:Ow V b1 u3 Z.gold
 o4:fD V b1 u4 Z.us
 o5:fB V b1 u5 Z.qs
 e:ig V b ev es
 d:[u1,u2,u3,u4,u5].Pairwise fK
 fr:Fr (λq=>u3.ownBlock=some q\/u4.ownBlock=some q) w V
 k:BrK Y Z
 f:mQ ks Z
section
variable {ks:List KV} {Y Z:WV} {es:List dZ} {b1 b:Nat} {w:World} {u1 u2 u3 u4 u5 ev:Value} {V V':World}
theorem Gm.below(h:Gm ks Y Z es b1 b w u1 u2 u3 u4 u5 ev V)(hb:Below V.heap.size V V'):Gm ks Y Z es b1 b w u1 u2 u3 u4 u5 ev V':=
 ⟨h.o1.below hb,h.o2.below hb,h.o3.below hb,h.o4.below hb,h.o5.below hb,h.e.below hb,h.d,h.fr.trans (Fr.below hb),h.k,h.f⟩
theorem Gm.wl(h:Gm ks Y Z es b1 b w u1 u2 u3 u4 u5 ev V):Wl V (.agg #[int i64 Y.turn,int i64 Y.next,int i64 Y.wide,int i64 Y.high,u1,u2,u3,u4,u5]) Z:=by
 obtain⟨a1,a2,a3,a4,-⟩:=h.k;exact⟨u1,u2,u3,u4,u5,by rw[a1,a2,a3,a4],h.o1.ro,h.o2.ro,h.o3.ro,h.o4.l,h.o5.l⟩
theorem Gm.wU(h:Gm ks Y Z es b1 b w u1 u2 u3 u4 u5 ev V):(fK u1 u2/\fK u1 u3/\fK u1 u4/\fK u1 u5)/\(fK u2 u3/\fK u2 u4/\fK u2 u5)/\(fK u3 u4/\fK u3 u5)/\fK u4 u5:=by
 have:=h.d;simp only[List.pairwise_cons,bP,List.not_mem_nil,or_false,forall_eq_or_imp,forall_eq] at this;obtain⟨⟨a1,a2,a3,a4⟩,⟨b1,b2,b3⟩,⟨c1,c2⟩,d1,-⟩:=this;exact⟨⟨a1,a2,a3,a4⟩,⟨b1,b2,b3⟩,⟨c1,c2⟩,d1⟩
theorem Gm.bring{gu gg cu cg:Nat}{ur:List Value}{gr:Array Value}{ev':Value}(h:Gm ks Y Z es b1 b w u1 u2 (slice (some ⟨gg,0,none⟩) Y.gold.length cg) (slice (some ⟨gu,0,none⟩) Y.us.length cu) u5 ev V)(hwb:w.heap.size=b)
  (hl:∀x∈[u1,u2,u5],∀k,x.ownBlock=some k->k<b) (hgu:b1<=gu) (c1:Y.us.length<=cu) (c2:cu<=maxLen) (c3:Y.us.length*8+ur.length=cu*8) (hgg:b1<=gg) (d1:Y.gold.length<=cg) (d2:cg<=maxLen) (d3:Y.gold.length+gr.size=cg)
  (hu:Z.us[i]? =some u) (hub:Ub V' gu (iw Z i u).us ur) (hbk:Bk V' gg (iw Z i u).gold gr) (he:ig V' b ev' (es++[⟨5,u.id,u.load⟩])) (hf:Fr (λq=>q=gu\/q=gg\/ev.ownBlock=some q) V V'):
  Gm ks Y (iw Z i u) (es++[⟨5,u.id,u.load⟩]) b1 b w u1 u2 (slice (some ⟨gg,0,none⟩) Y.gold.length cg) (slice (some ⟨gu,0,none⟩) Y.us.length cu) u5 ev' V':=by
 obtain⟨⟨d12,d13,d14,d15⟩,⟨d23,d24,d25⟩,⟨d34,d35⟩,d45⟩:=h.wU;have owu:(slice (some ⟨gu,0,none⟩) Y.us.length cu).ownBlock=some gu:=rfl;have owg:(slice (some ⟨gg,0,none⟩) Y.gold.length cg).ownBlock=some gg:=rfl;have no:∀x∈[u1,u2,u5],fK x (slice (some ⟨gg,0,none⟩) Y.gold.length cg)->fK x (slice (some ⟨gu,0,none⟩) Y.us.length cu)->∀q,x.ownBlock=some q->¬(q=gu\/q=gg\/ev.ownBlock=some q):=λx hx e2 e4 q hq hs=>by
  rcases hs with e|e|e
  ·exact e4 q hq (by rw[owu,e])
  ·exact e2 q hq (by rw[owg,e])
  ·have h8:=(h.e.block q e).1;have h9:=hl x hx q hq;omega
 have k':BrK Y (iw Z i u):=by
  obtain⟨a1,a2,a3,a4,a5,a6,a7,a8,a9⟩:=h.k;exact⟨a1,a2,a3,a4,a5,a6,a7,by simpa[iw] using a8,by simpa[iw] using a9⟩
 refine⟨hf.own h.o1 (no u1 (by simp) d13 d14),hf.own h.o2 (no u2 (by simp) d23 d24),?_,?_,hf.own h.o5 (no u5 (by simp) d35.symm d45.symm),he,h.d,?_,k',h.f.bring hu⟩
 ·have:=hbk.ow (base:=b1) (cap:=cg) hgg (by rw[k'.2.2.2.2.2.2.2.2];exact d1) d2 (by rw[k'.2.2.2.2.2.2.2.2];exact d3)
  rw[k'.2.2.2.2.2.2.2.2] at this;exact this
 ·have:=hub.ZQ (base:=b1) (cap:=cu) hgu (by rw[k'.2.2.2.2.2.2.2.1];exact c1) c2 (by rw[k'.2.2.2.2.2.2.2.1];exact c3)
  rw[k'.2.2.2.2.2.2.2.1] at this;exact this
 ·refine⟨hf.os.trans h.fr.os,hf.tape.trans h.fr.tape,hf.output.trans h.fr.output,aJ h.fr.size hf.size,λq hq hn=>(hf.block q (fE hq h.fr.size) (λe=>?_)).trans (h.fr.block q hq hn)⟩
  rcases e with e|e|e
  ·exact hn (.inr (by rw[owu,e]))
  ·exact hn (.inl (by rw[owg,e]))
  ·have:=(h.e.block q e).1;omega
end
theorem LY(n:Nat):madeCells #[int i64 0] n=(intCells (List.replicate n 0)).toArray:=by
 apply Array.ext_getElem?;intro i;unfold madeCells intCells;by_cases h:i<n
 ·simp[h,Nat.mod_one]
 ·simp[h]
theorem Rq(n:Nat)(w:World)(h:n<=1000000):∃w',(Instr.makeSlice 23 (int i64 (n:Nat)) (int i64 (n:Nat))).run prog w=.ok (slice (some ⟨w.heap.size,0,none⟩) n n) w'/\Bk w' w.heap.size (List.replicate n 0) #[]/\Below w.heap.size w w'/\w'.heap.size=w.heap.size+1:=by
 obtain⟨i0,hi,hz0,hz1,hz2⟩:=info_parts lS;have hr:=run_make (P:=prog) w 23 3 i0 (int i64 0) underlying23 hi hz0 .i64 .i64 (n:Nat) (n:Nat) (by omega) (Int.le_refl _) (by rw[hz2];omega) (by omega);refine⟨_,hr,?_,aA,by simp⟩;unfold Bk;rw[hz1,bF,Nat.mul_one,heap_alloc_new];have e:(Value.int _ 0).cells= #[int i64 0]:=rfl;rw[e,LY,Array.append_empty]
theorem Rt(w:World)(ty:TypeId)(base:Nat)(v:Value)(ks:List dZ)(hown:ig w base v ks)(b:Nat)(d:dZ)(hd:uP w ⟨b,0,none⟩ d)(hl:ks.length<=1000000)(hbase:base<=w.heap.size):
  ∃g cap w',(Builtin.append_ #[58,58] ty #[v,slice (some ⟨b,0,none⟩) 1 1]).run prog w=.ok (slice (some ⟨g,0,none⟩) (ks.length+1) cap) w'/\ig w' base (slice (some ⟨g,0,none⟩) (ks.length+1) cap) (ks++[d])/\w.grownBy w' v.ownBlock/\(v.ownBlock=some g\/g=w.heap.size)/\g<w'.heap.size:=by
 obtain⟨i0,hi,hz0,hz1,hz2⟩:=info_parts zB;obtain⟨g,cap,w6,hr,ho6,hg6,ha6,hl6⟩:=run_append_lies (P:=prog) w 58 58 base 169 i0 _ 3 24 underlying58 hi hz0 hz1 hz2 rfl (by decide) v ks.length _ hown ⟨b,0,none⟩ 1 1 (dZ.cs d) rfl (λj u hj=>by
  have hjn:j<3:=(aK.1 hj).1;rw[Addr.add_lit,aO]
  match j,hjn,hj with
  |0,_,hj=>simp[dZ.cs] at hj;subst hj;exact hd.c0
  |1,_,hj=>simp[dZ.cs] at hj;subst hj;exact hd.c1
  |2,_,hj=>simp[dZ.cs] at hj;subst hj;exact hd.c2) (λu hu=>by
  simp[dZ.cs] at hu;rcases hu with rfl|rfl|rfl<;>rfl) (by decide) (by unfold maxLen;omega) (by omega) hbase _ rfl
 refine⟨g,cap,w6,hr,?_,hg6,ha6,hl6⟩;unfold ig;rw[aC,fM];simpa using ho6
def BrI(ks:List KV)(Wn Hn:Nat)(Y:WV)(z b1:Nat)(w1:World)(u1 u2 u3 u4 u5 ev j:Value)(V:World):Prop:=∃q:Nat,q<=Y.us.length/\j=int i64 (q:Nat)/\Wx V z (int i64 Y.turn) (int i64 Y.next) (int i64 Y.wide) (int i64 Y.high) u1 u2 u3 u4 u5/\Gm ks Y (br ks Wn Hn Y q).1 (br ks Wn Hn Y q).2 b1 (z+1) w1 u1 u2 u3 u4 u5 ev V
theorem LZ(vk:Value)(ks:List KV)(Y:WV)(u1 u2 u3 u4 u5:Value)(b1:Nat)(w0 w:World)(hk:Kl w0 vk ks)(hb0:Below w0.heap.size w0 w)(ZT:w0.heap.size<=b1)(o1:Ow w b1 u1 Y.gs)(o2:Ow w b1 u2 Y.os)(o3:Ow w b1 u3 Y.gold)(o4:fD w b1 u4 Y.us)(o5:fB w b1 u5 Y.qs)(hd:[u1,u2,u3,u4,u5].Pairwise fK)(hf:mQ ks Y)(Wn Hn:Nat)(e1:Y.wide=(Wn:Nat))(e2:Y.high=(Hn:Nat))(G:Fd.Good Wn Hn Y.gs Y.os)(hs:Sd w0):
  Calls prog 109 #[vk,.agg #[int i64 Y.turn,int i64 Y.next,int i64 Y.wide,int i64 Y.high,u1,u2,u3,u4,u5]] w λe w'=>∃ev,e=.returned ev/\Gm ks Y (br ks Wn Hn Y Y.us.length).1 (br ks Wn Hn Y Y.us.length).2 b1 w.heap.size w u1 u2 u3 u4 u5 ev w':=by
 have WH:=aj (lM e1 e2 G hs);clear e1 e2 G hs;have KB:Hid (Kl w0 vk ks/\Below w0.heap.size w0 w/\w0.heap.size<=b1):=⟨hk,hb0,ZT⟩;obtain⟨pk,qk,rfl,ck1,ck2,kc⟩:=hk;have T0:Hid (Gm ks Y Y [] b1 w.heap.size w u1 u2 u3 u4 u5 (slice none 0 0) w):=⟨o1,o2,o3,o4,o5,ig.nil _ _,hd,Fr.below aB,⟨rfl,rfl,rfl,rfl,rfl,rfl,rfl,rfl,rfl⟩,hf⟩;have LW:Hid (∀x∈[u1,u2,u5],∀k,x.ownBlock=some k->k<w.heap.size):=by
  intro x hx k hk;simp only[bP,List.not_mem_nil,or_false] at hx;rcases hx with rfl|rfl|rfl
  ·exact(o1.block k hk).2
  ·exact(o2.block k hk).2
  ·exact(o5.block k hk).2
 have L24:Hid ((∀k,u3.ownBlock=some k->b1<=k/\k<w.heap.size)/\∀k,u4.ownBlock=some k->b1<=k/\k<w.heap.size):=⟨o3.block,o4.block⟩;have ul:=hf.ul;obtain⟨a1,h1,rfl⟩:=o1.len;obtain⟨a2,h2,rfl⟩:=o2.len;obtain⟨a3,h3,rfl⟩:=o3.len;obtain⟨a4,h4,rfl⟩:=o4.len;obtain⟨a5,h5,rfl⟩:=o5.len;clear hb0 ZT kc o1 o2 o3 o4 o5 hd hf;go_enter func109,ntmps109;go_upto_region 2 with fail
 have BA:Hid (Below _ w (w.alloc (cells #[int i64 Y.turn,int i64 Y.next,int i64 Y.wide,int i64 Y.high,slice a1 Y.gs.length h1,slice a2 Y.os.length h2,slice a3 Y.gold.length h3,slice a4 Y.us.length h4,slice a5 Y.qs.length h5] 29))):=aA;obtain⟨z,hz⟩:∃z,w.heap.size=z:=⟨_,rfl⟩;have HZ:=aj (hz);have X1:Hid (Wx _ z (int i64 Y.turn) (int i64 Y.next) (int i64 Y.wide) (int i64 Y.high) (slice a1 Y.gs.length h1) (slice a2 Y.os.length h2) (slice a3 Y.gold.length h3) (slice a4 Y.us.length h4) (slice a5 Y.qs.length h5)):=Wx.new _ _ _ _ _ _ _ _ _ hz;have S1:Hid ((w.alloc (cells #[int i64 Y.turn,int i64 Y.next,int i64 Y.wide,int i64 Y.high,slice a1 Y.gs.length h1,slice a2 Y.os.length h2,slice a3 Y.gold.length h3,slice a4 Y.us.length h4,slice a5 Y.qs.length h5] 29)).heap.size=z+1):=by unfold Hid;rw[<-hz];simp
 rw[hz];clear hz;generalize w.alloc _=w1 at *;have T1:Hid (Gm ks Y Y [] b1 (z+1) w1 (slice a1 Y.gs.length h1) (slice a2 Y.os.length h2) (slice a3 Y.gold.length h3) (slice a4 Y.us.length h4) (slice a5 Y.qs.length h5) (slice none 0 0) w1):=by
  have h:=T0.below BA;exact⟨h.o1,h.o2,h.o3,h.o4,h.o5,ig.nil _ _,h.d,Fr.below aB,h.k,h.f⟩
 clear T0;have xx:=X1.cells;go_wp2_with fail
 clear xx;go_loopw [5,11] (λev j V=>BrI ks Wn Hn Y z b1 w1 (slice a1 Y.gs.length h1) (slice a2 Y.os.length h2) (slice a3 Y.gold.length h3) (slice a4 Y.us.length h4) (slice a5 Y.qs.length h5) ev j V) (λ_ j _=>Y.us.length-(intOf j).toNat)
 case atStart=>exact⟨0,aZ _,rfl,X1,T1⟩
 case round=>
  obtain⟨q,hq,rfl,hx,ht⟩:=hrel;obtain⟨Z,hZ⟩:∃Z,(br ks Wn Hn Y q).1=Z:=⟨_,rfl⟩;obtain⟨es,hE⟩:∃es,(br ks Wn Hn Y q).2=es:=⟨_,rfl⟩;have HQ:Hid ((br ks Wn Hn Y q).1=Z/\(br ks Wn Hn Y q).2=es):=⟨hZ,hE⟩;have EL:Hid (es.length<=40):=by have h9:=zF (ks:=ks) (Wn:=Wn) (Hn:=Hn) (Y:=Y) q;rw[hE] at h9;unfold Hid;omega
  rw[hZ,hE] at ht;clear hZ hE;obtain⟨ea,ec,rfl⟩:=ht.e.len;have TQ:=aj (ht);have XQ:=aj (hx);clear hx ht;by_cases hqn:q=Y.us.length
  ·have FIN:Hid ((br ks Wn Hn Y Y.us.length).1=Z/\(br ks Wn Hn Y Y.us.length).2=es):=by rw[<-hqn];exact HQ
   subst hqn;go_wp2;go_ret;refine⟨_,rfl,?_⟩;rw[FIN.out.1,FIN.out.2];have h:=TQ.out;exact⟨h.o1,h.o2,h.o3,h.o4,h.o5,h.e.mono (by have:=HZ.out;omega),h.d,(Fr.below BA).trans h.fr,h.k,h.f⟩
  ·have Ak:q<Y.us.length:=by omega
   have hqi:((q:Nat):Int)<(Y.us.length:Nat):=by omega
   have hzl:q<Z.us.length:=by rw[TQ.out.k.2.2.2.2.2.2.2.1];exact Ak
   obtain⟨u,hu⟩:∃u,Z.us[q]? =some u:=⟨_,aH hzl⟩;obtain⟨⟨kn,k,hkn,hkk,l1,l2,l3⟩,⟨an,han,hal⟩,pn,hpn,hpl⟩:=TQ.f.units u (aT hu);obtain⟨x,hx⟩:∃x,Z.gold[pn]? =some x:=⟨_,aH hpl⟩;have UU:Hid (Z.us[q]? =some u/\u.ay=(pn:Nat)/\Z.gold[pn]? =some x/\u.at_=(an:Nat)/\an<Wn*Hn):=⟨hu,hpn,hx,han,by rw[TQ.out.k.2.2.2.2.2.1,WH.out.2.2.1.ol] at hal;exact hal⟩;have OX:=TQ.f.gold x (aT hx);have abZ:((pn:Nat):Int)<(Y.gold.length:Nat):=by rw[<-TQ.out.k.2.2.2.2.2.2.2.2];omega
   obtain⟨gu,cu,ur,e4,hgu,c1,c2,c3,hub⟩:∃g cap rest,slice a4 Y.us.length h4=slice (some ⟨g,0,none⟩) Y.us.length cap/\b1<=g/\Y.us.length<=cap/\cap<=maxLen/\Y.us.length*8+rest.length=cap*8/\Ub wr g Z.us rest:=by
    rcases TQ.o4.ub with⟨-,h⟩|⟨g,cap,rest,h⟩
    ·rw[h] at hzl;simp at hzl
    ·rw[TQ.out.k.2.2.2.2.2.2.2.1] at h;exact⟨g,cap,rest,h⟩
   injection e4 with e41 e42 e43
   subst e41 e43;obtain⟨gs,co,sr,e2,hgs,d1,d2,d3,hbk⟩:∃g cap rest,slice a3 Y.gold.length h3=slice (some ⟨g,0,none⟩) Y.gold.length cap/\b1<=g/\Y.gold.length<=cap/\cap<=maxLen/\Y.gold.length+rest.size=cap/\Bk wr g Z.gold rest:=by
    rcases TQ.o3.bk with⟨-,h⟩|⟨g,cap,rest,h⟩
    ·rw[h] at hpl;simp at hpl
    ·rw[TQ.out.k.2.2.2.2.2.2.2.2] at h;exact⟨g,cap,rest,h⟩
   injection e2 with e21 e22 e23
   subst e21 e23;have GB:=aj (YK hgu c1 c2 c3 hgs d1 d2 d3);have UB:Hid (∀V,Below wr.heap.size wr V->Ub V gu Z.us ur):=λV hV=>hub.below hV hub.lt
   have BB:Hid (∀V,Below wr.heap.size wr V->Bk V gs Z.gold sr):=λV hV=>hbk.below hV
   have GL:Hid (gu<z/\gs<z/\gu≠gs):=by
    rw[<-HZ.out];refine⟨(L24.2 gu rfl).2,(L24.1 gs rfl).2,λe=>TQ.wU.2.2.1.1 gs rfl (by rw[<-e];rfl)⟩
   have KV':Hid (∀V,Below wr.heap.size wr V->Kl V (slice pk ks.length qk) ks):=λV hV=>by
    have b01:=KB.2.1.trans (BA.mono KB.2.1.size);have YQ:=TQ.fr.low b01.size (λk hk=>by
     rcases hk with hk|hk
     ·have:=(L24.1 k hk).1;have:=KB.out.2.2;omega
     ·have:=(L24.2 k hk).1;have:=KB.out.2.2;omega)
    exact KB.1.below ((b01.trans YQ).trans (hV.mono (b01.trans YQ).size))
   have SV:Hid (∀V,Below wr.heap.size wr V->Sd V):=λV hV=>by
    have b01:=KB.2.1.trans (BA.mono KB.2.1.size);have YQ:=TQ.fr.low b01.size (λk hk=>by
     rcases hk with hk|hk
     ·have:=(L24.1 k hk).1;have:=KB.out.2.2;omega
     ·have:=(L24.2 k hk).1;have:=KB.out.2.2;omega)
    exact WH.2.2.2.below ((b01.trans YQ).trans (hV.mono (b01.trans YQ).size))
   have CV:Hid (∀V,Below wr.heap.size wr V->Wx V z (int i64 Y.turn) (int i64 Y.next) (int i64 Y.wide) (int i64 Y.high) (slice a1 Y.gs.length h1) (slice a2 Y.os.length h2) (slice (some ⟨gs,0,none⟩) Y.gold.length h3) (slice (some ⟨gu,0,none⟩) Y.us.length h4) (slice a5 Y.qs.length h5)/\fA V ⟨gu,q*8,none⟩ u):=λV hV=>⟨XQ.below hV XQ.lt,(UB V hV).pV UU.1⟩
   have D5:Hid (Below wr.heap.size wr {wr with drawn:=wr.drawn+1}):=aB.drew;have xq:=XQ.out;have xx:=xq.cells;obtain⟨y0,y1,y2,y3,y4,y5,y6,y7⟩:=(CV _ aB).2;clear xq hu hpn hkn hkk han hx hal hzl hgu c1 c2 c3 hgs d1 d2 d3 hub hbk e42 e22 hpl;go_upto_region 6 with fail
   by_cases hld:0<u.load
   case neg=>
    have NX:Hid (br ks Wn Hn Y (q+1)=(Z,es)):=by
     have h9:=JJ (ks:=ks) (Wn:=Wn) (Hn:=Hn) (Y:=Y) (q:=q) (u:=u) (by rw[HQ.out.1];exact UU.1) (by unfold brings;rw[decide_eq_false hld];rfl);unfold Hid;rw[h9,<-HQ.out.1,<-HQ.out.2]
    go_quiet (fail);have D6:Hid (Below wr.heap.size wr (wr.drewN nq)):=⟨rfl,rfl,rfl,aU _,λ_ _=>rfl⟩;generalize wr.drewN nq=w6 at *;go_wp2;go_round
    case rel=>exact⟨q+1,by omega,by go_num,XQ.below D6 XQ.lt,by rw[NX.out];exact TQ.below D6⟩
    case measure=>simp[intOf];omega
   clear xx y0 y1 y2 y3 y4 y5 y6 y7;refine aV [(true,0),(true,1),(true,2),(true,3),(true,4),(true,5),(true,6),(true,7),(true,8),(true,9),(true,10),(false,11)] [(false,12)] (λV=>Wx V z (int i64 Y.turn) (int i64 Y.next) (int i64 Y.wide) (int i64 Y.high) (slice a1 Y.gs.length h1) (slice a2 Y.os.length h2) (slice (some ⟨gs,0,none⟩) Y.gold.length h3) (slice (some ⟨gu,0,none⟩) Y.us.length h4) (slice a5 Y.qs.length h5)/\fA V ⟨gu,q*8,none⟩ u) (by kernel_rfl) (by kernel_rfl) (by kernel_rfl) (by decide+kernel) (by decide+kernel) (CV _ D5) ?_;generalize ({wr with drawn:=wr.drawn+1}:World)=w6 at *;refine au rfl (.pointer (some ⟨gu,q*8,none⟩)) (by go_simp) (λV hV=>by go_simp) ?_;go_simp;refine au rfl (.pointer (some ⟨gu,q*8,none⟩)) (by go_simp) (λV hV=>by obtain⟨hX,hU⟩:=hV;have xx:=hX.cells;obtain⟨y0,y1,y2,y3,y4,y5,y6,y7⟩:=hU;go_simp) ?_;go_simp;refine au rfl (.pointer (some ⟨gu,q*8+5,none⟩)) (by go_simp) (λV hV=>by go_simp) ?_;go_simp;refine au rfl (int i64 u.load) (by go_simp) (λV hV=>by obtain⟨hX,hU⟩:=hV;have xx:=hX.cells;obtain⟨y0,y1,y2,y3,y4,y5,y6,y7⟩:=hU;go_simp) ?_;go_simp;refine au rfl (.bool true) (by go_simp) (λV hV=>by go_simp) ?_;go_simp;refine au rfl (.bool true) (by go_simp) (λV hV=>by go_simp) ?_;go_simp;refine au rfl (slice pk ks.length qk) (by go_simp) (λV hV=>by go_simp) ?_;go_simp;refine au rfl (.agg #[int i64 Y.turn,int i64 Y.next,int i64 Y.wide,int i64 Y.high,slice a1 Y.gs.length h1,slice a2 Y.os.length h2,slice (some ⟨gs,0,none⟩) Y.gold.length h3,slice (some ⟨gu,0,none⟩) Y.us.length h4,slice a5 Y.qs.length h5]) (by go_simp) (λV hV=>by obtain⟨hX,hU⟩:=hV;have xx:=hX.cells;obtain⟨y0,y1,y2,y3,y4,y5,y6,y7⟩:=hU;go_simp) ?_;go_simp;refine au rfl (.pointer (some ⟨gu,q*8,none⟩)) (by go_simp) (λV hV=>by go_simp) ?_;go_simp;refine au rfl (.pointer (some ⟨gu,q*8,none⟩)) (by go_simp) (λV hV=>by obtain⟨hX,hU⟩:=hV;have xx:=hX.cells;obtain⟨y0,y1,y2,y3,y4,y5,y6,y7⟩:=hU;go_simp) ?_;go_simp;refine au rfl (.agg #[int i64 u.id,int i64 u.ay,int i64 u.kind,int i64 u.at_,int i64 u.life,int i64 u.load,int i64 u.task,int i64 u.goal]) (by go_simp) (λV hV=>by obtain⟨hX,hU⟩:=hV;have xx:=hX.cells;obtain⟨y0,y1,y2,y3,y4,y5,y6,y7⟩:=hU;go_simp) ?_;go_simp;refine dH rfl 159 #[slice pk ks.length qk,.agg #[int i64 Y.turn,int i64 Y.next,int i64 Y.wide,int i64 Y.high,slice a1 Y.gs.length h1,slice a2 Y.os.length h2,slice (some ⟨gs,0,none⟩) Y.gold.length h3,slice (some ⟨gu,0,none⟩) Y.us.length h4,slice a5 Y.qs.length h5],.agg #[int i64 u.id,int i64 u.ay,int i64 u.kind,int i64 u.at_,int i64 u.life,int i64 u.load,int i64 u.task,int i64 u.goal]] (by go_simp) (by go_simp) ?_;have T6:=aj (TQ.below D5);refine Calls.mono (Gi _ _ ks Z u Wn Hn an w6 (KV' _ D5) T6.wl T6.f (by rw[TQ.out.k.2.2.1];exact WH.1) (by rw[TQ.out.k.2.2.2.1];exact WH.2.1) (by rw[TQ.out.k.2.2.2.2.1,TQ.out.k.2.2.2.2.2.1];exact WH.2.2.1) UU.2.2.2.1 UU.2.2.2.2 (SV _ D5)) ?_;rintro e w7 ⟨rfl,b7⟩;have D7:=aG D5 b7;refine⟨_,rfl,CV _ D7,?_⟩;have BR:Hid (brings ks Wn Hn Z u=JH ks Wn Hn an Z u):=by unfold Hid brings;rw[decide_eq_true hld,UU.out.2.2.2.1,bF];rfl
   obtain⟨hh,hhh⟩:∃b,JH ks Wn Hn an Z u=b:=⟨_,rfl⟩;rw[hhh] at BR ⊢;clear b7 hhh T6;go_simp;refine aW rfl (.bool hh) w7 (by go_simp) (by go_simp) trivial ?_;go_simp;unfold bC;have T7:=aj (TQ.below D7);have X7:=aj (XQ.below D7 XQ.lt);cases hh with
   |false=>
    have NX:Hid (br ks Wn Hn Y (q+1)=(Z,es)):=by
     have h9:=JJ (ks:=ks) (Wn:=Wn) (Hn:=Hn) (Y:=Y) (q:=q) (u:=u) (by rw[HQ.out.1];exact UU.1) (by rw[HQ.out.1];exact BR);unfold Hid;rw[h9,<-HQ.out.1,<-HQ.out.2]
    go_wp2;go_round
    case rel=>exact⟨q+1,by omega,by go_num,X7,by rw[NX.out];exact T7⟩
    case measure=>simp[intOf];omega
   |true=>
    have NX:Hid (br ks Wn Hn Y (q+1)=(iw Z q u,es++[⟨5,u.id,u.load⟩])):=by
     have h9:=Gj (ks:=ks) (Wn:=Wn) (Hn:=Hn) (Y:=Y) (q:=q) (u:=u) (by rw[HQ.out.1];exact UU.1) (by rw[HQ.out.1];exact BR);unfold Hid;rw[h9,HQ.out.1,HQ.out.2]
    obtain⟨mg,hmg⟩:∃m,min (x+u.load) 1000000=m:=⟨_,rfl⟩;have HM:=aj (hmg);have wr1:IntKind.i64.wrap (x+u.load)=x+u.load:=by rw[IntKind.wrap_i64];omega
    have C7:Hid (∀V,Below w7.heap.size w7 V->Wx V z (int i64 Y.turn) (int i64 Y.next) (int i64 Y.wide) (int i64 Y.high) (slice a1 Y.gs.length h1) (slice a2 Y.os.length h2) (slice (some ⟨gs,0,none⟩) Y.gold.length h3) (slice (some ⟨gu,0,none⟩) Y.us.length h4) (slice a5 Y.qs.length h5)/\fA V ⟨gu,q*8,none⟩ u/\V.cell? ⟨gs,pn,none⟩=some (int i64 x)):=λV hV=>⟨X7.below hV X7.lt,(UB V (D7.trans (hV.mono D7.size))).pV UU.1,(BB V (D7.trans (hV.mono D7.size))).cell UU.2.2.1⟩
    have D8:Hid (Below w7.heap.size w7 {w7 with drawn:=w7.drawn+1}):=aB.drew;clear hmg;go_upto_region 7 with fail
    refine aV [(true,0),(true,1),(true,2),(true,3),(true,4),(true,5),(true,6),(true,7),(true,8),(true,9),(true,10),(true,11),(true,12),(true,13),(true,14),(true,15),(true,16),(true,17),(true,18),(true,19),(true,20)] [(false,21)] (λV=>Wx V z _ _ _ _ (slice a1 Y.gs.length h1) (slice a2 Y.os.length h2) (slice (some ⟨gs,0,none⟩) Y.gold.length h3) (slice (some ⟨gu,0,none⟩) Y.us.length h4) (slice a5 Y.qs.length h5)/\fA V ⟨gu,q*8,none⟩ u/\V.cell? ⟨gs,pn,none⟩=some (int i64 x)) (by kernel_rfl) (by kernel_rfl) (by kernel_rfl) (by decide+kernel) (by decide+kernel) (C7 _ D8) ?_;generalize ({w7 with drawn:=w7.drawn+1}:World)=w8 at *;refine au rfl (.pointer (some ⟨z,6,none⟩)) (by go_simp) (λV hV=>by go_simp) ?_;go_simp;refine au rfl (slice (some ⟨gs,0,none⟩) Y.gold.length h3) (by go_simp) (λV hV=>by obtain⟨hX,hU,hG⟩:=hV;have xx:=hX.cells;obtain⟨y0,y1,y2,y3,y4,y5,y6,y7⟩:=hU;rw[UU.out.2.1] at y1;go_simp) ?_;go_simp;refine au rfl (.pointer (some ⟨gu,q*8,none⟩)) (by go_simp) (λV hV=>by go_simp) ?_;go_simp;refine au rfl (.pointer (some ⟨gu,q*8,none⟩)) (by go_simp) (λV hV=>by obtain⟨hX,hU,hG⟩:=hV;have xx:=hX.cells;obtain⟨y0,y1,y2,y3,y4,y5,y6,y7⟩:=hU;rw[UU.out.2.1] at y1;go_simp) ?_;go_simp;refine au rfl (.pointer (some ⟨gu,q*8+1,none⟩)) (by go_simp) (λV hV=>by go_simp) ?_;go_simp;refine au rfl (int i64 (pn:Nat)) (by go_simp) (λV hV=>by obtain⟨hX,hU,hG⟩:=hV;have xx:=hX.cells;obtain⟨y0,y1,y2,y3,y4,y5,y6,y7⟩:=hU;rw[UU.out.2.1] at y1;go_simp) ?_;go_simp;refine au rfl (.pointer (some ⟨z,6,none⟩)) (by go_simp) (λV hV=>by go_simp) ?_;go_simp;refine au rfl (slice (some ⟨gs,0,none⟩) Y.gold.length h3) (by go_simp) (λV hV=>by obtain⟨hX,hU,hG⟩:=hV;have xx:=hX.cells;obtain⟨y0,y1,y2,y3,y4,y5,y6,y7⟩:=hU;rw[UU.out.2.1] at y1;go_simp) ?_;go_simp;refine au rfl (.pointer (some ⟨gu,q*8,none⟩)) (by go_simp) (λV hV=>by go_simp) ?_;go_simp;refine au rfl (.pointer (some ⟨gu,q*8,none⟩)) (by go_simp) (λV hV=>by obtain⟨hX,hU,hG⟩:=hV;have xx:=hX.cells;obtain⟨y0,y1,y2,y3,y4,y5,y6,y7⟩:=hU;rw[UU.out.2.1] at y1;go_simp) ?_;go_simp;refine au rfl (.pointer (some ⟨gu,q*8+1,none⟩)) (by go_simp) (λV hV=>by go_simp) ?_;go_simp;refine au rfl (int i64 (pn:Nat)) (by go_simp) (λV hV=>by obtain⟨hX,hU,hG⟩:=hV;have xx:=hX.cells;obtain⟨y0,y1,y2,y3,y4,y5,y6,y7⟩:=hU;rw[UU.out.2.1] at y1;go_simp) ?_;go_simp;refine au rfl (.pointer (some ⟨gs,pn,none⟩)) (by go_simp) (λV hV=>by go_simp) ?_;go_simp;refine au rfl (int i64 x) (by go_simp) (λV hV=>by obtain⟨hX,hU,hG⟩:=hV;have xx:=hX.cells;obtain⟨y0,y1,y2,y3,y4,y5,y6,y7⟩:=hU;rw[UU.out.2.1] at y1;go_simp) ?_;go_simp;refine au rfl (.pointer (some ⟨gu,q*8,none⟩)) (by go_simp) (λV hV=>by go_simp) ?_;go_simp;refine au rfl (.pointer (some ⟨gu,q*8,none⟩)) (by go_simp) (λV hV=>by obtain⟨hX,hU,hG⟩:=hV;have xx:=hX.cells;obtain⟨y0,y1,y2,y3,y4,y5,y6,y7⟩:=hU;rw[UU.out.2.1] at y1;go_simp) ?_;go_simp;refine au rfl (.pointer (some ⟨gu,q*8+5,none⟩)) (by go_simp) (λV hV=>by go_simp) ?_;go_simp;refine au rfl (int i64 u.load) (by go_simp) (λV hV=>by obtain⟨hX,hU,hG⟩:=hV;have xx:=hX.cells;obtain⟨y0,y1,y2,y3,y4,y5,y6,y7⟩:=hU;rw[UU.out.2.1] at y1;go_simp) ?_;go_simp;refine au rfl (int i64 (x+u.load)) (by go_simp) (λV hV=>by go_simp) ?_;go_simp;refine au rfl (int i64 mg) (by go_simp) (λV hV=>by have h9:=HM.out;first|(go_simp;done)|(go_simp;rw[h9])|(simp[h9];go_simp)) ?_;go_simp;refine au rfl (.pointer (some ⟨gs,pn,none⟩)) (by go_simp) (λV hV=>by go_simp) ?_;go_simp;unfold dw;have D78:=aG D7 D8;have X8:=aj (XQ.below D78 XQ.lt);have T8:=aj (TQ.below D78);have B8:=aj (BB _ D78);have U8:=aj (UB _ D78);have tz:=B8.thaw pn;have cz:=B8.cell UU.2.2.1;refine iH rfl (w8.setCell ⟨gs,pn,none⟩ (int i64 mg)) (by go_simp) (by go_simp) trivial ?_;go_simp;unfold bC;have K9:Hid (Kp gs w8 (w8.setCell ⟨gs,pn,none⟩ (int i64 mg))):=Kp.set _ _ _;have B9:Hid (Bk _ gs (Z.gold.set pn mg) sr):=B8.set pn _ (aK.1 UU.2.2.1).1;clear tz cz C7 wr1;generalize (w8.setCell _ _)=w9 at *;have F9:Hid (Fr (λq=>q=gs) w8 w9):=Fr.kp K9 rfl;have X9:=aj (F9.wx X8 (by have:=GL.out.2.1;omega));have U9:Hid (Ub w9 gu Z.us ur):=(F9.block gu U8.lt (by have:=GL.out.2.2;omega)).trans U8;have E9:Hid (ig w9 (z+1) (slice ea es.length ec) es):=F9.own T8.e (λb hb e=>by have h9:=(T8.e.block b hb).1;have h8:=GL.out;omega);clear K9 X8 U8 B8;go_upto_region 8 with fail
    have DE:Hid (Below w9.heap.size w9 {w9 with drawn:=w9.drawn+1}):=aB.drew;have CE:Hid (∀V,Below w9.heap.size w9 V->fA V ⟨gu,q*8,none⟩ u):=λV hV=>(U9.below hV U9.lt).pV UU.1
    refine aV [(true,0),(true,1),(true,2),(true,3),(true,4),(true,5),(true,6),(true,7),(true,8),(true,9),(false,10),(false,11)] [(false,12)] (λV=>fA V ⟨gu,q*8,none⟩ u) (by kernel_rfl) (by kernel_rfl) (by kernel_rfl) (by decide+kernel) (by decide+kernel) (CE _ DE) ?_;generalize ({w9 with drawn:=w9.drawn+1}:World)=wa at *;refine au rfl (slice ea es.length ec) (by go_simp) (λV hV=>by go_simp) ?_;go_simp;refine au rfl (.pointer (some ⟨gu,q*8,none⟩)) (by go_simp) (λV hV=>by go_simp) ?_;go_simp;refine au rfl (.pointer (some ⟨gu,q*8,none⟩)) (by go_simp) (λV hV=>by obtain⟨y0,y1,y2,y3,y4,y5,y6,y7⟩:=hV;go_simp) ?_;go_simp;refine au rfl (.pointer (some ⟨gu,q*8,none⟩)) (by go_simp) (λV hV=>by go_simp) ?_;go_simp;refine au rfl (int i64 u.id) (by go_simp) (λV hV=>by obtain⟨y0,y1,y2,y3,y4,y5,y6,y7⟩:=hV;go_simp) ?_;go_simp;refine au rfl (.pointer (some ⟨gu,q*8,none⟩)) (by go_simp) (λV hV=>by go_simp) ?_;go_simp;refine au rfl (.pointer (some ⟨gu,q*8,none⟩)) (by go_simp) (λV hV=>by obtain⟨y0,y1,y2,y3,y4,y5,y6,y7⟩:=hV;go_simp) ?_;go_simp;refine au rfl (.pointer (some ⟨gu,q*8+5,none⟩)) (by go_simp) (λV hV=>by go_simp) ?_;go_simp;refine au rfl (int i64 u.load) (by go_simp) (λV hV=>by obtain⟨y0,y1,y2,y3,y4,y5,y6,y7⟩:=hV;go_simp) ?_;go_simp;refine au rfl (.agg #[int i64 5,int i64 u.id,int i64 u.load]) (by go_simp) (λV hV=>by go_simp) ?_;go_simp;have BA:Hid (Below _ wa (wa.alloc (cells #[int i64 5,int i64 u.id,int i64 u.load] 169))):=aA;have BAA:=aG DE BA;have RC:Hid (uP (wa.alloc (cells #[.int _ 5,.int _ u.id,.int _ u.load] _)) _ _):=uP.mk' ⟨5,u.id,u.load⟩ rfl;refine fF rfl (slice (some ⟨wa.heap.size,0,none⟩) 1 1) (wa.alloc (cells #[int i64 5,int i64 u.id,int i64 u.load] 169)) (by go_simp) (by go_simp) (CE _ BAA) ?_;go_simp;generalize wa.alloc _=wb at *;have EB:=aj (E9.below BAA);have SB:Hid (z+1<=wb.heap.size):=aJ X9.lt BAA.size;obtain⟨gg,gc,wE,hr,ho8,hg8,-,-⟩:=Rt wb 58 (z+1) _ es EB _ _ RC (by have:=EL.out;omega) SB;have EO:=aj (ho8);have FE:=aj ((Fr.below BAA).trans (Fr.gb hg8 (λk hk=>hk)));have NE:Hid (∀k,k<=z->¬(slice ea es.length ec:Value).ownBlock=some k):=λk hk e=>by have:=(E9.block k e).1;omega
    have UE:Hid (Ub wE gu Z.us ur):=(FE.block gu U9.lt (NE gu (by have:=GL.out.1;omega))).trans U9;have BK:Hid (Bk wE gs (Z.gold.set pn mg) sr):=(FE.block gs B9.lt (NE gs (by have:=GL.out.2.1;omega))).trans B9;have XE:=aj (FE.wx X9 (NE z aN));refine fF rfl (slice (some ⟨gg,0,none⟩) (es.length+1) gc) wE (by go_simp) (jO _ _ _ _ rfl _ _ (by go_simp) (by go_simp) hr) (UE.pV UU.1) ?_;clear hr ho8 hg8;go_simp;unfold dw;refine aW rfl (slice (some ⟨gg,0,none⟩) (es.length+1) gc) wE (by go_simp) (by go_simp) trivial ?_;go_simp;unfold bC;obtain⟨y0,y1,y2,y3,y4,y5,y6,y7⟩:=UE.pV UU.1;have t5:=UE.thaw (q*8+5);have UF:Hid (Ub _ gu (Z.us.set q (lV u 0)) ur):=UE.Qp UU.1 0;have KF:Hid (Kp gu wE (wE.setCell ⟨gu,q*8+5,none⟩ (int i64 0))):=Kp.set _ _ _;have BF:Hid (Bk (wE.setCell ⟨gu,q*8+5,none⟩ (int i64 0)) gs (Z.gold.set pn mg) sr):=BK.other (by have:=GL.out.2.2;omega) _ _;go_upto_region 10 with fail
    clear y0 y1 y2 y3 y4 y5 y6 y7 t5;generalize wE.setCell _ _=wF at *;have FF:Hid (Fr (λq=>q=gu) wE wF):=Fr.kp KF rfl;have XF:=aj (FF.wx XE (by have:=GL.out.1;omega));have EF:Hid (ig wF (z+1) (slice (some ⟨gg,0,none⟩) (es.length+1) gc) (es++[⟨5,u.id,u.load⟩])):=FF.own EO (λb hb e=>by have h9:=(EO.block b hb).1;have h8:=GL.out;omega);have FA:Hid (Fr (λq=>q=gu\/q=gs\/(slice ea es.length ec:Value).ownBlock=some q) w8 wF):=((F9.mono (λk hk=>.inr (.inl hk))).trans (FE.mono (λk hk=>.inr (.inr hk)))).trans (FF.mono (λk hk=>.inl hk));have EW:Hid ((iw Z q u).gold=Z.gold.set pn mg):=by
     unfold Hid iw;simp only[UU.out.2.1,bF,dD,UU.out.2.2.1,Option.getD_some,HM.out]
    have TE:Hid (Gm ks Y (iw Z q u) (es++[⟨5,u.id,u.load⟩]) b1 (z+1) w1 (slice a1 Y.gs.length h1) (slice a2 Y.os.length h2) (slice (some ⟨gs,0,none⟩) Y.gold.length h3) (slice (some ⟨gu,0,none⟩) Y.us.length h4) (slice a5 Y.qs.length h5) (slice (some ⟨gg,0,none⟩) (es.length+1) gc) wF):=
     T8.bring (V':=wF) (i:=q) (u:=u) (ur:=ur) (gr:=sr) (ev':=slice (some ⟨gg,0,none⟩) (es.length+1) gc) S1 (λy hy k hk=>by have:=LW y hy k hk;have:=HZ.out;omega) GB.1 GB.2.1 GB.2.2.1 GB.2.2.2.1 GB.2.2.2.2.1 GB.2.2.2.2.2.1 GB.2.2.2.2.2.2.1 GB.2.2.2.2.2.2.2 UU.1 UF (by rw[EW.out];exact BF) EF FA
    go_wp2;go_round
    case rel=>exact⟨q+1,by omega,by go_num,XF,by rw[NX.out];exact TE⟩
    case measure=>simp[intOf];omega
theorem Ru(ks:List dZ):(ks.flatMap dZ.cs).length=ks.length*3:=by
 induction ks with
 |nil=>rfl
 |cons x l ih=>rw[List.flatMap_cons,aC,ih,dI,Nat.succ_mul,Nat.add_comm];rfl
theorem Xf{ks:List dZ}(hc:∀(i:Nat) k,ks[i]? =some k->uP w (y.add (i*3)) k)(j:Nat)(u:Value)(hj:(ks.flatMap dZ.cs)[j]? =some u):w.cell? (y.add j)=some u:=by
 have hjl:j<ks.length*3:=by rw[<-Ru];exact(aK.1 hj).1
 obtain⟨i,r,hr,rfl⟩:∃i r,r<3/\j=i*3+r:=⟨j/3,j%3,Nat.mod_lt _ (by decide),by omega⟩;have hi:i<ks.length:=by omega
 obtain⟨k,hk⟩:∃k,ks[i]? =some k:=⟨_,aH hi⟩;rw[zC ks i r k hk hr] at hj;have h:=hc i k hk;rcases Nat.eq_zero_or_pos r with rfl|hr0
 ·simp[dZ.cs] at hj
  subst hj;exact h.c0
 ·have ea:y.add (i*3+r)=⟨(y.add (i*3)).block,(y.add (i*3)).off+r,none⟩:=by
   unfold Addr.add;rw[if_neg (by omega)];split<;>simp<;>omega
  rw[ea]
  match r,hr,hr0,hj with
  |1,_,_,hj=>simp[dZ.cs] at hj;subst hj;exact h.c1
  |2,_,_,hj=>simp[dZ.cs] at hj;subst hj;exact h.c2
theorem JK(w:World)(ty:TypeId)(base:Nat)(v:Value)(ks:List dZ)(hown:ig w base v ks)(u:Value)(ys:List dZ)(hu:Evl w u ys)(hl:ks.length+ys.length<=1000000)(hbase:base<=w.heap.size):
  ∃v' w',(Builtin.append_ #[58,58] ty #[v,u]).run prog w=.ok v' w'/\ig w' base v' (ks++ys)/\w.grownBy w' v.ownBlock:=by
 obtain⟨i0,hi,hz0,hz1,hz2⟩:=info_parts zB;obtain⟨ad,c,rfl,h1,h2,h3⟩:=hu;by_cases hn:ys=[]
 ·subst hn
  exact⟨v,w,jI _ 58 ty _ i0 3 underlying58 hi v _ _ hown ad c,by simpa using hown,World.grownBy.refl _ _⟩
 ·obtain⟨y,rfl,hy,hc⟩:=h3 hn
  obtain⟨g,cap,w6,hr,ho6,hg6,-,-⟩:=run_append_lies (P:=prog) w 58 58 base 169 i0 _ 3 24 underlying58 hi hz0 hz1 hz2 rfl (by decide) v ks.length _ hown y ys.length c (ys.flatMap dZ.cs) (Ru ys) (Xf hc) (λu hu=>by
   obtain⟨k,-,hk⟩:=List.mem_flatMap.1 hu;simp[dZ.cs] at hk;rcases hk with rfl|rfl|rfl<;>rfl) (List.length_pos_iff.2 hn) (by unfold maxLen;omega) (by omega) hbase _ rfl
  refine⟨_,w6,hr,?_,hg6⟩;unfold ig;rw[aC,fM];exact ho6
theorem Xg{Q:Exit->Act->World->Prop}(w:World)(hgd:o.guard=none)(s x:Operand)
  (ho:o.op=.call {callee:=.builtin .append,args:= #[s,x],argTypes:= #[58,58]}) (base:Nat) (v:Value) (ks:List dZ) (hs:a.eval s=v) (hown:ig w base v ks)
  (u:Value) (ys:List dZ) (hx:a.eval x=u) (hu:Evl w u ys) (hl:ks.length+ys.length<=1000000) (hbase:base<=w.heap.size)
  (h:∀v' w',ig w' base v' (ks++ys)->w.grownBy w' v.ownBlock->wpList prog ops Q rest (a.put o.dst v') w'):
  wpList prog ops Q (o::rest) a w:=by
 obtain⟨v',w',hr,h1,h2⟩:=JK w o.type base v ks hown u ys hu hl hbase;refine wpList_plain hgd λK hK=>?_
 unfold Oper.wp;simp[execOp,ho,resolve,invoke,builtin,hs,hx,hr,Result.andThen];exact hK _ _ (h v' w' h1 h2)
theorem jF(ks:List bM):(ks.flatMap bM.cs).length=ks.length*4:=by
 induction ks with
 |nil=>rfl
 |cons x l ih=>rw[List.flatMap_cons,aC,ih,dI,Nat.succ_mul,Nat.add_comm];rfl
theorem Xh{ks:List bM}(hc:∀(i:Nat) k,ks[i]? =some k->nI w (y.add (i*4)) k)(j:Nat)(u:Value)(hj:(ks.flatMap bM.cs)[j]? =some u):w.cell? (y.add j)=some u:=by
 have hjl:j<ks.length*4:=by rw[<-jF];exact(aK.1 hj).1
 obtain⟨i,r,hr,rfl⟩:∃i r,r<4/\j=i*4+r:=⟨j/4,j%4,Nat.mod_lt _ (by decide),by omega⟩;have hi:i<ks.length:=by omega
 obtain⟨k,hk⟩:∃k,ks[i]? =some k:=⟨_,aH hi⟩;rw[qB ks i r k hk hr] at hj;have h:=hc i k hk;rcases Nat.eq_zero_or_pos r with rfl|hr0
 ·simp[bM.cs] at hj
  subst hj;exact h.c0
 ·have ea:y.add (i*4+r)=⟨(y.add (i*4)).block,(y.add (i*4)).off+r,none⟩:=by
   unfold Addr.add;rw[if_neg (by omega)];split<;>simp<;>omega
  rw[ea]
  match r,hr,hr0,hj with
  |1,_,_,hj=>simp[bM.cs] at hj;subst hj;exact h.c1
  |2,_,_,hj=>simp[bM.cs] at hj;subst hj;exact h.c2
  |3,_,_,hj=>simp[bM.cs] at hj;subst hj;exact h.c3
theorem Xi{Q:Exit->Act->World->Prop}(w:World)(hgd:o.guard=none)(s x:Operand)
  (ho:o.op=.call {callee:=.builtin .append,args:= #[s,x],argTypes:= #[27,27]}) (base:Nat) (v:Value) (ks:List bM) (hs:a.eval s=v) (hown:fB w base v ks)
  (u:Value) (ys:List bM) (hx:a.eval x=u) (hu:VF w u ys) (hl:ks.length+ys.length<=100000000) (hbase:base<=w.heap.size)
  (h:∀v' w',fB w' base v' (ks++ys)->w.grownBy w' v.ownBlock->(v'.ownBlock=v.ownBlock\/v'.ownBlock=some w.heap.size)->wpList prog ops Q rest (a.put o.dst v') w'):
  wpList prog ops Q (o::rest) a w:=by
 obtain⟨i0,hi,hz0,hz1,hz2⟩:=info_parts yV;obtain⟨ad,c,rfl,h1,h2,h3⟩:=hu;by_cases hn:ys=[]
 ·subst hn
  refine wpList_plain hgd λK hK=>?_
  have hrun:=jI (P:=prog) (w:=w) base 27 o.type 93 i0 4 underlying27 hi v ks.length _ hown ad c;have hx':a.eval x=slice ad 0 c:=hx;unfold Oper.wp;simp[execOp,ho,resolve,invoke,builtin,hs,hx',hrun,Result.andThen];exact hK _ _ (h v w (by simpa using hown) (World.grownBy.refl _ _) (.inl rfl))
 ·obtain⟨y,rfl,hy,hc⟩:=h3 hn
  refine wpList_append_lies w hgd s x 27 ho _ 93 i0 _ 4 32 underlying27 hi hz0 hz1 hz2 rfl (by decide) v _ _ hs hown y _ c _ hx (jF ys) (Xh hc) ?_ (List.length_pos_iff.2 hn) (by unfold maxLen;omega) (by omega) hbase _ rfl ?_
  ·intro u hu
   obtain⟨k,-,hk⟩:=List.mem_flatMap.1 hu;simp[bM.cs] at hk;rcases hk with rfl|rfl|rfl|rfl<;>rfl
  ·intro g cap w' k1 k2 k3 _
   refine h _ w' ?_ k2 ?_
   ·unfold fB
    rw[aC,fM];exact k1
   ·rcases k3 with k3|k3
    ·exact .inl k3.symm
    ·exact .inr (by rw[k3];rfl)
theorem pW(v:Value)(xs:List Int)(w:World)(h:Ro w v xs)(hl:xs.length<=100000000):
  Calls prog 93 #[v] w λe w'=>∃u,e=.returned u/\Ow w' w.heap.size u xs/\Below w.heap.size w w':=by
 have H:=aj (h);clear h;go_enter func93,ntmps93;go_wp2_with (at_builtin;refine mG _ rfl _ _ rfl _ _ [] rfl (Ow.nil _ _) _ xs rfl H (by simpa using aJ hl (by decide)) aN ?_);intro u w1 o1 g1 _;have F:Hid (Ow w1 w.heap.size u xs/\Below w.heap.size w w1):=⟨o1,aB.grown g1 aN (λk hk=>by cases hk)⟩;clear o1 g1;go_wp2;go_ret;exact⟨_,rfl,F.1,F.2⟩
theorem L_(v:Value)(xs:List aI)(w:World)(h:oP w v xs)(hl:xs.length<=100000000):
  Calls prog 94 #[v] w λe w'=>∃u,e=.returned u/\fD w' w.heap.size u xs/\Below w.heap.size w w':=by
 have H:=aj (h);clear h;go_enter func94,ntmps94;go_wp2_with (at_builtin;refine JF _ rfl _ _ rfl _ _ [] rfl (fD.nil _ _) _ xs rfl H (by simpa using aJ hl (by decide)) aN ?_);intro u w1 o1 g1 _;have F:Hid (fD w1 w.heap.size u xs/\Below w.heap.size w w1):=⟨o1,aB.grown g1 aN (λk hk=>by cases hk)⟩;clear o1 g1;go_wp2;go_ret;exact⟨_,rfl,F.1,F.2⟩
theorem Mc(v:Value)(xs:List bM)(w:World)(h:VF w v xs)(hl:xs.length<=100000000):
  Calls prog 95 #[v] w λe w'=>∃u,e=.returned u/\fB w' w.heap.size u xs/\Below w.heap.size w w':=by
 have H:=aj (h);clear h;go_enter func95,ntmps95;go_wp2_with (at_builtin;refine Xi _ rfl _ _ rfl _ _ [] rfl (fB.nil _ _) _ xs rfl H (by simpa using aJ hl (by decide)) aN ?_);intro u w1 o1 g1 _;have F:Hid (fB w1 w.heap.size u xs/\Below w.heap.size w w1):=⟨o1,aB.grown g1 aN (λk hk=>by cases hk)⟩;clear o1 g1;go_wp2;go_ret;exact⟨_,rfl,F.1,F.2⟩
theorem jo(v:Value)(W:WV)(w:World)(h:Wl w v W)(hl:aa0 W):
  Calls prog 49 #[v] w λe w'=>∃u,e=.returned u/\Wi w' w.heap.size u W/\Below w.heap.size w w':=by
 have H:=aj (h);have L:=aj (hl);obtain⟨u1,u2,u3,u4,u5,rfl,-,-,-,-,-⟩:=h;clear hl;go_enter func49,ntmps49;go_upto_region 1 with fail
 have B0:Hid (Below w.heap.size w ((w.alloc (.cells #[int i64 W.turn,int i64 W.next,int i64 W.wide,int i64 W.high,u1,u2,u3,u4,u5] 29)).alloc (.cells #[int i64 0,int i64 0,int i64 0,int i64 0,slice none 0 0,slice none 0 0,slice none 0 0,slice none 0 0,slice none 0 0] 29))):=aA.alloc (by simp) _;have X0:Hid (Wx ((w.alloc (.cells #[int i64 W.turn,int i64 W.next,int i64 W.wide,int i64 W.high,u1,u2,u3,u4,u5] 29)).alloc (.cells #[int i64 0,int i64 0,int i64 0,int i64 0,slice none 0 0,slice none 0 0,slice none 0 0,slice none 0 0,slice none 0 0] 29)) w.heap.size (int i64 W.turn) (int i64 W.next) (int i64 W.wide) (int i64 W.high) u1 u2 u3 u4 u5):=(Wx.new (w:=w) _ _ _ _ _ _ _ _ _ rfl).below aA (by simp);have Z0:Hid (Wx ((w.alloc (.cells #[int i64 W.turn,int i64 W.next,int i64 W.wide,int i64 W.high,u1,u2,u3,u4,u5] 29)).alloc (.cells #[int i64 0,int i64 0,int i64 0,int i64 0,slice none 0 0,slice none 0 0,slice none 0 0,slice none 0 0,slice none 0 0] 29)) (w.heap.size+1) (int i64 0) (int i64 0) (int i64 0) (int i64 0) (slice none 0 0) (slice none 0 0) (slice none 0 0) (slice none 0 0) (slice none 0 0)):=Wx.new _ _ _ _ _ _ _ _ _ (by simp);have S0:Hid (w.heap.size+2<=((w.alloc (.cells #[int i64 W.turn,int i64 W.next,int i64 W.wide,int i64 W.high,u1,u2,u3,u4,u5] 29)).alloc (.cells #[int i64 0,int i64 0,int i64 0,int i64 0,slice none 0 0,slice none 0 0,slice none 0 0,slice none 0 0,slice none 0 0] 29)).heap.size):=by unfold Hid;simp
 generalize ((w.alloc _).alloc _)=w0 at *;have xx:=X0.cells;go_wp2_with fail
 refine(pW _ _ w0 ((H.below B0).slices.1) L.g).mono ?_;rintro e a1 ⟨v1,rfl,ho,hb⟩;clear xx;have BA:=aG B0 hb;have SA:=aj (aJ S0 hb.size);have XA:=aj (X0.below hb X0.lt);have ZA:=aj (Z0.below hb Z0.lt);have OA:=aj (ho.mono S0);obtain⟨p1,q1,rfl⟩:=ho.len;have t:=XA.thaw 4;obtain⟨-,-,-,-,x,-,-,-,-⟩:=XA.cells;clear hb ho;go_upto_region 2 with fail
 have KW:Hid (Kp _ a1 (a1.setCell ⟨w.heap.size,4,none⟩ (slice p1 W.gs.length q1))):=Kp.set _ _ _;have X1:Hid (Wx _ _ _ _ _ _ (slice p1 W.gs.length q1) u2 u3 u4 u5):=XA.Wq _;clear t x XA X0 Z0;generalize (a1.setCell _ _)=w1 at *;have B1:=aj (KW.below BA BA.size aN);have S1:=aj (aJ SA KW.size);have Z1:=aj (ZA.kp KW (by omega));have ZV:=aj (OA.kp KW (by omega));clear BA SA ZA OA KW;have xx:=X1.cells;go_wp2_with fail
 refine(pW _ _ w1 ((H.below B1).slices.2.1) L.o).mono ?_;rintro e a2 ⟨v2,rfl,ho,hb⟩;clear xx;have BA:=aG B1 hb;have SA:=aj (aJ S1 hb.size);have XA:=aj (X1.below hb X1.lt);have ZA:=aj (Z1.below hb Z1.lt);have OA:=aj (ho.mono S1);have PA1:=aj (ZV.below hb);have ab1:=aj (fK.of (λk hk=>(ZV.block k hk).2) (λk hk=>(ho.block k hk).1));obtain⟨p2,q2,rfl⟩:=ho.len;have t:=XA.thaw 5;obtain⟨-,-,-,-,-,x,-,-,-⟩:=XA.cells;clear hb ho ZV;go_upto_region 3 with fail
 have KW:Hid (Kp _ a2 (a2.setCell ⟨w.heap.size,5,none⟩ (slice p2 W.os.length q2))):=Kp.set _ _ _;have X2:Hid (Wx _ _ _ _ _ _ _ (slice p2 W.os.length q2) u3 u4 u5):=XA.Qp _;clear t x XA X1 Z1;generalize (a2.setCell _ _)=w2 at *;have B2:=aj (KW.below BA BA.size aN);have S2:=aj (aJ SA KW.size);have Z2:=aj (ZA.kp KW (by omega));have ZX:=aj (OA.kp KW (by omega));have ZY:=aj (PA1.kp KW (by omega));clear BA SA ZA OA KW PA1;have xx:=X2.cells;go_wp2_with fail
 refine(pW _ _ w2 ((H.below B2).slices.2.2.1) L.p).mono ?_;rintro e a3 ⟨v3,rfl,ho,hb⟩;clear xx;have BA:=aG B2 hb;have SA:=aj (aJ S2 hb.size);have XA:=aj (X2.below hb X2.lt);have ZA:=aj (Z2.below hb Z2.lt);have OA:=aj (ho.mono S2);have PA1:=aj (ZY.below hb);have PA2:=aj (ZX.below hb);have ab2:=aj (fK.of (λk hk=>(ZY.block k hk).2) (λk hk=>(ho.block k hk).1));have ab3:=aj (fK.of (λk hk=>(ZX.block k hk).2) (λk hk=>(ho.block k hk).1));obtain⟨p3,q3,rfl⟩:=ho.len;have t:=XA.thaw 6;obtain⟨-,-,-,-,-,-,x,-,-⟩:=XA.cells;clear hb ho ZY ZX;go_upto_region 4 with fail
 have KW:Hid (Kp _ a3 (a3.setCell ⟨w.heap.size,6,none⟩ (slice p3 W.gold.length q3))):=Kp.set _ _ _;have X3:Hid (Wx _ _ _ _ _ _ _ _ (slice p3 W.gold.length q3) u4 u5):=XA.Qq _;clear t x XA X2 Z2;generalize (a3.setCell _ _)=w3 at *;have B3:=aj (KW.below BA BA.size aN);have S3:=aj (aJ SA KW.size);have Z3:=aj (ZA.kp KW (by omega));have Z_:=aj (OA.kp KW (by omega));have aac:=aj (PA1.kp KW (by omega));have aad:=aj (PA2.kp KW (by omega));clear BA SA ZA OA KW PA1 PA2;have xx:=X3.cells;go_wp2_with fail
 refine(L_ _ _ w3 ((H.below B3).slices.2.2.2.1) L.u).mono ?_;rintro e a4 ⟨v4,rfl,ho,hb⟩;clear xx;have BA:=aG B3 hb;have SA:=aj (aJ S3 hb.size);have XA:=aj (X3.below hb X3.lt);have ZA:=aj (Z3.below hb Z3.lt);have OA:=aj (ho.mono S3);have PA1:=aj (aac.below hb);have PA2:=aj (aad.below hb);have PA3:=aj (Z_.below hb);have ab4:=aj (fK.of (λk hk=>(aac.block k hk).2) (λk hk=>(ho.block k hk).1));have ab5:=aj (fK.of (λk hk=>(aad.block k hk).2) (λk hk=>(ho.block k hk).1));have ab6:=aj (fK.of (λk hk=>(Z_.block k hk).2) (λk hk=>(ho.block k hk).1));obtain⟨p4,q4,rfl⟩:=ho.len;have t:=XA.thaw 7;obtain⟨-,-,-,-,-,-,-,x,-⟩:=XA.cells;clear hb ho aac aad Z_;go_upto_region 5 with fail
 have KW:Hid (Kp _ a4 (a4.setCell ⟨w.heap.size,7,none⟩ (slice p4 W.us.length q4))):=Kp.set _ _ _;have X4:Hid (Wx _ _ _ _ _ _ _ _ _ (slice p4 W.us.length q4) u5):=XA.Bj _;clear t x XA X3 Z3;generalize (a4.setCell _ _)=w4 at *;have B4:=aj (KW.below BA BA.size aN);have S4:=aj (aJ SA KW.size);have Z4:=aj (ZA.kp KW (by omega));have aae:=aj (OA.kp KW (by omega));have aaf:=aj (PA1.kp KW (by omega));have aag:=aj (PA2.kp KW (by omega));have aah:=aj (PA3.kp KW (by omega));clear BA SA ZA OA KW PA1 PA2 PA3;have xx:=X4.cells;go_wp2_with fail
 refine(Mc _ _ w4 ((H.below B4).slices.2.2.2.2) L.q).mono ?_;rintro e a5 ⟨v5,rfl,ho,hb⟩;clear xx;have BA:=aG B4 hb;have SA:=aj (aJ S4 hb.size);have XA:=aj (X4.below hb X4.lt);have ZA:=aj (Z4.below hb Z4.lt);have OA:=aj (ho.mono S4);have PA1:=aj (aaf.below hb);have PA2:=aj (aag.below hb);have PA3:=aj (aah.below hb);have PA4:=aj (aae.below hb);have ab7:=aj (fK.of (λk hk=>(aaf.block k hk).2) (λk hk=>(ho.block k hk).1));have ab8:=aj (fK.of (λk hk=>(aag.block k hk).2) (λk hk=>(ho.block k hk).1));have ab9:=aj (fK.of (λk hk=>(aah.block k hk).2) (λk hk=>(ho.block k hk).1));have acd:=aj (fK.of (λk hk=>(aae.block k hk).2) (λk hk=>(ho.block k hk).1));obtain⟨p5,q5,rfl⟩:=ho.len;have t:=XA.thaw 8;obtain⟨-,-,-,-,-,-,-,-,x⟩:=XA.cells;clear hb ho aaf aag aah aae;go_upto_region 6 with fail
 have KW:Hid (Kp _ a5 (a5.setCell ⟨w.heap.size,8,none⟩ (slice p5 W.qs.length q5))):=Kp.set _ _ _;have X5:Hid (Wx _ _ _ _ _ _ _ _ _ _ (slice p5 W.qs.length q5)):=XA.Lu _;clear t x XA X4 Z4;generalize (a5.setCell _ _)=w5 at *;have B5:=aj (KW.below BA BA.size aN);have S5:=aj (aJ SA KW.size);have Z5:=aj (ZA.kp KW (by omega));have ace:=aj (OA.kp KW (by omega));have acf:=aj (PA1.kp KW (by omega));have acg:=aj (PA2.kp KW (by omega));have ach:=aj (PA3.kp KW (by omega));have aci:=aj (PA4.kp KW (by omega));clear BA SA ZA OA KW PA1 PA2 PA3 PA4;have xx:=X5.cells;have zz:=Z5.cells;have tt:=Z5.cO;have KZ:=aj (dG w5 (w.heap.size+1) (int i64 W.turn) (int i64 W.next) (int i64 W.wide) (int i64 W.high) (slice p1 W.gs.length q1) (slice p2 W.os.length q2) (slice p3 W.gold.length q3) (slice p4 W.us.length q4) (slice p5 W.qs.length q5));have yy:=(Z5.put (int i64 W.turn) (int i64 W.next) (int i64 W.wide) (int i64 W.high) (slice p1 W.gs.length q1) (slice p2 W.os.length q2) (slice p3 W.gold.length q3) (slice p4 W.us.length q4) (slice p5 W.qs.length q5)).cells;go_wp2;clear xx zz tt;have s0:=S5.out;generalize World.setCell _ ⟨_,8,none⟩ _=w9 at *;refine bodyPost_ret (by simp[results,results49,go_sem,yy]) rfl ⟨_,rfl,⟨_,_,_,_,_,rfl,⟨(acf.kp KZ (by omega)).mono (by omega),(acg.kp KZ (by omega)).mono (by omega),(ach.kp KZ (by omega)).mono (by omega),(aci.kp KZ (by omega)).mono (by omega),(ace.kp KZ (by omega)).mono (by omega)⟩,ab1,ab2,ab4,ab7,ab3,ab5,ab8,ab6,ab9,acd⟩,KZ.below B5 B5.size (by omega)⟩
theorem ig.kp9{w':World}{base z:Nat}{v:Value}{ks:List dZ}(h:ig w base v ks)(k:Kp z w w')(hz:z<base):ig w' base v ks:=iR h k hz
def YR(ks:List KV)(Wn Hn:Nat)(X:WV):WV:=(br ks Wn Hn (tk ks X X.us.length).1 (tk ks X X.us.length).1.us.length).1
def Cm(ks:List KV)(Wn Hn:Nat)(X:WV):List dZ:=(tk ks X X.us.length).2++(br ks Wn Hn (tk ks X X.us.length).1 (tk ks X X.us.length).1.us.length).2
def Xj(ks:List KV)(X:WV)(w w':World)(v ev:Value):Prop:=
 (Wd.aP ks X≠0/\v=.agg #[int i64 0,int i64 0,int i64 0,int i64 0,slice none 0 0,slice none 0 0,slice none 0 0,slice none 0 0,slice none 0 0]/\ev=slice none 0 0)
 \/(Wd.aP ks X=0/\∃Wn Hn:Nat,X.wide=(Wn:Nat)/\X.high=(Hn:Nat)/\Fd.Good Wn Hn X.gs X.os/\Wo w' w.heap.size v (YR ks Wn Hn X)/\ig w' w.heap.size ev (Cm ks Wn Hn X))
theorem Xk(vk vw:Value)(ks:List KV)(X:WV)(w:World)(hk:Kl w vk ks)(hb:∀k∈ks,k.b.size<=9223372036854775807)(hw:Wl w vw X)(hs:Sd w):
  Calls prog 60 #[vk,vw] w λe w'=>∃v ev r,e=.returned (.tuple #[v,ev,r])/\Er r (Wd.aP ks X)/\Xj ks X w w' v ev/\Below w.heap.size w w':=by
 have K:Hid (Kl w vk ks/\∀k∈ks,k.b.size<=9223372036854775807):=⟨hk,hb⟩;have H:=aj (hw);have SD:=aj (hs);clear hs;obtain⟨p1,q1,p2,q2,p3,q3,p4,q4,p5,q5,rfl⟩:=aX hw;obtain⟨pk,qk,rfl,ck1,ck2,kc⟩:=hk;clear hb hw kc;go_enter func60,ntmps60;go_upto_region 1 with fail
 obtain⟨B0,X0,Z0⟩:=uD w (int i64 X.turn) (int i64 X.next) (int i64 X.wide) (int i64 X.high) (slice p1 X.gs.length q1) (slice p2 X.os.length q2) (slice p3 X.gold.length q3) (slice p4 X.us.length q4) (slice p5 X.qs.length q5);generalize ((w.alloc _).alloc _)=w0 at *;have xx:=X0.cells;go_wp2_with fail
 refine(gY _ _ ks X w0 (K.1.below B0) K.2 (H.below B0)).mono ?_;rintro e w1 ⟨r,rfl,hr,hb⟩;obtain⟨fw,hfw⟩:∃f,Wd.aP ks X=f:=⟨_,rfl⟩;have FW:=aj (hfw);rw[hfw] at hr;have B1:=aG B0 hb;have X1:=aj (X0.below hb X0.lt);have Z1:=aj (Z0.below hb Z0.lt);clear hb hfw xx X0 B0 Z0;rcases hr with⟨rfl,rfl⟩|⟨hf,rfl⟩
 case inr=>
  have HF:=aj (hf);clear hf;have zz:=Z1.cells;have tt:=Z1.cO;have KZ:=aj (fH w1 (w.heap.size+1));have yy:=(Z1.nJ).cells;go_wp2;clear zz tt;generalize World.setCell _ ⟨_,8,none⟩ _=w9 at *;refine bodyPost_ret (v:=.tuple #[.agg _,slice _ 0 0,.iface 85 (int i64 fw)]) (by simp[results,results60,go_sem,yy]) rfl ⟨_,_,_,rfl,by rw[FW.out];exact Er.no HF,.inl ⟨by rw[FW.out];exact HF,rfl,rfl⟩,KZ.below B1 B1.size (by omega)⟩
 have WR:=aj (bY FW);obtain⟨Wn,Hn,e1,e2,G⟩:=WR.good;have GD:=aj (fQ e1 e2 G);clear e1 e2 G;have xx:=X1.cells;go_wp2_with fail
 refine(jo _ X w1 (H.below B1) WR.len).mono ?_;rintro e w2 ⟨cu,rfl,⟨k1,k2,k3,k4,k5,rfl,⟨o1,o2,o3,o4,o5⟩,d12,d13,d14,d15,d23,d24,d25,d34,d35,d45⟩,hb⟩;obtain⟨a1,r1,rfl⟩:=o1.len;obtain⟨a2,r2,rfl⟩:=o2.len;obtain⟨a3,r3,rfl⟩:=o3.len;obtain⟨a4,r4,rfl⟩:=o4.len;obtain⟨a5,r5,rfl⟩:=o5.len;obtain⟨b1,hb1⟩:∃z,w1.heap.size=z:=⟨_,rfl⟩;rw[hb1] at o1 o2 o3 o4 o5;have BS:Hid (w.heap.size+1<b1/\b1<=w2.heap.size):=⟨by rw[<-hb1];exact Z1.lt,by rw[<-hb1];exact hb.size⟩;have X2:=aj (X1.below hb X1.lt);have Z2:=aj (Z1.below hb Z1.lt);have B2:=aG B1 hb;have O2:=aj (iJ o1 o2 o3 o4 o5);have DD:Hid ([slice a1 X.gs.length r1,slice a2 X.os.length r2,slice a3 X.gold.length r3,slice a4 X.us.length r4,slice a5 X.qs.length r5].Pairwise fK):=by
  unfold Hid;simp only[List.pairwise_cons,bP,List.not_mem_nil,or_false,forall_eq_or_imp,forall_eq,List.Pairwise.nil,and_true,false_imp_iff,implies_true];exact⟨⟨d12,d13,d14,d15⟩,⟨d23,d24,d25⟩,⟨d34,d35⟩,d45⟩
 clear hb hb1 xx o1 o2 o3 o4 o5 d12 d13 d14 d15 d23 d24 d25 d34 d35 d45 X1 Z1 B1;have zz:=X2.cells;have tt:=X2.cO;have KZ:=aj (dG w2 w.heap.size (int i64 X.turn) (int i64 X.next) (int i64 X.wide) (int i64 X.high) (slice a1 X.gs.length r1) (slice a2 X.os.length r2) (slice a3 X.gold.length r3) (slice a4 X.us.length r4) (slice a5 X.qs.length r5));have X3:=aj (X2.put (int i64 X.turn) (int i64 X.next) (int i64 X.wide) (int i64 X.high) (slice a1 X.gs.length r1) (slice a2 X.os.length r2) (slice a3 X.gold.length r3) (slice a4 X.us.length r4) (slice a5 X.qs.length r5));go_upto_region 5 with fail
 clear zz tt;generalize World.setCell _ ⟨_,8,none⟩ _=w3 at *;have Z3:=aj (Z2.kp KZ (by omega));have B3:=aj (KZ.below B2 B2.size aN);have O3:Hid (Ow w3 b1 (slice a1 X.gs.length r1) X.gs/\Ow w3 b1 (slice a2 X.os.length r2) X.os/\Ow w3 b1 (slice a3 X.gold.length r3) X.gold/\fD w3 b1 (slice a4 X.us.length r4) X.us/\fB w3 b1 (slice a5 X.qs.length r5) X.qs):=by
  have h:=BS.out.1;exact⟨O2.1.kp KZ (by omega),O2.2.1.kp KZ (by omega),O2.2.2.1.kp KZ (by omega),O2.2.2.2.1.kp KZ (by omega),O2.2.2.2.2.kp KZ (by omega)⟩
 obtain⟨b3,hb3⟩:∃z,w3.heap.size=z:=⟨_,rfl⟩;have S3:Hid (b1<=b3/\w3.heap.size=b3):=⟨by rw[<-hb3];exact aJ BS.2 KZ.size,hb3⟩;have L3:Hid (Wl w3 (.agg #[int i64 X.turn,int i64 X.next,int i64 X.wide,int i64 X.high,slice a1 X.gs.length r1,slice a2 X.os.length r2,slice a3 X.gold.length r3,slice a4 X.us.length r4,slice a5 X.qs.length r5]) X):=⟨(slice a1 X.gs.length r1),(slice a2 X.os.length r2),(slice a3 X.gold.length r3),(slice a4 X.us.length r4),(slice a5 X.qs.length r5),rfl,O3.1.ro,O3.2.1.ro,O3.2.2.1.ro,O3.2.2.2.1.l,O3.2.2.2.2.l⟩;clear hb3 KZ X2 Z2 B2 O2;have xx:=X3.cells;go_wp2_with fail
 refine(take_any _ ks X _ _ _ _ _ b1 w w3 K.1 B3 (by have:=BS.out.1;omega) O3.1 O3.2.1 O3.2.2.1 O3.2.2.2.1 O3.2.2.2.2 DD WR.abd).mono ?_;rintro e w4 ⟨ev,rfl,ht⟩;obtain⟨Z,hZ⟩:∃Z,(tk ks X X.us.length).1=Z:=⟨_,rfl⟩;obtain⟨es,hE⟩:∃es,(tk ks X X.us.length).2=es:=⟨_,rfl⟩;have HZ:Hid ((tk ks X X.us.length).1=Z/\(tk ks X X.us.length).2=es):=⟨hZ,hE⟩;have EL:Hid (es.length<=40):=by have h9:=zA (ks:=ks) (Y:=X) X.us.length;rw[hE] at h9;have:=WR.ul;unfold Hid;omega
 rw[hZ,hE] at ht;have T4:=aj (ht);clear ht hZ hE;have LB:Hid (w.heap.size+1<b1/\b1<=w3.heap.size):=⟨BS.1,by have:=S3.out;omega⟩;have N4:Hid (∀k,k<b1->¬((slice a2 X.os.length r2).ownBlock=some k\/(slice a4 X.us.length r4).ownBlock=some k)):=λk hk h=>by
  rcases h with h|h
  ·have:=(O3.2.1.block k h).1;omega
  ·have:=(O3.2.2.2.1.block k h).1;omega
 have B34:=aj (T4.fr.low LB.2 (λk hk=>by
  rcases Nat.lt_or_ge k b1 with h|h
  ·exact absurd hk (N4 k h)
  ·exact h))
 have B4:=aj (B3.trans (B34.mono (by have:=LB.out;omega)));have X4:=aj (X3.below B34 (by have:=LB.out;omega));have Z4:=aj (Z3.below B34 (by have:=LB.out;omega));clear xx;go_upto_region 6 with fail
 have D5:Hid (Below w4.heap.size w4 {w4 with drawn:=w4.drawn+1}):=aB.drew;have CV:Hid (∀V,Below b1 w4 V->Wx V w.heap.size (int i64 X.turn) (int i64 X.next) (int i64 X.wide) (int i64 X.high) (slice a1 X.gs.length r1) (slice a2 X.os.length r2) (slice a3 X.gold.length r3) (slice a4 X.us.length r4) (slice a5 X.qs.length r5)/\Wx V (w.heap.size+1) (int i64 0) (int i64 0) (int i64 0) (int i64 0) (slice none 0 0) (slice none 0 0) (slice none 0 0) (slice none 0 0) (slice none 0 0)):=λV hV=>⟨X4.below hV (by have:=LB.out;omega),Z4.below hV (by have:=LB.out;omega)⟩
 have S4:=aj (aJ LB.2 T4.fr.size);refine aV [(true,0),(true,1),(true,2),(true,3),(false,4),(false,5)] [(false,6),(false,7),(false,8)] (λV=>Wx V w.heap.size (int i64 X.turn) (int i64 X.next) (int i64 X.wide) (int i64 X.high) (slice a1 X.gs.length r1) (slice a2 X.os.length r2) (slice a3 X.gold.length r3) (slice a4 X.us.length r4) (slice a5 X.qs.length r5)/\Wx V (w.heap.size+1) (int i64 0) (int i64 0) (int i64 0) (int i64 0) (slice none 0 0) (slice none 0 0) (slice none 0 0) (slice none 0 0) (slice none 0 0)) (by kernel_rfl) (by kernel_rfl) (by kernel_rfl) (by decide+kernel) (by decide+kernel) (CV _ (D5.mono S4)) ?_;generalize ({w4 with drawn:=w4.drawn+1}:World)=w5 at *;refine au rfl (.agg #[int i64 X.turn,int i64 X.next,int i64 X.wide,int i64 X.high,slice a1 X.gs.length r1,slice a2 X.os.length r2,slice a3 X.gold.length r3,slice a4 X.us.length r4,slice a5 X.qs.length r5]) (by go_simp) (λV hV=>by have xx:=hV.1.cells;go_simp) ?_;go_simp;refine au rfl (ev) (by go_simp) (λV hV=>by go_simp) ?_;go_simp;refine au rfl (slice pk ks.length qk) (by go_simp) (λV hV=>by go_simp) ?_;go_simp;refine au rfl (.agg #[int i64 X.turn,int i64 X.next,int i64 X.wide,int i64 X.high,slice a1 X.gs.length r1,slice a2 X.os.length r2,slice a3 X.gold.length r3,slice a4 X.us.length r4,slice a5 X.qs.length r5]) (by go_simp) (λV hV=>by have xx:=hV.1.cells;go_simp) ?_;go_simp;refine dH rfl 109 #[slice pk ks.length qk,.agg #[int i64 X.turn,int i64 X.next,int i64 X.wide,int i64 X.high,slice a1 X.gs.length r1,slice a2 X.os.length r2,slice a3 X.gold.length r3,slice a4 X.us.length r4,slice a5 X.qs.length r5]] (by go_simp) (by go_simp) ?_;have T5:=aj (T4.below D5);have B5:=aG B4 D5;have G5:Hid (Z.wide=(Wn:Nat)/\Z.high=(Hn:Nat)/\Fd.Good Wn Hn Z.gs Z.os):=by
  obtain⟨W',H',e1,e2,G⟩:=T5.f.wide;have k:=T5.k;have f1:=GD.out.1;have f2:=GD.out.2.1;rw[k.2.2.1,f1] at e1;rw[k.2.2.2.1,f2] at e2;have g1:Wn=W':=by omega
  have g2:Hn=H':=by omega
  subst g1 g2;exact⟨by rw[k.2.2.1,f1],by rw[k.2.2.2.1,f2],G⟩
 have BA:=LZ (slice pk ks.length qk) ks Z (slice a1 X.gs.length r1) (slice a2 X.os.length r2) (slice a3 X.gold.length r3) (slice a4 X.us.length r4) (slice a5 X.qs.length r5) b1 w w5 K.1 B5 (by have:=LB.out;omega) T5.o1 T5.o2 T5.o3 T5.o4 T5.o5 T5.d T5.f Wn Hn G5.1 G5.2.1 G5.2.2 SD;rw[T5.out.k.1,T5.out.k.2.1,T5.out.k.2.2.1,T5.out.k.2.2.2.1] at BA;refine Calls.mono BA ?_;clear BA;rintro e w6 ⟨ev2,rfl,hb⟩;obtain⟨Q,hQ⟩:∃Q,(br ks Wn Hn Z Z.us.length).1=Q:=⟨_,rfl⟩;obtain⟨fs,hF⟩:∃fs,(br ks Wn Hn Z Z.us.length).2=fs:=⟨_,rfl⟩;have HQ:=aj (dJ hQ hF);have FL:Hid (fs.length<=40):=by have h9:=zF (ks:=ks) (Wn:=Wn) (Hn:=Hn) (Y:=Z) Z.us.length;rw[hF] at h9;have:=T5.f.ul;unfold Hid;omega
 rw[hQ,hF] at hb;have R6:=aj (hb);clear hb hQ hF;have L34:Hid (∀k,((slice a3 X.gold.length r3).ownBlock=some k\/(slice a4 X.us.length r4).ownBlock=some k)->b1<=k/\k<w3.heap.size):=λk h=>by
  rcases h with h|h
  ·exact O3.2.2.1.block k h
  ·exact O3.2.2.2.1.block k h
 have B56:=aj (R6.fr.low (aJ S4 D5.size) (λk hk=>(L34 k hk).1));have B46:=aj ((D5.mono S4).trans B56);refine⟨_,rfl,CV _ B46,?_⟩;go_simp;have E6:Hid (ig w6 w3.heap.size ev es):=R6.fr.own T5.e (λb hb h=>by have h1:=(T5.e.block b hb).1;have h2:=(L34 b h).2;omega);have S6:=aj (aJ T4.fr.size (aJ D5.size R6.fr.size));obtain⟨v',w7,hr,ho7,hg7⟩:=JK w6 58 w3.heap.size ev es E6 ev2 fs R6.e.l (by have:=EL.out;have:=FL.out;omega) S6;have BG:=aj (aB.grown hg7 (aJ LB.2 S6) (λk hk=>aJ LB.2 (E6.block k hk).1));have B47:=aj (B46.trans BG);have E7:=aj (ho7);have N7:Hid (∀x∈[slice a1 X.gs.length r1,slice a2 X.os.length r2,slice a3 X.gold.length r3,slice a4 X.us.length r4,slice a5 X.qs.length r5],∀k,x.ownBlock=some k->¬ev.ownBlock=some k):=λx hx k hk h=>by
  have h1:=(E6.block k h).1;simp only[bP,List.not_mem_nil,or_false] at hx;rcases hx with rfl|rfl|rfl|rfl|rfl
  ·have:=(O3.1.block k hk).2;omega
  ·have:=(O3.2.1.block k hk).2;omega
  ·have:=(O3.2.2.1.block k hk).2;omega
  ·have:=(O3.2.2.2.1.block k hk).2;omega
  ·have:=(O3.2.2.2.2.block k hk).2;omega
 have O7:Hid (Ow w7 b1 (slice a1 X.gs.length r1) Q.gs/\Ow w7 b1 (slice a2 X.os.length r2) Q.os/\Ow w7 b1 (slice a3 X.gold.length r3) Q.gold/\fD w7 b1 (slice a4 X.us.length r4) Q.us/\fB w7 b1 (slice a5 X.qs.length r5) Q.qs):=
  ⟨bJ R6.o1 hg7 (N7 _ (by simp)),bJ R6.o2 hg7 (N7 _ (by simp)),bJ R6.o3 hg7 (N7 _ (by simp)),bJ R6.o4 hg7 (N7 _ (by simp)),bJ R6.o5 hg7 (N7 _ (by simp))⟩
 refine fF rfl v' w7 (by go_simp) (jO _ _ _ _ rfl _ _ (by go_simp) (by go_simp) hr) (CV _ B47) ?_;clear hr ho7 hg7;go_simp;unfold dw;obtain⟨X7,Z7⟩:=CV _ B47;have B7:=aj (B4.trans (B47.mono (by have:=LB.out;omega)));have zz:=Z7.cells;have tt:=Z7.cO;have KZ:=aj (dG w7 (w.heap.size+1) (int i64 X.turn) (int i64 X.next) (int i64 X.wide) (int i64 X.high) (slice a1 X.gs.length r1) (slice a2 X.os.length r2) (slice a3 X.gold.length r3) (slice a4 X.us.length r4) (slice a5 X.qs.length r5));have yy:=(Z7.put (int i64 X.turn) (int i64 X.next) (int i64 X.wide) (int i64 X.high) (slice a1 X.gs.length r1) (slice a2 X.os.length r2) (slice a3 X.gold.length r3) (slice a4 X.us.length r4) (slice a5 X.qs.length r5)).cells;refine iH rfl (((((((((w7.setCell ⟨w.heap.size+1,0,none⟩ (int i64 X.turn)).setCell ⟨w.heap.size+1,1,none⟩ (int i64 X.next)).setCell ⟨w.heap.size+1,2,none⟩ (int i64 X.wide)).setCell ⟨w.heap.size+1,3,none⟩ (int i64 X.high)).setCell ⟨w.heap.size+1,4,none⟩ (slice a1 X.gs.length r1)).setCell ⟨w.heap.size+1,5,none⟩ (slice a2 X.os.length r2)).setCell ⟨w.heap.size+1,6,none⟩ (slice a3 X.gold.length r3)).setCell ⟨w.heap.size+1,7,none⟩ (slice a4 X.us.length r4)).setCell ⟨w.heap.size+1,8,none⟩ (slice a5 X.qs.length r5)) (by go_simp) (by go_simp) trivial ?_;clear zz tt;generalize World.setCell _ ⟨_,8,none⟩ _=w8 at *;go_simp;refine aW rfl v' w8 (by go_simp) (by go_simp) trivial ?_;go_simp;refine aW rfl .nilIface w8 (by go_simp) (by go_simp) trivial ?_;go_simp;unfold bC;go_wp2;have QK:Hid (Q.turn=X.turn/\Q.next=X.next/\Q.wide=X.wide/\Q.high=X.high):=by
  obtain⟨a1,a2,a3,a4,-⟩:=R6.k;obtain⟨c1,c2,c3,c4,-⟩:=T5.k;exact⟨by rw[a1,c1],by rw[a2,c2],by rw[a3,c3],by rw[a4,c4]⟩
 refine bodyPost_ret (v:=.tuple #[.agg #[int i64 X.turn,int i64 X.next,int i64 X.wide,int i64 X.high,slice a1 X.gs.length r1,slice a2 X.os.length r2,slice a3 X.gold.length r3,slice a4 X.us.length r4,slice a5 X.qs.length r5],v',.nilIface]) (by simp[results,results60,go_sem,yy]) rfl ⟨_,_,_,rfl,by rw[FW.out];exact Er.nil,.inr ⟨FW,Wn,Hn,GD.1,GD.2.1,GD.2.2,?_,?_⟩,KZ.below B7 B7.size (by omega)⟩
 ·have e:YR ks Wn Hn X=Q:=by unfold YR;rw[HZ.out.1,HQ.out.1]
  rw[e];have h:=LB.out;refine⟨_,_,_,_,_,by rw[QK.out.1,QK.out.2.1,QK.out.2.2.1,QK.out.2.2.2],(O7.1.kp KZ (by omega)).mono (by omega),(O7.2.1.kp KZ (by omega)).mono (by omega),(O7.2.2.1.kp KZ (by omega)).mono (by omega),(O7.2.2.2.1.kp KZ (by omega)).mono (by omega),(O7.2.2.2.2.kp KZ (by omega)).mono (by omega)⟩
 ·have e:Cm ks Wn Hn X=es++fs:=by unfold Cm;rw[HZ.out.1,HZ.out.2,HQ.out.2]
  rw[e];have h:=LB.out;exact(E7.kp9 KZ (by omega)).mono (by omega)
end
section
variable {X:WV} {i:Nat} {ks:List KV} {l m:List aI} {u:aI}
def qK(u:aI):aI:=lV u 0
theorem JM(h:l[i]? =some u)(n:Int):(l.set i (lV u n)).map qK=l.map qK:=by
 apply List.ext_getElem?;intro j;rw[fG,fG,kJ];split
 ·rename_i e
  subst e;split
  ·rw[h];rfl
  ·rename_i h2
   rw[List.getElem?_eq_none (by omega)]
 ·rfl
theorem Rw{ks:List KV}{Y:WV}:∀q,(tk ks Y q).1.us.map qK=Y.us.map qK
 |0=>rfl
 |q+1=>by
  have ih:=Rw (ks:=ks) (Y:=Y) q;cases hu:(tk ks Y q).1.us[q]? with
  |none=>rw[tk];simp only[hu];exact ih
  |some u=>
   by_cases h:0<dR ks (tk ks Y q).1 u
   ·rw[uQ hu h]
    show((tk ks Y q).1.us.set q (lV u _)).map qK=_;rw[JM hu,ih]
   ·rw[Ci hu h];exact ih
theorem JO{ks:List KV}{Wn Hn:Nat}{Y:WV}(hf:mQ ks Y):∀q,BrK Y (br ks Wn Hn Y q).1/\mQ ks (br ks Wn Hn Y q).1/\(br ks Wn Hn Y q).1.us.map qK=Y.us.map qK
 |0=>⟨⟨rfl,rfl,rfl,rfl,rfl,rfl,rfl,rfl,rfl⟩,hf,rfl⟩
 |q+1=>by
  obtain⟨ih,i2,i3⟩:=JO (Wn:=Wn) (Hn:=Hn) hf q;cases hu:(br ks Wn Hn Y q).1.us[q]? with
  |none=>rw[br];simp only[hu];exact⟨ih,i2,i3⟩
  |some u=>
   cases h:brings ks Wn Hn (br ks Wn Hn Y q).1 u with
   |true=>
    rw[Gj hu h];obtain⟨a1,a2,a3,a4,a5,a6,a7,a8,a9⟩:=ih;refine⟨⟨a1,a2,a3,a4,a5,a6,a7,by simpa[iw] using a8,by simpa[iw] using a9⟩,i2.bring hu,?_⟩;show((br ks Wn Hn Y q).1.us.set q (lV u 0)).map qK=_;rw[JM hu,i3]
   |false=>rw[JJ hu h];exact⟨ih,i2,i3⟩
theorem Gn(h:l.map qK=m.map qK)(hu:l[i]? =some u):∃v,m[i]? =some v/\qK u=qK v:=by
 have:(l.map qK)[i]? =some (qK u):=by rw[fG,hu];rfl
 rw[h,fG] at this;cases hv:m[i]? with
 |none=>rw[hv] at this;cases this
 |some v=>
  rw[hv] at this;injection this with this
  exact⟨v,rfl,this.symm⟩
theorem vC{v:aI}(h:qK u=qK v):u.id=v.id/\u.ay=v.ay/\u.kind=v.kind/\u.at_=v.at_/\u.life=v.life/\u.task=v.task/\u.goal=v.goal:=by
 unfold qK lV at h;injection h with h1 h2 h3 h4 h5 h6 h7 h8
 exact⟨h1,h2,h3,h4,h5,h7,h8⟩
theorem Rx(h:l.map qK=m.map qK)(i:Nat):(l.take i).map qK=(m.take i).map qK:=by rw[List.map_take,List.map_take,h]
theorem Ry(h:l.map qK=m.map qK)(n:Int):(l.find? (λu=>u.id==n)).map qK=(m.find? (λu=>u.id==n)).map qK:=by
 induction l generalizing m with
 |nil=>
  cases m with
  |nil=>rfl
  |cons _ _=>simp at h
 |cons u l ih=>
  cases m with
  |nil=>simp at h
  |cons v m=>
   rw[List.map_cons,List.map_cons] at h;injection h with h1 h2
   have e:=(vC h1).1;rw[List.find?_cons,List.find?_cons,e];cases hh:(v.id==n) with
   |true=>simp[h1]
   |false=>exact ih h2
theorem Md{Z:WV}(h:bH ks X)(f:mQ ks Z)(k1:Z.turn=X.turn)(k2:Z.next=X.next)(k3:Z.wide=X.wide)(k4:Z.high=X.high)(k5:Z.gs=X.gs)(k6:Z.qs=X.qs)(k7:Z.gold.length=X.gold.length)(e:Z.us.map qK=X.us.map qK):Wd.aP ks Z=0:=by
 have hl:Z.us.length=X.us.length:=by have:=congrArg List.length e;simpa using this
 refine Wd.fZ h.kinds ?_ ?_ (by rw[hl];exact h.ul) ?_ (by rw[k6];exact h.ql) ?_
 ·obtain⟨Wn,Hn,e1,e2,G⟩:=f.wide
  rw[e1,e2];exact Fd.eU G
 ·have hn:=h.nums
  unfold Wd.b_ at hn ⊢;rw[k1,k2,k7];simp only[Bool.or_eq_false_iff] at hn ⊢;refine⟨hn.1,hn.2.1,hn.2.2.1,?_⟩;rw[bK];intro g hg;have:=f.gold g hg;unfold Wd.off;simp;omega
 ·intro i u hu
  obtain⟨v,hv,ev⟩:=Gn e hu;obtain⟨q1,q2,q3,q4,q5,q6,q7⟩:=vC ev;obtain⟨k,F⟩:=h.fine hv;obtain⟨⟨kn,k',e1,e2,l1,l2,l3⟩,-⟩:=f.units u (aT hu);have ek:k'=k:=by
   have h9:=F.kk;rw[<-q3,e1,bF,e2] at h9;injection h9
  subst ek;refine⟨k',by rw[q1];exact F.id1,by rw[q1,k2];exact F.id2,?_,by rw[q2,k7];exact F.p,by rw[q3];exact F.k0,by rw[q3];exact F.kk,by rw[q5];exact F.life,⟨l1,l2⟩,by rw[q6];exact F.task,by rw[q4,k5];exact F.at_,by rw[q7,k5];exact F.goal,?_,by rw[q6,q7];exact F.rest⟩
  ·have hup:=F.up
   cases i with
   |zero=>rfl
   |succ i=>
    have hil:i<Z.us.length:=by have:=(aK.1 hu).1;omega
    obtain⟨p,hp⟩:∃p,Z.us[i]? =some p:=⟨_,aH hil⟩;obtain⟨p',hp',ep⟩:=Gn e hp;simp only[Wd.dF,hp',decide_eq_false_iff_not] at hup;simp only[Wd.dF,hp,decide_eq_false_iff_not];rw[q1,(vC ep).1];exact hup
  ·have ho:=F.opn
   unfold Wd.open_ at ho ⊢;rw[Bool.and_eq_true] at ho ⊢;refine⟨by rw[q4,k5];exact ho.1,?_⟩;have h1:=ho.2;rw[Bool.not_eq_true',bK] at h1 ⊢;intro p hp;obtain⟨i',hi'⟩:=List.mem_iff_getElem?.1 hp;obtain⟨p',hp',ep⟩:=Gn (Rx e i) hi';rw[(vC ep).2.2.2.1,q4];exact h1 p' (aT hp')
 ·intro j hj
  rw[k6] at hj;have h1:=h.job hj;unfold Wd.aY at h1 ⊢;have h2:=Ry e j.unit;cases hz:Z.us.find? (λu=>u.id==j.unit) with
  |none=>
   rw[hz] at h2;cases hx:X.us.find? (λu=>u.id==j.unit) with
   |none=>rw[hx] at h1;exact h1
   |some v=>rw[hx] at h2;cases h2
  |some u=>
   rw[hz] at h2;cases hx:X.us.find? (λu=>u.id==j.unit) with
   |none=>rw[hx] at h2;cases h2
   |some v=>
    rw[hx] at h2 h1;injection h2 with h2
    obtain⟨-,q2,q3,-⟩:=vC h2;simp only at h1 ⊢;rw[q2,q3];exact h1
theorem CG{Wn Hn:Nat}(h:bH ks X):let Z:=(tk ks X X.us.length).1;let Q:=(br ks Wn Hn Z Z.us.length).1;Wd.aP ks Q=0/\Q.turn=X.turn/\Q.next=X.next/\Q.wide=X.wide/\Q.high=X.high/\Q.gs=X.gs/\Q.qs=X.qs/\Q.gold.length=X.gold.length/\Q.us.length=X.us.length/\Q.os.length=X.os.length/\Q.us.map qK=X.us.map qK:=by
 intro Z Q;obtain⟨a1,a2,a3,a4,a5,a6,a7,a8,a9⟩:=zy (ks:=ks) (Y:=X) X.us.length;obtain⟨⟨b1,b2,b3,b4,b5,b6,b7,b8,b9⟩,f,e⟩:=JO (Wn:=Wn) (Hn:=Hn) (Rf h.abd X.us.length) Z.us.length;have eX:Q.us.map _=X.us.map _:=e.trans (Rw _);have g:Q.gold.length=X.gold.length:=by rw[b9,a6]
 refine⟨Md h f (b1.trans a1) (b2.trans a2) (b3.trans a3) (b4.trans a4) (b5.trans a5) (b7.trans a7) g eX,b1.trans a1,b2.trans a2,b3.trans a3,b4.trans a4,b5.trans a5,b7.trans a7,g,b8.trans a8,by rw[b6];exact a9,eX⟩
open Go.RowKit Wy
theorem JQ(v:Value)(W H:Nat)(gs os:List Int)(a:Nat)(fl:Bool)(w:World)(h:Fl w v W H gs os)(hs:Sd w)(G:Fd.Good W H gs os)(ha:a<W*H):
  Calls prog 260 #[v,int i64 (a:Nat),.bool fl] w λe w'=>∃b l,e=.returned (.tuple #[slice (some ⟨b,0,none⟩) (W*H) (W*H),.nilIface])/\w.heap.size<=b/\Ro w' (slice (some ⟨b,0,none⟩) (W*H) (W*H)) l/\(dK (Fd.near W H) (λi _=>(gs.map λg=>Fd.onto g fl).getD i 0) a (W*H) l/\Flat l)/\Below w.heap.size w w':=by
 have F0:=aj (h);have S0:=aj (hs);have G0:=aj (G);have A0:=aj (ha);obtain⟨u1,u2,rfl,⟨a1,c,rfl,c1,c2,ca⟩,⟨b1,d,rfl,d1,d2,cb⟩⟩:=h;obtain⟨ss,hss⟩:∃ss,(gs.map λg=>Fd.onto g fl)=ss:=⟨_,rfl⟩;have Px:=aj (hss);have E0:Hid (Even (Fd.near W H) (λi _=>ss.getD i 0) (W*H)):=by rw[<-hss];exact xU G.w1 gs fl
 rw[hss];clear ca cb hs G ha hss;go_enter func260,ntmps260;go_wp2_with fail
 have b0:Below w.heap.size w ((w.alloc (cells #[int i64 W,int i64 H,slice a1 gs.length c,slice b1 os.length d] 25)).alloc (cells #[int i64 (a:Nat)] 3)):=aA.alloc (by simp) _;refine(look_ok _ _ W H gs os _ fl _ (F0.below b0) G0 (S0.below b0) (Ro.EX _ (by simp)) (by have:=A0.out;simp;omega)).mono ?_;rintro e w1 ⟨⟨v1,rfl,hL⟩,hb⟩;rw[Px.out] at hL;have B1:=aj (b0.trans (hb.mono (by simp;omega)));have L1:=aj (hL);obtain⟨p1,p2,rfl,⟨x1,k1,rfl,-⟩,⟨x2,k2,rfl,-⟩,-⟩:=hL;clear hb b0;go_wp2_with fail
 have b2:Below _ w1 (w1.alloc (cells #[slice (some x1) (W*H) k1,slice x2 ss.length k2] 296)):=aA;refine(uN _ _ a _ ss _ (L1.below b2) E0 A0 G0.pos.2 (Fd.uM W H)).mono ?_;rintro e w2 ⟨b,l,rfl,hbz,hbk,hf,hb⟩;have BZ:=aj (aJ (aJ B1.size b2.size) hbz);have P:Hid (Ro w2 (slice (some ⟨b,0,none⟩) (W*H) (W*H)) l/\(dK (Fd.near W H) (λi _=>ss.getD i 0) a (W*H) l/\Flat l)/\Below w.heap.size w w2):=by
  refine⟨?_,hf,(B1.trans (b2.mono B1.size)).trans (hb.mono (aJ B1.size b2.size))⟩;have:=hbk.ro (c:=W*H) (by rw[hf.1.1];exact aU _) (by have:=G0.pos.2;omega);rw[hf.1.1] at this;exact this
 clear hbz hbk hf hb b2;go_wp2;go_ret2;exact⟨b,l,rfl,BZ,P.1,P.2.1,P.2.2⟩
end
section
open Go.RowKit
variable {A i j:Nat} {L ks:List aI} {W w:World} {a:Act} {o oA:Oper} {y:aI}
theorem wV(w:World)(g m n c:Nat)(ks:List aI)(rest:List Value)(hg:Ub w g ks rest)(hn:0<n)(hm:m+n=ks.length):
  ∃w',(∀ty,(Builtin.clear_ #[26] ty #[slice (some ⟨g,m*8,none⟩) n c]).run prog w=.ok (.tuple #[]) w')/\Ub w' g (ks.take m++List.replicate n (⟨0,0,0,0,0,0,0,0⟩:aI)) rest/\Below g w w'/\w'.heap.size=w.heap.size/\Kp g w w':=by
 have hzv:∀w,(zeroValue 74).run prog w=.ok (.agg #[int i64 0,int i64 0,int i64 0,int i64 0,int i64 0,int i64 0,int i64 0,int i64 0]) w:=λw=>by kernel_rfl
 have hzc:(Builtin.zeroCells (Value.agg #[int i64 0,int i64 0,int i64 0,int i64 0,int i64 0,int i64 0,int i64 0,int i64 0]).cells n).toList=(List.replicate n (⟨0,0,0,0,0,0,0,0⟩:aI)).flatMap aI.cs:=by
  have hz8:(Value.agg #[int i64 0,int i64 0,int i64 0,int i64 0,int i64 0,int i64 0,int i64 0,int i64 0]).cells= #[int i64 0,int i64 0,int i64 0,int i64 0,int i64 0,int i64 0,int i64 0,int i64 0]:=by rfl
  rw[hz8];unfold Builtin.zeroCells;apply List.ext_getElem?;intro i;by_cases hi:i<n*8
  ·have e1:(List.replicate n (⟨0,0,0,0,0,0,0,0⟩:aI))[i/8]? =some ⟨0,0,0,0,0,0,0,0⟩:=by
    rw[oZ,if_pos (by omega)]
   have e2:=qA _ (i/8) (i%8) _ e1 (Nat.mod_lt _ (by decide));rw[show i/8*8+i%8=i by omega] at e2;rw[e2];have h8:i%8<8:=Nat.mod_lt _ (by decide);simp[aI.cs,hi];generalize i%8=r at *
   match r,h8 with
   |0,_=>rfl
   |1,_=>rfl
   |2,_=>rfl
   |3,_=>rfl
   |4,_=>rfl
   |5,_=>rfl
   |6,_=>rfl
   |7,_=>rfl
  ·rw[List.getElem?_eq_none (by simp;omega),List.getElem?_eq_none (by rw[jE,jB];omega)]
 obtain⟨vs,hvs⟩:∃vs,(List.replicate n (⟨0,0,0,0,0,0,0,0⟩:aI)).flatMap aI.cs=vs:=⟨_,rfl⟩;have hvl:vs.length=n*8:=by rw[<-hvs,jE,jB]
 have h1c:∀v∈vs,v.oneCell'=true:=by
  intro v hv;rw[<-hvs] at hv;obtain⟨k,-,hk⟩:=List.mem_flatMap.1 hv;simp[aI.cs] at hk;rcases hk with rfl|rfl|rfl|rfl|rfl|rfl|rfl|rfl<;>rfl
 have hst:=run_storeCells_at (P:=prog) g (m*8) 74 vs 0 _ w hg (by simp only[List.size_toArray,aC,jE,hvl];omega) h1c;have hml:(ks.take m).length=m:=by rw[dP];omega
 have hL:(ks.flatMap aI.cs++rest).toArray.toList.take (m*8+0)++vs++(ks.flatMap aI.cs++rest).toArray.toList.drop (m*8+0+vs.length)=(ks.take m++List.replicate n (⟨0,0,0,0,0,0,0,0⟩:aI)).flatMap aI.cs++rest:=by
  have e1:(ks.flatMap aI.cs++rest).take (m*8)=(ks.take m).flatMap aI.cs:=by
   conv=>lhs;rw[<-List.take_append_drop m ks,fM,bT]
   rw[List.take_left' (by rw[jE,hml])]
  have e2:(ks.flatMap aI.cs++rest).drop (m*8+vs.length)=rest:=by
   rw[List.drop_left' (by rw[jE,hvl];omega)]
  show(ks.flatMap aI.cs++rest).take (m*8)++vs++(ks.flatMap aI.cs++rest).drop (m*8+vs.length)=_;rw[e1,e2,fM,hvs]
 rw[hL] at hst;refine⟨w.setRow g ((ks.take m++List.replicate n (⟨0,0,0,0,0,0,0,0⟩:aI)).flatMap aI.cs++rest).toArray,λty=>?_,?_,?_,?_,?_⟩
 ·obtain⟨n',rfl⟩:∃n',n=n'+1:=⟨n-1,by omega⟩
  simp only[hvs] at hzc;simp[Builtin.clear_,run_underlying underlying26,hzv,hzc,hst]
 ·exact setRow_heap w g _ _ _ _ hg
 ·exact⟨rfl,rfl,rfl,by simp,λk hk=>setRow_other _ _ _ _ (by omega)⟩
 ·simp
 ·exact⟨rfl,rfl,rfl,by simp,λk hk hn=>setRow_other _ _ _ _ (by omega)⟩
theorem Rz{p:aI->Bool}(h:L.take i=(ks.take j).filter (λk=> !p k))(hd:L.drop j=ks.drop j)(hij:i<j)(hl:L.length=ks.length)(hy:ks[j]? =some y)(hp:p y=false):
  (L.set i y).take (i+1)=(ks.take (j+1)).filter (λk=> !p k)/\(L.set i y).drop (j+1)=ks.drop (j+1):=by
 have hj:=(aK.1 hy).1;have hi:i<L.length:=by omega
 constructor
 ·rw[dM (by simpa using hi),List.take_set_of_le aN,List.getElem_set_self,h]
  have:(ks.take (j+1))=ks.take j++[y]:=by
   rw[dM hj];rw[(aK.1 hy).2]
  rw[this,List.filter_append];simp[hp]
 ·rw[List.drop_set_of_lt (by omega)]
  have h1:L.drop (j+1)=(L.drop j).drop 1:=by rw[List.drop_drop]
  rw[h1,hd,List.drop_drop]
theorem CJ{p:aI->Bool}(h:L.take i=(ks.take j).filter (λk=> !p k))(hd:L.drop j=ks.drop j)(hy:ks[j]? =some y)(hp:p y=true):
  L.take i=(ks.take (j+1)).filter (λk=> !p k)/\L.drop (j+1)=ks.drop (j+1):=by
 have hj:=(aK.1 hy).1;constructor
 ·have:(ks.take (j+1))=ks.take j++[y]:=by
   rw[dM hj];rw[(aK.1 hy).2]
  rw[this,List.filter_append,h];simp[hp]
 ·have h1:L.drop (j+1)=(L.drop j).drop 1:=by rw[List.drop_drop]
  rw[h1,hd,List.drop_drop]
theorem Me{p:aI->Bool}{x:aI}(hx:ks[i]? =some x)(hp:p x=true)(hn:(ks.take i).any p=false):ks.take i=(ks.take (i+1)).filter (λk=> !p k):=by
 have hi:=(aK.1 hx).1;have:(ks.take (i+1))=ks.take i++[x]:=by
  rw[dM hi];rw[(aK.1 hx).2]
 rw[this,List.filter_append];have e:(ks.take i).filter (λk=> !p k)=ks.take i:=by
  rw[List.filter_eq_self];intro a ha;have:=bK.1 hn a ha;simpa using this
 rw[e];simp[hp]
theorem Gs{w1 w':World}{g n c:Nat}(h:Below w.heap.size w w1)(k:Kp g w1 w'):w.grownBy w' (slice (some ⟨g,0,none⟩) n c).ownBlock:=
 ⟨k.os.trans h.os,k.tape.trans h.tape,k.output.trans h.output,aJ h.size k.size,λi hi hr=>(k.block i (fE hi h.size) (λe=>hr (by rw[e];rfl))).trans (h.block i hi)⟩
theorem abe(wb:World)(g i:Nat)(y:aI):Kp g wb ((((((((wb.setCell ⟨g,i*8,none⟩ (int i64 y.id)).setCell ⟨g,i*8+1,none⟩ (int i64 y.ay)).setCell ⟨g,i*8+2,none⟩ (int i64 y.kind)).setCell ⟨g,i*8+3,none⟩ (int i64 y.at_)).setCell ⟨g,i*8+4,none⟩ (int i64 y.life)).setCell ⟨g,i*8+5,none⟩ (int i64 y.load)).setCell ⟨g,i*8+6,none⟩ (int i64 y.task)).setCell ⟨g,i*8+7,none⟩ (int i64 y.goal)):=
 (((((((Kp.set (z:=g) _ _ _).trans (Kp.set _ _ _)).trans (Kp.set _ _ _)).trans (Kp.set _ _ _)).trans (Kp.set _ _ _)).trans (Kp.set _ _ _)).trans (Kp.set _ _ _)).trans (Kp.set _ _ _)
theorem zG(K:Nat)(eK:∀args w,(callFunc K args).run prog w=.ok (.enter K args) w)(u:Value)(cs:Array Value)(ks:List aI)(p:aI->Bool)(w:World)(base:Nat)(hu:fD w base u ks)(hbase:base<=w.heap.size)(hl:ks.length<=1000000)
  (hp:∀W,Below base w W->w.grownBy W u.ownBlock->∀k∈ks,Calls prog K (#[k.val]++cs) W λe w'=>e=.returned (.bool (p k))/\Below W.heap.size W w'):
  Calls prog 51 #[u,.func (Fn.func K) #[] cs] w λe w'=>∃v,e=.returned v/\fD w' base v (ks.filter (λk=> !p k))/\Below base w w'/\w.grownBy w' u.ownBlock/\v.ownBlock=u.ownBlock:=by
 have H':=aj (qJ K eK u cs ks p w hu.l (λW hW k hk=>hp W (hW.mono hbase) ⟨hW.os,hW.tape,hW.output,hW.size,λk hk _=>hW.block k hk⟩ k hk));have Hp:=aj (hp);have U:=aj (hu);have HB:Hid (base<=w.heap.size/\ks.length<=1000000):=⟨hbase,hl⟩;clear hp hu hbase;go_enter func51,ntmps51;go_wp2_with fail
 refine Calls.mono H' ?_;rintro e w1 ⟨r,rfl,hf,hb⟩;have B1:=aj (hb.mono HB.1);have U1:=aj (U.below hb);have S1:=aj (hb.size);have G1:=aj (hb);clear hb U H';rcases hf with⟨rfl,hno⟩|⟨i0,x,rfl,hx,hpx,hnx⟩
 ·have NO:Hid (ks.filter (λk=> !p k)=ks):=by
   unfold Hid;rw[List.filter_eq_self];intro a ha;have:=bK.1 hno a ha;simpa using this
  clear hno;go_wp2;go_ret;exact⟨u,rfl,by rw[NO.out];exact U1,B1,⟨G1.os,G1.tape,G1.output,G1.size,λk hk _=>G1.block k hk⟩,rfl⟩
 have hi0:=(aK.1 hx).1;rcases U1.ub with⟨rfl,h⟩|⟨g,cap,rest,rfl,hbg,hkc,hcm,hcl,hub⟩
 ·rw[h] at hi0;simp at hi0
 have ST:=aj (Me hx hpx hnx);have GG:=aj (lM hbg hkc hcm hcl);have UB:=aj (hub);have hcm':cap<=9223372036854775807:=by unfold maxLen at hcm;omega
 clear hx hpx hnx hbg hcm hcl hub U1;have hm1:(((i0:Nat):Int)== -1)=false:=by rw[beq_eq_false_iff_ne];omega
 go_wp2;go_loopw [5,6] (λvi vj W=>∃(i j:Nat) (L:List aI),vi=int i64 (i:Nat)/\vj=int i64 (j:Nat)/\i<j/\j<=ks.length/\L.length=ks.length/\L.take i=(ks.take j).filter (λk=> !p k)/\L.drop j=ks.drop j/\Ub W g L rest/\Below base w W/\Kp g w1 W) (λ_ vj _=>ks.length-(intOf vj).toNat)
 case atStart=>exact⟨i0,i0+1,ks,rfl,by go_num,by omega,by omega,rfl,ST,rfl,UB,B1,Kp.refl _ _⟩
 case round=>
  obtain⟨i,j,L,rfl,rfl,hij,hjn,hLl,hLt,hLd,hLu,hLb,hLk⟩:=hrel;have LU:=aj (hLu);have LB:=aj (hLb);have LK:=aj (hLk);clear hLk;have LL:=aj (fQ hLl hLt hLd);clear hLu hLb hLl hLt hLd UB B1 ST;by_cases h0:j=ks.length
  ·subst h0
   obtain⟨wc,hcl,hUc,hBc,hSc,hKc⟩:=wV wr g i (ks.length-i) (cap-i) L rest LU (by omega) (by rw[LL.out.1];omega);have UC:Hid (Ub wc g (L.take i) ((List.replicate (ks.length-i) (⟨0,0,0,0,0,0,0,0⟩:aI)).flatMap aI.cs++rest)):=by
    unfold Ub at hUc;unfold Hid Ub;rw[<-bT,<-fM];exact hUc
   have BC:=aj (LB.trans (hBc.mono GG.1));have KC:=aj (LK.trans hKc);have IL:Hid ((L.take i).length=i):=by unfold Hid;rw[dP,LL.out.1];omega
   clear hUc hBc hSc hKc;go_wp2;go_ret;have h1:=UC.ZQ (base:=base) (cap:=cap) GG.1 (by rw[IL.out];have:=GG.out.2.1;omega) GG.2.2.1 (by
    rw[IL.out,aC,jE,jB];have:=GG.out.2.2.2;omega)
   rw[IL.out] at h1;refine⟨_,rfl,?_,BC,Gs G1 KC,rfl⟩;have h2:=LL.out.2.1;rw[List.take_of_length_le aN] at h2;rw[<-h2];exact h1
  ·have hjl:j<ks.length:=by omega
   have hji:((j:Nat):Int)<(ks.length:Nat):=by omega
   obtain⟨y,hy⟩:∃y,ks[j]? =some y:=⟨_,aH hjl⟩;have hLy:L[j]? =some y:=by
    have h1:(L.drop j)[0]? =(ks.drop j)[0]? :=by rw[LL.out.2.2]
    rw[mF,mF] at h1;rw[Nat.add_zero] at h1;rw[h1];exact hy
   obtain⟨q0,q1,q2,q3,q4,q5,q6,q7⟩:=LU.pV hLy;have HY:=aj (hy);have wi:IntKind.i64.wrap ((i:Nat)+1:Int)=((i:Nat):Int)+1:=by rw[IntKind.wrap_i64];omega
   have wj:IntKind.i64.wrap ((j:Nat)+1:Int)=((j:Nat):Int)+1:=by rw[IntKind.wrap_i64];omega
   clear hLy hy;go_upto_region 8 with fail
   have BA:Hid (Below _ wr (wr.alloc (cells #[int i64 y.id,int i64 y.ay,int i64 y.kind,int i64 y.at_,int i64 y.life,int i64 y.load,int i64 y.task,int i64 y.goal] 74))):=aA;have XA:Hid (fA _ ⟨wr.heap.size,0,none⟩ y):=fA.mk' y rfl;generalize (wr.alloc _)=wa at *;have UA:=aj (LU.below BA LU.lt);have AB:=aj (LB.trans (BA.mono (aJ HB.1 LB.size)));have KA:=aj (LK.trans (Kp.of BA));clear LK;obtain⟨z,hz⟩:∃z,wr.heap.size=z:=⟨_,rfl⟩;rw[hz] at XA ⊢;have ZG:Hid (g<z):=by rw[<-hz];exact LU.lt
   clear hz BA LU LB q0 q1 q2 q3 q4 q5 q6 q7;obtain⟨q0,q1,q2,q3,q4,q5,q6,q7⟩:=XA.out;cases hpy:p y with
   |true=>
    have PY:=aj (hpy);have hc:=Hp wa AB (Gs G1 KA) y (aT HY);rw[hpy] at hc;have Hc:=aj (hc);clear hc hpy;go_wp2_with fail
    refine Calls.mono Hc ?_;rintro e wb ⟨rfl,hb⟩;have UW:=aj (UA.below hb UA.lt);have WB:=aj (AB.trans (hb.mono (aJ HB.1 AB.size)));have KW:=aj (KA.trans (Kp.of hb));clear KA;clear hb q0 q1 q2 q3 q4 q5 q6 q7 UA AB XA Hc;go_wp2;go_round
    case rel=>exact⟨i,j+1,L,rfl,by go_num,by omega,by omega,LL.1,(CJ LL.2.1 LL.2.2 HY PY).1,(CJ LL.2.1 LL.2.2 HY PY).2,UW,WB,KW⟩
    case measure=>simp[intOf];omega
   |false=>
    have PY:=aj (hpy);have hc:=Hp wa AB (Gs G1 KA) y (aT HY);rw[hpy] at hc;have Hc:=aj (hc);clear hc hpy;go_wp2_with fail
    refine Calls.mono Hc ?_;rintro e wb ⟨rfl,hb⟩;have UW:=aj (UA.below hb UA.lt);have WB:=aj (AB.trans (hb.mono (aJ HB.1 AB.size)));have KW:=aj (KA.trans (Kp.of hb));clear KA;have XB:=aj (XA.below hb XA.lt);clear hb q0 q1 q2 q3 q4 q5 q6 q7 UA AB XA Hc;have hil:i<L.length:=by rw[LL.out.1];omega
    obtain⟨z0,hz0⟩:∃z0,L[i]? =some z0:=⟨_,aH hil⟩;obtain⟨q0,q1,q2,q3,q4,q5,q6,q7⟩:=XB.out;obtain⟨r0,r1,r2,r3,r4,r5,r6,r7⟩:=UW.pV hz0;have f0:=UW.thaw (i*8);have f1:=UW.thaw (i*8+1);have f2:=UW.thaw (i*8+2);have f3:=UW.thaw (i*8+3);have f4:=UW.thaw (i*8+4);have f5:=UW.thaw (i*8+5);have f6:=UW.thaw (i*8+6);have f7:=UW.thaw (i*8+7);have UP:=aj (UW.put hil y);have BP:Hid (Below _ w ((((((((wb.setCell _ _).setCell _ _).setCell _ _).setCell _ _).setCell _ _).setCell _ _).setCell _ _).setCell ⟨g,i*8+7,none⟩ _)):=uT y WB GG.1;have KP:=aj (KW.trans (abe wb g i y));have DK:=Rz LL.2.1 LL.2.2 hij LL.1 HY PY;have DH:Hid ((L.set i y).length=ks.length/\(L.set i y).take (i+1)=(ks.take (j+1)).filter (λk=> !p k)/\(L.set i y).drop (j+1)=ks.drop (j+1)):=⟨by rw[jA];exact LL.1,DK.1,DK.2⟩;clear DK hz0 hil;go_wp2;go_round
    case rel=>exact⟨i+1,j+1,L.set i y,by go_num,by go_num,by omega,by omega,DH.1,DH.2.1,DH.2.2,UP,BP,KP⟩
    case measure=>simp[intOf];omega
theorem del_any(K:Nat)(eK:∀args w,(callFunc K args).run prog w=.ok (.enter K args) w)(u:Value)(cs:Array Value)(ks:List aI)(p:aI->Bool)(w:World)(base:Nat)(hu:fD w base u ks)(hbase:base<=w.heap.size)(hl:ks.length<=1000000)
  (hp:∀W,Below base w W->∀k∈ks,Calls prog K (#[k.val]++cs) W λe w'=>e=.returned (.bool (p k))/\Below W.heap.size W w'):
  Calls prog 51 #[u,.func (Fn.func K) #[] cs] w λe w'=>∃v,e=.returned v/\fD w' base v (ks.filter (λk=> !p k))/\Below base w w':=
 (zG K eK u cs ks p w base hu hbase hl (λW hW _=>hp W hW)).mono λe w' h=>by
  obtain⟨v,h1,h2,h3,-⟩:=h;exact⟨v,h1,h2,h3⟩
def kN(d:aI->Int)(m:aI)(l:List aI):aI:=l.foldl (λm x=>if d x<d m then x else m) m
theorem MC(d:aI->Int)(m y:aI)(l:List aI)(k:Nat)(hy:l[k]? =some y):kN d m (l.take (k+1))=if d y<d (kN d m (l.take k)) then y else kN d m (l.take k):=by
 obtain⟨hi,e⟩:=aK.1 hy;unfold kN;rw[dM hi,List.foldl_append,e];rfl
theorem qL(d:aI->Int):∀(l:List aI) (m:aI),kN d m l∈m::l
 |[],m=>by simp[kN]
 |x::l,m=>by
  have h:=qL d l (if d x<d m then x else m);show kN d (if d x<d m then x else m) l∈_;rcases bP.1 h with h|h
  ·rw[h];split<;>simp
  ·exact List.mem_cons_of_mem _ (List.mem_cons_of_mem _ h)
theorem RG{z:Nat}(y:aI)(hz:w.heap.size=z):Ub (w.alloc (cells #[int i64 y.id,int i64 y.ay,int i64 y.kind,int i64 y.at_,int i64 y.life,int i64 y.load,int i64 y.task,int i64 y.goal] 74)) z [y] []:=by
 subst hz;exact heap_alloc_new _ _
theorem JR(K:Nat)(eK:∀args w,(callFunc K args).run prog w=.ok (.enter K args) w)(u:Value)(cs:Array Value)(x0:aI)(tl:List aI)(d:aI->Int)(c:aI->aI->Int)(w:World)(hu:oP w u (x0::tl))(hl:tl.length<=1000000)
  (hcd:∀a∈x0::tl,∀b∈x0::tl,(c a b<0↔d a<d b))
  (hp:∀W,Below w.heap.size w W->∀a∈x0::tl,∀b∈x0::tl,Calls prog K (#[a.val,b.val]++cs) W λe w'=>e=.returned (int i64 (c a b))/\Below W.heap.size W w'):
  Calls prog 206 #[u,.func (Fn.func K) #[] cs] w λe w'=>e=.returned (kN d x0 tl).val/\Below w.heap.size w w':=by
 have HCD:=aj (hcd);clear hcd;have Hp:=aj (hp);obtain⟨a,cc,rfl,h1,h2,h3⟩:=hu;obtain⟨x,rfl,hx,hxc⟩:=h3 (by simp);have XC:=aj (hxc);have XL:=aj (hx);obtain⟨n,hn⟩:∃n,(x0::tl).length=n:=⟨_,rfl⟩;have HN:Hid (tl.length+1=n):=by rw[<-hn];rfl
 rw[hn] at h1 ⊢;have hn1:1<=n:=by have:=HN.out;omega
 have hn0:¬((n:Nat):Int)<1:=by omega
 have hnp:0<n:=by omega
 clear h3 hxc hx hp hn;go_enter func206,ntmps206;go_upto_region 1 with fail
 have BZ:Hid (Below _ w (w.alloc (cells #[int i64 0,int i64 0,int i64 0,int i64 0,int i64 0,int i64 0,int i64 0,int i64 0] 74))):=aA;have UZ:Hid (Ub (w.alloc (cells #[.int _ 0,.int _ 0,.int _ 0,.int _ 0,.int _ 0,.int _ 0,.int _ 0,.int _ 0] 74)) _ _ []):=RG ⟨0,0,0,0,0,0,0,0⟩ rfl;generalize (w.alloc _)=wz at *;have q:=(XC 0 x0 rfl).below BZ (by rw[add_block];exact XL);rw[Nat.zero_mul] at q;have ex:x.add 0=x:=by unfold Addr.add;simp
 rw[ex] at q;obtain⟨q0,q1,q2,q3,q4,q5,q6,q7⟩:=q;go_upto_region 4 with fail
 have BA:Hid (Below _ wz (wz.alloc (cells #[int i64 x0.id,int i64 x0.ay,int i64 x0.kind,int i64 x0.at_,int i64 x0.life,int i64 x0.load,int i64 x0.task,int i64 x0.goal] 74))):=aA;have UA:Hid (Ub _ wz.heap.size _ []):=RG x0 rfl;generalize (wz.alloc _)=wa at *;obtain⟨zb,hzb⟩:∃z,wz.heap.size=z:=⟨_,rfl⟩;rw[hzb] at UA ⊢;have UZ1:=aj (UZ.below BA UZ.lt);have B1:=aG BZ BA;have ZB:Hid (w.heap.size<zb):=by rw[<-hzb];exact UZ.lt
 clear hzb BZ UZ BA q0 q1 q2 q3 q4 q5 q6 q7 ex;go_wp2;go_loopw [6] (λvi W=>∃i k:Nat,i=k+1/\k<=tl.length/\vi=int i64 (i:Nat)/\Ub W zb [kN d x0 (tl.take k)] []/\Ub W w.heap.size [⟨0,0,0,0,0,0,0,0⟩] []/\Below w.heap.size w W) (λvi _=>tl.length+1-(intOf vi).toNat)
 case atStart=>exact⟨1,0,rfl,aZ _,rfl,UA,UZ1,B1⟩
 case round=>
  obtain⟨i,k,hik,hk,rfl,hM,hZ,hB⟩:=hrel;have M:=aj (hM);have Z0:=aj (hZ);have B:=aj (hB);clear hM hZ hB UA UZ1 B1;obtain⟨m,hm⟩:∃m,kN d x0 (tl.take k)=m:=⟨_,rfl⟩;have MM:=aj (hm);rw[hm] at M;clear hm;by_cases h0:k=tl.length
  ·have hkn:i=n:=by have:=HN.out;omega
   have hlt:¬(((i:Nat):Int)<(n:Nat)):=by omega
   have MK:Hid (kN d x0 tl=m):=by have:=MM.out;rw[List.take_of_length_le (by omega)] at this;exact this
   clear hkn h0 hik hk;go_upto_region 9 with fail
   obtain⟨q0,q1,q2,q3,q4,q5,q6,q7⟩:=M.pV (i:=0) (o:=m) rfl;obtain⟨r0,r1,r2,r3,r4,r5,r6,r7⟩:=Z0.pV (i:=0) (o:=⟨0,0,0,0,0,0,0,0⟩) rfl;simp only[Nat.zero_mul,aO] at q0 q1 q2 q3 q4 q5 q6 q7 r0 r1 r2 r3 r4 r5 r6 r7;have f0:=Z0.thaw 0;have f1:=Z0.thaw 1;have f2:=Z0.thaw 2;have f3:=Z0.thaw 3;have f4:=Z0.thaw 4;have f5:=Z0.thaw 5;have f6:=Z0.thaw 6;have f7:=Z0.thaw 7;have UP:Hid (Ub ((((((((wr.setCell ⟨w.heap.size,0,none⟩ (int i64 m.id)).setCell ⟨w.heap.size,1,none⟩ (int i64 m.ay)).setCell ⟨w.heap.size,2,none⟩ (int i64 m.kind)).setCell ⟨w.heap.size,3,none⟩ (int i64 m.at_)).setCell ⟨w.heap.size,4,none⟩ (int i64 m.life)).setCell ⟨w.heap.size,5,none⟩ (int i64 m.load)).setCell ⟨w.heap.size,6,none⟩ (int i64 m.task)).setCell ⟨w.heap.size,7,none⟩ (int i64 m.goal)) w.heap.size [m] []):=by
    unfold Hid;have:=Z0.put (i:=0) (by simp) m;simpa using this
   have BP:Hid (Below w.heap.size w ((((((((wr.setCell ⟨w.heap.size,0,none⟩ (int i64 m.id)).setCell ⟨w.heap.size,1,none⟩ (int i64 m.ay)).setCell ⟨w.heap.size,2,none⟩ (int i64 m.kind)).setCell ⟨w.heap.size,3,none⟩ (int i64 m.at_)).setCell ⟨w.heap.size,4,none⟩ (int i64 m.life)).setCell ⟨w.heap.size,5,none⟩ (int i64 m.load)).setCell ⟨w.heap.size,6,none⟩ (int i64 m.task)).setCell ⟨w.heap.size,7,none⟩ (int i64 m.goal))):=by
    unfold Hid;have:=uT (g:=w.heap.size) (i:=0) m B aN;simpa using this
   go_wp2;clear q0 q1 q2 q3 q4 q5 q6 q7 r0 r1 r2 r3 r4 r5 r6 r7 f0 f1 f2 f3 f4 f5 f6 f7;generalize ((((((((wr.setCell _ _).setCell _ _).setCell _ _).setCell _ _).setCell _ _).setCell _ _).setCell _ _).setCell _ _)=w9 at *;obtain⟨y0,y1,y2,y3,y4,y5,y6,y7⟩:=UP.pV (i:=0) (o:=m) rfl;simp only[Nat.zero_mul,aO] at y0 y1 y2 y3 y4 y5 y6 y7;refine bodyPost_ret (v:=.agg #[int i64 m.id,int i64 m.ay,int i64 m.kind,int i64 m.at_,int i64 m.life,int i64 m.load,int i64 m.task,int i64 m.goal]) (by simp[results,results206,go_sem,y0,y1,y2,y3,y4,y5,y6,y7]) rfl ⟨by rw[MK.out];rfl,BP⟩
  ·have hlt:((i:Nat):Int)<(n:Nat):=by have:=HN.out;omega
   have hln:i<n:=by omega
   have wi:IntKind.i64.wrap ((i:Nat)+1:Int)=((i:Nat):Int)+1:=by have:=HN.out;rw[IntKind.wrap_i64];omega
   obtain⟨y,hy⟩:∃y,tl[k]? =some y:=⟨_,aH (by omega)⟩;have HY:Hid (tl[k]? =some y/\(x0::tl)[i]? =some y/\i=k+1/\k<tl.length):=⟨hy,by rw[hik,List.getElem?_cons_succ];exact hy,hik,by omega⟩;have MI:Hid (m∈x0::tl):=by
    have h:=qL d (tl.take k) x0;rw[MM.out] at h;rcases bP.1 h with h|h
    ·rw[h];exact List.mem_cons_self ..
    ·exact List.mem_cons_of_mem _ (List.mem_of_mem_take h)
   have YC:=aj (XC i y HY.2.1);have CB:Hid (∀V,Below w.heap.size w V->Ub V zb [m] []->fA V (x.add (i*8)) y/\fA V ⟨zb,0,none⟩ m):=λV hb hu=>⟨YC.below hb (by rw[add_block];exact XL),by have:=hu.pV (i:=0) (o:=m) rfl;rw[Nat.zero_mul] at this;exact this⟩
   clear hy hik h0 hk;go_upto_region 7 with fail
   refine aV [(true,0),(true,1),(true,2),(true,3),(true,4),(true,5),(false,6)] [(false,7)] (λV=>fA V _ y/\fA V _ m) (by kernel_rfl) (by kernel_rfl) (by kernel_rfl) (by decide+kernel) (by decide+kernel) (CB _ B.drew (M.below (aB.drew) M.lt)) ?_;have M1:Hid (Ub {wr with drawn:=wr.drawn+1} zb _ []):=M.below (aB.drew) M.lt;have Z1:Hid (Ub {wr with drawn:=wr.drawn+1} _ _ []):=Z0.below (aB.drew) Z0.lt;have B1:Hid (Below _ w {wr with drawn:=wr.drawn+1}):=B.drew;generalize ({wr with drawn:=wr.drawn+1}:World)=wd at *;clear M Z0 B;refine au rfl (.func (Fn.func K) #[] cs) (by go_simp) (λV hV=>by go_simp) ?_;go_simp;refine au rfl (slice (some x) n cc) (by go_simp) (λV hV=>by go_simp) ?_;go_simp;refine au rfl (int i64 (i:Nat)) (by go_simp) (λV hV=>by go_simp) ?_;go_simp;refine au rfl (.pointer (some (x.add (i*8)))) (by go_simp) (λV hV=>by go_simp) ?_;go_simp;refine au rfl (.agg #[int i64 y.id,int i64 y.ay,int i64 y.kind,int i64 y.at_,int i64 y.life,int i64 y.load,int i64 y.task,int i64 y.goal]) (by go_simp) (λV hV=>by obtain⟨⟨q0,q1,q2,q3,q4,q5,q6,q7⟩,⟨r0,r1,r2,r3,r4,r5,r6,r7⟩⟩:=hV;go_simp) ?_;go_simp;refine au rfl (.agg #[int i64 m.id,int i64 m.ay,int i64 m.kind,int i64 m.at_,int i64 m.life,int i64 m.load,int i64 m.task,int i64 m.goal]) (by go_simp) (λV hV=>by obtain⟨⟨q0,q1,q2,q3,q4,q5,q6,q7⟩,⟨r0,r1,r2,r3,r4,r5,r6,r7⟩⟩:=hV;go_simp) ?_;go_simp;refine dH rfl K (#[y.val,m.val]++cs) (by go_simp) (by go_simp;rfl) ?_;refine(Hp wd B1 y (aT HY.2.1) m MI).mono ?_;rintro e w2 ⟨rfl,hb⟩;have M2:=aj (M1.below hb M1.lt);have Z2:=aj (Z1.below hb Z1.lt);have B2:=aG B1 hb;refine⟨_,rfl,CB _ B2 M2,?_⟩;clear hb M1 Z1 B1;go_simp;obtain⟨t,ht⟩:∃t,c y m=t:=⟨_,rfl⟩;have HT:=aj (ht);have HU:Hid (t<0↔d y<d m):=by rw[<-ht];exact HCD y (aT HY.2.1) m MI
   rw[ht];clear ht;refine aW rfl (.bool (decide (t<0))) w2 (by go_simp) (by go_simp) trivial ?_;go_simp;unfold bC;have MN:=MC d x0 y tl k HY.1;rw[MM.out] at MN;by_cases abf:t<0
   ·have MN1:Hid (kN d x0 (tl.take (k+1))=y):=by rw[MN,if_pos (HU.out.1 abf)];rfl
    clear MN;go_upto_region 8 with fail
    obtain⟨q0,q1,q2,q3,q4,q5,q6,q7⟩:=YC.below B2 (by rw[add_block];exact XL);obtain⟨r0,r1,r2,r3,r4,r5,r6,r7⟩:=M2.pV (i:=0) (o:=m) rfl;simp only[Nat.zero_mul,aO] at r0 r1 r2 r3 r4 r5 r6 r7;have f0:=M2.thaw 0;have f1:=M2.thaw 1;have f2:=M2.thaw 2;have f3:=M2.thaw 3;have f4:=M2.thaw 4;have f5:=M2.thaw 5;have f6:=M2.thaw 6;have f7:=M2.thaw 7;have UP:Hid (Ub ((((((((w2.setCell ⟨zb,0,none⟩ (int i64 y.id)).setCell ⟨zb,1,none⟩ (int i64 y.ay)).setCell ⟨zb,2,none⟩ (int i64 y.kind)).setCell ⟨zb,3,none⟩ (int i64 y.at_)).setCell ⟨zb,4,none⟩ (int i64 y.life)).setCell ⟨zb,5,none⟩ (int i64 y.load)).setCell ⟨zb,6,none⟩ (int i64 y.task)).setCell ⟨zb,7,none⟩ (int i64 y.goal)) zb [y] []):=by
     unfold Hid;have:=M2.put (i:=0) (by simp) y;simpa using this
    have BZ:Hid (Below zb w2 ((((((((w2.setCell ⟨zb,0,none⟩ (int i64 y.id)).setCell ⟨zb,1,none⟩ (int i64 y.ay)).setCell ⟨zb,2,none⟩ (int i64 y.kind)).setCell ⟨zb,3,none⟩ (int i64 y.at_)).setCell ⟨zb,4,none⟩ (int i64 y.life)).setCell ⟨zb,5,none⟩ (int i64 y.load)).setCell ⟨zb,6,none⟩ (int i64 y.task)).setCell ⟨zb,7,none⟩ (int i64 y.goal))):=by
     unfold Hid;have:=uT (B:=zb) (g:=zb) (i:=0) y (dU zb w2) aN;simpa using this
    have ZP:=aj (Z2.below BZ ZB);have BP:=aj (B2.trans (BZ.mono (Nat.le_of_lt ZB)));clear BZ;go_wp2;go_round
    case rel=>exact⟨i+1,k+1,by have:=HY.out.2.2.1;omega,by have:=HY.out.2.2.2;omega,by go_num,by rw[MN1.out];exact UP,ZP,BP⟩
    case measure=>have:=HN.out;simp[intOf];omega
   ·have MN1:Hid (kN d x0 (tl.take (k+1))=m):=by rw[MN,if_neg (λh=>abf (HU.out.2 h))];rfl
    clear MN;go_wp2;go_round
    case rel=>exact⟨i+1,k+1,by have:=HY.out.2.2.1;omega,by have:=HY.out.2.2.2;omega,by go_num,by rw[MN1.out];exact M2,Z2,B2⟩
    case measure=>have:=HN.out;simp[intOf];omega
theorem Xm(K:Nat)(eK:∀args w,(callFunc K args).run prog w=.ok (.enter K args) w)(u:Value)(cs:Array Value)(x0:aI)(tl:List aI)(d:aI->Int)(w:World)(hu:oP w u (x0::tl))(hl:tl.length<=1000000)
  (hp:∀W,Below w.heap.size w W->∀a∈x0::tl,∀b∈x0::tl,Calls prog K (#[a.val,b.val]++cs) W λe w'=>e=.returned (int i64 (d a-d b))/\Below W.heap.size W w'):
  Calls prog 206 #[u,.func (Fn.func K) #[] cs] w λe w'=>e=.returned (kN d x0 tl).val/\Below w.heap.size w w':=
 JR K eK u cs x0 tl d (λa b=>d a-d b) w hu hl (λa _ b _=>by constructor<;>intro h<;>omega) hp
def mV(ks:List KV)(l:List Int)(pl:Int)(h:aI):Bool:= !(h.ay==pl)||(!((ks[h.kind.toNat]?.map KV.t).getD false)||decide (l.getD h.at_.toNat 0<0))
theorem RH(ks:List KV)(l:List Int)(h:aI)(pl:Int)(bu bk bf:Nat)(uk uf:Value)(w:World)(c1:w.cell? ⟨bu,1,none⟩=some (int i64 pl))(c2:w.cell? ⟨bk,0,none⟩=some uk)(c3:w.cell? ⟨bf,0,none⟩=some uf)(hk:Kl w uk ks)(hf:Ro w uf l)
  (h1:0<=h.kind/\h.kind<(ks.length:Int)) (h2:0<=h.at_/\h.at_<(l.length:Int)):
  Calls prog 261 #[h.val,.pointer (some ⟨bu,0,none⟩),.pointer (some ⟨bk,0,none⟩),.pointer (some ⟨bf,0,none⟩)] w λe w'=>e=.returned (.bool (mV ks l pl h))/\Below w.heap.size w w':=by
 obtain⟨kn,hkn⟩:∃n:Nat,h.kind=n:=⟨h.kind.toNat,by omega⟩;obtain⟨an,han⟩:∃n:Nat,h.at_=n:=⟨h.at_.toNat,by omega⟩;have hkl:kn<ks.length:=by omega
 have hal:an<l.length:=by omega
 obtain⟨k,hkk⟩:∃k,ks[kn]? =some k:=⟨_,aH hkl⟩;have e1:(ks[h.kind.toNat]?.map KV.t).getD false=k.t:=by rw[hkn,bF,hkk];rfl
 have e2:l.getD h.at_.toNat 0=l[an]:=by rw[han,bF,dD,aH hal];rfl
 have OT:Hid (mV ks l pl h=(!(h.ay==pl)||(!k.t||decide (l[an]<0)))):=by unfold Hid mV;rw[e1,e2]
 have BU:Hid (bu<w.heap.size/\bk<w.heap.size/\bf<w.heap.size):=⟨cell_lt c1,cell_lt c2,cell_lt c3⟩;have B0:Hid (Below _ w (w.alloc (cells #[int i64 h.id,int i64 h.ay,int i64 h.kind,int i64 h.at_,int i64 h.life,int i64 h.load,int i64 h.task,int i64 h.goal] 74))):=aA;have U0:Hid (fA _ ⟨w.heap.size,0,none⟩ h):=fA.mk' h rfl;have K0:=aj (hk);have F0:=aj (hf);have CC:=aj (fQ c1 c2 c3);have HE:Hid (h.kind=(kn:Nat)/\h.at_=(an:Nat)):=⟨hkn,han⟩;clear c1 c2 c3 hk hf e1 e2 hkn han h1 h2;unfold aI.val;go_enter func261,ntmps261;go_upto_region 1 with fail
 generalize (w.alloc _)=w0 at *;obtain⟨q0,q1,q2,q3,q4,q5,q6,q7⟩:=U0.out;rw[HE.out.1] at q2;rw[HE.out.2] at q3;have c1:w0.cell? ⟨bu,1,none⟩=some (int i64 pl):=by rw[B0.out.cell (p:=⟨bu,1,none⟩) BU.out.1];exact CC.1
 have c2:w0.cell? ⟨bk,0,none⟩=some uk:=by rw[B0.out.cell (p:=⟨bk,0,none⟩) BU.out.2.1];exact CC.2.1
 have c3:w0.cell? ⟨bf,0,none⟩=some uf:=by rw[B0.out.cell (p:=⟨bf,0,none⟩) BU.out.2.2];exact CC.2.2
 obtain⟨ak,dk,rfl,dk1,dk2,hkc⟩:=K0.below B0;obtain⟨xk,rfl,-,hkc⟩:=hkc (by intro h;rw[h] at hkl;simp at hkl);have kt:=(hkc kn k hkk).c10;obtain⟨af,df,rfl,df1,df2,hfc⟩:=F0.below B0;obtain⟨xf,rfl,-,hfc⟩:=hfc (by intro h;rw[h] at hal;simp at hal);have cx:=hfc an _ (aH hal);clear hkc hfc hkk;by_cases hp:h.ay=pl
 ·have OT1:Hid (mV ks l pl h=(!k.t||decide (l[an]<0))):=by unfold Hid;rw[OT.out,hp];simp
  rw[hp] at q1;cases ht:k.t with
  |true=>
   rw[ht] at kt OT1;by_cases hd:l[an]<0
   ·go_wp2
    go_ret;exact⟨by rw[OT1.out,decide_eq_true hd];rfl,B0⟩
   ·go_wp2
    go_ret;exact⟨by rw[OT1.out,decide_eq_false (show ¬l[an]<0 by omega)];rfl,B0⟩
  |false=>
   rw[ht] at kt OT1;go_wp2;go_ret;exact⟨by rw[OT1.out];rfl,B0⟩
 ·have hp':(h.ay==pl)=false:=by rw[beq_eq_false_iff_ne];exact hp
  have OT1:Hid (mV ks l pl h=true):=by unfold Hid;rw[OT.out,hp'];rfl
  go_wp2;go_ret;exact⟨by rw[OT1.out];first|rfl|simp[hp],B0⟩
theorem MH(l:List Int)(a b:aI)(bf:Nat)(uf:Value)(w:World)(c3:w.cell? ⟨bf,0,none⟩=some uf)(hf:Ro w uf l)(hl:∀x∈l,-1<=x/\x<=1000000)
  (h1:0<=a.at_/\a.at_<(l.length:Int)) (h2:0<=b.at_/\b.at_<(l.length:Int)):
  Calls prog 262 #[a.val,b.val,.pointer (some ⟨bf,0,none⟩)] w λe w'=>e=.returned (int i64 (l.getD a.at_.toNat 0-l.getD b.at_.toNat 0))/\Below w.heap.size w w':=by
 obtain⟨an,han⟩:∃n:Nat,a.at_=n:=⟨a.at_.toNat,by omega⟩;obtain⟨bn,hbn⟩:∃n:Nat,b.at_=n:=⟨b.at_.toNat,by omega⟩;have hal:an<l.length:=by omega
 have hbl:bn<l.length:=by omega
 have e1:l.getD a.at_.toNat 0=l[an]:=by rw[han,bF,dD,aH hal];rfl
 have e2:l.getD b.at_.toNat 0=l[bn]:=by rw[hbn,bF,dD,aH hbl];rfl
 rw[e1,e2];have wd:IntKind.i64.wrap (l[an]-l[bn])=l[an]-l[bn]:=by
  have g1:=hl _ (kG hal);have g2:=hl _ (kG hbl);rw[IntKind.wrap_i64];omega
 have F0:=aj (hf);have CC:Hid (w.cell? ⟨bf,0,none⟩=some uf/\bf<w.heap.size):=⟨c3,cell_lt c3⟩;have B0:Hid (Below w.heap.size w ((w.alloc (cells #[int i64 a.id,int i64 a.ay,int i64 a.kind,int i64 a.at_,int i64 a.life,int i64 a.load,int i64 a.task,int i64 a.goal] 74)).alloc (cells #[int i64 b.id,int i64 b.ay,int i64 b.kind,int i64 b.at_,int i64 b.life,int i64 b.load,int i64 b.task,int i64 b.goal] 74))):=aA.alloc (by simp) _;have U0:Hid (fA ((w.alloc (cells #[int i64 a.id,int i64 a.ay,int i64 a.kind,int i64 a.at_,int i64 a.life,int i64 a.load,int i64 a.task,int i64 a.goal] 74)).alloc (cells #[int i64 b.id,int i64 b.ay,int i64 b.kind,int i64 b.at_,int i64 b.life,int i64 b.load,int i64 b.task,int i64 b.goal] 74)) ⟨w.heap.size,0,none⟩ a):=(fA.mk' a rfl).below aA (by simp);have V0:Hid (fA ((w.alloc (cells #[int i64 a.id,int i64 a.ay,int i64 a.kind,int i64 a.at_,int i64 a.life,int i64 a.load,int i64 a.task,int i64 a.goal] 74)).alloc (cells #[int i64 b.id,int i64 b.ay,int i64 b.kind,int i64 b.at_,int i64 b.life,int i64 b.load,int i64 b.task,int i64 b.goal] 74)) ⟨w.heap.size+1,0,none⟩ b):=fA.mk' b (by simp);have HE:Hid (a.at_=(an:Nat)/\b.at_=(bn:Nat)):=⟨han,hbn⟩;clear c3 hf hl e1 e2 han hbn h1 h2;unfold aI.val;go_enter func262,ntmps262;go_upto_region 1 with fail
 generalize ((w.alloc _).alloc _)=w0 at *;obtain⟨-,-,-,q3,-,-,-,-⟩:=U0.out;obtain⟨-,-,-,r3,-,-,-,-⟩:=V0.out;simp only[aO] at q3 r3;rw[HE.out.1] at q3;rw[HE.out.2] at r3;have c3:w0.cell? ⟨bf,0,none⟩=some uf:=by rw[B0.out.cell (p:=⟨bf,0,none⟩) CC.out.2];exact CC.1
 obtain⟨af,df,rfl,df1,df2,hfc⟩:=F0.below B0;obtain⟨xf,rfl,-,hfc⟩:=hfc (by intro h;rw[h] at hal;simp at hal);have cx:=hfc an _ (aH hal);have cy:=hfc bn _ (aH hbl);clear hfc;go_quiet (fail);go_wp2;go_ret;exact⟨rfl,⟨B0.os,B0.tape,B0.output,B0.size,B0.block⟩⟩
theorem blk0(w:World):(w.alloc (cells #[] 74)).heap[w.heap.size]? =some (.cells #[] 74 (0,0)):=by
 exact heap_alloc_new _ _
theorem clone_any(u:Value)(ks:List aI)(w:World)(hu:oP w u ks)(hl:ks.length<=1000000):
  Calls prog 204 #[u] w λe w'=>∃v,e=.returned v/\fD w' w.heap.size v ks/\Below w.heap.size w w':=by
 have U:=aj (hu);obtain⟨a,c,rfl,h1,h2,h3⟩:=hu;cases a with
 |none=>
  have hk:ks=[]:=by
   by_cases h:ks=[]
   ·exact h
   ·obtain⟨x,hx,-⟩:=h3 h;cases hx
  subst hk;clear h3;have hq:∀W:World,(binOp .eql 26 (slice none ([]:List aI).length c) (slice none 0 0)).run prog W=.ok (.bool true) W:=λW=>Lib.run_eql_slice_nil W _ _ none _ _ _ _ underlying26
  simp only[aS] at hq ⊢;go_enter func204,ntmps204;go_wp2;go_ret;exact⟨_,rfl,fD.nil _ _,dU _ _⟩
 |some x=>
  clear h3;have hq:∀W:World,(binOp .eql 26 (slice (some x) ks.length c) (slice none 0 0)).run prog W=.ok (.bool false) W:=λW=>Lib.run_eql_slice_nil W _ _ (some x) _ _ _ _ underlying26
  go_enter func204,ntmps204;go_upto_region 3 with fail
  have B0:Hid (Below _ w (w.alloc (cells #[] 74))):=aA;have O0:Hid (fD (w.alloc (cells #[] 74)) w.heap.size (slice (some ⟨w.heap.size,0,none⟩) 0 0) []):=⟨rfl,.inr ⟨w.heap.size,0,#[],rfl,aU _,blk0 w,aU _,by unfold maxLen;omega,rfl,rfl⟩⟩;go_wp2_with (at_builtin;refine JF _ rfl _ _ rfl _ _ [] rfl O0 _ ks rfl (U.below B0) (by simp;omega) B0.size ?_);intro v w1 o1 g1 _;have F:Hid (fD w1 w.heap.size v ks/\Below w.heap.size w w1):=⟨o1,B0.grown g1 B0.size (λk hk=>by cases hk;exact aU _)⟩;clear o1 g1 B0 O0;go_wp2;go_ret;exact⟨_,rfl,F.1,F.2⟩
open Go
section
variable {P:Program} {ops:Array Oper} {md:Region.Mode} {C:World->Prop} {Q:Exit->Act->World->Prop}
def ku(P:Program)(ops:Array Oper)(C:World->Prop)(K:Act->World->Prop)(A:Nat)(s2:List (Bool×Nat)):List (Bool×Nat)->Act->World->Prop
 |[],a,W=>∃o,ops[A]? =some o/\f_ P ops C o (dw P ops C K s2) a W
 |(true,i)::r,a,W=>∃o v,ops[i]? =some o/\iU P ops C o v a/\ku P ops C K A s2 r (a.put o.dst v) W
 |(false,i)::r,a,W=>(∃o,ops[i]? =some o/\f_ P ops C o (ku P ops C K A s2 r) a W)/\(∃o,ops[A]? =some o/\f_ P ops C o (dw P ops C K ((false,i)::r++s2)) a W)
def pX(md:Region.Mode)(ops:Array Oper)(H0:Array Bool)(A:Nat)(s2:List (Bool×Nat)):List (Bool×Nat)->Array Bool->Bool
 |[],listed=>decide (Region.ready md ops listed=[A])&&headB md ops H0 s2 (listed.setIfInBounds A true)
 |(true,i)::r,listed=>(Region.ready md ops listed).contains i&&(Region.free md ops listed i&&((waits md ops H0 i||decide (Region.ready md ops (H0.setIfInBounds i false)=[i]))&&pX md ops H0 A s2 r (listed.setIfInBounds i true)))
 |(false,i)::r,listed=>(Region.ready md ops listed).contains i&&((Region.ready md ops listed).all (λj=>decide (j=i)||decide (j=A))&&(pX md ops H0 A s2 r (listed.setIfInBounds i true)&&((Region.ready md ops listed).contains A&&headB md ops H0 ((false,i)::r++s2) (listed.setIfInBounds A true))))
theorem jU{K:Act->World->Prop}{H0:Array Bool}{A:Nat}{s2:List (Bool×Nat)}(hsel:Region.noSelect ops=true):∀(s:List (Bool×Nat)) (listed:Array Bool) (a:Act) (W:World),FY md ops listed->pX md ops H0 A s2 s listed=true->C W->ku P ops C K A s2 s a W->pO P md ops C (λl a W=>l=H0/\K a W) (s.length+s2.length+1) listed a W
 |[],listed,a,W,inv,hB,hC,h=>by
  simp only[pX,Bool.and_eq_true,decide_eq_true_eq] at hB;obtain⟨hr,hH⟩:=hB;have hr':A∈Region.ready md ops listed:=by rw[hr];simp
  obtain⟨o,ho,hs⟩:=h;rw[aS,aO];refine⟨λh=>(by rw[hr] at h;cases h),λj hj=>?_⟩;rw[hr] at hj;obtain rfl:j=A:=by simpa using hj
  exact⟨o,ho,hs.mono λa' W' hC' hk=>iI hsel s2 _ _ _ (inv.set hr') hH hC' hk⟩
 |(true,i)::r,listed,a,W,inv,hB,hC,h=>by
  simp only[pX,Bool.and_eq_true,Bool.or_eq_true,decide_eq_true_eq] at hB;obtain⟨hr,hf,hH,hB⟩:=hB;obtain⟨o,v,ho,hy,hk⟩:=h;have hr':i∈Region.ready md ops listed:=by simpa using hr
  rw[show((true,i)::r).length+s2.length+1=(r.length+s2.length+1)+1 by rw[dI];omega];exact mP ho (Region.noSelect_spec hsel) hH (λ_ _ _ h=>h.1) _ _ a W inv (Region.free_spec ho hf) hr' hy hC (jU hsel r _ _ _ (inv.set hr') hB hC hk)
 |(false,i)::r,listed,a,W,inv,hB,hC,h=>by
  simp only[pX,Bool.and_eq_true] at hB;obtain⟨hr,hall,hB1,hA,hB2⟩:=hB;have hr':i∈Region.ready md ops listed:=by simpa using hr
  have hA':A∈Region.ready md ops listed:=by simpa using hA
  obtain⟨⟨o,ho,hs⟩,⟨oA,hoA,hsA⟩⟩:=h;rw[show((false,i)::r).length+s2.length+1=(r.length+s2.length+1)+1 by rw[dI];omega];refine⟨λh=>(by rw[h] at hr';cases hr'),λj hj=>?_⟩;have hj':=lH.1 hall j hj;simp only[Bool.or_eq_true,decide_eq_true_eq] at hj';rcases hj' with rfl|rfl
  ·exact⟨o,ho,hs.mono λa' W' hC' hk=>jU hsel r _ _ _ (inv.set hr') hB1 hC' hk⟩
  ·refine⟨oA,hoA,hsA.mono λa' W' hC' hk=>?_⟩
   have:=iI hsel ((false,i)::r++s2) _ _ _ (inv.set hA') hB2 hC' hk;rw[show((false,i)::r++s2).length=r.length+s2.length+1 by simp] at this;exact this
theorem tq{id:Nat}(A:Nat)(s s2 t:List (Bool×Nat))(C:World->Prop)(hm:P.follows .mixedOrders=true)(hs:Region.noSelect ops=true)(hl:s.length+s2.length+1+t.length=ops.size)
  (hB:pX .any ops (kM ops.size (s++[(false,A)]++s2)) A s2 s (Array.replicate ops.size false)=true)
  (hT:lI .any ops t (kM ops.size (s++[(false,A)]++s2))=true)
  (hC:C {w with drawn:=w.drawn+1}) (h:ku P ops C (bC P ops (λ_=>True) Q t) A s2 s a {w with drawn:=w.drawn+1}):(Code.region id ops true).wp P Q a w:=by
 refine wp_region_any hm ?_;rw[<-hl];refine jD (λlisted a W hh=>?_) _ _ _ _ (jU hs s _ a _ (λj oj _ hj=>by rw[getD_replicate_false] at hj;cases hj) (by rw[hl];exact hB) hC h);obtain⟨rfl,hk⟩:=hh;exact iY _ _ _ _ (fO hs t _ a W hT trivial hk)
theorem eH{K:Act->World->Prop}{s2 r:List (Bool×Nat)}(ho:ops[i]? =some o)(v:Value)(hw:Region.wanted o (yielded ops a.tmps)=true)(hr:∀W,C W->(execOp a.eval o).run P W=.ok (.value v) W)(h:ku P ops C K A s2 r (a.put o.dst v) W):ku P ops C K A s2 ((true,i)::r) a W:=
 ⟨o,v,ho,⟨hw,hr⟩,h⟩
theorem Gt{K:Act->World->Prop}{s2 r:List (Bool×Nat)}(ho:ops[i]? =some o)(f:FuncId)(args:Array Value)(hw:Region.wanted o (yielded ops a.tmps)=true)(hr:(execOp a.eval o).run P W=.ok (.enter f args) W)
  (hc:Calls P f args W (λe w'=>∃v,e=.returned v/\C w'/\ku P ops C K A s2 r (a.put o.dst v) w'))
  (hoA:ops[A]? =some oA) (vA:Value) (WA:World) (hwA:Region.wanted oA (yielded ops a.tmps)=true) (hrA:(execOp a.eval oA).run P W=.ok (.value vA) WA) (hCA:C WA) (hA:dw P ops C K ((false,i)::r++s2) (a.put oA.dst vA) WA):ku P ops C K A s2 ((false,i)::r) a W:=
 ⟨⟨o,ho,hw,.inr (.inr ⟨f,args,hr,hc⟩)⟩,⟨oA,hoA,hwA,.inl ⟨vA,WA,hrA,hCA,hA⟩⟩⟩
theorem vF{K:Act->World->Prop}{r:List (Bool×Nat)}(ho:ops[i]? =some o)(W':World)(hw:Region.wanted o (yielded ops a.tmps)=true)(hr:(execOp a.eval o).run P W=.ok .skip W')(hC:C W')(h:dw P ops C K r (a.put o.dst undef) W'):dw P ops C K ((false,i)::r) a W:=
 ⟨o,ho,hw,.inr (.inl ⟨W',hr,hC,h⟩)⟩
theorem Gu{K:Act->World->Prop}{s2:List (Bool×Nat)}(hoA:ops[A]? =some oA)(vA:Value)(WA:World)(hwA:Region.wanted oA (yielded ops a.tmps)=true)(hrA:(execOp a.eval oA).run P W=.ok (.value vA) WA)(hCA:C WA)(hA:dw P ops C K s2 (a.put oA.dst vA) WA):ku P ops C K A s2 [] a W:=
 ⟨oA,hoA,hwA,.inl ⟨vA,WA,hrA,hCA,hA⟩⟩
end
end
section
open Go.RowKit
variable {V V' w:World} {X:WV} {n:Nat} {u:aI} {u1 u2 u3 u4 u5 vk:Value}
structure Hm(w V:World)(vk:Value)(X:WV)(u1 u2 u3 u4 u5:Value)(u:aI):Prop where
 b:Below w.heap.size w V
 k:V.cell? ⟨w.heap.size,0,none⟩=some vk
 x:Bw V (w.heap.size+1) X u1 u2 u3 u4 u5
 u:fA V ⟨w.heap.size+2,0,none⟩ u
theorem Hm.below(h:Hm w V vk X u1 u2 u3 u4 u5 u)(hb:Below n V V')(hn:w.heap.size+3<=n):Hm w V' vk X u1 u2 u3 u4 u5 u:=
 ⟨h.b.trans (hb.mono (by omega)),by rw[hb.cell (p:=⟨w.heap.size,0,none⟩) (show w.heap.size<n by omega)];exact h.k,h.x.below hb (by omega),h.u.below hb (show w.heap.size+2<n by omega)⟩
theorem Hm.sz(h:Hm w V vk X u1 u2 u3 u4 u5 u):w.heap.size+3<=V.heap.size:=h.u.lt
theorem YS{w':World}{b c z:Nat}{xs:List Int}(h:Ro w (slice (some ⟨b,0,none⟩) n c) xs)(k:Kp z w w')(hn:b≠z):Ro w' (slice (some ⟨b,0,none⟩) n c) xs:=by
 obtain⟨a,c',he,h1,h2,h3⟩:=h;injection he with e1 e2 e3
 subst e1;refine⟨_,_,by rw[e2,e3],h1,h2,λhx=>?_⟩;obtain⟨x,hx1,hx2,hx3⟩:=h3 hx;injection hx1 with hx1
 subst hx1;refine⟨_,rfl,fE hx2 k.size,λi y hi=>?_⟩;have:=hx3 i y hi;rw[Addr.add_lit] at this ⊢;have hc:=World.cell?_of_block (a:=⟨b,0+i,none⟩) (k.block b hx2 hn);rw[hc];exact this
def homes(ks:List KV)(us:List aI)(l:List Int)(pl:Int):List aI:=us.filter (λh=> !mV ks l pl h)
def mW(ks:List KV)(us:List aI)(l:List Int)(u:aI):Int:=
 match homes ks us l u.ay with
 |[]=>u.at_
 |x0::tl=>(kN (λh=>l.getD h.at_.toNat 0) x0 tl).at_
def Fit(ks:List KV)(n:Nat)(h:aI):Prop:=(0<=h.kind/\h.kind<(ks.length:Int))/\(0<=h.at_/\h.at_<(n:Int))
theorem RI{nb:Nat->List Int}{st:Nat->Nat->Int}{t:Nat}{l:List Int}(h:Wy.dK nb st t n l/\Wy.Flat l)(hn:n<=144):∀x∈l,-1<=x/\x<=1000000:=by
 intro x hx;obtain⟨i,hi⟩:=List.mem_iff_getElem?.1 hx;have h1:=(h.1.2 i x hi).ge;have h2:=JD h.2 h.1.1 hn i;rw[dD,hi] at h2;simp at h2;exact⟨h1,by omega⟩
theorem RJ(m:aI)(W:World):(Instr.field 74 (.agg #[int i64 m.id,int i64 m.ay,int i64 m.kind,int i64 m.at_,int i64 m.life,int i64 m.load,int i64 m.task,int i64 m.goal]) 3).run prog W=.ok (int i64 m.at_) W:=by kernel_rfl
theorem RP(vk vw:Value)(ks:List KV)(X:WV)(u:aI)(Wn Hn:Nat)(k:KV)(w:World)(hk:Kl w vk ks)(hw:Wl w vw X)(hs:Sd w)(G:Fd.Good Wn Hn X.gs X.os)(e1:X.wide=(Wn:Nat))(e2:X.high=(Hn:Nat))(hl:X.us.length<=1000000)
  (hu:Fit ks (Wn*Hn) u) (hk':ks[u.kind.toNat]? =some k) (hus:∀h∈X.us,Fit ks (Wn*Hn) h):
  Calls prog 236 #[vk,vw,u.val] w λe w'=>∃l,e=.returned (int i64 (mW ks X.us l u))/\(Wy.dK (Fd.near Wn Hn) (λi _=>(X.gs.map λg=>Fd.onto g k.f).getD i 0) u.at_.toNat (Wn*Hn) l/\Wy.Flat l)/\Below w.heap.size w w':=by
 obtain⟨kn,hkn⟩:∃n:Nat,u.kind=n:=⟨u.kind.toNat,by have:=hu.1;omega⟩;obtain⟨an,han⟩:∃n:Nat,u.at_=n:=⟨u.at_.toNat,by have:=hu.2;omega⟩;have hkl:kn<ks.length:=by have:=hu.1;omega
 have hkk:ks[kn]? =some k:=by rw[hkn,bF] at hk';exact hk'
 have ea:u.at_.toNat=an:=by rw[han];rfl
 rw[ea];obtain⟨ss,hss⟩:∃ss,(X.gs.map λg=>Fd.onto g k.f)=ss:=⟨_,rfl⟩;have Px:Hid ((X.gs.map λg=>Fd.onto g k.f)=ss):=hss;rw[hss];clear hss;have H:Hid (Wl w vw X):=hw;have S:Hid (Sd w):=hs;have GD:Hid (Fd.Good Wn Hn X.gs X.os/\X.wide=(Wn:Nat)/\X.high=(Hn:Nat)/\an<Wn*Hn/\X.us.length<=1000000/\∀h∈X.us,Fit ks (Wn*Hn) h):=⟨G,e1,e2,by have:=hu.2;omega,hl,hus⟩;have KL0:Hid (Kl w vk ks):=hk;obtain⟨p1,q1,p2,q2,p3,q3,p4,q4,p5,q5,rfl⟩:=aX hw;obtain⟨pk,qk,rfl,ck1,ck2,kc⟩:=hk;obtain⟨xk,rfl,hxl,hxc⟩:=kc (by intro h;subst h;simp at hkl);have KK:Hid (Kc w (xk.add (kn*11)) k/\(xk.add (kn*11)).block<w.heap.size):=⟨hxc kn k hkk,by rw[add_block];exact hxl⟩;have HE:Hid (u.kind=(kn:Nat)/\u.at_=(an:Nat)):=⟨hkn,han⟩;clear hw hs G e1 e2 hl hu hk' hus hkn han ea kc hxc hxl hkk;unfold aI.val;go_enter func236,ntmps236;go_upto_region 1 with fail
 have M0:Hid (Hm w (((w.alloc (cells #[slice (some xk) ks.length qk] 22)).alloc (cells #[int i64 X.turn,int i64 X.next,int i64 X.wide,int i64 X.high,slice p1 X.gs.length q1,slice p2 X.os.length q2,slice p3 X.gold.length q3,slice p4 X.us.length q4,slice p5 X.qs.length q5] 29)).alloc (cells #[int i64 u.id,int i64 u.ay,int i64 u.kind,int i64 u.at_,int i64 u.life,int i64 u.load,int i64 u.task,int i64 u.goal] 74)) (slice (some xk) ks.length qk) X (slice p1 X.gs.length q1) (slice p2 X.os.length q2) (slice p3 X.gold.length q3) (slice p4 X.us.length q4) (slice p5 X.qs.length q5) u):=by
  refine⟨(aA.alloc (by simp) _).alloc (by simp;omega) _,?_,?_,fA.mk' u (by simp)⟩
  ·have h1:(w.alloc (cells #[slice (some xk) ks.length qk] 22)).cell? ⟨w.heap.size,0,none⟩=some (slice (some xk) ks.length qk):=bD rfl rfl
   exact Lib.cell?_alloc_some _ (Lib.cell?_alloc_some _ h1)
  ·exact(Bw.mk' X _ _ _ _ _ (by simp)).below aA (by simp)
 generalize (((w.alloc (cells #[slice (some xk) ks.length qk] 22)).alloc (cells #[int i64 X.turn,int i64 X.next,int i64 X.wide,int i64 X.high,slice p1 X.gs.length q1,slice p2 X.os.length q2,slice p3 X.gold.length q3,slice p4 X.us.length q4,slice p5 X.qs.length q5] 29)).alloc (cells #[int i64 u.id,int i64 u.ay,int i64 u.kind,int i64 u.at_,int i64 u.life,int i64 u.load,int i64 u.task,int i64 u.goal] 74))=w0 at *;have CB:Hid (∀V,Hm w V (slice (some xk) ks.length qk) X (slice p1 X.gs.length q1) (slice p2 X.os.length q2) (slice p3 X.gold.length q3) (slice p4 X.us.length q4) (slice p5 X.qs.length q5) u->Hm w V (slice (some xk) ks.length qk) X (slice p1 X.gs.length q1) (slice p2 X.os.length q2) (slice p3 X.gold.length q3) (slice p4 X.us.length q4) (slice p5 X.qs.length q5) u/\V.cell? ⟨w.heap.size+2,3,none⟩=some (int i64 (an:Nat))/\V.cell? ⟨w.heap.size+2,2,none⟩=some (int i64 (kn:Nat))/\V.cell? ⟨(xk.add (kn*11)).block,(xk.add (kn*11)).off+9,none⟩=some (.bool k.f)):=λV h=>⟨h,by have:=h.u.c3;rw[HE.out.2] at this;exact this,by have:=h.u.c2;rw[HE.out.1] at this;exact this,(KK.1.below h.b KK.2).c9⟩
 go_cut [7,8] (λv7 v8 V=>v8=.nilIface/\∃bf b l,v7=.pointer (some ⟨bf,0,none⟩)/\V.cell? ⟨bf,0,none⟩=some (slice (some ⟨b,0,none⟩) (Wn*Hn) (Wn*Hn))/\Ro V (slice (some ⟨b,0,none⟩) (Wn*Hn) (Wn*Hn)) l/\(Wy.dK (Fd.near Wn Hn) (λi _=>ss.getD i 0) an (Wn*Hn) l/\Wy.Flat l)/\Hm w V (slice (some xk) ks.length qk) X (slice p1 X.gs.length q1) (slice p2 X.os.length q2) (slice p3 X.gold.length q3) (slice p4 X.us.length q4) (slice p5 X.qs.length q5) u)
 case first=>
  refine tq 14 [(true,0),(true,1),(true,2),(true,3),(true,4),(true,5),(true,6),(true,7),(true,8),(true,9),(false,10),(true,11),(true,12),(true,13)] [(false,15)] [(false,16)] (λV=>Hm w V (slice (some xk) ks.length qk) X (slice p1 X.gs.length q1) (slice p2 X.os.length q2) (slice p3 X.gold.length q3) (slice p4 X.us.length q4) (slice p5 X.qs.length q5) u/\V.cell? ⟨w.heap.size+2,3,none⟩=some (int i64 (an:Nat))/\V.cell? ⟨w.heap.size+2,2,none⟩=some (int i64 (kn:Nat))/\V.cell? ⟨(xk.add (kn*11)).block,(xk.add (kn*11)).off+9,none⟩=some (.bool k.f)) (by kernel_rfl) (by kernel_rfl) (by kernel_rfl) (by decide+kernel) (by decide+kernel) (CB _ (M0.below (aB.drew) M0.sz)) ?_;have M1:Hid (Hm w {w0 with drawn:=w0.drawn+1} (slice (some xk) ks.length qk) X (slice p1 X.gs.length q1) (slice p2 X.os.length q2) (slice p3 X.gold.length q3) (slice p4 X.us.length q4) (slice p5 X.qs.length q5) u):=M0.below (aB.drew) M0.sz;generalize ({w0 with drawn:=w0.drawn+1}:World)=w1 at *;clear M0;refine eH rfl (.pointer (some ⟨w.heap.size+1,2,none⟩)) (by go_simp) (λV hV=>by go_simp) ?_;go_simp;refine eH rfl (.agg #[int i64 X.wide,int i64 X.high,slice p1 X.gs.length q1,slice p2 X.os.length q2]) (by go_simp) (λV hV=>by obtain⟨⟨-,hk0,⟨x0,x1,x2,x3,x4,x5,x6,x7,x8⟩,-⟩,ca,VH,VI⟩:=hV;go_simp) ?_;go_simp;refine eH rfl (.pointer (some ⟨w.heap.size+2,3,none⟩)) (by go_simp) (λV hV=>by go_simp) ?_;go_simp;refine eH rfl (int i64 (an:Nat)) (by go_simp) (λV hV=>by obtain⟨⟨-,hk0,⟨x0,x1,x2,x3,x4,x5,x6,x7,x8⟩,-⟩,ca,VH,VI⟩:=hV;go_simp) ?_;go_simp;refine eH rfl (slice (some xk) ks.length qk) (by go_simp) (λV hV=>by obtain⟨⟨-,hk0,⟨x0,x1,x2,x3,x4,x5,x6,x7,x8⟩,-⟩,ca,VH,VI⟩:=hV;go_simp) ?_;go_simp;refine eH rfl (.pointer (some ⟨w.heap.size+2,2,none⟩)) (by go_simp) (λV hV=>by go_simp) ?_;go_simp;refine eH rfl (int i64 (kn:Nat)) (by go_simp) (λV hV=>by obtain⟨⟨-,hk0,⟨x0,x1,x2,x3,x4,x5,x6,x7,x8⟩,-⟩,ca,VH,VI⟩:=hV;go_simp) ?_;go_simp;refine eH rfl (.pointer (some (xk.add (kn*11)))) (by go_simp) (λV hV=>by go_simp) ?_;go_simp;refine eH rfl (.pointer (some ⟨(xk.add (kn*11)).block,(xk.add (kn*11)).off+9,none⟩)) (by go_simp) (λV hV=>by go_simp) ?_;go_simp;refine eH rfl (.bool k.f) (by go_simp) (λV hV=>by obtain⟨⟨-,hk0,⟨x0,x1,x2,x3,x4,x5,x6,x7,x8⟩,-⟩,ca,VH,VI⟩:=hV;go_simp) ?_;go_simp;refine Gt rfl 260 #[.agg #[int i64 X.wide,int i64 X.high,slice p1 X.gs.length q1,slice p2 X.os.length q2],int i64 (an:Nat),.bool k.f] (by go_simp) (by go_simp) ?_ rfl (.pointer (some ⟨w1.heap.size,0,none⟩)) (w1.alloc (cells #[slice none 0 0] 23)) (by go_simp) (by go_simp) (CB _ (M1.below aA M1.sz)) ?_
  ·have FL:Hid (Fl w1 (.agg #[int i64 X.wide,int i64 X.high,slice p1 X.gs.length q1,slice p2 X.os.length q2]) (Wn:Nat) (Hn:Nat) X.gs X.os):=by
    have:=sN (H.below M1.b);rw[GD.out.2.1,GD.out.2.2.1] at this;rw[GD.out.2.1,GD.out.2.2.1];exact this
   refine(JQ _ Wn Hn X.gs X.os an k.f w1 FL (S.below M1.b) GD.1 GD.2.2.2.1).mono ?_;rintro e w2 ⟨b,l,rfl,hb0,hro,hf,hb⟩;rw[Px.out] at hf;have M2:Hid (Hm w w2 (slice (some xk) ks.length qk) X (slice p1 X.gs.length q1) (slice p2 X.os.length q2) (slice p3 X.gold.length q3) (slice p4 X.us.length q4) (slice p5 X.qs.length q5) u):=M1.below hb M1.sz;have R2:Hid (Ro w2 (slice (some ⟨b,0,none⟩) (Wn*Hn) (Wn*Hn)) l):=hro;have FF:Hid (Wy.dK (Fd.near Wn Hn) (λi _=>ss.getD i 0) an (Wn*Hn) l/\Wy.Flat l):=hf;have BL:Hid (b<w2.heap.size):=by
    obtain⟨a9,c9,he9,-,-,h9⟩:=hro;injection he9 with he9
    obtain⟨x9,hx9,hx8,-⟩:=h9 (by intro h;have h8:=hf.1.1;rw[h] at h8;have:=GD.out.2.2.2.1;simp at h8;omega);rw[<-he9] at hx9;injection hx9 with hx9
    rw[<-hx9] at hx8;exact hx8
   refine⟨_,rfl,CB _ M2,?_⟩;clear hb hb0 hro hf M1 FL;go_simp;refine eH rfl (.tuple #[slice (some ⟨b,0,none⟩) (Wn*Hn) (Wn*Hn),.nilIface]) (by go_simp) (λV hV=>by go_simp) ?_;go_simp;refine eH rfl (slice (some ⟨b,0,none⟩) (Wn*Hn) (Wn*Hn)) (by go_simp) (λV hV=>by go_simp) ?_;go_simp;refine eH rfl .nilIface (by go_simp) (λV hV=>by go_simp) ?_;go_simp;have BQ:Hid (Below w2.heap.size w2 (w2.alloc (cells #[slice none 0 0] 23))):=aA;obtain⟨bf,hbf⟩:∃z,w2.heap.size=z:=⟨_,rfl⟩;have bc0:(w2.alloc (cells #[slice none 0 0] 23)).cell? ⟨bf,0,none⟩=some (slice none 0 0):=bD hbf rfl;have bb0:(w2.alloc (cells #[slice none 0 0] 23)).heap[bf]? =some (.cells #[slice none 0 0] 23 (0,0)):=by subst hbf;exact heap_alloc_new _ _
   refine Gu rfl (.pointer (some ⟨w2.heap.size,0,none⟩)) (w2.alloc (cells #[slice none 0 0] 23)) (by go_simp) (by go_simp) (CB _ (M2.below BQ M2.sz)) ?_;rw[hbf];go_simp;generalize (w2.alloc (cells #[slice none 0 0] 23))=w6 at *;have M6:Hid (Hm w w6 (slice (some xk) ks.length qk) X (slice p1 X.gs.length q1) (slice p2 X.os.length q2) (slice p3 X.gold.length q3) (slice p4 X.us.length q4) (slice p5 X.qs.length q5) u):=M2.below BQ M2.sz;have R6:Hid (Ro w6 (slice (some ⟨b,0,none⟩) (Wn*Hn) (Wn*Hn)) l):=R2.below BQ;have NB:Hid (w.heap.size+3<=bf/\b≠bf):=⟨by rw[<-hbf];exact M2.sz,by have:=BL.out;omega⟩;have bb:w6.heap[bf]? =some (.cells #[slice none 0 0] 23 (0,0)):=bb0;have bc:w6.cell? ⟨bf,0,none⟩=some (slice none 0 0):=by simp[World.cell?,bb]
   have bz:w6.frozen? ⟨bf,0,none⟩=false:=by simp[World.frozen?,bb]
   clear M2 R2 BQ hbf bc0 bb0 BL;have KS:Hid (Kp bf w6 (w6.setCell ⟨bf,0,none⟩ (slice (some ⟨b,0,none⟩) (Wn*Hn) (Wn*Hn)))):=Kp.set _ _ _;have MS:Hid (Hm w (w6.setCell ⟨bf,0,none⟩ (slice (some ⟨b,0,none⟩) (Wn*Hn) (Wn*Hn))) (slice (some xk) ks.length qk) X (slice p1 X.gs.length q1) (slice p2 X.os.length q2) (slice p3 X.gold.length q3) (slice p4 X.us.length q4) (slice p5 X.qs.length q5) u):=M6.below (n:=w.heap.size+3) (KS.below aB M6.sz NB.1) aN;have RS:Hid (Ro (w6.setCell ⟨bf,0,none⟩ (slice (some ⟨b,0,none⟩) (Wn*Hn) (Wn*Hn))) (slice (some ⟨b,0,none⟩) (Wn*Hn) (Wn*Hn)) l):=YS R6 KS NB.2;have CS:Hid ((w6.setCell ⟨bf,0,none⟩ (slice (some ⟨b,0,none⟩) (Wn*Hn) (Wn*Hn))).cell? ⟨bf,0,none⟩=some (slice (some ⟨b,0,none⟩) (Wn*Hn) (Wn*Hn))):=by
    have h9:=heap_setCell_same _ bf 0 _ _ (slice (some ⟨b,0,none⟩) (Wn*Hn) (Wn*Hn)) bb;unfold Hid;simp[World.cell?,h9]
   clear KS bb;refine vF rfl (w6.setCell ⟨bf,0,none⟩ (slice (some ⟨b,0,none⟩) (Wn*Hn) (Wn*Hn))) (by go_simp) (by go_simp) (CB _ MS) ?_;go_simp;generalize (w6.setCell ⟨bf,0,none⟩ (slice (some ⟨b,0,none⟩) (Wn*Hn) (Wn*Hn)))=w9 at *;unfold dw;refine aW rfl .nilIface w9 (by go_simp) (by go_simp) trivial ?_;go_simp;unfold bC;go_wp2_with fail
   go_meet
   case rel=>exact⟨rfl,bf,b,l,rfl,CS,RS,FF,MS⟩
  ·have BQ:Hid (Below w1.heap.size w1 (w1.alloc (cells #[slice none 0 0] 23))):=aA
   obtain⟨bf,hbf⟩:∃z,w1.heap.size=z:=⟨_,rfl⟩;have bc0:(w1.alloc (cells #[slice none 0 0] 23)).cell? ⟨bf,0,none⟩=some (slice none 0 0):=bD hbf rfl;have bz0:(w1.alloc (cells #[slice none 0 0] 23)).heap[bf]? =some (.cells #[slice none 0 0] 23 (0,0)):=by subst hbf;exact heap_alloc_new _ _
   rw[hbf];go_simp;generalize (w1.alloc (cells #[slice none 0 0] 23))=w2 at *;have M2:Hid (Hm w w2 (slice (some xk) ks.length qk) X (slice p1 X.gs.length q1) (slice p2 X.os.length q2) (slice p3 X.gold.length q3) (slice p4 X.us.length q4) (slice p5 X.qs.length q5) u):=M1.below BQ M1.sz;have BF:Hid (w.heap.size+3<=bf/\bf<w2.heap.size/\w2.heap[bf]? =some (.cells #[slice none 0 0] 23 (0,0))):=⟨by rw[<-hbf];exact M1.sz,lt_of_block bz0,bz0⟩;clear M1 BQ hbf bc0 bz0;refine dH rfl 260 #[.agg #[int i64 X.wide,int i64 X.high,slice p1 X.gs.length q1,slice p2 X.os.length q2],int i64 (an:Nat),.bool k.f] (by go_simp) (by go_simp) ?_;have FL:Hid (Fl w2 (.agg #[int i64 X.wide,int i64 X.high,slice p1 X.gs.length q1,slice p2 X.os.length q2]) (Wn:Nat) (Hn:Nat) X.gs X.os):=by
    have:=sN (H.below M2.b);rw[GD.out.2.1,GD.out.2.2.1] at this;rw[GD.out.2.1,GD.out.2.2.1];exact this
   refine(JQ _ Wn Hn X.gs X.os an k.f w2 FL (S.below M2.b) GD.1 GD.2.2.2.1).mono ?_;rintro e w6 ⟨b,l,rfl,hb0,hro,hf,hb⟩;rw[Px.out] at hf;have M6:Hid (Hm w w6 (slice (some xk) ks.length qk) X (slice p1 X.gs.length q1) (slice p2 X.os.length q2) (slice p3 X.gold.length q3) (slice p4 X.us.length q4) (slice p5 X.qs.length q5) u):=M2.below hb M2.sz;have R6:Hid (Ro w6 (slice (some ⟨b,0,none⟩) (Wn*Hn) (Wn*Hn)) l):=hro;have FF:Hid (Wy.dK (Fd.near Wn Hn) (λi _=>ss.getD i 0) an (Wn*Hn) l/\Wy.Flat l):=hf;have bb:w6.heap[bf]? =some (.cells #[slice none 0 0] 23 (0,0)):=by rw[hb.block bf BF.out.2.1];exact BF.2.2
   have bc:w6.cell? ⟨bf,0,none⟩=some (slice none 0 0):=by simp[World.cell?,bb]
   have bz:w6.frozen? ⟨bf,0,none⟩=false:=by simp[World.frozen?,bb]
   have NB:Hid (w.heap.size+3<=bf/\b≠bf):=⟨BF.1,by have:=BF.out.2.1;omega⟩;refine⟨_,rfl,CB _ M6,?_⟩;clear hb hb0 hro hf M2 FL BF;go_simp;refine au rfl (.tuple #[slice (some ⟨b,0,none⟩) (Wn*Hn) (Wn*Hn),.nilIface]) (by go_simp) (λV hV=>by go_simp) ?_;go_simp;refine au rfl (slice (some ⟨b,0,none⟩) (Wn*Hn) (Wn*Hn)) (by go_simp) (λV hV=>by go_simp) ?_;go_simp;refine au rfl .nilIface (by go_simp) (λV hV=>by go_simp) ?_;go_simp;have KS:Hid (Kp bf w6 (w6.setCell ⟨bf,0,none⟩ (slice (some ⟨b,0,none⟩) (Wn*Hn) (Wn*Hn)))):=Kp.set _ _ _;have MS:Hid (Hm w (w6.setCell ⟨bf,0,none⟩ (slice (some ⟨b,0,none⟩) (Wn*Hn) (Wn*Hn))) (slice (some xk) ks.length qk) X (slice p1 X.gs.length q1) (slice p2 X.os.length q2) (slice p3 X.gold.length q3) (slice p4 X.us.length q4) (slice p5 X.qs.length q5) u):=M6.below (n:=w.heap.size+3) (KS.below aB M6.sz NB.1) aN;have RS:Hid (Ro (w6.setCell ⟨bf,0,none⟩ (slice (some ⟨b,0,none⟩) (Wn*Hn) (Wn*Hn))) (slice (some ⟨b,0,none⟩) (Wn*Hn) (Wn*Hn)) l):=YS R6 KS NB.2;have CS:Hid ((w6.setCell ⟨bf,0,none⟩ (slice (some ⟨b,0,none⟩) (Wn*Hn) (Wn*Hn))).cell? ⟨bf,0,none⟩=some (slice (some ⟨b,0,none⟩) (Wn*Hn) (Wn*Hn))):=by
    have h9:=heap_setCell_same _ bf 0 _ _ (slice (some ⟨b,0,none⟩) (Wn*Hn) (Wn*Hn)) bb;unfold Hid;simp[World.cell?,h9]
   clear KS bb;refine vF rfl (w6.setCell ⟨bf,0,none⟩ (slice (some ⟨b,0,none⟩) (Wn*Hn) (Wn*Hn))) (by go_simp) (by go_simp) (CB _ MS) ?_;go_simp;generalize (w6.setCell ⟨bf,0,none⟩ (slice (some ⟨b,0,none⟩) (Wn*Hn) (Wn*Hn)))=w9 at *;unfold dw;refine aW rfl .nilIface w9 (by go_simp) (by go_simp) trivial ?_;go_simp;unfold bC;go_wp2_with fail
   go_meet
   case rel=>exact⟨rfl,bf,b,l,rfl,CS,RS,FF,MS⟩
 case rest=>
  obtain⟨rfl,bf,b,l,rfl,hcf,hro,VU,hm⟩:=hcut;have M1:Hid (Hm w wc (slice (some xk) ks.length qk) X (slice p1 X.gs.length q1) (slice p2 X.os.length q2) (slice p3 X.gold.length q3) (slice p4 X.us.length q4) (slice p5 X.qs.length q5) u):=hm;have RF:=aj (dJ hro hcf);have FF:Hid (Wy.dK (Fd.near Wn Hn) (λi _=>ss.getD i 0) an (Wn*Hn) l/\Wy.Flat l):=VU;clear hcf hro VU hm M0 CB;obtain⟨x0,x1,x2,x3,x4,x5,x6,x7,x8⟩:=M1.x;have US:Hid (oP w (slice p4 X.us.length q4) X.us):=H.slices.2.2.2.1;go_wp2_with fail
  refine(clone_any _ X.us wc (US.below M1.b) GD.2.2.2.2.1).mono ?_;rintro e w2 ⟨v,rfl,ho,hb⟩;have O2:Hid (fD w2 wc.heap.size v X.us):=ho;have B2:Hid (Below wc.heap.size wc w2):=hb;have LL:Hid (l.length=Wn*Hn):=FF.1.1;have ZS:Hid (w.heap.size+3<=wc.heap.size/\bf<wc.heap.size):=⟨M1.sz,cell_lt RF.2⟩;have PR:Hid (∀W,Below wc.heap.size wc W->∀h∈X.us,Calls prog 261 (#[h.val]++ #[.pointer (some ⟨w.heap.size+2,0,none⟩),.pointer (some ⟨w.heap.size,0,none⟩),.pointer (some ⟨bf,0,none⟩)]) W λe w'=>e=.returned (.bool (mV ks l u.ay h))/\Below W.heap.size W w'):=λW hW h hh=>by
   have fit:=GD.2.2.2.2.2 h hh;have z1:=ZS.out.1;refine RH ks l h u.ay (w.heap.size+2) w.heap.size bf _ _ W ?_ ?_ ?_ ((KL0.below M1.b).below hW) (RF.1.below hW) fit.1 (by rw[LL.out];exact fit.2)
   ·rw[hW.cell (p:=⟨w.heap.size+2,1,none⟩) (show w.heap.size+2<wc.heap.size by omega)]
    exact M1.u.c1
   ·rw[hW.cell (p:=⟨w.heap.size,0,none⟩) (show w.heap.size<wc.heap.size by omega)]
    exact M1.k
   ·rw[hW.cell (p:=⟨bf,0,none⟩) ZS.out.2]
    exact RF.2
  clear ho hb x0 x1 x2 x3 x4 x5 x6 x7 x8;go_wp2_with fail
  refine(del_any 261 (by intro args w;go_simp) v #[.pointer (some ⟨w.heap.size+2,0,none⟩),.pointer (some ⟨w.heap.size,0,none⟩),.pointer (some ⟨bf,0,none⟩)] X.us (mV ks l u.ay) w2 wc.heap.size O2 B2.size GD.2.2.2.2.1 (λW hW h hh=>PR W (B2.trans hW) h hh)).mono ?_;rintro e w3 ⟨v3,rfl,ho,hb⟩;have B3:Hid (Below wc.heap.size wc w3):=B2.trans hb;have L3:Hid (oP w3 v3 (homes ks X.us l u.ay)):=ho.l;obtain⟨a3,c3,rfl⟩:=ho.len;obtain⟨hs,JU⟩:∃hs,homes ks X.us l u.ay=hs:=⟨_,rfl⟩;have HS:Hid (homes ks X.us l u.ay=hs):=JU;have e3:(X.us.filter (λk=> !mV ks l u.ay k)).length=hs.length:=by rw[<-JU];rfl
  rw[JU,e3] at L3;rw[e3];clear ho hb e3 JU O2 B2;have UB:Hid (fA w3 ⟨w.heap.size+2,0,none⟩ u):=M1.u.below B3 (show w.heap.size+2<wc.heap.size by have:=ZS.out.1;omega);have BW:Hid (Below w.heap.size w w3):=M1.b.trans (B3.mono (by have:=ZS.out.1;omega));cases hs with
  |nil=>
   have HA:Hid (mW ks X.us l u=u.at_):=by unfold Hid mW;rw[HS.out]
   obtain⟨q0',q1',q2',q3',q4',q5',q6',q7'⟩:=UB;simp only[aS];go_wp2;go_ret;exact⟨l,by rw[HA.out];rfl,FF,BW⟩
  |cons y0 tl=>
   have HA:Hid (mW ks X.us l u=(kN (λh=>l.getD h.at_.toNat 0) y0 tl).at_):=by unfold Hid mW;rw[HS.out]
   have HM:Hid (∀h∈y0::tl,h∈X.us):=λh hh=>by rw[<-HS.out] at hh;exact(List.mem_filter.1 hh).1
   have TL:Hid (tl.length<=1000000):=by
    have h1:(homes ks X.us l u.ay).length<=X.us.length:=List.length_filter_le _ _;rw[HS.out,dI] at h1;have h2:=GD.out.2.2.2.2.1;unfold Hid;omega
   have hne:(((y0::tl).length:Nat):Int)≠0:=by rw[dI];omega
   have hne':((((y0::tl).length:Nat):Int)==0)=false:=by rw[beq_eq_false_iff_ne];exact hne
   obtain⟨n,hn⟩:∃n,(y0::tl).length=n:=⟨_,rfl⟩;have HN:Hid ((y0::tl).length=n):=hn;rw[hn] at hne hne' ⊢;clear hn;have L4:Hid (oP w3 (slice a3 n c3) (y0::tl)):=by rw[<-HN.out];exact L3
   clear L3;go_wp2_with fail
   refine(Xm 262 (by intro args w;go_simp) _ #[.pointer (some ⟨bf,0,none⟩)] y0 tl (λh=>l.getD h.at_.toNat 0) w3 L4 TL (λW hW a ha b hb=>?_)).mono ?_
   ·have fa:=(GD.2.2.2.2.2 a (HM a ha)).2
    have fb:=(GD.2.2.2.2.2 b (HM b hb)).2;refine MH l a b bf _ W ?_ ((RF.1.below B3).below hW) (RI FF GD.1.pos.2) (by rw[LL.out];exact fa) (by rw[LL.out];exact fb);rw[hW.cell (p:=⟨bf,0,none⟩) (fE ZS.out.2 B3.out.size),B3.out.cell (p:=⟨bf,0,none⟩) ZS.out.2];exact RF.2
   ·rintro e w4 ⟨rfl,hb⟩
    have B4:Hid (Below w.heap.size w w4):=BW.trans (hb.mono BW.size);obtain⟨m,hm⟩:∃m,kN (λh=>l.getD h.at_.toNat 0) y0 tl=m:=⟨_,rfl⟩;rw[hm] at HA ⊢;clear hb hm;unfold aI.val;have hfa:=λW=>RJ m W
    go_wp2;go_ret;exact⟨l,by rw[HA.out];rfl,FF,B4⟩
structure Am(w V:World)(X:WV)(u1 u2 u3 u4 u5:Value)(u:aI):Prop where
 b:Below w.heap.size w V
 x:Bw V w.heap.size X u1 u2 u3 u4 u5
 u:fA V ⟨w.heap.size+1,0,none⟩ u
theorem Am.below(h:Am w V X u1 u2 u3 u4 u5 u)(hb:Below V.heap.size V V'):Am w V' X u1 u2 u3 u4 u5 u:=
 ⟨h.b.trans (hb.mono h.b.size),h.x.below hb h.x.lt,h.u.below hb h.u.lt⟩
theorem Am.new(X:WV)(u1 u2 u3 u4 u5:Value)(u:aI):Am w ((w.alloc (cells #[int i64 X.turn,int i64 X.next,int i64 X.wide,int i64 X.high,u1,u2,u3,u4,u5] 29)).alloc (cells #[int i64 u.id,int i64 u.ay,int i64 u.kind,int i64 u.at_,int i64 u.life,int i64 u.load,int i64 u.task,int i64 u.goal] 74)) X u1 u2 u3 u4 u5 u:=
 ⟨aA.alloc (by simp) _,(Bw.mk' X _ _ _ _ _ rfl).below aA (by simp),fA.mk' u (by simp)⟩
def nY(os:List Int)(u:aI)(k:KV):Bool:=(u.load==k.n7)||(os.getD u.goal.toNat 0==0)
theorem Gv(vk vw:Value)(ks:List KV)(X:WV)(u:aI)(k:KV)(w:World)(hk:Kl w vk ks)(hw:Wl w vw X)(h1:0<=u.kind/\u.kind<(ks.length:Int))(hk':ks[u.kind.toNat]? =some k)(h2:0<=u.goal/\u.goal<(X.os.length:Int)):
  Calls prog 235 #[vk,vw,u.val] w λe w'=>e=.returned (.bool (nY X.os u k))/\Below w.heap.size w w':=by
 obtain⟨kn,hkn⟩:∃n:Nat,u.kind=n:=⟨u.kind.toNat,by omega⟩;obtain⟨gn,hgn⟩:∃n:Nat,u.goal=n:=⟨u.goal.toNat,by omega⟩;have hkl:kn<ks.length:=by omega
 have hgl:gn<X.os.length:=by omega
 have hkk:ks[kn]? =some k:=by rw[hkn,bF] at hk';exact hk'
 have DU:Hid (nY X.os u k=((u.load==k.n7)||(X.os[gn]==0))):=by unfold Hid nY;rw[hgn,bF,dD,aH hgl];rfl
 have H:=aj (hw);obtain⟨p1,q1,p2,q2,p3,q3,p4,q4,p5,q5,rfl⟩:=aX hw;obtain⟨pk,qk,rfl,ck1,ck2,kc⟩:=hk;obtain⟨xk,rfl,hxl,hxc⟩:=kc (by intro h;subst h;simp at hkl);have KK:Hid (Kc w (xk.add (kn*11)) k/\(xk.add (kn*11)).block<w.heap.size):=⟨hxc kn k hkk,by rw[add_block];exact hxl⟩;have HE:Hid (u.kind=(kn:Nat)/\u.goal=(gn:Nat)):=⟨hkn,hgn⟩;clear hw h1 hk' h2 hkn hgn kc hxc hxl hkk;unfold aI.val;go_enter func235,ntmps235;go_upto_region 1 with fail
 have A0:Hid (Am w _ X (slice p1 X.gs.length q1) (slice p2 X.os.length q2) (slice p3 X.gold.length q3) (slice p4 X.us.length q4) (slice p5 X.qs.length q5) u):=Am.new X _ _ _ _ _ u;generalize ((w.alloc _).alloc _)=w0 at *;obtain⟨x0,x1,x2,x3,x4,x5,x6,x7,x8⟩:=A0.x;obtain⟨y0,y1,y2,y3,y4,y5,y6,y7⟩:=A0.u;rw[HE.out.1] at y2;rw[HE.out.2] at y7;have c8:=(KK.1.below A0.b KK.2).c8;obtain⟨ao,co,he,-,-,hoc⟩:=(H.below A0.b).slices.2.1;obtain⟨xo,hxo,-,abg⟩:=hoc (by intro h;rw[h] at hgl;simp at hgl);injection he with he1 he2 he3
 subst he1;subst hxo;have cg:=abg gn _ (aH hgl);clear hoc abg he2 he3;have BB:=aj (A0.b);by_cases hd:u.load=k.n7
 ·have D1:Hid (nY X.os u k=true):=by unfold Hid;rw[DU.out,hd];simp
  rw[hd] at y5;go_quiet (fail);go_wp2;go_ret;exact⟨by rw[D1.out];rfl,⟨BB.os,BB.tape,BB.output,BB.size,BB.block⟩⟩
 ·have hd':(u.load==k.n7)=false:=by rw[beq_eq_false_iff_ne];exact hd
  by_cases hg:X.os[gn]=0
  ·have D1:Hid (nY X.os u k=true):=by unfold Hid;rw[DU.out,hg];simp
   rw[hg] at cg;go_quiet (fail);go_wp2;go_ret;exact⟨by rw[D1.out];rfl,⟨BB.os,BB.tape,BB.output,BB.size,BB.block⟩⟩
  ·have hg':(X.os[gn]==0)=false:=by rw[beq_eq_false_iff_ne];exact hg
   have D1:Hid (nY X.os u k=false):=by unfold Hid;rw[DU.out,hd',hg'];rfl
   go_quiet (fail);go_wp2;go_ret;exact⟨by rw[D1.out];first|rfl|simp[hg'],⟨BB.os,BB.tape,BB.output,BB.size,BB.block⟩⟩
def mX(ks:List KV)(X:WV)(Wn Hn:Nat)(u:aI)(k:KV)(c:Int):Prop:=
 (u.task=0/\c=u.at_)\/(u.task≠0/\¬(u.task=2/\nY X.os u k=true)/\c=u.goal)\/
  (u.task=2/\nY X.os u k=true/\∃l,(Wy.dK (Fd.near Wn Hn) (λi _=>(X.gs.map λg=>Fd.onto g k.f).getD i 0) u.at_.toNat (Wn*Hn) l/\Wy.Flat l)/\c=mW ks X.us l u)
theorem Xn(vk vw:Value)(ks:List KV)(X:WV)(u:aI)(Wn Hn:Nat)(k:KV)(w:World)(hk:Kl w vk ks)(hw:Wl w vw X)(hs:Sd w)(G:Fd.Good Wn Hn X.gs X.os)(e1:X.wide=(Wn:Nat))(e2:X.high=(Hn:Nat))(hl:X.us.length<=1000000)
  (hu:Fit ks (Wn*Hn) u) (hk':ks[u.kind.toNat]? =some k) (hus:∀h∈X.us,Fit ks (Wn*Hn) h) (hg:0<=u.goal/\u.goal<(Wn*Hn:Nat)):
  Calls prog 196 #[vk,vw,u.val] w λe w'=>∃c,e=.returned (int i64 c)/\mX ks X Wn Hn u k c/\Below w.heap.size w w':=by
 have H:=aj (hw);have K:=aj (hk);have S:=aj (hs);have GD:Hid (Fd.Good Wn Hn X.gs X.os/\X.wide=(Wn:Nat)/\X.high=(Hn:Nat)/\X.us.length<=1000000/\Fit ks (Wn*Hn) u/\ks[u.kind.toNat]? =some k/\(∀h∈X.us,Fit ks (Wn*Hn) h)/\0<=u.goal/\u.goal<(X.os.length:Int)):=⟨G,e1,e2,hl,hu,hk',hus,hg.1,by rw[G.ol];exact hg.2⟩;obtain⟨p1,q1,p2,q2,p3,q3,p4,q4,p5,q5,rfl⟩:=aX hw;obtain⟨pk,qk,rfl,ck1,ck2,-⟩:=hk;clear hw hs G e1 e2 hl hu hk' hus hg;have UV:Hid (u.val=.agg _):=rfl;rw[UV.out];go_enter func196,ntmps196;go_upto_region 1 with fail
 have A0:Hid (Am w _ X (slice p1 X.gs.length q1) (slice p2 X.os.length q2) (slice p3 X.gold.length q3) (slice p4 X.us.length q4) (slice p5 X.qs.length q5) u):=Am.new X _ _ _ _ _ u;generalize ((w.alloc _).alloc _)=w0 at *;obtain⟨x0,x1,x2,x3,x4,x5,x6,x7,x8⟩:=A0.x;obtain⟨y0,y1,y2,y3,y4,y5,y6,y7⟩:=A0.u;by_cases h0:u.task=0
 ·have T0:=aj (h0)
  rw[h0] at y6;clear h0;go_wp2;go_ret;exact⟨u.at_,rfl,.inl ⟨T0,rfl⟩,A0.b⟩
 have T0:Hid (u.task≠0):=h0;have h0':(u.task==0)=false:=by rw[beq_eq_false_iff_ne];exact h0
 by_cases h2:u.task=2
 ·have T2:=aj (h2)
  have h2':(u.task==2)=true:=by rw[h2];rfl
  clear h0 h2;have ID:Hid (Calls prog 235 #[slice pk ks.length qk,.agg #[int i64 X.turn,int i64 X.next,int i64 X.wide,int i64 X.high,slice p1 X.gs.length q1,slice p2 X.os.length q2,slice p3 X.gold.length q3,slice p4 X.us.length q4,slice p5 X.qs.length q5],.agg #[int i64 u.id,int i64 u.ay,int i64 u.kind,int i64 u.at_,int i64 u.life,int i64 u.load,int i64 u.task,int i64 u.goal]] w0 λe w'=>e=.returned (.bool (nY X.os u k))/\Below w0.heap.size w0 w'):=by
   have h:=Gv _ _ ks X u k w0 (K.below A0.b) (H.below A0.b) GD.2.2.2.2.1.1 GD.2.2.2.2.2.1 GD.2.2.2.2.2.2.2;rw[UV.out] at h;exact h
  go_wp2_with fail
  refine Calls.mono ID ?_;rintro e w1 ⟨rfl,hb⟩;have A1:=aj (A0.below hb);obtain⟨dn,hdn⟩:∃d,nY X.os u k=d:=⟨_,rfl⟩;have DN:=aj (hdn);rw[hdn];clear hb hdn A0 x0 x1 x2 x3 x4 x5 x6 x7 x8 y0 y1 y2 y3 y4 y5 y6 y7;obtain⟨x0,x1,x2,x3,x4,x5,x6,x7,x8⟩:=A1.x;obtain⟨y0,y1,y2,y3,y4,y5,y6,y7⟩:=A1.u;cases dn with
  |true=>
   have hh:=RP _ _ ks X u Wn Hn k w1 (K.below A1.b) (H.below A1.b) (S.below A1.b) GD.1 GD.2.1 GD.2.2.1 GD.2.2.2.1 GD.2.2.2.2.1 GD.2.2.2.2.2.1 GD.2.2.2.2.2.2.1;rw[UV.out] at hh;have HH:Hid _:=hh;clear hh;go_wp2_with fail
   refine Calls.mono HH ?_;rintro e w2 ⟨l,rfl,hf,hb⟩;have F:Hid (mX ks X Wn Hn u k _):=.inr (.inr ⟨T2,DN,l,hf,rfl⟩);have B2:=aj (A1.b.trans (hb.mono A1.b.size));obtain⟨c,hc⟩:∃c,mW ks X.us l u=c:=⟨_,rfl⟩;rw[hc] at F ⊢;clear hb hf hc x0 x1 x2 x3 x4 x5 x6 x7 x8 y0 y1 y2 y3 y4 y5 y6 y7;go_wp2;go_ret;exact⟨c,rfl,F,B2⟩
  |false=>
   go_wp2;go_ret;exact⟨u.goal,rfl,.inr (.inl ⟨T0,λh=>(by have h9:=h.2;rw[DN.out] at h9;cases h9),rfl⟩),A1.b⟩
 ·have h2':(u.task==2)=false:=by rw[beq_eq_false_iff_ne];exact h2
  have T2:Hid (u.task≠2):=h2;clear h0 h2;go_wp2;go_ret;exact⟨u.goal,rfl,.inr (.inl ⟨T0,λh=>T2 h.1,rfl⟩),A0.b⟩
open Wy
theorem RQ:∀args w,(callFunc 277 args).run prog w=.ok (.enter 277 args) w:=by
 intro args w;go_simp
theorem abh(z n:Nat)(u1 u2:Value)(ss:List Int)(i j:Nat)(w:World)(X:Bl w z u1 u2)(hu:Ro w u2 ss)(hl:ss.length=n)(hi:i<n):
  Calls prog 277 #[int i64 (i:Nat),int i64 (j:Nat),.pointer (some ⟨z,0,none⟩)] w λe w'=>e=.returned (int i64 (ss.getD i 0))/\w'=w:=by
 obtain⟨a,c,rfl,c1,c2,ca⟩:=hu;obtain⟨x,rfl,-,hx⟩:=ca (by intro e;rw[e] at hl;simp at hl;omega);have e:ss[i]? =some (ss.getD i 0):=by rw[dD,aH (by omega)];rfl
 have cx:=hx i _ e;have x1:=X.c1;generalize ss.getD i 0=s at *;rw[hl] at *;clear hx ca e X;go_enter func277,ntmps277;go_wp2;go_ret;exact⟨rfl,rfl⟩
theorem RU(v:Value)(n t:Nat)(nb:Nat->List Int)(ss:List Int)(w:World)(h:Ld w v n nb ss)(E:Even nb (λ_ j=>ss.getD j 0) n)(ht:t<n)(hn:n<=144)(h4:∀i,(nb i).length<=4):
  Calls prog 258 #[v,int i64 (t:Nat)] w λe w'=>∃b l,e=.returned (slice (some ⟨b,0,none⟩) n n)/\w.heap.size<=b/\Bk w' b l #[]/\(dK nb (λ_ j=>ss.getD j 0) t n l/\Flat l)/\Below w.heap.size w w':=by
 have L0:=aj (h);have E0:=aj (E);have T0:Hid (t<n/\n<=144/\∀i,(nb i).length<=4):=⟨ht,hn,h4⟩;obtain⟨u1,u2,rfl,hb1,hr2,hl⟩:=h;have R2:Hid (Ro w u2 ss/\ss.length=n):=⟨hr2,hl⟩;obtain⟨x1,c1,e1,-⟩:=hb1;obtain⟨x2,c2,e2,-⟩:=hr2;clear ht hn h4 E hl;have b0:Below _ w (w.alloc (cells #[u1,u2] 296)):=aA;have X0:Hid (Bl _ w.heap.size u1 u2):=Bl.mk' u1 u2 rfl;have B0:=aj (b0);clear b0;have hon:∀w' (i j:Nat),i<n->j<n->Below (w.alloc (cells #[u1,u2] 296)).heap.size (w.alloc (cells #[u1,u2] 296)) w'->Calls prog 277 #[int i64 (i:Nat),int i64 (j:Nat),.pointer (some ⟨w.heap.size,0,none⟩)] w' λe w''=>e=.returned (int i64 ((λ_ j=>ss.getD j 0) j i))/\w''=w':=λw' i j hi hj hb=>
  abh _ n u1 u2 ss i j w' (X0.below hb X0.lt) ((R2.1.below B0).below hb) R2.2 hi
 have Ho:=aj (hon);clear hon;subst e1;subst e2;go_enter func258,ntmps258;go_wp2_with fail
 refine(xR _ RQ _ _ n t nb ss _ _ (L0.below B0) E0 T0.1 T0.2.1 T0.2.2 Ho).mono ?_;rintro e w1 ⟨b,l,rfl,hbz,hbk,hf,hb⟩;have P:=aj (lM (aJ B0.size hbz) hbk hf (B0.trans (hb.mono B0.size)));clear hbz hbk hf hb Ho;go_wp2;go_ret;exact⟨b,l,rfl,P.1,P.2.1,P.2.2.1,P.2.2.2⟩
theorem Gw:∀args w,(callFunc 278 args).run prog w=.ok (.enter 278 args) w:=by
 intro args w;go_simp
theorem aai(z1 z2 z3 n:Nat)(u1 u2 uf:Value)(ss l:List Int)(i x:Nat)(w:World)(X:Bl w z1 u1 u2)(hu:Ro w u2 ss)(hf:Ro w uf l)(hl:ss.length=n)(hm:l.length=n)(c2:w.cell? ⟨z2,0,none⟩=some uf)(c3:w.cell? ⟨z3,0,none⟩=some (int i64 (i:Nat)))
  (hi:i<n) (hx:x<n) (hn:n<=144) (bs:∀j,ss.getD j 0<=2) (bl:∀j,l.getD j 0<=288):
  Calls prog 278 #[int i64 (x:Nat),.pointer (some ⟨z1,0,none⟩),.pointer (some ⟨z2,0,none⟩),.pointer (some ⟨z3,0,none⟩)] w λe w'=>e=.returned (.bool (pn ss l i x))/\∃q,w'=w.drewN q:=by
 obtain⟨a,c,rfl,e1,e2,ca⟩:=hu;obtain⟨a',c',rfl,e1',e2',ca'⟩:=hf;obtain⟨y,rfl,-,hy⟩:=ca (by intro e;rw[e] at hl;simp at hl;omega);obtain⟨y',rfl,-,hy'⟩:=ca' (by intro e;rw[e] at hm;simp at hm;omega);have cs:=hy x _ (get_some hl hx);have cd:=hy' x _ (get_some hm hx);have ce:=hy' i _ (get_some hm hi);have P:Hid (pn ss l i x=(decide (0<ss.getD x 0)&&(decide (0<=l.getD x 0)&&decide (ss.getD x 0+l.getD x 0=l.getD i 0)))):=by unfold Hid pn;rw[bF]
 have b1:=bs x;have b2:=bl x;have x1:=X.c1;rw[hl] at e1 x1;rw[hm] at e1' c2;generalize ss.getD x 0=s at *;generalize l.getD x 0=d at *;generalize l.getD i 0=f at *;clear hy hy' ca ca' X hl hm bs bl;by_cases h1:0<s
 ·by_cases h2:0<=d
  ·by_cases h3:s+d=f
   ·have R:Hid (pn ss l i x=true):=by unfold Hid;rw[P.out,decide_eq_true h1,decide_eq_true h2,decide_eq_true h3];rfl
    clear P;go_enter func278,ntmps278;go_wp2;go_quiet (fail);go_wp2;go_ret;exact⟨by rw[R.out];rfl,_,rfl⟩
   ·have R:Hid (pn ss l i x=false):=by unfold Hid;rw[P.out,decide_eq_true h1,decide_eq_true h2,decide_eq_false h3];rfl
    have h3':(s+d==f)=false:=by simpa using h3
    clear P;go_enter func278,ntmps278;go_wp2;go_quiet (fail);go_wp2;go_ret;exact⟨by rw[R.out];rfl,_,rfl⟩
  ·have R:Hid (pn ss l i x=false):=by unfold Hid;rw[P.out,decide_eq_true h1,decide_eq_false h2];rfl
   have h2':=decide_eq_false h2;clear P;go_enter func278,ntmps278;go_wp2;go_quiet (fail);go_wp2;go_ret;exact⟨by rw[R.out];rfl,_,rfl⟩
 ·have R:Hid (pn ss l i x=false):=by unfold Hid;rw[P.out,decide_eq_false h1];rfl
  have h1':=decide_eq_false h1;clear P;go_enter func278,ntmps278;go_wp2;go_quiet (fail);go_wp2;go_ret;exact⟨by rw[R.out];rfl,_,rfl⟩
theorem Xo(v uf:Value)(n i:Nat)(nb:Nat->List Int)(ss l:List Int)(w:World)(h:Ld w v n nb ss)(hf:Ro w uf l)(hm:l.length=n)(hi:i<n)(hn:n<=144)(bs:∀j,ss.getD j 0<=2)(bl:∀j,l.getD j 0<=288)
  (E:∀x,x∈nb i->∃j:Nat,x=j/\j<n) (hx:∃x∈nb i,pn ss l i x=true):
  Calls prog 259 #[v,uf,int i64 (i:Nat)] w λe w'=>∃j:Nat,e=.returned (int i64 (j:Nat))/\j<n/\Nx nb ss l i j/\Below w.heap.size w w':=by
 obtain⟨r,hr⟩:=ZK (pn ss l i) (nb i);obtain⟨k,j,rfl,hj,hk,hN⟩:=ZO E hr hx;have HN:Hid (j<n/\Nx nb ss l i j):=⟨hj,hN⟩;obtain⟨u1,u2,rfl,⟨x,c,rfl,c1,c2,hb⟩,hr2,hl⟩:=h;obtain⟨ui,YT,hri⟩:=hb i hi;have k0:w.heap.size<=w.heap.size:=aU _;generalize hw1:w.alloc (cells #[slice (some x) n c,u2] 296)=w1;have b1:Below w.heap.size w w1:=by rw[<-hw1];exact aA
 have X1:Bl w1 w.heap.size (slice (some x) n c) u2:=by rw[<-hw1];exact Bl.mk' _ _ rfl
 have z1:w1.heap.size=w.heap.size+1:=by rw[<-hw1];simp
 generalize hw2:w1.alloc (cells #[uf] 23)=w2;have b2:Below w1.heap.size w1 w2:=by rw[<-hw2];exact aA
 have d2:w2.cell? ⟨w.heap.size+1,0,none⟩=some uf:=by rw[<-hw2,<-z1];simp
 have z2:w2.heap.size=w.heap.size+1+1:=by rw[<-hw2];simp[z1]
 generalize hw3:w2.alloc (cells #[int i64 (i:Nat)] 3)=w3;have b3:Below w2.heap.size w2 w3:=by rw[<-hw3];exact aA
 have d3:w3.cell? ⟨w.heap.size+1+1,0,none⟩=some (int i64 (i:Nat)):=by rw[<-hw3,<-z2];simp
 have b03:=(b1.trans (b2.mono b1.size)).trans (b3.mono (aJ b1.size b2.size));have X3:=(X1.below b2 X1.lt).below b3 (fE X1.lt b2.size);have d2':w3.cell? ⟨w.heap.size+1,0,none⟩=some uf:=by rw[b3.cell (p:=⟨w.heap.size+1,0,none⟩) (by rw[z2];exact fC _)];exact d2
 have ri3:=hri.below b03;have acL:w3.cell? (x.add i)=some ui:=by rw[b03.cell (p:=x.add i) (cell_lt YT)];exact YT
 have CI:Hid (∀m,Calls prog 165 #[ui,.func (Fn.func 278) #[] #[.pointer (some ⟨w.heap.size,0,none⟩),.pointer (some ⟨w.heap.size+1,0,none⟩),.pointer (some ⟨w.heap.size+1+1,0,none⟩)]] (w3.drewN m) λe w'=>e=.returned (int i64 (k:Nat))/\∃q,w'=(w3.drewN m).drewN q):=by
  intro m;refine(Az 278 Gw ui _ _ (pn ss l i) _ (ri3.drewN m) ?_).mono ?_
  ·intro m' y hy
   obtain⟨y',rfl,hy'⟩:=E y hy;rw[show(#[int i64 (y':Nat)]++ #[Value.pointer (some ⟨w.heap.size,0,none⟩),Value.pointer (some ⟨w.heap.size+1,0,none⟩),Value.pointer (some ⟨w.heap.size+1+1,0,none⟩)]:Array Value)= #[int i64 (y':Nat),.pointer (some ⟨w.heap.size,0,none⟩),.pointer (some ⟨w.heap.size+1,0,none⟩),.pointer (some ⟨w.heap.size+1+1,0,none⟩)] from rfl];refine(aai _ _ _ n _ u2 uf ss l i y' _ (X3.below (_root_.Go.below_drewN (_root_.Go.below_drewN aB _) _) X3.lt) (((hr2.below b03).drewN m).drewN m') (((hf.below b03).drewN m).drewN m') hl hm d2' d3 hi hy' hn bs bl).mono ?_;rintro e w' ⟨h1,q,h2⟩;exact⟨h1,m'+q,by rw[h2,World.drewN_drewN]⟩
  ·rintro e w' ⟨r,rfl,h2,q,h3⟩
   exact⟨by rw[QH h2 hr],q,h3⟩
 have B3:=aj (b03);have Hw:Hid (((w.alloc (cells #[slice (some x) n c,u2] 296)).alloc (cells #[uf] 23)).alloc (cells #[int i64 (i:Nat)] 3)=w3):=by unfold Hid;rw[hw1,hw2,hw3]
 obtain⟨ai,ci,rfl,g1,g2,ca⟩:=ri3;have hkl:=(aK.1 hk).1;obtain⟨yi,rfl,-,hyi⟩:=ca (by intro e;rw[e] at hkl;simp at hkl);have ck:=hyi k _ hk;have x0:=X3.c0;obtain⟨af,cf,rfl,-⟩:=hf;obtain⟨a2,cc2,rfl,-⟩:=hr2;clear hm hl hr hx hN hb hri YT k0 hw1 b1 X1 z1 hw2 b2 d2 z2 hw3 b3 b03 X3 d2' ca hyi hk E bs bl hj;go_enter func259,ntmps259;go_wp2_with fail
 rw[Hw.out];go_quiet ((go_at_call 165;exact Calls.quiet_of (CI _)));go_wp2;go_ret;exact⟨j,rfl,HN.1,HN.2,_root_.Go.below_drewN B3 _⟩
end
end Go.Proofs.YtolfphmdmpehdaaGreatDoor
