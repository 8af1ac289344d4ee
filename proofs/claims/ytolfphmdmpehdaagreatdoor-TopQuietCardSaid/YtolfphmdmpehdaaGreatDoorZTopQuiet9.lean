/- Spot and Train have one answer. Plain mathematics. And more. -/
import Derived.Test.YtolfphmdmpehdaaGreatDoorZTopQuiet8
import Derived.Deep.SlicePairs
import Derived.OpenShut
import Derived.RangeFuncRecord
set_option linter.unusedVariables false
set_option maxHeartbeats 32000000
set_option maxRecDepth 100000
open Go.Value (int slice)
open Go.IntKind (i64)
namespace Go.Proofs.YtolfphmdmpehdaaGreatDoor
open Wy
theorem Ej{l:List Int}{n:Nat}{p:Int->Bool}{c F c' F':Int}(h:jL l n p c F)(h':jL l n p c' F'):c=c'/\F=F':=by
 have no:∀{m k:Nat} {c:Int},(rch l m n)[k]? =some c->p c=true->(rch l m n).any p=false->False:=λhk hp ha=>by
  rw[List.any_eq_false] at ha;exact ha _ (List.mem_of_getElem? hk) hp
 rcases h with⟨e1,e2,h⟩|⟨e1,m,k,hm,hk,hp,ht,hj⟩
 ·rcases h' with⟨f1,f2,h'⟩|⟨f1,m',k',hm',hk',hp',ht',hj'⟩
  ·exact⟨by rw[e2,f2],by rw[e1,f1]⟩
  ·exact(no hk' hp' (h m' hm')).elim
 ·rcases h' with⟨f1,f2,h'⟩|⟨f1,m',k',hm',hk',hp',ht',hj'⟩
  ·exact(no hk hp (h' m hm)).elim
  ·have em:m=m':=by
    rcases Nat.lt_trichotomy m m' with hl|hl|hl
    ·exact(no hk hp (hj' m hl)).elim
    ·exact hl
    ·exact(no hk' hp' (hj m' hl)).elim
   subst em;have ek:k=k':=by
    rcases Nat.lt_trichotomy k k' with hl|hl|hl
    ·rw[List.any_eq_false] at ht'
     exact(ht' c (List.mem_of_getElem? (by rw[List.getElem?_take,if_pos hl];exact hk)) hp).elim
    ·exact hl
    ·rw[List.any_eq_false] at ht
     exact(ht c' (List.mem_of_getElem? (by rw[List.getElem?_take,if_pos hl];exact hk')) hp').elim
   subst ek;rw[hk] at hk';injection hk' with e
   exact⟨e,by rw[e1,f1]⟩
theorem qh{p:aC->Bool}{us:List aC}{i:Nat}(h:jg p us (i:Nat)):∃x,us[i]? =some x/\p x=true/\(us.take i).any p=false:=by
 rcases h with⟨e,-⟩|⟨k,x,e,h1,h2,h3⟩
 ·omega
 ·obtain rfl:i=k:=by omega
  exact⟨x,h1,h2,h3⟩
theorem Eo{p:aC->Bool}{us:List aC}{i j:Nat}(h:jg p us (i:Nat))(k:jg p us (j:Nat)):i=j:=by
 obtain⟨x,x1,x2,x3⟩:=qh h;obtain⟨y,y1,y2,y3⟩:=qh k;rcases Nat.lt_trichotomy i j with hl|hl|hl
 ·rw[List.any_eq_false] at y3
  exact(y3 x (List.mem_of_getElem? (by rw[List.getElem?_take,if_pos hl];exact x1)) x2).elim
 ·exact hl
 ·rw[List.any_eq_false] at x3
  exact(x3 y (List.mem_of_getElem? (by rw[List.getElem?_take,if_pos hl];exact y1)) y2).elim
theorem rO{ks:List KV}{X:WV}{unit kind c F c' F':Int}(h:jO ks X unit kind c F)(h':jO ks X unit kind c' F'):c=c'/\F=F':=by
 have last:∀{c F:Int},(∃(i kn Wn Hn an:Nat) (u:aC) (k:KV) (l:List Int),jg (λu=>u.id==unit) X.us (i:Nat)/\X.us[i]? =some u/\kind=(kn:Nat)/\ks[kn]? =some k/\X.wide=(Wn:Nat)/\X.high=(Hn:Nat)/\Fd.Good Wn Hn X.gs X.os/\u.at_=(an:Nat)/\an<Wn*Hn
   /\Wy.bD (Fd.near Wn Hn) (λi _=>(X.gs.map λg=>Fd.onto g k.f).getD i 0) an (Wn*Hn) l/\jL l (Wn*Hn) (xH X.us) c F)->X.us.any (λu=>u.id==unit)=true/\(0<=kind/\kind<(ks.length:Int)):=by
  rintro c F ⟨i,kn,Wn,Hn,an,u,k,l,h1,h2,h3,h4,-⟩;obtain⟨x,x1,x2,-⟩:=qh h1;refine⟨List.any_eq_true.2 ⟨x,List.mem_of_getElem? x1,x2⟩,by omega,?_⟩;have:=(List.getElem?_eq_some_iff.1 h4).1;omega
 rcases h with⟨a1,a2,a3⟩|⟨a1,a2,a3,a4⟩|⟨a1,a2,a3,a4,a5⟩|⟨a1,a⟩
 ·rcases h' with⟨b1,b2,b3⟩|⟨b1,-⟩|⟨b1,-⟩|⟨b1,-⟩
  ·exact⟨by rw[a3,b3],by rw[a2,b2]⟩
  all_goals exact absurd b1 a1
 ·rcases h' with⟨b1,b2,b3⟩|⟨b1,b2,b3,b4⟩|⟨b1,b2,b3,b4,b5⟩|⟨b1,b⟩
  ·exact absurd a1 b1
  ·exact⟨by rw[a4,b4],by rw[a3,b3]⟩
  ·rw[a2] at b2;cases b2
  ·have:=(last b).1;rw[a2] at this;cases this
 ·rcases h' with⟨b1,b2,b3⟩|⟨b1,b2,b3,b4⟩|⟨b1,b2,b3,b4,b5⟩|⟨b1,b⟩
  ·exact absurd a1 b1
  ·rw[a2] at b2;cases b2
  ·exact⟨by rw[a5,b5],by rw[a4,b4]⟩
  ·exact absurd (last b).2 a3
 ·rcases h' with⟨b1,b2,b3⟩|⟨b1,b2,b3,b4⟩|⟨b1,b2,b3,b4,b5⟩|⟨b1,b⟩
  ·exact absurd a1 b1
  ·have:=(last a).1;rw[b2] at this;cases this
  ·exact absurd (last a).2 b3
  ·obtain⟨i,kn,Wn,Hn,an,u,k,l,h1,h2,h3,h4,h5,h6,-,h8,-,h10,h11⟩:=a
   obtain⟨i',ZC,Xr,Xt,Xu,u',k',l',g1,g2,g3,g4,g5,g6,-,g8,-,g10,g11⟩:=b;obtain rfl:=Eo h1 g1;rw[h2] at g2;injection g2 with e
   subst e;obtain rfl:kn=ZC:=by omega
   rw[h4] at g4;injection g4 with e
   subst e;obtain rfl:Wn=Xr:=by omega
   obtain rfl:Hn=Xt:=by omega
   obtain rfl:an=Xu:=by omega
   obtain rfl:=Wy.bD.uniq h10 g10;exact Ej h11 g11
theorem Ep{ks:List KV}{Y:WV}{j:aO}{c c':Int}(h:Comes ks Y j c)(h':Comes ks Y j c'):c=c':=(rO h.1 h'.1).1
theorem rP{ks:List KV}{Y:WV}{j:aO}{c:Int}(h:Comes ks Y j c)(h':kP ks Y j):False:=by
 obtain⟨c',F,h1,h2⟩:=h';obtain⟨rfl,rfl⟩:=rO h.1 h1;rcases h2 with h2|h2
 ·exact h2 rfl
 ·exact h2 h.2
theorem AU{ks:List KV}{X:WV}{q:Nat}{Y:WV}{es:List bM}{qs:List aO}(t:Tr ks X q Y es qs):∀{Y':WV} {es':List bM} {DJ:List aO},Tr ks X q Y' es' DJ->Y=Y'/\es=es'/\qs=DJ:=by
 induction t with
 |zero=>intro Y' es' DJ t';cases t';exact⟨rfl,rfl,rfl⟩
 | @wait q Y es qs j t0 ho hl ih=>
  intro Y' es' DJ t';cases t' with
  |wait t1 ho1 hl1=>
   rw[ho] at ho1;injection ho1 with e;subst e
   obtain⟨rfl,rfl,rfl⟩:=ih t1;exact⟨rfl,rfl,rfl⟩
  |come t1 ho1 hl1 _=>rw[ho] at ho1;injection ho1 with e;subst e;exact absurd hl1 hl
  |stay t1 ho1 hl1 _=>rw[ho] at ho1;injection ho1 with e;subst e;exact absurd hl1 hl
 | @come q Y es qs j c t0 ho hl hc ih=>
  intro Y' es' DJ t';cases t' with
  |wait t1 ho1 hl1=>rw[ho] at ho1;injection ho1 with e;subst e;exact absurd hl hl1
  |come t1 ho1 hl1 hc1=>
   rw[ho] at ho1;injection ho1 with e;subst e
   obtain⟨rfl,rfl,rfl⟩:=ih t1;obtain rfl:=Ep hc hc1;exact⟨rfl,rfl,rfl⟩
  |stay t1 ho1 hl1 hn=>
   rw[ho] at ho1;injection ho1 with e;subst e
   obtain⟨rfl,rfl,rfl⟩:=ih t1;exact(rP hc hn).elim
 | @stay q Y es qs j t0 ho hl hn ih=>
  intro Y' es' DJ t';cases t' with
  |wait t1 ho1 hl1=>rw[ho] at ho1;injection ho1 with e;subst e;exact absurd hl hl1
  |come t1 ho1 hl1 hc1=>
   rw[ho] at ho1;injection ho1 with e;subst e
   obtain⟨rfl,rfl,rfl⟩:=ih t1;exact(rP hc1 hn).elim
  |stay t1 ho1 hl1 _=>
   rw[ho] at ho1;injection ho1 with e;subst e
   obtain⟨rfl,rfl,rfl⟩:=ih t1;exact⟨rfl,rfl,rfl⟩
open Go.RowKit
theorem qj{ks:List KV}{X:WV}{Wn Hn:Nat}{k:KV}{i:Nat}{us us':List aC}{left:Int}{cells:List Int}(h:Goes ks X Wn Hn k i us left cells us'):∃(u:aC) (c:Nat) (gg:Int),us[i]? =some u/\dO ks {X with us:=us} Wn Hn u k c/\X.gs[c]? =some gg/\
  (((left<Fd.onto gg k.f\/us.any (λo=>o.at_==(c:Int))=true)/\cells=[]/\us'=us)\/(¬left<Fd.onto gg k.f/\us.any (λo=>o.at_==(c:Int))=false/\∃cells',cells=(c:Int)::cells'/\Goes ks X Wn Hn k i (us.set i {u with at_:=(c:Nat)}) (left-Fd.onto gg k.f) cells' us')):=by
 cases h with
 |stop hu hw hg h=>exact⟨_,_,_,hu,hw,hg,.inl ⟨h,rfl,rfl⟩⟩
 |step hu hw hg h1 h2 h3=>exact⟨_,_,_,hu,hw,hg,.inr ⟨h1,h2,_,rfl,h3⟩⟩
theorem nH{ks:List KV}{X:WV}{Wn Hn n:Nat}{us us':List aC}{evs:List bM}(h:Moves ks X Wn Hn n us evs us'):(n=us.length/\evs=[]/\us'=us)\/∃(u u1:aC) (k:KV) (cells:List Int) (us1:List aC) (nK:List bM),us[n]? =some u/\ks[u.kind.toNat]? =some k/\Goes ks X Wn Hn k n us k.n4 cells us1/\us1[n]? =some u1/\Moves ks X Wn Hn (n+1) (us1.set n (ends u1)) nK us'/\evs=cells.map (λc=>(⟨1,u.id,c⟩:bM))++nK:=by
 cases h with
 |done h=>exact .inl ⟨h,rfl,rfl⟩
 |unit hu hk hg h1 hm=>exact .inr ⟨_,_,_,_,_,_,hu,hk,hg,h1,hm,rfl⟩
theorem JZ{ks:List KV}{X:WV}{Wn Hn:Nat}{u:aC}{k:KV}{c c':Int}(h:iL ks X Wn Hn u k c)(h':iL ks X Wn Hn u k c'):c=c':=by
 rcases h with⟨h1,h2⟩|⟨h1,h2,h3⟩|⟨h1,h2,l,h3,h4⟩
 ·rcases h' with⟨g1,g2⟩|⟨g1,-⟩|⟨g1,-⟩
  ·rw[h2,g2]
  ·exact absurd h1 g1
  ·omega
 ·rcases h' with⟨g1,g2⟩|⟨g1,g2,g3⟩|⟨g1,g2,-⟩
  ·exact absurd g1 h1
  ·rw[h3,g3]
  ·exact absurd ⟨g1,g2⟩ h2
 ·rcases h' with⟨g1,g2⟩|⟨g1,g2,g3⟩|⟨g1,g2,l',g3,g4⟩
  ·omega
  ·exact absurd ⟨h1,h2⟩ g2
  ·have:l=l':=h3.1.uniq g3.1
   subst this;rw[h4,g4]
theorem rQ{ks:List KV}{X:WV}{Wn Hn:Nat}{u:aC}{k:KV}{c c':Nat}(h:dO ks X Wn Hn u k c)(h':dO ks X Wn Hn u k c'):c=c':=by
 obtain⟨an,bn,l,h1,h2,-,h3,h4⟩:=h;obtain⟨Xu,ZF,l',g1,g2,-,g3,g4⟩:=h';obtain rfl:an=Xu:=by omega
 obtain rfl:bn=ZF:=by have:=JZ h2 g2;omega
 have:l=l':=h3.1.uniq g3.1;subst this;rcases h4 with⟨h4,h5⟩|⟨h4,h5⟩
 ·rcases g4 with⟨g4,g5⟩|⟨g4,-⟩
  ·rw[h5,g5]
  ·omega
 ·rcases g4 with⟨g4,-⟩|⟨-,g5⟩
  ·omega
  ·exact h5.uniq g5
theorem Es{ks:List KV}{X:WV}{Wn Hn:Nat}{k:KV}{i:Nat}{us us':List aC}{left:Int}{cells:List Int}(h:Goes ks X Wn Hn k i us left cells us'):∀{cells2:List Int} {us2:List aC},Goes ks X Wn Hn k i us left cells2 us2->cells=cells2/\us'=us2:=by
 induction h with
 |stop hu hw hg h=>
  intro cells2 us2 h';obtain⟨u',c',Yh,hu',hw',hg',hh⟩:=qj h';rw[hu] at hu';injection hu' with hu'
  subst hu';obtain rfl:=rQ hw hw';rw[hg] at hg';injection hg' with hg'
  subst hg';rcases hh with⟨-,h1,h2⟩|⟨h1,h2,-⟩
  ·exact⟨h1.symm,h2.symm⟩
  ·rcases h with h|h
   ·exact absurd h h1
   ·rw[h] at h2;cases h2
 |step hu hw hg h1 h2 h3 ih=>
  intro cells2 us2 h';obtain⟨u',c',Yh,hu',hw',hg',hh⟩:=qj h';rw[hu] at hu';injection hu' with hu'
  subst hu';obtain rfl:=rQ hw hw';rw[hg] at hg';injection hg' with hg'
  subst hg';rcases hh with⟨g1,-⟩|⟨-,-,cells',g1,g2⟩
  ·rcases g1 with g1|g1
   ·exact absurd g1 h1
   ·rw[h2] at g1;cases g1
  ·obtain⟨e1,e2⟩:=ih g2
   exact⟨by rw[g1,e1],e2⟩
theorem yV{ks:List KV}{X:WV}{Wn Hn n:Nat}{us us':List aC}{evs:List bM}(h:Moves ks X Wn Hn n us evs us'):∀{qH:List bM} {us2:List aC},Moves ks X Wn Hn n us qH us2->evs=qH/\us'=us2:=by
 induction h with
 |done h=>
  intro qH us2 h';rcases nH h' with⟨-,h1,h2⟩|⟨u,u1,k,cells,us1,nK,hu,-⟩
  ·exact⟨h1.symm,h2.symm⟩
  ·have:=(List.getElem?_eq_some_iff.1 hu).1
   omega
 |unit hu hk hg h1 hm ih=>
  intro qH us2 h';rcases nH h' with⟨h2,-⟩|⟨u',u1',k',cells',us1',nK,hu',hk',hg',h1',hm',he⟩
  ·have:=(List.getElem?_eq_some_iff.1 hu).1
   omega
  ·rw[hu] at hu'
   injection hu' with hu'
   subst hu';rw[hk] at hk';injection hk' with hk'
   subst hk';obtain⟨e1,e2⟩:=Es hg hg';subst e1;subst e2;rw[h1] at h1';injection h1' with h1'
   subst h1';obtain⟨e3,e4⟩:=ih hm';exact⟨by rw[he,e3],e4⟩
end Go.Proofs.YtolfphmdmpehdaaGreatDoor
namespace Go.Proofs.YtolfphmdmpehdaaGreatDoor
open Go.RowKit Go.Proofs.YtolfphmdmpehdaaGreatDoor.So
theorem Om{ks:List KV}{Wn Hn:Nat}{A:WV}{n:Nat}{Y:WV}{es:List bM}(p:Ph ks Wn Hn A n Y es):∀{Y':WV} {es':List bM},Ph ks Wn Hn A n Y' es'->Y=Y'/\es=es':=by
 induction p with
 |zero=>intro Y' es' q;cases q;exact⟨rfl,rfl⟩
 |one t=>
  intro Y' es' q;cases q with
  |one t'=>obtain⟨rfl,rfl,rfl⟩:=AU t t';exact⟨rfl,rfl⟩
 |two p0 m ih=>
  intro Y' es' q;cases q with
  |two q0 m'=>
   obtain⟨rfl,rfl⟩:=ih q0;obtain⟨rfl,rfl⟩:=yV m m';exact⟨rfl,rfl⟩
 |three p0 ih=>
  intro Y' es' q;cases q with
  |three q0=>obtain⟨rfl,rfl⟩:=ih q0;exact⟨rfl,rfl⟩
 |four p0 ih=>
  intro Y' es' q;cases q with
  |four q0=>obtain⟨rfl,rfl⟩:=ih q0;exact⟨rfl,rfl⟩
theorem Et{ks:List KV}{X:WV}{l:List aK}{Y Y':WV}{es es':List bM}(h:kG ks X l Y es)(h':kG ks X l Y' es'):Y=Y'/\es=es':=by
 obtain⟨out,Wn,Hn,Z,a1,a2,a3,a4,rfl⟩:=h;obtain⟨out',Xr,Xt,Z',b1,b2,b3,b4,rfl⟩:=h';obtain rfl:=a1.one b1;obtain rfl:Wn=Xr:=by omega
 obtain rfl:Hn=Xt:=by omega
 obtain⟨rfl,rfl⟩:=Om a4 b4;exact⟨rfl,rfl⟩
theorem kD{ks:List KV}{X:WV}{ls:List (List aK)}{n:Nat}{Y:WV}(h:gI ks X ls n Y):∀{Y':WV},gI ks X ls n Y'->Y=Y':=by
 induction h with
 |zero=>intro Y' k;cases k;rfl
 |turn p hl hf hs ih=>
  intro Y' k;cases k with
  |turn p' hl' hf' hs'=>
   obtain rfl:=ih p';rw[hl] at hl';injection hl' with e
   subst e;exact(Et hs hs').1
theorem yX{ks:List KV}{X:WV}{l:List aK}{Y:WV}{es:List bM}(hf:bg ks X l=0)(h:kG ks X l Y es):Wd.aF ks Y=0/\Y.turn=X.turn+1:=by
 have hw:Wd.aF ks X=0:=by
  by_cases e:Wd.aF ks X=0
  ·exact e
  ·rw[yT e] at hf;exact absurd hf e
 have ht:¬1000000<=X.turn:=λe=>by rw[JR hw e] at hf;cases hf
 have ho:Od.faults l=0:=by rw[yU hw ht] at hf;exact hf
 have R:=aY hw;obtain⟨out,Wn,Hn,Z,a1,a2,a3,a4,rfl⟩:=h;obtain⟨g1,g2,g3⟩:=tY (ks:=ks) (Y:=X) (out:=out) out.length;have AR:=oz R (out:=out) (λo h=>(Od.gW ho).2 o (a1.mem h)) out.length;obtain⟨r,-,-,t,-⟩:=a4.keep AR (by rw[g2,a2]) (by rw[g3,a3]);have tx:Z.turn=X.turn:=t.trans g1;refine⟨?_,by show Z.turn+1=_;rw[tx]⟩;obtain⟨W',H',e1,e2,G⟩:=r.good;refine Wd.dR r.kinds (by show Fd.fault Z.wide Z.high Z.gs Z.os=0;rw[e1,e2];exact Fd.dH G) ?_ r.ul (λi u hu=>?_) r.ql (λj hj=>r.job hj)
 ·have hn:=r.nums
  unfold Wd.aU at hn ⊢;simp only[Bool.or_eq_false_iff] at hn ⊢;refine⟨?_,hn.2⟩;have h1:=hn.1;unfold Wd.off at h1 ⊢;simp at h1 ⊢;omega
 ·obtain⟨k,F⟩:=r.fine hu
  exact⟨k,F.id1,F.id2,F.up,F.p,F.k0,F.kk,F.life,F.load,F.task,F.at_,F.goal,F.opn,F.rest⟩
theorem yY{ks:List KV}{X:WV}(hw:Wd.aF ks X=0)(ht:X.turn<1000000):bg ks X []=0:=by
 rw[yU hw (by omega)];rfl
end Go.Proofs.YtolfphmdmpehdaaGreatDoor
namespace Go.Proofs.YtolfphmdmpehdaaGreatDoor.Wy
theorem oH.two{nb:Nat->List Int}{ss l:List Int}{t i:Nat}{p:List Int}(h:oH nb ss l t i p):∀k,k+1<p.length->∃x y:Nat,p[k]? =some (x:Int)/\p[k+1]? =some (y:Int)/\Nx nb ss l x y:=by
 induction h with
 |here=>intro k hk;simp at hk
 | @step i j p h1 h2 h3 ih=>
  intro k hk;cases k with
  |zero=>exact⟨i,j,rfl,by simpa using h3.head,h2⟩
  |succ k=>
   obtain⟨x,y,a1,a2,a3⟩:=ih k (by simpa using hk);exact⟨x,y,by simpa using a1,by simpa using a2,a3⟩
theorem oH.pos{nb:Nat->List Int}{ss l:List Int}{t i:Nat}{p:List Int}(h:oH nb ss l t i p):0<p.length:=by
 cases h<;>simp
theorem oH.cells{nb:Nat->List Int}{ss l:List Int}{t i n:Nat}{p:List Int}(hn:∀(i j:Nat),i<n->(j:Int)∈nb i->j<n)(h:oH nb ss l t i p)(hi:i<n):∀(k:Nat) (x:Int),p[k]? =some x->∃y:Nat,x=y/\y<n:=by
 induction h with
 |here=>
  intro k x hx;cases k with
  |zero=>simp at hx;exact⟨t,hx.symm,hi⟩
  |succ k=>simp at hx
 | @step i j p h1 h2 h3 ih=>
  intro k x hx;cases k with
  |zero=>simp at hx;exact⟨i,hx.symm,hi⟩
  |succ k=>exact ih (hn i j hi h2.is.1) k x (by simpa using hx)
def Rq(nb:Nat->List Int)(st:Nat->Nat->Int)(l:List Int)(n:Nat):Bool:=(List.range n).all λi=>(nb i).all λx=>decide (¬(0<st i x.toNat/\0<=l.getD x.toNat 0)\/(0<=l.getD i 0/\l.getD i 0<=st i x.toNat+l.getD x.toNat 0))
theorem vY{nb:Nat->List Int}{st:Nat->Nat->Int}{l:List Int}{n:Nat}(h:Rq nb st l n=true):∀i,i<n->Shut nb st l i:=by
 intro i hi j x y hx hy hj h0 y0;unfold Rq at h;rw[List.all_eq_true] at h;have h1:=h i (List.mem_range.2 hi);rw[List.all_eq_true] at h1;have h2:=of_decide_eq_true (h1 j hj);rw[Int.toNat_natCast,lH hx,lH hy] at h2;rcases h2 with h2|h2
 ·exact absurd ⟨h0,y0⟩ h2
 ·exact h2
def s6:Nat->Nat->Int:=λ_ j=>(([0,1,0,0,3,0]:List Int).map λg=>Fd.onto g false).getD j 0
def s3:Nat->Nat->Int:=λi _=>(([0,3,0]:List Int).map λg=>Fd.onto g false).getD i 0
theorem three:bD (Fd.near 3 1) s3 0 3 [0,2,3]:=by
 have w0:Way (Fd.near 3 1) s3 0 0 0:=.here;have w1:Way (Fd.near 3 1) s3 0 1 2:=Way.step (nb:=Fd.near 3 1) (st:=s3) (i:=1) (j:=0) (by decide) (by decide) w0;have w2:Way (Fd.near 3 1) s3 0 2 3:=Way.step (nb:=Fd.near 3 1) (st:=s3) (i:=2) (j:=1) (by decide) (by decide) w1;refine wY rfl ?_ rfl ?_ (vY (by decide))
 ·intro i j hi hj
  obtain⟨t,h1,h2,-⟩:=Fd.mQ (W:=3) (H:=1) (by decide) hi hj;omega
 ·intro i x hx
  match i,hx with
  |0,hx=>simp at hx;subst hx;exact .inr w0
  |1,hx=>simp at hx;subst hx;exact .inr w1
  |2,hx=>simp at hx;subst hx;exact .inr w2
  |i+3,hx=>simp at hx
end Go.Proofs.YtolfphmdmpehdaaGreatDoor.Wy
namespace Go.Proofs.YtolfphmdmpehdaaGreatDoor
open Go.RowKit
namespace Wd
def bare(wd hg:Int)(gs os:List Int):WV:=⟨0,1,wd,hg,gs,os,[],[],[]⟩
def dX(ks:List KV)(wd hg:Int)(gs os:List Int)(lY gold:Int):Int:=if ground ks (bare wd hg gs os)=0 then(if(1<=lY/\lY<=4)/\0<=gold/\gold<=1000000 then 0 else 1) else ground ks (bare wd hg gs os)
def begun(ks:List KV)(wd hg:Int)(gs os:List Int)(lY gold:Int):WV:=if dX ks wd hg gs os lY gold=0 then⟨0,1,wd,hg,gs,os,List.replicate lY.toNat gold,[],[]⟩ else WV.zero
end Wd
theorem ng{ks:List KV}{wd hg:Int}{gs os:List Int}{lY gold:Int}(h:Wd.dX ks wd hg gs os lY gold≠0):Wd.begun ks wd hg gs os lY gold=WV.zero:=by unfold Wd.begun;rw[if_neg h]
theorem vZ{ks:List KV}{wd hg:Int}{gs os:List Int}{lY gold:Int}(h:Wd.dX ks wd hg gs os lY gold=0):Wd.begun ks wd hg gs os lY gold=⟨0,1,wd,hg,gs,os,List.replicate lY.toNat gold,[],[]⟩:=by unfold Wd.begun;rw[if_pos h]
structure Bx(w:World)(z:Nat)(wd hg:Int)(u1 u2:Value):Prop where
 c0:w.cell? ⟨z,0,none⟩=some (int i64 wd)
 c1:w.cell? ⟨z,1,none⟩=some (int i64 hg)
 c2:w.cell? ⟨z,2,none⟩=some u1
 c3:w.cell? ⟨z,3,none⟩=some u2
theorem Bx.lt{w:World}{z:Nat}{wd hg:Int}{u1 u2:Value}(h:Bx w z wd hg u1 u2):z<w.heap.size:=cell_lt h.c0
theorem Bx.below{w w':World}{z n:Nat}{wd hg:Int}{u1 u2:Value}(h:Bx w z wd hg u1 u2)(hb:Below n w w')(hn:z<n):Bx w' z wd hg u1 u2:=
 ⟨by rw[hb.cell (p:=⟨z,0,none⟩) hn];exact h.c0,by rw[hb.cell (p:=⟨z,1,none⟩) hn];exact h.c1,by rw[hb.cell (p:=⟨z,2,none⟩) hn];exact h.c2,by rw[hb.cell (p:=⟨z,3,none⟩) hn];exact h.c3⟩
theorem Bx.mk'{w:World}{z:Nat}(wd hg:Int)(u1 u2:Value)(hz:w.heap.size=z):Bx (w.alloc (.cells #[int i64 wd,int i64 hg,u1,u2] 25)) z wd hg u1 u2:=by
 subst hz;constructor<;>simp
theorem new_any(vk vf:Value)(ks:List KV)(wd hg:Int)(gs os:List Int)(lY gold:Int)(w:World)(hk:Kl w vk ks)(hb:∀k∈ks,k.b.size<=9223372036854775807)(hf:Fl w vf wd hg gs os):
  Calls Tryz.prog 38 #[vk,vf,int i64 lY,int i64 gold] w λe w'=>∃u r,e=.returned (.tuple #[u,r])/\Er r (Wd.dX ks wd hg gs os lY gold)/\Wo w' w.heap.size u (Wd.begun ks wd hg gs os lY gold)/\Below w.heap.size w w':=by
 have K:Hid (Kl w vk ks/\∀k∈ks,k.b.size<=9223372036854775807):=⟨hk,hb⟩;have F:=aj (hf);obtain⟨u1,u2,rfl,r1,r2⟩:=hf;obtain⟨p1,q1,rfl,-⟩:=r1;obtain⟨p2,q2,rfl,-⟩:=r2;clear hb hk;go_enter Tryz.func38,Tryz.ntmps38;go_upto_region 1 with fail
 have B0:Hid (Below _ w ((w.alloc (.cells #[int i64 wd,int i64 hg,slice p1 gs.length q1,slice p2 os.length q2] 25)).alloc (.cells #[int i64 0,int i64 0,int i64 0,int i64 0,slice none 0 0,slice none 0 0,slice none 0 0,slice none 0 0,slice none 0 0] 29))):=((Below.refl _ _).alloc (Nat.le_refl _) _).alloc (by simp) _;have X0:Hid (Bx ((w.alloc _).alloc (.cells #[int i64 0,int i64 0,int i64 0,int i64 0,slice none 0 0,slice none 0 0,slice none 0 0,slice none 0 0,slice none 0 0] 29)) _ wd hg (slice p1 gs.length q1) (slice p2 os.length q2)):=(Bx.mk' _ _ _ _ rfl).below ((Below.refl _ _).alloc (Nat.le_refl _) _) (by simp);have Z0:Hid (Wx ((w.alloc (.cells #[int i64 wd,int i64 hg,slice p1 gs.length q1,slice p2 os.length q2] 25)).alloc _) (w.heap.size+1) (int i64 0) (int i64 0) (int i64 0) (int i64 0) (slice none 0 0) (slice none 0 0) (slice none 0 0) (slice none 0 0) (slice none 0 0)):=Wx.new _ _ _ _ _ _ _ _ _ (by simp);have S0:Hid (w.heap.size+2<=((w.alloc (.cells #[int i64 wd,int i64 hg,slice p1 gs.length q1,slice p2 os.length q2] 25)).alloc (.cells #[int i64 0,int i64 0,int i64 0,int i64 0,slice none 0 0,slice none 0 0,slice none 0 0,slice none 0 0,slice none 0 0] 29)).heap.size):=by unfold Hid;simp
 generalize ((w.alloc _).alloc _)=w0 at *;obtain⟨x0,x1,x2,x3⟩:=X0.out;go_wp2_with fail
 refine(nZ _ _ ks (Wd.bare wd hg gs os) w0 (K.out.1.below B0.out) K.out.2 (F.out.below B0.out)).mono ?_;rintro e w1 ⟨r,rfl,hr,hb1⟩;clear x0 x1 x2 x3;have B1:=aj (B0.out.trans (hb1.mono B0.out.size));have X1:=aj (X0.out.below hb1 X0.out.lt);have Z1:=aj (Z0.out.below hb1 Z0.out.lt);have S1:=aj (Nat.le_trans S0.out hb1.size);clear hb1 B0 X0 Z0 S0;rcases hr with⟨hf,rfl⟩|⟨hf,rfl⟩
 case inr=>
  obtain⟨fe,hfe⟩:∃f,Wd.ground ks (Wd.bare wd hg gs os)=f:=⟨_,rfl⟩;have AQ:Hid (fe≠0):=by rw[<-hfe];exact hf
  have FE:Hid (Wd.dX ks wd hg gs os lY gold=fe):=by unfold Hid Wd.dX;rw[if_neg hf];exact hfe
  rw[hfe];clear hf hfe;obtain⟨z0,z1,z2,z3,z4,z5,z6,z7,z8⟩:=Z1.out.cells;obtain⟨t0,t1,t2,t3,t4,t5,t6,t7,t8⟩:=Z1.out.bC;have KZ:=aj (dF w1 (w.heap.size+1));obtain⟨y0,y1,y2,y3,y4,y5,y6,y7,y8⟩:=(Z1.out.jJ).cells;go_wp2;clear z0 z1 z2 z3 z4 z5 z6 z7 z8 t0 t1 t2 t3 t4 t5 t6 t7 t8;generalize World.setCell _ ⟨_,8,none⟩ _=w9 at *;refine bodyPost_ret (v:=.tuple #[.agg #[int i64 0,int i64 0,int i64 0,int i64 0,slice none 0 0,slice none 0 0,slice none 0 0,slice none 0 0,slice none 0 0],.iface 85 (int i64 fe)]) (by simp[results,Tryz.results38,go_sem,y0,y1,y2,y3,y4,y5,y6,y7,y8]) rfl ⟨_,_,rfl,by rw[FE.out];exact Er.no AQ.out,by rw[ng (by rw[FE.out];exact AQ.out)];exact jX _ _,KZ.out.below B1.out B1.out.size (by omega)⟩
 have HF:=aj (hf);have NF:Hid (Wd.dX ks wd hg gs os lY gold=if(1<=lY/\lY<=4)/\0<=gold/\gold<=1000000 then 0 else 1):=by unfold Hid Wd.dX;rw[if_pos hf]
 have GL:Hid (gs.length<=144/\os.length<=144):=by
  unfold Wd.ground at hf;split at hf
  ·obtain⟨Wn,Hn,-,-,G⟩:=Fd.kJ hf
   have h1:=G.pos;have h2:=G.gl;have h3:=G.ol;unfold Wd.bare at h2 h3;exact⟨by simp only at h2;omega,by simp only at h3;omega⟩
  ·rename_i h0
   exact absurd hf h0
 clear hf;by_cases hp:1<=lY/\lY<=4
 case neg=>
  have t:=decide_eq_false hp;have AQ:Hid ((1:Int)≠0):=by unfold Hid;decide
  have FE:Hid (Wd.dX ks wd hg gs os lY gold=1):=by unfold Hid;rw[NF.out,if_neg (λh=>hp h.1)]
  clear hp;go_wp2_with fail
  refine(bG lY 1 4 w1).mono ?_;rintro e w2 ⟨rfl,iF⟩;obtain rfl:=iF.symm;rw[t];clear t;obtain⟨z0,z1,z2,z3,z4,z5,z6,z7,z8⟩:=Z1.out.cells;obtain⟨t0,t1,t2,t3,t4,t5,t6,t7,t8⟩:=Z1.out.bC;have KZ:=aj (dF w1 (w.heap.size+1));obtain⟨y0,y1,y2,y3,y4,y5,y6,y7,y8⟩:=(Z1.out.jJ).cells;go_wp2;clear z0 z1 z2 z3 z4 z5 z6 z7 z8 t0 t1 t2 t3 t4 t5 t6 t7 t8;generalize World.setCell _ ⟨_,8,none⟩ _=w9 at *;refine bodyPost_ret (v:=.tuple #[.agg #[int i64 0,int i64 0,int i64 0,int i64 0,slice none 0 0,slice none 0 0,slice none 0 0,slice none 0 0,slice none 0 0],.iface 85 (int i64 1)]) (by simp[results,Tryz.results38,go_sem,y0,y1,y2,y3,y4,y5,y6,y7,y8]) rfl ⟨_,_,rfl,by rw[FE.out];exact Er.no AQ.out,by rw[ng (by rw[FE.out];exact AQ.out)];exact jX _ _,KZ.out.below B1.out B1.out.size (by omega)⟩
 have t:=decide_eq_true hp;go_wp2_with fail
 refine(bG lY 1 4 w1).mono ?_;rintro e w2 ⟨rfl,iF⟩;obtain rfl:=iF.symm;rw[t];clear t;by_cases hgd:0<=gold/\gold<=1000000
 case neg=>
  have t:=decide_eq_false hgd;have AQ:Hid ((1:Int)≠0):=by unfold Hid;decide
  have FE:Hid (Wd.dX ks wd hg gs os lY gold=1):=by unfold Hid;rw[NF.out,if_neg (λh=>hgd h.2)]
  clear hgd hp;go_wp2_with fail
  refine(bG gold 0 1000000 w1).mono ?_;rintro e w2 ⟨rfl,iF⟩;obtain rfl:=iF.symm;rw[t];clear t;obtain⟨z0,z1,z2,z3,z4,z5,z6,z7,z8⟩:=Z1.out.cells;obtain⟨t0,t1,t2,t3,t4,t5,t6,t7,t8⟩:=Z1.out.bC;have KZ:=aj (dF w1 (w.heap.size+1));obtain⟨y0,y1,y2,y3,y4,y5,y6,y7,y8⟩:=(Z1.out.jJ).cells;go_wp2;clear z0 z1 z2 z3 z4 z5 z6 z7 z8 t0 t1 t2 t3 t4 t5 t6 t7 t8;generalize World.setCell _ ⟨_,8,none⟩ _=w9 at *;refine bodyPost_ret (v:=.tuple #[.agg #[int i64 0,int i64 0,int i64 0,int i64 0,slice none 0 0,slice none 0 0,slice none 0 0,slice none 0 0,slice none 0 0],.iface 85 (int i64 1)]) (by simp[results,Tryz.results38,go_sem,y0,y1,y2,y3,y4,y5,y6,y7,y8]) rfl ⟨_,_,rfl,by rw[FE.out];exact Er.no AQ.out,by rw[ng (by rw[FE.out];exact AQ.out)];exact jX _ _,KZ.out.below B1.out B1.out.size (by omega)⟩
 have t:=decide_eq_true hgd;have F0:Hid (Wd.dX ks wd hg gs os lY gold=0):=by unfold Hid;rw[NF.out,if_pos ⟨hp,hgd⟩]
 go_wp2_with fail
 refine(bG gold 0 1000000 w1).mono ?_;rintro e w2 ⟨rfl,iF⟩;obtain rfl:=iF.symm;rw[t];clear t;obtain⟨n,rfl⟩:∃n:Nat,lY=n:=⟨lY.toNat,by omega⟩;have hn:0<n/\n<=4:=by omega
 have HN:=aj (hn);clear hp hgd hn;go_wp2_with fail
 have BA:Hid (Below _ w1 (w1.alloc (Obj.cells #[int i64 gold] 3))):=(Below.refl _ _).alloc (Nat.le_refl _) _;have RA:Hid (Ro _ (slice (some ⟨w1.heap.size,0,none⟩) 1 1) [gold]):=Ro.wL gold rfl;generalize (w1.alloc _)=wa at *;refine(qU gold _ n wa RA.out (HN.out.1) (by have:=HN.out.2;omega)).mono ?_;rintro e w2 ⟨b,rfl,-,hbk,hb2⟩;have BW:=aj (BA.out.trans (hb2.mono BA.out.size));have B2:=aj (B1.out.trans (BW.out.mono B1.out.size));have X2:=aj (X1.out.below BW.out X1.out.lt);have Z2:=aj (Z1.out.below BW.out Z1.out.lt);have S2:=aj (Nat.le_trans S1.out BW.out.size);have G2:Hid (Ro w2 (slice (some ⟨b,0,none⟩) n n) (List.replicate n gold)):=by
  unfold Hid;have:=hbk.ro (c:=n) (by simp) (by have:=HN.out.2;omega);simpa using this
 clear hb2 hbk B1 X1 Z1 S1 BA RA BW;obtain⟨x0,x1,x2,x3⟩:=X2.out;go_wp2_with fail
 have F2:=F.out.below B2.out;obtain⟨v1,v2,he,f1,f2⟩:=F2;injection he with he
 simp only[Array.mk.injEq,List.cons.injEq,and_true,true_and] at he;obtain⟨rfl,rfl⟩:=he;refine(gy _ ⟨0,1,wd,hg,gs,os,List.replicate n gold,[],[]⟩ w2 ⟨_,_,_,_,_,rfl,f1,f2,G2.out,⟨none,0,rfl,Nat.le_refl _,by omega,λh=>absurd rfl h⟩,⟨none,0,rfl,Nat.le_refl _,by omega,λh=>absurd rfl h⟩⟩ ⟨by have:=GL.out.1;simp only;omega,by have:=GL.out.2;simp only;omega,by have:=HN.out.2;simp only[List.length_replicate];omega,by simp,by simp⟩).mono ?_;rintro e w3 ⟨u,rfl,ho,hb3⟩;clear f1 f2 x0 x1 x2 x3;have B3:=aj (B2.out.trans (hb3.mono B2.out.size));have Z3:=aj (Z2.out.below hb3 Z2.out.lt);obtain⟨v1,v2,v3,v4,v5,rfl,o1,o2,o3,o4,o5⟩:=ho.wo.mono S2.out;have O3:=aj (fK o1 o2 o3 o4 o5);obtain⟨a1,b1,rfl⟩:=o1.len;obtain⟨a2,b2,rfl⟩:=o2.len;obtain⟨a3,b3,rfl⟩:=o3.len;obtain⟨a4,b4,rfl⟩:=o4.len;obtain⟨a5,b5,rfl⟩:=o5.len;simp only[List.length_replicate,List.length_nil] at O3 ⊢;clear ho hb3 o1 o2 o3 o4 o5 B2 X2 Z2 S2 G2;obtain⟨z0,z1,z2,z3,z4,z5,z6,z7,z8⟩:=Z3.out.cells;obtain⟨t0,t1,t2,t3,t4,t5,t6,t7,t8⟩:=Z3.out.bC;have KZ:=aj (bP w3 (w.heap.size+1) (int i64 0) (int i64 1) (int i64 wd) (int i64 hg) (slice a1 gs.length b1) (slice a2 os.length b2) (slice a3 n b3) (slice a4 0 b4) (slice a5 0 b5));obtain⟨y0,y1,y2,y3,y4,y5,y6,y7,y8⟩:=(Z3.out.put (int i64 0) (int i64 1) (int i64 wd) (int i64 hg) (slice a1 gs.length b1) (slice a2 os.length b2) (slice a3 n b3) (slice a4 0 b4) (slice a5 0 b5)).cells;go_wp2;clear z0 z1 z2 z3 z4 z5 z6 z7 z8 t0 t1 t2 t3 t4 t5 t6 t7 t8;generalize World.setCell _ ⟨_,8,none⟩ _=w9 at *;refine bodyPost_ret (v:=.tuple #[.agg #[int i64 0,int i64 1,int i64 wd,int i64 hg,slice a1 gs.length b1,slice a2 os.length b2,slice a3 n b3,slice a4 0 b4,slice a5 0 b5],.nilIface]) (by simp[results,Tryz.results38,go_sem,y0,y1,y2,y3,y4,y5,y6,y7,y8]) rfl ⟨_,_,rfl,by rw[F0.out];exact Er.nil,?_,KZ.out.below B3.out B3.out.size (by omega)⟩;rw[vZ F0.out,Int.toNat_natCast];exact⟨_,_,_,_,_,rfl,(O3.out.1.kp KZ.out (by omega)).mono (by omega),(O3.out.2.1.kp KZ.out (by omega)).mono (by omega),(O3.out.2.2.1.kp KZ.out (by omega)).mono (by omega),(O3.out.2.2.2.1.kp KZ.out (by omega)).mono (by omega),(O3.out.2.2.2.2.kp KZ.out (by omega)).mono (by omega)⟩
end Go.Proofs.YtolfphmdmpehdaaGreatDoor
namespace Go.Proofs.YtolfphmdmpehdaaGreatDoor.Fd
def UD(g:Int):UInt8:=if g=0 then 46 else if g=1 then 35 else if g=2 then 126 else 94
def qA(g o:Int):UInt8:=if o=0 then UD g else if o%10=0/\o<=90 then(48+(o/10).toNat).toUInt8 else 43
def eu(W:Nat)(gs os:List Int)(r c:Nat):List UInt8:=(List.range c).map λj=>qA (gs.getD (r*W+j) 0) (os.getD (r*W+j) 0)
def jA(W:Nat)(gs os:List Int):Nat->List UInt8
 |0=>[]
 |r+1=>jA W gs os r++(eu W gs os r W++[10])
theorem jB(W:Nat)(gs os:List Int)(r c:Nat):eu W gs os r (c+1)=eu W gs os r c++[qA (gs.getD (r*W+c) 0) (os.getD (r*W+c) 0)]:=by
 unfold eu;rw[List.range_succ,List.map_append];rfl
structure St where
 c:Nat
 W:Nat
 H:Nat
 gs:List Int
 os:List Int
def st0:St:=⟨0,0,0,[],[]⟩
def meant(b:UInt8):Option (Int×Int):=
 if 49<=b.toNat/\b.toNat<=57 then some (0,((b.toNat:Int)-48)*10) else if b=46 then some (0,0) else if b=35 then some (1,0) else if b=126 then some (2,0) else if b=94 then some (3,0) else none
def step(s:St)(b:UInt8):Int ⊕ St:=
 if b=10 then(if s.c=0\/(0<s.H/\s.c≠s.W) then .inl 2 else .inr ⟨0,s.c,s.H+1,s.gs,s.os⟩)
 else match meant b with
  |none=>.inl 2
  |some (g,o)=>if 0<s.H/\s.c=s.W then .inl 2 else if s.c=12\/s.H=12 then .inl 4 else .inr ⟨s.c+1,s.W,s.H,s.gs++[g],s.os++[o]⟩
def run:St->Nat->List UInt8->(Nat×Int) ⊕ St
 |s,_,[]=>.inr s
 |s,i,b::bs=>match step s b with
  | .inl e=>.inl (i,e)
  | .inr s'=>run s' (i+1) bs
def parse(l:List UInt8):(Nat×Int) ⊕ St:=
 match run st0 0 l with
 | .inl x=>.inl x
 | .inr s=>if 0<s.c\/s.H=0 then .inl (l.length,2) else .inr s
theorem J_(s:St)(i:Nat)(b:UInt8)(bs:List UInt8):run s i (b::bs)=match step s b with| .inl e=>.inl (i,e)| .inr s'=>run s' (i+1) bs:=rfl
def yZ(g o:Int):Prop:=0<=g/\g<=3/\0<=o/\o<=90/\o%10=0/\(0<o->g=0)
theorem Eu{b:UInt8}{g o:Int}(h:meant b=some (g,o)):qA g o=b/\yZ g o:=by
 unfold meant at h;split at h
 ·rename_i hb
  simp only[Option.some.injEq,Prod.mk.injEq] at h;obtain⟨rfl,rfl⟩:=h;have e1:(((b.toNat:Int)-48)*10)/10=(b.toNat:Int)-48:=by omega
  refine⟨?_,by unfold yZ;omega⟩;unfold qA;rw[if_neg (by omega),if_pos (by omega),e1,show 48+((b.toNat:Int)-48).toNat=b.toNat by omega];exact UInt8.ofNat_toNat
 ·split at h
  ·rename_i hb
   simp only[Option.some.injEq,Prod.mk.injEq] at h;obtain⟨rfl,rfl⟩:=h;exact⟨by rw[hb];rfl,by unfold yZ;omega⟩
  ·split at h
   ·rename_i hb
    simp only[Option.some.injEq,Prod.mk.injEq] at h;obtain⟨rfl,rfl⟩:=h;exact⟨by rw[hb];rfl,by unfold yZ;omega⟩
   ·split at h
    ·rename_i hb
     simp only[Option.some.injEq,Prod.mk.injEq] at h;obtain⟨rfl,rfl⟩:=h;exact⟨by rw[hb];rfl,by unfold yZ;omega⟩
    ·split at h
     ·rename_i hb
      simp only[Option.some.injEq,Prod.mk.injEq] at h;obtain⟨rfl,rfl⟩:=h;exact⟨by rw[hb];rfl,by unfold yZ;omega⟩
     ·cases h
theorem lZ{l:List Int}{x:Int}{i:Nat}(h:i<l.length):(l++[x]).getD i 0=l.getD i 0:=by
 rw[List.getD_eq_getElem?_getD,List.getD_eq_getElem?_getD,List.getElem?_append_left h]
theorem kH{l:List Int}{x:Int}{i:Nat}(h:i=l.length):(l++[x]).getD i 0=x:=by
 subst h;rw[List.getD_eq_getElem?_getD,List.getElem?_append_right (Nat.le_refl _)];simp
theorem mD{W:Nat}{gs os:List Int}{g o:Int}{r c:Nat}(h1:r*W+c<=gs.length)(h2:r*W+c<=os.length):eu W (gs++[g]) (os++[o]) r c=eu W gs os r c:=by
 induction c with
 |zero=>rfl
 |succ c ih=>
  rw[jB,jB,ih (by omega) (by omega),lZ (by omega),lZ (by omega)]
theorem wu{W:Nat}{gs os:List Int}{g o:Int}{r:Nat}(h1:r*W<=gs.length)(h2:r*W<=os.length):jA W (gs++[g]) (os++[o]) r=jA W gs os r:=by
 induction r with
 |zero=>rfl
 |succ r ih=>
  rw[Nat.add_mul] at h1 h2;simp only[jA];rw[ih (by omega) (by omega),mD (by omega) (by omega)]
theorem uj(W V:Nat)(gs os:List Int)(c:Nat):eu W gs os 0 c=eu V gs os 0 c:=by
 unfold eu;simp
structure Inv(s:St)(l:List UInt8):Prop where
 w0:s.H=0->s.W=0
 wp:0<s.H->0<s.W
 cw:0<s.H->s.c<=s.W
 c12:s.c<=12
 w12:s.W<=12
 h12:s.H<=12
 top:s.H=12->s.c=0
 gl:s.gs.length=s.H*s.W+s.c
 ol:s.os.length=s.H*s.W+s.c
 UJ:∀(i:Nat) g o,s.gs[i]? =some g->s.os[i]? =some o->yZ g o
 text:l=jA s.W s.gs s.os s.H++eu s.W s.gs s.os s.H s.c
theorem inv0:Inv st0 []:=⟨λ_=>rfl,λh=>by simp[st0] at h,λh=>by simp[st0] at h,by simp[st0],by simp[st0],by simp[st0],λh=>by simp[st0] at h,rfl,rfl,λi g o h=>by simp[st0] at h,rfl⟩
theorem qm{l:List Int}{x y:Int}{i:Nat}(h:(l++[x])[i]? =some y):(i<l.length/\l[i]? =some y)\/(i=l.length/\y=x):=by
 rcases Nat.lt_or_ge i l.length with h1|h1
 ·left;rw[List.getElem?_append_left h1] at h;exact⟨h1,h⟩
 ·right
  rw[List.getElem?_append_right h1] at h;have h2:i-l.length=0:=by
   rcases Nat.eq_zero_or_pos (i-l.length) with h2|h2
   ·exact h2
   ·rw[List.getElem?_eq_none (by simp;omega)] at h;cases h
  rw[h2] at h;simp at h;exact⟨by omega,h.symm⟩
theorem Inv.step{s s':St}{l:List UInt8}{b:UInt8}(h:Inv s l)(hs:step s b=.inr s'):Inv s' (l++[b]):=by
 unfold Fd.step at hs;split at hs
 ·rename_i hb
  subst hb;split at hs
  ·cases hs
  ·rename_i hc
   injection hs with hs
   subst hs;have hc0:0<s.c:=by omega
   have hcw:0<s.H->s.c=s.W:=by omega
   have hh:s.H≠12:=λe=>by have:=h.top e;omega
   have h12:=h.h12;have c12:=h.c12
   have el:s.H*s.W+s.c=(s.H+1)*s.c:=by
    rcases Nat.eq_zero_or_pos s.H with e|e
    ·rw[e];simp
    ·rw[<-hcw e,Nat.add_mul,Nat.one_mul]
   refine⟨by simp,by simp;exact hc0,by simp,by simp,c12,by show s.H+1<=12;omega,by simp,?_,?_,h.UJ,?_⟩
   ·show s.gs.length=(s.H+1)*s.c+0;rw[h.gl,el];rfl
   ·show s.os.length=(s.H+1)*s.c+0;rw[h.ol,el];rfl
   ·show l++[10]=jA s.c s.gs s.os (s.H+1)++eu s.c s.gs s.os (s.H+1) 0
    rw[h.text];simp only[jA];rcases Nat.eq_zero_or_pos s.H with e|e
    ·rw[e,uj s.W s.c]
     simp[jA,eu]
    ·rw[<-hcw e]
     simp[eu]
 ·split at hs
  ·cases hs
  ·rename_i g o hm
   split at hs
   ·cases hs
   ·split at hs
    ·cases hs
    ·rename_i h1 h2
     injection hs with hs
     subst hs;obtain⟨e1,e2⟩:=Eu hm;have cw:=h.cw;have c12:=h.c12;have h12:=h.h12
     refine⟨h.w0,h.wp,λhp=>?_,?_,h.w12,h.h12,λe=>?_,?_,?_,?_,?_⟩
     ·show s.c+1<=s.W;have:=cw hp;have:0<s.H:=hp;omega
     ·show s.c+1<=12;omega
     ·exfalso;have:s.H=12:=e;omega
     ·show(s.gs++[g]).length=s.H*s.W+(s.c+1);rw[List.length_append,h.gl];rfl
     ·show(s.os++[o]).length=s.H*s.W+(s.c+1);rw[List.length_append,h.ol];rfl
     ·intro i g' o' hg ho
      rcases qm hg with⟨l1,q1⟩|⟨l1,q1⟩
      ·rcases qm ho with⟨l2,q2⟩|⟨l2,q2⟩
       ·exact h.UJ i g' o' q1 q2
       ·have:=h.gl;have:=h.ol;omega
      ·rcases qm ho with⟨l2,q2⟩|⟨l2,q2⟩
       ·have:=h.gl;have:=h.ol;omega
       ·rw[q1,q2];exact e2
     ·show l++[b]=jA s.W (s.gs++[g]) (s.os++[o]) s.H++eu s.W (s.gs++[g]) (s.os++[o]) s.H (s.c+1)
      have:=h.gl;have:=h.ol
      rw[wu (by omega) (by omega),jB,mD (by omega) (by omega),kH (by omega),kH (by omega),e1,h.text,List.append_assoc]
theorem Inv.run{s s':St}{l m:List UInt8}{i:Nat}(h:Inv s l)(hs:run s i m=.inr s'):Inv s' (l++m):=by
 induction m generalizing s l i with
 |nil=>
  simp only[Fd.run] at hs;injection hs with hs
  subst hs;simpa using h
 |cons b bs ih=>
  rw[J_] at hs;cases hb:Fd.step s b with
  |inl e=>rw[hb] at hs;cases hs
  |inr s1=>
   rw[hb] at hs;have:=ih (h.step hb) hs;rwa[List.append_assoc] at this
section
variable {W H:Nat} {gs os:List Int} (G:Good W H gs os) (ht:∀o∈os,o<=90/\o%10=0)
include G ht
end
end Go.Proofs.YtolfphmdmpehdaaGreatDoor.Fd
namespace Go.Proofs.YtolfphmdmpehdaaGreatDoor
def SG:List Int:=[0,0,0,0,0,0,0,0]
def SO:List Int:=[0,0,0,0,0,0,30,0]
def S0:WV:=⟨0,1,4,2,SG,SO,[100,100],[],[]⟩
def S1:WV:=⟨0,2,4,2,SG,SO,[100,100],[⟨1,0,0,0,50,0,0,0⟩],[]⟩
def S2:WV:=⟨0,3,4,2,SG,SO,[100,100],[⟨1,0,0,0,50,0,0,0⟩,⟨2,0,1,1,10,0,0,0⟩],[]⟩
def S3:WV:=⟨0,4,4,2,SG,SO,[100,100],[⟨1,0,0,0,50,0,0,0⟩,⟨2,0,1,1,10,0,0,0⟩,⟨3,1,2,3,20,0,0,0⟩],[]⟩
theorem Ko:Fd.parse [46,46,46,46,10,46,46,51,46,10]=.inr ⟨0,4,2,SG,SO⟩:=by rfl
namespace So
def zh(o:aK):Bool:=decide (o.what=3)
theorem rU{l:List aK}:∀(q:Nat),q<=l.length->((kp l q).map Prod.fst).countP zh=(l.take q).countP zh
 |0,_=>by simp[kp]
 |q+1,h=>by
  have hq:q<l.length:=by omega
  have ih:=rU (l:=l) q (by omega);obtain⟨o,ho⟩:∃o,l[q]? =some o:=⟨_,List.getElem?_eq_getElem hq⟩;rw[List.take_succ_eq_append_getElem hq,List.countP_append,<-ih];have e:l[q]=o:=by have:=List.getElem?_eq_getElem hq;rw[ho] at this;exact(Option.some.inj this).symm
  rw[e];by_cases hc:o.what=3\/lf l l.length o.aA o.unit=(q:Nat)
  ·rw[pW ho hc,List.map_append,List.countP_append]
   rfl
  ·rw[Pm ho hc]
   have h3:zh o=false:=by unfold zh;exact decide_eq_false (λh=>hc (.inl h))
   simp[h3]
theorem aX.Fg{l out:List aK}(h:aX l out):out.countP zh=l.countP zh:=by
 obtain⟨S,p,r,rfl⟩:=h;have h1:=rU (l:=l) l.length (Nat.le_refl _);rw[List.take_length] at h1;rw[<-h1];exact(p.map Prod.fst).countP_eq zh
theorem aX.has{l out:List aK}(h:aX l out){i:Nat}{o:aK}(ho:l[i]? =some o)(h3:¬o.what=3)(hn:∀(k:Nat) x,i<k->k<l.length->l[k]? =some x->x.what=3\/x.aA≠o.aA\/x.unit≠o.unit):o∈out:=by
 obtain⟨S,p,r,rfl⟩:=h;have hi:i<l.length:=(List.getElem?_eq_some_iff.1 ho).1;exact List.mem_map.2 ⟨(o,i),p.mem_iff.2 (Pn ho (.inr (tX ho h3 hi hn)) hi),rfl⟩
theorem aX.once{l out:List aK}(h:aX l out){i k:Nat}{x y:aK}(hki:k<i)(hx:out[k]? =some x)(hy:out[i]? =some y)(h3:¬x.what=3)(h4:¬y.what=3)(hp:x.aA=y.aA):¬x.unit=y.unit:=by
 intro hu;obtain⟨S,p,r,rfl⟩:=h;rw[List.getElem?_map] at hx hy;obtain⟨a,ha,rfl⟩:=Option.map_eq_some_iff.1 hx;obtain⟨b,hb,rfl⟩:=Option.map_eq_some_iff.1 hy;obtain⟨-,-,ka⟩:=kT (p.mem_iff.1 (List.mem_of_getElem? ha));obtain⟨-,-,kb⟩:=kT (p.mem_iff.1 (List.mem_of_getElem? hb));have e1:=ka.resolve_left h3;have e2:=kb.resolve_left h4;rw[hp,hu,e2] at e1;have tg:S.Pairwise (λx y=>x.2≠y.2):=(p.symm.pairwise_iff (λ{a b} (h:a.2≠b.2)=>h.symm)).1 ((ku (l:=l) l.length).imp (λh=>by omega));obtain⟨la,ea⟩:=List.getElem?_eq_some_iff.1 ha;obtain⟨lb,eb⟩:=List.getElem?_eq_some_iff.1 hb;have:=List.pairwise_iff_getElem.1 tg k i la lb hki;rw[ea,eb] at this;omega
def l0:List aK:=[⟨0,2,1,5⟩,⟨0,1,0,0⟩,⟨0,2,1,6⟩]
end So
namespace So
def Ro2(x y:aK):Prop:=¬wJ y x/\(¬x.what=3->¬y.what=3->x.aA=y.aA->¬x.unit=y.unit)
theorem aX.lo{l out:List aK}(h:aX l out):out.Pairwise Ro2:=by
 rw[List.pairwise_iff_getElem];intro k i hk hi hki;refine⟨?_,λh3 h4 hp=>h.once hki (List.getElem?_eq_getElem hk) (List.getElem?_eq_getElem hi) h3 h4 hp⟩;obtain⟨S,p,r,rfl⟩:=h;simp only[List.length_map] at hk hi;have:=List.pairwise_iff_getElem.1 r k i hk hi hki;simp only[List.getElem_map];rcases this with h|h
 ·exact Jp h
 ·exact h.1
theorem Kr{out:List aK}(h:out.Pairwise Ro2):∀q,q<=out.length->(kp out q).map Prod.fst=out.take q
 |0,_=>by simp[kp]
 |q+1,hq=>by
  have hl:q<out.length:=by omega
  obtain⟨o,ho⟩:∃o,out[q]? =some o:=⟨_,List.getElem?_eq_getElem hl⟩;have ih:=Kr h q (by omega);have hc:o.what=3\/lf out out.length o.aA o.unit=(q:Nat):=by
   by_cases h3:o.what=3
   ·exact .inl h3
   ·refine .inr (tX ho h3 hl λk x h1 h2 hx=>?_)
    by_cases hx3:x.what=3
    ·exact .inl hx3
    ·refine .inr ?_
     have:=(List.pairwise_iff_getElem.1 h q k hl h2 h1).2;have e1:out[q]=o:=by have:=List.getElem?_eq_getElem hl;rw[ho] at this;exact(Option.some.inj this).symm
     have e2:out[k]=x:=by have:=List.getElem?_eq_getElem h2;rw[hx] at this;exact(Option.some.inj this).symm
     rw[e1,e2] at this;by_cases hp:x.aA=o.aA
     ·exact .inr (λhu=>this h3 hx3 hp.symm hu.symm)
     ·exact .inl hp
  have e1:out[q]=o:=by have:=List.getElem?_eq_getElem hl;rw[ho] at this;exact(Option.some.inj this).symm
  rw[pW ho hc,List.map_append,ih,List.take_succ_eq_append_getElem hl,e1];rfl
theorem nP{out:List aK}(h:out.Pairwise Ro2):aX out out:=by
 have e:=Kr h out.length (Nat.le_refl _);rw[List.take_length] at e;refine⟨kp out out.length,List.Perm.refl _,?_,e.symm⟩;have h1:=ku (l:=out) out.length;have h2:((kp out out.length).map Prod.fst).Pairwise Ro2:=by rw[e];exact h
 rw[List.pairwise_map] at h2;exact(h1.and h2).imp λ⟨a,b⟩=>.inr ⟨b.1,a⟩
theorem aX.fault{l out:List aK}(h:aX l out)(hf:Od.faults l=0):Od.faults out=0:=by
 obtain⟨h1,h2⟩:=Od.gW hf;exact Od.qP (Nat.le_trans h.len h1) λo ho=>h2 o (h.mem ho)
def l1:List aK:=[⟨1,7,1,5⟩,⟨1,7,0,0⟩]
end So
open Go.Proofs.YtolfphmdmpehdaaGreatDoor.So Go.RowKit
namespace Wy
def snd(nb:Nat->List Int)(st:Nat->Nat->Int)(t:Nat)(l:List Int)(n:Nat):Bool:=(List.range n).all λi=>(decide (i=t)&&decide (l.getD i 0=0))||(nb i).any λx=>decide (0<=x)&&decide (0<st i x.toNat)&&decide (0<=l.getD x.toNat (-1))&&decide (l.getD i 0=st i x.toNat+l.getD x.toNat (-1))
theorem Ew{nb:Nat->List Int}{st:Nat->Nat->Int}{t:Nat}{l:List Int}{n:Nat}(hn:l.length=n)(h:snd nb st t l n=true):Sound nb st t l:=by
 have key:∀(m i:Nat) (x:Int),l[i]? =some x->x<=(m:Int)->Way nb st t i x:=by
  intro m
  induction m using Nat.strongRecOn with
  |ind m ih=>
   intro i x hx hm;have hi:i<n:=by rw[<-hn];exact(List.getElem?_eq_some_iff.1 hx).1
   unfold snd at h;rw[List.all_eq_true] at h;have h1:=h i (List.mem_range.2 hi);have hg:l.getD i 0=x:=by rw[List.getD_eq_getElem?_getD,hx];rfl
   rw[Bool.or_eq_true] at h1;rcases h1 with h1|h1
   ·rw[Bool.and_eq_true,decide_eq_true_eq,decide_eq_true_eq,hg] at h1
    obtain⟨rfl,rfl⟩:=h1;exact .here
   ·rw[List.any_eq_true] at h1
    obtain⟨y,hy,h2⟩:=h1;simp only[Bool.and_eq_true,decide_eq_true_eq,hg] at h2;obtain⟨⟨⟨h3,h4⟩,h5⟩,h6⟩:=h2;have hyl:∃z,l[y.toNat]? =some z/\l.getD y.toNat (-1)=z:=by
     rw[List.getD_eq_getElem?_getD] at h5 ⊢;cases e:l[y.toNat]? with
     |none=>rw[e] at h5;simp at h5
     |some z=>exact⟨z,rfl,rfl⟩
    obtain⟨z,hz,ez⟩:=hyl;rw[ez] at h5 h6;have hz0:z<(m:Int):=by omega
    have hw:=ih z.toNat (by omega) y.toNat z hz (by omega);rw[h6];exact .step (by rw[Int.toNat_of_nonneg h3];exact hy) h4 hw
 intro i x hx;by_cases h0:0<=x
 ·exact .inr (key x.toNat i x hx (by omega))
 ·exact .inr (key 0 i x hx (by omega))
theorem mF{W H:Nat}{st:Nat->Nat->Int}{t:Nat}{l:List Int}(hW:0<W)(h1:l.length=W*H)(h2:l[t]? =some 0)(h3:snd (Fd.near W H) st t l (W*H)=true)(h4:Rq (Fd.near W H) st l (W*H)=true):bD (Fd.near W H) st t (W*H) l:=by
 refine wY h1 ?_ h2 (Ew h1 h3) (vY h4);intro i j hi hj;obtain⟨t,h1,h2,-⟩:=Fd.mQ (W:=W) (H:=H) hW hi hj;omega
theorem je{l:List Int}(h:l.all (λx=>decide (x<0\/x+2<=2*told l))=true):Flat l:=by
 intro i x hx;rw[List.all_eq_true] at h;have:=h x (List.mem_of_getElem? hx);simpa using this
theorem qo{nb:Nat->List Int}{ss l:List Int}{i j:Nat}(k:Nat)(h1:(nb i)[k]? =some (j:Int))(h2:pn ss l i j=true)(h3:((nb i).take k).any (pn ss l i)=false):Nx nb ss l i j:=⟨k,h1,h2,h3⟩
end Wy
open Wy
def OB:KV:=⟨⟨#[98,97,115,101]⟩,50,0,0,0,0,0,0,0,false,true⟩
def OD:KV:=⟨⟨#[100,105,103,103,101,114]⟩,10,0,0,0,2,0,0,20,false,false⟩
def OK:List KV:=[OB,OD]
def PS:List Int:=SG.map λg=>Fd.onto g false
def ob:aC:=⟨1,0,0,0,50,0,0,0⟩
def od(a ld tk g:Int):aC:=⟨2,0,1,a,10,ld,tk,g⟩
def OW(tn:Int)(sN:Int)(gold:Int)(d:aC):WV:=⟨tn,3,4,2,SG,[0,0,0,0,0,0,sN,0],[gold],[ob,d],[]⟩
def l0:List Int:=[0,1,2,3,1,2,3,4]
def l6:List Int:=[3,2,1,2,2,1,0,1]
def l2:List Int:=[2,1,0,1,3,2,1,2]
def l1:List Int:=[1,0,1,2,2,1,2,3]
theorem UM:bD (Fd.near 4 2) (λ_ j=>PS.getD j 0) 0 8 l0:=mF (W:=4) (H:=2) (by decide) rfl rfl (by decide+kernel) (by decide+kernel)
theorem Xv:bD (Fd.near 4 2) (λ_ j=>PS.getD j 0) 6 8 l6:=mF (W:=4) (H:=2) (by decide) rfl rfl (by decide+kernel) (by decide+kernel)
theorem UO:bD (Fd.near 4 2) (λi _=>PS.getD i 0) 6 8 l6:=mF (W:=4) (H:=2) (by decide) rfl rfl (by decide+kernel) (by decide+kernel)
theorem UR:bD (Fd.near 4 2) (λi _=>PS.getD i 0) 2 8 l2:=mF (W:=4) (H:=2) (by decide) rfl rfl (by decide+kernel) (by decide+kernel)
theorem UY:bD (Fd.near 4 2) (λi _=>PS.getD i 0) 1 8 l1:=mF (W:=4) (H:=2) (by decide) rfl rfl (by decide+kernel) (by decide+kernel)
theorem Rt(tn sN gold:Int)(d:aC):dO OK (OW tn sN gold d) 4 2 ob OB 0:=⟨0,0,l0,rfl,.inl ⟨rfl,rfl⟩,by decide,⟨UM,je (by decide+kernel)⟩,.inr ⟨by decide,.inl ⟨rfl,rfl⟩⟩⟩
theorem zi(tn sN gold:Int)(d:aC):Goes OK (OW tn sN gold d) 4 2 OB 0 [ob,d] OB.n4 [] [ob,d]:=
 .stop (u:=ob) (c:=0) (gg:=0) rfl (Rt tn sN gold d) rfl (.inl (by decide))
theorem um(tn sN gold:Int){a c:Nat}{ld:Int}(h1:(ld==20||sN==0)=false)(h2:OU (Fd.near 4 2) PS l6 6 a c)(h3:0<=l6.getD a 0):dO OK (OW tn sN gold (od a ld 2 6)) 4 2 (od a ld 2 6) OD c:=
 ⟨a,6,l6,rfl,.inr (.inl ⟨by simp[od],λh=>by
  have h9:jP (OW tn sN gold (od a ld 2 6)).os (od a ld 2 6) OD=(ld==20||sN==0):=rfl;rw[h9,h1] at h;exact Bool.noConfusion h.2,rfl⟩),by decide,⟨Xv,je (by decide+kernel)⟩,.inr ⟨h3,h2⟩⟩
theorem zn(tn sN gold:Int){a c:Nat}{l:List Int}(hl:bD (Fd.near 4 2) (λi _=>PS.getD i 0) a 8 l)(hf:Flat l)(hh:jo OK [ob,od a 20 2 6] l (od a 20 2 6)=0)(h2:OU (Fd.near 4 2) PS l0 0 a c)(h3:0<=l0.getD a 0):dO OK (OW tn sN gold (od a 20 2 6)) 4 2 (od a 20 2 6) OD c:=
 ⟨a,0,l0,rfl,.inr (.inr ⟨rfl,rfl,l,⟨hl,hf⟩,hh.symm⟩),by decide,⟨UM,je (by decide+kernel)⟩,.inr ⟨h3,h2⟩⟩
theorem Ru:∃evs,Moves OK (OW 0 30 0 (od 1 0 2 6)) 4 2 0 [ob,od 1 0 2 6] evs [ob,od 6 0 2 6]:=by
 have g3:Goes OK (OW 0 30 0 (od 1 0 2 6)) 4 2 OD 1 [ob,od 6 0 2 6] 0 [] [ob,od 6 0 2 6]:=.stop (u:=od 6 0 2 6) (c:=6) (gg:=0) rfl (um 0 30 0 (a:=6) (by decide) (.inl ⟨rfl,rfl⟩) (by decide)) rfl (.inl (by decide));have g2:Goes OK (OW 0 30 0 (od 1 0 2 6)) 4 2 OD 1 [ob,od 2 0 2 6] 1 [6] [ob,od 6 0 2 6]:=.step (u:=od 2 0 2 6) (c:=6) (gg:=0) rfl (um 0 30 0 (a:=2) (by decide) (.inr ⟨by decide,qo 2 (by decide+kernel) (by decide+kernel) (by decide+kernel)⟩) (by decide)) rfl (by decide) (by decide) g3;have g1:Goes OK (OW 0 30 0 (od 1 0 2 6)) 4 2 OD 1 [ob,od 1 0 2 6] OD.n4 [2,6] [ob,od 6 0 2 6]:=.step (u:=od 1 0 2 6) (c:=2) (gg:=0) rfl (um 0 30 0 (a:=1) (by decide) (.inr ⟨by decide,qo 1 (by decide+kernel) (by decide+kernel) (by decide+kernel)⟩) (by decide)) rfl (by decide) (by decide) g2;exact⟨_,.unit (u:=ob) (k:=OB) (u1:=ob) rfl rfl (zi _ _ _ _) rfl (.unit (u:=od 1 0 2 6) (k:=OD) (u1:=od 6 0 2 6) rfl rfl g1 rfl (.done rfl))⟩
theorem Rw:∃evs,Moves OK (OW 1 20 0 (od 6 10 2 6)) 4 2 0 [ob,od 6 10 2 6] evs [ob,od 6 10 2 6]:=by
 have g1:Goes OK (OW 1 20 0 (od 6 10 2 6)) 4 2 OD 1 [ob,od 6 10 2 6] OD.n4 [] [ob,od 6 10 2 6]:=.stop (u:=od 6 10 2 6) (c:=6) (gg:=0) rfl (um 1 20 0 (a:=6) (by decide) (.inl ⟨rfl,rfl⟩) (by decide)) rfl (.inr (by decide));exact⟨_,.unit (u:=ob) (k:=OB) (u1:=ob) rfl rfl (zi _ _ _ _) rfl (.unit (u:=od 6 10 2 6) (k:=OD) (u1:=od 6 10 2 6) rfl rfl g1 rfl (.done rfl))⟩
theorem Rx:∃evs,Moves OK (OW 2 10 0 (od 6 20 2 6)) 4 2 0 [ob,od 6 20 2 6] evs [ob,od 1 20 2 6]:=by
 have g3:Goes OK (OW 2 10 0 (od 6 20 2 6)) 4 2 OD 1 [ob,od 1 20 2 6] 0 [] [ob,od 1 20 2 6]:=.stop (u:=od 1 20 2 6) (c:=0) (gg:=0) rfl (zn 2 10 0 (a:=1) UY (je (by decide+kernel)) (by decide+kernel) (.inr ⟨by decide,qo 0 (by decide+kernel) (by decide+kernel) (by decide+kernel)⟩) (by decide)) rfl (.inl (by decide));have g2:Goes OK (OW 2 10 0 (od 6 20 2 6)) 4 2 OD 1 [ob,od 2 20 2 6] 1 [1] [ob,od 1 20 2 6]:=.step (u:=od 2 20 2 6) (c:=1) (gg:=0) rfl (zn 2 10 0 (a:=2) UR (je (by decide+kernel)) (by decide+kernel) (.inr ⟨by decide,qo 0 (by decide+kernel) (by decide+kernel) (by decide+kernel)⟩) (by decide)) rfl (by decide) (by decide) g3;have g1:Goes OK (OW 2 10 0 (od 6 20 2 6)) 4 2 OD 1 [ob,od 6 20 2 6] OD.n4 [2,1] [ob,od 1 20 2 6]:=.step (u:=od 6 20 2 6) (c:=2) (gg:=0) rfl (zn 2 10 0 (a:=6) UO (je (by decide+kernel)) (by decide+kernel) (.inr ⟨by decide,qo 0 (by decide+kernel) (by decide+kernel) (by decide+kernel)⟩) (by decide)) rfl (by decide) (by decide) g2;exact⟨_,.unit (u:=ob) (k:=OB) (u1:=ob) rfl rfl (zi _ _ _ _) rfl (.unit (u:=od 6 20 2 6) (k:=OD) (u1:=od 1 20 2 6) rfl rfl g1 rfl (.done rfl))⟩
def oo:aK:=⟨0,2,2,6⟩
def OX:WV:=OW 0 30 0 (od 1 0 0 0)
theorem gv1:(gv OK OX [oo] 1).1=OW 0 30 0 (od 1 0 2 6):=by rfl
theorem Xw:Ir OK 4 2 (OW 0 30 0 (od 6 0 2 6))=OW 0 20 0 (od 6 10 2 6):=by rfl
theorem Xx:Ir OK 4 2 (OW 1 20 0 (od 6 10 2 6))=OW 1 10 0 (od 6 20 2 6):=by rfl
theorem Xy:Ir OK 4 2 (OW 2 10 0 (od 1 20 2 6))=OW 2 10 20 (od 1 0 2 6):=by rfl
theorem Xz(tn sN gold a ld:Int)(h:True):iw OK 4 (OW tn sN gold (od a ld 2 6))=OW tn sN gold (od a ld 2 6):=by rfl
theorem Kt{A B C:WV}{us:List aC}{evs:List bM}(hq:A.qs=[])(hm:Moves OK A 4 2 0 A.us evs us)(hb:{A with us:=us}=B)(hd:Ir OK 4 2 B=C)(hf:iw OK 4 C=C):∃es,Ph OK 4 2 A 4 C es:=by
 have t:Tr OK A A.qs.length A [] []:=by rw[hq];exact .zero
 have p1:Ph OK 4 2 A 1 {A with qs:=[]} []:=.one t;have e:{A with qs:=[]}=A:=by rw[<-hq]
 rw[e] at p1;have p2:=Ph.two p1 hm;rw[hb] at p2;have p3:=Ph.three p2;rw[hd] at p3;have p4:=Ph.four p3;rw[hf] at p4;exact⟨_,p4⟩
theorem step1:∃es,kG OK OX [oo] (OW 1 20 0 (od 6 10 2 6)) es:=by
 obtain⟨evs,hm⟩:=Ru;obtain⟨es,hp⟩:=Kt (A:=OW 0 30 0 (od 1 0 2 6)) rfl hm rfl Xw (Xz _ _ _ _ _ trivial);exact⟨es,[oo],4,2,_,nP (by simp),rfl,rfl,by rw[show[oo].length=1 from rfl,gv1];exact hp,rfl⟩
theorem step2:∃es,kG OK (OW 1 20 0 (od 6 10 2 6)) [] (OW 2 10 0 (od 6 20 2 6)) es:=by
 obtain⟨evs,hm⟩:=Rw;obtain⟨es,hp⟩:=Kt (A:=OW 1 20 0 (od 6 10 2 6)) rfl hm rfl Xx (Xz _ _ _ _ _ trivial);exact⟨es,[],4,2,_,nP (by simp),rfl,rfl,hp,rfl⟩
theorem step3:∃es,kG OK (OW 2 10 0 (od 6 20 2 6)) [] (OW 3 10 20 (od 1 0 2 6)) es:=by
 obtain⟨evs,hm⟩:=Rx;obtain⟨es,hp⟩:=Kt (A:=OW 2 10 0 (od 6 20 2 6)) rfl hm rfl Xy (Xz _ _ _ _ _ trivial);exact⟨es,[],4,2,_,nP (by simp),rfl,rfl,hp,rfl⟩
theorem U_:Wd.aF OK OX=0:=by decide+kernel
theorem Ku:bg OK OX [oo]=0:=by decide+kernel
theorem Kv:bg OK (OW 1 20 0 (od 6 10 2 6)) []=0:=by decide+kernel
theorem Kw:bg OK (OW 2 10 0 (od 6 20 2 6)) []=0:=by decide+kernel
theorem Va:gI OK OX [[oo],[],[]] 0 OX:=.zero
theorem PU:gI OK OX [[oo],[],[]] 1 (OW 1 20 0 (od 6 10 2 6)):=by
 obtain⟨es,h⟩:=step1;exact .turn .zero rfl Ku h
theorem PV:gI OK OX [[oo],[],[]] 2 (OW 2 10 0 (od 6 20 2 6)):=by
 obtain⟨es,h⟩:=step2;exact .turn PU rfl Kv h
theorem Vb:gI OK OX [[oo],[],[]] 3 (OW 3 10 20 (od 1 0 2 6)):=by
 obtain⟨es,h⟩:=step3;exact .turn PV rfl Kw h
theorem Ky{F:Int}{w w':World}{v r:Value}(hs:fJ OK OX [[oo],[],[]] F w w' v)(he:Er r F):r=.nilIface/\Wo w' w.heap.size v (OW 3 10 20 (od 1 0 2 6)):=by
 rcases hs with⟨hn,-,h1|h1|⟨-,-,n,Z,l,p,hl',hf⟩⟩|⟨rfl,h1,h2,B,h3,h4⟩
 ·exact absurd U_ h1.1
 ·have:=h1.2.1;simp at this
 ·exfalso
  have hn2:n<3:=(List.getElem?_eq_some_iff.1 hl').1
  match n,hn2,hl',p with
  |0,_,h,p=>
   obtain rfl:=kD Va p;simp at h;subst h;exact hn (hf.symm.trans Ku)
  |1,_,h,p=>
   obtain rfl:=kD PU p;simp at h;subst h;exact hn (hf.symm.trans Kv)
  |2,_,h,p=>
   obtain rfl:=kD PV p;simp at h;subst h;exact hn (hf.symm.trans Kw)
 ·refine⟨?_,?_⟩
  ·rcases he with⟨-,h⟩|⟨h,-⟩
   ·exact h
   ·exact absurd rfl h
  ·rw[kD Vb h3]
   exact h4
end Go.Proofs.YtolfphmdmpehdaaGreatDoor
namespace Go.Proofs.YtolfphmdmpehdaaGreatDoor
open Go.RowKit
theorem Kz(s:ByteArray)(c:Int)(w:World):
  Calls Tryz.prog 173 #[.string s,.int .u8 c] w λe w'=>e=.returned (int i64 (Lib.indexByte s.data.toList c.toNat.toUInt8))/\w'=w:=by
 have hx:=run_callFunc_extern (w:=w) (args:= #[.string s,.int .u8 c]) Tryz.func213 (by kernel_rfl) (by kernel_rfl) (by kernel_rfl) (e:=Extern.BytealgIndexByte.indexByte) (by kernel_rfl);go_enter Tryz.func173,Tryz.ntmps173;go_wp2;rw[Lib.run_indexByteString];simp only[Result.andThen];rw[Oper.upon_value];go_wp2;go_ret;exact⟨rfl,rfl⟩
theorem KD(s:ByteArray)(c:Int)(w:World):
  Calls Tryz.prog 137 #[.string s,.int .u8 c] w λe w'=>e=.returned (int i64 (Lib.indexByte s.data.toList c.toNat.toUInt8))/\w'=w:=by
 have K:Hid (Calls Tryz.prog 173 #[.string s,.int .u8 c] w λe w'=>e=.returned (int i64 (Lib.indexByte s.data.toList c.toNat.toUInt8))/\w'=w):=Kz s c w;go_enter Tryz.func137,Tryz.ntmps137;go_wp2_with fail
 refine Calls.mono K.out ?_;rintro e w' ⟨rfl,rfl⟩;go_wp2;go_ret;exact⟨rfl,rfl⟩
namespace Fd
def uo(b:UInt8):Int:=if b=46 then 0 else if b=35 then 1 else if b=126 then 2 else if b=94 then 3 else -1
theorem zq(b:UInt8)(h:¬(49<=b.toNat/\b.toNat<=57)):meant b=if 0<=uo b then some (uo b,0) else none:=by
 unfold meant uo;rw[if_neg h];split
 ·rfl
 ·split
  ·rfl
  ·split
   ·rfl
   ·split
    ·rfl
    ·rfl
end Fd
theorem KE(b:UInt8):Lib.indexByte [46,35,126,94] b=Fd.uo b:=by
 unfold Fd.uo;by_cases h1:b=46
 ·subst h1;decide
 ·by_cases h2:b=35
  ·subst h2;decide
  ·by_cases h3:b=126
   ·subst h3;decide
   ·by_cases h4:b=94
    ·subst h4;decide
    ·have g1:¬46=b:=λh=>h1 h.symm
     have g2:¬35=b:=λh=>h2 h.symm
     have g3:¬126=b:=λh=>h3 h.symm
     have g4:¬94=b:=λh=>h4 h.symm
     simp[Lib.indexByte,h1,h2,h3,h4,g1,g2,g3,g4]
theorem Ey(b:UInt8)(w:World):
  Calls Tryz.prog 131 #[.int .u8 (b.toNat:Nat)] w λe w'=>(∃g o,Fd.meant b=some (g,o)/\e=.returned (.tuple #[int i64 g,int i64 o,.bool true])/\w'=w)\/(Fd.meant b=none/\e=.returned (.tuple #[int i64 (-1),int i64 0,.bool false])/\w'=w):=by
 have hb:=b.toNat_lt;by_cases h:49<=b.toNat/\b.toNat<=57
 ·have e:Fd.meant b=some (0,((b.toNat:Int)-48)*10):=by unfold Fd.meant;rw[if_pos h]
  have E:Hid _:=e;obtain⟨h1,h2⟩:=h;clear e;generalize b.toNat=n at *;have w1:IntKind.u8.wrap ((n:Int)-48)=(n:Int)-48:=by rw[IntKind.wrap_u8];omega
  go_enter Tryz.func131,Tryz.ntmps131;go_wp2;go_ret3;exact .inl ⟨_,_,E.out,rfl,rfl⟩
 ·have e:=Fd.zq b h
  have I:Hid (Calls Tryz.prog 137 #[.string ⟨#[46,35,126,94]⟩,.int .u8 (b.toNat:Nat)] w λe w'=>e=.returned (int i64 (Fd.uo b))/\w'=w):=by
   refine(KD ⟨#[46,35,126,94]⟩ (b.toNat:Nat) w).mono ?_;rintro e w' ⟨rfl,rfl⟩;refine⟨?_,rfl⟩;have e2:((b.toNat:Nat):Int).toNat.toUInt8=b:=by rw[Int.toNat_natCast];exact UInt8.ofNat_toNat
   rw[e2];rw[<-KE b]
  have gl: -1<=Fd.uo b:=by unfold Fd.uo;split<;>(try split)<;>(try split)<;>(try split)<;>omega
  generalize Fd.uo b=g at *;by_cases hg:0<=g
  ·have E:Hid (Fd.meant b=some (g,0)):=by unfold Hid;rw[e,if_pos hg]
   clear e;by_cases h1:49<=b.toNat
   ·have h2:¬b.toNat<=57:=by omega
    clear h;go_enter Tryz.func131,Tryz.ntmps131;go_wp2_with fail
    refine Calls.mono I.out ?_;rintro e w' ⟨rfl,rfl⟩;go_wp2;go_ret3;exact .inl ⟨_,_,E.out,rfl,rfl⟩
   ·clear h
    go_enter Tryz.func131,Tryz.ntmps131;go_wp2_with fail
    refine Calls.mono I.out ?_;rintro e w' ⟨rfl,rfl⟩;go_wp2;go_ret3;exact .inl ⟨_,_,E.out,rfl,rfl⟩
  ·obtain rfl:g= -1:=by omega
   have E:Hid (Fd.meant b=none):=by unfold Hid;rw[e,if_neg hg]
   clear e gl hg;by_cases h1:49<=b.toNat
   ·have h2:¬b.toNat<=57:=by omega
    clear h;go_enter Tryz.func131,Tryz.ntmps131;go_wp2_with fail
    refine Calls.mono I.out ?_;rintro e w' ⟨rfl,rfl⟩;go_wp2;go_ret3;exact .inr ⟨E.out,rfl,rfl⟩
   ·clear h
    go_enter Tryz.func131,Tryz.ntmps131;go_wp2_with fail
    refine Calls.mono I.out ?_;rintro e w' ⟨rfl,rfl⟩;go_wp2;go_ret3;exact .inr ⟨E.out,rfl,rfl⟩
structure Two(w:World)(base:Nat)(u1 u2:Value)(gs os:List Int):Prop where
 o1:Ow w base u1 gs
 o2:Ow w base u2 os
 ne:∀k,u1.ownBlock=some k->u2.ownBlock≠some k
theorem Two.below{w w':World}{base n:Nat}{u1 u2:Value}{gs os:List Int}(h:Two w base u1 u2 gs os)(hb:Below n w w')(hn:w.heap.size<=n):Two w' base u1 u2 gs os:=
 ⟨h.o1.below (hb.mono hn),h.o2.below (hb.mono hn),h.ne⟩
theorem Two.kp{w w':World}{base z:Nat}{u1 u2:Value}{gs os:List Int}(h:Two w base u1 u2 gs os)(hk:Kp z w w')(hz:z<base):Two w' base u1 u2 gs os:=by
 have hg:w.grownBy w' (some z):=⟨hk.os,hk.tape,hk.output,hk.size,λk hk' hne=>hk.block k hk' (λe=>hne (by rw[e]))⟩;refine⟨h.o1.kept hg ?_,h.o2.kept hg ?_,h.ne⟩
 ·right;intro e;have:=(h.o1.block z e).1;omega
 ·right;intro e;have:=(h.o2.block z e).1;omega
def Dt(w:World)(z:Nat)(u1 u2:Value)(s:Fd.St):Prop:=w.heap[z]? =some (.cells #[int i64 (s.W:Nat),int i64 (s.H:Nat),u1,u2,int i64 (s.c:Nat)] 129 (0,0))
def Dr(w:World)(z:Nat)(s:Fd.St):Prop:=∃u1 u2,Dt w z u1 u2 s/\Two w (z+1) u1 u2 s.gs s.os
section
variable {w:World} {z:Nat} {u1 u2:Value} {s:Fd.St}
theorem Dt.c0(h:Dt w z u1 u2 s):w.cell? ⟨z,0,none⟩=some (int i64 (s.W:Nat)):=by unfold Dt at h;simp[World.cell?,h]
theorem Dt.c1(h:Dt w z u1 u2 s):w.cell? ⟨z,1,none⟩=some (int i64 (s.H:Nat)):=by unfold Dt at h;simp[World.cell?,h]
theorem Dt.c2(h:Dt w z u1 u2 s):w.cell? ⟨z,2,none⟩=some u1:=by unfold Dt at h;simp[World.cell?,h]
theorem Dt.c3(h:Dt w z u1 u2 s):w.cell? ⟨z,3,none⟩=some u2:=by unfold Dt at h;simp[World.cell?,h]
theorem Dt.c4(h:Dt w z u1 u2 s):w.cell? ⟨z,4,none⟩=some (int i64 (s.c:Nat)):=by unfold Dt at h;simp[World.cell?,h]
theorem Dt.fz(h:Dt w z u1 u2 s)(i:Nat):w.frozen? ⟨z,i,none⟩=false:=by unfold Dt at h;simp[World.frozen?,h]
theorem Dt.lt(h:Dt w z u1 u2 s):z<w.heap.size:=lt_of_block h
theorem Dt.below{w':World}{n:Nat}(h:Dt w z u1 u2 s)(hb:Below n w w')(hz:z<n):Dt w' z u1 u2 s:=(hb.block z hz).trans h
end
theorem Oo(z:Nat)(u1 u2:Value)(s:Fd.St)(w:World)(h:Dt w z u1 u2 s)(hc:s.c<=12)(hw:s.W<=12)(hb:s.c=0\/s.c<s.W):
  Calls Tryz.prog 130 #[.pointer (some ⟨z,0,none⟩)] w λe w'=>e=.returned (.iface 85 (int i64 2))/\∃n,w'=w.drewN n:=by
 have c0:=h.c0;have c4:=h.c4;obtain⟨c,W,H,gs,os⟩:=s;simp only at hc hw hb c0 c4;clear h;by_cases q:c=0
 ·subst q
  go_enter Tryz.func130,Tryz.ntmps130;go_wp2_with fail
  go_quiet (fail);go_wp2;go_ret;exact⟨rfl,_,rfl⟩
 ·have q2:c<W:=by omega
  have q':((c:Int)==0)=false:=by rw[beq_eq_false_iff_ne];omega
  clear hb;go_enter Tryz.func130,Tryz.ntmps130;go_wp2_with fail
  go_quiet (fail);go_wp2;go_ret;exact⟨rfl,_,rfl⟩
theorem Ry(z:Nat)(u1 u2:Value)(s:Fd.St)(w:World)(h:Dt w z u1 u2 s)(hc:s.c<=12)(hw:s.W<=12)(hh:s.H<=12)(h0:s.c≠0)(h1:¬s.c<s.W):
  Calls Tryz.prog 130 #[.pointer (some ⟨z,0,none⟩)] w λe w'=>e=.returned .nilIface/\Dt w' z u1 u2 ⟨0,s.c,s.H+1,s.gs,s.os⟩/\Kp z w w':=by
 have D:Hid (Dt w z u1 u2 s):=h;have c0:=h.c0;have c1:=h.c1;have c4:=h.c4;have f0:=h.fz 0;have f1:=h.fz 1;have f4:=h.fz 4;obtain⟨c,W,H,gs,os⟩:=s;simp only at hc hw hh h0 h1 c0 c1 c4;have q':((c:Int)==0)=false:=by rw[beq_eq_false_iff_ne];omega
 clear h;go_enter Tryz.func130,Tryz.ntmps130;go_wp2_with fail
 go_quiet (fail);have Dq:Hid (Dt (w.drewN nq) z u1 u2 ⟨c,W,H,gs,os⟩):=D.out;have Kq:Hid (Kp z w (w.drewN nq)):=(Kp.refl z w).drewN nq;have c0:(w.drewN nq).cell? ⟨z,0,none⟩=some (int i64 (W:Nat)):=Dq.out.c0;have c1:(w.drewN nq).cell? ⟨z,1,none⟩=some (int i64 (H:Nat)):=Dq.out.c1;have c4:(w.drewN nq).cell? ⟨z,4,none⟩=some (int i64 (c:Nat)):=Dq.out.c4;have f0:=Dq.out.fz 0;have f1:=Dq.out.fz 1;have f4:=Dq.out.fz 4;generalize w.drewN nq=w1 at *;go_wp2;go_ret;refine⟨rfl,?_,?_⟩
 ·unfold Dt
  rw[heap_setCell_same _ z 4 _ _ _ (heap_setCell_same _ z 1 _ _ _ (heap_setCell_same w1 z 0 _ _ _ Dq.out))];simp
 ·exact((Kq.out.trans (Kp.set _ _ _)).trans (Kp.set _ _ _)).trans (Kp.set _ _ _)
structure zx(s:Fd.St):Prop where
 w0:s.H=0->s.W=0
 cw:0<s.H->s.c<=s.W
 c12:s.c<=12
 w12:s.W<=12
 h12:s.H<=12
 gl:s.gs.length<=156
 ol:s.os.length<=156
theorem zx.of{s:Fd.St}{l:List UInt8}(h:Fd.Inv s l):zx s:=by
 have e:s.H*s.W<=144:=Nat.mul_le_mul h.h12 h.w12;have:=h.c12;exact⟨h.w0,h.cw,h.c12,h.w12,h.h12,by rw[h.gl];omega,by rw[h.ol];omega⟩
theorem KG{s:Fd.St}(h:zx s):Fd.step s 10=if s.c=0\/s.c<s.W then .inl 2 else .inr ⟨0,s.c,s.H+1,s.gs,s.os⟩:=by
 unfold Fd.step;rw[if_pos rfl];have:=h.w0;have:=h.cw
 by_cases q:s.c=0\/(0<s.H/\s.c≠s.W)
 ·rw[if_pos q,if_pos (by omega)]
 ·rw[if_neg q,if_neg (by omega)]
theorem step_none{s:Fd.St}{b:UInt8}(hb:b≠10)(hm:Fd.meant b=none):Fd.step s b=.inl 2:=by
 unfold Fd.step;rw[if_neg hb,hm]
theorem step_some{s:Fd.St}{b:UInt8}{g o:Int}(hb:b≠10)(hm:Fd.meant b=some (g,o)):Fd.step s b=if 0<s.H/\s.c=s.W then .inl 2 else if s.c=12\/s.H=12 then .inl 4 else .inr ⟨s.c+1,s.W,s.H,s.gs++[g],s.os++[o]⟩:=by
 unfold Fd.step;rw[if_neg hb,hm]
theorem KH(z:Nat)(s:Fd.St)(w:World)(h:Dr w z s)(ok:zx s):
  Calls Tryz.prog 81 #[.pointer (some ⟨z,0,none⟩),.int .u8 10] w λe w'=>(∃f,Fd.step s 10=.inl f/\e=.returned (.iface 85 (int i64 f))/\f≠0/\Below z w w')\/(∃s',Fd.step s 10=.inr s'/\e=.returned .nilIface/\Dr w' z s'/\Below z w w'):=by
 obtain⟨u1,u2,hd,ht⟩:=h;have S:=KG ok;have HS:Hid _:=S;clear S;by_cases q:s.c=0\/s.c<s.W
 ·have K:=aj (Oo z u1 u2 s w hd ok.c12 ok.w12 q)
  have Q:=aj (q);clear q hd ht ok;go_enter Tryz.func81,Tryz.ntmps81;go_wp2_with fail
  refine Calls.mono K.out ?_;rintro e w1 ⟨rfl,n,rfl⟩;go_wp2;go_ret;exact .inl ⟨2,by rw[HS.out,if_pos Q.out],rfl,by decide,_root_.Go.below_drewN (Below.refl _ _) _⟩
 ·have K:=aj (Ry z u1 u2 s w hd ok.c12 ok.w12 ok.h12 (λe=>q (.inl e)) (λe=>q (.inr e)))
  have Q:=aj (q);have T:=aj (ht);have L:=aj (hd.lt);clear q hd ht ok;go_enter Tryz.func81,Tryz.ntmps81;go_wp2_with fail
  refine Calls.mono K.out ?_;rintro e w1 ⟨rfl,hd1,hk1⟩;have D1:=aj (hd1);have K1:=aj (hk1);clear hd1 hk1;go_wp2;go_ret;refine .inr ⟨_,by rw[HS.out,if_neg Q.out],rfl,⟨u1,u2,D1.out,T.out.kp K1.out (Nat.lt_succ_self _)⟩,Kp.below (Below.refl _ _) K1.out (Nat.le_of_lt L.out) (Nat.le_refl _)⟩
theorem Ez(z:Nat)(s:Fd.St)(b:UInt8)(w:World)(h:Dr w z s)(ok:zx s)(hb:b≠10):
  Calls Tryz.prog 81 #[.pointer (some ⟨z,0,none⟩),.int .u8 (b.toNat:Nat)] w λe w'=>(∃f,Fd.step s b=.inl f/\e=.returned (.iface 85 (int i64 f))/\f≠0/\Below z w w')\/(∃s',Fd.step s b=.inr s'/\e=.returned .nilIface/\Dr w' z s'/\Below z w w'):=by
 obtain⟨u1,u2,hd,ht⟩:=h;have hb2:=b.toNat_lt;have hb3:¬((b.toNat:Nat):Int)=10:=by
  intro e;have e2:b.toNat=10:=by omega
  exact hb (UInt8.toNat_inj.1 e2)
 have M:=aj (Ey b);have HB:=aj (hb);have D:=aj (hd);have T:=aj (ht);have K:=aj (ok);clear hb hd ht ok;generalize b.toNat=n at *;go_enter Tryz.func81,Tryz.ntmps81;go_wp2_with fail
 refine(M.out _).mono ?_;rintro e w1 hm;rcases hm with⟨g,o,hm,rfl,rfl⟩|⟨hm,rfl,rfl⟩
 ·have HS:Hid _:=step_some (s:=s) HB.out hm
  have c0:=D.out.c0;have c1:=D.out.c1;have c2:=D.out.c2;have c3:=D.out.c3;have c4:=D.out.c4;obtain⟨c,W,H,gs,os⟩:=s;simp only at c0 c1 c4;have k12:=K.out.c12;have w12:=K.out.w12;have h12:=K.out.h12;simp only at k12 w12 h12;clear hm M;by_cases q1:0<H/\c=W
  ·obtain⟨ZH,Yv⟩:=q1
   have Rz:Hid (Fd.step ⟨c,W,H,gs,os⟩ b=.inl 2):=by unfold Hid;rw[HS.out,if_pos ⟨ZH,Yv⟩]
   subst Yv;go_wp2_with fail
   go_quiet (fail);go_wp2;go_ret;exact .inl ⟨2,Rz.out,rfl,by decide,_root_.Go.below_drewN (Below.refl _ _) _⟩
  ·have HS1:Hid (Fd.step ⟨c,W,H,gs,os⟩ b=if c=12\/H=12 then .inl 4 else .inr ⟨c+1,W,H,gs++[g],os++[o]⟩):=by unfold Hid;rw[HS.out,if_neg q1]
   clear HS;go_wp2_with fail
   go_cut [39] (λv W'=>v=.bool false/\∃n,W'=w1.drewN n)
   case first=>
    by_cases q2:H=0
    ·subst q2
     go_quiet (fail);go_wp2_with fail
     go_meet
     case rel=>exact⟨rfl,_,rfl⟩
    ·have q3:0<H:=by omega
     have q4:¬c=W:=λe=>q1 ⟨q3,e⟩
     have q4b:((c:Int)==(W:Int))=false:=by rw[beq_eq_false_iff_ne];omega
     clear q1;go_quiet (fail);go_wp2_with fail
     go_meet
     case rel=>exact⟨rfl,_,rfl⟩
   case rest=>
    obtain⟨rfl,nn,hn⟩:=hcut;have kb:Below w1.heap.size w1 wc:=by rw[hn];exact _root_.Go.below_drewN (Below.refl _ _) _
    have D2:=aj (D.out.below kb D.out.lt);have T2:=aj (T.out.below kb (Nat.le_refl _));have B2:=aj (kb.mono (Nat.le_of_lt D.out.lt));clear kb hn c0 c1 c2 c3 c4 q1 D T;have c0:=D2.out.c0;have c1:=D2.out.c1;have c2:=D2.out.c2;have c3:=D2.out.c3;have c4:=D2.out.c4;simp only at c0 c1 c4;by_cases q5:c=12
    ·subst q5
     have Rz:Hid (Fd.step ⟨12,W,H,gs,os⟩ b=.inl 4):=by unfold Hid;rw[HS1.out,if_pos (.inl rfl)]
     go_wp2;go_ret;exact .inl ⟨4,Rz.out,rfl,by decide,B2.out⟩
    ·have q5b:((c:Int)==12)=false:=by rw[beq_eq_false_iff_ne];omega
     by_cases q6:H=12
     ·subst q6
      have Rz:Hid (Fd.step ⟨c,W,12,gs,os⟩ b=.inl 4):=by unfold Hid;rw[HS1.out,if_pos (.inr rfl)]
      go_wp2;go_ret;exact .inl ⟨4,Rz.out,rfl,by decide,B2.out⟩
     ·have q6b:((H:Int)==12)=false:=by rw[beq_eq_false_iff_ne];omega
      have Rz:Hid (Fd.step ⟨c,W,H,gs,os⟩ b=.inr ⟨c+1,W,H,gs++[g],os++[o]⟩):=by unfold Hid;rw[HS1.out,if_neg (by omega)]
      have gl:=K.out.gl;have ol:=K.out.ol;simp only at gl ol;have L2:=aj (D2.out.lt);clear HS1;go_wp2_with (at_builtin;refine gJ _ rfl _ _ rfl (z+1) _ gs rfl (T2.out.o1.alloc _) ⟨wc.heap.size,0,none⟩ g rfl (by simp) (by omega) (by have:=L2.out;simp;omega) ?_);intro g1 cap1 w3 o3 g3 a3 l3;have hob:∀k,u1.ownBlock=some k->z+1<=k:=λk hk=>(T2.out.o1.block k hk).1
      have b3:Below (z+1) wc w3:=((Below.refl _ _).alloc L2.out _).grown g3 (by have:=L2.out;simp;omega) hob;have D3:=D2.out.below b3 (Nat.lt_succ_self _);have O3:=(T2.out.o2.alloc _).kept g3 (by
       cases hq:u2.ownBlock with
       |none=>exact .inl rfl
       |some k=>exact .inr (λe=>T2.out.ne k e.symm hq))
      have N3:Hid (∀k,u2.ownBlock=some k->k≠g1):=by
       intro k hk e;subst e;rcases a3 with a3|a3
       ·exact T2.out.ne _ a3 hk
       ·have:=(T2.out.o2.block _ hk).2
        try simp at a3
        omega
      have K3:Kp z w3 (w3.setCell ⟨z,2,none⟩ (slice (some ⟨g1,0,none⟩) (gs.length+1) cap1)):=Kp.set _ _ _;have T3:Hid (Two (w3.setCell ⟨z,2,none⟩ (slice (some ⟨g1,0,none⟩) (gs.length+1) cap1)) (z+1) (slice (some ⟨g1,0,none⟩) (gs.length+1) cap1) u2 (gs++[g]) os):=
       (show Two w3 (z+1) (slice (some ⟨g1,0,none⟩) (gs.length+1) cap1) u2 (gs++[g]) os from⟨o3,O3,λk hk e=>N3.out k e (Option.some.inj hk).symm⟩).kp K3 (Nat.lt_succ_self _)
      have D4:Hid (Dt (w3.setCell ⟨z,2,none⟩ (slice (some ⟨g1,0,none⟩) (gs.length+1) cap1)) z (slice (some ⟨g1,0,none⟩) (gs.length+1) cap1) u2 ⟨c,W,H,gs++[g],os⟩):=by
       unfold Hid Dt;rw[heap_setCell_same w3 z 2 _ _ _ D3];simp
      have B4:Hid (Below z w1 (w3.setCell ⟨z,2,none⟩ (slice (some ⟨g1,0,none⟩) (gs.length+1) cap1))):=(B2.out.trans (b3.mono (Nat.le_succ _))).setCell (Nat.le_refl _) _;have e2:=D3.c2;have e3:=D3.c3;have f2:=D3.fz 2;have z3:=aj (D3.lt);clear o3 g3 a3 l3 hob b3 D3 O3 K3 c0 c1 c2 c3 c4;go_wp2_with (at_builtin;refine gJ _ rfl _ _ rfl (z+1) _ os rfl (T3.out.o2.alloc _) ⟨w3.heap.size,0,none⟩ o rfl (by rw[World.cell?_alloc_at _ _ _ _ (by simp)];rfl) (by omega) (by have:=z3.out;simp;omega) ?_);intro g2 cap2 w5 o5 g5 a5 l5;have hob:∀k,u2.ownBlock=some k->z+1<=k:=λk hk=>(T3.out.o2.block k hk).1
      have b5:=((Below.refl _ _).alloc (by have:=z3.out;simp;omega) _).grown g5 (by have:=z3.out;simp;omega) hob;have D5:=D4.out.below b5 (Nat.lt_succ_self _);have O5:=(T3.out.o1.alloc _).kept g5 (by
       cases hq:(slice (some ⟨g1,0,none⟩) (gs.length+1) cap1).ownBlock with
       |none=>exact .inl rfl
       |some k=>exact .inr (λe=>T3.out.ne k hq e.symm))
      have N5:Hid (∀k,(slice (some ⟨g1,0,none⟩) (gs.length+1) cap1).ownBlock=some k->k≠g2):=by
       intro k hk e;subst e;rcases a5 with a5|a5
       ·exact T3.out.ne _ hk a5
       ·have:=(T3.out.o1.block _ hk).2
        simp at this
        try simp at a5
        omega
      have K5:Kp z w5 (w5.setCell ⟨z,3,none⟩ (slice (some ⟨g2,0,none⟩) (os.length+1) cap2)):=Kp.set _ _ _;have T5:Hid (Two (w5.setCell ⟨z,3,none⟩ (slice (some ⟨g2,0,none⟩) (os.length+1) cap2)) (z+1) (slice (some ⟨g1,0,none⟩) (gs.length+1) cap1) (slice (some ⟨g2,0,none⟩) (os.length+1) cap2) (gs++[g]) (os++[o])):=
       (show Two w5 (z+1) (slice (some ⟨g1,0,none⟩) (gs.length+1) cap1) (slice (some ⟨g2,0,none⟩) (os.length+1) cap2) (gs++[g]) (os++[o]) from⟨O5,o5,λk hk e=>N5.out k hk (Option.some.inj e).symm⟩).kp K5 (Nat.lt_succ_self _)
      have D6:Hid (Dt (w5.setCell ⟨z,3,none⟩ (slice (some ⟨g2,0,none⟩) (os.length+1) cap2)) z (slice (some ⟨g1,0,none⟩) (gs.length+1) cap1) (slice (some ⟨g2,0,none⟩) (os.length+1) cap2) ⟨c,W,H,gs++[g],os++[o]⟩):=by
       unfold Hid Dt;rw[heap_setCell_same w5 z 3 _ _ _ D5];simp
      have B6:Hid (Below z w1 (w5.setCell ⟨z,3,none⟩ (slice (some ⟨g2,0,none⟩) (os.length+1) cap2))):=(B4.out.trans (b5.mono (Nat.le_succ _))).setCell (Nat.le_refl _) _;have e4:=D5.c3;have e5:w5.cell? _=some (int i64 (c:Nat)):=D5.c4;have f3:=D5.fz 3;have f4:=D5.fz 4;clear o5 g5 a5 l5 hob b5 D5 O5 K5 e2 e3 f2;go_wp2;go_ret;refine .inr ⟨_,Rz.out,rfl,⟨(slice _ _ cap1),(slice _ _ cap2),?_,T5.out.kp (Kp.set _ _ _) (Nat.lt_succ_self _)⟩,B6.out.setCell (Nat.le_refl _) _⟩;unfold Dt;rw[heap_setCell_same _ z 4 _ _ _ D6.out];simp
 ·have HS:Hid (Fd.step s b=.inl 2):=step_none HB.out hm
  go_wp2_with fail
  go_quiet (fail);go_wp2;go_ret;exact .inl ⟨2,HS.out,rfl,by decide,_root_.Go.below_drewN (Below.refl _ _) _⟩
theorem EH(z:Nat)(s:Fd.St)(b:UInt8)(w:World)(h:Dr w z s)(ok:zx s):
  Calls Tryz.prog 81 #[.pointer (some ⟨z,0,none⟩),.int .u8 (b.toNat:Nat)] w λe w'=>(∃f,Fd.step s b=.inl f/\e=.returned (.iface 85 (int i64 f))/\f≠0/\Below z w w')\/(∃s',Fd.step s b=.inr s'/\e=.returned .nilIface/\Dr w' z s'/\Below z w w'):=by
 by_cases hb:b=10
 ·subst hb
  exact KH z s w h ok
 ·exact Ez z s b w h ok hb
theorem RD{l:List UInt8}{k:Nat}(st:Fd.St)(h:k<l.length):Fd.run st k (l.drop k)=match Fd.step st l[k] with| .inl e=>.inl (k,e)| .inr s'=>Fd.run s' (k+1) (l.drop (k+1)):=by
 rw[List.drop_eq_getElem_cons h];rfl
def Says(l:List UInt8)(e:Ending)(w':World):Prop:=
 (∃(i:Nat) (f:Int),Fd.parse l=.inl (i,f)/\e=.returned (.tuple #[.agg #[int i64 0,int i64 0,slice none 0 0,slice none 0 0],int i64 (i:Nat),.iface 85 (int i64 f)])/\f≠0)\/
 (∃st u1 u2,Fd.parse l=.inr st/\e=.returned (.tuple #[.agg #[int i64 (st.W:Nat),int i64 (st.H:Nat),u1,u2],int i64 0,.nilIface])/\Ro w' u1 st.gs/\Ro w' u2 st.os)
def Oq(b:Nat)(l:List UInt8)(e:Ending)(w':World):Prop:=
 (∃(i:Nat) (f:Int),Fd.parse l=.inl (i,f)/\e=.returned (.tuple #[.agg #[int i64 0,int i64 0,slice none 0 0,slice none 0 0],int i64 (i:Nat),.iface 85 (int i64 f)])/\f≠0)\/
 (∃st u1 u2,Fd.parse l=.inr st/\e=.returned (.tuple #[.agg #[int i64 (st.W:Nat),int i64 (st.H:Nat),u1,u2],int i64 0,.nilIface])/\Two w' (b+1+1) u1 u2 st.gs st.os)
theorem EI(s:ByteArray)(w:World)(hs:s.size<=maxLen):
  Calls Tryz.prog 37 #[.string s] w λe w'=>Oq w.heap.size s.data.toList e w'/\Below w.heap.size w w':=by
 unfold maxLen at hs;generalize hl:s.data.toList=l;have Hl:=aj (hl);have Ll:Hid (l.length=s.size):=by unfold Hid;rw[<-hl];rfl
 clear hl;have P:Hid (Fd.parse l=match Fd.run Fd.st0 0 l with| .inl x=>.inl x| .inr s=>if 0<s.c\/s.H=0 then .inl _ else .inr s):=rfl;go_enter Tryz.func37,Tryz.ntmps37;go_wp2_with fail
 have B0:Hid (Below _ w ((w.alloc (Obj.cells #[int i64 0,int i64 0,slice none 0 0,slice none 0 0] 25)).alloc (Obj.cells #[int i64 0,int i64 0,slice none 0 0,slice none 0 0,int i64 0] 129))):=((Below.refl _ _).alloc (Nat.le_refl _) _).alloc (by simp) _;have D0:Hid (Dr ((w.alloc (Obj.cells #[int i64 0,int i64 0,slice none 0 0,slice none 0 0] 25)).alloc (Obj.cells #[int i64 0,int i64 0,slice none 0 0,slice none 0 0,int i64 0] 129)) (w.heap.size+1) Fd.st0):=by
  refine⟨slice none 0 0,slice none 0 0,?_,⟨Ow.nil _ _,Ow.nil _ _,λk h=>by cases h⟩⟩;have e:(w.alloc (Obj.cells #[int i64 0,int i64 0,slice none 0 0,slice none 0 0] 25)).heap.size=w.heap.size+1:=by simp
  unfold Dt;rw[<-e];exact heap_alloc_new _ _
 have X0:Hid (Bf ((w.alloc (Obj.cells #[int i64 0,int i64 0,slice none 0 0,slice none 0 0] 25)).alloc (Obj.cells #[int i64 0,int i64 0,slice none 0 0,slice none 0 0,int i64 0] 129)) w.heap.size 0 0 (slice none 0 0) (slice none 0 0)):=
  (Bf.mk' (w:=w) 0 0 (slice none 0 0) (slice none 0 0) rfl).below ((Below.refl _ _).alloc (Nat.le_refl _) _) (by simp)
 have Z0:Hid (∀i,((w.alloc (Obj.cells #[int i64 0,int i64 0,slice none 0 0,slice none 0 0] 25)).alloc (Obj.cells #[int i64 0,int i64 0,slice none 0 0,slice none 0 0,int i64 0] 129)).frozen? ⟨w.heap.size,i,none⟩=false):=by
  intro i;rw[((Below.refl _ (w.alloc (Obj.cells #[int i64 0,int i64 0,slice none 0 0,slice none 0 0] 25))).alloc (Nat.le_refl _) _).frozen (p:=⟨w.heap.size,i,none⟩) (by simp)];simp
 generalize (w.alloc _).alloc _=w0 at *;go_loopw [10] (λi W'=>∃(k:Nat) (st:Fd.St),k<=s.size/\i=int i64 (k:Nat)/\Dr W' (w.heap.size+1) st/\Fd.Inv st (l.take k)/\Fd.run st k (l.drop k)=Fd.run Fd.st0 0 l/\Below (w.heap.size+1) w0 W') (λi _=>s.size-(intOf i).toNat)
 case atStart=>exact⟨0,Fd.st0,Nat.zero_le _,rfl,D0,by simpa using Fd.inv0,by simp,Below.refl _ _⟩
 case round=>
  obtain⟨k,st,hk,rfl,hd,hi,hrun,hb⟩:=hrel;have D:=aj (hd);have I:=aj (hi);have R:=aj (hrun);have B:=aj (hb);have X:=aj (X0.out.below hb (Nat.lt_succ_self _));have Z:Hid (∀i,wr.frozen? _=false):=λi=>by rw[hb.frozen (p:=⟨w.heap.size,i,none⟩) (Nat.lt_succ_self _)];exact Z0.out i
  have BW:=aj (B0.out.trans (hb.mono (Nat.le_succ _)));clear hd hi hrun hb D0;by_cases h0:k=s.size
  ·subst h0
   have R2:Hid (Fd.run Fd.st0 0 l=.inr st):=by
    unfold Hid;rw[<-R.out,List.drop_of_length_le (by rw[Ll.out];exact Nat.le_refl _)];rfl
   obtain⟨u1,u2,hd,ht⟩:=D.out;have T:=aj (ht);have c0:=hd.c0;have c1:=hd.c1;have c2:=hd.c2;have c3:=hd.c3;have c4:=hd.c4;obtain⟨x0,x1,x2,x3⟩:=X.out;have z0:=Z.out 0;have z1:=Z.out 1;have z2:=Z.out 2;have z3:=Z.out 3;have k12:=I.out.c12;have h12:=I.out.h12;have w12:=I.out.w12;obtain⟨c,W,H,gs,os⟩:=st;simp only at c0 c1 c4 k12 h12 w12;have P2:Hid (Fd.parse l=if 0<c\/H=0 then .inl (l.length,2) else .inr ⟨c,W,H,gs,os⟩):=by
    unfold Hid;rw[P.out,R2.out]
   clear hd ht;by_cases q1:0<c
   ·go_wp2
    refine bodyPost_ret (by simp[results,Tryz.results37,go_sem,x0,x1,x2,x3]) rfl ⟨.inl ⟨s.size,2,by rw[P2.out,if_pos (.inl q1),Ll.out],rfl,by decide⟩,?_⟩;exact(((BW.out.setCell (Nat.le_refl _) _).setCell (Nat.le_refl _) _).setCell (Nat.le_refl _) _).setCell (Nat.le_refl _) _
   ·obtain rfl:c=0:=by omega
    by_cases q2:H=0
    ·subst q2
     go_wp2;refine bodyPost_ret (by simp[results,Tryz.results37,go_sem,x0,x1,x2,x3]) rfl ⟨.inl ⟨s.size,2,by rw[P2.out,Ll.out];simp,rfl,by decide⟩,?_⟩;exact(((BW.out.setCell (Nat.le_refl _) _).setCell (Nat.le_refl _) _).setCell (Nat.le_refl _) _).setCell (Nat.le_refl _) _
    ·have q2b:((H:Int)==0)=false:=by rw[beq_eq_false_iff_ne];omega
     obtain⟨p1,k1,rfl⟩:=T.out.o1.len;obtain⟨p2,k2,rfl⟩:=T.out.o2.len;have KK:Hid (Kp _ wr ((((wr.setCell ⟨w.heap.size,0,none⟩ (int i64 (W:Nat))).setCell ⟨w.heap.size,1,none⟩ (int i64 (H:Nat))).setCell ⟨w.heap.size,2,none⟩ (slice p1 gs.length k1)).setCell ⟨w.heap.size,3,none⟩ (slice p2 os.length k2))):=(((Kp.set _ _ _).trans (Kp.set _ _ _)).trans (Kp.set _ _ _)).trans (Kp.set _ _ _);go_wp2;refine bodyPost_ret (v:=.tuple #[.agg #[int i64 (W:Nat),int i64 (H:Nat),slice p1 gs.length k1,slice p2 os.length k2],int i64 0,.nilIface]) (by simp[results,Tryz.results37,go_sem,x0,x1,x2,x3]) rfl ⟨.inr ⟨_,_,_,by rw[P2.out,if_neg (by omega)],rfl,?_⟩,?_⟩
     ·exact T.out.kp KK.out (by omega)
     ·exact(((BW.out.setCell (Nat.le_refl _) _).setCell (Nat.le_refl _) _).setCell (Nat.le_refl _) _).setCell (Nat.le_refl _) _
  ·have hks:k<s.size:=by omega
   have hkl:k<l.length:=by rw[Ll.out];exact hks
   have RA:=RD st hkl;rw[R.out] at RA;have eb:l[k]=s[k]:=by
    have:=Hl.out;subst this;rfl
   rw[eb] at RA;have Vt:Hid _:=RA;have TK:Hid (l.take (k+1)=l.take k++[s[k]]):=by unfold Hid;rw[List.take_succ_eq_append_getElem hkl,eb]
   have KR:=aj (EH _ st s[k] wr D.out (zx.of I.out));clear RA eb;go_wp2_with fail
   refine Calls.mono KR.out ?_;rintro e w1 hm;rcases hm with⟨f,hst,rfl,hf,hb⟩|⟨st',hst,rfl,hd',hb⟩
   ·have P2:Hid (Fd.parse l=.inl (k,f)):=by
     unfold Hid;rw[P.out,Vt.out,hst]
    have Hf:=aj (hf);have B1:=aj (BW.out.trans (hb.mono (Nat.le_succ _)));have X1:=X.out.below hb (Nat.lt_succ_self _);have z0:w1.frozen? ⟨w.heap.size,0,none⟩=false:=by rw[hb.frozen (p:=⟨w.heap.size,0,none⟩) (Nat.lt_succ_self _)];exact Z.out 0
    have z1:w1.frozen? ⟨w.heap.size,1,none⟩=false:=by rw[hb.frozen (p:=⟨w.heap.size,1,none⟩) (Nat.lt_succ_self _)];exact Z.out 1
    have z2:w1.frozen? ⟨w.heap.size,2,none⟩=false:=by rw[hb.frozen (p:=⟨w.heap.size,2,none⟩) (Nat.lt_succ_self _)];exact Z.out 2
    have z3:w1.frozen? ⟨w.heap.size,3,none⟩=false:=by rw[hb.frozen (p:=⟨w.heap.size,3,none⟩) (Nat.lt_succ_self _)];exact Z.out 3
    obtain⟨x0,x1,x2,x3⟩:=X1;clear hst hf hb KR Vt;go_wp2;refine bodyPost_ret (by simp[results,Tryz.results37,go_sem,x0,x1,x2,x3]) rfl ⟨.inl ⟨k,f,P2.out,rfl,Hf.out⟩,?_⟩;exact(((B1.out.setCell (Nat.le_refl _) _).setCell (Nat.le_refl _) _).setCell (Nat.le_refl _) _).setCell (Nat.le_refl _) _
   ·have I2:Hid (Fd.Inv st' (l.take (k+1))):=by unfold Hid;rw[TK.out];exact I.out.step hst
    have R2:Hid (Fd.run st' (k+1) (l.drop (k+1))=Fd.run Fd.st0 0 l):=by unfold Hid;rw[Vt.out,hst]
    have D2:=aj (hd');have B2:=aj (B.out.trans hb);clear hst hd' hb KR Vt;go_wp2;go_round
    case rel=>exact⟨k+1,st',by omega,by go_num,D2,I2,R2,B2⟩
    case measure=>simp[intOf];omega
theorem parse_any(s:ByteArray)(w:World)(hs:s.size<=maxLen):
  Calls Tryz.prog 37 #[.string s] w λe w'=>Says s.data.toList e w'/\Below w.heap.size w w':=
 (EI s w hs).mono λe w' ⟨h,hb⟩=>⟨h.imp id λ⟨st,u1,u2,h1,h2,h3⟩=>⟨st,u1,u2,h1,h2,h3.o1.ro,h3.o2.ro⟩,hb⟩
open Go.Proofs.YtolfphmdmpehdaaGreatDoor.So
namespace One
def X0:WV:=⟨0,1,4,2,SG,SO,[0],[],[]⟩
def X1:WV:=⟨0,2,4,2,SG,SO,[0],[ob],[]⟩
theorem f0:Wd.dX OK 4 2 SG SO 1 0=0:=by decide+kernel
theorem f1:Wd.dG OK X0 0 0 0=0:=by decide+kernel
theorem f2:Wd.dG OK X1 0 1 1=0:=by decide+kernel
theorem e0:Wd.begun OK 4 2 SG SO 1 0=X0:=vZ f0
theorem e1:Wd.placed OK X0 0 0 0=X1:=(jW f1).trans rfl
theorem e2:Wd.placed OK X1 0 1 1=OX:=(jW f2).trans rfl
theorem names:∀k∈OK,k.b.size<=9223372036854775807:=by
 intro k hk;unfold OK at hk;rcases List.mem_cons.1 hk with rfl|hk
 ·decide
 rcases List.mem_cons.1 hk with rfl|hk
 ·decide
 ·cases hk
theorem ez{r:Value}(h:Er r 0):r=.nilIface:=by
 rcases h with⟨-,h⟩|⟨h,-⟩
 ·exact h
 ·exact absurd rfl h
theorem Vd{w:World}{z:Nat}(hz:w.heap.size=z):Kl (w.alloc (.cells #[.string ⟨#[98,97,115,101]⟩,int i64 50,int i64 0,int i64 0,int i64 0,int i64 0,int i64 0,int i64 0,int i64 0,.bool false,.bool true,.string ⟨#[100,105,103,103,101,114]⟩,int i64 10,int i64 0,int i64 0,int i64 0,int i64 2,int i64 0,int i64 0,int i64 20,.bool false,.bool false] 77)) (slice (some ⟨z,0,none⟩) 2 2) OK:=by
 subst hz;refine⟨_,2,rfl,Nat.le_refl _,by omega,λ_=>⟨_,rfl,by simp,λi k hi=>?_⟩⟩;have hl:i<2:=(List.getElem?_eq_some_iff.1 hi).1;rw[Addr.add_lit,Nat.zero_add]
 match i,hl,hi with
 |0,_,hi=>injection hi with hi;subst hi;constructor<;>simp[OB]
 |1,_,hi=>injection hi with hi;subst hi;constructor<;>simp[OD]
theorem Ve(w:World):zU (w.alloc (Obj.cells #[int i64 0,int i64 2,int i64 2,int i64 6] 96)) (slice (some ⟨w.heap.size,0,none⟩) 1 1) [oo]:=by
 refine⟨_,_,rfl,by decide,by decide,λ_=>⟨⟨w.heap.size,0,none⟩,rfl,by simp,λi k hk=>?_⟩⟩;have hn:=heap_alloc_new w (Obj.cells #[int i64 0,int i64 2,int i64 2,int i64 6] 96)
 match i,hk with
 |0,hk=>simp[oo] at hk;subst hk;refine⟨?_,?_,?_,?_⟩<;>(simp only[World.cell?,Addr.add_lit,hn];rfl)
 |i+1,hk=>simp at hk
theorem Vf(w:World)(v:Value)(hv:zU w v [oo]):JX (w.alloc (Obj.cells #[v,slice none 0 0,slice none 0 0] 61)) (slice (some ⟨w.heap.size,0,none⟩) 3 3) [[oo],[],[]]:=by
 have hn:=heap_alloc_new w (Obj.cells #[v,slice none 0 0,slice none 0 0] 61);have hb:Below _ w (w.alloc (Obj.cells #[v,slice none 0 0,slice none 0 0] 61)):=(Below.refl _ _).alloc (Nat.le_refl _) _;have ol:∀W,zU W (slice none 0 0) []:=λW=>⟨none,0,rfl,Nat.le_refl _,by omega,λh=>absurd rfl h⟩
 refine⟨_,_,rfl,by decide,by decide,λ_=>⟨⟨w.heap.size,0,none⟩,rfl,by simp,λi l hl=>?_⟩⟩
 match i,hl with
 |0,hl=>simp at hl;subst hl;exact⟨_,by simp only[World.cell?,Addr.add_lit,hn];rfl,hv.below hb⟩
 |1,hl=>simp at hl;subst hl;exact⟨_,by simp only[World.cell?,Addr.add_lit,hn];rfl,ol _⟩
 |2,hl=>simp at hl;subst hl;exact⟨_,by simp only[World.cell?,Addr.add_lit,hn];rfl,ol _⟩
 |i+3,hl=>simp at hl
end One
theorem one_any(w:World)(hsd:Sd w):Calls Tryz.prog 24 #[] w λe w'=>e=.returned (.bool true)/\Below w.heap.size w w':=by
 have Vu:=aj (hsd);clear hsd;go_enter Tryz.func24,Tryz.ntmps24;go_upto_region 2 with fail
 have KL:Hid (Kl _ (slice (some ⟨w.heap.size,0,none⟩) 2 2) OK):=One.Vd rfl;have B0:Hid (Below _ w (w.alloc (Obj.cells #[.string ⟨#[98,97,115,101]⟩,int i64 50,int i64 0,int i64 0,int i64 0,int i64 0,int i64 0,int i64 0,int i64 0,.bool false,.bool true,.string ⟨#[100,105,103,103,101,114]⟩,int i64 10,int i64 0,int i64 0,int i64 0,int i64 2,int i64 0,int i64 0,int i64 20,.bool false,.bool false] 77))):=(Below.refl _ _).alloc (Nat.le_refl _) _;generalize w.alloc _=w0 at *;obtain⟨zk,XD⟩:∃z,w.heap.size=z:=⟨_,rfl⟩;have ZI:=aj (XD);rw[XD] at KL ⊢;clear XD;go_wp2_with fail
 refine(parse_any _ w0 (by decide)).mono ?_;rintro e w1 ⟨hs,hb⟩;have hp:Fd.parse (⟨#[46,46,46,46,10,46,46,51,46,10]⟩:ByteArray).data.toList=.inr _:=Ko;rcases hs with⟨i,f,h1,-⟩|⟨st,u1,u2,h1,h2,r1,r2⟩
 ·rw[hp] at h1;cases h1
 rw[hp] at h1;injection h1 with h1
 subst h1;subst h2;have RO:Hid (Ro w1 u1 SG/\Ro w1 u2 SO):=⟨r1,r2⟩;obtain⟨p1,q1,rfl,-⟩:=r1;obtain⟨p2,q2,rfl,-⟩:=r2;have B1:=aj (hb);clear hb hp;have l8:SG.length=8:=rfl;have l8':SO.length=8:=rfl;rw[l8,l8'] at *;clear l8 l8';go_upto_region 3 with fail
 have BA:Hid (Below _ w1 (w1.alloc (Obj.cells #[int i64 4,int i64 2,slice p1 8 q1,slice p2 8 q2] 25))):=(Below.refl _ _).alloc (Nat.le_refl _) _;obtain⟨zf,XG⟩:∃z,w1.heap.size=z:=⟨_,rfl⟩;have X2:Hid (Bx _ zf 4 2 (slice p1 8 q1) (slice p2 8 q2)):=Bx.mk' _ _ _ _ XG;have FL:Hid (Fl (w1.alloc (Obj.cells #[int i64 4,int i64 2,slice p1 8 q1,slice p2 8 q2] 25)) (.agg #[int i64 4,int i64 2,slice p1 8 q1,slice p2 8 q2]) 4 2 SG SO):=⟨_,_,rfl,RO.out.1.below BA.out,RO.out.2.below BA.out⟩;have B2:=aj (B1.out.trans (BA.out.mono B1.out.size));rw[XG];generalize (w1.alloc _)=w2 at *;clear BA B1 RO XG;obtain⟨f0,f1,f2,f3⟩:=X2.out;go_wp2_with fail
 refine(new_any _ _ OK 4 2 SG SO 1 0 w2 (KL.out.below B2.out) One.names FL.out).mono ?_;rintro e w3 ⟨u,r,rfl,hr,ho,hb⟩;rw[One.f0] at hr;rw[One.e0] at ho;obtain rfl:=One.ez hr;have B3:=aj (B2.out.trans (hb.mono B2.out.size));have L3:=aj (ho.l);clear hr hb f0 f1 f2 f3 X2 FL B2;obtain⟨y1,y2,y3,y4,y5,rfl,o1,o2,o3,o4,o5⟩:=ho;obtain⟨a1,b1,rfl⟩:=o1.len;obtain⟨a2,b2,rfl⟩:=o2.len;obtain⟨a3,b3,rfl⟩:=o3.len;obtain⟨a4,b4,rfl⟩:=o4.len;obtain⟨a5,b5,rfl⟩:=o5.len;have L3':Hid (Wl w3 (.agg #[int i64 0,int i64 1,int i64 4,int i64 2,slice a1 8 b1,slice a2 8 b2,slice a3 1 b3,slice a4 0 b4,slice a5 0 b5]) One.X0):=L3.out;clear L3 o1 o2 o3 o4 o5;have g1:One.X0.turn=0/\One.X0.next=1/\One.X0.wide=4/\One.X0.high=2/\One.X0.gs.length=8/\One.X0.os.length=8/\One.X0.gold.length=1/\One.X0.us.length=0/\One.X0.qs.length=0:=⟨rfl,rfl,rfl,rfl,rfl,rfl,rfl,rfl,rfl⟩;obtain⟨g1,g2,g3,g4,g5,g6,g7,g8,g9⟩:=g1;simp only[g1,g2,g3,g4,g5,g6,g7,g8,g9];clear g1 g2 g3 g4 g5 g6 g7 g8 g9;go_upto_region 4 with fail
 have BA:Hid (Below _ w3 (w3.alloc (Obj.cells #[int i64 0,int i64 1,int i64 4,int i64 2,slice a1 8 b1,slice a2 8 b2,slice a3 1 b3,slice a4 0 b4,slice a5 0 b5] 29))):=(Below.refl _ _).alloc (Nat.le_refl _) _;obtain⟨z,hz⟩:∃z,w3.heap.size=z:=⟨_,rfl⟩;have XA0:Hid (Wx _ z (int i64 0) (int i64 1) (int i64 4) (int i64 2) (slice a1 8 b1) (slice a2 8 b2) (slice a3 1 b3) (slice a4 0 b4) (slice a5 0 b5)):=Wx.new _ _ _ _ _ _ _ _ _ hz;have LA0:=aj (L3'.out.below BA.out);have BA0:=aj (B3.out.trans (BA.out.mono B3.out.size));have NZ:Hid (w0.heap.size<=z):=by rw[<-hz];exact B3.out.size
 rw[hz];generalize w3.alloc _=s0 at *;clear BA L3' B3 hz;obtain⟨x0,x1,x2,x3,x4,x5,x6,x7,x8⟩:=XA0.out.cells;go_wp2_with fail
 refine(m_ _ _ OK One.X0 0 0 0 s0 (KL.out.below BA0.out) One.names LA0.out).mono ?_;rintro e v0 ⟨u,r,rfl,hr,ho,hb⟩;rw[One.f1] at hr;rw[One.e1] at ho;obtain rfl:=One.ez hr;have BV:=aj (BA0.out.trans (hb.mono BA0.out.size));have XV:=aj (XA0.out.below hb XA0.out.lt);have LV:=aj (eU (ho) (XA0.out.lt));clear hr hb x0 x1 x2 x3 x4 x5 x6 x7 x8 XA0 LA0 BA0;obtain⟨y1,y2,y3,y4,y5,rfl,o1,o2,o3,o4,o5⟩:=ho;obtain⟨c1,d1,rfl⟩:=o1.len;obtain⟨c2,d2,rfl⟩:=o2.len;obtain⟨c3,d3,rfl⟩:=o3.len;obtain⟨c4,d4,rfl⟩:=o4.len;obtain⟨c5,d5,rfl⟩:=o5.len;have RG:Hid (Wo v0 _ (.agg #[int i64 0,int i64 2,int i64 4,int i64 2,slice c1 8 d1,slice c2 8 d2,slice c3 1 d3,slice c4 1 d4,slice c5 0 d5]) One.X1/\z<s0.heap.size):=LV.out;clear LV o1 o2 o3 o4 o5;have g1:One.X1.turn=0/\One.X1.next=2/\One.X1.wide=4/\One.X1.high=2/\One.X1.gs.length=8/\One.X1.os.length=8/\One.X1.gold.length=1/\One.X1.us.length=1/\One.X1.qs.length=0:=⟨rfl,rfl,rfl,rfl,rfl,rfl,rfl,rfl,rfl⟩;obtain⟨g1,g2,g3,g4,g5,g6,g7,g8,g9⟩:=g1;simp only[g1,g2,g3,g4,g5,g6,g7,g8,g9];clear g1 g2 g3 g4 g5 g6 g7 g8 g9;obtain⟨x0,x1,x2,x3,x4,x5,x6,x7,x8⟩:=XV.out.cells;obtain⟨t0,t1,t2,t3,t4,t5,t6,t7,t8⟩:=XV.out.bC;have KW:=aj (bP v0 z (int i64 0) (int i64 2) (int i64 4) (int i64 2) (slice c1 8 d1) (slice c2 8 d2) (slice c3 1 d3) (slice c4 1 d4) (slice c5 0 d5));have XA1:=aj (XV.out.put (int i64 0) (int i64 2) (int i64 4) (int i64 2) (slice c1 8 d1) (slice c2 8 d2) (slice c3 1 d3) (slice c4 1 d4) (slice c5 0 d5));have LA1:=aj ((RG.out.1.kp KW.out RG.out.2).l);have BA1:=aj (KW.out.below BV.out BV.out.size NZ.out);go_upto_region 5 with fail
 clear x0 x1 x2 x3 x4 x5 x6 x7 x8 t0 t1 t2 t3 t4 t5 t6 t7 t8 XV RG BV KW;generalize World.setCell _ _ _=s1 at *;obtain⟨x0,x1,x2,x3,x4,x5,x6,x7,x8⟩:=XA1.out.cells;go_wp2_with fail
 refine(m_ _ _ OK One.X1 0 1 1 s1 (KL.out.below BA1.out) One.names LA1.out).mono ?_;rintro e v1 ⟨u,r,rfl,hr,ho,hb⟩;rw[One.f2] at hr;rw[One.e2] at ho;obtain rfl:=One.ez hr;have BV:=aj (BA1.out.trans (hb.mono BA1.out.size));have XV:=aj (XA1.out.below hb XA1.out.lt);have LV:=aj (eU (ho) (XA1.out.lt));clear hr hb x0 x1 x2 x3 x4 x5 x6 x7 x8 XA1 LA1 BA1;obtain⟨y1,y2,y3,y4,y5,rfl,o1,o2,o3,o4,o5⟩:=ho;obtain⟨m1,n1,rfl⟩:=o1.len;obtain⟨m2,n2,rfl⟩:=o2.len;obtain⟨m3,n3,rfl⟩:=o3.len;obtain⟨m4,n4,rfl⟩:=o4.len;obtain⟨m5,n5,rfl⟩:=o5.len;have RG:Hid (Wo v1 _ (.agg #[int i64 0,int i64 3,int i64 4,int i64 2,slice m1 8 n1,slice m2 8 n2,slice m3 1 n3,slice m4 2 n4,slice m5 0 n5]) OX/\z<s1.heap.size):=LV.out;clear LV o1 o2 o3 o4 o5;have g1:OX.turn=0/\OX.next=3/\OX.wide=4/\OX.high=2/\OX.gs.length=8/\OX.os.length=8/\OX.gold.length=1/\OX.us.length=2/\OX.qs.length=0:=⟨rfl,rfl,rfl,rfl,rfl,rfl,rfl,rfl,rfl⟩;obtain⟨g1,g2,g3,g4,g5,g6,g7,g8,g9⟩:=g1;simp only[g1,g2,g3,g4,g5,g6,g7,g8,g9];clear g1 g2 g3 g4 g5 g6 g7 g8 g9;obtain⟨x0,x1,x2,x3,x4,x5,x6,x7,x8⟩:=XV.out.cells;obtain⟨t0,t1,t2,t3,t4,t5,t6,t7,t8⟩:=XV.out.bC;have KW:=aj (bP v1 z (int i64 0) (int i64 3) (int i64 4) (int i64 2) (slice m1 8 n1) (slice m2 8 n2) (slice m3 1 n3) (slice m4 2 n4) (slice m5 0 n5));have XA2:=aj (XV.out.put (int i64 0) (int i64 3) (int i64 4) (int i64 2) (slice m1 8 n1) (slice m2 8 n2) (slice m3 1 n3) (slice m4 2 n4) (slice m5 0 n5));have LA2:=aj ((RG.out.1.kp KW.out RG.out.2).l);have BA2:=aj (KW.out.below BV.out BV.out.size NZ.out);go_upto_region 6 with fail
 clear x0 x1 x2 x3 x4 x5 x6 x7 x8 t0 t1 t2 t3 t4 t5 t6 t7 t8 XV RG BV KW;generalize World.setCell _ _ _=s2 at *;go_upto_region 7 with fail
 have BO:Hid (Below _ s2 (s2.alloc (Obj.cells #[int i64 0,int i64 2,int i64 2,int i64 6] 96))):=(Below.refl _ _).alloc (Nat.le_refl _) _;obtain⟨zo,XH⟩:∃z,s2.heap.size=z:=⟨_,rfl⟩;have OL:Hid (zU (s2.alloc (Obj.cells #[int i64 0,int i64 2,int i64 2,int i64 6] 96)) (slice (some ⟨zo,0,none⟩) 1 1) [oo]):=by rw[<-XH];exact One.Ve s2
 have X6:=aj (XA2.out.below BO.out XA2.out.lt);have L6:=aj (LA2.out.below BO.out);have B6:=aj (BA2.out.trans (BO.out.mono BA2.out.size));rw[XH];generalize s2.alloc _=w6 at *;clear BO XH XA2 LA2 BA2;have BL:Hid (Below _ w6 (w6.alloc (Obj.cells #[slice (some ⟨zo,0,none⟩) 1 1,slice none 0 0,slice none 0 0] 61))):=(Below.refl _ _).alloc (Nat.le_refl _) _;have LL:=aj (One.Vf w6 _ OL.out);have B7:=aj (B6.out.trans (BL.out.mono B6.out.size));have L7:=aj (L6.out.below BL.out);obtain⟨x0,x1,x2,x3,x4,x5,x6,x7,x8⟩:=X6.out.cells;go_wp2_with fail
 refine(vX _ _ _ OK OX _ _ (KL.out.below B7.out) One.names L7.out LL.out ((Vu.out.below B0.out).below B7.out)).mono ?_;rintro e w8 ⟨v,r,FF,rfl,hr,hf,hb⟩;obtain⟨rfl,ho⟩:=Ky hf hr;have B8:=aj (B7.out.trans (hb.mono B7.out.size));have G8:=aj (ho.l);clear hr hf hb x0 x1 x2 x3 x4 x5 x6 x7 x8 X6 L6 B6 BL LL B7 L7 OL;obtain⟨y1,y2,y3,y4,y5,rfl,o1,o2,o3,o4,o5⟩:=ho;obtain⟨r1,s1,rfl⟩:=o1.len;obtain⟨r2,s2,rfl⟩:=o2.len;obtain⟨r3,s3,rfl⟩:=o3.len;obtain⟨r4,s4,rfl⟩:=o4.len;obtain⟨r5,s5,rfl⟩:=o5.len;obtain⟨ya,yc,ye,-,-,yq⟩:=o3.ro;injection ye with e1 e2 e3
 subst e1 e3;obtain⟨yg,rfl,ylt,yq⟩:=yq (by simp[OW]);have c20:=yq 0 20 rfl;have ey:yg.add 0=yg:=by simp[Addr.add]
 rw[ey] at c20;have YL:=aj (eU (c20) (ylt));clear o1 o2 o3 o4 o5 yq c20 ylt e2 ey G8;have g1:(OW 3 10 20 (od 1 0 2 6)).turn=3/\(OW 3 10 20 (od 1 0 2 6)).next=3/\(OW 3 10 20 (od 1 0 2 6)).wide=4/\(OW 3 10 20 (od 1 0 2 6)).high=2/\(OW 3 10 20 (od 1 0 2 6)).gs.length=8/\(OW 3 10 20 (od 1 0 2 6)).os.length=8/\(OW 3 10 20 (od 1 0 2 6)).gold.length=1/\(OW 3 10 20 (od 1 0 2 6)).us.length=2/\(OW 3 10 20 (od 1 0 2 6)).qs.length=0:=⟨rfl,rfl,rfl,rfl,rfl,rfl,rfl,rfl,rfl⟩
 obtain⟨g1,g2,g3,g4,g5,g6,g7,g8,g9⟩:=g1;simp only[g1,g2,g3,g4,g5,g6,g7,g8,g9];clear g1 g2 g3 g4 g5 g6 g7 g8 g9;go_upto_region 8 with fail
 have BF:Hid (Below _ w8 (w8.alloc (Obj.cells #[int i64 3,int i64 3,int i64 4,int i64 2,slice r1 8 s1,slice r2 8 s2,slice (some yg) 1 s3,slice r4 2 s4,slice r5 0 s5] 29))):=(Below.refl _ _).alloc (Nat.le_refl _) _;obtain⟨zz,hzz⟩:∃z,w8.heap.size=z:=⟨_,rfl⟩;have XF:Hid (Wx _ zz (int i64 3) (int i64 3) (int i64 4) (int i64 2) (slice r1 8 s1) (slice r2 8 s2) (slice (some yg) 1 s3) (slice r4 2 s4) (slice r5 0 s5)):=Wx.new _ _ _ _ _ _ _ _ _ hzz;have B9:=aj (B8.out.trans (BF.out.mono B8.out.size));have c20:(w8.alloc (Obj.cells #[int i64 3,int i64 3,int i64 4,int i64 2,slice r1 8 s1,slice r2 8 s2,slice (some yg) 1 s3,slice r4 2 s4,slice r5 0 s5] 29)).cell? yg=some (int i64 20):=by rw[BF.out.cell YL.out.2];exact YL.out.1
 rw[hzz];generalize w8.alloc _=w9 at *;clear BF hzz B8 YL;obtain⟨x0,x1,x2,x3,x4,x5,x6,x7,x8⟩:=XF.out.cells;have BZ:=aj (B0.out.trans (B9.out.mono B0.out.size));have GL:=aj (trivial);go_wp2;go_ret;exact⟨rfl,by first|exact BZ.out|(rw[<-ZI.out];exact BZ.out)⟩
end Go.Proofs.YtolfphmdmpehdaaGreatDoor
namespace Go.Proofs.YtolfphmdmpehdaaGreatDoor
open Go.ChangeShapes Go.WideShapes Go.ChangeAt Go.RowKit
theorem JX.take{w:World}{a:Option Addr}{n c:Nat}{ls:List (List aK)}(h:JX w (slice a n c) ls){k:Nat}(hk:k<=ls.length):JX w (slice a k c) (ls.take k):=by
 obtain⟨a',c',e,h2,h3,h4⟩:=h;injection e with e1 e2 e3
 subst e1 e3;have hl:(ls.take k).length=k:=by rw[List.length_take];omega
 refine⟨a,c,by rw[hl],by omega,h3,λhn=>?_⟩;obtain⟨x,ex,hx,hy⟩:=h4 (by rintro rfl;simp at hn);refine⟨x,ex,hx,λi l hi=>hy i l ?_⟩;rw[List.getElem?_take] at hi;split at hi
 ·exact hi
 ·cases hi
end Go.Proofs.YtolfphmdmpehdaaGreatDoor
namespace Go.Proofs.YtolfphmdmpehdaaGreatDoor
open Go.RowKit Go.Proofs.YtolfphmdmpehdaaGreatDoor.So
structure Quiet(ks:List KV)(X:WV):Prop where
 w:Wd.aF ks X=0
 q:X.qs=[]
 u:∀x∈X.us,x.task=0/\x.load=0/\∀k,ks[x.kind.toNat]? =some k->k.n1=0
theorem wB{ks:List KV}{X:WV}(h:Quiet ks X):∀q,tk ks X q=(X,[])
 |0=>rfl
 |q+1=>by
  have ih:=wB h q;rw[tk,ih];simp only;split
  ·rfl
  ·rename_i u hu
   have hy:bI ks X u=0:=by
    unfold bI;rw[if_neg];rintro⟨h1,-⟩;have:=(h.u u (List.mem_of_getElem? hu)).1;omega
   rw[if_neg (by rw[hy];omega)]
theorem wC{ks:List KV}{Wn Hn:Nat}{X:WV}(h:Quiet ks X):∀q,br ks Wn Hn X q=(X,[])
 |0=>rfl
 |q+1=>by
  have ih:=wC (Wn:=Wn) (Hn:=Hn) h q;rw[br,ih];simp only;split
  ·rfl
  ·rename_i u hu
   have hy:brings ks Wn Hn X u=false:=by
    unfold brings;rw[(h.u u (List.mem_of_getElem? hu)).2.1];simp
   rw[if_neg (by rw[hy];simp)]
theorem EJ{ks:List KV}{Wn Hn:Nat}{X:WV}(h:Quiet ks X):Ir ks Wn Hn X=X:=by
 unfold Ir;rw[wB h];simp only;rw[wC h]
theorem EM{ks:List KV}{W:Nat}{us:List aC}{s:List Int×List bM}{u:aC}(h:∀k,ks[u.kind.toNat]? =some k->k.n1=0):stk ks W us s u=s:=by
 unfold stk;rw[if_pos];unfold lU;cases hk:ks[u.kind.toNat]? with
 |none=>rfl
 |some k=>simp only;unfold tgt;rw[if_pos (h k hk)]
theorem qp{ks:List KV}{W:Nat}{us:List aC}:∀(l:List aC) (s:List Int×List bM),(∀x∈l,∀k,ks[x.kind.toNat]? =some k->k.n1=0)->l.foldl (stk ks W us) s=s
 |[],s,_=>rfl
 |u::l,s,h=>by rw[List.foldl_cons,EM (h u (by simp)),qp l s (λx hx=>h x (by simp[hx]))]
theorem rV:∀us:List aC,hurt us (List.replicate us.length 0)=us
 |[]=>rfl
 |u::us=>by
  have:=rV us;unfold hurt at this ⊢;rw[List.length_cons,List.replicate_succ,List.zipWith_cons_cons,this]
  congr 1
  obtain⟨a,b,c,d,e,f,g,i⟩:=u;simp
theorem uw{ks:List KV}{W:Nat}{X:WV}(h:Quiet ks X):iw ks W X=X:=by
 have hs:struck ks W X=X.us:=by
  unfold struck strikes;rw[qp X.us _ (λx hx=>(h.u x hx).2.2)];exact rV X.us
 have hst:stays ks W X=X.us:=by
  unfold stays;rw[hs];refine List.filter_eq_self.2 (λu hu=>?_);obtain⟨i,hi⟩:=List.mem_iff_getElem?.1 hu;obtain⟨k,F⟩:=(aY h.w).fine hi;have:=F.life.1;unfold bJ;simp;omega
 unfold iw;rw[hst,h.q];obtain⟨a,b,c,d,e,f,g,i,j⟩:=X;have:=h.q;simp at this;subst this;rfl
theorem quiet_step{ks:List KV}{X Y:WV}{es:List bM}(h:Quiet ks X)(s:kG ks X [] Y es):Y={X with turn:=X.turn+1}:=by
 obtain⟨out,Wn,Hn,Z,a1,a2,a3,a4,rfl⟩:=s;obtain rfl:=a1.one (nP (by simp));have ea:(gv ks X [] ([]:List aK).length).1=X:=rfl;rw[ea] at a4;have t0:Tr ks X X.qs.length X [] []:=by rw[h.q];exact .zero
 have eX:{X with qs:=[]}=X:=by rw[<-h.q]
 suffices Z=X by rw[this]
 cases a4 with
 |four p3=>
  cases p3 with
  |three p2=>
   cases p2 with
   |two p1 m=>
    cases p1 with
    |one t=>
     obtain⟨e1,e2,e3⟩:=AU t t0;obtain rfl:=e1.symm;subst e2 e3;rw[eX] at m;obtain⟨-,rfl⟩:=xZ m (λu hu=>(h.u u hu).1);rw[eX];show iw ks Wn (Ir ks Wn Hn X)=X;rw[EJ h,uw h]
theorem zy{ks:List KV}{X Y:WV}{es:List bM}(h:Quiet ks X)(hf:bg ks X []=0)(s:kG ks X [] Y es):Quiet ks Y:=by
 have hw:=(yX hf s).1;obtain rfl:=quiet_step h s;exact⟨hw,h.q,h.u⟩
theorem qw{ks:List KV}{X:WV}{ls:List (List aK)}(h:Quiet ks X)(hl:∀l∈ls,l=[]){n:Nat}{Y:WV}(p:gI ks X ls n Y):Quiet ks Y/\Y={X with turn:=X.turn+(n:Int)}:=by
 induction p with
 |zero=>exact⟨h,by simp⟩
 | @turn n Y Z l es p hl' hf hs ih=>
  obtain rfl:=hl l (List.mem_of_getElem? hl');refine⟨zy ih.1 hf hs,?_⟩;rw[quiet_step ih.1 hs,ih.2];simp only
  congr 1
  omega
theorem zA{ks:List KV}{X:WV}(h:Quiet ks X){m:Nat}(hm:m<=10)(ht:X.turn<=900000){F:Int}{w w':World}{v r:Value}(hs:fJ ks X (List.replicate m []) F w w' v)(he:Er r F):r=.nilIface/\Wo w' w.heap.size v {X with turn:=X.turn+(m:Int)}/\Wd.aF ks {X with turn:=X.turn+(m:Int)}=0:=by
 have hall:∀l∈List.replicate m ([]:List aK),l=[]:=λl hl=>(List.mem_replicate.1 hl).2
 rcases hs with⟨hn,-,h1|h1|⟨-,-,n,Z,l,p,hl',hf⟩⟩|⟨rfl,h1,h2,B,h3,h4⟩
 ·exact absurd h.w h1.1
 ·have:=h1.2.1;simp at this;omega
 ·obtain⟨q1,q2⟩:=qw h hall p
  obtain rfl:=hall l (List.mem_of_getElem? hl');have hn2:=(List.getElem?_eq_some_iff.1 hl').1;simp at hn2;exact absurd ((yY q1.w (by rw[q2];simp only;omega)).symm.trans hf).symm hn
 ·obtain⟨q1,q2⟩:=qw h hall h3
  rw[List.length_replicate] at q2;subst q2;refine⟨?_,h4,q1.w⟩;rcases he with⟨-,h⟩|⟨h,-⟩
  ·exact h
  ·exact absurd rfl h
theorem KI:(Tryz.prog.info? 61).map (λi=>(i.zero,i.size,i.bytes))=some (some (slice none 0 0),1,24):=by kernel_rfl
theorem RH(n:Nat)(w:World)(h:n<=1000):∃w',(Instr.makeSlice 30 (int i64 (n:Nat)) (int i64 (n:Nat))).run Tryz.prog w=.ok (slice (some ⟨w.heap.size,0,none⟩) n n) w'/\JX w' (slice (some ⟨w.heap.size,0,none⟩) n n) (List.replicate n [])/\Below w.heap.size w w':=by
 obtain⟨i0,hi,hz0,hz1,hz2⟩:=info_parts KI;have hr:=run_make (P:=Tryz.prog) w 30 61 i0 (slice none 0 0) Tryz.underlying30 hi hz0 .i64 .i64 (n:Nat) (n:Nat) (by omega) (Int.le_refl _) (by rw[hz2];omega) (by omega);refine⟨_,hr,?_,(Below.refl _ _).alloc (Nat.le_refl _) _⟩;refine⟨_,n,by rw[List.length_replicate],by rw[List.length_replicate];exact Nat.le_refl _,by omega,λhn=>⟨_,rfl,by simp,λi l hl=>?_⟩⟩;obtain⟨hil,e⟩:=List.getElem?_eq_some_iff.1 hl;rw[List.length_replicate] at hil;rw[List.getElem_replicate] at e;subst e;refine⟨slice none 0 0,?_,⟨none,0,rfl,Nat.le_refl _,by omega,λh=>absurd rfl h⟩⟩;have hn:=heap_alloc_new w (Obj.cells (madeCells #[slice none 0 0] n) 61);rw[hz1,Int.toNat_natCast,Nat.mul_one];have ec:(slice none 0 0).cells= #[slice none 0 0]:=rfl;rw[ec,Addr.add_lit,Nat.zero_add];simp only[World.cell?,hn];simp[madeCells,hil,Nat.mod_one]
end Go.Proofs.YtolfphmdmpehdaaGreatDoor
namespace Go.Proofs.YtolfphmdmpehdaaGreatDoor
def iD(ks:List KV)(n:Int):Option KV:=if n<0 then none else ks[n.toNat]?
def fE(ks:List KV)(u:aC):Bool:=match iD ks u.kind with
 |none=>true
 |some k=>decide (u.aA<0\/3<u.aA\/u.life<0\/k.n0<u.life)
def jf(ks:List KV)(u:aC):Int:=match iD ks u.kind with
 |none=>0
 |some k=>(k.n5*u.life).tdiv k.n0
def cZ(ks:List KV)(us:List aC)(j:Int):Int:=us.foldl (λs u=>if u.aA=j then s+jf ks u else s) 0
def dA(ks:List KV)(us:List aC):List Int:=[cZ ks us 0,cZ ks us 1,cZ ks us 2,cZ ks us 3]
theorem zB(ks:List KV)(i:Nat):iD ks (i:Int)=ks[i]? :=by
 unfold iD;rw[if_neg (by omega)];rfl
theorem mG{ks:List KV}{us:List aC}{n:Nat}{u:aC}(h:us[n]? =some u)(j:Int):cZ ks (us.take (n+1)) j=if u.aA=j then cZ ks (us.take n) j+jf ks u else cZ ks (us.take n) j:=by
 obtain⟨hi,e⟩:=List.getElem?_eq_some_iff.1 h;unfold cZ;rw[List.take_succ_eq_append_getElem hi,List.foldl_append,e];rfl
theorem qx{ks:List KV}{u:aC}(h:fE ks u=false):∃(i:Nat) (k:KV),u.kind=i/\ks[i]? =some k/\0<=u.aA/\u.aA<=3/\0<=u.life/\u.life<=k.n0/\jf ks u=(k.n5*u.life).tdiv k.n0:=by
 unfold fE at h;cases hk:iD ks u.kind with
 |none=>rw[hk] at h;cases h
 |some k=>
  rw[hk] at h;have h2:=of_decide_eq_false h;unfold iD at hk;split at hk
  ·cases hk
  ·refine⟨u.kind.toNat,k,by omega,hk,by omega,by omega,by omega,by omega,?_⟩
   unfold jf iD;rw[if_neg (by assumption),hk]
theorem part_le{p l m:Int}(h1:0<=p)(h2:p<=1000)(h3:0<=l)(h4:l<=m)(h5:0<m):0<=(p*l).tdiv m/\(p*l).tdiv m<=1000:=by
 have h6:0<=p*l:=Int.mul_nonneg h1 h3;rw[Int.tdiv_eq_ediv_of_nonneg h6];refine⟨Int.ediv_nonneg h6 (by omega),?_⟩;have h7:p*l<=1000*m:=Int.mul_le_mul h2 h4 h3 (by decide)
 calc p*l/m<=1000*m/m:=Int.ediv_le_ediv h5 h7
  _=1000:=Int.mul_ediv_cancel _ (by omega)
theorem iV{ks:List KV}(hk:∀k∈ks,0<=k.n5/\k.n5<=1000/\0<k.n0){us:List aC}(hu:us.any (fE ks)=false)(j:Int):∀n,n<=us.length->0<=cZ ks (us.take n) j/\cZ ks (us.take n) j<=1000*n
 |0,_=>by simp[cZ]
 |n+1,h=>by
  have ih:=iV hk hu j n (by omega);obtain⟨u,e⟩:∃u,us[n]? =some u:=⟨_,List.getElem?_eq_getElem (by omega)⟩;have hb:fE ks u=false:=by
   rw[List.any_eq_false] at hu;have:=hu u (List.mem_of_getElem? e);simpa using this
  obtain⟨i,k,_,h2,_,_,h5,h6,h7⟩:=qx hb;have h8:=hk k (List.mem_of_getElem? h2);have h9:=part_le h8.1 h8.2.1 h5 h6 h8.2.2;rw[mG e,h7];split<;>omega
open Go.RowKit
theorem Vg{B:Nat}{w W:World}(h:Below B w W):∀n,Below B w (W.drewN n)
 |0=>h
 |n+1=>(Vg h n).drew
theorem EP(v:Value)(ks:List KV)(u:aC)(b:Nat)(w:World)(h:Kl w v ks)(hc:w.cell? ⟨b,0,none⟩=some v):
  Calls Tryz.prog 127 #[u.val,.pointer (some ⟨b,0,none⟩)] w λe w'=>e=.returned (.bool (fE ks u))/\Below w.heap.size w w':=by
 have hl:=cell_lt hc;obtain⟨R,hR⟩:∃R,fE ks u=R:=⟨_,rfl⟩;have HR:Hid (fE ks u=R):=hR;rw[hR];clear hR;obtain⟨a,c,rfl,c1,c2,hx⟩:=h;obtain⟨id,aA,kind,at_,life,load,task,goal⟩:=u;unfold aC.val;have hw:IntKind.i64.wrap ((ks.length:Int)-1)=(ks.length:Int)-1:=by
  simp[IntKind.wrap,IntKind.bits,IntKind.signed];omega
 by_cases h1:0<=aA/\aA<=3
 ·obtain⟨h1a,h1b⟩:=h1
  by_cases h2:0<=kind/\kind<=(ks.length:Int)-1
  ·obtain⟨i,rfl⟩:∃i:Nat,kind=i:=⟨kind.toNat,by omega⟩
   have hi:i<ks.length:=by omega
   have hi':(i:Int)<(ks.length:Int):=by omega
   obtain⟨k,hk⟩:∃k,ks[i]? =some k:=⟨_,List.getElem?_eq_getElem hi⟩;obtain⟨x,rfl,hx1,hx2⟩:=hx (by rintro rfl;simp at hi);have KC:=hx2 i k hk;have q1:w.cell? ⟨(x.add (i*11)).block,(x.add (i*11)).off+1,none⟩=some (int i64 k.n0):=KC.c1;have RB:Hid (R=decide (life<0\/k.n0<life)):=by
    unfold Hid;rw[<-HR.out];unfold fE;rw[zB,hk];simp only
    congr 1
    exact propext (by omega)
   generalize k.n0=m at *;have hx3:(x.add (i*11)).block<w.heap.size:=by rw[add_block];exact hx1
   have q1':∀o,(w.alloc o).cell? ⟨(x.add (i*11)).block,(x.add (i*11)).off+1,none⟩=some (int i64 m):=λo=>by rw[((Below.refl w.heap.size w).alloc (Nat.le_refl _) o).cell (p:=⟨(x.add (i*11)).block,(x.add (i*11)).off+1,none⟩) hx3];exact q1
   clear hx2 hk KC HR hx;by_cases h3:0<=life/\life<=m
   ·obtain⟨h3a,h3b⟩:=h3
    have E:Hid (R=false):=by unfold Hid;rw[RB.out,decide_eq_false (by omega)]
    go_enter Tryz.func127,Tryz.ntmps127;go_wp2_with fail
    go_quiet (first|(go_at_call 128;exact Calls.quiet_of_same (iY _ _ _ _ (by omega) (by omega)))|(go_at_call 128;exact Calls.quiet_of_same (jT _ _ _ _ (by omega))));go_wp2;go_ret;exact⟨by rw[E.out];rfl,Vg ((Below.refl _ _).alloc (Nat.le_refl _) _) _⟩
   ·have E:Hid (R=true):=by unfold Hid;rw[RB.out,decide_eq_true (by omega)]
    go_enter Tryz.func127,Tryz.ntmps127;go_wp2_with fail
    go_quiet (first|(go_at_call 128;exact Calls.quiet_of_same (iY _ _ _ _ (by omega) (by omega)))|(go_at_call 128;exact Calls.quiet_of_same (jT _ _ _ _ (by omega))));go_wp2;go_ret;exact⟨by rw[E.out];rfl,Vg ((Below.refl _ _).alloc (Nat.le_refl _) _) _⟩
  ·have E:Hid (R=true):=by
    unfold Hid;rw[<-HR.out];unfold fE;have:iD ks kind=none:=by
     unfold iD;split
     ·rfl
     ·exact List.getElem?_eq_none (by omega)
    rw[this]
   clear hx;go_enter Tryz.func127,Tryz.ntmps127;go_wp2_with fail
   go_quiet (first|(go_at_call 128;exact Calls.quiet_of_same (iY _ _ _ _ (by omega) (by omega)))|(go_at_call 128;exact Calls.quiet_of_same (jT _ _ _ _ (by omega))));go_wp2;go_ret;exact⟨by rw[E.out];rfl,Vg ((Below.refl _ _).alloc (Nat.le_refl _) _) _⟩
 ·have E:Hid (R=true):=by
   unfold Hid;rw[<-HR.out];unfold fE;split
   ·rfl
   ·exact decide_eq_true (by simp only;omega)
  clear hx;go_enter Tryz.func127,Tryz.ntmps127;go_wp2_with fail
  go_quiet (first|(go_at_call 128;exact Calls.quiet_of_same (iY _ _ _ _ (by omega) (by omega)))|(go_at_call 128;exact Calls.quiet_of_same (jT _ _ _ _ (by omega))));go_wp2;go_ret;exact⟨by rw[E.out];rfl,Vg ((Below.refl _ _).alloc (Nat.le_refl _) _) _⟩
theorem Ot:∀args w,(callFunc 127 args).run Tryz.prog w=.ok (.enter 127 args) w:=by
 intro args w;go_simp
theorem RI(w:World):(Instr.makeSlice 23 (int i64 4) (int i64 4)).run Tryz.prog w=.ok (slice (some ⟨w.heap.size,0,none⟩) 4 4) (w.alloc (.cells #[int i64 0,int i64 0,int i64 0,int i64 0] 3)):=by kernel_rfl
theorem ES(v:Value)(ks:List KV)(y:Value)(us:List aC)(w:World)(h:Kl w v ks)(hb:∀k∈ks,k.b.size<=9223372036854775807)(hu:jF w y us):
  Calls Tryz.prog 80 #[v,y] w λe w'=>∃(r u:Value),e=.returned (.tuple #[r,u])/\Below w.heap.size w w'/\
   ((Kd.aG (ks.map KV.k)≠0/\Ro w' r []/\Er u (Kd.aG (ks.map KV.k)))\/
    (Kd.aG (ks.map KV.k)=0/\40<us.length/\Ro w' r []/\Er u 4)\/
    (Kd.aG (ks.map KV.k)=0/\us.length<=40/\us.any (fE ks)=true/\Ro w' r []/\Er u 1)\/
    (Kd.aG (ks.map KV.k)=0/\us.length<=40/\us.any (fE ks)=false/\Ro w' r (dA ks us)/\Er u 0)):=by
 have K0:Hid (Kl w v ks):=h;have U0:Hid (jF w y us):=hu;have CA:Hid (∀W,Below w.heap.size w W->Calls Tryz.prog 120 #[v] W λe w'=>∃u,e=.returned u/\Er u (Kd.aG (ks.map KV.k))/\Below W.heap.size W w'):=λW hW=>nY v ks W (h.below hW) hb
 have KR:Hid (Kd.aG (ks.map KV.k)=0->ks.length<=8/\∀k∈ks,0<=k.n5/\k.n5<=1000/\0<k.n0/\k.n0<=1000):=iJ;generalize Kd.aG (ks.map KV.k)=R at *;have Rn:∀W:World,Ro W (slice none 0 0) []:=λW=>⟨none,0,rfl,Nat.le_refl _,by omega,λh=>absurd rfl h⟩
 have RN:Hid (∀W:World,Ro W (slice none 0 0) []):=Rn;clear hb Rn;obtain⟨a,c,rfl,c1,c2,-⟩:=h;obtain⟨au,cu,rfl,cu1,cu2,-⟩:=hu;go_enter Tryz.func80,Tryz.ntmps80;go_wp2_with fail
 have B0:Below w.heap.size w (w.alloc (Obj.cells #[slice a ks.length c] 22)):=(Below.refl _ _).alloc (Nat.le_refl _) _;have hc0:(w.alloc (Obj.cells #[slice a ks.length c] 22)).cell? ⟨w.heap.size,0,none⟩=some (slice a ks.length c):=by simp
 have hz0:w.heap.size<(w.alloc (Obj.cells #[slice a ks.length c] 22)).heap.size:=by simp
 refine(CA.out _ B0).mono ?_;rintro e w1 ⟨u,rfl,hu,b1⟩;have B1:Hid (Below w.heap.size w w1):=B0.trans (b1.mono B0.size);have hc1:w1.cell? ⟨w.heap.size,0,none⟩=some (slice a ks.length c):=by rw[b1.cell (p:=⟨w.heap.size,0,none⟩) hz0];exact hc0
 clear CA b1 B0 hc0 hz0;rcases hu with⟨h0,rfl⟩|⟨h0,rfl⟩
 ·have H0:Hid (R=0):=h0
  clear h0;by_cases h40:40<us.length
  ·have h40':(40:Int)<(us.length:Int):=by omega
   go_wp2;go_ret2;exact⟨_,_,rfl,B1,.inr (.inl ⟨H0,h40,RN.out _,Er.no (by decide)⟩)⟩
  ·have h40':¬(40:Int)<(us.length:Int):=by omega
   have hl40:us.length<=40:=by omega
   go_wp2_with fail
   have hl1:=cell_lt hc1;refine(kX 127 Ot _ _ us (fE ks) _ (U0.out.below B1.out) ?_).mono ?_
   ·intro W hW k
    exact EP _ ks k w.heap.size W (K0.out.below (B1.out.trans (hW.mono B1.out.size))) (by rw[hW.cell (p:=⟨w.heap.size,0,none⟩) hl1];exact hc1)
   ·rintro e w2 ⟨rfl,b2⟩
    have B2:Hid (Below w.heap.size w w2):=B1.out.trans (b2.mono B1.out.size);have hc2:w2.cell? ⟨w.heap.size,0,none⟩=some (slice a ks.length c):=by rw[b2.cell (p:=⟨w.heap.size,0,none⟩) hl1];exact hc1
    clear b2 hc1 hl1;cases hA:us.any (fE ks) with
    |true=>
     have HA:Hid (us.any (fE ks)=true):=hA;clear hA;go_wp2;go_ret2;exact⟨_,_,rfl,B2,.inr (.inr (.inl ⟨H0,hl40,HA,RN.out _,Er.no (by decide)⟩))⟩
    |false=>
     have HA:Hid (us.any (fE ks)=false):=hA;clear hA;have KR2:Hid (ks.length<=8/\∀k∈ks,0<=k.n5/\k.n5<=1000/\0<k.n0/\k.n0<=1000):=KR.out H0.out;have hm:=RI w2;have hlt:w.heap.size<w2.heap.size:=cell_lt hc2;have hl0:w.heap.size<=w2.heap.size:=by omega
     have BB:Hid (Below w2.heap.size w2 (w2.alloc (Obj.cells #[int i64 0,int i64 0,int i64 0,int i64 0] 3))):=(Below.refl _ _).alloc (Nat.le_refl _) _;have BK:Hid (Bk (w2.alloc (Obj.cells #[int i64 0,int i64 0,int i64 0,int i64 0] 3)) w2.heap.size (dA ks []) #[]):=by
      unfold Hid Bk;rw[World.alloc_heap_new];rfl
     have HC:Hid (w2.cell? ⟨w.heap.size,0,none⟩=some (slice a ks.length c)):=hc2;clear hc2 KR RN;go_wp2_with fail
     go_loopw [29] (λj W'=>∃n:Nat,n<=us.length/\j=int i64 (n:Nat)/\Bk W' w2.heap.size (dA ks (us.take n)) #[]/\Below w2.heap.size w2 W') (λj _=>us.length-(intOf j).toNat)
     case atStart=>exact⟨0,Nat.zero_le _,rfl,BK,BB⟩
     case round=>
      obtain⟨n,hn,rfl,hbk,hbb⟩:=hrel;have Bk1:Hid (Bk wr w2.heap.size (dA ks (us.take n)) #[]):=hbk;have Bb1:Hid (Below w2.heap.size w2 wr):=hbb;have Bw:Hid (Below w.heap.size w wr):=B2.out.trans (hbb.mono hl0);clear hbk hbb;by_cases hne:n=us.length
      ·subst hne
       go_wp2;go_ret2;refine⟨_,_,rfl,Bw,.inr (.inr (.inr ⟨H0,hl40,HA,?_,Er.nil⟩))⟩;have:=Bk1.out.ro (c:=4) (by simp[dA]) (by omega);rw[List.take_of_length_le (Nat.le_refl _)] at this;exact this
      ·have hnl:n<us.length:=by omega
       have Rl:(n:Int)<(us.length:Int):=by omega
       obtain⟨u,hu⟩:∃u,us[n]? =some u:=⟨_,List.getElem?_eq_getElem hnl⟩;have hbad:fE ks u=false:=by
        have:=HA.out;rw[List.any_eq_false] at this;simpa using this u (List.mem_of_getElem? hu)
       obtain⟨i,k,hki,hk,hp0,hp3,hl0',hlm,hwo⟩:=qx hbad;have kb:=KR2.out.2 k (List.mem_of_getElem? hk);have hil:i<ks.length:=(List.getElem?_eq_some_iff.1 hk).1;have WB:=iV (λk hk=>⟨(KR2.out.2 k hk).1,(KR2.out.2 k hk).2.1,(KR2.out.2 k hk).2.2.1⟩) HA.out u.aA n hn;have WN:Hid (∀j,cZ ks (us.take (n+1)) j=if u.aA=j then cZ ks (us.take n) j+jf ks u else cZ ks (us.take n) j):=mG hu;obtain⟨p,hpp⟩:∃p:Nat,u.aA=p:=⟨u.aA.toNat,by omega⟩;have hp4:p<4:=by omega
       have Wd:Hid ((dA ks (us.take n))[p]? =some (cZ ks (us.take n) u.aA)):=by
        unfold Hid dA;rw[hpp]
        match p,hp4 with
        |0,_=>rfl
        |1,_=>rfl
        |2,_=>rfl
        |3,_=>rfl
       have Ws:Hid ((dA ks (us.take n)).set p (cZ ks (us.take n) u.aA+jf ks u)=dA ks (us.take (n+1))):=by
        unfold Hid dA;rw[WN.out 0,WN.out 1,WN.out 2,WN.out 3,hpp]
        match p,hp4 with
        |0,_=>rfl
        |1,_=>rfl
        |2,_=>rfl
        |3,_=>rfl
       have PL:=part_le kb.1 kb.2.1 hl0' hlm kb.2.2.1;have ML:0<=k.n5*u.life/\k.n5*u.life<=1000000:=⟨Int.mul_nonneg kb.1 hl0',by
        have:k.n5*u.life<=1000*1000:=Int.mul_le_mul kb.2.1 (by omega) hl0' (by decide);omega⟩
       obtain⟨hm1,hm2⟩:=ML;obtain⟨hq1,hq2⟩:=PL;obtain⟨hb1,hb2⟩:=WB;rw[hwo] at Ws;generalize cZ ks (us.take n) u.aA=sm at *;have Uc:=U0.out.below Bw.out;obtain⟨au',cu',e,-,-,Yw⟩:=Uc;injection e with e1 e2 e3
       subst e1 e3;obtain⟨xu,rfl,ZJ,hxu⟩:=Yw (by rintro rfl;simp at hnl);have UC:=hxu n u hu;have Kk:=K0.out.below Bw.out;obtain⟨a',c',e,-,-,hkx⟩:=Kk;injection e with e1 e2 e3
       subst e1 e3;obtain⟨xk,rfl,vH,hxk⟩:=hkx (by rintro rfl;simp at hil);have KC:=hxk i k hk;have hcl:wr.cell? ⟨w.heap.size,0,none⟩=some (slice (some xk) ks.length c):=by rw[Bb1.out.cell (p:=⟨w.heap.size,0,none⟩) hlt];exact HC.out
       have ZK:(i:Int)<(ks.length:Int):=by omega
       clear hxu Yw hkx hxk hu hk hbad hwo WN e2 hnl hn;have hs:=Bk1.out.lt;obtain⟨id,aA,kind,at_,life,load,task,goal⟩:=u;obtain⟨Vw,n0,n1,n2,n3,n4,n5,n6,n7,kf,kt⟩:=k;simp only at hki hpp hl0' hlm kb hm1 hm2 hq1 hq2 Ws Wd;subst hki hpp;obtain⟨g1,g2,g3,g4⟩:=kb;obtain⟨m,em⟩:∃m,n5*life=m:=⟨_,rfl⟩;rw[em] at hm1 hm2 hq1 hq2 Ws;obtain⟨qq,eq⟩:∃qq,m.tdiv n0=qq:=⟨_,rfl⟩;rw[eq] at hq1 hq2 Ws;have Em:Hid (n5*life=m):=em;have Eq:Hid (m.tdiv n0=qq):=eq;have Bh:Hid (Kc wr (xk.add (i*11)) ⟨Vw,n0,n1,n2,n3,n4,n5,n6,n7,kf,kt⟩):=KC;have hcl':Hid (wr.cell? ⟨w.heap.size,0,none⟩=some (slice (some xk) ks.length c)):=hcl;obtain⟨u0,u1,u2,u3,u4,u5,u6,u7⟩:=UC;simp only at u0 u1 u2 u3 u4 u5 u6 u7;have Hs1:Hid (w2.heap.size<wr.heap.size):=hs;have Hxk:Hid (xk.block<wr.heap.size):=vH;clear em eq KC hcl hs vH;go_upto_region 13 with fail
       have b3:Below wr.heap.size wr (wr.alloc (Obj.cells #[int i64 id,int i64 (p:Nat),int i64 (i:Nat),int i64 at_,int i64 life,int i64 load,int i64 task,int i64 goal] 74)):=(Below.refl _ _).alloc (Nat.le_refl _) _;have X3:=dB.mk' (w:=wr) ⟨id,(p:Nat),(i:Nat),at_,life,load,task,goal⟩ rfl;simp only at X3;clear u0 u1 u2 u3 u4 u5 u6 u7;generalize wr.alloc (Obj.cells #[int i64 id,int i64 (p:Nat),int i64 (i:Nat),int i64 at_,int i64 life,int i64 load,int i64 task,int i64 goal] 74)=w3 at *;have B3:Hid (Below wr.heap.size wr w3):=b3;have hcl:w3.cell? ⟨w.heap.size,0,none⟩=some (slice (some xk) ks.length c):=by rw[b3.cell (p:=⟨w.heap.size,0,none⟩) (cell_lt hcl'.out)];exact hcl'.out
       have KC:=Bh.out.below b3 (by rw[add_block];exact Hxk.out);obtain⟨k0,k1,k2,k3,k4,k5,k6,k7,k8,k9,k10⟩:=KC;simp only at k0 k1 k2 k3 k4 k5 k6 k7 k8 k9 k10;have x1:w3.cell? ⟨wr.heap.size,1,none⟩=some (int i64 (p:Nat)):=X3.c1;have x2:w3.cell? ⟨wr.heap.size,2,none⟩=some (int i64 (i:Nat)):=X3.c2;have x4:w3.cell? ⟨wr.heap.size,4,none⟩=some (int i64 life):=X3.c4;have Y3:Hid (wr.heap.size<w3.heap.size/\w3.cell? ⟨wr.heap.size,1,none⟩=some (int i64 (p:Nat))/\w3.cell? ⟨wr.heap.size,4,none⟩=some (int i64 life)):=⟨X3.lt,x1,x4⟩;clear X3 b3;go_upto_region 14 with fail
       have b4:Below w3.heap.size w3 (w3.alloc (Obj.cells #[.string Vw,int i64 n0,int i64 n1,int i64 n2,int i64 n3,int i64 n4,int i64 n5,int i64 n6,int i64 n7,.bool kf,.bool kt] 77)):=(Below.refl _ _).alloc (Nat.le_refl _) _;have X4:=Kc.mk' (w:=w3) ⟨Vw,n0,n1,n2,n3,n4,n5,n6,n7,kf,kt⟩ rfl;simp only at X4;clear k0 k1 k2 k3 k4 k5 k6 k7 k8 k9 k10 x1 x2 x4 hcl;generalize w3.alloc (Obj.cells #[.string Vw,int i64 n0,int i64 n1,int i64 n2,int i64 n3,int i64 n4,int i64 n5,int i64 n6,int i64 n7,.bool kf,.bool kt] 77)=w4 at *;have B4:Hid (Below wr.heap.size wr w4):=B3.out.trans (b4.mono B3.out.size);have x1:w4.cell? ⟨wr.heap.size,1,none⟩=some (int i64 (p:Nat)):=by rw[b4.cell (p:=⟨wr.heap.size,1,none⟩) Y3.out.1];exact Y3.out.2.1
       have x4:w4.cell? ⟨wr.heap.size,4,none⟩=some (int i64 life):=by rw[b4.cell (p:=⟨wr.heap.size,4,none⟩) Y3.out.1];exact Y3.out.2.2
       have z1:w4.cell? ⟨w3.heap.size,1,none⟩=some (int i64 n0):=X4.c1;have z6:w4.cell? ⟨w3.heap.size,6,none⟩=some (int i64 n5):=X4.c6;have Bk4:Hid (Bk w4 w2.heap.size (dA ks (us.take n)) #[]):=Bk1.out.low B4.out Hs1.out;have y0:w4.cell? ⟨w2.heap.size,p,none⟩=some (int i64 sm):=Bk4.out.cell Wd.out;have y1:w4.frozen? ⟨w2.heap.size,p,none⟩=false:=Bk4.out.thaw p;have hn0:n0≠0:=by omega
       have hp4':(p:Int)<4:=by omega
       have em:n5*life=m:=Em.out;have eq:m.tdiv n0=qq:=Eq.out;have hsm:sm<=1000000:=by omega
       clear X4 b4 Y3;go_region
       all_goals
        go_wp2;refine⟨⟨n+1,by omega,by go_num,?_,?_⟩,by simp[intOf];omega⟩
        ·have:=Bk4.out.set p (sm+qq) (by simpa[dA] using hp4)
         rw[Ws.out] at this;exact this
        ·exact(((Bb1.out.trans (B4.out.mono Bb1.out.size)).setCell (p:=⟨w2.heap.size,p,none⟩) (Nat.le_refl _) _).drew)
 ·have H0:Hid (R≠0):=h0
  clear h0;go_wp2;go_ret2;exact⟨_,_,rfl,B1,.inl ⟨H0,RN.out _,Er.no H0⟩⟩
namespace Sc
def points(ks:List KV)(X:WV):List Int:=List.zipWith (λg x=>g+10*x) X.gold (dA ks X.us)
theorem iE{ks:List KV}{X:WV}(h:X.gold.length<=4):(points ks X).length=X.gold.length:=by
 unfold points dA;simp;omega
theorem zC{ks:List KV}{X:WV}{i:Nat}{g x:Int}(hg:X.gold[i]? =some g)(hx:(dA ks X.us)[i]? =some x):(points ks X)[i]? =some (g+10*x):=by
 unfold points;rw[List.getElem?_zipWith,hg,hx]
end Sc
structure RJ(ks:List KV)(X:WV):Prop where
 k:Kd.aG (ks.map KV.k)=0
 ul:X.us.length<=40
 bad:X.us.any (fE ks)=false
 gl:X.gold.length<=4
 gold:∀g∈X.gold,0<=g/\g<=1000000
 worth:∀(i:Nat) x,(dA ks X.us)[i]? =some x->0<=x/\x<=40000
 wl:∀i,i<X.gold.length->∃x,(dA ks X.us)[i]? =some x
theorem Ou{ks:List KV}{X:WV}(h:Wd.aF ks X=0):RJ ks X:=by
 have R:=aY h;have n:=R.nums;unfold Wd.aU at n;simp only[Bool.or_eq_false_iff,Bool.not_eq_false',decide_eq_true_eq] at n;obtain⟨-,-,⟨g1,g2⟩,g3⟩:=n;have gl:X.gold.length<=4:=by omega
 have kr:=iJ R.kinds;have bad:X.us.any (fE ks)=false:=by
  rw[List.any_eq_false];intro u hu;obtain⟨i,hi⟩:=List.mem_iff_getElem?.1 hu;obtain⟨k,F⟩:=R.fine hi;have e:iD ks u.kind=some k:=by
   unfold iD;rw[if_neg (by have:=F.k0;omega)];exact F.kk
  unfold fE;rw[e];simp only[decide_eq_true_eq];have:=F.p;have:=F.life;omega
 refine⟨R.kinds,R.ul,bad,gl,λg hg=>?_,λi x hx=>?_,λi hi=>?_⟩
 ·rw[List.any_eq_false] at g3
  have:=g3 g hg;unfold Wd.off at this;simp at this;exact this
 ·have wb:∀j,0<=cZ ks X.us j/\cZ ks X.us j<=40000:=λj=>by
   have:=iV (λk hk=>⟨(kr.2 k hk).1,(kr.2 k hk).2.1,(kr.2 k hk).2.2.1⟩) bad j X.us.length (Nat.le_refl _);rw[List.take_of_length_le (Nat.le_refl _)] at this;have:=R.ul;omega
  unfold dA at hx
  match i,hx with
  |0,hx=>simp at hx;rw[<-hx];exact wb 0
  |1,hx=>simp at hx;rw[<-hx];exact wb 1
  |2,hx=>simp at hx;rw[<-hx];exact wb 2
  |3,hx=>simp at hx;rw[<-hx];exact wb 3
  |n+4,hx=>simp at hx
 ·exact⟨_,List.getElem?_eq_getElem (by unfold dA;simp;omega)⟩
theorem qy(vk vw:Value)(ks:List KV)(X:WV)(w:World)(hk:Kl w vk ks)(hb:∀k∈ks,k.b.size<=9223372036854775807)(hw:Wl w vw X):
  Calls Tryz.prog 36 #[vk,vw] w λe w'=>∃(r u:Value),e=.returned (.tuple #[r,u])/\Below w.heap.size w w'/\
   ((Wd.aF ks X≠0/\Ro w' r []/\Er u (Wd.aF ks X))\/(Wd.aF ks X=0/\Ro w' r (Sc.points ks X)/\Er u 0)):=by
 have K:Hid (Kl w vk ks/\∀k∈ks,k.b.size<=9223372036854775807):=⟨hk,hb⟩;have W0:Hid (Wl w vw X):=hw;have PF:Hid (Wd.aF ks X=0->RJ ks X):=Ou;obtain⟨v1,v2,v3,v4,v5,rfl,r1,r2,hg,hu,r5⟩:=hw;have U0:Hid (jF w v4 X.us):=hu;have G0:Hid (Ro w v3 X.gold):=hg;obtain⟨ag,cg,rfl,cg1,cg2,-⟩:=hg;clear r1 r2 r5 hu hk hb;go_enter Tryz.func36,Tryz.ntmps36;obtain⟨z,hz⟩:∃z,w.heap.size=z:=⟨_,rfl⟩;have HZ:Hid (w.heap.size=z):=hz;have X0:Hid (Bw (w.alloc (Obj.cells #[int i64 X.turn,int i64 X.next,int i64 X.wide,int i64 X.high,v1,v2,slice ag X.gold.length cg,v4,v5] 29)) z X v1 v2 (slice ag X.gold.length cg) v4 v5):=Bw.mk' (w:=w) X v1 v2 (slice ag X.gold.length cg) v4 v5 hz;have B0:Hid (Below w.heap.size w (w.alloc (Obj.cells #[int i64 X.turn,int i64 X.next,int i64 X.wide,int i64 X.high,v1,v2,slice ag X.gold.length cg,v4,v5] 29))):=(Below.refl _ _).alloc (Nat.le_refl _) _;go_upto_region 1 with fail
 clear hz;generalize (w.alloc (Obj.cells #[int i64 X.turn,int i64 X.next,int i64 X.wide,int i64 X.high,v1,v2,slice ag X.gold.length cg,v4,v5] 29))=w1 at *;obtain⟨x0,x1,x2,x3,x4,x5,x6,x7,x8⟩:=X0.out;go_wp2_with fail
 refine(dI _ _ ks X w1 (K.out.1.below B0.out) K.out.2 (W0.out.below B0.out)).mono ?_;rintro e w2 ⟨r,rfl,hr,b2⟩;have B2:Hid (Below w.heap.size w w2):=B0.out.trans (b2.mono B0.out.size);have X2:Hid (Bw w2 z X v1 v2 (slice ag X.gold.length cg) v4 v5):=X0.out.below b2 X0.out.lt;clear b2 x0 x1 x2 x3 x4 x5 x6 x7 x8 X0;rcases hr with⟨h0,rfl⟩|⟨h0,rfl⟩
 case inr=>
  have H0:Hid (Wd.aF ks X≠0):=h0;clear h0;go_wp2;go_ret2;exact⟨_,_,rfl,by first|exact B2.out|(rw[<-HZ.out];exact B2.out),.inl ⟨H0.out,⟨none,0,rfl,Nat.le_refl _,by omega,λh=>absurd rfl h⟩,Er.no H0.out⟩⟩
 case inl=>
  have F:Hid (RJ ks X):=PF.out h0;have H0:Hid (Wd.aF ks X=0):=h0;clear PF h0;have x7:=X2.out.c7;go_wp2_with fail
  refine(ES _ ks _ X.us w2 (K.out.1.below B2.out) K.out.2 (U0.out.below B2.out)).mono ?_;rintro e w3 ⟨r,u,rfl,b3,hr⟩;have B3:Hid (Below w.heap.size w w3):=B2.out.trans (b3.mono B2.out.size);have X3:Hid (Bw w3 z X v1 v2 (slice ag X.gold.length cg) v4 v5):=X2.out.below b3 X2.out.lt;clear b3 x7;rcases hr with⟨h,-⟩|⟨-,h,-⟩|⟨-,-,h,-⟩|⟨-,-,-,hr,he⟩
  ·exact absurd F.out.k h
  ·have:=F.out.ul;omega
  ·rw[F.out.bad] at h;cases h
  obtain rfl:u=.nilIface:=by
   rcases he with⟨-,e⟩|⟨h,-⟩
   ·exact e
   ·exact absurd rfl h
  have RW:Hid (Ro w3 r (dA ks X.us)):=hr;have lw:(dA ks X.us).length=4:=rfl;obtain⟨ar,cr,rfl,-,-,hwc⟩:=hr;obtain⟨xr,rfl,hxl,hxr⟩:=hwc (by simp[dA]);have WC:Hid (xr.block<w3.heap.size/\∀(i:Nat) d,(dA ks X.us)[i]? =some d->w3.cell? (xr.add i)=some (int i64 d)):=⟨hxl,hxr⟩;rw[lw];clear hwc hxl hxr he lw;have gl:=F.out.gl;obtain⟨w4,hm,hbk,hbb,hs⟩:=Io X.gold.length w3 (by omega);have BK:Hid (Bk w4 w3.heap.size (List.replicate X.gold.length 0) #[]):=hbk;have BB:Hid (Below w3.heap.size w3 w4):=hbb;have x6:=X3.out.c6;have x6':=(X3.out.below BB.out X3.out.lt).c6;obtain⟨b,hb⟩:∃b,w3.heap.size=b:=⟨_,rfl⟩;have HB:Hid (w3.heap.size=b):=hb;rw[hb] at BK hm;clear hbk hbb hs hb;go_wp2_with fail
  clear hm x6 x6';go_loopw [35] (λj V=>∃n:Nat,n<=X.gold.length/\j=int i64 (n:Nat)/\Bk V b ((Sc.points ks X).take n++List.replicate (X.gold.length-n) 0) #[]/\Below b w3 V) (λj _=>X.gold.length-(intOf j).toNat)
  case atStart=>exact⟨0,Nat.zero_le _,rfl,by simpa using BK.out,by rw[<-HB.out];exact BB.out⟩
  case round=>
   obtain⟨n,hn,rfl,hb1,hB⟩:=hrel;have B1:Hid (Bk wr b ((Sc.points ks X).take n++List.replicate (X.gold.length-n) 0) #[]):=hb1;have V1:Hid (Below b w3 wr):=hB;have BR:Hid (Below w.heap.size w wr):=B3.out.trans (by rw[<-HB.out] at hB;exact hB.mono B3.out.size);clear hb1 hB;by_cases hne:n=X.gold.length
   ·subst hne
    go_wp2;go_ret2;refine⟨_,_,rfl,by first|exact BR.out|(rw[<-HZ.out];exact BR.out),.inr ⟨H0.out,?_,Er.nil⟩⟩;have:=B1.out.ro (c:=X.gold.length) (by simp[Sc.iE gl]) (by omega);rw[Nat.sub_self,List.replicate_zero,List.append_nil,List.take_of_length_le (by rw[Sc.iE gl];exact Nat.le_refl _),Sc.iE gl] at this;exact this
   ·have hnl:n<X.gold.length:=by omega
    have Rl:(n:Int)<(X.gold.length:Int):=by omega
    have hn4:(n:Int)<4:=by omega
    obtain⟨g,hg⟩:∃g,X.gold[n]? =some g:=⟨_,List.getElem?_eq_getElem hnl⟩;obtain⟨x,hx⟩:=F.out.wl n hnl;have gb:=F.out.gold g (List.mem_of_getElem? hg);have xb:=F.out.worth n x hx;have PG:Hid ((Sc.points ks X)[n]? =some (g+10*x)):=Sc.zC hg hx;obtain⟨a',c',e',-,-,hy⟩:=G0.out.below BR.out;injection e' with e1 e2 e3
    subst e1 e3;obtain⟨y,rfl,-,hy⟩:=hy (by rintro hn;rw[hn] at hnl;simp at hnl);have cy:=hy n g hg;have cx:wr.cell? (xr.add n)=some (int i64 x):=by
     rw[V1.out.cell (by rw[add_block,<-HB.out];exact WC.out.1)];exact WC.out.2 n x hx
    have tz:=B1.out.thaw n;have l9:((Sc.points ks X).take n).length=n:=by rw[List.length_take,Sc.iE gl];omega
    have cz:=B1.out.cell (i:=n) (d:=0) (by
     rw[List.getElem?_append_right (by omega),l9,Nat.sub_self,List.getElem?_replicate,if_pos (by omega)])
    have SZ:Hid (Bk (wr.setCell ⟨b,n,none⟩ (int i64 (g+10*x))) b ((Sc.points ks X).take (n+1)++List.replicate (X.gold.length-(n+1)) 0) #[]):=by
     have h9:=B1.out.set n (g+10*x) (by simp[Sc.iE gl];omega);have e9:((Sc.points ks X).take n++List.replicate (X.gold.length-n) 0).set n (g+10*x)=(Sc.points ks X).take (n+1)++List.replicate (X.gold.length-(n+1)) 0:=by
      rw[List.set_append_right _ _ (by omega),l9,Nat.sub_self,List.take_add_one,PG.out];have:X.gold.length-n=(X.gold.length-(n+1))+1:=by omega
      rw[this,List.replicate_succ];simp
     rw[e9] at h9;exact h9
    have w10:IntKind.i64.wrap (10*x)=10*x:=by rw[IntKind.wrap_i64];omega
    have wgx:IntKind.i64.wrap (g+10*x)=g+10*x:=by rw[IntKind.wrap_i64];omega
    clear hy hg hx e2 l9;go_wp2;exact⟨⟨n+1,by omega,by go_num,SZ.out,V1.out.setCell (p:=⟨b,n,none⟩) (Nat.le_refl _) _⟩,by simp[intOf];omega⟩
theorem mJ(u v:Value)(xs ys:List Int)(w:World)(hu:Ro w u xs)(hv:Ro w v ys):
  Calls Tryz.prog 23 #[u,v] w λe w'=>e=.returned (.bool (decide (xs=ys)))/\∃n,w'=w.drewN n:=by
 obtain⟨a,c,rfl,hc1,hc2,ha⟩:=hu;obtain⟨b,d,rfl,hd1,hd2,hb⟩:=hv;have Ha:Hid (Cells w a xs):=ha;have Hb:Hid (Cells w b ys):=hb;clear ha hb;by_cases hl:xs.length=ys.length
 ·have Hl:Hid (xs.length=ys.length):=hl
  rw[<-hl] at hd1 ⊢;clear hl;go_enter Tryz.func23,Tryz.ntmps23;go_wp2_with fail
  go_loopw [5] (λi W=>∃(k q:Nat),k<=xs.length/\i=int i64 (k:Nat)/\xs.take k=ys.take k/\W=w.drewN q) (λi _=>xs.length-(intOf i).toNat)
  case atStart=>exact⟨0,0,Nat.zero_le _,rfl,by simp,rfl⟩
  case round=>
   obtain⟨k,q,hk,rfl,ht,rfl⟩:=hrel;have Ht:Hid (xs.take k=ys.take k):=ht;clear ht;by_cases h0:k=xs.length
   ·subst h0
    go_wp2;go_ret;refine⟨?_,q,rfl⟩;have e:=Ht.out;rw[List.take_of_length_le (Nat.le_refl _),Hl.out,List.take_of_length_le (Nat.le_refl _)] at e;simp[e]
   ·have hkx:k<xs.length:=by omega
    have hky:k<ys.length:=by rw[<-Hl.out];exact hkx
    obtain⟨x,rfl,-,hx⟩:=Ha.out (by intro h;rw[h] at hkx;simp at hkx);obtain⟨y,rfl,-,hy⟩:=Hb.out (by intro h;rw[h] at hky;simp at hky);have cx:=hx k xs[k] (List.getElem?_eq_getElem hkx);have cy:=hy k ys[k] (List.getElem?_eq_getElem hky);have Te:Hid (xs.take (k+1)=ys.take (k+1)↔xs[k]=ys[k]):=by
     unfold Hid;rw[List.take_succ_eq_append_getElem hkx,List.take_succ_eq_append_getElem hky,Ht.out];exact⟨λh=>(List.cons.inj (List.append_cancel_left h)).1,λh=>by rw[h]⟩
    generalize xs[k]=p at *;generalize ys[k]=r at *;clear hx hy;by_cases hpr:p=r
    ·subst hpr
     go_wp2;go_quiet (fail);go_wp2;go_round
     case rel=>exact⟨k+1,q+nq,by omega,by go_num,by first|exact Te.out.2 rfl|exact Te.out.2 trivial,rfl⟩
     case measure=>simp[intOf];omega
    ·go_wp2
     go_quiet (fail);go_wp2;go_ret;refine⟨?_,q+nq,by rw[World.drewN_drewN]⟩;have:xs≠ys:=λh=>hpr (Te.out.1 (by rw[h]))
     simp[this]
 ·go_enter Tryz.func23,Tryz.ntmps23
  go_wp2;go_ret;refine⟨?_,0,rfl⟩;have:xs≠ys:=λh=>hl (by rw[h])
  simp[this]
theorem zD(u v:Value)(W H:Int)(gs os:List Int)(w:World)(hu:Fl w u W H gs os)(hv:Fl w v W H gs os):
  Calls Tryz.prog 46 #[u,v] w λe w'=>e=.returned (.bool true)/\Below w.heap.size w w':=by
 obtain⟨a1,a2,rfl,ha1,ha2⟩:=hu;obtain⟨b1,b2,rfl,hb1,hb2⟩:=hv;have A1:Hid (Ro w a1 gs):=ha1;have A2:Hid (Ro w a2 os):=ha2;have B1:Hid (Ro w b1 gs):=hb1;have B2:Hid (Ro w b2 os):=hb2;clear ha1 ha2 hb1 hb2;go_enter Tryz.func46,Tryz.ntmps46;go_wp2_with fail
 have K0:Below w.heap.size w ((w.alloc (Obj.cells #[int i64 W,int i64 H,a1,a2] 25)).alloc (Obj.cells #[int i64 W,int i64 H,b1,b2] 25)):=((Below.refl _ _).alloc (Nat.le_refl _) _).alloc (by simp) _;have X0:=(Bf.mk' (w:=w) W H a1 a2 rfl).below ((Below.refl _ _).alloc (Nat.le_refl _) (Obj.cells #[int i64 W,int i64 H,b1,b2] 25)) (by simp);have Y0:=Bf.mk' (w:=w.alloc (Obj.cells #[int i64 W,int i64 H,a1,a2] 25)) (z:=w.heap.size+1) W H b1 b2 (by simp);generalize (w.alloc (Obj.cells #[int i64 W,int i64 H,a1,a2] 25)).alloc (Obj.cells #[int i64 W,int i64 H,b1,b2] 25)=w0 at *;refine(mJ _ _ gs gs _ (A1.out.below K0) (B1.out.below K0)).mono ?_;rintro e w1 ⟨rfl,q1,hq1⟩;rw[decide_eq_true rfl];have k1:Below w0.heap.size w0 w1:=by rw[hq1];exact _root_.Go.below_drewN (Below.refl _ _) _
 have K1:Below w.heap.size w w1:=K0.trans (k1.mono K0.size);have X1:Hid (Bf w1 w.heap.size W H a1 a2):=X0.below k1 X0.lt;have Y1:Hid (Bf w1 (w.heap.size+1) W H b1 b2):=Y0.below k1 Y0.lt;clear hq1 k1 X0 Y0 K0;obtain⟨x0,x1,x2,x3⟩:=X1.out;obtain⟨y0,y1,y2,y3⟩:=Y1.out;have K1':Hid (Below w.heap.size w w1):=K1;clear K1;go_wp2_with fail
 refine(mJ _ _ os os _ (A2.out.below K1'.out) (B2.out.below K1'.out)).mono ?_;rintro e w2 ⟨rfl,q2,hq2⟩;rw[decide_eq_true rfl];have k2:Below w1.heap.size w1 w2:=by rw[hq2];exact _root_.Go.below_drewN (Below.refl _ _) _
 have K2:Hid (Below w.heap.size w w2):=K1'.out.trans (k2.mono K1'.out.size);have X2:Hid (Bf w2 w.heap.size W H a1 a2):=X1.out.below k2 X1.out.lt;have Y2:Hid (Bf w2 (w.heap.size+1) W H b1 b2):=Y1.out.below k2 Y1.out.lt;clear hq2 k2 x0 x1 x2 x3 y0 y1 y2 y3 X1 Y1 K1';obtain⟨x0,x1,x2,x3⟩:=X2.out;obtain⟨y0,y1,y2,y3⟩:=Y2.out;go_wp2;go_ret;exact⟨rfl,K2⟩
theorem ET(u v:Value)(xs:List Int)(w:World)(hu:Ro w u xs)(hv:Ro w v xs):
  Calls Tryz.prog 23 #[u,v] w λe w'=>e=.returned (.bool true)/\Below w.heap.size w w':=
 (mJ u v xs xs w hu hv).mono λe w' ⟨h1,q,h2⟩=>⟨by rw[h1,decide_eq_true rfl],by rw[h2];exact _root_.Go.below_drewN (Below.refl _ _) _⟩
theorem wG(u v:Value)(W:WV)(w:World)(hu:Wl w u W)(hv:Wl w v W):
  Calls Tryz.prog 21 #[u,v] w λe w'=>e=.returned (.bool true)/\Below w.heap.size w w':=by
 obtain⟨u1,u2,u3,u4,u5,rfl,g1,g2,g3,g4,g5⟩:=hu;obtain⟨v1,v2,v3,v4,v5,rfl,k1,k2,k3,k4,k5⟩:=hv;obtain⟨a4,c4,rfl,gl4,gc4,ga4⟩:=g4;obtain⟨b4,d4,rfl,kl4,kc4,ka4⟩:=k4;obtain⟨a5,c5,rfl,gl5,gc5,ga5⟩:=g5;obtain⟨b5,d5,rfl,kl5,kc5,ka5⟩:=k5;have R:=aj (uG g1 g2 g3 k1 k2 k3);have GU:Hid (W.us≠[]->∃x,a4=some x/\x.block<w.heap.size/\∀(i:Nat) k,W.us[i]? =some k->dB w (x.add (i*8)) k):=ga4;have KU:Hid (W.us≠[]->∃x,b4=some x/\x.block<w.heap.size/\∀(i:Nat) k,W.us[i]? =some k->dB w (x.add (i*8)) k):=ka4;have GJ:Hid (W.qs≠[]->∃x,a5=some x/\x.block<w.heap.size/\∀(i:Nat) k,W.qs[i]? =some k->jS w (x.add (i*4)) k):=ga5;have KJ:Hid (W.qs≠[]->∃x,b5=some x/\x.block<w.heap.size/\∀(i:Nat) k,W.qs[i]? =some k->jS w (x.add (i*4)) k):=ka5;have zQ:W.us.length<=9223372036854775807:=by omega
 have uz:W.qs.length<=9223372036854775807:=by omega
 clear g1 g2 g3 k1 k2 k3 ga4 ka4 ga5 ka5 gl4 gc4 kl4 kc4 gl5 gc5 kl5 kc5;go_enter Tryz.func21,Tryz.ntmps21;go_wp2_with fail
 have K0:Below w.heap.size w ((w.alloc (Obj.cells #[int i64 W.turn,int i64 W.next,int i64 W.wide,int i64 W.high,u1,u2,u3,slice a4 W.us.length c4,slice a5 W.qs.length c5] 29)).alloc (Obj.cells #[int i64 W.turn,int i64 W.next,int i64 W.wide,int i64 W.high,v1,v2,v3,slice b4 W.us.length d4,slice b5 W.qs.length d5] 29)):=((Below.refl _ _).alloc (Nat.le_refl _) _).alloc (by simp) _;have X0:=(Bw.mk' (w:=w) W u1 u2 u3 (slice a4 W.us.length c4) (slice a5 W.qs.length c5) rfl).below ((Below.refl _ _).alloc (Nat.le_refl _) (Obj.cells #[int i64 W.turn,int i64 W.next,int i64 W.wide,int i64 W.high,v1,v2,v3,slice b4 W.us.length d4,slice b5 W.qs.length d5] 29)) (by simp);have Y0:=Bw.mk' (w:=w.alloc (Obj.cells #[int i64 W.turn,int i64 W.next,int i64 W.wide,int i64 W.high,u1,u2,u3,slice a4 W.us.length c4,slice a5 W.qs.length c5] 29)) (z:=w.heap.size+1) W v1 v2 v3 (slice b4 W.us.length d4) (slice b5 W.qs.length d5) (by simp);generalize ((w.alloc (Obj.cells #[int i64 W.turn,int i64 W.next,int i64 W.wide,int i64 W.high,u1,u2,u3,slice a4 W.us.length c4,slice a5 W.qs.length c5] 29)).alloc (Obj.cells #[int i64 W.turn,int i64 W.next,int i64 W.wide,int i64 W.high,v1,v2,v3,slice b4 W.us.length d4,slice b5 W.qs.length d5] 29))=w0 at *;refine(zD _ _ W.wide W.high W.gs W.os w0 ⟨_,_,rfl,R.out.1.below K0,R.out.2.1.below K0⟩ ⟨_,_,rfl,R.out.2.2.2.1.below K0,R.out.2.2.2.2.1.below K0⟩).mono ?_;rintro e w1 ⟨rfl,hb1⟩;have K1:Hid (Below w.heap.size w w1):=K0.trans (hb1.mono K0.size);have X1:Hid (Bw w1 w.heap.size W u1 u2 u3 (slice a4 W.us.length c4) (slice a5 W.qs.length c5)):=X0.below hb1 X0.lt;have Y1:Hid (Bw w1 (w.heap.size+1) W v1 v2 v3 (slice b4 W.us.length d4) (slice b5 W.qs.length d5)):=Y0.below hb1 Y0.lt;clear K0 X0 Y0 hb1;obtain⟨x0,x1,x2,x3,x4,x5,x6,x7,x8⟩:=X1.out;obtain⟨y0,y1,y2,y3,y4,y5,y6,y7,y8⟩:=Y1.out;go_wp2_with fail
 refine(ET _ _ W.gold w1 (R.out.2.2.1.below K1.out) (R.out.2.2.2.2.2.below K1.out)).mono ?_;rintro e w2 ⟨rfl,hb2⟩;have K2':Hid (Below w.heap.size w w2):=K1.out.trans (hb2.mono K1.out.size);have X2:Hid (Bw w2 w.heap.size W u1 u2 u3 (slice a4 W.us.length c4) (slice a5 W.qs.length c5)):=X1.out.below hb2 X1.out.lt;have Y2:Hid (Bw w2 (w.heap.size+1) W v1 v2 v3 (slice b4 W.us.length d4) (slice b5 W.qs.length d5)):=Y1.out.below hb2 Y1.out.lt;clear hb2 x0 x1 x2 x3 x4 x5 x6 x7 x8 y0 y1 y2 y3 y4 y5 y6 y7 y8 X1 Y1 K1;obtain⟨x0,x1,x2,x3,x4,x5,x6,x7,x8⟩:=X2.out;obtain⟨y0,y1,y2,y3,y4,y5,y6,y7,y8⟩:=Y2.out;go_wp2;clear x0 x1 x2 x3 x4 x5 x6 x7 x8 y0 y1 y2 y3 y4 y5 y6 y7 y8;go_loopw [7] (λi W'=>∃k:Nat,k<=W.us.length/\i=int i64 (k:Nat)/\Bw W' w.heap.size W u1 u2 u3 (slice a4 W.us.length c4) (slice a5 W.qs.length c5)/\Bw W' (w.heap.size+1) W v1 v2 v3 (slice b4 W.us.length d4) (slice b5 W.qs.length d5)/\Below w.heap.size w W') (λi _=>W.us.length-(intOf i).toNat)
 case atStart=>exact⟨0,Nat.zero_le _,rfl,X2.out,Y2.out,K2'.out⟩
 case round=>
  obtain⟨k,hk,rfl,hX,hY,hB⟩:=hrel;have XB:Hid (Bw wr w.heap.size W u1 u2 u3 (slice a4 W.us.length c4) (slice a5 W.qs.length c5)):=hX;have YB:Hid (Bw wr (w.heap.size+1) W v1 v2 v3 (slice b4 W.us.length d4) (slice b5 W.qs.length d5)):=hY;have B:Hid (Below w.heap.size w wr):=hB;clear hX hY hB X2 Y2 K2';by_cases h0:k=W.us.length
  ·subst h0
   have x7:=XB.out.c7;clear hk;go_wp2;clear x7;go_loopw [8] (λi W'=>∃k:Nat,k<=W.qs.length/\i=int i64 (k:Nat)/\Bw W' w.heap.size W u1 u2 u3 (slice a4 W.us.length c4) (slice a5 W.qs.length c5)/\Bw W' (w.heap.size+1) W v1 v2 v3 (slice b4 W.us.length d4) (slice b5 W.qs.length d5)/\Below w.heap.size w W') (λi _=>W.qs.length-(intOf i).toNat)
   case atStart=>exact⟨0,Nat.zero_le _,rfl,XB.out,YB.out,B.out⟩
   case round=>
    obtain⟨k,hk,rfl,hX,hY,hB⟩:=hrel;have XB:Hid (Bw wr w.heap.size W u1 u2 u3 (slice a4 W.us.length c4) (slice a5 W.qs.length c5)):=hX;have YB:Hid (Bw wr (w.heap.size+1) W v1 v2 v3 (slice b4 W.us.length d4) (slice b5 W.qs.length d5)):=hY;have B:Hid (Below w.heap.size w wr):=hB;clear hX hY hB;by_cases h0:k=W.qs.length
    ·subst h0
     have x8:=XB.out.c8;clear hk;go_wp2;go_ret;exact⟨rfl,B.out⟩
    ·have hlt:k<W.qs.length:=by omega
     have XI:((k:Nat):Int)<(W.qs.length:Nat):=by omega
     obtain⟨o,ho⟩:∃o,W.qs[k]? =some o:=⟨_,List.getElem?_eq_getElem hlt⟩;have hne:W.qs≠[]:=by intro e;rw[e] at hlt;simp at hlt
     obtain⟨x,rfl,hx,hxc⟩:=GJ.out hne;obtain⟨y,rfl,hy,Vh⟩:=KJ.out hne;obtain⟨q0,q1,q2,q3⟩:=(hxc k o ho).below B.out (by rw[add_block];exact hx);obtain⟨r0,r1,r2,r3⟩:=(Vh k o ho).below B.out (by rw[add_block];exact hy);have x8:=XB.out.c8;have y8:=YB.out.c8;clear hxc Vh hne ho hx hy;go_wp2;go_quiet (fail);go_wp2;go_round
     case rel=>exact⟨k+1,by omega,by go_num,XB.out.below (_root_.Go.below_drewN (Below.refl _ _) _) XB.out.lt,YB.out.below (_root_.Go.below_drewN (Below.refl _ _) _) YB.out.lt,_root_.Go.below_drewN B.out _⟩
     case measure=>simp[intOf];omega
  ·have hlt:k<W.us.length:=by omega
   have XI:((k:Nat):Int)<(W.us.length:Nat):=by omega
   obtain⟨o,ho⟩:∃o,W.us[k]? =some o:=⟨_,List.getElem?_eq_getElem hlt⟩;have hne:W.us≠[]:=by intro e;rw[e] at hlt;simp at hlt
   obtain⟨x,rfl,hx,hxc⟩:=GU.out hne;obtain⟨y,rfl,hy,Vh⟩:=KU.out hne;obtain⟨q0,q1,q2,q3,q4,q5,q6,q7⟩:=(hxc k o ho).below B.out (by rw[add_block];exact hx);obtain⟨r0,r1,r2,r3,r4,r5,r6,r7⟩:=(Vh k o ho).below B.out (by rw[add_block];exact hy);have x7:=XB.out.c7;have y7:=YB.out.c7;clear hxc Vh hne ho hx hy;go_wp2;go_quiet (fail);go_wp2;go_round
   case rel=>exact⟨k+1,by omega,by go_num,XB.out.below (_root_.Go.below_drewN (Below.refl _ _) _) XB.out.lt,YB.out.below (_root_.Go.below_drewN (Below.refl _ _) _) YB.out.lt,_root_.Go.below_drewN B.out _⟩
   case measure=>simp[intOf];omega
open Go.ChangeAt Go.ChangeShapes Go.WideShapes
theorem KN{H:Type}:∀d:DataW H,1<=Rows.uptoBulk d
 | .lit (.string bytes)=>by simp[Rows.uptoBulk]
 | .lit (.int _ _)=>by simp[Rows.uptoBulk]
 | .lit (.bool _)=>by simp[Rows.uptoBulk]
 | .lit (.float .f32 _)=>by simp[Rows.uptoBulk]
 | .lit (.float .f64 _)=>by simp[Rows.uptoBulk]
 | .lit .nil=>by simp[Rows.uptoBulk]
 | .nil=>by simp[Rows.uptoBulk]
 | .ptr d=>by simp[Rows.uptoBulk]
 | .slice _ _=>by simp[Rows.uptoBulk]
 | .agg _=>by simp[Rows.uptoBulk]
 | .iface _ _=>by simp[Rows.uptoBulk]
 | .map _=>by simp[Rows.uptoBulk]
 | .held _=>by simp[Rows.uptoBulk]
theorem wH{H:Type}:∀ds:List (DataW H),ds.length<=Rows.uptoBulkAll ds
 |[]=>by simp
 |d::ds=>by
  have h1:=KN d;have h2:=wH ds;simp only[Rows.uptoBulkAll,List.length_cons];omega
theorem kU{H:Type}(es sp:List (DataW H)):es.length<=Rows.uptoBulk (.slice es sp):=by
 have:=wH es;simp only[Rows.uptoBulk];omega
end Go.Proofs.YtolfphmdmpehdaaGreatDoor
