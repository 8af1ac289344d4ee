/- Spot and Train have one answer. Plain mathematics. And more. -/
import Derived.Test.YtolfphmdmpehdaaGreatDoorZReplaySeeks8
import Derived.Deep.SlicePairs
import Derived.OpenShut
set_option linter.unusedVariables false
set_option maxHeartbeats 8000000
set_option maxRecDepth 100000
open Go.Value (int slice)
open Go.IntKind (i64)
namespace Go.Proofs.YtolfphmdmpehdaaGreatDoor
open Wy
theorem Em{l:List Int}{n:Nat}{p:Int->Bool}{c F c' F':Int}(h:jZ l n p c F)(h':jZ l n p c' F'):c=c'/\F=F':=by
 have no:∀{m k:Nat} {c:Int},(rch l m n)[k]? =some c->p c=true->(rch l m n).any p=false->False:=λhk hp ha=>by
  rw[List.any_eq_false] at ha;exact ha _ (List.mem_of_getElem? hk) hp
 rcases h with⟨e1,e2,h⟩|⟨e1,m,k,hm,hk,hp,ht,hj⟩
 ·rcases h' with⟨f1,f2,h'⟩|⟨f1,m',k',hm',hk',hp',ht',hj'⟩
  ·exact⟨by rw[e2,f2],by rw[e1,f1]⟩
  ·exact(no hk' hp' (h m' hm')).elim
 ·rcases h' with⟨f1,f2,h'⟩|⟨f1,m',k',hm',hk',hp',ht',hj'⟩
  ·exact(no hk hp (h' m hm)).elim
  ·have em:m=m':=by
    rcases Nat.lt_trichotomy m m' with hl|hl|hl
    ·exact(no hk hp (hj' m hl)).elim
    ·exact hl
    ·exact(no hk' hp' (hj m' hl)).elim
   subst em;have ek:k=k':=by
    rcases Nat.lt_trichotomy k k' with hl|hl|hl
    ·rw[List.any_eq_false] at ht'
     exact(ht' c (List.mem_of_getElem? (by rw[List.getElem?_take,if_pos hl];exact hk)) hp).elim
    ·exact hl
    ·rw[List.any_eq_false] at ht
     exact(ht c' (List.mem_of_getElem? (by rw[List.getElem?_take,if_pos hl];exact hk')) hp').elim
   subst ek;rw[hk] at hk';injection hk' with e
   exact⟨e,by rw[e1,f1]⟩
theorem qy{p:aB->Bool}{us:List aB}{i:Nat}(h:jy p us (i:Nat)):∃x,us[i]? =some x/\p x=true/\(us.take i).any p=false:=by
 rcases h with⟨e,-⟩|⟨k,x,e,h1,h2,h3⟩
 ·omega
 ·obtain rfl:i=k:=by omega
  exact⟨x,h1,h2,h3⟩
theorem Eo{p:aB->Bool}{us:List aB}{i j:Nat}(h:jy p us (i:Nat))(k:jy p us (j:Nat)):i=j:=by
 obtain⟨x,x1,x2,x3⟩:=qy h;obtain⟨y,y1,y2,y3⟩:=qy k;rcases Nat.lt_trichotomy i j with hl|hl|hl
 ·rw[List.any_eq_false] at y3
  exact(y3 x (List.mem_of_getElem? (by rw[List.getElem?_take,if_pos hl];exact x1)) x2).elim
 ·exact hl
 ·rw[List.any_eq_false] at x3
  exact(x3 y (List.mem_of_getElem? (by rw[List.getElem?_take,if_pos hl];exact y1)) y2).elim
theorem r_{ks:List KV}{X:WV}{unit kind c F c' F':Int}(h:j_ ks X unit kind c F)(h':j_ ks X unit kind c' F'):c=c'/\F=F':=by
 have last:∀{c F:Int},(∃(i kn Wn Hn an:Nat) (u:aB) (k:KV) (l:List Int),jy (λu=>u.id==unit) X.us (i:Nat)/\X.us[i]? =some u/\kind=(kn:Nat)/\ks[kn]? =some k/\X.wide=(Wn:Nat)/\X.high=(Hn:Nat)/\Fd.Good Wn Hn X.gs X.os/\u.at_=(an:Nat)/\an<Wn*Hn
  /\Wy.cO (Fd.near Wn Hn) (λi _=>(X.gs.map λg=>Fd.onto g k.f).getD i 0) an (Wn*Hn) l/\jZ l (Wn*Hn) (yj X.us) c F)->X.us.any (λu=>u.id==unit)=true/\(0<=kind/\kind<(ks.length:Int)):=by
  rintro c F ⟨i,kn,Wn,Hn,an,u,k,l,h1,h2,h3,h4,-⟩;obtain⟨x,x1,x2,-⟩:=qy h1;refine⟨List.any_eq_true.2 ⟨x,List.mem_of_getElem? x1,x2⟩,by omega,?_⟩;have:=(List.getElem?_eq_some_iff.1 h4).1;omega
 rcases h with⟨a1,a2,a3⟩|⟨a1,a2,a3,a4⟩|⟨a1,a2,a3,a4,a5⟩|⟨a1,a⟩
 ·rcases h' with⟨b1,b2,b3⟩|⟨b1,-⟩|⟨b1,-⟩|⟨b1,-⟩
  ·exact⟨by rw[a3,b3],by rw[a2,b2]⟩
  all_goals exact absurd b1 a1
 ·rcases h' with⟨b1,b2,b3⟩|⟨b1,b2,b3,b4⟩|⟨b1,b2,b3,b4,b5⟩|⟨b1,b⟩
  ·exact absurd a1 b1
  ·exact⟨by rw[a4,b4],by rw[a3,b3]⟩
  ·rw[a2] at b2;cases b2
  ·have:=(last b).1;rw[a2] at this;cases this
 ·rcases h' with⟨b1,b2,b3⟩|⟨b1,b2,b3,b4⟩|⟨b1,b2,b3,b4,b5⟩|⟨b1,b⟩
  ·exact absurd a1 b1
  ·rw[a2] at b2;cases b2
  ·exact⟨by rw[a5,b5],by rw[a4,b4]⟩
  ·exact absurd (last b).2 a3
 ·rcases h' with⟨b1,b2,b3⟩|⟨b1,b2,b3,b4⟩|⟨b1,b2,b3,b4,b5⟩|⟨b1,b⟩
  ·exact absurd a1 b1
  ·have:=(last a).1;rw[b2] at this;cases this
  ·exact absurd (last a).2 b3
  ·obtain⟨i,kn,Wn,Hn,an,u,k,l,h1,h2,h3,h4,h5,h6,-,h8,-,h10,h11⟩:=a
   obtain⟨i',Zi,Xe,Xf,Xg,u',k',l',g1,g2,g3,g4,g5,g6,-,g8,-,g10,g11⟩:=b;obtain rfl:=Eo h1 g1;rw[h2] at g2;injection g2 with e
   subst e;obtain rfl:kn=Zi:=by omega
   rw[h4] at g4;injection g4 with e
   subst e;obtain rfl:Wn=Xe:=by omega
   obtain rfl:Hn=Xf:=by omega
   obtain rfl:an=Xg:=by omega
   obtain rfl:=Wy.cO.uniq h10 g10;exact Em h11 g11
theorem Ep{ks:List KV}{Y:WV}{j:aS}{c c':Int}(h:Comes ks Y j c)(h':Comes ks Y j c'):c=c':=(r_ h.1 h'.1).1
theorem su{ks:List KV}{Y:WV}{j:aS}{c:Int}(h:Comes ks Y j c)(h':lG ks Y j):False:=by
 obtain⟨c',F,h1,h2⟩:=h';obtain⟨rfl,rfl⟩:=r_ h.1 h1;rcases h2 with h2|h2
 ·exact h2 rfl
 ·exact h2 h.2
theorem Oo{ks:List KV}{X:WV}{q:Nat}{Y:WV}{es:List bZ}{qs:List aS}(t:Tr ks X q Y es qs):∀{Y':WV} {es':List bZ} {DV:List aS},Tr ks X q Y' es' DV->Y=Y'/\es=es'/\qs=DV:=by
 induction t with
 |zero=>intro Y' es' DV t';cases t';exact⟨rfl,rfl,rfl⟩
 | @wait q Y es qs j t0 ho hl ih=>
  intro Y' es' DV t';cases t' with
  |wait t1 ho1 hl1=>
   rw[ho] at ho1;injection ho1 with e;subst e
   obtain⟨rfl,rfl,rfl⟩:=ih t1;exact⟨rfl,rfl,rfl⟩
  |come t1 ho1 hl1 _=>rw[ho] at ho1;injection ho1 with e;subst e;exact absurd hl1 hl
  |stay t1 ho1 hl1 _=>rw[ho] at ho1;injection ho1 with e;subst e;exact absurd hl1 hl
 | @come q Y es qs j c t0 ho hl hc ih=>
  intro Y' es' DV t';cases t' with
  |wait t1 ho1 hl1=>rw[ho] at ho1;injection ho1 with e;subst e;exact absurd hl hl1
  |come t1 ho1 hl1 hc1=>
   rw[ho] at ho1;injection ho1 with e;subst e
   obtain⟨rfl,rfl,rfl⟩:=ih t1;obtain rfl:=Ep hc hc1;exact⟨rfl,rfl,rfl⟩
  |stay t1 ho1 hl1 hn=>
   rw[ho] at ho1;injection ho1 with e;subst e
   obtain⟨rfl,rfl,rfl⟩:=ih t1;exact(su hc hn).elim
 | @stay q Y es qs j t0 ho hl hn ih=>
  intro Y' es' DV t';cases t' with
  |wait t1 ho1 hl1=>rw[ho] at ho1;injection ho1 with e;subst e;exact absurd hl hl1
  |come t1 ho1 hl1 hc1=>
   rw[ho] at ho1;injection ho1 with e;subst e
   obtain⟨rfl,rfl,rfl⟩:=ih t1;exact(su hc1 hn).elim
  |stay t1 ho1 hl1 _=>
   rw[ho] at ho1;injection ho1 with e;subst e
   obtain⟨rfl,rfl,rfl⟩:=ih t1;exact⟨rfl,rfl,rfl⟩
open Go.RowKit
theorem qA{ks:List KV}{X:WV}{Wn Hn:Nat}{k:KV}{i:Nat}{us us':List aB}{left:Int}{cells:List Int}(h:Goes ks X Wn Hn k i us left cells us'):∃(u:aB) (c:Nat) (gg:Int),us[i]? =some u/\fM ks {X with us:=us} Wn Hn u k c/\X.gs[c]? =some gg/\
 (((left<Fd.onto gg k.f\/us.any (λo=>o.at_==(c:Int))=true)/\cells=[]/\us'=us)\/(¬left<Fd.onto gg k.f/\us.any (λo=>o.at_==(c:Int))=false/\∃cells',cells=(c:Int)::cells'/\Goes ks X Wn Hn k i (us.set i {u with at_:=(c:Nat)}) (left-Fd.onto gg k.f) cells' us')):=by
 cases h with
 |stop hu hw hg h=>exact⟨_,_,_,hu,hw,hg,.inl ⟨h,rfl,rfl⟩⟩
 |step hu hw hg h1 h2 h3=>exact⟨_,_,_,hu,hw,hg,.inr ⟨h1,h2,_,rfl,h3⟩⟩
theorem nR{ks:List KV}{X:WV}{Wn Hn n:Nat}{us us':List aB}{evs:List bZ}(h:Moves ks X Wn Hn n us evs us'):(n=us.length/\evs=[]/\us'=us)\/∃(u u1:aB) (k:KV) (cells:List Int) (us1:List aB) (nT:List bZ),us[n]? =some u/\ks[u.kind.toNat]? =some k/\Goes ks X Wn Hn k n us k.n4 cells us1/\us1[n]? =some u1/\Moves ks X Wn Hn (n+1) (us1.set n (ends u1)) nT us'/\evs=cells.map (λc=>(⟨1,u.id,c⟩:bZ))++nT:=by
 cases h with
 |done h=>exact .inl ⟨h,rfl,rfl⟩
 |unit hu hk hg h1 hm=>exact .inr ⟨_,_,_,_,_,_,hu,hk,hg,h1,hm,rfl⟩
theorem JX{ks:List KV}{X:WV}{Wn Hn:Nat}{u:aB}{k:KV}{c c':Int}(h:iW ks X Wn Hn u k c)(h':iW ks X Wn Hn u k c'):c=c':=by
 rcases h with⟨h1,h2⟩|⟨h1,h2,h3⟩|⟨h1,h2,l,h3,h4⟩
 ·rcases h' with⟨g1,g2⟩|⟨g1,-⟩|⟨g1,-⟩
  ·rw[h2,g2]
  ·exact absurd h1 g1
  ·omega
 ·rcases h' with⟨g1,g2⟩|⟨g1,g2,g3⟩|⟨g1,g2,-⟩
  ·exact absurd g1 h1
  ·rw[h3,g3]
  ·exact absurd ⟨g1,g2⟩ h2
 ·rcases h' with⟨g1,g2⟩|⟨g1,g2,g3⟩|⟨g1,g2,l',g3,g4⟩
  ·omega
  ·exact absurd ⟨h1,h2⟩ g2
  ·have:l=l':=h3.1.uniq g3.1
   subst this;rw[h4,g4]
theorem sD{ks:List KV}{X:WV}{Wn Hn:Nat}{u:aB}{k:KV}{c c':Nat}(h:fM ks X Wn Hn u k c)(h':fM ks X Wn Hn u k c'):c=c':=by
 obtain⟨an,bn,l,h1,h2,-,h3,h4⟩:=h;obtain⟨Xg,Zj,l',g1,g2,-,g3,g4⟩:=h';obtain rfl:an=Xg:=by omega
 obtain rfl:bn=Zj:=by have:=JX h2 g2;omega
 have:l=l':=h3.1.uniq g3.1;subst this;rcases h4 with⟨h4,h5⟩|⟨h4,h5⟩
 ·rcases g4 with⟨g4,g5⟩|⟨g4,-⟩
  ·rw[h5,g5]
  ·omega
 ·rcases g4 with⟨g4,-⟩|⟨-,g5⟩
  ·omega
  ·exact h5.uniq g5
theorem Es{ks:List KV}{X:WV}{Wn Hn:Nat}{k:KV}{i:Nat}{us us':List aB}{left:Int}{cells:List Int}(h:Goes ks X Wn Hn k i us left cells us'):∀{cells2:List Int} {us2:List aB},Goes ks X Wn Hn k i us left cells2 us2->cells=cells2/\us'=us2:=by
 induction h with
 |stop hu hw hg h=>
  intro cells2 us2 h';obtain⟨u',c',XD,hu',hw',hg',hh⟩:=qA h';rw[hu] at hu';injection hu' with hu'
  subst hu';obtain rfl:=sD hw hw';rw[hg] at hg';injection hg' with hg'
  subst hg';rcases hh with⟨-,h1,h2⟩|⟨h1,h2,-⟩
  ·exact⟨h1.symm,h2.symm⟩
  ·rcases h with h|h
   ·exact absurd h h1
   ·rw[h] at h2;cases h2
 |step hu hw hg h1 h2 h3 ih=>
  intro cells2 us2 h';obtain⟨u',c',XD,hu',hw',hg',hh⟩:=qA h';rw[hu] at hu';injection hu' with hu'
  subst hu';obtain rfl:=sD hw hw';rw[hg] at hg';injection hg' with hg'
  subst hg';rcases hh with⟨g1,-⟩|⟨-,-,cells',g1,g2⟩
  ·rcases g1 with g1|g1
   ·exact absurd g1 h1
   ·rw[h2] at g1;cases g1
  ·obtain⟨e1,e2⟩:=ih g2
   exact⟨by rw[g1,e1],e2⟩
theorem zq{ks:List KV}{X:WV}{Wn Hn n:Nat}{us us':List aB}{evs:List bZ}(h:Moves ks X Wn Hn n us evs us'):∀{qP:List bZ} {us2:List aB},Moves ks X Wn Hn n us qP us2->evs=qP/\us'=us2:=by
 induction h with
 |done h=>
  intro qP us2 h';rcases nR h' with⟨-,h1,h2⟩|⟨u,u1,k,cells,us1,nT,hu,-⟩
  ·exact⟨h1.symm,h2.symm⟩
  ·have:=(List.getElem?_eq_some_iff.1 hu).1
   omega
 |unit hu hk hg h1 hm ih=>
  intro qP us2 h';rcases nR h' with⟨h2,-⟩|⟨u',u1',k',cells',us1',nT,hu',hk',hg',h1',hm',he⟩
  ·have:=(List.getElem?_eq_some_iff.1 hu).1
   omega
  ·rw[hu] at hu'
   injection hu' with hu'
   subst hu';rw[hk] at hk';injection hk' with hk'
   subst hk';obtain⟨e1,e2⟩:=Es hg hg';subst e1;subst e2;rw[h1] at h1';injection h1' with h1'
   subst h1';obtain⟨e3,e4⟩:=ih hm';exact⟨by rw[he,e3],e4⟩
end Go.Proofs.YtolfphmdmpehdaaGreatDoor
namespace Go.Proofs.YtolfphmdmpehdaaGreatDoor
open Go.RowKit Go.Proofs.YtolfphmdmpehdaaGreatDoor.So
theorem Oq{ks:List KV}{Wn Hn:Nat}{A:WV}{n:Nat}{Y:WV}{es:List bZ}(p:Ph ks Wn Hn A n Y es):∀{Y':WV} {es':List bZ},Ph ks Wn Hn A n Y' es'->Y=Y'/\es=es':=by
 induction p with
 |zero=>intro Y' es' q;cases q;exact⟨rfl,rfl⟩
 |one t=>
  intro Y' es' q;cases q with
  |one t'=>obtain⟨rfl,rfl,rfl⟩:=Oo t t';exact⟨rfl,rfl⟩
 |two p0 m ih=>
  intro Y' es' q;cases q with
  |two q0 m'=>
   obtain⟨rfl,rfl⟩:=ih q0;obtain⟨rfl,rfl⟩:=zq m m';exact⟨rfl,rfl⟩
 |three p0 ih=>
  intro Y' es' q;cases q with
  |three q0=>obtain⟨rfl,rfl⟩:=ih q0;exact⟨rfl,rfl⟩
 |four p0 ih=>
  intro Y' es' q;cases q with
  |four q0=>obtain⟨rfl,rfl⟩:=ih q0;exact⟨rfl,rfl⟩
theorem Et{ks:List KV}{X:WV}{l:List aQ}{Y Y':WV}{es es':List bZ}(h:wI ks X l Y es)(h':wI ks X l Y' es'):Y=Y'/\es=es':=by
 obtain⟨out,Wn,Hn,Z,a1,a2,a3,a4,rfl⟩:=h;obtain⟨out',Xe,Xf,Z',b1,b2,b3,b4,rfl⟩:=h';obtain rfl:=a1.one b1;obtain rfl:Wn=Xe:=by omega
 obtain rfl:Hn=Xf:=by omega
 obtain⟨rfl,rfl⟩:=Oq a4 b4;exact⟨rfl,rfl⟩
theorem sF{ks:List KV}{X:WV}{ls:List (List aQ)}{n:Nat}{Y:WV}(h:dF ks X ls n Y):∀{Y':WV},dF ks X ls n Y'->Y=Y':=by
 induction h with
 |zero=>intro Y' k;cases k;rfl
 |turn p hl hf hs ih=>
  intro Y' k;cases k with
  |turn p' hl' hf' hs'=>
   obtain rfl:=ih p';rw[hl] at hl';injection hl' with e
   subst e;exact(Et hs hs').1
theorem sG{ks:List KV}{X:WV}{ls ms:List (List aQ)}{n:Nat}{Y:WV}(h:dF ks X ls n Y):(∀i,i<n->ls[i]? =ms[i]?)->dF ks X ms n Y:=by
 induction h with
 |zero=>intro _;exact .zero
 | @turn n Y Z l es p hl hf hs ih=>intro e;exact .turn (ih (λi hi=>e i (by omega))) (by rw[<-e n (by omega)];exact hl) hf hs
theorem Eu{ks:List KV}{X:WV}{ls:List (List aQ)}{n:Nat}{Y:WV}(h:dF ks X ls n Y):∀m,m<=n->∃Z,dF ks X ls m Z/\(m<n->∃l,ls[m]? =some l/\bM ks Z l=0):=by
 induction h with
 |zero=>intro m hm;obtain rfl:m=0:=by omega
        exact⟨X,.zero,λh=>absurd h (Nat.lt_irrefl _)⟩
 | @turn n Y Z l es p hl hf hs ih=>
   intro m hm;by_cases e:m=n+1
   ·subst e
    exact⟨Z,.turn p hl hf hs,λh=>absurd h (Nat.lt_irrefl _)⟩
   ·by_cases e2:m=n
    ·subst e2
     exact⟨Y,p,λ_=>⟨l,hl,hf⟩⟩
    ·obtain⟨W,h1,h2⟩:=ih m (by omega)
     exact⟨W,h1,λ_=>h2 (by omega)⟩
theorem zx{ks:List KV}{X:WV}{l:List aQ}{Y:WV}{es:List bZ}(hf:bM ks X l=0)(h:wI ks X l Y es):Wd.aG ks Y=0/\Y.turn=X.turn+1:=by
 have hw:Wd.aG ks X=0:=by
  by_cases e:Wd.aG ks X=0
  ·exact e
  ·rw[zn e] at hf;exact absurd hf e
 have ht:¬1000000<=X.turn:=λe=>by rw[JQ hw e] at hf;cases hf
 have ho:Od.faults l=0:=by rw[zo hw ht] at hf;exact hf
 have R:=bF hw;obtain⟨out,Wn,Hn,Z,a1,a2,a3,a4,rfl⟩:=h;obtain⟨g1,g2,g3⟩:=uz (ks:=ks) (Y:=X) (out:=out) out.length;have AR:=oL R (out:=out) (λo h=>(Od.jo ho).2 o (a1.mem h)) out.length;obtain⟨r,-,-,t,-⟩:=a4.keep AR (by rw[g2,a2]) (by rw[g3,a3]);have tx:Z.turn=X.turn:=t.trans g1;refine⟨?_,by show Z.turn+1=_;rw[tx]⟩;obtain⟨W',H',e1,e2,G⟩:=r.good;refine Wd.dX r.kinds (by show Fd.fault Z.wide Z.high Z.gs Z.os=0;rw[e1,e2];exact Fd.dL G) ?_ r.ul (λi u hu=>?_) r.ql (λj hj=>r.job hj)
 ·have hn:=r.nums
  unfold Wd.aZ at hn ⊢;simp only[Bool.or_eq_false_iff] at hn ⊢;refine⟨?_,hn.2⟩;have h1:=hn.1;unfold Wd.off at h1 ⊢;simp at h1 ⊢;omega
 ·obtain⟨k,F⟩:=r.fine hu
  exact⟨k,F.id1,F.id2,F.up,F.p,F.k0,F.kk,F.life,F.load,F.task,F.at_,F.goal,F.opn,F.rest⟩
theorem g_{ks:List KV}{X:WV}{ls:List (List aQ)}{n:Nat}{Y:WV}(hw:Wd.aG ks X=0)(h:dF ks X ls n Y):Wd.aG ks Y=0/\Y.turn=X.turn+(n:Int):=by
 induction h with
 |zero=>exact⟨hw,by simp⟩
 |turn p hl hf hs ih=>
  obtain⟨s1,s2⟩:=zx hf hs;exact⟨s1,by rw[s2,ih.2];omega⟩
theorem zy{ks:List KV}{X:WV}(hw:Wd.aG ks X=0)(ht:X.turn<1000000):bM ks X []=0:=by
 rw[zo hw (by omega)];rfl
theorem wO{ks:List KV}{X:WV}{ls:List (List aQ)}{Y:WV}(h:dF ks X ls ls.length Y){c:Nat}(hc:c<=ls.length){n:Nat}{Z:WV}{l:List aQ}(p:dF ks X (ls.take c) n Z)(hl:(ls.take c)[n]? =some l):bM ks Z l=0:=by
 have hn:n<c:=by
  have:=(List.getElem?_eq_some_iff.1 hl).1;rw[List.length_take] at this;omega
 obtain⟨W,w1,w2⟩:=Eu h n (by omega);have p':dF ks X ls n Z:=sG p (λi hi=>by rw[List.getElem?_take,if_pos (by omega)]);obtain rfl:=sF w1 p';obtain⟨l',e,f⟩:=w2 (by omega);rw[List.getElem?_take,if_pos hn,e] at hl;injection hl with hl
 subst hl;exact f
theorem AY{r:Value}(h:Er r 0):r=.nilIface:=by
 rcases h with⟨-,h⟩|⟨h,-⟩
 ·exact h
 ·exact absurd rfl h
end Go.Proofs.YtolfphmdmpehdaaGreatDoor
namespace Go.Proofs.YtolfphmdmpehdaaGreatDoor
open Go.ChangeShapes Go.WideShapes Go.ChangeAt Go.RowKit
theorem Ew:∃f0 f1 f2 f3:Field,Tryz.prog.underlying 96=some (.struct #[f0,f1,f2,f3])/\
 f0.offset=0/\f0.type=3/\f1.offset=1/\f1.type=3/\f2.offset=2/\f2.type=3/\f3.offset=3/\f3.type=3:=⟨_,_,_,_,Tryz.underlying96,rfl,rfl,rfl,rfl,rfl,rfl,rfl,rfl⟩
theorem Ot{H:Type}{enc:TypeId×Value->H}{W:World}{base:Nat}{held:Bool}{fuel:Nat}{cs:List Value}{y:DataW H×List MemPlace}(h:DataW.trod enc Tryz.prog W base (λ_=>true) held fuel 96 cs=some y):
 ∃k:aQ,cs=[.int .i64 k.ay,.int .i64 k.unit,.int .i64 k.what,.int .i64 k.arg]/\True:=by
 obtain⟨f0,f1,f2,f3,he,o0,t0,o1,t1,o2,t2,o3,t3⟩:=Ew;obtain⟨xs,m,-,-,hlen,hxl,hf⟩:=DataW.trod_struct he h;have qB:Tryz.prog.cellsOf 3=1:=by kernel_rfl
 have uI:Tryz.prog.cellsOf 96=4:=by kernel_rfl
 rw[uI] at hlen
 match cs,hlen with
 |[v0,v1,v2,v3],_=>
  have hx:xs.length=4:=hxl
  match xs,hx with
  |[x0,x1,x2,x3],_=>
   have g0:=hf 0 f0 rfl;rw[o0,t0,qB] at g0;have g1:=hf 1 f1 rfl;rw[o1,t1,qB] at g1;have g2:=hf 2 f2 rfl;rw[o2,t2,qB] at g2;have g3:=hf 3 f3 rfl;rw[o3,t3,qB] at g3;obtain⟨m0,e0,-,-⟩:=DataW.trod_int Tryz.underlying3 g0;obtain⟨m1,e1,-,-⟩:=DataW.trod_int Tryz.underlying3 g1;obtain⟨m2,e2,-,-⟩:=DataW.trod_int Tryz.underlying3 g2;obtain⟨m3,e3,-,-⟩:=DataW.trod_int Tryz.underlying3 g3;simp at e0 e1 e2 e3;subst e0 e1 e2 e3;exact⟨⟨m0,m1,m2,m3⟩,rfl,trivial⟩
theorem JY{H:Type}{enc:TypeId×Value->H}{W:World}{base:Nat}{held:Bool}{fuel:Nat}{v:Value}{y:DataW H×List MemPlace}(h:DataW.trod enc Tryz.prog W base (λ_=>true) held fuel 61 [v]=some y):
 ∃ks:List aQ,B_ W v ks/\∀k∈ks,True:=by
 have uI:Tryz.prog.cellsOf 96=4:=by kernel_rfl
 rcases Go.Deep.open_slice Tryz.underlying61 h with⟨hcs,-⟩|⟨a,len,cap,m,q,D,Pl,hcs,hb,hl,hm,hmm,-,hx⟩
 ·simp at hcs
  subst hcs;exact⟨[],⟨none,0,rfl,Nat.le_refl _,by omega,λh=>absurd rfl h⟩,by simp⟩
 ·simp at hcs
  subst hcs;have hlm:len<=m:=by rw[hmm];simp;exact hl
  have each:∀i,i<len->∃k:aQ,kZ W (a.add (i*4)) k/\(True):=by
   intro i hi;obtain⟨cs',h1,h2⟩:=hx i (by omega);obtain⟨k,rfl,hk⟩:=Ot h2;rw[uI] at h1;obtain⟨-,-,hcell⟩:=World.cells?_some h1;refine⟨k,?_,hk⟩;generalize a.add (i*4)=y at *;exact⟨hcell 0 (by decide),hcell 1 (by decide),hcell 2 (by decide),hcell 3 (by decide)⟩
  have inh:Inhabited aQ:=⟨⟨0,0,0,0⟩⟩;obtain⟨q,hq⟩:=Go.Deep.choose_lt each;refine⟨(List.range len).map q,⟨some a,cap,by simp,by simpa using hl,by unfold maxLen at hm;omega,λhn=>⟨a,rfl,?_,λi k hk=>?_⟩⟩,?_⟩
  ·have h0:0<len:=by
    rcases Nat.eq_zero_or_pos len with h|h
    ·subst h;simp at hn
    ·exact h
   have:=(hq 0 h0).1.lt;rwa[add_block] at this
  ·have hi:i<len:=by
    have:=(List.getElem?_eq_some_iff.1 hk).1;simpa using this
   rw[List.getElem?_map,List.getElem?_range hi] at hk;injection hk with hk
   subst hk;exact(hq i hi).1
  ·intro k hk
   obtain⟨i,hi,rfl⟩:=List.mem_map.1 hk;exact(hq i (List.mem_range.1 hi)).2
theorem Ey{H:Type}{enc:TypeId×Value->H}{W:World}{base:Nat}{held:Bool}{fuel:Nat}{v:Value}{y:DataW H×List MemPlace}(h:DataW.trod enc Tryz.prog W base (λ_=>true) held fuel 30 [v]=some y):
 ∃ls:List (List aQ),wL W v ls:=by
 have uI:Tryz.prog.cellsOf 61=1:=by kernel_rfl
 rcases Go.Deep.open_slice Tryz.underlying30 h with⟨hcs,-⟩|⟨a,len,cap,m,q,D,Pl,hcs,hb,hl,hm,hmm,-,hx⟩
 ·simp at hcs
  subst hcs;exact⟨[],⟨none,0,rfl,Nat.le_refl _,by omega,λh=>absurd rfl h⟩⟩
 ·simp at hcs
  subst hcs;have hlm:len<=m:=by rw[hmm];simp;exact hl
  have each:∀i,i<len->∃l:List aQ,∃u,W.cell? (a.add i)=some u/\B_ W u l:=by
   intro i hi;obtain⟨cs',h1,h2⟩:=hx i (by omega);rw[uI] at h1;rw[Nat.mul_one] at h1;obtain⟨-,hlen,hcell⟩:=World.cells?_some h1
   match cs',hlen with
   |[u],_=>
    obtain⟨l,hl',-⟩:=JY h2;exact⟨l,u,hcell 0 (by decide),hl'⟩
  have inh:Inhabited (List aQ):=⟨[]⟩;obtain⟨q,hq⟩:=Go.Deep.choose_lt each;refine⟨(List.range len).map q,⟨some a,cap,by simp,by simpa using hl,by unfold maxLen at hm;omega,λhn=>⟨a,rfl,?_,λi k hk=>?_⟩⟩⟩
  ·have h0:0<len:=by
    rcases Nat.eq_zero_or_pos len with h|h
    ·subst h;simp at hn
    ·exact h
   obtain⟨u,h1,-⟩:=hq 0 h0;have:=cell_lt h1;rwa[add_block] at this
  ·have hi:i<len:=by
    have:=(List.getElem?_eq_some_iff.1 hk).1;simpa using this
   rw[List.getElem?_map,List.getElem?_range hi] at hk;injection hk with hk
   subst hk;exact hq i hi
theorem Ou{H:Type}{enc:TypeId×Value->H}{W:World}{base b0:Nat}{held:Bool}{v:Value}{d:DataW H}{p:List MemPlace}(hv:Value.okWide Tryz.prog W .any b0 30 v)(h:DataW.Trod enc Tryz.prog W base (λ_=>true) held 30 v d p):∃ls:List (List aQ),wL W v ls:=by
 obtain⟨a,len,cap,rfl⟩:=okWide_slice Tryz.underlying30 hv;obtain⟨fuel,hf⟩:=h;exact Ey hf
theorem wL.take{w:World}{a:Option Addr}{n c:Nat}{ls:List (List aQ)}(h:wL w (slice a n c) ls){k:Nat}(hk:k<=ls.length):wL w (slice a k c) (ls.take k):=by
 obtain⟨a',c',e,h2,h3,h4⟩:=h;injection e with e1 e2 e3
 subst e1 e3;have hl:(ls.take k).length=k:=by rw[List.length_take];omega
 refine⟨a,c,by rw[hl],by omega,h3,λhn=>?_⟩;obtain⟨x,ex,hx,hy⟩:=h4 (by rintro rfl;simp at hn);refine⟨x,ex,hx,λi l hi=>hy i l ?_⟩;rw[List.getElem?_take] at hi;split at hi
 ·exact hi
 ·cases hi
theorem wL.sl{w:World}{a:Option Addr}{c n L:Nat}{ls:List (List aQ)}(h:wL w (slice a L c) ls)(hn:n<=ls.length):wL w (sliced a n L c 1) (ls.drop n):=by
 obtain⟨a',c',e,h1,h2,h3⟩:=h;injection e with e1 e2 e3
 subst e1 e3 e2;unfold sliced;refine⟨_,_,by rw[List.length_drop],by rw[List.length_drop];omega,by omega,λhne=>?_⟩;have hnl:n<ls.length:=by
  rcases Nat.lt_or_ge n ls.length with h|h
  ·exact h
  ·exact absurd (List.drop_eq_nil_of_le h) hne
 obtain⟨x,rfl,hx1,hx2⟩:=h3 (by rintro rfl;simp at hnl);refine⟨x.add n,?_,by rw[add_block];exact hx1,λi l hk=>?_⟩
 ·simp
  intro hc;omega
 ·rw[List.getElem?_drop] at hk
  obtain⟨u,c1,c2⟩:=hx2 (n+i) l hk;have e:(x.add n).add i=x.add (n+i):=by
   unfold Addr.add;split<;>split<;>split<;>simp_all<;>omega
  rw[e];exact⟨u,c1,c2⟩
end Go.Proofs.YtolfphmdmpehdaaGreatDoor
namespace Go.Proofs.YtolfphmdmpehdaaGreatDoor
open Go.RowKit
namespace Wd
def bare(wd hg:Int)(gs os:List Int):WV:=⟨0,1,wd,hg,gs,os,[],[],[]⟩
def eH(ks:List KV)(wd hg:Int)(gs os:List Int)(mP gold:Int):Int:=if ground ks (bare wd hg gs os)=0 then(if(1<=mP/\mP<=4)/\0<=gold/\gold<=1000000 then 0 else 1) else ground ks (bare wd hg gs os)
def begun(ks:List KV)(wd hg:Int)(gs os:List Int)(mP gold:Int):WV:=if eH ks wd hg gs os mP gold=0 then⟨0,1,wd,hg,gs,os,List.replicate mP.toNat gold,[],[]⟩ else WV.zero
end Wd
theorem nG{ks:List KV}{wd hg:Int}{gs os:List Int}{mP gold:Int}(h:Wd.eH ks wd hg gs os mP gold≠0):Wd.begun ks wd hg gs os mP gold=WV.zero:=by unfold Wd.begun;rw[if_neg h]
theorem wP{ks:List KV}{wd hg:Int}{gs os:List Int}{mP gold:Int}(h:Wd.eH ks wd hg gs os mP gold=0):Wd.begun ks wd hg gs os mP gold=⟨0,1,wd,hg,gs,os,List.replicate mP.toNat gold,[],[]⟩:=by unfold Wd.begun;rw[if_pos h]
structure Bx(w:World)(z:Nat)(wd hg:Int)(u1 u2:Value):Prop where
 c0:w.cell? ⟨z,0,none⟩=some (int i64 wd)
 c1:w.cell? ⟨z,1,none⟩=some (int i64 hg)
 c2:w.cell? ⟨z,2,none⟩=some u1
 c3:w.cell? ⟨z,3,none⟩=some u2
theorem Bx.lt{w:World}{z:Nat}{wd hg:Int}{u1 u2:Value}(h:Bx w z wd hg u1 u2):z<w.heap.size:=cell_lt h.c0
theorem Bx.below{w w':World}{z n:Nat}{wd hg:Int}{u1 u2:Value}(h:Bx w z wd hg u1 u2)(hb:Below n w w')(hn:z<n):Bx w' z wd hg u1 u2:=
 ⟨by rw[hb.cell (p:=⟨z,0,none⟩) hn];exact h.c0,by rw[hb.cell (p:=⟨z,1,none⟩) hn];exact h.c1,by rw[hb.cell (p:=⟨z,2,none⟩) hn];exact h.c2,by rw[hb.cell (p:=⟨z,3,none⟩) hn];exact h.c3⟩
theorem Bx.mk'{w:World}{z:Nat}(wd hg:Int)(u1 u2:Value)(hz:w.heap.size=z):Bx (w.alloc (.cells #[int i64 wd,int i64 hg,u1,u2] 25)) z wd hg u1 u2:=by
 subst hz;constructor<;>simp
theorem new_any(vk vf:Value)(ks:List KV)(wd hg:Int)(gs os:List Int)(mP gold:Int)(w:World)(hk:Kl w vk ks)(hb:∀k∈ks,k.b.size<=9223372036854775807)(hf:Fl w vf wd hg gs os):
 Calls Tryz.prog 38 #[vk,vf,int i64 mP,int i64 gold] w λe w'=>∃u r,e=.returned (.tuple #[u,r])/\Er r (Wd.eH ks wd hg gs os mP gold)/\Wo w' w.heap.size u (Wd.begun ks wd hg gs os mP gold)/\Below w.heap.size w w':=by
 have K:Hid (Kl w vk ks/\∀k∈ks,k.b.size<=9223372036854775807):=⟨hk,hb⟩;have F:=aj (hf);obtain⟨u1,u2,rfl,r1,r2⟩:=hf;obtain⟨p1,q1,rfl,-⟩:=r1;obtain⟨p2,q2,rfl,-⟩:=r2;clear hb hk;go_enter Tryz.func38,Tryz.ntmps38;go_upto_region 1 with fail
 have B0:Hid (Below _ w ((w.alloc (.cells #[int i64 wd,int i64 hg,slice p1 gs.length q1,slice p2 os.length q2] 25)).alloc (.cells #[int i64 0,int i64 0,int i64 0,int i64 0,slice none 0 0,slice none 0 0,slice none 0 0,slice none 0 0,slice none 0 0] 29))):=((Below.refl _ _).alloc (Nat.le_refl _) _).alloc (by simp) _;have X0:Hid (Bx ((w.alloc _).alloc (.cells #[int i64 0,int i64 0,int i64 0,int i64 0,slice none 0 0,slice none 0 0,slice none 0 0,slice none 0 0,slice none 0 0] 29)) _ wd hg (slice p1 gs.length q1) (slice p2 os.length q2)):=(Bx.mk' _ _ _ _ rfl).below ((Below.refl _ _).alloc (Nat.le_refl _) _) (by simp);have Z0:Hid (Wx ((w.alloc (.cells #[int i64 wd,int i64 hg,slice p1 gs.length q1,slice p2 os.length q2] 25)).alloc _) (w.heap.size+1) (int i64 0) (int i64 0) (int i64 0) (int i64 0) (slice none 0 0) (slice none 0 0) (slice none 0 0) (slice none 0 0) (slice none 0 0)):=Wx.new _ _ _ _ _ _ _ _ _ (by simp);have S0:Hid (w.heap.size+2<=((w.alloc (.cells #[int i64 wd,int i64 hg,slice p1 gs.length q1,slice p2 os.length q2] 25)).alloc (.cells #[int i64 0,int i64 0,int i64 0,int i64 0,slice none 0 0,slice none 0 0,slice none 0 0,slice none 0 0,slice none 0 0] 29)).heap.size):=by unfold Hid;simp
 generalize ((w.alloc _).alloc _)=w0 at *;obtain⟨x0,x1,x2,x3⟩:=X0.out;go_wp2_with fail
 refine(oG _ _ ks (Wd.bare wd hg gs os) w0 (K.out.1.below B0.out) K.out.2 (F.out.below B0.out)).mono ?_;rintro e w1 ⟨r,rfl,hr,hb1⟩;clear x0 x1 x2 x3;have B1:=aj (B0.out.trans (hb1.mono B0.out.size));have X1:=aj (X0.out.below hb1 X0.out.lt);have Z1:=aj (Z0.out.below hb1 Z0.out.lt);have S1:=aj (Nat.le_trans S0.out hb1.size);clear hb1 B0 X0 Z0 S0;rcases hr with⟨hf,rfl⟩|⟨hf,rfl⟩
 case inr=>
  obtain⟨fe,hfe⟩:∃f,Wd.ground ks (Wd.bare wd hg gs os)=f:=⟨_,rfl⟩;have AV:Hid (fe≠0):=by rw[<-hfe];exact hf
  have FE:Hid (Wd.eH ks wd hg gs os mP gold=fe):=by unfold Hid Wd.eH;rw[if_neg hf];exact hfe
  rw[hfe];clear hf hfe;obtain⟨z0,z1,z2,z3,z4,z5,z6,z7,z8⟩:=Z1.out.cells;obtain⟨t0,t1,t2,t3,t4,t5,t6,t7,t8⟩:=Z1.out.aU;have KZ:=aj (dG w1 (w.heap.size+1));obtain⟨y0,y1,y2,y3,y4,y5,y6,y7,y8⟩:=(Z1.out.jT).cells;go_wp2;clear z0 z1 z2 z3 z4 z5 z6 z7 z8 t0 t1 t2 t3 t4 t5 t6 t7 t8;generalize World.setCell _ ⟨_,8,none⟩ _=w9 at *;refine bodyPost_ret (v:=.tuple #[.agg #[int i64 0,int i64 0,int i64 0,int i64 0,slice none 0 0,slice none 0 0,slice none 0 0,slice none 0 0,slice none 0 0],.iface 85 (int i64 fe)]) (by simp[results,Tryz.results38,go_sem,y0,y1,y2,y3,y4,y5,y6,y7,y8]) rfl ⟨_,_,rfl,by rw[FE.out];exact Er.no AV.out,by rw[nG (by rw[FE.out];exact AV.out)];exact kJ _ _,KZ.out.below B1.out B1.out.size (by omega)⟩
 have HF:=aj (hf);have NF:Hid (Wd.eH ks wd hg gs os mP gold=if(1<=mP/\mP<=4)/\0<=gold/\gold<=1000000 then 0 else 1):=by unfold Hid Wd.eH;rw[if_pos hf]
 have GL:Hid (gs.length<=144/\os.length<=144):=by
  unfold Wd.ground at hf;split at hf
  ·obtain⟨Wn,Hn,-,-,G⟩:=Fd.kW hf
   have h1:=G.pos;have h2:=G.gl;have h3:=G.ol;unfold Wd.bare at h2 h3;exact⟨by simp only at h2;omega,by simp only at h3;omega⟩
  ·rename_i h0
   exact absurd hf h0
 clear hf;by_cases hp:1<=mP/\mP<=4
 case neg=>
  have t:=decide_eq_false hp;have AV:Hid ((1:Int)≠0):=by unfold Hid;decide
  have FE:Hid (Wd.eH ks wd hg gs os mP gold=1):=by unfold Hid;rw[NF.out,if_neg (λh=>hp h.1)]
  clear hp;go_wp2_with fail
  refine(bH mP 1 4 w1).mono ?_;rintro e w2 ⟨rfl,iR⟩;obtain rfl:=iR.symm;rw[t];clear t;obtain⟨z0,z1,z2,z3,z4,z5,z6,z7,z8⟩:=Z1.out.cells;obtain⟨t0,t1,t2,t3,t4,t5,t6,t7,t8⟩:=Z1.out.aU;have KZ:=aj (dG w1 (w.heap.size+1));obtain⟨y0,y1,y2,y3,y4,y5,y6,y7,y8⟩:=(Z1.out.jT).cells;go_wp2;clear z0 z1 z2 z3 z4 z5 z6 z7 z8 t0 t1 t2 t3 t4 t5 t6 t7 t8;generalize World.setCell _ ⟨_,8,none⟩ _=w9 at *;refine bodyPost_ret (v:=.tuple #[.agg #[int i64 0,int i64 0,int i64 0,int i64 0,slice none 0 0,slice none 0 0,slice none 0 0,slice none 0 0,slice none 0 0],.iface 85 (int i64 1)]) (by simp[results,Tryz.results38,go_sem,y0,y1,y2,y3,y4,y5,y6,y7,y8]) rfl ⟨_,_,rfl,by rw[FE.out];exact Er.no AV.out,by rw[nG (by rw[FE.out];exact AV.out)];exact kJ _ _,KZ.out.below B1.out B1.out.size (by omega)⟩
 have t:=decide_eq_true hp;go_wp2_with fail
 refine(bH mP 1 4 w1).mono ?_;rintro e w2 ⟨rfl,iR⟩;obtain rfl:=iR.symm;rw[t];clear t;by_cases hgd:0<=gold/\gold<=1000000
 case neg=>
  have t:=decide_eq_false hgd;have AV:Hid ((1:Int)≠0):=by unfold Hid;decide
  have FE:Hid (Wd.eH ks wd hg gs os mP gold=1):=by unfold Hid;rw[NF.out,if_neg (λh=>hgd h.2)]
  clear hgd hp;go_wp2_with fail
  refine(bH gold 0 1000000 w1).mono ?_;rintro e w2 ⟨rfl,iR⟩;obtain rfl:=iR.symm;rw[t];clear t;obtain⟨z0,z1,z2,z3,z4,z5,z6,z7,z8⟩:=Z1.out.cells;obtain⟨t0,t1,t2,t3,t4,t5,t6,t7,t8⟩:=Z1.out.aU;have KZ:=aj (dG w1 (w.heap.size+1));obtain⟨y0,y1,y2,y3,y4,y5,y6,y7,y8⟩:=(Z1.out.jT).cells;go_wp2;clear z0 z1 z2 z3 z4 z5 z6 z7 z8 t0 t1 t2 t3 t4 t5 t6 t7 t8;generalize World.setCell _ ⟨_,8,none⟩ _=w9 at *;refine bodyPost_ret (v:=.tuple #[.agg #[int i64 0,int i64 0,int i64 0,int i64 0,slice none 0 0,slice none 0 0,slice none 0 0,slice none 0 0,slice none 0 0],.iface 85 (int i64 1)]) (by simp[results,Tryz.results38,go_sem,y0,y1,y2,y3,y4,y5,y6,y7,y8]) rfl ⟨_,_,rfl,by rw[FE.out];exact Er.no AV.out,by rw[nG (by rw[FE.out];exact AV.out)];exact kJ _ _,KZ.out.below B1.out B1.out.size (by omega)⟩
 have t:=decide_eq_true hgd;have F0:Hid (Wd.eH ks wd hg gs os mP gold=0):=by unfold Hid;rw[NF.out,if_pos ⟨hp,hgd⟩]
 go_wp2_with fail
 refine(bH gold 0 1000000 w1).mono ?_;rintro e w2 ⟨rfl,iR⟩;obtain rfl:=iR.symm;rw[t];clear t;obtain⟨n,rfl⟩:∃n:Nat,mP=n:=⟨mP.toNat,by omega⟩;have hn:0<n/\n<=4:=by omega
 have HN:=aj (hn);clear hp hgd hn;go_wp2_with fail
 have BA:Hid (Below _ w1 (w1.alloc (Obj.cells #[int i64 gold] 3))):=(Below.refl _ _).alloc (Nat.le_refl _) _;have RA:Hid (Ro _ (slice (some ⟨w1.heap.size,0,none⟩) 1 1) [gold]):=Ro.xB gold rfl;generalize (w1.alloc _)=wa at *;refine(rE gold _ n wa RA.out (HN.out.1) (by have:=HN.out.2;omega)).mono ?_;rintro e w2 ⟨b,rfl,-,hbk,hb2⟩;have BW:=aj (BA.out.trans (hb2.mono BA.out.size));have B2:=aj (B1.out.trans (BW.out.mono B1.out.size));have X2:=aj (X1.out.below BW.out X1.out.lt);have Z2:=aj (Z1.out.below BW.out Z1.out.lt);have S2:=aj (Nat.le_trans S1.out BW.out.size);have G2:Hid (Ro w2 (slice (some ⟨b,0,none⟩) n n) (List.replicate n gold)):=by
  unfold Hid;have:=hbk.ro (c:=n) (by simp) (by have:=HN.out.2;omega);simpa using this
 clear hb2 hbk B1 X1 Z1 S1 BA RA BW;obtain⟨x0,x1,x2,x3⟩:=X2.out;go_wp2_with fail
 have F2:=F.out.below B2.out;obtain⟨v1,v2,he,f1,f2⟩:=F2;injection he with he
 simp only[Array.mk.injEq,List.cons.injEq,and_true,true_and] at he;obtain⟨rfl,rfl⟩:=he;refine(iw _ ⟨0,1,wd,hg,gs,os,List.replicate n gold,[],[]⟩ w2 ⟨_,_,_,_,_,rfl,f1,f2,G2.out,⟨none,0,rfl,Nat.le_refl _,by omega,λh=>absurd rfl h⟩,⟨none,0,rfl,Nat.le_refl _,by omega,λh=>absurd rfl h⟩⟩ ⟨by have:=GL.out.1;simp only;omega,by have:=GL.out.2;simp only;omega,by have:=HN.out.2;simp only[List.length_replicate];omega,by simp,by simp⟩).mono ?_;rintro e w3 ⟨u,rfl,ho,hb3⟩;clear f1 f2 x0 x1 x2 x3;have B3:=aj (B2.out.trans (hb3.mono B2.out.size));have Z3:=aj (Z2.out.below hb3 Z2.out.lt);obtain⟨v1,v2,v3,v4,v5,rfl,o1,o2,o3,o4,o5⟩:=ho.wo.mono S2.out;have O3:=aj (gG o1 o2 o3 o4 o5);obtain⟨a1,b1,rfl⟩:=o1.len;obtain⟨a2,b2,rfl⟩:=o2.len;obtain⟨a3,b3,rfl⟩:=o3.len;obtain⟨a4,b4,rfl⟩:=o4.len;obtain⟨a5,b5,rfl⟩:=o5.len;simp only[List.length_replicate,List.length_nil] at O3 ⊢;clear ho hb3 o1 o2 o3 o4 o5 B2 X2 Z2 S2 G2;obtain⟨z0,z1,z2,z3,z4,z5,z6,z7,z8⟩:=Z3.out.cells;obtain⟨t0,t1,t2,t3,t4,t5,t6,t7,t8⟩:=Z3.out.aU;have KZ:=aj (aY w3 (w.heap.size+1) (int i64 0) (int i64 1) (int i64 wd) (int i64 hg) (slice a1 gs.length b1) (slice a2 os.length b2) (slice a3 n b3) (slice a4 0 b4) (slice a5 0 b5));obtain⟨y0,y1,y2,y3,y4,y5,y6,y7,y8⟩:=(Z3.out.put (int i64 0) (int i64 1) (int i64 wd) (int i64 hg) (slice a1 gs.length b1) (slice a2 os.length b2) (slice a3 n b3) (slice a4 0 b4) (slice a5 0 b5)).cells;go_wp2;clear z0 z1 z2 z3 z4 z5 z6 z7 z8 t0 t1 t2 t3 t4 t5 t6 t7 t8;generalize World.setCell _ ⟨_,8,none⟩ _=w9 at *;refine bodyPost_ret (v:=.tuple #[.agg #[int i64 0,int i64 1,int i64 wd,int i64 hg,slice a1 gs.length b1,slice a2 os.length b2,slice a3 n b3,slice a4 0 b4,slice a5 0 b5],.nilIface]) (by simp[results,Tryz.results38,go_sem,y0,y1,y2,y3,y4,y5,y6,y7,y8]) rfl ⟨_,_,rfl,by rw[F0.out];exact Er.nil,?_,KZ.out.below B3.out B3.out.size (by omega)⟩;rw[wP F0.out,Int.toNat_natCast];exact⟨_,_,_,_,_,rfl,(O3.out.1.kp KZ.out (by omega)).mono (by omega),(O3.out.2.1.kp KZ.out (by omega)).mono (by omega),(O3.out.2.2.1.kp KZ.out (by omega)).mono (by omega),(O3.out.2.2.2.1.kp KZ.out (by omega)).mono (by omega),(O3.out.2.2.2.2.kp KZ.out (by omega)).mono (by omega)⟩
end Go.Proofs.YtolfphmdmpehdaaGreatDoor
namespace Go.Proofs.YtolfphmdmpehdaaGreatDoor.Fd
def UD(g:Int):UInt8:=if g=0 then 46 else if g=1 then 35 else if g=2 then 126 else 94
def qJ(g o:Int):UInt8:=if o=0 then UD g else if o%10=0/\o<=90 then(48+(o/10).toNat).toUInt8 else 43
def fD(W:Nat)(gs os:List Int)(r c:Nat):List UInt8:=(List.range c).map λj=>qJ (gs.getD (r*W+j) 0) (os.getD (r*W+j) 0)
def jK(W:Nat)(gs os:List Int):Nat->List UInt8
 |0=>[]
 |r+1=>jK W gs os r++(fD W gs os r W++[10])
theorem jL(W:Nat)(gs os:List Int)(r c:Nat):fD W gs os r (c+1)=fD W gs os r c++[qJ (gs.getD (r*W+c) 0) (os.getD (r*W+c) 0)]:=by
 unfold fD;rw[List.range_succ,List.map_append];rfl
structure St where
 c:Nat
 W:Nat
 H:Nat
 gs:List Int
 os:List Int
def st0:St:=⟨0,0,0,[],[]⟩
def meant(b:UInt8):Option (Int×Int):=
 if 49<=b.toNat/\b.toNat<=57 then some (0,((b.toNat:Int)-48)*10) else if b=46 then some (0,0) else if b=35 then some (1,0) else if b=126 then some (2,0) else if b=94 then some (3,0) else none
def step(s:St)(b:UInt8):Int ⊕ St:=
 if b=10 then(if s.c=0\/(0<s.H/\s.c≠s.W) then .inl 2 else .inr ⟨0,s.c,s.H+1,s.gs,s.os⟩)
 else match meant b with
  |none=>.inl 2
  |some (g,o)=>if 0<s.H/\s.c=s.W then .inl 2 else if s.c=12\/s.H=12 then .inl 4 else .inr ⟨s.c+1,s.W,s.H,s.gs++[g],s.os++[o]⟩
def run:St->Nat->List UInt8->(Nat×Int) ⊕ St
 |s,_,[]=>.inr s
 |s,i,b::bs=>match step s b with
  | .inl e=>.inl (i,e)
  | .inr s'=>run s' (i+1) bs
def parse(l:List UInt8):(Nat×Int) ⊕ St:=
 match run st0 0 l with
 | .inl x=>.inl x
 | .inr s=>if 0<s.c\/s.H=0 then .inl (l.length,2) else .inr s
theorem JZ(s:St)(i:Nat)(b:UInt8)(bs:List UInt8):run s i (b::bs)=match step s b with| .inl e=>.inl (i,e)| .inr s'=>run s' (i+1) bs:=rfl
def zA(g o:Int):Prop:=0<=g/\g<=3/\0<=o/\o<=90/\o%10=0/\(0<o->g=0)
theorem Ez{b:UInt8}{g o:Int}(h:meant b=some (g,o)):qJ g o=b/\zA g o:=by
 unfold meant at h;split at h
 ·rename_i hb
  simp only[Option.some.injEq,Prod.mk.injEq] at h;obtain⟨rfl,rfl⟩:=h;have e1:(((b.toNat:Int)-48)*10)/10=(b.toNat:Int)-48:=by omega
  refine⟨?_,by unfold zA;omega⟩;unfold qJ;rw[if_neg (by omega),if_pos (by omega),e1,show 48+((b.toNat:Int)-48).toNat=b.toNat by omega];exact UInt8.ofNat_toNat
 ·split at h
  ·rename_i hb
   simp only[Option.some.injEq,Prod.mk.injEq] at h;obtain⟨rfl,rfl⟩:=h;exact⟨by rw[hb];rfl,by unfold zA;omega⟩
  ·split at h
   ·rename_i hb
    simp only[Option.some.injEq,Prod.mk.injEq] at h;obtain⟨rfl,rfl⟩:=h;exact⟨by rw[hb];rfl,by unfold zA;omega⟩
   ·split at h
    ·rename_i hb
     simp only[Option.some.injEq,Prod.mk.injEq] at h;obtain⟨rfl,rfl⟩:=h;exact⟨by rw[hb];rfl,by unfold zA;omega⟩
    ·split at h
     ·rename_i hb
      simp only[Option.some.injEq,Prod.mk.injEq] at h;obtain⟨rfl,rfl⟩:=h;exact⟨by rw[hb];rfl,by unfold zA;omega⟩
     ·cases h
theorem mQ{l:List Int}{x:Int}{i:Nat}(h:i<l.length):(l++[x]).getD i 0=l.getD i 0:=by
 rw[List.getD_eq_getElem?_getD,List.getD_eq_getElem?_getD,List.getElem?_append_left h]
theorem kV{l:List Int}{x:Int}{i:Nat}(h:i=l.length):(l++[x]).getD i 0=x:=by
 subst h;rw[List.getD_eq_getElem?_getD,List.getElem?_append_right (Nat.le_refl _)];simp
theorem mV{W:Nat}{gs os:List Int}{g o:Int}{r c:Nat}(h1:r*W+c<=gs.length)(h2:r*W+c<=os.length):fD W (gs++[g]) (os++[o]) r c=fD W gs os r c:=by
 induction c with
 |zero=>rfl
 |succ c ih=>
  rw[jL,jL,ih (by omega) (by omega),mQ (by omega),mQ (by omega)]
theorem wQ{W:Nat}{gs os:List Int}{g o:Int}{r:Nat}(h1:r*W<=gs.length)(h2:r*W<=os.length):jK W (gs++[g]) (os++[o]) r=jK W gs os r:=by
 induction r with
 |zero=>rfl
 |succ r ih=>
  rw[Nat.add_mul] at h1 h2;simp only[jK];rw[ih (by omega) (by omega),mV (by omega) (by omega)]
theorem uJ(W V:Nat)(gs os:List Int)(c:Nat):fD W gs os 0 c=fD V gs os 0 c:=by
 unfold fD;simp
structure Inv(s:St)(l:List UInt8):Prop where
 w0:s.H=0->s.W=0
 wp:0<s.H->0<s.W
 cw:0<s.H->s.c<=s.W
 c12:s.c<=12
 w12:s.W<=12
 h12:s.H<=12
 top:s.H=12->s.c=0
 gl:s.gs.length=s.H*s.W+s.c
 ol:s.os.length=s.H*s.W+s.c
 UJ:∀(i:Nat) g o,s.gs[i]? =some g->s.os[i]? =some o->zA g o
 text:l=jK s.W s.gs s.os s.H++fD s.W s.gs s.os s.H s.c
theorem inv0:Inv st0 []:=⟨λ_=>rfl,λh=>by simp[st0] at h,λh=>by simp[st0] at h,by simp[st0],by simp[st0],by simp[st0],λh=>by simp[st0] at h,rfl,rfl,λi g o h=>by simp[st0] at h,rfl⟩
theorem qC{l:List Int}{x y:Int}{i:Nat}(h:(l++[x])[i]? =some y):(i<l.length/\l[i]? =some y)\/(i=l.length/\y=x):=by
 rcases Nat.lt_or_ge i l.length with h1|h1
 ·left;rw[List.getElem?_append_left h1] at h;exact⟨h1,h⟩
 ·right
  rw[List.getElem?_append_right h1] at h;have h2:i-l.length=0:=by
   rcases Nat.eq_zero_or_pos (i-l.length) with h2|h2
   ·exact h2
   ·rw[List.getElem?_eq_none (by simp;omega)] at h;cases h
  rw[h2] at h;simp at h;exact⟨by omega,h.symm⟩
theorem Inv.step{s s':St}{l:List UInt8}{b:UInt8}(h:Inv s l)(hs:step s b=.inr s'):Inv s' (l++[b]):=by
 unfold Fd.step at hs;split at hs
 ·rename_i hb
  subst hb;split at hs
  ·cases hs
  ·rename_i hc
   injection hs with hs
   subst hs;have hc0:0<s.c:=by omega
   have hcw:0<s.H->s.c=s.W:=by omega
   have hh:s.H≠12:=λe=>by have:=h.top e;omega
   have h12:=h.h12;have c12:=h.c12
   have el:s.H*s.W+s.c=(s.H+1)*s.c:=by
    rcases Nat.eq_zero_or_pos s.H with e|e
    ·rw[e];simp
    ·rw[<-hcw e,Nat.add_mul,Nat.one_mul]
   refine⟨by simp,by simp;exact hc0,by simp,by simp,c12,by show s.H+1<=12;omega,by simp,?_,?_,h.UJ,?_⟩
   ·show s.gs.length=(s.H+1)*s.c+0;rw[h.gl,el];rfl
   ·show s.os.length=(s.H+1)*s.c+0;rw[h.ol,el];rfl
   ·show l++[10]=jK s.c s.gs s.os (s.H+1)++fD s.c s.gs s.os (s.H+1) 0
    rw[h.text];simp only[jK];rcases Nat.eq_zero_or_pos s.H with e|e
    ·rw[e,uJ s.W s.c]
     simp[jK,fD]
    ·rw[<-hcw e]
     simp[fD]
 ·split at hs
  ·cases hs
  ·rename_i g o hm
   split at hs
   ·cases hs
   ·split at hs
    ·cases hs
    ·rename_i h1 h2
     injection hs with hs
     subst hs;obtain⟨e1,e2⟩:=Ez hm;have cw:=h.cw;have c12:=h.c12;have h12:=h.h12
     refine⟨h.w0,h.wp,λhp=>?_,?_,h.w12,h.h12,λe=>?_,?_,?_,?_,?_⟩
     ·show s.c+1<=s.W;have:=cw hp;have:0<s.H:=hp;omega
     ·show s.c+1<=12;omega
     ·exfalso;have:s.H=12:=e;omega
     ·show(s.gs++[g]).length=s.H*s.W+(s.c+1);rw[List.length_append,h.gl];rfl
     ·show(s.os++[o]).length=s.H*s.W+(s.c+1);rw[List.length_append,h.ol];rfl
     ·intro i g' o' hg ho
      rcases qC hg with⟨l1,q1⟩|⟨l1,q1⟩
      ·rcases qC ho with⟨l2,q2⟩|⟨l2,q2⟩
       ·exact h.UJ i g' o' q1 q2
       ·have:=h.gl;have:=h.ol;omega
      ·rcases qC ho with⟨l2,q2⟩|⟨l2,q2⟩
       ·have:=h.gl;have:=h.ol;omega
       ·rw[q1,q2];exact e2
     ·show l++[b]=jK s.W (s.gs++[g]) (s.os++[o]) s.H++fD s.W (s.gs++[g]) (s.os++[o]) s.H (s.c+1)
      have:=h.gl;have:=h.ol
      rw[wQ (by omega) (by omega),jL,mV (by omega) (by omega),kV (by omega),kV (by omega),e1,h.text,List.append_assoc]
theorem Inv.run{s s':St}{l m:List UInt8}{i:Nat}(h:Inv s l)(hs:run s i m=.inr s'):Inv s' (l++m):=by
 induction m generalizing s l i with
 |nil=>
  simp only[Fd.run] at hs;injection hs with hs
  subst hs;simpa using h
 |cons b bs ih=>
  rw[JZ] at hs;cases hb:Fd.step s b with
  |inl e=>rw[hb] at hs;cases hs
  |inr s1=>
   rw[hb] at hs;have:=ih (h.step hb) hs;rwa[List.append_assoc] at this
section
variable {W H:Nat} {gs os:List Int} (G:Good W H gs os) (ht:∀o∈os,o<=90/\o%10=0)
include G ht
end
end Go.Proofs.YtolfphmdmpehdaaGreatDoor.Fd
namespace Go.Proofs.YtolfphmdmpehdaaGreatDoor
def SK:List KV:=[⟨⟨#[98,97,115,101]⟩,50,0,0,4,0,50,5,0,false,true⟩,⟨⟨#[100,105,103,103,101,114]⟩,10,0,0,3,2,10,2,20,false,false⟩,⟨⟨#[102,105,103,104,116,101,114]⟩,20,4,1,4,2,20,3,0,false,false⟩]
def SG:List Int:=[0,0,0,0,0,0,0,0]
def SO:List Int:=[0,0,0,0,0,0,30,0]
def S0:WV:=⟨0,1,4,2,SG,SO,[100,100],[],[]⟩
def S1:WV:=⟨0,2,4,2,SG,SO,[100,100],[⟨1,0,0,0,50,0,0,0⟩],[]⟩
def S2:WV:=⟨0,3,4,2,SG,SO,[100,100],[⟨1,0,0,0,50,0,0,0⟩,⟨2,0,1,1,10,0,0,0⟩],[]⟩
def S3:WV:=⟨0,4,4,2,SG,SO,[100,100],[⟨1,0,0,0,50,0,0,0⟩,⟨2,0,1,1,10,0,0,0⟩,⟨3,1,2,3,20,0,0,0⟩],[]⟩
theorem J_:Fd.parse [46,46,46,46,10,46,46,51,46,10]=.inr ⟨0,4,2,SG,SO⟩:=by rfl
theorem PX:Wd.eH SK 4 2 SG SO 2 100=0:=by decide+kernel
theorem PZ:Wd.dB SK S0 0 0 0=0:=by decide+kernel
theorem P_:Wd.dB SK S1 0 1 1=0:=by decide+kernel
theorem Qa:Wd.dB SK S2 1 2 3=0:=by decide+kernel
theorem Xh:Wd.begun SK 4 2 SG SO 2 100=S0:=wP PX
theorem Xi:Wd.placed SK S0 0 0 0=S1:=(jm PZ).trans rfl
theorem Xj:Wd.placed SK S1 0 1 1=S2:=(jm P_).trans rfl
theorem Xk:Wd.placed SK S2 1 2 3=S3:=(jm Qa).trans rfl
theorem fO:∀k∈SK,k.b.size<=9223372036854775807:=by
 intro k hk;unfold SK at hk;rcases List.mem_cons.1 hk with rfl|hk
 ·decide
 rcases List.mem_cons.1 hk with rfl|hk
 ·decide
 rcases List.mem_cons.1 hk with rfl|hk
 ·decide
 ·cases hk
open Go.RowKit
theorem Ko(s:ByteArray)(c:Int)(w:World):
 Calls Tryz.prog 173 #[.string s,.int .u8 c] w λe w'=>e=.returned (int i64 (Lib.indexByte s.data.toList c.toNat.toUInt8))/\w'=w:=by
 have hx:=run_callFunc_extern (w:=w) (args:= #[.string s,.int .u8 c]) Tryz.func213 (by kernel_rfl) (by kernel_rfl) (by kernel_rfl) (e:=Extern.BytealgIndexByte.indexByte) (by kernel_rfl);go_enter Tryz.func173,Tryz.ntmps173;go_wp2;rw[Lib.run_indexByteString];simp only[Result.andThen];rw[Oper.upon_value];go_wp2;go_ret;exact⟨rfl,rfl⟩
theorem Kr(s:ByteArray)(c:Int)(w:World):
 Calls Tryz.prog 137 #[.string s,.int .u8 c] w λe w'=>e=.returned (int i64 (Lib.indexByte s.data.toList c.toNat.toUInt8))/\w'=w:=by
 have K:Hid (Calls Tryz.prog 173 #[.string s,.int .u8 c] w λe w'=>e=.returned (int i64 (Lib.indexByte s.data.toList c.toNat.toUInt8))/\w'=w):=Ko s c w;go_enter Tryz.func137,Tryz.ntmps137;go_wp2_with fail
 refine Calls.mono K.out ?_;rintro e w' ⟨rfl,rfl⟩;go_wp2;go_ret;exact⟨rfl,rfl⟩
namespace Fd
def uK(b:UInt8):Int:=if b=46 then 0 else if b=35 then 1 else if b=126 then 2 else if b=94 then 3 else -1
theorem zB(b:UInt8)(h:¬(49<=b.toNat/\b.toNat<=57)):meant b=if 0<=uK b then some (uK b,0) else none:=by
 unfold meant uK;rw[if_neg h];split
 ·rfl
 ·split
  ·rfl
  ·split
   ·rfl
   ·split
    ·rfl
    ·rfl
end Fd
theorem Kt(b:UInt8):Lib.indexByte [46,35,126,94] b=Fd.uK b:=by
 unfold Fd.uK;by_cases h1:b=46
 ·subst h1;decide
 ·by_cases h2:b=35
  ·subst h2;decide
  ·by_cases h3:b=126
   ·subst h3;decide
   ·by_cases h4:b=94
    ·subst h4;decide
    ·have g1:¬46=b:=λh=>h1 h.symm
     have g2:¬35=b:=λh=>h2 h.symm
     have g3:¬126=b:=λh=>h3 h.symm
     have g4:¬94=b:=λh=>h4 h.symm
     simp[Lib.indexByte,h1,h2,h3,h4,g1,g2,g3,g4]
theorem EH(b:UInt8)(w:World):
 Calls Tryz.prog 131 #[.int .u8 (b.toNat:Nat)] w λe w'=>(∃g o,Fd.meant b=some (g,o)/\e=.returned (.tuple #[int i64 g,int i64 o,.bool true])/\w'=w)\/(Fd.meant b=none/\e=.returned (.tuple #[int i64 (-1),int i64 0,.bool false])/\w'=w):=by
 have hb:=b.toNat_lt;by_cases h:49<=b.toNat/\b.toNat<=57
 ·have e:Fd.meant b=some (0,((b.toNat:Int)-48)*10):=by unfold Fd.meant;rw[if_pos h]
  have E:Hid _:=e;obtain⟨h1,h2⟩:=h;clear e;generalize b.toNat=n at *;have w1:IntKind.u8.wrap ((n:Int)-48)=(n:Int)-48:=by rw[IntKind.wrap_u8];omega
  go_enter Tryz.func131,Tryz.ntmps131;go_wp2;go_ret3;exact .inl ⟨_,_,E.out,rfl,rfl⟩
 ·have e:=Fd.zB b h
  have I:Hid (Calls Tryz.prog 137 #[.string ⟨#[46,35,126,94]⟩,.int .u8 (b.toNat:Nat)] w λe w'=>e=.returned (int i64 (Fd.uK b))/\w'=w):=by
   refine(Kr ⟨#[46,35,126,94]⟩ (b.toNat:Nat) w).mono ?_;rintro e w' ⟨rfl,rfl⟩;refine⟨?_,rfl⟩;have e2:((b.toNat:Nat):Int).toNat.toUInt8=b:=by rw[Int.toNat_natCast];exact UInt8.ofNat_toNat
   rw[e2];rw[<-Kt b]
  have gl: -1<=Fd.uK b:=by unfold Fd.uK;split<;>(try split)<;>(try split)<;>(try split)<;>omega
  generalize Fd.uK b=g at *;by_cases hg:0<=g
  ·have E:Hid (Fd.meant b=some (g,0)):=by unfold Hid;rw[e,if_pos hg]
   clear e;by_cases h1:49<=b.toNat
   ·have h2:¬b.toNat<=57:=by omega
    clear h;go_enter Tryz.func131,Tryz.ntmps131;go_wp2_with fail
    refine Calls.mono I.out ?_;rintro e w' ⟨rfl,rfl⟩;go_wp2;go_ret3;exact .inl ⟨_,_,E.out,rfl,rfl⟩
   ·clear h
    go_enter Tryz.func131,Tryz.ntmps131;go_wp2_with fail
    refine Calls.mono I.out ?_;rintro e w' ⟨rfl,rfl⟩;go_wp2;go_ret3;exact .inl ⟨_,_,E.out,rfl,rfl⟩
  ·obtain rfl:g= -1:=by omega
   have E:Hid (Fd.meant b=none):=by unfold Hid;rw[e,if_neg hg]
   clear e gl hg;by_cases h1:49<=b.toNat
   ·have h2:¬b.toNat<=57:=by omega
    clear h;go_enter Tryz.func131,Tryz.ntmps131;go_wp2_with fail
    refine Calls.mono I.out ?_;rintro e w' ⟨rfl,rfl⟩;go_wp2;go_ret3;exact .inr ⟨E.out,rfl,rfl⟩
   ·clear h
    go_enter Tryz.func131,Tryz.ntmps131;go_wp2_with fail
    refine Calls.mono I.out ?_;rintro e w' ⟨rfl,rfl⟩;go_wp2;go_ret3;exact .inr ⟨E.out,rfl,rfl⟩
structure Two(w:World)(base:Nat)(u1 u2:Value)(gs os:List Int):Prop where
 o1:Ow w base u1 gs
 o2:Ow w base u2 os
 ne:∀k,u1.ownBlock=some k->u2.ownBlock≠some k
theorem Two.below{w w':World}{base n:Nat}{u1 u2:Value}{gs os:List Int}(h:Two w base u1 u2 gs os)(hb:Below n w w')(hn:w.heap.size<=n):Two w' base u1 u2 gs os:=
 ⟨h.o1.below (hb.mono hn),h.o2.below (hb.mono hn),h.ne⟩
theorem Two.kp{w w':World}{base z:Nat}{u1 u2:Value}{gs os:List Int}(h:Two w base u1 u2 gs os)(hk:Kp z w w')(hz:z<base):Two w' base u1 u2 gs os:=by
 have hg:w.grownBy w' (some z):=⟨hk.os,hk.tape,hk.output,hk.size,λk hk' hne=>hk.block k hk' (λe=>hne (by rw[e]))⟩;refine⟨h.o1.kept hg ?_,h.o2.kept hg ?_,h.ne⟩
 ·right;intro e;have:=(h.o1.block z e).1;omega
 ·right;intro e;have:=(h.o2.block z e).1;omega
def Dt(w:World)(z:Nat)(u1 u2:Value)(s:Fd.St):Prop:=w.heap[z]? =some (.cells #[int i64 (s.W:Nat),int i64 (s.H:Nat),u1,u2,int i64 (s.c:Nat)] 129 (0,0))
def Dr(w:World)(z:Nat)(s:Fd.St):Prop:=∃u1 u2,Dt w z u1 u2 s/\Two w (z+1) u1 u2 s.gs s.os
section
variable {w:World} {z:Nat} {u1 u2:Value} {s:Fd.St}
theorem Dt.c0(h:Dt w z u1 u2 s):w.cell? ⟨z,0,none⟩=some (int i64 (s.W:Nat)):=by unfold Dt at h;simp[World.cell?,h]
theorem Dt.c1(h:Dt w z u1 u2 s):w.cell? ⟨z,1,none⟩=some (int i64 (s.H:Nat)):=by unfold Dt at h;simp[World.cell?,h]
theorem Dt.c2(h:Dt w z u1 u2 s):w.cell? ⟨z,2,none⟩=some u1:=by unfold Dt at h;simp[World.cell?,h]
theorem Dt.c3(h:Dt w z u1 u2 s):w.cell? ⟨z,3,none⟩=some u2:=by unfold Dt at h;simp[World.cell?,h]
theorem Dt.c4(h:Dt w z u1 u2 s):w.cell? ⟨z,4,none⟩=some (int i64 (s.c:Nat)):=by unfold Dt at h;simp[World.cell?,h]
theorem Dt.fz(h:Dt w z u1 u2 s)(i:Nat):w.frozen? ⟨z,i,none⟩=false:=by unfold Dt at h;simp[World.frozen?,h]
theorem Dt.lt(h:Dt w z u1 u2 s):z<w.heap.size:=lt_of_block h
theorem Dt.below{w':World}{n:Nat}(h:Dt w z u1 u2 s)(hb:Below n w w')(hz:z<n):Dt w' z u1 u2 s:=(hb.block z hz).trans h
end
theorem Ov(z:Nat)(u1 u2:Value)(s:Fd.St)(w:World)(h:Dt w z u1 u2 s)(hc:s.c<=12)(hw:s.W<=12)(hb:s.c=0\/s.c<s.W):
 Calls Tryz.prog 130 #[.pointer (some ⟨z,0,none⟩)] w λe w'=>e=.returned (.iface 85 (int i64 2))/\∃n,w'=w.drewN n:=by
 have c0:=h.c0;have c4:=h.c4;obtain⟨c,W,H,gs,os⟩:=s;simp only at hc hw hb c0 c4;clear h;by_cases q:c=0
 ·subst q
  go_enter Tryz.func130,Tryz.ntmps130;go_wp2_with fail
  go_quiet (fail);go_wp2;go_ret;exact⟨rfl,_,rfl⟩
 ·have q2:c<W:=by omega
  have q':((c:Int)==0)=false:=by rw[beq_eq_false_iff_ne];omega
  clear hb;go_enter Tryz.func130,Tryz.ntmps130;go_wp2_with fail
  go_quiet (fail);go_wp2;go_ret;exact⟨rfl,_,rfl⟩
theorem Rz(z:Nat)(u1 u2:Value)(s:Fd.St)(w:World)(h:Dt w z u1 u2 s)(hc:s.c<=12)(hw:s.W<=12)(hh:s.H<=12)(h0:s.c≠0)(h1:¬s.c<s.W):
 Calls Tryz.prog 130 #[.pointer (some ⟨z,0,none⟩)] w λe w'=>e=.returned .nilIface/\Dt w' z u1 u2 ⟨0,s.c,s.H+1,s.gs,s.os⟩/\Kp z w w':=by
 have D:Hid (Dt w z u1 u2 s):=h;have c0:=h.c0;have c1:=h.c1;have c4:=h.c4;have f0:=h.fz 0;have f1:=h.fz 1;have f4:=h.fz 4;obtain⟨c,W,H,gs,os⟩:=s;simp only at hc hw hh h0 h1 c0 c1 c4;have q':((c:Int)==0)=false:=by rw[beq_eq_false_iff_ne];omega
 clear h;go_enter Tryz.func130,Tryz.ntmps130;go_wp2_with fail
 go_quiet (fail);have Dq:Hid (Dt (w.drewN nq) z u1 u2 ⟨c,W,H,gs,os⟩):=D.out;have Kq:Hid (Kp z w (w.drewN nq)):=(Kp.refl z w).drewN nq;have c0:(w.drewN nq).cell? ⟨z,0,none⟩=some (int i64 (W:Nat)):=Dq.out.c0;have c1:(w.drewN nq).cell? ⟨z,1,none⟩=some (int i64 (H:Nat)):=Dq.out.c1;have c4:(w.drewN nq).cell? ⟨z,4,none⟩=some (int i64 (c:Nat)):=Dq.out.c4;have f0:=Dq.out.fz 0;have f1:=Dq.out.fz 1;have f4:=Dq.out.fz 4;generalize w.drewN nq=w1 at *;go_wp2;go_ret;refine⟨rfl,?_,?_⟩
 ·unfold Dt
  rw[heap_setCell_same _ z 4 _ _ _ (heap_setCell_same _ z 1 _ _ _ (heap_setCell_same w1 z 0 _ _ _ Dq.out))];simp
 ·exact((Kq.out.trans (Kp.set _ _ _)).trans (Kp.set _ _ _)).trans (Kp.set _ _ _)
structure zC(s:Fd.St):Prop where
 w0:s.H=0->s.W=0
 cw:0<s.H->s.c<=s.W
 c12:s.c<=12
 w12:s.W<=12
 h12:s.H<=12
 gl:s.gs.length<=156
 ol:s.os.length<=156
theorem zC.of{s:Fd.St}{l:List UInt8}(h:Fd.Inv s l):zC s:=by
 have e:s.H*s.W<=144:=Nat.mul_le_mul h.h12 h.w12;have:=h.c12;exact⟨h.w0,h.cw,h.c12,h.w12,h.h12,by rw[h.gl];omega,by rw[h.ol];omega⟩
theorem Ku{s:Fd.St}(h:zC s):Fd.step s 10=if s.c=0\/s.c<s.W then .inl 2 else .inr ⟨0,s.c,s.H+1,s.gs,s.os⟩:=by
 unfold Fd.step;rw[if_pos rfl];have:=h.w0;have:=h.cw
 by_cases q:s.c=0\/(0<s.H/\s.c≠s.W)
 ·rw[if_pos q,if_pos (by omega)]
 ·rw[if_neg q,if_neg (by omega)]
theorem step_none{s:Fd.St}{b:UInt8}(hb:b≠10)(hm:Fd.meant b=none):Fd.step s b=.inl 2:=by
 unfold Fd.step;rw[if_neg hb,hm]
theorem step_some{s:Fd.St}{b:UInt8}{g o:Int}(hb:b≠10)(hm:Fd.meant b=some (g,o)):Fd.step s b=if 0<s.H/\s.c=s.W then .inl 2 else if s.c=12\/s.H=12 then .inl 4 else .inr ⟨s.c+1,s.W,s.H,s.gs++[g],s.os++[o]⟩:=by
 unfold Fd.step;rw[if_neg hb,hm]
theorem Kv(z:Nat)(s:Fd.St)(w:World)(h:Dr w z s)(ok:zC s):
 Calls Tryz.prog 81 #[.pointer (some ⟨z,0,none⟩),.int .u8 10] w λe w'=>(∃f,Fd.step s 10=.inl f/\e=.returned (.iface 85 (int i64 f))/\f≠0/\Below z w w')\/(∃s',Fd.step s 10=.inr s'/\e=.returned .nilIface/\Dr w' z s'/\Below z w w'):=by
 obtain⟨u1,u2,hd,ht⟩:=h;have S:=Ku ok;have HS:Hid _:=S;clear S;by_cases q:s.c=0\/s.c<s.W
 ·have K:=aj (Ov z u1 u2 s w hd ok.c12 ok.w12 q)
  have Q:=aj (q);clear q hd ht ok;go_enter Tryz.func81,Tryz.ntmps81;go_wp2_with fail
  refine Calls.mono K.out ?_;rintro e w1 ⟨rfl,n,rfl⟩;go_wp2;go_ret;exact .inl ⟨2,by rw[HS.out,if_pos Q.out],rfl,by decide,_root_.Go.below_drewN (Below.refl _ _) _⟩
 ·have K:=aj (Rz z u1 u2 s w hd ok.c12 ok.w12 ok.h12 (λe=>q (.inl e)) (λe=>q (.inr e)))
  have Q:=aj (q);have T:=aj (ht);have L:=aj (hd.lt);clear q hd ht ok;go_enter Tryz.func81,Tryz.ntmps81;go_wp2_with fail
  refine Calls.mono K.out ?_;rintro e w1 ⟨rfl,hd1,hk1⟩;have D1:=aj (hd1);have K1:=aj (hk1);clear hd1 hk1;go_wp2;go_ret;refine .inr ⟨_,by rw[HS.out,if_neg Q.out],rfl,⟨u1,u2,D1.out,T.out.kp K1.out (Nat.lt_succ_self _)⟩,Kp.below (Below.refl _ _) K1.out (Nat.le_of_lt L.out) (Nat.le_refl _)⟩
theorem EI(z:Nat)(s:Fd.St)(b:UInt8)(w:World)(h:Dr w z s)(ok:zC s)(hb:b≠10):
 Calls Tryz.prog 81 #[.pointer (some ⟨z,0,none⟩),.int .u8 (b.toNat:Nat)] w λe w'=>(∃f,Fd.step s b=.inl f/\e=.returned (.iface 85 (int i64 f))/\f≠0/\Below z w w')\/(∃s',Fd.step s b=.inr s'/\e=.returned .nilIface/\Dr w' z s'/\Below z w w'):=by
 obtain⟨u1,u2,hd,ht⟩:=h;have hb2:=b.toNat_lt;have hb3:¬((b.toNat:Nat):Int)=10:=by
  intro e;have e2:b.toNat=10:=by omega
  exact hb (UInt8.toNat_inj.1 e2)
 have M:=aj (EH b);have HB:=aj (hb);have D:=aj (hd);have T:=aj (ht);have K:=aj (ok);clear hb hd ht ok;generalize b.toNat=n at *;go_enter Tryz.func81,Tryz.ntmps81;go_wp2_with fail
 refine(M.out _).mono ?_;rintro e w1 hm;rcases hm with⟨g,o,hm,rfl,rfl⟩|⟨hm,rfl,rfl⟩
 ·have HS:Hid _:=step_some (s:=s) HB.out hm
  have c0:=D.out.c0;have c1:=D.out.c1;have c2:=D.out.c2;have c3:=D.out.c3;have c4:=D.out.c4;obtain⟨c,W,H,gs,os⟩:=s;simp only at c0 c1 c4;have k12:=K.out.c12;have w12:=K.out.w12;have h12:=K.out.h12;simp only at k12 w12 h12;clear hm M;by_cases q1:0<H/\c=W
  ·obtain⟨Zk,Yf⟩:=q1
   have RD:Hid (Fd.step ⟨c,W,H,gs,os⟩ b=.inl 2):=by unfold Hid;rw[HS.out,if_pos ⟨Zk,Yf⟩]
   subst Yf;go_wp2_with fail
   go_quiet (fail);go_wp2;go_ret;exact .inl ⟨2,RD.out,rfl,by decide,_root_.Go.below_drewN (Below.refl _ _) _⟩
  ·have HS1:Hid (Fd.step ⟨c,W,H,gs,os⟩ b=if c=12\/H=12 then .inl 4 else .inr ⟨c+1,W,H,gs++[g],os++[o]⟩):=by unfold Hid;rw[HS.out,if_neg q1]
   clear HS;go_wp2_with fail
   go_cut [39] (λv W'=>v=.bool false/\∃n,W'=w1.drewN n)
   case first=>
    by_cases q2:H=0
    ·subst q2
     go_quiet (fail);go_wp2_with fail
     go_meet
     case rel=>exact⟨rfl,_,rfl⟩
    ·have q3:0<H:=by omega
     have q4:¬c=W:=λe=>q1 ⟨q3,e⟩
     have q4b:((c:Int)==(W:Int))=false:=by rw[beq_eq_false_iff_ne];omega
     clear q1;go_quiet (fail);go_wp2_with fail
     go_meet
     case rel=>exact⟨rfl,_,rfl⟩
   case rest=>
    obtain⟨rfl,nn,hn⟩:=hcut;have kb:Below w1.heap.size w1 wc:=by rw[hn];exact _root_.Go.below_drewN (Below.refl _ _) _
    have D2:=aj (D.out.below kb D.out.lt);have T2:=aj (T.out.below kb (Nat.le_refl _));have B2:=aj (kb.mono (Nat.le_of_lt D.out.lt));clear kb hn c0 c1 c2 c3 c4 q1 D T;have c0:=D2.out.c0;have c1:=D2.out.c1;have c2:=D2.out.c2;have c3:=D2.out.c3;have c4:=D2.out.c4;simp only at c0 c1 c4;by_cases q5:c=12
    ·subst q5
     have RD:Hid (Fd.step ⟨12,W,H,gs,os⟩ b=.inl 4):=by unfold Hid;rw[HS1.out,if_pos (.inl rfl)]
     go_wp2;go_ret;exact .inl ⟨4,RD.out,rfl,by decide,B2.out⟩
    ·have q5b:((c:Int)==12)=false:=by rw[beq_eq_false_iff_ne];omega
     by_cases q6:H=12
     ·subst q6
      have RD:Hid (Fd.step ⟨c,W,12,gs,os⟩ b=.inl 4):=by unfold Hid;rw[HS1.out,if_pos (.inr rfl)]
      go_wp2;go_ret;exact .inl ⟨4,RD.out,rfl,by decide,B2.out⟩
     ·have q6b:((H:Int)==12)=false:=by rw[beq_eq_false_iff_ne];omega
      have RD:Hid (Fd.step ⟨c,W,H,gs,os⟩ b=.inr ⟨c+1,W,H,gs++[g],os++[o]⟩):=by unfold Hid;rw[HS1.out,if_neg (by omega)]
      have gl:=K.out.gl;have ol:=K.out.ol;simp only at gl ol;have L2:=aj (D2.out.lt);clear HS1;go_wp2_with (at_builtin;refine fC _ rfl _ _ rfl (z+1) _ gs rfl (T2.out.o1.alloc _) ⟨wc.heap.size,0,none⟩ g rfl (by simp) (by omega) (by have:=L2.out;simp;omega) ?_);intro g1 cap1 w3 o3 g3 a3 l3;have hob:∀k,u1.ownBlock=some k->z+1<=k:=λk hk=>(T2.out.o1.block k hk).1
      have b3:Below (z+1) wc w3:=((Below.refl _ _).alloc L2.out _).grown g3 (by have:=L2.out;simp;omega) hob;have D3:=D2.out.below b3 (Nat.lt_succ_self _);have O3:=(T2.out.o2.alloc _).kept g3 (by
       cases hq:u2.ownBlock with
       |none=>exact .inl rfl
       |some k=>exact .inr (λe=>T2.out.ne k e.symm hq))
      have N3:Hid (∀k,u2.ownBlock=some k->k≠g1):=by
       intro k hk e;subst e;rcases a3 with a3|a3
       ·exact T2.out.ne _ a3 hk
       ·have:=(T2.out.o2.block _ hk).2
        try simp at a3
        omega
      have K3:Kp z w3 (w3.setCell ⟨z,2,none⟩ (slice (some ⟨g1,0,none⟩) (gs.length+1) cap1)):=Kp.set _ _ _;have T3:Hid (Two (w3.setCell ⟨z,2,none⟩ (slice (some ⟨g1,0,none⟩) (gs.length+1) cap1)) (z+1) (slice (some ⟨g1,0,none⟩) (gs.length+1) cap1) u2 (gs++[g]) os):=
       (show Two w3 (z+1) (slice (some ⟨g1,0,none⟩) (gs.length+1) cap1) u2 (gs++[g]) os from⟨o3,O3,λk hk e=>N3.out k e (Option.some.inj hk).symm⟩).kp K3 (Nat.lt_succ_self _)
      have D4:Hid (Dt (w3.setCell ⟨z,2,none⟩ (slice (some ⟨g1,0,none⟩) (gs.length+1) cap1)) z (slice (some ⟨g1,0,none⟩) (gs.length+1) cap1) u2 ⟨c,W,H,gs++[g],os⟩):=by
       unfold Hid Dt;rw[heap_setCell_same w3 z 2 _ _ _ D3];simp
      have B4:Hid (Below z w1 (w3.setCell ⟨z,2,none⟩ (slice (some ⟨g1,0,none⟩) (gs.length+1) cap1))):=(B2.out.trans (b3.mono (Nat.le_succ _))).setCell (Nat.le_refl _) _;have e2:=D3.c2;have e3:=D3.c3;have f2:=D3.fz 2;have z3:=aj (D3.lt);clear o3 g3 a3 l3 hob b3 D3 O3 K3 c0 c1 c2 c3 c4;go_wp2_with (at_builtin;refine fC _ rfl _ _ rfl (z+1) _ os rfl (T3.out.o2.alloc _) ⟨w3.heap.size,0,none⟩ o rfl (by rw[World.cell?_alloc_at _ _ _ _ (by simp)];rfl) (by omega) (by have:=z3.out;simp;omega) ?_);intro g2 cap2 w5 o5 g5 a5 l5;have hob:∀k,u2.ownBlock=some k->z+1<=k:=λk hk=>(T3.out.o2.block k hk).1
      have b5:=((Below.refl _ _).alloc (by have:=z3.out;simp;omega) _).grown g5 (by have:=z3.out;simp;omega) hob;have D5:=D4.out.below b5 (Nat.lt_succ_self _);have O5:=(T3.out.o1.alloc _).kept g5 (by
       cases hq:(slice (some ⟨g1,0,none⟩) (gs.length+1) cap1).ownBlock with
       |none=>exact .inl rfl
       |some k=>exact .inr (λe=>T3.out.ne k hq e.symm))
      have N5:Hid (∀k,(slice (some ⟨g1,0,none⟩) (gs.length+1) cap1).ownBlock=some k->k≠g2):=by
       intro k hk e;subst e;rcases a5 with a5|a5
       ·exact T3.out.ne _ hk a5
       ·have:=(T3.out.o1.block _ hk).2
        simp at this
        try simp at a5
        omega
      have K5:Kp z w5 (w5.setCell ⟨z,3,none⟩ (slice (some ⟨g2,0,none⟩) (os.length+1) cap2)):=Kp.set _ _ _;have T5:Hid (Two (w5.setCell ⟨z,3,none⟩ (slice (some ⟨g2,0,none⟩) (os.length+1) cap2)) (z+1) (slice (some ⟨g1,0,none⟩) (gs.length+1) cap1) (slice (some ⟨g2,0,none⟩) (os.length+1) cap2) (gs++[g]) (os++[o])):=
       (show Two w5 (z+1) (slice (some ⟨g1,0,none⟩) (gs.length+1) cap1) (slice (some ⟨g2,0,none⟩) (os.length+1) cap2) (gs++[g]) (os++[o]) from⟨O5,o5,λk hk e=>N5.out k hk (Option.some.inj e).symm⟩).kp K5 (Nat.lt_succ_self _)
      have D6:Hid (Dt (w5.setCell ⟨z,3,none⟩ (slice (some ⟨g2,0,none⟩) (os.length+1) cap2)) z (slice (some ⟨g1,0,none⟩) (gs.length+1) cap1) (slice (some ⟨g2,0,none⟩) (os.length+1) cap2) ⟨c,W,H,gs++[g],os++[o]⟩):=by
       unfold Hid Dt;rw[heap_setCell_same w5 z 3 _ _ _ D5];simp
      have B6:Hid (Below z w1 (w5.setCell ⟨z,3,none⟩ (slice (some ⟨g2,0,none⟩) (os.length+1) cap2))):=(B4.out.trans (b5.mono (Nat.le_succ _))).setCell (Nat.le_refl _) _;have e4:=D5.c3;have e5:w5.cell? _=some (int i64 (c:Nat)):=D5.c4;have f3:=D5.fz 3;have f4:=D5.fz 4;clear o5 g5 a5 l5 hob b5 D5 O5 K5 e2 e3 f2;go_wp2;go_ret;refine .inr ⟨_,RD.out,rfl,⟨(slice _ _ cap1),(slice _ _ cap2),?_,T5.out.kp (Kp.set _ _ _) (Nat.lt_succ_self _)⟩,B6.out.setCell (Nat.le_refl _) _⟩;unfold Dt;rw[heap_setCell_same _ z 4 _ _ _ D6.out];simp
 ·have HS:Hid (Fd.step s b=.inl 2):=step_none HB.out hm
  go_wp2_with fail
  go_quiet (fail);go_wp2;go_ret;exact .inl ⟨2,HS.out,rfl,by decide,_root_.Go.below_drewN (Below.refl _ _) _⟩
theorem EJ(z:Nat)(s:Fd.St)(b:UInt8)(w:World)(h:Dr w z s)(ok:zC s):
 Calls Tryz.prog 81 #[.pointer (some ⟨z,0,none⟩),.int .u8 (b.toNat:Nat)] w λe w'=>(∃f,Fd.step s b=.inl f/\e=.returned (.iface 85 (int i64 f))/\f≠0/\Below z w w')\/(∃s',Fd.step s b=.inr s'/\e=.returned .nilIface/\Dr w' z s'/\Below z w w'):=by
 by_cases hb:b=10
 ·subst hb
  exact Kv z s w h ok
 ·exact EI z s b w h ok hb
theorem RG{l:List UInt8}{k:Nat}(st:Fd.St)(h:k<l.length):Fd.run st k (l.drop k)=match Fd.step st l[k] with| .inl e=>.inl (k,e)| .inr s'=>Fd.run s' (k+1) (l.drop (k+1)):=by
 rw[List.drop_eq_getElem_cons h];rfl
def Says(l:List UInt8)(e:Ending)(w':World):Prop:=
 (∃(i:Nat) (f:Int),Fd.parse l=.inl (i,f)/\e=.returned (.tuple #[.agg #[int i64 0,int i64 0,slice none 0 0,slice none 0 0],int i64 (i:Nat),.iface 85 (int i64 f)])/\f≠0)\/
 (∃st u1 u2,Fd.parse l=.inr st/\e=.returned (.tuple #[.agg #[int i64 (st.W:Nat),int i64 (st.H:Nat),u1,u2],int i64 0,.nilIface])/\Ro w' u1 st.gs/\Ro w' u2 st.os)
def Ox(b:Nat)(l:List UInt8)(e:Ending)(w':World):Prop:=
 (∃(i:Nat) (f:Int),Fd.parse l=.inl (i,f)/\e=.returned (.tuple #[.agg #[int i64 0,int i64 0,slice none 0 0,slice none 0 0],int i64 (i:Nat),.iface 85 (int i64 f)])/\f≠0)\/
 (∃st u1 u2,Fd.parse l=.inr st/\e=.returned (.tuple #[.agg #[int i64 (st.W:Nat),int i64 (st.H:Nat),u1,u2],int i64 0,.nilIface])/\Two w' (b+1+1) u1 u2 st.gs st.os)
theorem EM(s:ByteArray)(w:World)(hs:s.size<=maxLen):
 Calls Tryz.prog 37 #[.string s] w λe w'=>Ox w.heap.size s.data.toList e w'/\Below w.heap.size w w':=by
 unfold maxLen at hs;generalize hl:s.data.toList=l;have Hl:=aj (hl);have Ll:Hid (l.length=s.size):=by unfold Hid;rw[<-hl];rfl
 clear hl;have P:Hid (Fd.parse l=match Fd.run Fd.st0 0 l with| .inl x=>.inl x| .inr s=>if 0<s.c\/s.H=0 then .inl _ else .inr s):=rfl;go_enter Tryz.func37,Tryz.ntmps37;go_wp2_with fail
 have B0:Hid (Below _ w ((w.alloc (Obj.cells #[int i64 0,int i64 0,slice none 0 0,slice none 0 0] 25)).alloc (Obj.cells #[int i64 0,int i64 0,slice none 0 0,slice none 0 0,int i64 0] 129))):=((Below.refl _ _).alloc (Nat.le_refl _) _).alloc (by simp) _;have D0:Hid (Dr ((w.alloc (Obj.cells #[int i64 0,int i64 0,slice none 0 0,slice none 0 0] 25)).alloc (Obj.cells #[int i64 0,int i64 0,slice none 0 0,slice none 0 0,int i64 0] 129)) (w.heap.size+1) Fd.st0):=by
  refine⟨slice none 0 0,slice none 0 0,?_,⟨Ow.nil _ _,Ow.nil _ _,λk h=>by cases h⟩⟩;have e:(w.alloc (Obj.cells #[int i64 0,int i64 0,slice none 0 0,slice none 0 0] 25)).heap.size=w.heap.size+1:=by simp
  unfold Dt;rw[<-e];exact heap_alloc_new _ _
 have X0:Hid (Bf ((w.alloc (Obj.cells #[int i64 0,int i64 0,slice none 0 0,slice none 0 0] 25)).alloc (Obj.cells #[int i64 0,int i64 0,slice none 0 0,slice none 0 0,int i64 0] 129)) w.heap.size 0 0 (slice none 0 0) (slice none 0 0)):=
  (Bf.mk' (w:=w) 0 0 (slice none 0 0) (slice none 0 0) rfl).below ((Below.refl _ _).alloc (Nat.le_refl _) _) (by simp)
 have Z0:Hid (∀i,((w.alloc (Obj.cells #[int i64 0,int i64 0,slice none 0 0,slice none 0 0] 25)).alloc (Obj.cells #[int i64 0,int i64 0,slice none 0 0,slice none 0 0,int i64 0] 129)).frozen? ⟨w.heap.size,i,none⟩=false):=by
  intro i;rw[((Below.refl _ (w.alloc (Obj.cells #[int i64 0,int i64 0,slice none 0 0,slice none 0 0] 25))).alloc (Nat.le_refl _) _).frozen (p:=⟨w.heap.size,i,none⟩) (by simp)];simp
 generalize (w.alloc _).alloc _=w0 at *;go_loopw [10] (λi W'=>∃(k:Nat) (st:Fd.St),k<=s.size/\i=int i64 (k:Nat)/\Dr W' (w.heap.size+1) st/\Fd.Inv st (l.take k)/\Fd.run st k (l.drop k)=Fd.run Fd.st0 0 l/\Below (w.heap.size+1) w0 W') (λi _=>s.size-(intOf i).toNat)
 case atStart=>exact⟨0,Fd.st0,Nat.zero_le _,rfl,D0,by simpa using Fd.inv0,by simp,Below.refl _ _⟩
 case round=>
  obtain⟨k,st,hk,rfl,hd,hi,hrun,hb⟩:=hrel;have D:=aj (hd);have I:=aj (hi);have R:=aj (hrun);have B:=aj (hb);have X:=aj (X0.out.below hb (Nat.lt_succ_self _));have Z:Hid (∀i,wr.frozen? _=false):=λi=>by rw[hb.frozen (p:=⟨w.heap.size,i,none⟩) (Nat.lt_succ_self _)];exact Z0.out i
  have BW:=aj (B0.out.trans (hb.mono (Nat.le_succ _)));clear hd hi hrun hb D0;by_cases h0:k=s.size
  ·subst h0
   have R2:Hid (Fd.run Fd.st0 0 l=.inr st):=by
    unfold Hid;rw[<-R.out,List.drop_of_length_le (by rw[Ll.out];exact Nat.le_refl _)];rfl
   obtain⟨u1,u2,hd,ht⟩:=D.out;have T:=aj (ht);have c0:=hd.c0;have c1:=hd.c1;have c2:=hd.c2;have c3:=hd.c3;have c4:=hd.c4;obtain⟨x0,x1,x2,x3⟩:=X.out;have z0:=Z.out 0;have z1:=Z.out 1;have z2:=Z.out 2;have z3:=Z.out 3;have k12:=I.out.c12;have h12:=I.out.h12;have w12:=I.out.w12;obtain⟨c,W,H,gs,os⟩:=st;simp only at c0 c1 c4 k12 h12 w12;have P2:Hid (Fd.parse l=if 0<c\/H=0 then .inl (l.length,2) else .inr ⟨c,W,H,gs,os⟩):=by
    unfold Hid;rw[P.out,R2.out]
   clear hd ht;by_cases q1:0<c
   ·go_wp2
    refine bodyPost_ret (by simp[results,Tryz.results37,go_sem,x0,x1,x2,x3]) rfl ⟨.inl ⟨s.size,2,by rw[P2.out,if_pos (.inl q1),Ll.out],rfl,by decide⟩,?_⟩;exact(((BW.out.setCell (Nat.le_refl _) _).setCell (Nat.le_refl _) _).setCell (Nat.le_refl _) _).setCell (Nat.le_refl _) _
   ·obtain rfl:c=0:=by omega
    by_cases q2:H=0
    ·subst q2
     go_wp2;refine bodyPost_ret (by simp[results,Tryz.results37,go_sem,x0,x1,x2,x3]) rfl ⟨.inl ⟨s.size,2,by rw[P2.out,Ll.out];simp,rfl,by decide⟩,?_⟩;exact(((BW.out.setCell (Nat.le_refl _) _).setCell (Nat.le_refl _) _).setCell (Nat.le_refl _) _).setCell (Nat.le_refl _) _
    ·have q2b:((H:Int)==0)=false:=by rw[beq_eq_false_iff_ne];omega
     obtain⟨p1,k1,rfl⟩:=T.out.o1.len;obtain⟨p2,k2,rfl⟩:=T.out.o2.len;have KK:Hid (Kp _ wr ((((wr.setCell ⟨w.heap.size,0,none⟩ (int i64 (W:Nat))).setCell ⟨w.heap.size,1,none⟩ (int i64 (H:Nat))).setCell ⟨w.heap.size,2,none⟩ (slice p1 gs.length k1)).setCell ⟨w.heap.size,3,none⟩ (slice p2 os.length k2))):=(((Kp.set _ _ _).trans (Kp.set _ _ _)).trans (Kp.set _ _ _)).trans (Kp.set _ _ _);go_wp2;refine bodyPost_ret (v:=.tuple #[.agg #[int i64 (W:Nat),int i64 (H:Nat),slice p1 gs.length k1,slice p2 os.length k2],int i64 0,.nilIface]) (by simp[results,Tryz.results37,go_sem,x0,x1,x2,x3]) rfl ⟨.inr ⟨_,_,_,by rw[P2.out,if_neg (by omega)],rfl,?_⟩,?_⟩
     ·exact T.out.kp KK.out (by omega)
     ·exact(((BW.out.setCell (Nat.le_refl _) _).setCell (Nat.le_refl _) _).setCell (Nat.le_refl _) _).setCell (Nat.le_refl _) _
  ·have hks:k<s.size:=by omega
   have hkl:k<l.length:=by rw[Ll.out];exact hks
   have RA:=RG st hkl;rw[R.out] at RA;have eb:l[k]=s[k]:=by
    have:=Hl.out;subst this;rfl
   rw[eb] at RA;have Vg:Hid _:=RA;have TK:Hid (l.take (k+1)=l.take k++[s[k]]):=by unfold Hid;rw[List.take_succ_eq_append_getElem hkl,eb]
   have KR:=aj (EJ _ st s[k] wr D.out (zC.of I.out));clear RA eb;go_wp2_with fail
   refine Calls.mono KR.out ?_;rintro e w1 hm;rcases hm with⟨f,hst,rfl,hf,hb⟩|⟨st',hst,rfl,hd',hb⟩
   ·have P2:Hid (Fd.parse l=.inl (k,f)):=by
     unfold Hid;rw[P.out,Vg.out,hst]
    have Hf:=aj (hf);have B1:=aj (BW.out.trans (hb.mono (Nat.le_succ _)));have X1:=X.out.below hb (Nat.lt_succ_self _);have z0:w1.frozen? ⟨w.heap.size,0,none⟩=false:=by rw[hb.frozen (p:=⟨w.heap.size,0,none⟩) (Nat.lt_succ_self _)];exact Z.out 0
    have z1:w1.frozen? ⟨w.heap.size,1,none⟩=false:=by rw[hb.frozen (p:=⟨w.heap.size,1,none⟩) (Nat.lt_succ_self _)];exact Z.out 1
    have z2:w1.frozen? ⟨w.heap.size,2,none⟩=false:=by rw[hb.frozen (p:=⟨w.heap.size,2,none⟩) (Nat.lt_succ_self _)];exact Z.out 2
    have z3:w1.frozen? ⟨w.heap.size,3,none⟩=false:=by rw[hb.frozen (p:=⟨w.heap.size,3,none⟩) (Nat.lt_succ_self _)];exact Z.out 3
    obtain⟨x0,x1,x2,x3⟩:=X1;clear hst hf hb KR Vg;go_wp2;refine bodyPost_ret (by simp[results,Tryz.results37,go_sem,x0,x1,x2,x3]) rfl ⟨.inl ⟨k,f,P2.out,rfl,Hf.out⟩,?_⟩;exact(((B1.out.setCell (Nat.le_refl _) _).setCell (Nat.le_refl _) _).setCell (Nat.le_refl _) _).setCell (Nat.le_refl _) _
   ·have I2:Hid (Fd.Inv st' (l.take (k+1))):=by unfold Hid;rw[TK.out];exact I.out.step hst
    have R2:Hid (Fd.run st' (k+1) (l.drop (k+1))=Fd.run Fd.st0 0 l):=by unfold Hid;rw[Vg.out,hst]
    have D2:=aj (hd');have B2:=aj (B.out.trans hb);clear hst hd' hb KR Vg;go_wp2;go_round
    case rel=>exact⟨k+1,st',by omega,by go_num,D2,I2,R2,B2⟩
    case measure=>simp[intOf];omega
theorem parse_any(s:ByteArray)(w:World)(hs:s.size<=maxLen):
 Calls Tryz.prog 37 #[.string s] w λe w'=>Says s.data.toList e w'/\Below w.heap.size w w':=
 (EM s w hs).mono λe w' ⟨h,hb⟩=>⟨h.imp id λ⟨st,u1,u2,h1,h2,h3⟩=>⟨st,u1,u2,h1,h2,h3.o1.ro,h3.o2.ro⟩,hb⟩
theorem UM{w:World}{z:Nat}(hz:w.heap.size=z):Kl (w.alloc (.cells #[.string ⟨#[98,97,115,101]⟩,int i64 50,int i64 0,int i64 0,int i64 4,int i64 0,int i64 50,int i64 5,int i64 0,.bool false,.bool true,.string ⟨#[100,105,103,103,101,114]⟩,int i64 10,int i64 0,int i64 0,int i64 3,int i64 2,int i64 10,int i64 2,int i64 20,.bool false,.bool false,.string ⟨#[102,105,103,104,116,101,114]⟩,int i64 20,int i64 4,int i64 1,int i64 4,int i64 2,int i64 20,int i64 3,int i64 0,.bool false,.bool false] 77)) (slice (some ⟨z,0,none⟩) 3 3) SK:=by
 subst hz;refine⟨_,3,rfl,Nat.le_refl _,by omega,λ_=>⟨_,rfl,by simp,λi k hi=>?_⟩⟩;have hl:i<3:=(List.getElem?_eq_some_iff.1 hi).1;rw[Addr.add_lit,Nat.zero_add]
 match i,hl,hi with
 |0,_,hi=>injection hi with hi;subst hi;constructor<;>simp
 |1,_,hi=>injection hi with hi;subst hi;constructor<;>simp
 |2,_,hi=>injection hi with hi;subst hi;constructor<;>simp
theorem fA(w:World):Calls Tryz.prog 11 #[] w λe w'=>∃u,e=.returned u/\Kl w' u SK/\Below w.heap.size w w':=by
 have KL:=aj (@UM w _ rfl);have BL:=aj ((Below.refl w.heap.size w).alloc (Nat.le_refl _) (.cells #[.string ⟨#[98,97,115,101]⟩,int i64 50,int i64 0,int i64 0,int i64 4,int i64 0,int i64 50,int i64 5,int i64 0,.bool false,.bool true,.string ⟨#[100,105,103,103,101,114]⟩,int i64 10,int i64 0,int i64 0,int i64 3,int i64 2,int i64 10,int i64 2,int i64 20,.bool false,.bool false,.string ⟨#[102,105,103,104,116,101,114]⟩,int i64 20,int i64 4,int i64 1,int i64 4,int i64 2,int i64 20,int i64 3,int i64 0,.bool false,.bool false] 77));go_enter Tryz.func11,Tryz.ntmps11;go_wp2;go_ret;exact⟨_,rfl,KL.out,BL.out⟩
theorem AZ{r:Value}(h:Er r 0):r=.nilIface:=by
 rcases h with⟨-,h⟩|⟨h,-⟩
 ·exact h
 ·exact absurd rfl h
theorem kF{w:World}{base:Nat}{u:Value}{Y:WV}(h:Wo w base u Y):∃p1 q1 p2 q2 p3 q3 p4 q4 p5 q5,u=.agg #[int i64 Y.turn,int i64 Y.next,int i64 Y.wide,int i64 Y.high,slice p1 Y.gs.length q1,slice p2 Y.os.length q2,slice p3 Y.gold.length q3,slice p4 Y.us.length q4,slice p5 Y.qs.length q5]:=by
 obtain⟨u1,u2,u3,u4,u5,rfl,h1,h2,h3,h4,h5⟩:=h;obtain⟨p1,q1,rfl⟩:=h1.len;obtain⟨p2,q2,rfl⟩:=h2.len;obtain⟨p3,q3,rfl⟩:=h3.len;obtain⟨p4,q4,rfl⟩:=h4.len;obtain⟨p5,q5,rfl⟩:=h5.len;exact⟨_,_,_,_,_,_,_,_,_,_,rfl⟩
abbrev Zx (w:World) (z:Nat):Prop:=Wx w z (int i64 0) (int i64 0) (int i64 0) (int i64 0) (slice none 0 0) (slice none 0 0) (slice none 0 0) (slice none 0 0) (slice none 0 0)
def O5(w:World)(base:Nat)(Y:WV)(u1 u2 u3 u4 u5:Value):Prop:=Ow w base u1 Y.gs/\Ow w base u2 Y.os/\Ow w base u3 Y.gold/\dO w base u4 Y.us/\dK w base u5 Y.qs
def N5(z:Nat)(u1 u2 u3 u4 u5:Value):Prop:=(∀i,u1.ownBlock=some i->i≠z)/\(∀i,u2.ownBlock=some i->i≠z)/\(∀i,u3.ownBlock=some i->i≠z)/\(∀i,u4.ownBlock=some i->i≠z)/\(∀i,u5.ownBlock=some i->i≠z)
def pt(w:World)(z:Nat)(Y:WV)(u1 u2 u3 u4 u5:Value):World:=(((((((((w.setCell ⟨z,0,none⟩ (int i64 Y.turn)).setCell ⟨z,1,none⟩ (int i64 Y.next)).setCell ⟨z,2,none⟩ (int i64 Y.wide)).setCell ⟨z,3,none⟩ (int i64 Y.high)).setCell ⟨z,4,none⟩ u1).setCell ⟨z,5,none⟩ u2).setCell ⟨z,6,none⟩ u3).setCell ⟨z,7,none⟩ u4).setCell ⟨z,8,none⟩ u5)
structure Sx(w:World)(Y:WV)(z:Nat)(u1 u2 u3 u4 u5:Value)(V:World):Prop where
 n:w.heap.size<z
 b:Below w.heap.size w V
 r:Zx V w.heap.size
 x:Wx V z (int i64 Y.turn) (int i64 Y.next) (int i64 Y.wide) (int i64 Y.high) u1 u2 u3 u4 u5
 o:O5 V (w.heap.size+1) Y u1 u2 u3 u4 u5
section
variable {w V V':World} {Y Y':WV} {z b:Nat} {u1 u2 u3 u4 u5 d0 d1 d2 d3 d4 d5 d6 d7 d8:Value}
theorem O5.below(h:O5 V b Y u1 u2 u3 u4 u5)(hb:Below V.heap.size V V'):O5 V' b Y u1 u2 u3 u4 u5:=⟨h.1.below hb,h.2.1.below hb,h.2.2.1.below hb,h.2.2.2.1.below hb,h.2.2.2.2.below hb⟩
theorem O5.nz(h:O5 V b Y u1 u2 u3 u4 u5)(hn:∀i,b<=i->i<V.heap.size->i≠z):N5 z u1 u2 u3 u4 u5:=⟨λk hk=>hn k (h.1.block k hk).1 (h.1.block k hk).2,λk hk=>hn k (h.2.1.block k hk).1 (h.2.1.block k hk).2,λk hk=>hn k (h.2.2.1.block k hk).1 (h.2.2.1.block k hk).2,λk hk=>hn k (h.2.2.2.1.block k hk).1 (h.2.2.2.1.block k hk).2,λk hk=>hn k (h.2.2.2.2.block k hk).1 (h.2.2.2.2.block k hk).2⟩
theorem qE{T:TypeId}{size n:Nat}{u:Value}{cs:List Value}(h:V.ownsRow b T size u n cs)(k:Kp z V V')(hn:∀i,u.ownBlock=some i->i≠z):V'.ownsRow b T size u n cs:=by
 refine⟨h.1,?_⟩;rcases h.2 with h1|⟨g,cap,cur,h1,h2,h3,h4⟩
 ·exact .inl h1
 ·exact .inr ⟨g,cap,cur,h1,h2,(k.block g (lt_of_block h3) (hn g (by rw[h1];rfl))).trans h3,h4⟩
theorem Sx.below(h:Sx w Y z u1 u2 u3 u4 u5 V)(hb:Below V.heap.size V V'):Sx w Y z u1 u2 u3 u4 u5 V':=
 ⟨h.n,h.b.trans (hb.mono h.b.size),h.r.below hb h.r.lt,h.x.below hb h.x.lt,h.o.below hb⟩
theorem uM(hz:w.heap.size<z)(B:Below w.heap.size w V)(R:Zx V w.heap.size)(Z:Wx V z d0 d1 d2 d3 d4 d5 d6 d7 d8)(O:O5 V b Y u1 u2 u3 u4 u5)(hb:w.heap.size+1<=b)(hn:N5 z u1 u2 u3 u4 u5):Sx w Y z u1 u2 u3 u4 u5 (pt V z Y u1 u2 u3 u4 u5):=by
 have K:=aY V z (int i64 Y.turn) (int i64 Y.next) (int i64 Y.wide) (int i64 Y.high) u1 u2 u3 u4 u5;exact⟨hz,K.below B B.size (Nat.le_of_lt hz),R.kp K (by omega),Z.put _ _ _ _ _ _ _ _ _,Ow.mono (qE O.1 K hn.1) hb,Ow.mono (qE O.2.1 K hn.2.1) hb,Ow.mono (qE O.2.2.1 K hn.2.2.1) hb,dO.mono (qE O.2.2.2.1 K hn.2.2.2.1) hb,dK.mono (qE O.2.2.2.2 K hn.2.2.2.2) hb⟩
end
def Zl(w:World)(Y:WV)(v:Value)(V:World):Prop:=∃z u1 u2 u3 u4 u5,v=.pointer (some ⟨z,0,none⟩)/\Sx w Y z u1 u2 u3 u4 u5 V
theorem O5.shape{w:World}{b:Nat}{Y:WV}{u1 u2 u3 u4 u5:Value}(h:O5 w b Y u1 u2 u3 u4 u5):∃p1 q1 p2 q2 p3 q3 p4 q4 p5 q5,u1=slice p1 Y.gs.length q1/\u2=slice p2 Y.os.length q2/\u3=slice p3 Y.gold.length q3/\u4=slice p4 Y.us.length q4/\u5=slice p5 Y.qs.length q5:=by
 obtain⟨h1,h2,h3,h4,h5⟩:=h;obtain⟨p1,q1,rfl⟩:=h1.len;obtain⟨p2,q2,rfl⟩:=h2.len;obtain⟨p3,q3,rfl⟩:=h3.len;obtain⟨p4,q4,rfl⟩:=h4.len;obtain⟨p5,q5,rfl⟩:=h5.len;exact⟨_,_,_,_,_,_,_,_,_,_,rfl,rfl,rfl,rfl,rfl⟩
theorem zD(ku:Value)(p1 p2:Option Addr)(q1 q2:Nat)(w:World)(hk:Kl w ku SK)(hf:Fl w (.agg #[int i64 4,int i64 2,slice p1 8 q1,slice p2 8 q2]) 4 2 SG SO):Calls Tryz.prog 38 #[ku,.agg #[int i64 4,int i64 2,slice p1 8 q1,slice p2 8 q2],int i64 2,int i64 100] w λe w'=>∃u1 u2 u3 u4 u5,e=.returned (.tuple #[.agg #[int i64 S0.turn,int i64 S0.next,int i64 S0.wide,int i64 S0.high,u1,u2,u3,u4,u5],.nilIface])/\O5 w' w.heap.size S0 u1 u2 u3 u4 u5/\Below w.heap.size w w':=
 (new_any ku _ SK 4 2 SG SO 2 100 w hk fO hf).mono λe w' ⟨u,r,he,hr,ho,hb⟩=>by
  rw[PX] at hr;rw[Xh] at ho;obtain rfl:=AZ hr;obtain⟨u1,u2,u3,u4,u5,rfl,o⟩:=ho;exact⟨u1,u2,u3,u4,u5,he,o,hb⟩
theorem qF{Y Y':WV}{pl kd at_:Int}{u1 u2 u3 u4 u5:Value}{b:Nat}(ku:Value)(w:World)(hk:Kl w ku SK)(o:O5 w b Y u1 u2 u3 u4 u5)(hf:Wd.dB SK Y pl kd at_=0)(hp:Wd.placed SK Y pl kd at_=Y'):Calls Tryz.prog 39 #[ku,.agg #[int i64 Y.turn,int i64 Y.next,int i64 Y.wide,int i64 Y.high,u1,u2,u3,u4,u5],int i64 pl,int i64 kd,int i64 at_] w λe w'=>∃v1 v2 v3 v4 v5,e=.returned (.tuple #[.agg #[int i64 Y'.turn,int i64 Y'.next,int i64 Y'.wide,int i64 Y'.high,v1,v2,v3,v4,v5],.nilIface])/\O5 w' w.heap.size Y' v1 v2 v3 v4 v5/\Below w.heap.size w w':=
 (rY ku _ SK Y pl kd at_ w hk fO ⟨_,_,_,_,_,rfl,o.1.ro,o.2.1.ro,o.2.2.1.ro,o.2.2.2.1.l,o.2.2.2.2.l⟩).mono λe w' ⟨u,r,he,hr,ho,hb⟩=>by
  rw[hf] at hr;rw[hp] at ho;obtain rfl:=AZ hr;obtain⟨v1,v2,v3,v4,v5,rfl,o⟩:=ho;exact⟨v1,v2,v3,v4,v5,he,o,hb⟩
structure Sf(w:World)(y:Nat)(p1 p2:Option Addr)(q1 q2:Nat)(V:World):Prop where
 b:Below w.heap.size w V
 r:Zx V w.heap.size
 x:Bx V y 4 2 (slice p1 8 q1) (slice p2 8 q2)
 f:Fl V (.agg #[int i64 4,int i64 2,slice p1 8 q1,slice p2 8 q2]) 4 2 SG SO
structure Sz(w:World)(y:Nat)(p1 p2:Option Addr)(q1 q2 z:Nat)(V:World):Prop where
 s:Sf w y p1 p2 q1 q2 V
 bx:Zx V z
 n:w.heap.size<z/\y≠z
section
variable {w V V':World} {y z q1 q2:Nat} {p1 p2:Option Addr}
theorem Sf.below(h:Sf w y p1 p2 q1 q2 V)(hb:Below V.heap.size V V'):Sf w y p1 p2 q1 q2 V':=⟨h.b.trans (hb.mono h.b.size),h.r.below hb h.r.lt,h.x.below hb h.x.lt,h.f.below hb⟩
theorem Sz.below(h:Sz w y p1 p2 q1 q2 z V)(hb:Below V.heap.size V V'):Sz w y p1 p2 q1 q2 z V':=⟨h.s.below hb,h.bx.below hb h.bx.lt,h.n⟩
theorem Sf.box(h:Sf w y p1 p2 q1 q2 V):Sz w y p1 p2 q1 q2 V.heap.size (V.alloc (.cells #[int i64 0,int i64 0,int i64 0,int i64 0,slice none 0 0,slice none 0 0,slice none 0 0,slice none 0 0,slice none 0 0] 29)):=⟨h.below ((Below.refl _ _).alloc (Nat.le_refl _) _),Wx.new _ _ _ _ _ _ _ _ _ rfl,h.r.lt,Nat.ne_of_lt h.x.lt⟩
theorem Sz.put{b:Nat}{u1 u2 u3 u4 u5:Value}(h:Sz w y p1 p2 q1 q2 z V)(O:O5 V b S0 u1 u2 u3 u4 u5)(hb:w.heap.size+1<=b)(hn:N5 z u1 u2 u3 u4 u5):Hid (Sx w S0 z u1 u2 u3 u4 u5 (pt V z S0 u1 u2 u3 u4 u5)/\Bx (pt V z S0 u1 u2 u3 u4 u5) y 4 2 (slice p1 8 q1) (slice p2 8 q2)):=by
 refine⟨uM h.n.1 h.s.b h.s.r h.bx O hb hn,?_⟩;have hc:∀i,(pt V z S0 u1 u2 u3 u4 u5).cell? ⟨y,i,none⟩=V.cell? ⟨y,i,none⟩:=λi=>by
  have:=(aY V z (int i64 S0.turn) (int i64 S0.next) (int i64 S0.wide) (int i64 S0.high) u1 u2 u3 u4 u5).block y h.s.x.lt h.n.2;unfold pt;simp only[World.cell?,this]
 exact⟨(hc 0).trans h.s.x.c0,(hc 1).trans h.s.x.c1,(hc 2).trans h.s.x.c2,(hc 3).trans h.s.x.c3⟩
end
theorem EP(w:World):Calls Tryz.prog 9 #[] w λe w'=>∃u,e=.returned (.tuple #[u,.bool true])/\Wo w' w.heap.size u S3/\Below w.heap.size w w':=by
 go_enter Tryz.func9,Tryz.ntmps9;go_upto_region 1 with fail
 have B0:=aj ((Below.refl w.heap.size w).alloc (Nat.le_refl _) (.cells #[int i64 0,int i64 0,int i64 0,int i64 0,slice none 0 0,slice none 0 0,slice none 0 0,slice none 0 0,slice none 0 0] 29));have R0:Hid (Zx (w.alloc (.cells #[int i64 0,int i64 0,int i64 0,int i64 0,slice none 0 0,slice none 0 0,slice none 0 0,slice none 0 0,slice none 0 0] 29)) w.heap.size):=Wx.new _ _ _ _ _ _ _ _ _ rfl;generalize (w.alloc (.cells #[int i64 0,int i64 0,int i64 0,int i64 0,slice none 0 0,slice none 0 0,slice none 0 0,slice none 0 0,slice none 0 0] 29))=w0 at *;go_wp2_with fail
 refine(parse_any ⟨#[46,46,46,46,10,46,46,51,46,10]⟩ w0 (by decide)).mono ?_;rintro e w1 ⟨hs,hb⟩;have hp:Fd.parse (⟨#[46,46,46,46,10,46,46,51,46,10]⟩:ByteArray).data.toList=.inr ⟨0,4,2,SG,SO⟩:=J_;rcases hs with⟨i,f,h1,-⟩|⟨st,u1,u2,h1,h2,r1,r2⟩
 ·rw[hp] at h1;cases h1
 rw[hp] at h1;injection h1 with h1
 subst h1;subst h2;have RO:Hid (Ro w1 u1 SG/\Ro w1 u2 SO):=⟨r1,r2⟩;obtain⟨p1,q1,rfl,-⟩:=r1;obtain⟨p2,q2,rfl,-⟩:=r2;have B1:Hid (Below w.heap.size w w1/\Zx w1 w.heap.size):=⟨B0.out.trans (hb.mono B0.out.size),R0.out.below hb R0.out.lt⟩;clear hb hp B0 R0;have l8:SG.length=8:=rfl;have l8':SO.length=8:=rfl;rw[l8,l8'] at *;clear l8 l8';go_upto_region 2 with fail
 obtain⟨y,hy⟩:∃y,w1.heap.size=y:=⟨_,rfl⟩;have D2:Hid (Sf w y p1 p2 q1 q2 (w1.alloc (.cells #[int i64 4,int i64 2,slice p1 8 q1,slice p2 8 q2] 25))):=
  have BA:=(Below.refl _ _).alloc (Nat.le_refl _) _
  ⟨B1.out.1.trans (BA.mono B1.out.1.size),B1.out.2.below BA B1.out.2.lt,Bx.mk' _ _ _ _ hy,_,_,rfl,RO.out.1.below BA,RO.out.2.below BA⟩
 rw[hy];generalize (w1.alloc (.cells #[int i64 4,int i64 2,slice p1 8 q1,slice p2 8 q2] 25))=w2 at *;clear B1 RO hy;go_cut [5,6] (λv5 v6 V=>v6=.nilIface/\Zl w S0 v5 V)
 case first=>
  have D3:Hid (Sf w y p1 p2 q1 q2 {w2 with drawn:=w2.drawn+1}):=D2.out.below (Below.refl _ _).drew;refine jS 6 [(true,1),(false,0),(false,2),(true,3),(true,4),(true,5)] [(false,7)] [(false,8)] (λV=>Bx V y 4 2 (slice p1 8 q1) (slice p2 8 q2)) (by kernel_rfl) (by kernel_rfl) (by kernel_rfl) (by decide+kernel) (by decide+kernel) D3.out.x ?_;generalize ({w2 with drawn:=w2.drawn+1}:World)=w3 at *;clear D2;refine bD rfl (.agg #[int i64 4,int i64 2,slice p1 8 q1,slice p2 8 q2]) (by go_simp) (λV hV=>by obtain⟨f0,f1,f2,f3⟩:=hV;go_simp) ?_;go_simp;have Z3:=aj D3.out.box;refine lK rfl 11 #[] (by go_simp) (by go_simp) ?_ rfl (.pointer (some ⟨w3.heap.size,0,none⟩)) (w3.alloc (.cells #[int i64 0,int i64 0,int i64 0,int i64 0,slice none 0 0,slice none 0 0,slice none 0 0,slice none 0 0,slice none 0 0] 29)) (by go_simp) (by go_simp) Z3.out.s.x ?_
  ·clear Z3
   refine(fA w3).mono ?_;rintro e w4 ⟨ku,rfl,hk,hb⟩;have K4:Hid (Kl w4 ku SK):=hk;have D4:=aj (D3.out.below hb);have Z4:=aj D4.out.box;have K5:=aj (K4.out.below ((Below.refl _ _).alloc (Nat.le_refl _) (.cells #[int i64 0,int i64 0,int i64 0,int i64 0,slice none 0 0,slice none 0 0,slice none 0 0,slice none 0 0,slice none 0 0] 29)));clear hk hb D3;refine⟨_,rfl,D4.out.x,?_⟩;go_simp;refine lK rfl 38 #[ku,.agg #[int i64 4,int i64 2,slice p1 8 q1,slice p2 8 q2],int i64 2,int i64 100] (by go_simp) (by go_simp) ?_ rfl (.pointer (some ⟨w4.heap.size,0,none⟩)) (w4.alloc (.cells #[int i64 0,int i64 0,int i64 0,int i64 0,slice none 0 0,slice none 0 0,slice none 0 0,slice none 0 0,slice none 0 0] 29)) (by go_simp) (by go_simp) Z4.out.s.x ?_
   ·refine(zD ku p1 p2 q1 q2 w4 K4.out D4.out.f).mono ?_
    rintro e w5 ⟨u1,u2,u3,u4,u5,rfl,ho,hb⟩;obtain⟨a1,b1,a2,b2,a3,b3,a4,b4,a5,b5,rfl,rfl,rfl,rfl,rfl⟩:=ho.shape;have D5:=aj (D4.out.below hb);have Z5:=aj D5.out.box;have P5:=Z5.out.put (ho.below ((Below.refl _ _).alloc (Nat.le_refl _) (.cells #[int i64 0,int i64 0,int i64 0,int i64 0,slice none 0 0,slice none 0 0,slice none 0 0,slice none 0 0,slice none 0 0] 29))) D4.out.r.lt (ho.nz (λi _ hi=>Nat.ne_of_lt hi));clear ho hb K4 D4 Z4 K5;refine⟨_,rfl,D5.out.x,?_⟩;go_simp;refine bD rfl (.tuple #[.agg #[int i64 S0.turn,int i64 S0.next,int i64 S0.wide,int i64 S0.high,slice a1 S0.gs.length b1,slice a2 S0.os.length b2,slice a3 S0.gold.length b3,slice a4 S0.us.length b4,slice a5 S0.qs.length b5],.nilIface]) (by go_simp) (λV hV=>by go_simp) ?_;go_simp;refine bD rfl (.agg #[int i64 S0.turn,int i64 S0.next,int i64 S0.wide,int i64 S0.high,slice a1 S0.gs.length b1,slice a2 S0.os.length b2,slice a3 S0.gold.length b3,slice a4 S0.us.length b4,slice a5 S0.qs.length b5]) (by go_simp) (λV hV=>by go_simp) ?_;go_simp;refine bD rfl (.nilIface) (by go_simp) (λV hV=>by go_simp) ?_;go_simp;refine pU rfl (.pointer (some ⟨w5.heap.size,0,none⟩)) (w5.alloc (.cells #[int i64 0,int i64 0,int i64 0,int i64 0,slice none 0 0,slice none 0 0,slice none 0 0,slice none 0 0,slice none 0 0] 29)) (by go_simp) (by go_simp) Z5.out.s.x ?_;go_simp;generalize w5.heap.size=z at *;generalize (w5.alloc (.cells #[int i64 0,int i64 0,int i64 0,int i64 0,slice none 0 0,slice none 0 0,slice none 0 0,slice none 0 0,slice none 0 0] 29))=w5 at *;obtain⟨x0,x1,x2,x3,x4,x5,x6,x7,x8⟩:=Z5.out.bx.cells;obtain⟨t0,t1,t2,t3,t4,t5,t6,t7,t8⟩:=Z5.out.bx.aU;refine gZ rfl (pt w5 z S0 (slice a1 S0.gs.length b1) (slice a2 S0.os.length b2) (slice a3 S0.gold.length b3) (slice a4 S0.us.length b4) (slice a5 S0.qs.length b5)) (by go_simp) (by unfold pt;go_simp) P5.out.2 ?_;go_simp;clear x0 x1 x2 x3 x4 x5 x6 x7 x8 t0 t1 t2 t3 t4 t5 t6 t7 t8;generalize pt w5 z S0 (slice a1 S0.gs.length b1) (slice a2 S0.os.length b2) (slice a3 S0.gold.length b3) (slice a4 S0.us.length b4) (slice a5 S0.qs.length b5)=w6 at *;unfold aP;refine aC rfl .nilIface w6 (by go_simp) (by go_simp) trivial ?_;go_simp;unfold aH;go_wp2_with fail
    go_meet
    case rel=>exact⟨rfl,z,_,_,_,_,_,rfl,P5.out.1⟩
   ·go_simp
    clear K4 D4;generalize w4.heap.size=z at *;generalize (w4.alloc (.cells #[int i64 0,int i64 0,int i64 0,int i64 0,slice none 0 0,slice none 0 0,slice none 0 0,slice none 0 0,slice none 0 0] 29))=w4 at *;have K4:=K5;clear K5;refine aJ rfl 38 #[ku,.agg #[int i64 4,int i64 2,slice p1 8 q1,slice p2 8 q2],int i64 2,int i64 100] (by go_simp) (by go_simp) ?_;refine(zD ku p1 p2 q1 q2 _ K4.out Z4.out.s.f).mono ?_;rintro e w5 ⟨u1,u2,u3,u4,u5,rfl,ho,hb⟩;obtain⟨a1,b1,a2,b2,a3,b3,a4,b4,a5,b5,rfl,rfl,rfl,rfl,rfl⟩:=ho.shape;have P5:=(Z4.out.below hb).put ho Z4.out.s.r.lt (ho.nz (λi hi _=>by have:=Z4.out.bx.lt;omega));have Z5:=aj (Z4.out.below hb);clear ho hb K4 Z4;refine⟨_,rfl,Z5.out.s.x,?_⟩;go_simp;refine au rfl (.tuple #[.agg #[int i64 S0.turn,int i64 S0.next,int i64 S0.wide,int i64 S0.high,slice a1 S0.gs.length b1,slice a2 S0.os.length b2,slice a3 S0.gold.length b3,slice a4 S0.us.length b4,slice a5 S0.qs.length b5],.nilIface]) (by go_simp) (λV hV=>by go_simp) ?_;go_simp;refine au rfl (.agg #[int i64 S0.turn,int i64 S0.next,int i64 S0.wide,int i64 S0.high,slice a1 S0.gs.length b1,slice a2 S0.os.length b2,slice a3 S0.gold.length b3,slice a4 S0.us.length b4,slice a5 S0.qs.length b5]) (by go_simp) (λV hV=>by go_simp) ?_;go_simp;refine au rfl (.nilIface) (by go_simp) (λV hV=>by go_simp) ?_;go_simp;obtain⟨x0,x1,x2,x3,x4,x5,x6,x7,x8⟩:=Z5.out.bx.cells;obtain⟨t0,t1,t2,t3,t4,t5,t6,t7,t8⟩:=Z5.out.bx.aU;refine gZ rfl (pt w5 z S0 (slice a1 S0.gs.length b1) (slice a2 S0.os.length b2) (slice a3 S0.gold.length b3) (slice a4 S0.us.length b4) (slice a5 S0.qs.length b5)) (by go_simp) (by unfold pt;go_simp) P5.out.2 ?_;go_simp;clear x0 x1 x2 x3 x4 x5 x6 x7 x8 t0 t1 t2 t3 t4 t5 t6 t7 t8;generalize pt w5 z S0 (slice a1 S0.gs.length b1) (slice a2 S0.os.length b2) (slice a3 S0.gold.length b3) (slice a4 S0.us.length b4) (slice a5 S0.qs.length b5)=w6 at *;unfold aP;refine aC rfl .nilIface w6 (by go_simp) (by go_simp) trivial ?_;go_simp;unfold aH;go_wp2_with fail
    go_meet
    case rel=>exact⟨rfl,z,_,_,_,_,_,rfl,P5.out.1⟩
  ·go_simp
   clear D3;generalize w3.heap.size=z at *;generalize (w3.alloc (.cells #[int i64 0,int i64 0,int i64 0,int i64 0,slice none 0 0,slice none 0 0,slice none 0 0,slice none 0 0,slice none 0 0] 29))=w3 at *;refine aJ rfl 11 #[] (by go_simp) (by go_simp) ?_;refine(fA w3).mono ?_;rintro e w4 ⟨ku,rfl,hk,hb⟩;have K4:Hid (Kl w4 ku SK):=hk;have Z4:=aj (Z3.out.below hb);clear hk hb Z3;refine⟨_,rfl,Z4.out.s.x,?_⟩;go_simp;refine aJ rfl 38 #[ku,.agg #[int i64 4,int i64 2,slice p1 8 q1,slice p2 8 q2],int i64 2,int i64 100] (by go_simp) (by go_simp) ?_;refine(zD ku p1 p2 q1 q2 _ K4.out Z4.out.s.f).mono ?_;rintro e w5 ⟨u1,u2,u3,u4,u5,rfl,ho,hb⟩;obtain⟨a1,b1,a2,b2,a3,b3,a4,b4,a5,b5,rfl,rfl,rfl,rfl,rfl⟩:=ho.shape;have P5:=(Z4.out.below hb).put ho Z4.out.s.r.lt (ho.nz (λi hi _=>by have:=Z4.out.bx.lt;omega));have Z5:=aj (Z4.out.below hb);clear ho hb K4 Z4;refine⟨_,rfl,Z5.out.s.x,?_⟩;go_simp;refine au rfl (.tuple #[.agg #[int i64 S0.turn,int i64 S0.next,int i64 S0.wide,int i64 S0.high,slice a1 S0.gs.length b1,slice a2 S0.os.length b2,slice a3 S0.gold.length b3,slice a4 S0.us.length b4,slice a5 S0.qs.length b5],.nilIface]) (by go_simp) (λV hV=>by go_simp) ?_;go_simp;refine au rfl (.agg #[int i64 S0.turn,int i64 S0.next,int i64 S0.wide,int i64 S0.high,slice a1 S0.gs.length b1,slice a2 S0.os.length b2,slice a3 S0.gold.length b3,slice a4 S0.us.length b4,slice a5 S0.qs.length b5]) (by go_simp) (λV hV=>by go_simp) ?_;go_simp;refine au rfl (.nilIface) (by go_simp) (λV hV=>by go_simp) ?_;go_simp;obtain⟨x0,x1,x2,x3,x4,x5,x6,x7,x8⟩:=Z5.out.bx.cells;obtain⟨t0,t1,t2,t3,t4,t5,t6,t7,t8⟩:=Z5.out.bx.aU;refine gZ rfl (pt w5 z S0 (slice a1 S0.gs.length b1) (slice a2 S0.os.length b2) (slice a3 S0.gold.length b3) (slice a4 S0.us.length b4) (slice a5 S0.qs.length b5)) (by go_simp) (by unfold pt;go_simp) P5.out.2 ?_;go_simp;clear x0 x1 x2 x3 x4 x5 x6 x7 x8 t0 t1 t2 t3 t4 t5 t6 t7 t8;generalize pt w5 z S0 (slice a1 S0.gs.length b1) (slice a2 S0.os.length b2) (slice a3 S0.gold.length b3) (slice a4 S0.us.length b4) (slice a5 S0.qs.length b5)=w6 at *;unfold aP;refine aC rfl .nilIface w6 (by go_simp) (by go_simp) trivial ?_;go_simp;unfold aH;go_wp2_with fail
   go_meet
   case rel=>exact⟨rfl,z,_,_,_,_,_,rfl,P5.out.1⟩
 case rest=>
  obtain⟨rfl,z,u1,u2,u3,u4,u5,rfl,hS⟩:=hcut;have P0:Hid (Sx w S0 z u1 u2 u3 u4 u5 wc):=hS;clear hS D2;generalize wc=w0 at *;go_upto_region 3 with fail
  have D3:Hid (Sx w S0 z u1 u2 u3 u4 u5 {w0 with drawn:=w0.drawn+1}):=P0.out.below (Below.refl _ _).drew;refine aF [(true,1),(false,0),(false,2),(true,3)] [(true,4),(true,5),(false,6),(false,7)] (λV=>Wx V z (int i64 S0.turn) (int i64 S0.next) (int i64 S0.wide) (int i64 S0.high) u1 u2 u3 u4 u5) (by kernel_rfl) (by kernel_rfl) (by kernel_rfl) (by decide+kernel) (by decide+kernel) D3.out.x ?_;generalize ({w0 with drawn:=w0.drawn+1}:World)=v3 at *;clear P0;refine au rfl (.agg #[int i64 S0.turn,int i64 S0.next,int i64 S0.wide,int i64 S0.high,u1,u2,u3,u4,u5]) (by go_simp) (λV hV=>by obtain⟨x0,x1,x2,x3,x4,x5,x6,x7,x8⟩:=hV.cells;go_simp) ?_;go_simp;refine aJ rfl 11 #[] (by go_simp) (by go_simp) ?_;refine(fA v3).mono ?_;rintro e v4 ⟨ku,rfl,hk,hb⟩;have K4:Hid (Kl v4 ku SK):=hk;have D4:=aj (D3.out.below hb);clear hk hb D3;refine⟨_,rfl,D4.out.x,?_⟩;go_simp;refine aJ rfl 39 #[ku,.agg #[int i64 S0.turn,int i64 S0.next,int i64 S0.wide,int i64 S0.high,u1,u2,u3,u4,u5],int i64 0,int i64 0,int i64 0] (by go_simp) (by go_simp) ?_;refine(qF ku v4 K4.out D4.out.o PZ Xi).mono ?_;rintro e v5 ⟨v1,v2,v3,v4,v5',rfl,ho,hb⟩;obtain⟨m1,n1,m2,n2,m3,n3,m4,n4,m5,n5,rfl,rfl,rfl,rfl,rfl⟩:=ho.shape;have D5:=aj (D4.out.below hb);have P1:=aj (uM D4.out.n D5.out.b D5.out.r D5.out.x ho D4.out.r.lt (ho.nz (λi hi _=>by have:=D4.out.x.lt;omega)));clear ho hb K4 D4;refine⟨_,rfl,D5.out.x,?_⟩;go_simp;refine au rfl (.tuple #[.agg #[int i64 S1.turn,int i64 S1.next,int i64 S1.wide,int i64 S1.high,slice m1 S1.gs.length n1,slice m2 S1.os.length n2,slice m3 S1.gold.length n3,slice m4 S1.us.length n4,slice m5 S1.qs.length n5],.nilIface]) (by go_simp) (λV hV=>by go_simp) ?_;go_simp;unfold aP;obtain⟨x0,x1,x2,x3,x4,x5,x6,x7,x8⟩:=D5.out.x.cells;obtain⟨t0,t1,t2,t3,t4,t5,t6,t7,t8⟩:=D5.out.x.aU;refine aI rfl (.agg #[int i64 S1.turn,int i64 S1.next,int i64 S1.wide,int i64 S1.high,slice m1 S1.gs.length n1,slice m2 S1.os.length n2,slice m3 S1.gold.length n3,slice m4 S1.us.length n4,slice m5 S1.qs.length n5]) (by go_simp) (λV hV=>by go_simp) ?_;go_simp;refine aI rfl (.nilIface) (by go_simp) (λV hV=>by go_simp) ?_;go_simp;refine dM rfl (pt v5 z S1 (slice m1 S1.gs.length n1) (slice m2 S1.os.length n2) (slice m3 S1.gold.length n3) (slice m4 S1.us.length n4) (slice m5 S1.qs.length n5)) (by go_simp) (by unfold pt;go_simp) trivial ?_;go_simp;clear x0 x1 x2 x3 x4 x5 x6 x7 x8 t0 t1 t2 t3 t4 t5 t6 t7 t8 D5;obtain⟨u1,u2,u3,u4,u5,P1⟩:∃u1 u2 u3 u4 u5,Hid (Sx w S1 z u1 u2 u3 u4 u5 (pt v5 z S1 (slice m1 S1.gs.length n1) (slice m2 S1.os.length n2) (slice m3 S1.gold.length n3) (slice m4 S1.us.length n4) (slice m5 S1.qs.length n5))):=⟨_,_,_,_,_,P1⟩;generalize pt v5 z S1 (slice m1 S1.gs.length n1) (slice m2 S1.os.length n2) (slice m3 S1.gold.length n3) (slice m4 S1.us.length n4) (slice m5 S1.qs.length n5)=w1 at *;refine aC rfl .nilIface w1 (by go_simp) (by go_simp) trivial ?_;go_simp;unfold aH;go_upto_region 4 with fail
  have D3:Hid (Sx w S1 z u1 u2 u3 u4 u5 {w1 with drawn:=w1.drawn+1}):=P1.out.below (Below.refl _ _).drew;refine aF [(true,1),(false,0),(false,2),(true,3)] [(true,4),(true,5),(false,6),(false,7)] (λV=>Wx V z (int i64 S1.turn) (int i64 S1.next) (int i64 S1.wide) (int i64 S1.high) u1 u2 u3 u4 u5) (by kernel_rfl) (by kernel_rfl) (by kernel_rfl) (by decide+kernel) (by decide+kernel) D3.out.x ?_;generalize ({w1 with drawn:=w1.drawn+1}:World)=v3 at *;clear P1;refine au rfl (.agg #[int i64 S1.turn,int i64 S1.next,int i64 S1.wide,int i64 S1.high,u1,u2,u3,u4,u5]) (by go_simp) (λV hV=>by obtain⟨x0,x1,x2,x3,x4,x5,x6,x7,x8⟩:=hV.cells;go_simp) ?_;go_simp;refine aJ rfl 11 #[] (by go_simp) (by go_simp) ?_;refine(fA v3).mono ?_;rintro e v4 ⟨ku,rfl,hk,hb⟩;have K4:Hid (Kl v4 ku SK):=hk;have D4:=aj (D3.out.below hb);clear hk hb D3;refine⟨_,rfl,D4.out.x,?_⟩;go_simp;refine aJ rfl 39 #[ku,.agg #[int i64 S1.turn,int i64 S1.next,int i64 S1.wide,int i64 S1.high,u1,u2,u3,u4,u5],int i64 0,int i64 1,int i64 1] (by go_simp) (by go_simp) ?_;refine(qF ku v4 K4.out D4.out.o P_ Xj).mono ?_;rintro e v5 ⟨v1,v2,v3,v4,v5',rfl,ho,hb⟩;obtain⟨m1,n1,m2,n2,m3,n3,m4,n4,m5,n5,rfl,rfl,rfl,rfl,rfl⟩:=ho.shape;have D5:=aj (D4.out.below hb);have P2:=aj (uM D4.out.n D5.out.b D5.out.r D5.out.x ho D4.out.r.lt (ho.nz (λi hi _=>by have:=D4.out.x.lt;omega)));clear ho hb K4 D4;refine⟨_,rfl,D5.out.x,?_⟩;go_simp;refine au rfl (.tuple #[.agg #[int i64 S2.turn,int i64 S2.next,int i64 S2.wide,int i64 S2.high,slice m1 S2.gs.length n1,slice m2 S2.os.length n2,slice m3 S2.gold.length n3,slice m4 S2.us.length n4,slice m5 S2.qs.length n5],.nilIface]) (by go_simp) (λV hV=>by go_simp) ?_;go_simp;unfold aP;obtain⟨x0,x1,x2,x3,x4,x5,x6,x7,x8⟩:=D5.out.x.cells;obtain⟨t0,t1,t2,t3,t4,t5,t6,t7,t8⟩:=D5.out.x.aU;refine aI rfl (.agg #[int i64 S2.turn,int i64 S2.next,int i64 S2.wide,int i64 S2.high,slice m1 S2.gs.length n1,slice m2 S2.os.length n2,slice m3 S2.gold.length n3,slice m4 S2.us.length n4,slice m5 S2.qs.length n5]) (by go_simp) (λV hV=>by go_simp) ?_;go_simp;refine aI rfl (.nilIface) (by go_simp) (λV hV=>by go_simp) ?_;go_simp;refine dM rfl (pt v5 z S2 (slice m1 S2.gs.length n1) (slice m2 S2.os.length n2) (slice m3 S2.gold.length n3) (slice m4 S2.us.length n4) (slice m5 S2.qs.length n5)) (by go_simp) (by unfold pt;go_simp) trivial ?_;go_simp;clear x0 x1 x2 x3 x4 x5 x6 x7 x8 t0 t1 t2 t3 t4 t5 t6 t7 t8 D5;obtain⟨u1,u2,u3,u4,u5,P2⟩:∃u1 u2 u3 u4 u5,Hid (Sx w S2 z u1 u2 u3 u4 u5 (pt v5 z S2 (slice m1 S2.gs.length n1) (slice m2 S2.os.length n2) (slice m3 S2.gold.length n3) (slice m4 S2.us.length n4) (slice m5 S2.qs.length n5))):=⟨_,_,_,_,_,P2⟩;generalize pt v5 z S2 (slice m1 S2.gs.length n1) (slice m2 S2.os.length n2) (slice m3 S2.gold.length n3) (slice m4 S2.us.length n4) (slice m5 S2.qs.length n5)=w2 at *;refine aC rfl .nilIface w2 (by go_simp) (by go_simp) trivial ?_;go_simp;unfold aH;go_upto_region 5 with fail
  have D3:Hid (Sx w S2 z u1 u2 u3 u4 u5 {w2 with drawn:=w2.drawn+1}):=P2.out.below (Below.refl _ _).drew;refine aF [(true,1),(false,0),(false,2),(true,3)] [(true,4),(true,5),(false,6),(false,7)] (λV=>Wx V z (int i64 S2.turn) (int i64 S2.next) (int i64 S2.wide) (int i64 S2.high) u1 u2 u3 u4 u5) (by kernel_rfl) (by kernel_rfl) (by kernel_rfl) (by decide+kernel) (by decide+kernel) D3.out.x ?_;generalize ({w2 with drawn:=w2.drawn+1}:World)=v3 at *;clear P2;refine au rfl (.agg #[int i64 S2.turn,int i64 S2.next,int i64 S2.wide,int i64 S2.high,u1,u2,u3,u4,u5]) (by go_simp) (λV hV=>by obtain⟨x0,x1,x2,x3,x4,x5,x6,x7,x8⟩:=hV.cells;go_simp) ?_;go_simp;refine aJ rfl 11 #[] (by go_simp) (by go_simp) ?_;refine(fA v3).mono ?_;rintro e v4 ⟨ku,rfl,hk,hb⟩;have K4:Hid (Kl v4 ku SK):=hk;have D4:=aj (D3.out.below hb);clear hk hb D3;refine⟨_,rfl,D4.out.x,?_⟩;go_simp;refine aJ rfl 39 #[ku,.agg #[int i64 S2.turn,int i64 S2.next,int i64 S2.wide,int i64 S2.high,u1,u2,u3,u4,u5],int i64 1,int i64 2,int i64 3] (by go_simp) (by go_simp) ?_;refine(qF ku v4 K4.out D4.out.o Qa Xk).mono ?_;rintro e v5 ⟨v1,v2,v3,v4,v5',rfl,ho,hb⟩;obtain⟨m1,n1,m2,n2,m3,n3,m4,n4,m5,n5,rfl,rfl,rfl,rfl,rfl⟩:=ho.shape;have D5:=aj (D4.out.below hb);have P3:=aj (uM D4.out.n D5.out.b D5.out.r D5.out.x ho D4.out.r.lt (ho.nz (λi hi _=>by have:=D4.out.x.lt;omega)));clear ho hb K4 D4;refine⟨_,rfl,D5.out.x,?_⟩;go_simp;refine au rfl (.tuple #[.agg #[int i64 S3.turn,int i64 S3.next,int i64 S3.wide,int i64 S3.high,slice m1 S3.gs.length n1,slice m2 S3.os.length n2,slice m3 S3.gold.length n3,slice m4 S3.us.length n4,slice m5 S3.qs.length n5],.nilIface]) (by go_simp) (λV hV=>by go_simp) ?_;go_simp;unfold aP;obtain⟨x0,x1,x2,x3,x4,x5,x6,x7,x8⟩:=D5.out.x.cells;obtain⟨t0,t1,t2,t3,t4,t5,t6,t7,t8⟩:=D5.out.x.aU;refine aI rfl (.agg #[int i64 S3.turn,int i64 S3.next,int i64 S3.wide,int i64 S3.high,slice m1 S3.gs.length n1,slice m2 S3.os.length n2,slice m3 S3.gold.length n3,slice m4 S3.us.length n4,slice m5 S3.qs.length n5]) (by go_simp) (λV hV=>by go_simp) ?_;go_simp;refine aI rfl (.nilIface) (by go_simp) (λV hV=>by go_simp) ?_;go_simp;refine dM rfl (pt v5 z S3 (slice m1 S3.gs.length n1) (slice m2 S3.os.length n2) (slice m3 S3.gold.length n3) (slice m4 S3.us.length n4) (slice m5 S3.qs.length n5)) (by go_simp) (by unfold pt;go_simp) trivial ?_;go_simp;clear x0 x1 x2 x3 x4 x5 x6 x7 x8 t0 t1 t2 t3 t4 t5 t6 t7 t8 D5;obtain⟨u1,u2,u3,u4,u5,P3⟩:∃u1 u2 u3 u4 u5,Hid (Sx w S3 z u1 u2 u3 u4 u5 (pt v5 z S3 (slice m1 S3.gs.length n1) (slice m2 S3.os.length n2) (slice m3 S3.gold.length n3) (slice m4 S3.us.length n4) (slice m5 S3.qs.length n5))):=⟨_,_,_,_,_,P3⟩;generalize pt v5 z S3 (slice m1 S3.gs.length n1) (slice m2 S3.os.length n2) (slice m3 S3.gold.length n3) (slice m4 S3.us.length n4) (slice m5 S3.qs.length n5)=w3 at *;refine aC rfl .nilIface w3 (by go_simp) (by go_simp) trivial ?_;go_simp;unfold aH;go_upto_region 6 with fail
  obtain⟨k1,r1,k2,r2,g,h,i,j,k5,r5,rfl,rfl,rfl,rfl,rfl⟩:=P3.out.o.shape;rw[show S3.us.length=3 from rfl,show S3.gold.length=2 from rfl] at *;have D3:Hid (Sx w S3 z (slice k1 S3.gs.length r1) (slice k2 S3.os.length r2) (slice g 2 h) (slice i 3 j) (slice k5 S3.qs.length r5) {w3 with drawn:=w3.drawn+1}):=P3.out.below (Below.refl _ _).drew;refine aF [(true,0),(true,1),(true,2),(true,3),(true,4),(true,5),(true,6),(true,7),(true,8),(true,9),(true,10),(true,11),(true,12),(true,13),(true,14),(true,15),(true,16),(true,17),(true,18),(true,19),(true,20),(true,21),(true,22),(true,23),(true,24),(true,25),(true,26),(true,27),(true,28),(true,29),(true,30),(false,31)] [(false,32)] (λV=>Wx V z (int i64 S3.turn) (int i64 S3.next) (int i64 S3.wide) (int i64 S3.high) (slice k1 S3.gs.length r1) (slice k2 S3.os.length r2) (slice g 2 h) (slice i 3 j) (slice k5 S3.qs.length r5)) (by kernel_rfl) (by kernel_rfl) (by kernel_rfl) (by decide+kernel) (by decide+kernel) D3.out.x ?_;generalize ({w3 with drawn:=w3.drawn+1}:World)=v3 at *;clear P3;refine au rfl (.agg #[int i64 S3.turn,int i64 S3.next,int i64 S3.wide,int i64 S3.high,slice k1 S3.gs.length r1,slice k2 S3.os.length r2,slice g 2 h,slice i 3 j,slice k5 S3.qs.length r5]) (by go_simp) (λV hV=>by obtain⟨x0,x1,x2,x3,x4,x5,x6,x7,x8⟩:=hV.cells;go_simp) ?_;go_simp;refine au rfl (.nilIface) (by go_simp) (λV hV=>by go_simp) ?_;go_simp;refine au rfl (.bool true) (by go_simp) (λV hV=>by go_simp) ?_;go_simp;refine au rfl (.bool true) (by go_simp) (λV hV=>by go_simp) ?_;go_simp;refine au rfl (.nilIface) (by go_simp) (λV hV=>by go_simp) ?_;go_simp;refine au rfl (.bool true) (by go_simp) (λV hV=>by go_simp) ?_;go_simp;refine au rfl (.bool true) (by go_simp) (λV hV=>by go_simp) ?_;go_simp;refine au rfl (.bool true) (by go_simp) (λV hV=>by go_simp) ?_;go_simp;refine au rfl (.nilIface) (by go_simp) (λV hV=>by go_simp) ?_;go_simp;refine au rfl (.bool true) (by go_simp) (λV hV=>by go_simp) ?_;go_simp;refine au rfl (.bool true) (by go_simp) (λV hV=>by go_simp) ?_;go_simp;refine au rfl (.bool true) (by go_simp) (λV hV=>by go_simp) ?_;go_simp;refine au rfl (.nilIface) (by go_simp) (λV hV=>by go_simp) ?_;go_simp;refine au rfl (.bool true) (by go_simp) (λV hV=>by go_simp) ?_;go_simp;refine au rfl (.bool true) (by go_simp) (λV hV=>by go_simp) ?_;go_simp;refine au rfl (.bool true) (by go_simp) (λV hV=>by go_simp) ?_;go_simp;refine au rfl (.nilIface) (by go_simp) (λV hV=>by go_simp) ?_;go_simp;refine au rfl (.bool true) (by go_simp) (λV hV=>by go_simp) ?_;go_simp;refine au rfl (.bool true) (by go_simp) (λV hV=>by go_simp) ?_;go_simp;refine au rfl (.bool true) (by go_simp) (λV hV=>by go_simp) ?_;go_simp;refine au rfl (.pointer (some ⟨z,7,none⟩)) (by go_simp) (λV hV=>by go_simp) ?_;go_simp;refine au rfl (slice i 3 j) (by go_simp) (λV hV=>by obtain⟨x0,x1,x2,x3,x4,x5,x6,x7,x8⟩:=hV.cells;go_simp) ?_;go_simp;refine au rfl (int i64 3) (by go_simp) (λV hV=>by go_simp) ?_;go_simp;refine au rfl (.bool true) (by go_simp) (λV hV=>by go_simp) ?_;go_simp;refine au rfl (.bool true) (by go_simp) (λV hV=>by go_simp) ?_;go_simp;refine au rfl (.bool true) (by go_simp) (λV hV=>by go_simp) ?_;go_simp;refine au rfl (.pointer (some ⟨z,6,none⟩)) (by go_simp) (λV hV=>by go_simp) ?_;go_simp;refine au rfl (slice g 2 h) (by go_simp) (λV hV=>by obtain⟨x0,x1,x2,x3,x4,x5,x6,x7,x8⟩:=hV.cells;go_simp) ?_;go_simp;refine au rfl (int i64 2) (by go_simp) (λV hV=>by go_simp) ?_;go_simp;refine au rfl (.bool true) (by go_simp) (λV hV=>by go_simp) ?_;go_simp;refine au rfl (.bool true) (by go_simp) (λV hV=>by go_simp) ?_;go_simp;have KW:=aj (aY v3 w.heap.size (int i64 S3.turn) (int i64 S3.next) (int i64 S3.wide) (int i64 S3.high) (slice k1 S3.gs.length r1) (slice k2 S3.os.length r2) (slice g 2 h) (slice i 3 j) (slice k5 S3.qs.length r5));have XF:=aj (D3.out.r.put (int i64 S3.turn) (int i64 S3.next) (int i64 S3.wide) (int i64 S3.high) (slice k1 S3.gs.length r1) (slice k2 S3.os.length r2) (slice g 2 h) (slice i 3 j) (slice k5 S3.qs.length r5));obtain⟨x0,x1,x2,x3,x4,x5,x6,x7,x8⟩:=D3.out.r.cells;obtain⟨t0,t1,t2,t3,t4,t5,t6,t7,t8⟩:=D3.out.r.aU;refine gZ rfl (pt v3 w.heap.size S3 (slice k1 S3.gs.length r1) (slice k2 S3.os.length r2) (slice g 2 h) (slice i 3 j) (slice k5 S3.qs.length r5)) (by go_simp) (by unfold pt;go_simp) (D3.out.x.kp KW.out (Nat.ne_of_gt D3.out.n)) ?_;go_simp;clear x0 x1 x2 x3 x4 x5 x6 x7 x8 t0 t1 t2 t3 t4 t5 t6 t7 t8;unfold pt;generalize World.setCell _ ⟨_,8,none⟩ _=v4 at *;unfold aP;refine aC rfl (.bool true) v4 (by go_simp) (by go_simp) trivial ?_;go_simp;unfold aH;obtain⟨x0,x1,x2,x3,x4,x5,x6,x7,x8⟩:=XF.out.cells;go_wp2;have O:=D3.out.o;refine bodyPost_ret (v:=.tuple #[.agg #[int i64 S3.turn,int i64 S3.next,int i64 S3.wide,int i64 S3.high,slice k1 S3.gs.length r1,slice k2 S3.os.length r2,slice g 2 h,slice i 3 j,slice k5 S3.qs.length r5],.bool true]) (by simp[results,Tryz.results9,go_sem,x0,x1,x2,x3,x4,x5,x6,x7,x8]) rfl ⟨_,rfl,⟨_,_,_,_,_,rfl,Ow.mono (dP O.1 KW.out (by omega)) (by omega),Ow.mono (dP O.2.1 KW.out (by omega)) (by omega),Ow.mono (dP O.2.2.1 KW.out (by omega)) (by omega),dO.mono (dP O.2.2.2.1 KW.out (by omega)) (by omega),dK.mono (dP O.2.2.2.2 KW.out (by omega)) (by omega)⟩,KW.out.below D3.out.b D3.out.b.size (Nat.le_refl _)⟩
open Go
inductive sH where
 |leaf:sH
 |read:Nat->sH->sH
 |one:Nat->sH->sH
 |two:Nat->sH->Nat->sH->sH
 |three:Nat->sH->Nat->sH->Nat->sH->sH
section
variable {P:Program} {ops:Array Oper} {md:Region.Mode} {C:World->Prop} {Q:Exit->Act->World->Prop}
def gU(P:Program)(ops:Array Oper)(C:World->Prop)(K:Act->World->Prop):sH->Act->World->Prop
 | .leaf,a,W=>K a W
 | .read i t,a,W=>∃o v,ops[i]? =some o/\fQ P ops C o v a/\gU P ops C K t (a.put o.dst v) W
 | .one i t,a,W=>∃o,ops[i]? =some o/\dD P ops C o (gU P ops C K t) a W
 | .two i t j u,a,W=>(∃o,ops[i]? =some o/\dD P ops C o (gU P ops C K t) a W)/\(∃o,ops[j]? =some o/\dD P ops C o (gU P ops C K u) a W)
 | .three i t j u k v,a,W=>(∃o,ops[i]? =some o/\dD P ops C o (gU P ops C K t) a W)/\(∃o,ops[j]? =some o/\dD P ops C o (gU P ops C K u) a W)/\(∃o,ops[k]? =some o/\dD P ops C o (gU P ops C K v) a W)
def uN(md:Region.Mode)(ops:Array Oper)(H0:Array Bool):Nat->sH->Array Bool->Bool
 |0,.leaf,listed=>decide (listed=H0)
 |n+1,.read i t,listed=>(Region.ready md ops listed).contains i&&(Region.free md ops listed i&&((waits md ops H0 i||decide (Region.ready md ops (H0.setIfInBounds i false)=[i]))&&uN md ops H0 n t (listed.setIfInBounds i true)))
 |n+1,.one i t,listed=>(Region.ready md ops listed).contains i&&((Region.ready md ops listed).all (λx=>decide (x=i))&&uN md ops H0 n t (listed.setIfInBounds i true))
 |n+1,.two i t j u,listed=>(Region.ready md ops listed).contains i&&((Region.ready md ops listed).contains j&&((Region.ready md ops listed).all (λx=>decide (x=i)||decide (x=j))&&(uN md ops H0 n t (listed.setIfInBounds i true)&&uN md ops H0 n u (listed.setIfInBounds j true))))
 |n+1,.three i t j u k v,listed=>(Region.ready md ops listed).contains i&&((Region.ready md ops listed).contains j&&((Region.ready md ops listed).contains k&&((Region.ready md ops listed).all (λx=>decide (x=i)||(decide (x=j)||decide (x=k)))&&(uN md ops H0 n t (listed.setIfInBounds i true)&&(uN md ops H0 n u (listed.setIfInBounds j true)&&uN md ops H0 n v (listed.setIfInBounds k true))))))
 |_,_,_=>false
theorem dJ{K:Act->World->Prop}{H0:Array Bool}(hsel:Region.noSelect ops=true):∀(n:Nat) (t:sH) (listed:Array Bool) (a:Act) (W:World),yc md ops listed->uN md ops H0 n t listed=true->C W->gU P ops C K t a W->lD P md ops C (λl a W=>l=H0/\K a W) n listed a W
 |0,.leaf,listed,a,W,inv,hB,hC,h=>by
  simp only[uN,decide_eq_true_eq] at hB;exact⟨hB,h⟩
 |n+1,.read i t,listed,a,W,inv,hB,hC,h=>by
  simp only[uN,Bool.and_eq_true,Bool.or_eq_true,decide_eq_true_eq] at hB;obtain⟨hr,hf,hH,hB⟩:=hB;obtain⟨o,v,ho,hy,hk⟩:=h;have hr':i∈Region.ready md ops listed:=by simpa using hr
  exact jD ho (Region.noSelect_spec hsel) hH (λ_ _ _ h=>h.1) n listed a W inv (Region.free_spec ho hf) hr' hy hC (dJ hsel n t _ _ _ (inv.set hr') hB hC hk)
 |n+1,.one i t,listed,a,W,inv,hB,hC,h=>by
  simp only[uN,Bool.and_eq_true] at hB;obtain⟨hr,hall,hB⟩:=hB;have hr':i∈Region.ready md ops listed:=by simpa using hr
  obtain⟨o,ho,hs⟩:=h;refine⟨λh=>(by rw[h] at hr';cases hr'),λx hx=>?_⟩;have hx':=List.all_eq_true.1 hall x hx;simp only[decide_eq_true_eq] at hx';subst hx';exact⟨o,ho,hs.mono λa' W' hC' hk=>dJ hsel n t _ _ _ (inv.set hr') hB hC' hk⟩
 |n+1,.two i t j u,listed,a,W,inv,hB,hC,h=>by
  simp only[uN,Bool.and_eq_true] at hB;obtain⟨hi,hj,hall,hB1,hB2⟩:=hB;have hi':i∈Region.ready md ops listed:=by simpa using hi
  have hj':j∈Region.ready md ops listed:=by simpa using hj
  obtain⟨⟨o,ho,hs⟩,⟨o2,ho2,hs2⟩⟩:=h;refine⟨λh=>(by rw[h] at hi';cases hi'),λx hx=>?_⟩;have hx':=List.all_eq_true.1 hall x hx;simp only[Bool.or_eq_true,decide_eq_true_eq] at hx';rcases hx' with e|e
  ·subst e;exact⟨o,ho,hs.mono λa' W' hC' hk=>dJ hsel n t _ _ _ (inv.set hi') hB1 hC' hk⟩
  ·subst e;exact⟨o2,ho2,hs2.mono λa' W' hC' hk=>dJ hsel n u _ _ _ (inv.set hj') hB2 hC' hk⟩
 |n+1,.three i t j u k v,listed,a,W,inv,hB,hC,h=>by
  simp only[uN,Bool.and_eq_true] at hB;obtain⟨hi,hj,hk,hall,hB1,hB2,hB3⟩:=hB;have hi':i∈Region.ready md ops listed:=by simpa using hi
  have hj':j∈Region.ready md ops listed:=by simpa using hj
  have hk':k∈Region.ready md ops listed:=by simpa using hk
  obtain⟨⟨o,ho,hs⟩,⟨o2,ho2,hs2⟩,⟨o3,ho3,hs3⟩⟩:=h;refine⟨λh=>(by rw[h] at hi';cases hi'),λx hx=>?_⟩;have hx':=List.all_eq_true.1 hall x hx;simp only[Bool.or_eq_true,decide_eq_true_eq] at hx';rcases hx' with e|e|e
  ·subst e;exact⟨o,ho,hs.mono λa' W' hC' hk=>dJ hsel n t _ _ _ (inv.set hi') hB1 hC' hk⟩
  ·subst e;exact⟨o2,ho2,hs2.mono λa' W' hC' hk=>dJ hsel n u _ _ _ (inv.set hj') hB2 hC' hk⟩
  ·subst e;exact⟨o3,ho3,hs3.mono λa' W' hC' hk=>dJ hsel n v _ _ _ (inv.set hk') hB3 hC' hk⟩
 |0,.read _ _,_,_,_,_,hB,_,_=>by simp[uN] at hB
 |0,.one _ _,_,_,_,_,hB,_,_=>by simp[uN] at hB
 |0,.two _ _ _ _,_,_,_,_,hB,_,_=>by simp[uN] at hB
 |0,.three _ _ _ _ _ _,_,_,_,_,hB,_,_=>by simp[uN] at hB
 |_+1,.leaf,_,_,_,_,hB,_,_=>by simp[uN] at hB
theorem qG{id:Nat}{a:Act}{w:World}(T:sH)(s t:List (Bool×Nat))(C:World->Prop)(hm:P.follows .mixedOrders=true)(hs:Region.noSelect ops=true)(hl:s.length+t.length=ops.size)
 (hB:uN .any ops (iL ops.size s) s.length T (Array.replicate ops.size false)=true)
 (hT:jC .any ops t (iL ops.size s)=true)
 (hC:C {w with drawn:=w.drawn+1}) (h:gU P ops C (aH P ops (λ_=>True) Q t) T a {w with drawn:=w.drawn+1}):(Code.region id ops true).wp P Q a w:=by
 refine wp_region_any hm ?_;rw[<-hl];refine gW (g:=t.length) (λlisted a W hh=>?_) _ _ _ _ (dJ (H0:=iL ops.size s) hs s.length T _ a _ (λj oj _ hj=>by rw[getD_replicate_false] at hj;cases hj) (by rw[hl];exact hB) hC h);obtain⟨rfl,hk⟩:=hh;exact gV _ _ _ _ (eG hs t _ a W hT trivial hk)
theorem bJ{K:Act->World->Prop}{i:Nat}{t:sH}{o:Oper}{a:Act}{W:World}(ho:ops[i]? =some o)(v:Value)(hw:Region.wanted o (yielded ops a.tmps)=true)(hr:∀W,C W->(execOp a.eval o).run P W=.ok (.value v) W)(h:gU P ops C K t (a.put o.dst v) W):gU P ops C K (.read i t) a W:=
 ⟨o,v,ho,⟨hw,hr⟩,h⟩
theorem dV{K:Act->World->Prop}{i:Nat}{t:sH}{a:Act}{W:World}(h:∃o,ops[i]? =some o/\dD P ops C o (gU P ops C K t) a W):gU P ops C K (.one i t) a W:=h
theorem qH{K:Act->World->Prop}{i j:Nat}{t u:sH}{a:Act}{W:World}(h:∃o,ops[i]? =some o/\dD P ops C o (gU P ops C K t) a W)(h2:∃o,ops[j]? =some o/\dD P ops C o (gU P ops C K u) a W):gU P ops C K (.two i t j u) a W:=⟨h,h2⟩
theorem Kw{K:Act->World->Prop}{i j k:Nat}{t u v:sH}{a:Act}{W:World}(h:∃o,ops[i]? =some o/\dD P ops C o (gU P ops C K t) a W)(h2:∃o,ops[j]? =some o/\dD P ops C o (gU P ops C K u) a W)(h3:∃o,ops[k]? =some o/\dD P ops C o (gU P ops C K v) a W):gU P ops C K (.three i t j u k v) a W:=⟨h,h2,h3⟩
theorem fJ{K:Act->World->Prop}{i:Nat}{o:Oper}{a:Act}{W:World}(ho:ops[i]? =some o)(f:FuncId)(args:Array Value)(hw:Region.wanted o (yielded ops a.tmps)=true)(hr:(execOp a.eval o).run P W=.ok (.enter f args) W)
 (hc:Calls P f args W (λe w'=>∃v,e=.returned v/\C w'/\K (a.put o.dst v) w')):∃o,ops[i]? =some o/\dD P ops C o K a W:=
 ⟨o,ho,hw,.inr (.inr ⟨f,args,hr,hc⟩)⟩
theorem eP{K:Act->World->Prop}{i:Nat}{o:Oper}{a:Act}{W:World}(ho:ops[i]? =some o)(v:Value)(W':World)(hw:Region.wanted o (yielded ops a.tmps)=true)(hr:(execOp a.eval o).run P W=.ok (.value v) W')(hC:C W')(h:K (a.put o.dst v) W'):∃o,ops[i]? =some o/\dD P ops C o K a W:=
 ⟨o,ho,hw,.inl ⟨v,W',hr,hC,h⟩⟩
theorem jf{K:Act->World->Prop}{i:Nat}{o:Oper}{a:Act}{W:World}(ho:ops[i]? =some o)(W':World)(hw:Region.wanted o (yielded ops a.tmps)=true)(hr:(execOp a.eval o).run P W=.ok .skip W')(hC:C W')(h:K (a.put o.dst undef) W'):∃o,ops[i]? =some o/\dD P ops C o K a W:=
 ⟨o,ho,hw,.inr (.inl ⟨W',hr,hC,h⟩)⟩
end
end Go.Proofs.YtolfphmdmpehdaaGreatDoor
namespace Go.Proofs.YtolfphmdmpehdaaGreatDoor
open Go.RowKit Go.Proofs.YtolfphmdmpehdaaGreatDoor.So
theorem wR{ks:List KV}{X:WV}{ls:List (List aQ)}{Y:WV}(hw:Wd.aG ks X=0)(hl:ls.length<=200)(h:dF ks X ls ls.length Y){c:Nat}(hc:c<=ls.length){F:Int}{w w':World}{v r:Value}(hs:gK ks X (ls.take c) F w w' v)(he:Er r F):r=.nilIface/\∃A,dF ks X ls c A/\Wo w' w.heap.size v A:=by
 have hlen:(ls.take c).length=c:=by rw[List.length_take];omega
 rcases hs with⟨hn,-,h1|h1|⟨-,-,n,Z,l,p,hl',hf⟩⟩|⟨rfl,h1,h2,A,h3,h4⟩
 ·exact absurd hw h1.1
 ·have:=h1.2.1;rw[hlen] at this;omega
 ·exact absurd ((wO h hc p hl').symm.trans hf).symm hn
 ·refine⟨AY he,A,?_,h4⟩
  rw[hlen] at h3;exact sG h3 (λi hi=>by rw[List.getElem?_take,if_pos hi])
theorem Ky:Wd.aG SK S3=0:=by decide+kernel
theorem mW(w:World):wL (w.alloc (Obj.cells #[slice none 0 0,slice none 0 0] 61)) (slice (some ⟨w.heap.size,0,none⟩) 2 2) [[],[]]:=by
 have hn:=heap_alloc_new w (Obj.cells #[slice none 0 0,slice none 0 0] 61);have ol:∀W,B_ W (slice none 0 0) []:=λW=>⟨none,0,rfl,Nat.le_refl _,by omega,λh=>absurd rfl h⟩
 refine⟨_,_,rfl,by decide,by decide,λ_=>⟨⟨w.heap.size,0,none⟩,rfl,by simp,λi l hl=>?_⟩⟩
 match i,hl with
 |0,hl=>simp at hl;subst hl;exact⟨_,by simp only[World.cell?,Addr.add_lit,hn];rfl,ol _⟩
 |1,hl=>simp at hl;subst hl;exact⟨_,by simp only[World.cell?,Addr.add_lit,hn];rfl,ol _⟩
 |i+2,hl=>simp at hl
end Go.Proofs.YtolfphmdmpehdaaGreatDoor
namespace Go.Proofs.YtolfphmdmpehdaaGreatDoor
open Go.RowKit
theorem wS(v:Value)(W:WV)(w:World)(h:Wl w v W)(hs:iJ W):
 Calls Tryz.prog 56 #[v] w λe w'=>∃u,e=.returned u/\Ow w' (w.heap.size+2) u (Wd.nums W)/\Below w.heap.size w w':=by
 have H:=aj (h);have S:=aj (hs);obtain⟨u1,u2,u3,u4,u5,rfl,h1,h2,h3,h4,h5⟩:=h;obtain⟨a1,k1,rfl,-⟩:=h1;obtain⟨a2,k2,rfl,-⟩:=h2;obtain⟨a3,k3,rfl,-⟩:=h3;obtain⟨a4,k4,rfl,-⟩:=h4;obtain⟨a5,k5,rfl,-⟩:=h5;clear hs;go_enter Tryz.func56,Tryz.ntmps56;go_wp2;have N0:Hid (Nm1 w W (slice a1 W.gs.length k1) (slice a2 W.os.length k2) (slice a3 W.gold.length k3) (slice a4 W.us.length k4) (slice a5 W.qs.length k5) (w.heap.size+1+1+1) (slice (some ⟨w.heap.size+1+1,0,none⟩) 4 4) (fK W 0) ((((w.alloc (Obj.cells #[int i64 W.turn,int i64 W.next,int i64 W.wide,int i64 W.high,slice a1 W.gs.length k1,slice a2 W.os.length k2,slice a3 W.gold.length k3,slice a4 W.us.length k4,slice a5 W.qs.length k5] 29)).alloc (Obj.cells #[int i64 W.wide,int i64 W.high,slice a1 W.gs.length k1,slice a2 W.os.length k2] 25)).alloc (Obj.cells #[int i64 W.turn,int i64 W.next,int i64 W.wide,int i64 W.high] 3)).alloc (Obj.cells #[slice a1 W.gs.length k1,slice a2 W.os.length k2,slice a3 W.gold.length k3] 23))):=by
  refine⟨?_,by simp[Value.ownBlock],(Bw.mk' W _ _ _ _ _ rfl).below ((((Below.refl _ _).alloc (by simp) _).alloc (by simp) _).alloc (by simp) _) (Nat.lt_succ_self _),bK (by simp) rfl,bK (by simp) rfl,bK (by simp) rfl,?_⟩
  ·refine World.ownsRow.alloc ?_ _
   have e:w.heap.size+1+1=((w.alloc (Obj.cells #[int i64 W.turn,int i64 W.next,int i64 W.wide,int i64 W.high,slice a1 W.gs.length k1,slice a2 W.os.length k2,slice a3 W.gold.length k3,slice a4 W.us.length k4,slice a5 W.qs.length k5] 29)).alloc (Obj.cells #[int i64 W.wide,int i64 W.high,slice a1 W.gs.length k1,slice a2 W.os.length k2] 25)).heap.size:=by simp
   rw[e];exact World.ownsRow_lit _ _ 4 (by simp) (by unfold maxLen;omega) rfl
  ·exact((((Below.refl _ _).alloc (Nat.le_refl _) _).alloc (by simp) _).alloc (by simp;omega) _).alloc (by simp;omega) _
 generalize ((((w.alloc _).alloc _).alloc _).alloc _)=w3 at *;generalize hzl:w.heap.size+1+1+1=zl at *;have HZ:Hid (w.heap.size+3=zl):=hzl;clear hzl;go_loopw [4,30] (λlv iv W'=>∃k:Nat,k<=3/\iv=int i64 (k:Nat)/\Nm1 w W (slice a1 W.gs.length k1) (slice a2 W.os.length k2) (slice a3 W.gold.length k3) (slice a4 W.us.length k4) (slice a5 W.qs.length k5) zl lv (fK W k) W') (λ_ iv _=>3-(intOf iv).toNat)
 case atStart=>exact⟨0,by omega,rfl,N0.out⟩
 case round=>
  obtain⟨k,hk,rfl,hn⟩:=hrel;have N:=aj (hn);clear hn N0;have SZ:Hid (w.heap.size+2<=wr.heap.size):=by
   unfold Hid;have h1:=HZ.out;have h2:=cell_lt N.out.c0;simp only at h2;omega
  by_cases hk3:k=3
  ·subst hk3
   have c7:=N.out.b.c7;clear hk;go_wp2_with (at_builtin;refine fC _ rfl _ _ rfl _ _ _ rfl (N.out.o.alloc _) _ (W.us.length:Nat) rfl (by simp) (by have:=f_ S.out 3;omega) (by have:=SZ.out;simp;omega) ?_);intro g cap w5 o5 g5 q5 l5;have N5:Hid (Nm1 w W _ _ _ _ _ zl _ (jV W 0) w5):=N.out.step ((Below.refl _ _).alloc (Nat.le_refl _) _) g5 o5 (og (by simpa using q5));clear o5 g5 q5 l5 c7 N SZ;have c7:=N5.out.b.c7;go_wp2;clear c7;go_loopw [4,52] (λlv iv W'=>∃k:Nat,k<=W.us.length/\iv=int i64 (k:Nat)/\Nm1 w W (slice a1 W.gs.length k1) (slice a2 W.os.length k2) (slice a3 W.gold.length k3) (slice a4 W.us.length k4) (slice a5 W.qs.length k5) zl lv (jV W k) W') (λ_ iv _=>W.us.length-(intOf iv).toNat)
   case atStart=>exact⟨0,Nat.zero_le _,rfl,N5.out⟩
   case round=>
    obtain⟨k,hk,rfl,hn⟩:=hrel;have N:=aj (hn);have SZ:Hid (w.heap.size+2<=wr.heap.size):=by
     unfold Hid;have h1:=HZ.out;have h2:=cell_lt N.out.c0;simp only at h2;omega
    clear hn N5;by_cases hkl:k=W.us.length
    ·have hki:(k:Int)=(W.us.length:Int):=by omega
     have ho:=N.out.o;rw[hkl] at ho;have N':Hid (Nm1 w W (slice a1 W.gs.length k1) (slice a2 W.os.length k2) (slice a3 W.gold.length k3) (slice a4 W.us.length k4) (slice a5 W.qs.length k5) zl u4 (jV W W.us.length) wr):=by have:=N.out;rwa[hkl] at this
     subst hkl;have c8:=N'.out.b.c8;clear hk ho hki;go_wp2_with (at_builtin;refine fC _ rfl _ _ rfl _ _ _ rfl (N'.out.o.alloc _) _ (W.qs.length:Nat) rfl (by simp) (by have:=mX S.out W.us.length;omega) (by have:=SZ.out;simp;omega) ?_);intro g cap w5 o5 g5 q5 l5;have N5:Hid (Nm1 w W _ _ _ _ _ zl _ (kT W 0) w5):=N'.out.step ((Below.refl _ _).alloc (Nat.le_refl _) _) g5 o5 (og (by simpa using q5));clear o5 g5 q5 l5 c8 N N' SZ;have c8:=N5.out.b.c8;go_wp2;clear c8;go_loopw [4,85] (λlv iv W'=>∃k:Nat,k<=W.qs.length/\iv=int i64 (k:Nat)/\Nm1 w W (slice a1 W.gs.length k1) (slice a2 W.os.length k2) (slice a3 W.gold.length k3) (slice a4 W.us.length k4) (slice a5 W.qs.length k5) zl lv (kT W k) W') (λ_ iv _=>W.qs.length-(intOf iv).toNat)
     case atStart=>exact⟨0,Nat.zero_le _,rfl,N5.out⟩
     case round=>
      obtain⟨k,hk,rfl,hn⟩:=hrel;have N:=aj (hn);have SZ:Hid (w.heap.size+2<=wr.heap.size):=by
       unfold Hid;have h1:=HZ.out;have h2:=cell_lt N.out.c0;simp only at h2;omega
      clear hn N5;by_cases hkl:k=W.qs.length
      ·subst hkl
       clear hk;go_wp2;go_ret;exact⟨_,rfl,by have:=N.out.o;rwa[qU] at this,N.out.bl⟩
      ·have hlt:k<W.qs.length:=by omega
       have RQ:(k:Int)<(W.qs.length:Int):=by omega
       have hq:=S.out.q;obtain⟨j,hj⟩:∃j,W.qs[k]? =some j:=⟨_,List.getElem?_eq_getElem hlt⟩;obtain⟨-,-,-,-,b,c,e,-,-,hc⟩:=(H.out.below N.out.bl).slices;injection e with e1 e2 e3
       subst e1 e3;obtain⟨x,rfl,hx,hcell⟩:=hc (by intro e;rw[e] at hlt;simp at hlt);obtain⟨d0,d1,d2,d3⟩:=hcell k j hj;have NX:=aj (xA hj);clear hc hcell hx hj hkl;go_wp2_with (at_builtin;refine kG _ rfl _ _ rfl _ _ _ rfl ((N.out.o.alloc _).alloc _) _ _ rfl (Ro.lit (Wd.jQ j) _ rfl (by simp[Wd.jQ]) (by simp)) (by have:=qV S.out k;simp[Wd.jQ];omega) (by have:=SZ.out;simp;omega) ?_);intro v6 w6 o6 g6 q6;have N6:Hid (Nm1 w W _ _ _ _ _ zl v6 (kT W (k+1)) w6):=N.out.step (((Below.refl _ _).alloc (Nat.le_refl _) _).alloc (by simp) _) g6 (by rw[NX.out];exact o6) (by simpa using q6);clear o6 g6 q6;go_wp2;go_roundw
       case rel=>exact⟨k+1,by omega,rfl,N6.out⟩
       case measure=>simp[intOf];omega
    ·have hlt:k<W.us.length:=by omega
     have RQ:(k:Int)<(W.us.length:Int):=by omega
     have hq:=S.out.u;obtain⟨j,hj⟩:∃j,W.us[k]? =some j:=⟨_,List.getElem?_eq_getElem hlt⟩;obtain⟨-,-,-,⟨b,c,e,-,-,hc⟩,-⟩:=(H.out.below N.out.bl).slices;injection e with e1 e2 e3
     subst e1 e3;obtain⟨x,rfl,hx,hcell⟩:=hc (by intro e;rw[e] at hlt;simp at hlt);obtain⟨d0,d1,d2,d3,d4,d5,d6,d7⟩:=hcell k j hj;have NX:=aj (w_ hj);clear hc hcell hx hj hkl;go_wp2_with (at_builtin;refine kG _ rfl _ _ rfl _ _ _ rfl ((N.out.o.alloc _).alloc _) _ _ rfl (Ro.lit (Wd.jP j) _ rfl (by simp[Wd.jP]) (by simp)) (by have:=mX S.out k;simp[Wd.jP];omega) (by have:=SZ.out;simp;omega) ?_);intro v6 w6 o6 g6 q6;have N6:Hid (Nm1 w W _ _ _ _ _ zl v6 (jV W (k+1)) w6):=N.out.step (((Below.refl _ _).alloc (Nat.le_refl _) _).alloc (by simp) _) g6 (by rw[NX.out];exact o6) (by simpa using q6);clear o6 g6 q6;go_wp2;go_roundw
     case rel=>exact⟨k+1,by omega,rfl,N6.out⟩
     case measure=>simp[intOf];omega
  ·have hk':k=0\/k=1\/k=2:=by omega
   clear hk hk3;rcases hk' with rfl|rfl|rfl
   ·have ck:=N.out.c0
    go_wp2_with (at_builtin;refine fC _ rfl _ _ rfl _ _ _ rfl (N.out.o.alloc _) _ (W.gs.length:Nat) rfl (by simp) (by have:=f_ S.out 0;omega) (by have:=SZ.out;simp;omega) ?_);intro g cap w5 o5 g5 q5 l5;obtain⟨L,hL⟩:∃L,fK W 0++[(W.gs.length:Int)]=L:=⟨_,rfl⟩;rw[hL] at o5;have N5:=aj (N.out.step ((Below.refl _ _).alloc (Nat.le_refl _) _) g5 o5 (og (by simpa using q5)));have S5:Hid (w.heap.size+2<=w5.heap.size):=by have:=SZ.out;have:=g5.size;simp at this;unfold Hid;omega
    have R5:=aj ((H.out.below N5.out.bl).slices.1);have HL:Hid (L++W.gs=fK W 1/\L.length<=5000000):=⟨by rw[<-hL];simp[fK],by have:=f_ S.out 0;rw[<-hL,List.length_append];simp;omega⟩;clear o5 g5 q5 l5 hL ck;go_wp2_with (at_builtin;refine kG _ rfl _ _ rfl _ _ L rfl N5.out.o _ W.gs rfl R5.out (by have:=HL.out.2;have:=S.out.g;omega) (by have:=S5.out;omega) ?_);intro v6 w6 o6 g6 q6;have N6:Hid (Nm1 w W _ _ _ _ _ zl v6 (fK W 1) w6):=N5.out.step (Below.refl _ _) g6 (by rw[<-HL.out.1];exact o6) q6;clear o6 g6 q6;go_wp2;go_roundw
    case rel=>exact⟨1,by omega,rfl,N6.out⟩
    case measure=>simp[intOf]
   ·have ck:=N.out.c1
    go_wp2_with (at_builtin;refine fC _ rfl _ _ rfl _ _ _ rfl (N.out.o.alloc _) _ (W.os.length:Nat) rfl (by simp) (by have:=f_ S.out 1;omega) (by have:=SZ.out;simp;omega) ?_);intro g cap w5 o5 g5 q5 l5;obtain⟨L,hL⟩:∃L,fK W 1++[(W.os.length:Int)]=L:=⟨_,rfl⟩;rw[hL] at o5;have N5:=aj (N.out.step ((Below.refl _ _).alloc (Nat.le_refl _) _) g5 o5 (og (by simpa using q5)));have S5:Hid (w.heap.size+2<=w5.heap.size):=by have:=SZ.out;have:=g5.size;simp at this;unfold Hid;omega
    have R5:=aj ((H.out.below N5.out.bl).slices.2.1);have HL:Hid (L++W.os=fK W 2/\L.length<=5000000):=⟨by rw[<-hL];simp[fK],by have:=f_ S.out 1;rw[<-hL,List.length_append];simp;omega⟩;clear o5 g5 q5 l5 hL ck;go_wp2_with (at_builtin;refine kG _ rfl _ _ rfl _ _ L rfl N5.out.o _ W.os rfl R5.out (by have:=HL.out.2;have:=S.out.o;omega) (by have:=S5.out;omega) ?_);intro v6 w6 o6 g6 q6;have N6:Hid (Nm1 w W _ _ _ _ _ zl v6 (fK W 2) w6):=N5.out.step (Below.refl _ _) g6 (by rw[<-HL.out.1];exact o6) q6;clear o6 g6 q6;go_wp2;go_roundw
    case rel=>exact⟨2,by omega,rfl,N6.out⟩
    case measure=>simp[intOf]
   ·have ck:=N.out.c2
    go_wp2_with (at_builtin;refine fC _ rfl _ _ rfl _ _ _ rfl (N.out.o.alloc _) _ (W.gold.length:Nat) rfl (by simp) (by have:=f_ S.out 2;omega) (by have:=SZ.out;simp;omega) ?_);intro g cap w5 o5 g5 q5 l5;obtain⟨L,hL⟩:∃L,fK W 2++[(W.gold.length:Int)]=L:=⟨_,rfl⟩;rw[hL] at o5;have N5:=aj (N.out.step ((Below.refl _ _).alloc (Nat.le_refl _) _) g5 o5 (og (by simpa using q5)));have S5:Hid (w.heap.size+2<=w5.heap.size):=by have:=SZ.out;have:=g5.size;simp at this;unfold Hid;omega
    have R5:=aj ((H.out.below N5.out.bl).slices.2.2.1);have HL:Hid (L++W.gold=fK W 3/\L.length<=5000000):=⟨by rw[<-hL];simp[fK],by have:=f_ S.out 2;rw[<-hL,List.length_append];simp;omega⟩;clear o5 g5 q5 l5 hL ck;go_wp2_with (at_builtin;refine kG _ rfl _ _ rfl _ _ L rfl N5.out.o _ W.gold rfl R5.out (by have:=HL.out.2;have:=S.out.p;omega) (by have:=S5.out;omega) ?_);intro v6 w6 o6 g6 q6;have N6:Hid (Nm1 w W _ _ _ _ _ zl v6 (fK W 3) w6):=N5.out.step (Below.refl _ _) g6 (by rw[<-HL.out.1];exact o6) q6;clear o6 g6 q6;go_wp2;go_roundw
    case rel=>exact⟨3,by omega,rfl,N6.out⟩
    case measure=>simp[intOf]
def By(w:World)(v:Value)(l:List UInt8):Prop:=∃(a:Option Addr) (c:Nat),v=slice a l.length c/\l.length<=c/\c<=maxLen/\(l≠[]->∃x,a=some x/\x.block<w.heap.size/\∀(i:Nat) d,l[i]? =some d->w.cell? (x.add i)=some (.int .u8 (d.toNat:Int)))
theorem By.below{w w':World}{v:Value}{l:List UInt8}(h:By w v l)(hb:Below w.heap.size w w'):By w' v l:=by
 obtain⟨a,c,h1,h2,h3,h4⟩:=h;refine⟨a,c,h1,h2,h3,λhn=>?_⟩;obtain⟨x,e,hx,hk⟩:=h4 hn;refine⟨x,e,Nat.lt_of_lt_of_le hx hb.size,λi d hi=>?_⟩;rw[hb.cell (p:=x.add i) (by rw[add_block];exact hx)];exact hk i d hi
theorem Kz(n:Int)(w:World)(h:Wd.In64 n):Calls Tryz.prog 99 #[int i64 n] w λe w'=>e=.returned (.int .u64 (Wd.zz n:Nat))/\w'=w:=by
 unfold Wd.In64 at h;by_cases h0:n<0
 ·obtain⟨m,hm⟩:∃m:Nat,n= -((m:Int)+1):=⟨(-(n+1)).toNat,by omega⟩
  subst hm;have E:Hid (Wd.zz (-((m:Int)+1))=m*2+1):=by unfold Hid Wd.zz;rw[if_pos h0];omega
  have e1: -((m:Int)+1)+1= -(m:Int):=by omega
  have e2: - -(m:Int)=m:=by omega
  have w1:IntKind.i64.wrap (-(m:Int))= -(m:Int):=by rw[IntKind.wrap_i64];omega
  have w2:IntKind.i64.wrap (m:Int)=(m:Int):=by rw[IntKind.wrap_i64];omega
  have hm:(m:Int)<9223372036854775808:=by omega
  clear h;go_enter Tryz.func99,Tryz.ntmps99;go_wp2;go_ret;refine⟨?_,rfl⟩;rw[E.out];show Ending.returned (.int .u64 _)=_
  congr 2
  try simp only[w2]
  omega
 ·obtain⟨m,rfl⟩:∃m:Nat,n=m:=⟨n.toNat,by omega⟩
  have E:Hid (Wd.zz (m:Int)=m*2):=by unfold Hid Wd.zz;rw[if_neg h0];omega
  have hm:(m:Int)<9223372036854775808:=by omega
  clear h;go_enter Tryz.func99,Tryz.ntmps99;go_wp2;go_ret;refine⟨?_,rfl⟩;rw[E.out];show Ending.returned (.int .u64 _)=_
  congr 2
  try simp only[w2]
  omega
def byteCells(l:List UInt8):List Value:=l.map λb=>.int .u8 (b.toNat:Nat)
theorem ES:(Tryz.prog.info? 5).map (λi=>(i.zero,i.size,i.bytes))=some (some (.int .u8 0),1,1):=by kernel_rfl
def Ob(w:World)(base:Nat)(v:Value)(l:List UInt8):Prop:=w.ownsRow base 5 1 v l.length (byteCells l)
theorem Ob.nil(w:World)(base:Nat):Ob w base (slice none 0 0) []:=World.ownsRow_nil _ _ _ _
theorem Ob.alloc{w:World}{base:Nat}{v:Value}{l:List UInt8}(h:Ob w base v l)(o:Obj):Ob (w.alloc o) base v l:=World.ownsRow.alloc h o
theorem Ob.drew{w:World}{base:Nat}{v:Value}{l:List UInt8}(h:Ob w base v l):Ob w.drew base v l:=h
theorem Ob.block{w:World}{base:Nat}{v:Value}{l:List UInt8}(h:Ob w base v l):∀k,v.ownBlock=some k->base<=k/\k<w.heap.size:=World.ownsRow.lt h
theorem byteCells_snoc(l:List UInt8)(b:UInt8):byteCells (l++[b])=byteCells l++[.int .u8 (b.toNat:Nat)]:=by simp[byteCells]
theorem Ob.len{w:World}{base:Nat}{v:Value}{l:List UInt8}(h:Ob w base v l):∃a c,v=slice a l.length c:=by
 rcases h.2 with⟨hv,h0⟩|⟨g,cap,cur,hv,_⟩
 ·exact⟨none,0,by rw[hv,h0]⟩
 ·exact⟨_,_,hv⟩
theorem Ob.text{w:World}{base:Nat}{v:Value}{l:List UInt8}(h:Ob w base v l)(hl:0<l.length):
 ∃g cap,v=slice (some ⟨g,0,none⟩) l.length cap/\∀j (hj:j<l.length),w.cell? ((⟨g,0,none⟩:Addr).add j)=some (.int .u8 (l[j].toNat:Int)):=by
 obtain⟨g,cap,hv,-,-⟩:=World.ownsRow.form h hl;refine⟨g,cap,hv,λj hj=>?_⟩;subst hv;rw[Addr.add_lit,Nat.zero_add,World.ownsRow.cellAt h j (by omega)];simp[byteCells,List.getElem?_eq_getElem hj]
theorem wU{ops:Array Oper}{rest:List Oper}{o:Oper}{a:Act}{Q:Exit->Act->World->Prop}(w:World)(hgd:o.guard=none)(s x:Operand)
 (ho:o.op=.call {callee:=.builtin .append,args:= #[s,x],argTypes:= #[56,56]}) (base:Nat) (v:Value) (l:List UInt8) (hs:a.eval s=v) (hown:Ob w base v l)
 (ad:Addr) (b:UInt8) (hx:a.eval x=slice (some ad) 1 1) (hd:w.cell? ad=some (.int .u8 (b.toNat:Nat))) (hl:l.length<=2000000000) (hbase:base<=w.heap.size)
 (h:∀g cap w',Ob w' base (slice (some ⟨g,0,none⟩) (l.length+1) cap) (l++[b])->w.grownBy w' v.ownBlock->g<w'.heap.size->wpList Tryz.prog ops Q rest (a.put o.dst (slice (some ⟨g,0,none⟩) (l.length+1) cap)) w'):
 wpList Tryz.prog ops Q (o::rest) a w:=by
 obtain⟨i0,hi,hz0,hz1,hz2⟩:=info_parts ES;refine wpList_append_lies w hgd s x 56 ho base 5 i0 (.int .u8 0) 1 1 Tryz.underlying56 hi hz0 hz1 hz2 rfl (by decide) v l.length _ hs hown ad 1 1 [.int .u8 (b.toNat:Nat)] hx rfl ?_ ?_ (by decide) (by unfold maxLen;omega) (by omega) hbase _ rfl ?_
 ·intro j u hj
  match j,hj with
  |0,hj=>simp at hj;subst hj;exact hd
 ·intro u hu
  simp at hu;subst hu;rfl
 ·intro g cap w' h1 h2 h3 h4
  refine h g cap w' ?_ h2 h4;unfold Ob;rw[List.length_append,byteCells_snoc];exact h1
theorem KD{x:Nat}(h:x<18446744073709551616):(Wd.vl x).length<=10:=by
 have h1:=Wd.OY x x 0 0 [] (Nat.le_refl _) (by omega) (by simpa using h) (.inl rfl);have h2:=(Wd.OW _ 0 0 _ _ (by omega) (by decide) h1).2.2.1;omega
theorem Oy{n:Int}(h:Wd.In64 n):(Wd.num n).length<=10:=KD (Wd.OV h)
theorem KE:∀{xs:List Int},(∀n∈xs,Wd.In64 n)->(Wd.wr xs).length<=10*xs.length
 |[],_=>by simp[Wd.wr]
 |x::xs,h=>by
  have h1:=Oy (h x (by simp));have h2:=KE (xs:=xs) (λn hn=>h n (by simp[hn]));have:Wd.wr (x::xs)=Wd.num x++Wd.wr xs:=by simp[Wd.wr]
  rw[this,List.length_append,List.length_cons];omega
theorem Oz{xs:List Int}{k:Nat}{n:Int}(h:xs[k]? =some n):Wd.wr (xs.take (k+1))=Wd.wr (xs.take k)++Wd.num n:=by
 obtain⟨hi,e⟩:=List.getElem?_eq_some_iff.1 h;rw[List.take_succ_eq_append_getElem hi,Wd.Bd,e,Wd.Qd]
theorem write_any(v:Value)(xs:List Int)(w:World)(h:Ro w v xs)(hi:∀n∈xs,Wd.In64 n)(hl:xs.length<=100000000):
 Calls Tryz.prog 55 #[v] w λe w'=>∃u,e=.returned u/\Ob w' w.heap.size u (Wd.wr xs)/\Below w.heap.size w w':=by
 have R:Hid (Ro w v xs):=h;have HI:Hid (∀n∈xs,Wd.In64 n):=hi;obtain⟨ad,cap,rfl,h1,h2,h3⟩:=h;clear h3 hi;go_enter Tryz.func55,Tryz.ntmps55;go_wp2;go_loopw [3,9] (λbv iv W=>∃(k:Nat),iv=int i64 (k:Nat)/\k<=xs.length/\Ob W w.heap.size bv (Wd.wr (xs.take k))/\Below w.heap.size w W) (λ_ iv _=>xs.length-(intOf iv).toNat)
 case atStart=>exact⟨0,rfl,Nat.zero_le _,Ob.nil _ _,Below.refl _ _⟩
 case round=>
  obtain⟨k,rfl,hk,ho,hb⟩:=hrel;have O:Hid (Ob wr w.heap.size u3 (Wd.wr (xs.take k))):=ho;have B:Hid (Below w.heap.size w wr):=hb;clear ho hb;by_cases he:k=xs.length
  ·subst he
   go_wp2;go_ret;exact⟨_,rfl,by have:=O.out;rwa[List.take_length] at this,B.out⟩
  ·have hlt:k<xs.length:=by omega
   have RQ:(k:Int)<(xs.length:Int):=by omega
   obtain⟨n,hn⟩:∃n,xs[k]? =some n:=⟨_,List.getElem?_eq_getElem hlt⟩;have HN:Hid (xs[k]? =some n):=hn;have IN:Hid (Wd.In64 n):=HI.out n (List.mem_of_getElem? hn);obtain⟨ad',cap',e,-,-,hc⟩:=R.out.below B.out;injection e with e1 e2 e3
   subst e1 e3;obtain⟨y,rfl,hy,hcell⟩:=hc (by intro e;subst e;simp at hlt);have c1:wr.cell? (y.add k)=some (int i64 n):=hcell k n hn;clear hc hcell hy hn;go_wp2_with fail
   refine(Kz n _ IN.out).mono ?_;rintro e w1 ⟨rfl,rfl⟩;have PL:Hid ((Wd.wr (xs.take k)).length<=1000000000):=by
    unfold Hid;have:=KE (xs:=xs.take k) (λn hn=>HI.out n (List.mem_of_mem_take hn));rw[List.length_take] at this;omega
   obtain⟨P,hP⟩:∃P,Wd.wr (xs.take k)=P:=⟨_,rfl⟩;have HP:Hid (Wd.wr (xs.take (k+1))=P++Wd.num n):=by unfold Hid;rw[Oz HN.out,hP]
   rw[hP] at O PL;obtain⟨x,hx⟩:∃x,Wd.zz n=x:=⟨_,rfl⟩;have HX:Hid (Wd.num n=Wd.vl x/\x<18446744073709551616):=⟨by unfold Wd.num;rw[hx],by rw[<-hx];exact Wd.OV IN.out⟩;rw[hx];clear hx hP c1;go_wp2;go_loopw [3,6] (λbv xv W=>∃(y:Nat) (D:List UInt8),xv=.int .u64 (y:Nat)/\y<18446744073709551616/\D++Wd.vl y=Wd.vl x/\Ob W w.heap.size bv (P++D)/\Below w.heap.size w W) (λ_ xv _=>(intOf xv).toNat)
   case atStart=>exact⟨x,[],rfl,HX.out.2,rfl,by rw[List.append_nil];exact O.out,B.out⟩
   case round=>
    obtain⟨y,D,rfl,hy,hv,ho,hb⟩:=hrel;have O2:Hid (Ob wr w.heap.size u3 (P++D)):=ho;have B2:Hid (Below w.heap.size w wr):=hb;have HV:Hid (D++Wd.vl y=Wd.vl x):=hv;have DL:Hid ((P++D).length<=1000000010):=by
     unfold Hid;have h1:=KD HX.out.2;have h2:=congrArg List.length hv;have h3:=PL.out;rw[List.length_append] at h2 ⊢;omega
    clear ho hb hv;obtain⟨L,hL⟩:∃L,P++D=L:=⟨_,rfl⟩;have HL:Hid (P++D=L):=hL;rw[hL] at O2 DL;clear hL;by_cases h128:128<=y
    ·obtain⟨m,hm⟩:∃m,y%128=m:=⟨_,rfl⟩
     obtain⟨d,hd⟩:∃d,y/128=d:=⟨_,rfl⟩;have XJ:(y:Int)%128=m:=by omega
     have hdi:(y:Int)/128=d:=by omega
     have m1:m<128:=by omega
     have hgi:(128:Int)<=(y:Int):=by omega
     obtain⟨c,hc⟩:∃c,UInt8.ofNat (m+128)=c:=⟨_,rfl⟩;have em:c.toNat=m+128:=by rw[<-hc,UInt8.toNat_ofNat'];omega
     have HE:Hid (Wd.vl y=c::Wd.vl d):=by unfold Hid;rw[Wd.uT h128,hm,hd,hc]
     have hdl:Hid (d<y):=by unfold Hid;omega
     clear hm hd h128 hc;go_wp2_with (at_builtin;refine wU _ rfl _ _ rfl w.heap.size _ L rfl (O2.out.alloc _) ⟨wr.heap.size,0,none⟩ c rfl (by rw[em];simp) (by have:=DL.out;omega) (by have:=B2.out.size;simp;omega) ?_);intro g cap2 w5 o5 g5 l5;have O5:Hid (Ob w5 w.heap.size (slice (some ⟨g,0,none⟩) (L.length+1) cap2) (P++(D++[c]))):=by unfold Hid;rw[<-List.append_assoc,HL.out];exact o5
     have B5:Hid (Below w.heap.size w w5):=(B2.out.alloc B2.out.size _).grown g5 (by have:=B2.out.size;simp;omega) (λb hb=>(O2.out.block b hb).1);clear o5 g5 l5;go_wp2;go_roundw
     case rel=>
      refine⟨d,D++[c],rfl,by have:=hdl.out;omega,?_,O5.out,B5.out⟩;rw[List.append_assoc,<-HV.out,HE.out];rfl
     case measure=>have:=hdl.out;simp[intOf];omega
    ·have hgi:¬(128:Int)<=(y:Int):=by omega
     obtain⟨c,hc⟩:∃c,UInt8.ofNat y=c:=⟨_,rfl⟩;have em:c.toNat=y:=by rw[<-hc,UInt8.toNat_ofNat'];omega
     have wy:IntKind.u8.wrap (y:Int)=(y:Int):=by rw[IntKind.wrap_u8];omega
     have HE:Hid (D++[c]=Wd.num n):=by unfold Hid;rw[HX.out.1,<-HV.out,Wd.uS (by omega),hc]
     clear h128 hc;go_wp2_with (at_builtin;refine wU _ rfl _ _ rfl w.heap.size _ L rfl (O2.out.alloc _) ⟨wr.heap.size,0,none⟩ c rfl (by rw[em];simp) (by have:=DL.out;omega) (by have:=B2.out.size;simp;omega) ?_);intro g cap2 w5 o5 g5 l5;have O5:Hid (Ob w5 w.heap.size (slice (some ⟨g,0,none⟩) (L.length+1) cap2) (Wd.wr (xs.take (k+1)))):=by unfold Hid;rw[HP.out,<-HE.out,<-List.append_assoc,HL.out];exact o5
     have B5:Hid (Below w.heap.size w w5):=(B2.out.alloc B2.out.size _).grown g5 (by have:=B2.out.size;simp;omega) (λb hb=>(O2.out.block b hb).1);clear o5 g5 l5;go_wp2;go_roundw
     case rel=>exact⟨k+1,rfl,by omega,O5.out,B5.out⟩
     case measure=>simp[intOf];omega
theorem zF(v:Value)(W:WV)(w:World)(h:Wl w v W)(hs:iJ W)(hi:∀n∈Wd.nums W,Wd.In64 n):
 Calls Tryz.prog 26 #[v] w λe w'=>∃u,e=.returned u/\Ob w' w.heap.size u (Wd.enc W)/\Below w.heap.size w w':=by
 have H:Hid (Wl w v W):=h;have S:Hid (iJ W):=hs;have I:Hid (∀n∈Wd.nums W,Wd.In64 n):=hi;obtain⟨u1,u2,u3,u4,u5,rfl,h1,h2,h3,h4,h5⟩:=h;clear h1 h2 h3 h4 h5 hs hi;go_enter Tryz.func26,Tryz.ntmps26;go_wp2_with fail
 have B0:Hid (Below w.heap.size w (w.alloc (Obj.cells #[int i64 W.turn,int i64 W.next,int i64 W.wide,int i64 W.high,u1,u2,u3,u4,u5] 29))):=(Below.refl _ _).alloc (Nat.le_refl _) _;generalize w.alloc (Obj.cells #[int i64 W.turn,int i64 W.next,int i64 W.wide,int i64 W.high,u1,u2,u3,u4,u5] 29)=w0 at *;refine(wS _ W w0 (H.out.below B0.out) S.out).mono ?_;rintro e w1 ⟨u,rfl,ho,hb⟩;have O:Hid (Ow w1 (w0.heap.size+2) u (Wd.nums W)):=ho;have B1:Hid (Below w.heap.size w w1):=B0.out.trans (hb.mono B0.out.size);clear ho hb;go_wp2_with fail
 have L:(Wd.nums W).length<=100000000:=by rw[<-qU];have:=qV S.out W.qs.length;omega
 refine(write_any _ (Wd.nums W) w1 O.out.ro I.out L).mono ?_;rintro e w2 ⟨b,rfl,ho,hb⟩;have F:Hid (Ob w2 w.heap.size b (Wd.enc W)/\Below w.heap.size w w2):=by
  refine⟨⟨ho.1,?_⟩,B1.out.trans (hb.mono B1.out.size)⟩;rcases ho.2 with h1|⟨g,cap,cur,h1,h2,h3⟩
  ·exact .inl h1
  ·exact .inr ⟨g,cap,cur,h1,Nat.le_trans B1.out.size h2,h3⟩
 clear ho hb L;go_wp2;go_ret;exact⟨_,rfl,F.out.1,F.out.2⟩
theorem Ob.Zm{w:World}{base:Nat}{v:Value}{l:List UInt8}(h:Ob w base v l):By w v l:=by
 rcases h.2 with⟨hv,h0⟩|⟨g,cap,cur,hv,hb,hg,h1,h2,h3,h4⟩
 ·exact⟨none,0,by rw[hv,h0],by omega,by omega,λhn=>absurd (List.length_eq_zero_iff.1 h0) hn⟩
 ·refine⟨_,cap,hv,h1,h2,λhn=>⟨_,rfl,lt_of_block hg,λi d hd=>?_⟩⟩
  have hi:i<l.length:=(List.getElem?_eq_some_iff.1 hd).1;rw[Addr.add_lit,Nat.zero_add];have h5:w.ownsRow base 5 1 (slice (some ⟨g,0,none⟩) l.length cap) l.length (byteCells l):=by rw[<-hv];exact h
  rw[h5.cellAt i (by omega),byteCells,List.getElem?_map,hd];rfl
theorem By.take{w:World}{ad:Option Addr}{n c k:Nat}{l:List UInt8}(h:By w (slice ad n c) l)(hk:k<=l.length):By w (slice ad k c) (l.take k):=by
 obtain⟨a,c',e,h1,h2,h3⟩:=h;injection e with e1 e2 e3
 subst e1 e3;have hl:(l.take k).length=k:=by rw[List.length_take];omega
 refine⟨ad,c,by rw[hl],by omega,h2,λhn=>?_⟩;obtain⟨x,e,hx,hc⟩:=h3 (by intro h;subst h;simp at hn);refine⟨x,e,hx,λi d hd=>hc i d ?_⟩;rw[List.getElem?_take] at hd;split at hd
 ·exact hd
 ·cases hd
theorem By.conv{w:World}{ad:Option Addr}{n c:Nat}{l:List UInt8}(h:By w (slice ad n c) l):(convert 56 9 (slice ad n c)).run Tryz.prog w=.ok (.string ⟨l.toArray⟩) w:=by
 obtain⟨a,c',e,h1,h2,h3⟩:=h;injection e with e1 e2 e3
 subst e1 e2 e3;by_cases hn:l=[]
 ·subst hn
  cases ad with
  |none=>rw[show([]:List UInt8).length=0 from rfl,run_convert_bytes_string w 56 9 5 none 0 c Tryz.underlying56 Tryz.underlying5 Tryz.underlying9];rfl
  |some a=>exact run_convert_bytes_back (P:=Tryz.prog) w 56 9 5 a c [] Tryz.underlying56 Tryz.underlying5 Tryz.underlying9 (λj hj=>by simp at hj)
 ·obtain⟨x,rfl,hx,hc⟩:=h3 hn
  exact run_convert_bytes_back (P:=Tryz.prog) w 56 9 5 x c l Tryz.underlying56 Tryz.underlying5 Tryz.underlying9 (λj hj=>hc j _ (List.getElem?_eq_getElem hj))
theorem Ob.take{w:World}{base:Nat}{ad:Option Addr}{n c k:Nat}{l:List UInt8}(h:Ob w base (slice ad n c) l)(hk:k<=l.length):Ob w base (slice ad k c) (l.take k):=by
 have hl:(l.take k).length=k:=by rw[List.length_take];omega
 refine⟨by rw[hl];simp[byteCells];omega,?_⟩;rw[hl];rcases h.2 with⟨h1,h2⟩|⟨g,cap,cur,h1,h2,h3,h4,h5,h6,h7⟩
 ·injection h1 with e1 e2 e3
  subst e1 e2 e3;have:k=0:=by omega
  subst this;exact .inl ⟨rfl,rfl⟩
 ·injection h1 with e1 e2 e3
  subst e1 e2 e3;refine .inr ⟨g,c,cur,rfl,h2,h3,by omega,h5,h6,?_⟩;have e:byteCells (l.take k)=(byteCells l).take k:=by simp[byteCells,List.map_take]
  rw[e,<-h7,List.take_take]
  congr 1
  omega
theorem Ob.below{w w':World}{base:Nat}{v:Value}{l:List UInt8}(h:Ob w base v l)(hb:Below w.heap.size w w'):Ob w' base v l:=
 World.ownsRow.kept h (row:=none) ⟨hb.os,hb.tape,hb.output,hb.size,λk hk _=>hb.block k hk⟩ (by cases v.ownBlock<;>simp)
namespace Wd
def KG(x:Nat)(c:UInt8):Nat:=(x*257+c.toNat)%1000000007
def sum(l:List UInt8):Nat:=l.foldl KG 1
theorem sum_lt(l:List UInt8):sum l<1000000007:=by
 unfold sum;have:∀(l:List UInt8) (x:Nat),x<1000000007->l.foldl KG x<1000000007:=by
  intro l
  induction l with
  |nil=>intro x h;exact h
  |cons c l ih=>intro x h;exact ih _ (Nat.mod_lt _ (by decide))
 exact this l 1 (by decide)
theorem KH{l:List UInt8}{k:Nat}{c:UInt8}(h:l[k]? =some c):sum (l.take (k+1))=KG (sum (l.take k)) c:=by
 obtain⟨hi,e⟩:=List.getElem?_eq_some_iff.1 h;unfold sum;rw[List.take_succ_eq_append_getElem hi,List.foldl_append,e];rfl
def find(us:List aB)(id:Int):Int:=match us.findIdx? (λu=>u.id==id) with
 |some i=>(i:Nat)
 |none=> -1
end Wd
theorem sum_any(v:Value)(W:WV)(w:World)(h:Wl w v W)(hs:iJ W)(hi:∀n∈Wd.nums W,Wd.In64 n):
 Calls Tryz.prog 13 #[v] w λe w'=>e=.returned (int i64 (Wd.sum (Wd.enc W):Nat))/\Below w.heap.size w w':=by
 have H:Hid (Wl w v W):=h;obtain⟨u1,u2,u3,u4,u5,rfl,h1,h2,h3,h4,h5⟩:=h;clear h1 h2 h3 h4 h5;have S:Hid (iJ W/\∀n∈Wd.nums W,Wd.In64 n):=⟨hs,hi⟩;clear hs hi;go_enter Tryz.func13,Tryz.ntmps13;go_wp2_with fail
 have B0:Hid (Below w.heap.size w (w.alloc (Obj.cells #[int i64 W.turn,int i64 W.next,int i64 W.wide,int i64 W.high,u1,u2,u3,u4,u5] 29))):=(Below.refl _ _).alloc (Nat.le_refl _) _;generalize w.alloc (Obj.cells #[int i64 W.turn,int i64 W.next,int i64 W.wide,int i64 W.high,u1,u2,u3,u4,u5] 29)=w0 at *;refine(zF _ W w0 (H.out.below B0.out) S.out.1 S.out.2).mono ?_;rintro e w1 ⟨u,rfl,ho,hb⟩;obtain⟨l,hl⟩:∃l,Wd.enc W=l:=⟨_,rfl⟩;rw[hl] at ho;have E:Hid (Wd.enc W=l):=hl;have B1:Hid (Below w.heap.size w w1):=B0.out.trans (hb.mono B0.out.size);obtain⟨a,cap,rfl,k1,k2,h3⟩:=ho.Zm;have H3:Hid (l≠[]->∃x,a=some x/\x.block<w1.heap.size/\∀(i:Nat) d,l[i]? =some d->w1.cell? (x.add i)=some (.int .u8 (d.toNat:Int))):=h3;have hml:l.length<=9223372036854775807:=by unfold maxLen at k2;omega
 clear ho hb hl k1 k2 h3 B0 H S;go_wp2;go_loopw [3,9] (λxv iv W'=>∃(k:Nat),xv=int i64 (Wd.sum (l.take k):Nat)/\iv=int i64 (k:Nat)/\k<=l.length/\W'=w1) (λ_ iv _=>l.length-(intOf iv).toNat)
 case atStart=>exact⟨0,rfl,rfl,Nat.zero_le _,rfl⟩
 case round=>
  obtain⟨k,rfl,rfl,hk,rfl⟩:=hrel;by_cases he:k=l.length
  ·subst he
   rw[List.take_length];go_wp2;go_ret;exact⟨by rw[E.out];rfl,B1.out⟩
  ·have hlt:k<l.length:=by omega
   have RQ:(k:Int)<(l.length:Int):=by omega
   obtain⟨c,hc⟩:∃c,l[k]? =some c:=⟨_,List.getElem?_eq_getElem hlt⟩;obtain⟨y,rfl,hy,hcell⟩:=H3.out (by intro e;subst e;simp at hlt);have cc:wr.cell? (y.add k)=some (.int .u8 (c.toNat:Int)):=hcell k c hc;have N:Hid (Wd.sum (l.take (k+1))=Wd.KG (Wd.sum (l.take k)) c):=Wd.KH hc;have sl:=Wd.sum_lt (l.take k);have cl:c.toNat<256:=c.toNat_lt;obtain⟨x,hx⟩:∃x,Wd.sum (l.take k)=x:=⟨_,rfl⟩;unfold Wd.KG at N;rw[hx] at N sl ⊢;obtain⟨m,hm⟩:∃m,c.toNat=m:=⟨_,rfl⟩;rw[hm] at N cl cc;obtain⟨p,hp⟩:∃p,x*257=p:=⟨_,rfl⟩;obtain⟨q,hq⟩:∃q,p+m=q:=⟨_,rfl⟩;obtain⟨r,hr⟩:∃r,q%1000000007=r:=⟨_,rfl⟩;have e1:(x:Int)*257=(p:Nat):=by omega
   have w1':IntKind.i64.wrap ((p:Nat):Int)=(p:Nat):=by rw[IntKind.wrap_i64];omega
   have e2:((p:Nat):Int)+(m:Nat)=(q:Nat):=by omega
   have w2':IntKind.i64.wrap ((q:Nat):Int)=(q:Nat):=by rw[IntKind.wrap_i64];omega
   have e3:((q:Nat):Int)%1000000007=(r:Nat):=by omega
   have NR:Hid (Wd.sum (l.take (k+1))=r):=by unfold Hid;rw[N.out,hp,hq,hr]
   have XJ:(m:Int)<256:=by omega
   clear hcell hy hc N hx hm hp hq hr sl cl;go_wp2;go_roundw
   case rel=>exact⟨k+1,by rw[NR.out,e3],rfl,by omega,trivial⟩
   case measure=>simp[intOf];omega
end Go.Proofs.YtolfphmdmpehdaaGreatDoor
