/- Spot and Train have one answer. Plain mathematics. And more. -/
import Derived.Test.YtolfphmdmpehdaaGreatDoorZTurnParts8
import Derived.Deep.SlicePairs
import Derived.OpenShut
set_option linter.unusedVariables false
set_option maxHeartbeats 8000000
set_option maxRecDepth 100000
open Go.Value (int slice)
open Go.IntKind (i64)
namespace Go.Proofs.YtolfphmdmpehdaaGreatDoor
open Wy
theorem DT{l:List Int}{n:Nat}{p:Int->Bool}{c F c' F':Int}(h:jS l n p c F)(h':jS l n p c' F'):c=c'/\F=F':=by
 have no:∀{m k:Nat} {c:Int},(rch l m n)[k]? =some c->p c=true->(rch l m n).any p=false->False:=λhk hp ha=>by
  rw[List.any_eq_false] at ha;exact ha _ (List.mem_of_getElem? hk) hp
 rcases h with⟨e1,e2,h⟩|⟨e1,m,k,hm,hk,hp,ht,hj⟩
 ·rcases h' with⟨f1,f2,h'⟩|⟨f1,m',k',hm',hk',hp',ht',hj'⟩
  ·exact⟨by rw[e2,f2],by rw[e1,f1]⟩
  ·exact(no hk' hp' (h m' hm')).elim
 ·rcases h' with⟨f1,f2,h'⟩|⟨f1,m',k',hm',hk',hp',ht',hj'⟩
  ·exact(no hk hp (h' m hm)).elim
  ·have em:m=m':=by
    rcases Nat.lt_trichotomy m m' with hl|hl|hl
    ·exact(no hk hp (hj' m hl)).elim
    ·exact hl
    ·exact(no hk' hp' (hj m' hl)).elim
   subst em;have ek:k=k':=by
    rcases Nat.lt_trichotomy k k' with hl|hl|hl
    ·rw[List.any_eq_false] at ht'
     exact(ht' c (List.mem_of_getElem? (by rw[List.getElem?_take,if_pos hl];exact hk)) hp).elim
    ·exact hl
    ·rw[List.any_eq_false] at ht
     exact(ht c' (List.mem_of_getElem? (by rw[List.getElem?_take,if_pos hl];exact hk')) hp').elim
   subst ek;rw[hk] at hk';injection hk' with e
   exact⟨e,by rw[e1,f1]⟩
theorem qo{p:aB->Bool}{us:List aB}{i:Nat}(h:jr p us (i:Nat)):∃x,us[i]? =some x/\p x=true/\(us.take i).any p=false:=by
 rcases h with⟨e,-⟩|⟨k,x,e,h1,h2,h3⟩
 ·omega
 ·obtain rfl:i=k:=by omega
  exact⟨x,h1,h2,h3⟩
theorem DV{p:aB->Bool}{us:List aB}{i j:Nat}(h:jr p us (i:Nat))(k:jr p us (j:Nat)):i=j:=by
 obtain⟨x,x1,x2,x3⟩:=qo h;obtain⟨y,y1,y2,y3⟩:=qo k;rcases Nat.lt_trichotomy i j with hl|hl|hl
 ·rw[List.any_eq_false] at y3
  exact(y3 x (List.mem_of_getElem? (by rw[List.getElem?_take,if_pos hl];exact x1)) x2).elim
 ·exact hl
 ·rw[List.any_eq_false] at x3
  exact(x3 y (List.mem_of_getElem? (by rw[List.getElem?_take,if_pos hl];exact y1)) y2).elim
theorem rO{ks:List KV}{X:WV}{unit kind c F c' F':Int}(h:jT ks X unit kind c F)(h':jT ks X unit kind c' F'):c=c'/\F=F':=by
 have last:∀{c F:Int},(∃(i kn Wn Hn an:Nat) (u:aB) (k:KV) (l:List Int),jr (λu=>u.id==unit) X.us (i:Nat)/\X.us[i]? =some u/\kind=(kn:Nat)/\ks[kn]? =some k/\X.wide=(Wn:Nat)/\X.high=(Hn:Nat)/\Fd.Good Wn Hn X.gs X.os/\u.at_=(an:Nat)/\an<Wn*Hn
  /\Wy.bU (Fd.near Wn Hn) (λi _=>(X.gs.map λg=>Fd.onto g k.f).getD i 0) an (Wn*Hn) l/\jS l (Wn*Hn) (xC X.us) c F)->X.us.any (λu=>u.id==unit)=true/\(0<=kind/\kind<(ks.length:Int)):=by
  rintro c F ⟨i,kn,Wn,Hn,an,u,k,l,h1,h2,h3,h4,-⟩;obtain⟨x,x1,x2,-⟩:=qo h1;refine⟨List.any_eq_true.2 ⟨x,List.mem_of_getElem? x1,x2⟩,by omega,?_⟩;have:=(List.getElem?_eq_some_iff.1 h4).1;omega
 rcases h with⟨a1,a2,a3⟩|⟨a1,a2,a3,a4⟩|⟨a1,a2,a3,a4,a5⟩|⟨a1,a⟩
 ·rcases h' with⟨b1,b2,b3⟩|⟨b1,-⟩|⟨b1,-⟩|⟨b1,-⟩
  ·exact⟨by rw[a3,b3],by rw[a2,b2]⟩
  all_goals exact absurd b1 a1
 ·rcases h' with⟨b1,b2,b3⟩|⟨b1,b2,b3,b4⟩|⟨b1,b2,b3,b4,b5⟩|⟨b1,b⟩
  ·exact absurd a1 b1
  ·exact⟨by rw[a4,b4],by rw[a3,b3]⟩
  ·rw[a2] at b2;cases b2
  ·have:=(last b).1;rw[a2] at this;cases this
 ·rcases h' with⟨b1,b2,b3⟩|⟨b1,b2,b3,b4⟩|⟨b1,b2,b3,b4,b5⟩|⟨b1,b⟩
  ·exact absurd a1 b1
  ·rw[a2] at b2;cases b2
  ·exact⟨by rw[a5,b5],by rw[a4,b4]⟩
  ·exact absurd (last b).2 a3
 ·rcases h' with⟨b1,b2,b3⟩|⟨b1,b2,b3,b4⟩|⟨b1,b2,b3,b4,b5⟩|⟨b1,b⟩
  ·exact absurd a1 b1
  ·have:=(last a).1;rw[b2] at this;cases this
  ·exact absurd (last a).2 b3
  ·obtain⟨i,kn,Wn,Hn,an,u,k,l,h1,h2,h3,h4,h5,h6,-,h8,-,h10,h11⟩:=a
   obtain⟨i',YG,VQ,VR,VT,u',k',l',g1,g2,g3,g4,g5,g6,-,g8,-,g10,g11⟩:=b;obtain rfl:=DV h1 g1;rw[h2] at g2;injection g2 with e
   subst e;obtain rfl:kn=YG:=by omega
   rw[h4] at g4;injection g4 with e
   subst e;obtain rfl:Wn=VQ:=by omega
   obtain rfl:Hn=VR:=by omega
   obtain rfl:an=VT:=by omega
   obtain rfl:=Wy.bU.uniq h10 g10;exact DT h11 g11
theorem DW{ks:List KV}{Y:WV}{j:aU}{c c':Int}(h:Comes ks Y j c)(h':Comes ks Y j c'):c=c':=(rO h.1 h'.1).1
theorem rP{ks:List KV}{Y:WV}{j:aU}{c:Int}(h:Comes ks Y j c)(h':kV ks Y j):False:=by
 obtain⟨c',F,h1,h2⟩:=h';obtain⟨rfl,rfl⟩:=rO h.1 h1;rcases h2 with h2|h2
 ·exact h2 rfl
 ·exact h2 h.2
theorem Nu{ks:List KV}{X:WV}{q:Nat}{Y:WV}{es:List bQ}{qs:List aU}(t:Tr ks X q Y es qs):∀{Y':WV} {es':List bQ} {Dj:List aU},Tr ks X q Y' es' Dj->Y=Y'/\es=es'/\qs=Dj:=by
 induction t with
 |zero=>intro Y' es' Dj t';cases t';exact⟨rfl,rfl,rfl⟩
 | @wait q Y es qs j t0 ho hl ih=>
  intro Y' es' Dj t';cases t' with
  |wait t1 ho1 hl1=>
   rw[ho] at ho1;injection ho1 with e;subst e
   obtain⟨rfl,rfl,rfl⟩:=ih t1;exact⟨rfl,rfl,rfl⟩
  |come t1 ho1 hl1 _=>rw[ho] at ho1;injection ho1 with e;subst e;exact absurd hl1 hl
  |stay t1 ho1 hl1 _=>rw[ho] at ho1;injection ho1 with e;subst e;exact absurd hl1 hl
 | @come q Y es qs j c t0 ho hl hc ih=>
  intro Y' es' Dj t';cases t' with
  |wait t1 ho1 hl1=>rw[ho] at ho1;injection ho1 with e;subst e;exact absurd hl hl1
  |come t1 ho1 hl1 hc1=>
   rw[ho] at ho1;injection ho1 with e;subst e
   obtain⟨rfl,rfl,rfl⟩:=ih t1;obtain rfl:=DW hc hc1;exact⟨rfl,rfl,rfl⟩
  |stay t1 ho1 hl1 hn=>
   rw[ho] at ho1;injection ho1 with e;subst e
   obtain⟨rfl,rfl,rfl⟩:=ih t1;exact(rP hc hn).elim
 | @stay q Y es qs j t0 ho hl hn ih=>
  intro Y' es' Dj t';cases t' with
  |wait t1 ho1 hl1=>rw[ho] at ho1;injection ho1 with e;subst e;exact absurd hl hl1
  |come t1 ho1 hl1 hc1=>
   rw[ho] at ho1;injection ho1 with e;subst e
   obtain⟨rfl,rfl,rfl⟩:=ih t1;exact(rP hc1 hn).elim
  |stay t1 ho1 hl1 _=>
   rw[ho] at ho1;injection ho1 with e;subst e
   obtain⟨rfl,rfl,rfl⟩:=ih t1;exact⟨rfl,rfl,rfl⟩
open Go.RowKit
theorem qp{ks:List KV}{X:WV}{Wn Hn:Nat}{k:KV}{i:Nat}{us us':List aB}{left:Int}{cells:List Int}(h:Goes ks X Wn Hn k i us left cells us'):∃(u:aB) (c:Nat) (gg:Int),us[i]? =some u/\fK ks {X with us:=us} Wn Hn u k c/\X.gs[c]? =some gg/\
 (((left<Fd.onto gg k.f\/us.any (λo=>o.at_==(c:Int))=true)/\cells=[]/\us'=us)\/(¬left<Fd.onto gg k.f/\us.any (λo=>o.at_==(c:Int))=false/\∃cells',cells=(c:Int)::cells'/\Goes ks X Wn Hn k i (us.set i {u with at_:=(c:Nat)}) (left-Fd.onto gg k.f) cells' us')):=by
 cases h with
 |stop hu hw hg h=>exact⟨_,_,_,hu,hw,hg,.inl ⟨h,rfl,rfl⟩⟩
 |step hu hw hg h1 h2 h3=>exact⟨_,_,_,hu,hw,hg,.inr ⟨h1,h2,_,rfl,h3⟩⟩
theorem nM{ks:List KV}{X:WV}{Wn Hn n:Nat}{us us':List aB}{evs:List bQ}(h:Moves ks X Wn Hn n us evs us'):(n=us.length/\evs=[]/\us'=us)\/∃(u u1:aB) (k:KV) (cells:List Int) (us1:List aB) (nP:List bQ),us[n]? =some u/\ks[u.kind.toNat]? =some k/\Goes ks X Wn Hn k n us k.n4 cells us1/\us1[n]? =some u1/\Moves ks X Wn Hn (n+1) (us1.set n (ends u1)) nP us'/\evs=cells.map (λc=>(⟨1,u.id,c⟩:bQ))++nP:=by
 cases h with
 |done h=>exact .inl ⟨h,rfl,rfl⟩
 |unit hu hk hg h1 hm=>exact .inr ⟨_,_,_,_,_,_,hu,hk,hg,h1,hm,rfl⟩
theorem Jv{ks:List KV}{X:WV}{Wn Hn:Nat}{u:aB}{k:KV}{c c':Int}(h:iR ks X Wn Hn u k c)(h':iR ks X Wn Hn u k c'):c=c':=by
 rcases h with⟨h1,h2⟩|⟨h1,h2,h3⟩|⟨h1,h2,l,h3,h4⟩
 ·rcases h' with⟨g1,g2⟩|⟨g1,-⟩|⟨g1,-⟩
  ·rw[h2,g2]
  ·exact absurd h1 g1
  ·omega
 ·rcases h' with⟨g1,g2⟩|⟨g1,g2,g3⟩|⟨g1,g2,-⟩
  ·exact absurd g1 h1
  ·rw[h3,g3]
  ·exact absurd ⟨g1,g2⟩ h2
 ·rcases h' with⟨g1,g2⟩|⟨g1,g2,g3⟩|⟨g1,g2,l',g3,g4⟩
  ·omega
  ·exact absurd ⟨h1,h2⟩ g2
  ·have:l=l':=h3.1.uniq g3.1
   subst this;rw[h4,g4]
theorem rQ{ks:List KV}{X:WV}{Wn Hn:Nat}{u:aB}{k:KV}{c c':Nat}(h:fK ks X Wn Hn u k c)(h':fK ks X Wn Hn u k c'):c=c':=by
 obtain⟨an,bn,l,h1,h2,-,h3,h4⟩:=h;obtain⟨VT,YH,l',g1,g2,-,g3,g4⟩:=h';obtain rfl:an=VT:=by omega
 obtain rfl:bn=YH:=by have:=Jv h2 g2;omega
 have:l=l':=h3.1.uniq g3.1;subst this;rcases h4 with⟨h4,h5⟩|⟨h4,h5⟩
 ·rcases g4 with⟨g4,g5⟩|⟨g4,-⟩
  ·rw[h5,g5]
  ·omega
 ·rcases g4 with⟨g4,-⟩|⟨-,g5⟩
  ·omega
  ·exact h5.uniq g5
theorem DX{ks:List KV}{X:WV}{Wn Hn:Nat}{k:KV}{i:Nat}{us us':List aB}{left:Int}{cells:List Int}(h:Goes ks X Wn Hn k i us left cells us'):∀{cells2:List Int} {us2:List aB},Goes ks X Wn Hn k i us left cells2 us2->cells=cells2/\us'=us2:=by
 induction h with
 |stop hu hw hg h=>
  intro cells2 us2 h';obtain⟨u',c',WY,hu',hw',hg',hh⟩:=qp h';rw[hu] at hu';injection hu' with hu'
  subst hu';obtain rfl:=rQ hw hw';rw[hg] at hg';injection hg' with hg'
  subst hg';rcases hh with⟨-,h1,h2⟩|⟨h1,h2,-⟩
  ·exact⟨h1.symm,h2.symm⟩
  ·rcases h with h|h
   ·exact absurd h h1
   ·rw[h] at h2;cases h2
 |step hu hw hg h1 h2 h3 ih=>
  intro cells2 us2 h';obtain⟨u',c',WY,hu',hw',hg',hh⟩:=qp h';rw[hu] at hu';injection hu' with hu'
  subst hu';obtain rfl:=rQ hw hw';rw[hg] at hg';injection hg' with hg'
  subst hg';rcases hh with⟨g1,-⟩|⟨-,-,cells',g1,g2⟩
  ·rcases g1 with g1|g1
   ·exact absurd g1 h1
   ·rw[h2] at g1;cases g1
  ·obtain⟨e1,e2⟩:=ih g2
   exact⟨by rw[g1,e1],e2⟩
theorem yM{ks:List KV}{X:WV}{Wn Hn n:Nat}{us us':List aB}{evs:List bQ}(h:Moves ks X Wn Hn n us evs us'):∀{qJ:List bQ} {us2:List aB},Moves ks X Wn Hn n us qJ us2->evs=qJ/\us'=us2:=by
 induction h with
 |done h=>
  intro qJ us2 h';rcases nM h' with⟨-,h1,h2⟩|⟨u,u1,k,cells,us1,nP,hu,-⟩
  ·exact⟨h1.symm,h2.symm⟩
  ·have:=(List.getElem?_eq_some_iff.1 hu).1
   omega
 |unit hu hk hg h1 hm ih=>
  intro qJ us2 h';rcases nM h' with⟨h2,-⟩|⟨u',u1',k',cells',us1',nP,hu',hk',hg',h1',hm',he⟩
  ·have:=(List.getElem?_eq_some_iff.1 hu).1
   omega
  ·rw[hu] at hu'
   injection hu' with hu'
   subst hu';rw[hk] at hk';injection hk' with hk'
   subst hk';obtain⟨e1,e2⟩:=DX hg hg';subst e1;subst e2;rw[h1] at h1';injection h1' with h1'
   subst h1';obtain⟨e3,e4⟩:=ih hm';exact⟨by rw[he,e3],e4⟩
end Go.Proofs.YtolfphmdmpehdaaGreatDoor
namespace Go.Proofs.YtolfphmdmpehdaaGreatDoor
open Go.RowKit Go.Proofs.YtolfphmdmpehdaaGreatDoor.So
theorem Nv{ks:List KV}{Wn Hn:Nat}{A:WV}{n:Nat}{Y:WV}{es:List bQ}(p:Ph ks Wn Hn A n Y es):∀{Y':WV} {es':List bQ},Ph ks Wn Hn A n Y' es'->Y=Y'/\es=es':=by
 induction p with
 |zero=>intro Y' es' q;cases q;exact⟨rfl,rfl⟩
 |one t=>
  intro Y' es' q;cases q with
  |one t'=>obtain⟨rfl,rfl,rfl⟩:=Nu t t';exact⟨rfl,rfl⟩
 |two p0 m ih=>
  intro Y' es' q;cases q with
  |two q0 m'=>
   obtain⟨rfl,rfl⟩:=ih q0;obtain⟨rfl,rfl⟩:=yM m m';exact⟨rfl,rfl⟩
 |three p0 ih=>
  intro Y' es' q;cases q with
  |three q0=>obtain⟨rfl,rfl⟩:=ih q0;exact⟨rfl,rfl⟩
 |four p0 ih=>
  intro Y' es' q;cases q with
  |four q0=>obtain⟨rfl,rfl⟩:=ih q0;exact⟨rfl,rfl⟩
theorem DY{ks:List KV}{X:WV}{l:List aQ}{Y Y':WV}{es es':List bQ}(h:vU ks X l Y es)(h':vU ks X l Y' es'):Y=Y'/\es=es':=by
 obtain⟨out,Wn,Hn,Z,a1,a2,a3,a4,rfl⟩:=h;obtain⟨out',VQ,VR,Z',b1,b2,b3,b4,rfl⟩:=h';obtain rfl:=a1.one b1;obtain rfl:Wn=VQ:=by omega
 obtain rfl:Hn=VR:=by omega
 obtain⟨rfl,rfl⟩:=Nv a4 b4;exact⟨rfl,rfl⟩
theorem jq{ks:List KV}{X:WV}{ls:List (List aQ)}{n:Nat}{Y:WV}(h:bI ks X ls n Y):∀{Y':WV},bI ks X ls n Y'->Y=Y':=by
 induction h with
 |zero=>intro Y' k;cases k;rfl
 |turn p hl hf hs ih=>
  intro Y' k;cases k with
  |turn p' hl' hf' hs'=>
   obtain rfl:=ih p';rw[hl] at hl';injection hl' with e
   subst e;exact(DY hs hs').1
theorem rU{ks:List KV}{X:WV}{ls ms:List (List aQ)}{n:Nat}{Y:WV}(h:bI ks X ls n Y):(∀i,i<n->ls[i]? =ms[i]?)->bI ks X ms n Y:=by
 induction h with
 |zero=>intro _;exact .zero
 | @turn n Y Z l es p hl hf hs ih=>intro e;exact .turn (ih (λi hi=>e i (by omega))) (by rw[<-e n (by omega)];exact hl) hf hs
theorem rV{ks:List KV}{X A:WV}{ls:List (List aQ)}{c m:Nat}{B:WV}(h:bI ks X ls c A)(k:bI ks A (ls.drop c) m B):bI ks X ls (c+m) B:=by
 induction k with
 |zero=>exact h
 | @turn n Y Z l es p hl hf hs ih=>exact .turn ih (by rw[List.getElem?_drop] at hl;exact hl) hf hs
theorem ng{ks:List KV}{X:WV}{ls:List (List aQ)}{n:Nat}{Y:WV}(h:bI ks X ls n Y):∀m,m<=n->∃Z,bI ks X ls m Z/\(m<n->∃l,ls[m]? =some l/\bF ks Z l=0):=by
 induction h with
 |zero=>intro m hm;obtain rfl:m=0:=by omega
        exact⟨X,.zero,λh=>absurd h (Nat.lt_irrefl _)⟩
 | @turn n Y Z l es p hl hf hs ih=>
   intro m hm;by_cases e:m=n+1
   ·subst e
    exact⟨Z,.turn p hl hf hs,λh=>absurd h (Nat.lt_irrefl _)⟩
   ·by_cases e2:m=n
    ·subst e2
     exact⟨Y,p,λ_=>⟨l,hl,hf⟩⟩
    ·obtain⟨W,h1,h2⟩:=ih m (by omega)
     exact⟨W,h1,λ_=>h2 (by omega)⟩
theorem yN{ks:List KV}{X:WV}{l:List aQ}{Y:WV}{es:List bQ}(hf:bF ks X l=0)(h:vU ks X l Y es):Wd.aF ks Y=0/\Y.turn=X.turn+1:=by
 have hw:Wd.aF ks X=0:=by
  by_cases e:Wd.aF ks X=0
  ·exact e
  ·rw[yK e] at hf;exact absurd hf e
 have ht:¬1000000<=X.turn:=λe=>by rw[Jt hw e] at hf;cases hf
 have ho:Od.faults l=0:=by rw[yL hw ht] at hf;exact hf
 have R:=bZ hw;obtain⟨out,Wn,Hn,Z,a1,a2,a3,a4,rfl⟩:=h;obtain⟨g1,g2,g3⟩:=tY (ks:=ks) (Y:=X) (out:=out) out.length;have AR:=oH R (out:=out) (λo h=>(Od.jh ho).2 o (a1.mem h)) out.length;obtain⟨r,-,-,t,-⟩:=a4.keep AR (by rw[g2,a2]) (by rw[g3,a3]);have tx:Z.turn=X.turn:=t.trans g1;refine⟨?_,by show Z.turn+1=_;rw[tx]⟩;obtain⟨W',H',e1,e2,G⟩:=r.good;refine Wd.dV r.kinds (by show Fd.fault Z.wide Z.high Z.gs Z.os=0;rw[e1,e2];exact Fd.dM G) ?_ r.ul (λi u hu=>?_) r.ql (λj hj=>r.job hj)
 ·have hn:=r.nums
  unfold Wd.bC at hn ⊢;simp only[Bool.or_eq_false_iff] at hn ⊢;refine⟨?_,hn.2⟩;have h1:=hn.1;unfold Wd.off at h1 ⊢;simp at h1 ⊢;omega
 ·obtain⟨k,F⟩:=r.fine hu
  exact⟨k,F.id1,F.id2,F.up,F.p,F.k0,F.kk,F.life,F.load,F.task,F.at_,F.goal,F.opn,F.rest⟩
theorem kZ{ks:List KV}{X:WV}{ls:List (List aQ)}{n:Nat}{Y:WV}(hw:Wd.aF ks X=0)(h:bI ks X ls n Y):Wd.aF ks Y=0/\Y.turn=X.turn+(n:Int):=by
 induction h with
 |zero=>exact⟨hw,by simp⟩
 |turn p hl hf hs ih=>
  obtain⟨s1,s2⟩:=yN hf hs;exact⟨s1,by rw[s2,ih.2];omega⟩
theorem yO{ks:List KV}{X:WV}(hw:Wd.aF ks X=0)(ht:X.turn<1000000):bF ks X []=0:=by
 rw[yL hw (by omega)];rfl
theorem vY{ks:List KV}{X:WV}{ls:List (List aQ)}{Y:WV}(h:bI ks X ls ls.length Y){c:Nat}(hc:c<=ls.length){n:Nat}{Z:WV}{l:List aQ}(p:bI ks X (ls.take c) n Z)(hl:(ls.take c)[n]? =some l):bF ks Z l=0:=by
 have hn:n<c:=by
  have:=(List.getElem?_eq_some_iff.1 hl).1;rw[List.length_take] at this;omega
 obtain⟨W,w1,w2⟩:=ng h n (by omega);have p':bI ks X ls n Z:=rU p (λi hi=>by rw[List.getElem?_take,if_pos (by omega)]);obtain rfl:=jq w1 p';obtain⟨l',e,f⟩:=w2 (by omega);rw[List.getElem?_take,if_pos hn,e] at hl;injection hl with hl
 subst hl;exact f
theorem yP{ks:List KV}{X A:WV}{ls:List (List aQ)}{Y:WV}(h:bI ks X ls ls.length Y){c:Nat}(hc:c<=ls.length)(ha:bI ks X ls c A){n:Nat}{Z:WV}{l:List aQ}(p:bI ks A (ls.drop c) n Z)(hl:(ls.drop c)[n]? =some l):bF ks Z l=0:=by
 have hn:c+n<ls.length:=by
  have:=(List.getElem?_eq_some_iff.1 hl).1;rw[List.length_drop] at this;omega
 obtain⟨W,w1,w2⟩:=ng h (c+n) (by omega);obtain rfl:=jq w1 (rV ha p);obtain⟨l',e,f⟩:=w2 hn;rw[List.getElem?_drop,e] at hl;injection hl with hl
 subst hl;exact f
def Wb(V:World)(z:Nat)(Q:WV):Prop:=∃g1 l1 g2 l2 g3 l3 g4 l4 g5 l5,Bw V z Q (slice g1 Q.gs.length l1) (slice g2 Q.os.length l2) (slice g3 Q.gold.length l3) (slice g4 Q.us.length l4) (slice g5 Q.qs.length l5)/\Wl V (.agg #[int i64 Q.turn,int i64 Q.next,int i64 Q.wide,int i64 Q.high,slice g1 Q.gs.length l1,slice g2 Q.os.length l2,slice g3 Q.gold.length l3,slice g4 Q.us.length l4,slice g5 Q.qs.length l5]) Q
theorem Wb.below{W V:World}{z:Nat}{Q:WV}(h:Wb W z Q)(hb:Below W.heap.size W V):Wb V z Q:=by
 obtain⟨g1,l1,g2,l2,g3,l3,g4,l4,g5,l5,h1,h2⟩:=h;exact⟨g1,l1,g2,l2,g3,l3,g4,l4,g5,l5,h1.below hb h1.lt,h2.below hb⟩
theorem Wb.lt{W:World}{z:Nat}{Q:WV}(h:Wb W z Q):z<W.heap.size:=by
 obtain⟨g1,l1,g2,l2,g3,l3,g4,l4,g5,l5,h1,h2⟩:=h;exact h1.lt
theorem lZ{r:Value}(h:Er r 0):r=.nilIface:=by
 rcases h with⟨-,h⟩|⟨h,-⟩
 ·exact h
 ·exact absurd rfl h
end Go.Proofs.YtolfphmdmpehdaaGreatDoor
namespace Go.Proofs.YtolfphmdmpehdaaGreatDoor
open Go.ChangeShapes Go.WideShapes Go.ChangeAt Go.RowKit
theorem DZ:∃f0 f1 f2 f3:Field,Tryz.prog.underlying 96=some (.struct #[f0,f1,f2,f3])/\
 f0.offset=0/\f0.type=3/\f1.offset=1/\f1.type=3/\f2.offset=2/\f2.type=3/\f3.offset=3/\f3.type=3:=⟨_,_,_,_,Tryz.underlying96,rfl,rfl,rfl,rfl,rfl,rfl,rfl,rfl⟩
theorem Nw{H:Type}{enc:TypeId×Value->H}{W:World}{base:Nat}{held:Bool}{fuel:Nat}{cs:List Value}{y:DataW H×List MemPlace}(h:DataW.trod enc Tryz.prog W base (λ_=>true) held fuel 96 cs=some y):
 ∃k:aQ,cs=[.int .i64 k.ay,.int .i64 k.unit,.int .i64 k.what,.int .i64 k.arg]/\True:=by
 obtain⟨f0,f1,f2,f3,he,o0,t0,o1,t1,o2,t2,o3,t3⟩:=DZ;obtain⟨xs,m,-,-,hlen,hxl,hf⟩:=DataW.trod_struct he h;have qw:Tryz.prog.cellsOf 3=1:=by kernel_rfl
 have uj:Tryz.prog.cellsOf 96=4:=by kernel_rfl
 rw[uj] at hlen
 match cs,hlen with
 |[v0,v1,v2,v3],_=>
  have hx:xs.length=4:=hxl
  match xs,hx with
  |[x0,x1,x2,x3],_=>
   have g0:=hf 0 f0 rfl;rw[o0,t0,qw] at g0;have g1:=hf 1 f1 rfl;rw[o1,t1,qw] at g1;have g2:=hf 2 f2 rfl;rw[o2,t2,qw] at g2;have g3:=hf 3 f3 rfl;rw[o3,t3,qw] at g3;obtain⟨m0,e0,-,-⟩:=DataW.trod_int Tryz.underlying3 g0;obtain⟨m1,e1,-,-⟩:=DataW.trod_int Tryz.underlying3 g1;obtain⟨m2,e2,-,-⟩:=DataW.trod_int Tryz.underlying3 g2;obtain⟨m3,e3,-,-⟩:=DataW.trod_int Tryz.underlying3 g3;simp at e0 e1 e2 e3;subst e0 e1 e2 e3;exact⟨⟨m0,m1,m2,m3⟩,rfl,trivial⟩
theorem Jw{H:Type}{enc:TypeId×Value->H}{W:World}{base:Nat}{held:Bool}{fuel:Nat}{v:Value}{y:DataW H×List MemPlace}(h:DataW.trod enc Tryz.prog W base (λ_=>true) held fuel 61 [v]=some y):
 ∃ks:List aQ,zD W v ks/\∀k∈ks,True:=by
 have uj:Tryz.prog.cellsOf 96=4:=by kernel_rfl
 rcases Go.Deep.open_slice Tryz.underlying61 h with⟨hcs,-⟩|⟨a,len,cap,m,q,D,Pl,hcs,hb,hl,hm,hmm,-,hx⟩
 ·simp at hcs
  subst hcs;exact⟨[],⟨none,0,rfl,Nat.le_refl _,by omega,λh=>absurd rfl h⟩,by simp⟩
 ·simp at hcs
  subst hcs;have hlm:len<=m:=by rw[hmm];simp;exact hl
  have each:∀i,i<len->∃k:aQ,kR W (a.add (i*4)) k/\(True):=by
   intro i hi;obtain⟨cs',h1,h2⟩:=hx i (by omega);obtain⟨k,rfl,hk⟩:=Nw h2;rw[uj] at h1;obtain⟨-,-,hcell⟩:=World.cells?_some h1;refine⟨k,?_,hk⟩;generalize a.add (i*4)=y at *;exact⟨hcell 0 (by decide),hcell 1 (by decide),hcell 2 (by decide),hcell 3 (by decide)⟩
  have inh:Inhabited aQ:=⟨⟨0,0,0,0⟩⟩;obtain⟨q,hq⟩:=Go.Deep.choose_lt each;refine⟨(List.range len).map q,⟨some a,cap,by simp,by simpa using hl,by unfold maxLen at hm;omega,λhn=>⟨a,rfl,?_,λi k hk=>?_⟩⟩,?_⟩
  ·have h0:0<len:=by
    rcases Nat.eq_zero_or_pos len with h|h
    ·subst h;simp at hn
    ·exact h
   have:=(hq 0 h0).1.lt;rwa[add_block] at this
  ·have hi:i<len:=by
    have:=(List.getElem?_eq_some_iff.1 hk).1;simpa using this
   rw[List.getElem?_map,List.getElem?_range hi] at hk;injection hk with hk
   subst hk;exact(hq i hi).1
  ·intro k hk
   obtain⟨i,hi,rfl⟩:=List.mem_map.1 hk;exact(hq i (List.mem_range.1 hi)).2
theorem D_{H:Type}{enc:TypeId×Value->H}{W:World}{base:Nat}{held:Bool}{fuel:Nat}{v:Value}{y:DataW H×List MemPlace}(h:DataW.trod enc Tryz.prog W base (λ_=>true) held fuel 30 [v]=some y):
 ∃ls:List (List aQ),m_ W v ls:=by
 have uj:Tryz.prog.cellsOf 61=1:=by kernel_rfl
 rcases Go.Deep.open_slice Tryz.underlying30 h with⟨hcs,-⟩|⟨a,len,cap,m,q,D,Pl,hcs,hb,hl,hm,hmm,-,hx⟩
 ·simp at hcs
  subst hcs;exact⟨[],⟨none,0,rfl,Nat.le_refl _,by omega,λh=>absurd rfl h⟩⟩
 ·simp at hcs
  subst hcs;have hlm:len<=m:=by rw[hmm];simp;exact hl
  have each:∀i,i<len->∃l:List aQ,∃u,W.cell? (a.add i)=some u/\zD W u l:=by
   intro i hi;obtain⟨cs',h1,h2⟩:=hx i (by omega);rw[uj] at h1;rw[Nat.mul_one] at h1;obtain⟨-,hlen,hcell⟩:=World.cells?_some h1
   match cs',hlen with
   |[u],_=>
    obtain⟨l,hl',-⟩:=Jw h2;exact⟨l,u,hcell 0 (by decide),hl'⟩
  have inh:Inhabited (List aQ):=⟨[]⟩;obtain⟨q,hq⟩:=Go.Deep.choose_lt each;refine⟨(List.range len).map q,⟨some a,cap,by simp,by simpa using hl,by unfold maxLen at hm;omega,λhn=>⟨a,rfl,?_,λi k hk=>?_⟩⟩⟩
  ·have h0:0<len:=by
    rcases Nat.eq_zero_or_pos len with h|h
    ·subst h;simp at hn
    ·exact h
   obtain⟨u,h1,-⟩:=hq 0 h0;have:=cell_lt h1;rwa[add_block] at this
  ·have hi:i<len:=by
    have:=(List.getElem?_eq_some_iff.1 hk).1;simpa using this
   rw[List.getElem?_map,List.getElem?_range hi] at hk;injection hk with hk
   subst hk;exact hq i hi
theorem Ny{H:Type}{enc:TypeId×Value->H}{W:World}{base b0:Nat}{held:Bool}{v:Value}{d:DataW H}{p:List MemPlace}(hv:Value.okWide Tryz.prog W .any b0 30 v)(h:DataW.Trod enc Tryz.prog W base (λ_=>true) held 30 v d p):∃ls:List (List aQ),m_ W v ls:=by
 obtain⟨a,len,cap,rfl⟩:=okWide_slice Tryz.underlying30 hv;obtain⟨fuel,hf⟩:=h;exact D_ hf
theorem m_.take{w:World}{a:Option Addr}{n c:Nat}{ls:List (List aQ)}(h:m_ w (slice a n c) ls){k:Nat}(hk:k<=ls.length):m_ w (slice a k c) (ls.take k):=by
 obtain⟨a',c',e,h2,h3,h4⟩:=h;injection e with e1 e2 e3
 subst e1 e3;have hl:(ls.take k).length=k:=by rw[List.length_take];omega
 refine⟨a,c,by rw[hl],by omega,h3,λhn=>?_⟩;obtain⟨x,ex,hx,hy⟩:=h4 (by rintro rfl;simp at hn);refine⟨x,ex,hx,λi l hi=>hy i l ?_⟩;rw[List.getElem?_take] at hi;split at hi
 ·exact hi
 ·cases hi
theorem m_.sl{w:World}{a:Option Addr}{c n L:Nat}{ls:List (List aQ)}(h:m_ w (slice a L c) ls)(hn:n<=ls.length):m_ w (sliced a n L c 1) (ls.drop n):=by
 obtain⟨a',c',e,h1,h2,h3⟩:=h;injection e with e1 e2 e3
 subst e1 e3 e2;unfold sliced;refine⟨_,_,by rw[List.length_drop],by rw[List.length_drop];omega,by omega,λhne=>?_⟩;have hnl:n<ls.length:=by
  rcases Nat.lt_or_ge n ls.length with h|h
  ·exact h
  ·exact absurd (List.drop_eq_nil_of_le h) hne
 obtain⟨x,rfl,hx1,hx2⟩:=h3 (by rintro rfl;simp at hnl);refine⟨x.add n,?_,by rw[add_block];exact hx1,λi l hk=>?_⟩
 ·simp
  intro hc;omega
 ·rw[List.getElem?_drop] at hk
  obtain⟨u,c1,c2⟩:=hx2 (n+i) l hk;have e:(x.add n).add i=x.add (n+i):=by
   unfold Addr.add;split<;>split<;>split<;>simp_all<;>omega
  rw[e];exact⟨u,c1,c2⟩
end Go.Proofs.YtolfphmdmpehdaaGreatDoor
namespace Go.Proofs.YtolfphmdmpehdaaGreatDoor
open Go.RowKit
namespace Wd
def bare(wd hg:Int)(gs os:List Int):WV:=⟨0,1,wd,hg,gs,os,[],[],[]⟩
def eP(ks:List KV)(wd hg:Int)(gs os:List Int)(mD gold:Int):Int:=if ground ks (bare wd hg gs os)=0 then(if(1<=mD/\mD<=4)/\0<=gold/\gold<=1000000 then 0 else 1) else ground ks (bare wd hg gs os)
def begun(ks:List KV)(wd hg:Int)(gs os:List Int)(mD gold:Int):WV:=if eP ks wd hg gs os mD gold=0 then⟨0,1,wd,hg,gs,os,List.replicate mD.toNat gold,[],[]⟩ else WV.zero
end Wd
theorem ni{ks:List KV}{wd hg:Int}{gs os:List Int}{mD gold:Int}(h:Wd.eP ks wd hg gs os mD gold≠0):Wd.begun ks wd hg gs os mD gold=WV.zero:=by unfold Wd.begun;rw[if_neg h]
theorem vZ{ks:List KV}{wd hg:Int}{gs os:List Int}{mD gold:Int}(h:Wd.eP ks wd hg gs os mD gold=0):Wd.begun ks wd hg gs os mD gold=⟨0,1,wd,hg,gs,os,List.replicate mD.toNat gold,[],[]⟩:=by unfold Wd.begun;rw[if_pos h]
structure Bx(w:World)(z:Nat)(wd hg:Int)(u1 u2:Value):Prop where
 c0:w.cell? ⟨z,0,none⟩=some (int i64 wd)
 c1:w.cell? ⟨z,1,none⟩=some (int i64 hg)
 c2:w.cell? ⟨z,2,none⟩=some u1
 c3:w.cell? ⟨z,3,none⟩=some u2
theorem Bx.lt{w:World}{z:Nat}{wd hg:Int}{u1 u2:Value}(h:Bx w z wd hg u1 u2):z<w.heap.size:=cell_lt h.c0
theorem Bx.below{w w':World}{z n:Nat}{wd hg:Int}{u1 u2:Value}(h:Bx w z wd hg u1 u2)(hb:Below n w w')(hn:z<n):Bx w' z wd hg u1 u2:=
 ⟨by rw[hb.cell (p:=⟨z,0,none⟩) hn];exact h.c0,by rw[hb.cell (p:=⟨z,1,none⟩) hn];exact h.c1,by rw[hb.cell (p:=⟨z,2,none⟩) hn];exact h.c2,by rw[hb.cell (p:=⟨z,3,none⟩) hn];exact h.c3⟩
theorem Bx.mk'{w:World}{z:Nat}(wd hg:Int)(u1 u2:Value)(hz:w.heap.size=z):Bx (w.alloc (.cells #[int i64 wd,int i64 hg,u1,u2] 25)) z wd hg u1 u2:=by
 subst hz;constructor<;>simp
theorem new_any(vk vf:Value)(ks:List KV)(wd hg:Int)(gs os:List Int)(mD gold:Int)(w:World)(hk:Kl w vk ks)(hb:∀k∈ks,k.b.size<=9223372036854775807)(hf:Fl w vf wd hg gs os):
 Calls Tryz.prog 38 #[vk,vf,int i64 mD,int i64 gold] w λe w'=>∃u r,e=.returned (.tuple #[u,r])/\Er r (Wd.eP ks wd hg gs os mD gold)/\Wo w' w.heap.size u (Wd.begun ks wd hg gs os mD gold)/\Below w.heap.size w w':=by
 have K:Hid (Kl w vk ks/\∀k∈ks,k.b.size<=9223372036854775807):=⟨hk,hb⟩;have F:=aj (hf);obtain⟨u1,u2,rfl,r1,r2⟩:=hf;obtain⟨p1,q1,rfl,-⟩:=r1;obtain⟨p2,q2,rfl,-⟩:=r2;clear hb hk;go_enter Tryz.func38,Tryz.ntmps38;go_upto_region 1 with fail
 have B0:Hid (Below _ w ((w.alloc (.cells #[int i64 wd,int i64 hg,slice p1 gs.length q1,slice p2 os.length q2] 25)).alloc (.cells #[int i64 0,int i64 0,int i64 0,int i64 0,slice none 0 0,slice none 0 0,slice none 0 0,slice none 0 0,slice none 0 0] 29))):=((Below.refl _ _).alloc (Nat.le_refl _) _).alloc (by simp) _;have X0:Hid (Bx ((w.alloc _).alloc (.cells #[int i64 0,int i64 0,int i64 0,int i64 0,slice none 0 0,slice none 0 0,slice none 0 0,slice none 0 0,slice none 0 0] 29)) _ wd hg (slice p1 gs.length q1) (slice p2 os.length q2)):=(Bx.mk' _ _ _ _ rfl).below ((Below.refl _ _).alloc (Nat.le_refl _) _) (by simp);have Z0:Hid (Wx ((w.alloc (.cells #[int i64 wd,int i64 hg,slice p1 gs.length q1,slice p2 os.length q2] 25)).alloc _) (w.heap.size+1) (int i64 0) (int i64 0) (int i64 0) (int i64 0) (slice none 0 0) (slice none 0 0) (slice none 0 0) (slice none 0 0) (slice none 0 0)):=Wx.new _ _ _ _ _ _ _ _ _ (by simp);have S0:Hid (w.heap.size+2<=((w.alloc (.cells #[int i64 wd,int i64 hg,slice p1 gs.length q1,slice p2 os.length q2] 25)).alloc (.cells #[int i64 0,int i64 0,int i64 0,int i64 0,slice none 0 0,slice none 0 0,slice none 0 0,slice none 0 0,slice none 0 0] 29)).heap.size):=by unfold Hid;simp
 generalize ((w.alloc _).alloc _)=w0 at *;obtain⟨x0,x1,x2,x3⟩:=X0.out;go_wp2_with fail
 refine(oq _ _ ks (Wd.bare wd hg gs os) w0 (K.out.1.below B0.out) K.out.2 (F.out.below B0.out)).mono ?_;rintro e w1 ⟨r,rfl,hr,hb1⟩;clear x0 x1 x2 x3;have B1:=aj (B0.out.trans (hb1.mono B0.out.size));have X1:=aj (X0.out.below hb1 X0.out.lt);have Z1:=aj (Z0.out.below hb1 Z0.out.lt);have S1:=aj (Nat.le_trans S0.out hb1.size);clear hb1 B0 X0 Z0 S0;rcases hr with⟨hf,rfl⟩|⟨hf,rfl⟩
 case inr=>
  obtain⟨fe,hfe⟩:∃f,Wd.ground ks (Wd.bare wd hg gs os)=f:=⟨_,rfl⟩;have Ah:Hid (fe≠0):=by rw[<-hfe];exact hf
  have FE:Hid (Wd.eP ks wd hg gs os mD gold=fe):=by unfold Hid Wd.eP;rw[if_neg hf];exact hfe
  rw[hfe];clear hf hfe;obtain⟨z0,z1,z2,z3,z4,z5,z6,z7,z8⟩:=Z1.out.cells;obtain⟨t0,t1,t2,t3,t4,t5,t6,t7,t8⟩:=Z1.out.aT;have KZ:=aj (dJ w1 (w.heap.size+1));obtain⟨y0,y1,y2,y3,y4,y5,y6,y7,y8⟩:=(Z1.out.jQ).cells;go_wp2;clear z0 z1 z2 z3 z4 z5 z6 z7 z8 t0 t1 t2 t3 t4 t5 t6 t7 t8;generalize World.setCell _ ⟨_,8,none⟩ _=w9 at *;refine bodyPost_ret (v:=.tuple #[.agg #[int i64 0,int i64 0,int i64 0,int i64 0,slice none 0 0,slice none 0 0,slice none 0 0,slice none 0 0,slice none 0 0],.iface 85 (int i64 fe)]) (by simp[results,Tryz.results38,go_sem,y0,y1,y2,y3,y4,y5,y6,y7,y8]) rfl ⟨_,_,rfl,by rw[FE.out];exact Er.no Ah.out,by rw[ni (by rw[FE.out];exact Ah.out)];exact kC _ _,KZ.out.below B1.out B1.out.size (by omega)⟩
 have HF:=aj (hf);have NF:Hid (Wd.eP ks wd hg gs os mD gold=if(1<=mD/\mD<=4)/\0<=gold/\gold<=1000000 then 0 else 1):=by unfold Hid Wd.eP;rw[if_pos hf]
 have GL:Hid (gs.length<=144/\os.length<=144):=by
  unfold Wd.ground at hf;split at hf
  ·obtain⟨Wn,Hn,-,-,G⟩:=Fd.kN hf
   have h1:=G.pos;have h2:=G.gl;have h3:=G.ol;unfold Wd.bare at h2 h3;exact⟨by simp only at h2;omega,by simp only at h3;omega⟩
  ·rename_i h0
   exact absurd hf h0
 clear hf;by_cases hp:1<=mD/\mD<=4
 case neg=>
  have t:=decide_eq_false hp;have Ah:Hid ((1:Int)≠0):=by unfold Hid;decide
  have FE:Hid (Wd.eP ks wd hg gs os mD gold=1):=by unfold Hid;rw[NF.out,if_neg (λh=>hp h.1)]
  clear hp;go_wp2_with fail
  refine(bG mD 1 4 w1).mono ?_;rintro e w2 ⟨rfl,iL⟩;obtain rfl:=iL.symm;rw[t];clear t;obtain⟨z0,z1,z2,z3,z4,z5,z6,z7,z8⟩:=Z1.out.cells;obtain⟨t0,t1,t2,t3,t4,t5,t6,t7,t8⟩:=Z1.out.aT;have KZ:=aj (dJ w1 (w.heap.size+1));obtain⟨y0,y1,y2,y3,y4,y5,y6,y7,y8⟩:=(Z1.out.jQ).cells;go_wp2;clear z0 z1 z2 z3 z4 z5 z6 z7 z8 t0 t1 t2 t3 t4 t5 t6 t7 t8;generalize World.setCell _ ⟨_,8,none⟩ _=w9 at *;refine bodyPost_ret (v:=.tuple #[.agg #[int i64 0,int i64 0,int i64 0,int i64 0,slice none 0 0,slice none 0 0,slice none 0 0,slice none 0 0,slice none 0 0],.iface 85 (int i64 1)]) (by simp[results,Tryz.results38,go_sem,y0,y1,y2,y3,y4,y5,y6,y7,y8]) rfl ⟨_,_,rfl,by rw[FE.out];exact Er.no Ah.out,by rw[ni (by rw[FE.out];exact Ah.out)];exact kC _ _,KZ.out.below B1.out B1.out.size (by omega)⟩
 have t:=decide_eq_true hp;go_wp2_with fail
 refine(bG mD 1 4 w1).mono ?_;rintro e w2 ⟨rfl,iL⟩;obtain rfl:=iL.symm;rw[t];clear t;by_cases hgd:0<=gold/\gold<=1000000
 case neg=>
  have t:=decide_eq_false hgd;have Ah:Hid ((1:Int)≠0):=by unfold Hid;decide
  have FE:Hid (Wd.eP ks wd hg gs os mD gold=1):=by unfold Hid;rw[NF.out,if_neg (λh=>hgd h.2)]
  clear hgd hp;go_wp2_with fail
  refine(bG gold 0 1000000 w1).mono ?_;rintro e w2 ⟨rfl,iL⟩;obtain rfl:=iL.symm;rw[t];clear t;obtain⟨z0,z1,z2,z3,z4,z5,z6,z7,z8⟩:=Z1.out.cells;obtain⟨t0,t1,t2,t3,t4,t5,t6,t7,t8⟩:=Z1.out.aT;have KZ:=aj (dJ w1 (w.heap.size+1));obtain⟨y0,y1,y2,y3,y4,y5,y6,y7,y8⟩:=(Z1.out.jQ).cells;go_wp2;clear z0 z1 z2 z3 z4 z5 z6 z7 z8 t0 t1 t2 t3 t4 t5 t6 t7 t8;generalize World.setCell _ ⟨_,8,none⟩ _=w9 at *;refine bodyPost_ret (v:=.tuple #[.agg #[int i64 0,int i64 0,int i64 0,int i64 0,slice none 0 0,slice none 0 0,slice none 0 0,slice none 0 0,slice none 0 0],.iface 85 (int i64 1)]) (by simp[results,Tryz.results38,go_sem,y0,y1,y2,y3,y4,y5,y6,y7,y8]) rfl ⟨_,_,rfl,by rw[FE.out];exact Er.no Ah.out,by rw[ni (by rw[FE.out];exact Ah.out)];exact kC _ _,KZ.out.below B1.out B1.out.size (by omega)⟩
 have t:=decide_eq_true hgd;have F0:Hid (Wd.eP ks wd hg gs os mD gold=0):=by unfold Hid;rw[NF.out,if_pos ⟨hp,hgd⟩]
 go_wp2_with fail
 refine(bG gold 0 1000000 w1).mono ?_;rintro e w2 ⟨rfl,iL⟩;obtain rfl:=iL.symm;rw[t];clear t;obtain⟨n,rfl⟩:∃n:Nat,mD=n:=⟨mD.toNat,by omega⟩;have hn:0<n/\n<=4:=by omega
 have HN:=aj (hn);clear hp hgd hn;go_wp2_with fail
 have BA:Hid (Below _ w1 (w1.alloc (Obj.cells #[int i64 gold] 3))):=(Below.refl _ _).alloc (Nat.le_refl _) _;have RA:Hid (Ro _ (slice (some ⟨w1.heap.size,0,none⟩) 1 1) [gold]):=Ro.wH gold rfl;generalize (w1.alloc _)=wa at *;refine(qV gold _ n wa RA.out (HN.out.1) (by have:=HN.out.2;omega)).mono ?_;rintro e w2 ⟨b,rfl,-,hbk,hb2⟩;have BW:=aj (BA.out.trans (hb2.mono BA.out.size));have B2:=aj (B1.out.trans (BW.out.mono B1.out.size));have X2:=aj (X1.out.below BW.out X1.out.lt);have Z2:=aj (Z1.out.below BW.out Z1.out.lt);have S2:=aj (Nat.le_trans S1.out BW.out.size);have G2:Hid (Ro w2 (slice (some ⟨b,0,none⟩) n n) (List.replicate n gold)):=by
  unfold Hid;have:=hbk.ro (c:=n) (by simp) (by have:=HN.out.2;omega);simpa using this
 clear hb2 hbk B1 X1 Z1 S1 BA RA BW;obtain⟨x0,x1,x2,x3⟩:=X2.out;go_wp2_with fail
 have F2:=F.out.below B2.out;obtain⟨v1,v2,he,f1,f2⟩:=F2;injection he with he
 simp only[Array.mk.injEq,List.cons.injEq,and_true,true_and] at he;obtain⟨rfl,rfl⟩:=he;refine(g_ _ ⟨0,1,wd,hg,gs,os,List.replicate n gold,[],[]⟩ w2 ⟨_,_,_,_,_,rfl,f1,f2,G2.out,⟨none,0,rfl,Nat.le_refl _,by omega,λh=>absurd rfl h⟩,⟨none,0,rfl,Nat.le_refl _,by omega,λh=>absurd rfl h⟩⟩ ⟨by have:=GL.out.1;simp only;omega,by have:=GL.out.2;simp only;omega,by have:=HN.out.2;simp only[List.length_replicate];omega,by simp,by simp⟩).mono ?_;rintro e w3 ⟨u,rfl,ho,hb3⟩;clear f1 f2 x0 x1 x2 x3;have B3:=aj (B2.out.trans (hb3.mono B2.out.size));have Z3:=aj (Z2.out.below hb3 Z2.out.lt);obtain⟨v1,v2,v3,v4,v5,rfl,o1,o2,o3,o4,o5⟩:=ho.wo.mono S2.out;have O3:=aj (gG o1 o2 o3 o4 o5);obtain⟨a1,b1,rfl⟩:=o1.len;obtain⟨a2,b2,rfl⟩:=o2.len;obtain⟨a3,b3,rfl⟩:=o3.len;obtain⟨a4,b4,rfl⟩:=o4.len;obtain⟨a5,b5,rfl⟩:=o5.len;simp only[List.length_replicate,List.length_nil] at O3 ⊢;clear ho hb3 o1 o2 o3 o4 o5 B2 X2 Z2 S2 G2;obtain⟨z0,z1,z2,z3,z4,z5,z6,z7,z8⟩:=Z3.out.cells;obtain⟨t0,t1,t2,t3,t4,t5,t6,t7,t8⟩:=Z3.out.aT;have KZ:=aj (aW w3 (w.heap.size+1) (int i64 0) (int i64 1) (int i64 wd) (int i64 hg) (slice a1 gs.length b1) (slice a2 os.length b2) (slice a3 n b3) (slice a4 0 b4) (slice a5 0 b5));obtain⟨y0,y1,y2,y3,y4,y5,y6,y7,y8⟩:=(Z3.out.put (int i64 0) (int i64 1) (int i64 wd) (int i64 hg) (slice a1 gs.length b1) (slice a2 os.length b2) (slice a3 n b3) (slice a4 0 b4) (slice a5 0 b5)).cells;go_wp2;clear z0 z1 z2 z3 z4 z5 z6 z7 z8 t0 t1 t2 t3 t4 t5 t6 t7 t8;generalize World.setCell _ ⟨_,8,none⟩ _=w9 at *;refine bodyPost_ret (v:=.tuple #[.agg #[int i64 0,int i64 1,int i64 wd,int i64 hg,slice a1 gs.length b1,slice a2 os.length b2,slice a3 n b3,slice a4 0 b4,slice a5 0 b5],.nilIface]) (by simp[results,Tryz.results38,go_sem,y0,y1,y2,y3,y4,y5,y6,y7,y8]) rfl ⟨_,_,rfl,by rw[F0.out];exact Er.nil,?_,KZ.out.below B3.out B3.out.size (by omega)⟩;rw[vZ F0.out,Int.toNat_natCast];exact⟨_,_,_,_,_,rfl,(O3.out.1.kp KZ.out (by omega)).mono (by omega),(O3.out.2.1.kp KZ.out (by omega)).mono (by omega),(O3.out.2.2.1.kp KZ.out (by omega)).mono (by omega),(O3.out.2.2.2.1.kp KZ.out (by omega)).mono (by omega),(O3.out.2.2.2.2.kp KZ.out (by omega)).mono (by omega)⟩
end Go.Proofs.YtolfphmdmpehdaaGreatDoor
namespace Go.Proofs.YtolfphmdmpehdaaGreatDoor.Fd
def TJ(g:Int):UInt8:=if g=0 then 46 else if g=1 then 35 else if g=2 then 126 else 94
def qC(g o:Int):UInt8:=if o=0 then TJ g else if o%10=0/\o<=90 then(48+(o/10).toNat).toUInt8 else 43
def fC(W:Nat)(gs os:List Int)(r c:Nat):List UInt8:=(List.range c).map λj=>qC (gs.getD (r*W+j) 0) (os.getD (r*W+j) 0)
def jH(W:Nat)(gs os:List Int):Nat->List UInt8
 |0=>[]
 |r+1=>jH W gs os r++(fC W gs os r W++[10])
theorem jI(W:Nat)(gs os:List Int)(r c:Nat):fC W gs os r (c+1)=fC W gs os r c++[qC (gs.getD (r*W+c) 0) (os.getD (r*W+c) 0)]:=by
 unfold fC;rw[List.range_succ,List.map_append];rfl
structure St where
 c:Nat
 W:Nat
 H:Nat
 gs:List Int
 os:List Int
def st0:St:=⟨0,0,0,[],[]⟩
def meant(b:UInt8):Option (Int×Int):=
 if 49<=b.toNat/\b.toNat<=57 then some (0,((b.toNat:Int)-48)*10) else if b=46 then some (0,0) else if b=35 then some (1,0) else if b=126 then some (2,0) else if b=94 then some (3,0) else none
def step(s:St)(b:UInt8):Int ⊕ St:=
 if b=10 then(if s.c=0\/(0<s.H/\s.c≠s.W) then .inl 2 else .inr ⟨0,s.c,s.H+1,s.gs,s.os⟩)
 else match meant b with
  |none=>.inl 2
  |some (g,o)=>if 0<s.H/\s.c=s.W then .inl 2 else if s.c=12\/s.H=12 then .inl 4 else .inr ⟨s.c+1,s.W,s.H,s.gs++[g],s.os++[o]⟩
def run:St->Nat->List UInt8->(Nat×Int) ⊕ St
 |s,_,[]=>.inr s
 |s,i,b::bs=>match step s b with
  | .inl e=>.inl (i,e)
  | .inr s'=>run s' (i+1) bs
def parse(l:List UInt8):(Nat×Int) ⊕ St:=
 match run st0 0 l with
 | .inl x=>.inl x
 | .inr s=>if 0<s.c\/s.H=0 then .inl (l.length,2) else .inr s
theorem Jy(s:St)(i:Nat)(b:UInt8)(bs:List UInt8):run s i (b::bs)=match step s b with| .inl e=>.inl (i,e)| .inr s'=>run s' (i+1) bs:=rfl
def yQ(g o:Int):Prop:=0<=g/\g<=3/\0<=o/\o<=90/\o%10=0/\(0<o->g=0)
theorem Eb{b:UInt8}{g o:Int}(h:meant b=some (g,o)):qC g o=b/\yQ g o:=by
 unfold meant at h;split at h
 ·rename_i hb
  simp only[Option.some.injEq,Prod.mk.injEq] at h;obtain⟨rfl,rfl⟩:=h;have e1:(((b.toNat:Int)-48)*10)/10=(b.toNat:Int)-48:=by omega
  refine⟨?_,by unfold yQ;omega⟩;unfold qC;rw[if_neg (by omega),if_pos (by omega),e1,show 48+((b.toNat:Int)-48).toNat=b.toNat by omega];exact UInt8.ofNat_toNat
 ·split at h
  ·rename_i hb
   simp only[Option.some.injEq,Prod.mk.injEq] at h;obtain⟨rfl,rfl⟩:=h;exact⟨by rw[hb];rfl,by unfold yQ;omega⟩
  ·split at h
   ·rename_i hb
    simp only[Option.some.injEq,Prod.mk.injEq] at h;obtain⟨rfl,rfl⟩:=h;exact⟨by rw[hb];rfl,by unfold yQ;omega⟩
   ·split at h
    ·rename_i hb
     simp only[Option.some.injEq,Prod.mk.injEq] at h;obtain⟨rfl,rfl⟩:=h;exact⟨by rw[hb];rfl,by unfold yQ;omega⟩
    ·split at h
     ·rename_i hb
      simp only[Option.some.injEq,Prod.mk.injEq] at h;obtain⟨rfl,rfl⟩:=h;exact⟨by rw[hb];rfl,by unfold yQ;omega⟩
     ·cases h
theorem mF{l:List Int}{x:Int}{i:Nat}(h:i<l.length):(l++[x]).getD i 0=l.getD i 0:=by
 rw[List.getD_eq_getElem?_getD,List.getD_eq_getElem?_getD,List.getElem?_append_left h]
theorem kM{l:List Int}{x:Int}{i:Nat}(h:i=l.length):(l++[x]).getD i 0=x:=by
 subst h;rw[List.getD_eq_getElem?_getD,List.getElem?_append_right (Nat.le_refl _)];simp
theorem mG{W:Nat}{gs os:List Int}{g o:Int}{r c:Nat}(h1:r*W+c<=gs.length)(h2:r*W+c<=os.length):fC W (gs++[g]) (os++[o]) r c=fC W gs os r c:=by
 induction c with
 |zero=>rfl
 |succ c ih=>
  rw[jI,jI,ih (by omega) (by omega),mF (by omega),mF (by omega)]
theorem wu{W:Nat}{gs os:List Int}{g o:Int}{r:Nat}(h1:r*W<=gs.length)(h2:r*W<=os.length):jH W (gs++[g]) (os++[o]) r=jH W gs os r:=by
 induction r with
 |zero=>rfl
 |succ r ih=>
  rw[Nat.add_mul] at h1 h2;simp only[jH];rw[ih (by omega) (by omega),mG (by omega) (by omega)]
theorem um(W V:Nat)(gs os:List Int)(c:Nat):fC W gs os 0 c=fC V gs os 0 c:=by
 unfold fC;simp
structure Inv(s:St)(l:List UInt8):Prop where
 w0:s.H=0->s.W=0
 wp:0<s.H->0<s.W
 cw:0<s.H->s.c<=s.W
 c12:s.c<=12
 w12:s.W<=12
 h12:s.H<=12
 top:s.H=12->s.c=0
 gl:s.gs.length=s.H*s.W+s.c
 ol:s.os.length=s.H*s.W+s.c
 TM:∀(i:Nat) g o,s.gs[i]? =some g->s.os[i]? =some o->yQ g o
 text:l=jH s.W s.gs s.os s.H++fC s.W s.gs s.os s.H s.c
theorem inv0:Inv st0 []:=⟨λ_=>rfl,λh=>by simp[st0] at h,λh=>by simp[st0] at h,by simp[st0],by simp[st0],by simp[st0],λh=>by simp[st0] at h,rfl,rfl,λi g o h=>by simp[st0] at h,rfl⟩
theorem qx{l:List Int}{x y:Int}{i:Nat}(h:(l++[x])[i]? =some y):(i<l.length/\l[i]? =some y)\/(i=l.length/\y=x):=by
 rcases Nat.lt_or_ge i l.length with h1|h1
 ·left;rw[List.getElem?_append_left h1] at h;exact⟨h1,h⟩
 ·right
  rw[List.getElem?_append_right h1] at h;have h2:i-l.length=0:=by
   rcases Nat.eq_zero_or_pos (i-l.length) with h2|h2
   ·exact h2
   ·rw[List.getElem?_eq_none (by simp;omega)] at h;cases h
  rw[h2] at h;simp at h;exact⟨by omega,h.symm⟩
theorem Inv.step{s s':St}{l:List UInt8}{b:UInt8}(h:Inv s l)(hs:step s b=.inr s'):Inv s' (l++[b]):=by
 unfold Fd.step at hs;split at hs
 ·rename_i hb
  subst hb;split at hs
  ·cases hs
  ·rename_i hc
   injection hs with hs
   subst hs;have hc0:0<s.c:=by omega
   have hcw:0<s.H->s.c=s.W:=by omega
   have hh:s.H≠12:=λe=>by have:=h.top e;omega
   have h12:=h.h12;have c12:=h.c12
   have el:s.H*s.W+s.c=(s.H+1)*s.c:=by
    rcases Nat.eq_zero_or_pos s.H with e|e
    ·rw[e];simp
    ·rw[<-hcw e,Nat.add_mul,Nat.one_mul]
   refine⟨by simp,by simp;exact hc0,by simp,by simp,c12,by show s.H+1<=12;omega,by simp,?_,?_,h.TM,?_⟩
   ·show s.gs.length=(s.H+1)*s.c+0;rw[h.gl,el];rfl
   ·show s.os.length=(s.H+1)*s.c+0;rw[h.ol,el];rfl
   ·show l++[10]=jH s.c s.gs s.os (s.H+1)++fC s.c s.gs s.os (s.H+1) 0
    rw[h.text];simp only[jH];rcases Nat.eq_zero_or_pos s.H with e|e
    ·rw[e,um s.W s.c]
     simp[jH,fC]
    ·rw[<-hcw e]
     simp[fC]
 ·split at hs
  ·cases hs
  ·rename_i g o hm
   split at hs
   ·cases hs
   ·split at hs
    ·cases hs
    ·rename_i h1 h2
     injection hs with hs
     subst hs;obtain⟨e1,e2⟩:=Eb hm;have cw:=h.cw;have c12:=h.c12;have h12:=h.h12
     refine⟨h.w0,h.wp,λhp=>?_,?_,h.w12,h.h12,λe=>?_,?_,?_,?_,?_⟩
     ·show s.c+1<=s.W;have:=cw hp;have:0<s.H:=hp;omega
     ·show s.c+1<=12;omega
     ·exfalso;have:s.H=12:=e;omega
     ·show(s.gs++[g]).length=s.H*s.W+(s.c+1);rw[List.length_append,h.gl];rfl
     ·show(s.os++[o]).length=s.H*s.W+(s.c+1);rw[List.length_append,h.ol];rfl
     ·intro i g' o' hg ho
      rcases qx hg with⟨l1,q1⟩|⟨l1,q1⟩
      ·rcases qx ho with⟨l2,q2⟩|⟨l2,q2⟩
       ·exact h.TM i g' o' q1 q2
       ·have:=h.gl;have:=h.ol;omega
      ·rcases qx ho with⟨l2,q2⟩|⟨l2,q2⟩
       ·have:=h.gl;have:=h.ol;omega
       ·rw[q1,q2];exact e2
     ·show l++[b]=jH s.W (s.gs++[g]) (s.os++[o]) s.H++fC s.W (s.gs++[g]) (s.os++[o]) s.H (s.c+1)
      have:=h.gl;have:=h.ol
      rw[wu (by omega) (by omega),jI,mG (by omega) (by omega),kM (by omega),kM (by omega),e1,h.text,List.append_assoc]
theorem Inv.run{s s':St}{l m:List UInt8}{i:Nat}(h:Inv s l)(hs:run s i m=.inr s'):Inv s' (l++m):=by
 induction m generalizing s l i with
 |nil=>
  simp only[Fd.run] at hs;injection hs with hs
  subst hs;simpa using h
 |cons b bs ih=>
  rw[Jy] at hs;cases hb:Fd.step s b with
  |inl e=>rw[hb] at hs;cases hs
  |inr s1=>
   rw[hb] at hs;have:=ih (h.step hb) hs;rwa[List.append_assoc] at this
section
variable {W H:Nat} {gs os:List Int} (G:Good W H gs os) (ht:∀o∈os,o<=90/\o%10=0)
include G ht
end
end Go.Proofs.YtolfphmdmpehdaaGreatDoor.Fd
namespace Go.Proofs.YtolfphmdmpehdaaGreatDoor
def SK:List KV:=[⟨⟨#[98,97,115,101]⟩,50,0,0,4,0,50,5,0,false,true⟩,⟨⟨#[100,105,103,103,101,114]⟩,10,0,0,3,2,10,2,20,false,false⟩,⟨⟨#[102,105,103,104,116,101,114]⟩,20,4,1,4,2,20,3,0,false,false⟩]
def SG:List Int:=[0,0,0,0,0,0,0,0]
def SO:List Int:=[0,0,0,0,0,0,30,0]
def S0:WV:=⟨0,1,4,2,SG,SO,[100,100],[],[]⟩
def S1:WV:=⟨0,2,4,2,SG,SO,[100,100],[⟨1,0,0,0,50,0,0,0⟩],[]⟩
def S2:WV:=⟨0,3,4,2,SG,SO,[100,100],[⟨1,0,0,0,50,0,0,0⟩,⟨2,0,1,1,10,0,0,0⟩],[]⟩
def S3:WV:=⟨0,4,4,2,SG,SO,[100,100],[⟨1,0,0,0,50,0,0,0⟩,⟨2,0,1,1,10,0,0,0⟩,⟨3,1,2,3,20,0,0,0⟩],[]⟩
theorem Jz:Fd.parse [46,46,46,46,10,46,46,51,46,10]=.inr ⟨0,4,2,SG,SO⟩:=by rfl
theorem Oz:Wd.eP SK 4 2 SG SO 2 100=0:=by decide+kernel
theorem OD:Wd.dh SK S0 0 0 0=0:=by decide+kernel
theorem OG:Wd.dh SK S1 0 1 1=0:=by decide+kernel
theorem OH:Wd.dh SK S2 1 2 3=0:=by decide+kernel
theorem VU:Wd.begun SK 4 2 SG SO 2 100=S0:=vZ Oz
theorem VW:Wd.placed SK S0 0 0 0=S1:=(jf OD).trans rfl
theorem VX:Wd.placed SK S1 0 1 1=S2:=(jf OG).trans rfl
theorem VY:Wd.placed SK S2 1 2 3=S3:=(jf OH).trans rfl
theorem fM:∀k∈SK,k.b.size<=9223372036854775807:=by
 intro k hk;unfold SK at hk;rcases List.mem_cons.1 hk with rfl|hk
 ·decide
 rcases List.mem_cons.1 hk with rfl|hk
 ·decide
 rcases List.mem_cons.1 hk with rfl|hk
 ·decide
 ·cases hk
open Go.RowKit
theorem JB(s:ByteArray)(c:Int)(w:World):
 Calls Tryz.prog 173 #[.string s,.int .u8 c] w λe w'=>e=.returned (int i64 (Lib.indexByte s.data.toList c.toNat.toUInt8))/\w'=w:=by
 have hx:=run_callFunc_extern (w:=w) (args:= #[.string s,.int .u8 c]) Tryz.func213 (by kernel_rfl) (by kernel_rfl) (by kernel_rfl) (e:=Extern.BytealgIndexByte.indexByte) (by kernel_rfl);go_enter Tryz.func173,Tryz.ntmps173;go_wp2;rw[Lib.run_indexByteString];simp only[Result.andThen];rw[Oper.upon_value];go_wp2;go_ret;exact⟨rfl,rfl⟩
theorem JD(s:ByteArray)(c:Int)(w:World):
 Calls Tryz.prog 137 #[.string s,.int .u8 c] w λe w'=>e=.returned (int i64 (Lib.indexByte s.data.toList c.toNat.toUInt8))/\w'=w:=by
 have K:Hid (Calls Tryz.prog 173 #[.string s,.int .u8 c] w λe w'=>e=.returned (int i64 (Lib.indexByte s.data.toList c.toNat.toUInt8))/\w'=w):=JB s c w;go_enter Tryz.func137,Tryz.ntmps137;go_wp2_with fail
 refine Calls.mono K.out ?_;rintro e w' ⟨rfl,rfl⟩;go_wp2;go_ret;exact⟨rfl,rfl⟩
namespace Fd
def uo(b:UInt8):Int:=if b=46 then 0 else if b=35 then 1 else if b=126 then 2 else if b=94 then 3 else -1
theorem yR(b:UInt8)(h:¬(49<=b.toNat/\b.toNat<=57)):meant b=if 0<=uo b then some (uo b,0) else none:=by
 unfold meant uo;rw[if_neg h];split
 ·rfl
 ·split
  ·rfl
  ·split
   ·rfl
   ·split
    ·rfl
    ·rfl
end Fd
theorem JE(b:UInt8):Lib.indexByte [46,35,126,94] b=Fd.uo b:=by
 unfold Fd.uo;by_cases h1:b=46
 ·subst h1;decide
 ·by_cases h2:b=35
  ·subst h2;decide
  ·by_cases h3:b=126
   ·subst h3;decide
   ·by_cases h4:b=94
    ·subst h4;decide
    ·have g1:¬46=b:=λh=>h1 h.symm
     have g2:¬35=b:=λh=>h2 h.symm
     have g3:¬126=b:=λh=>h3 h.symm
     have g4:¬94=b:=λh=>h4 h.symm
     simp[Lib.indexByte,h1,h2,h3,h4,g1,g2,g3,g4]
theorem Ec(b:UInt8)(w:World):
 Calls Tryz.prog 131 #[.int .u8 (b.toNat:Nat)] w λe w'=>(∃g o,Fd.meant b=some (g,o)/\e=.returned (.tuple #[int i64 g,int i64 o,.bool true])/\w'=w)\/(Fd.meant b=none/\e=.returned (.tuple #[int i64 (-1),int i64 0,.bool false])/\w'=w):=by
 have hb:=b.toNat_lt;by_cases h:49<=b.toNat/\b.toNat<=57
 ·have e:Fd.meant b=some (0,((b.toNat:Int)-48)*10):=by unfold Fd.meant;rw[if_pos h]
  have E:Hid _:=e;obtain⟨h1,h2⟩:=h;clear e;generalize b.toNat=n at *;have w1:IntKind.u8.wrap ((n:Int)-48)=(n:Int)-48:=by rw[IntKind.wrap_u8];omega
  go_enter Tryz.func131,Tryz.ntmps131;go_wp2;go_ret3;exact .inl ⟨_,_,E.out,rfl,rfl⟩
 ·have e:=Fd.yR b h
  have I:Hid (Calls Tryz.prog 137 #[.string ⟨#[46,35,126,94]⟩,.int .u8 (b.toNat:Nat)] w λe w'=>e=.returned (int i64 (Fd.uo b))/\w'=w):=by
   refine(JD ⟨#[46,35,126,94]⟩ (b.toNat:Nat) w).mono ?_;rintro e w' ⟨rfl,rfl⟩;refine⟨?_,rfl⟩;have e2:((b.toNat:Nat):Int).toNat.toUInt8=b:=by rw[Int.toNat_natCast];exact UInt8.ofNat_toNat
   rw[e2];rw[<-JE b]
  have gl: -1<=Fd.uo b:=by unfold Fd.uo;split<;>(try split)<;>(try split)<;>(try split)<;>omega
  generalize Fd.uo b=g at *;by_cases hg:0<=g
  ·have E:Hid (Fd.meant b=some (g,0)):=by unfold Hid;rw[e,if_pos hg]
   clear e;by_cases h1:49<=b.toNat
   ·have h2:¬b.toNat<=57:=by omega
    clear h;go_enter Tryz.func131,Tryz.ntmps131;go_wp2_with fail
    refine Calls.mono I.out ?_;rintro e w' ⟨rfl,rfl⟩;go_wp2;go_ret3;exact .inl ⟨_,_,E.out,rfl,rfl⟩
   ·clear h
    go_enter Tryz.func131,Tryz.ntmps131;go_wp2_with fail
    refine Calls.mono I.out ?_;rintro e w' ⟨rfl,rfl⟩;go_wp2;go_ret3;exact .inl ⟨_,_,E.out,rfl,rfl⟩
  ·obtain rfl:g= -1:=by omega
   have E:Hid (Fd.meant b=none):=by unfold Hid;rw[e,if_neg hg]
   clear e gl hg;by_cases h1:49<=b.toNat
   ·have h2:¬b.toNat<=57:=by omega
    clear h;go_enter Tryz.func131,Tryz.ntmps131;go_wp2_with fail
    refine Calls.mono I.out ?_;rintro e w' ⟨rfl,rfl⟩;go_wp2;go_ret3;exact .inr ⟨E.out,rfl,rfl⟩
   ·clear h
    go_enter Tryz.func131,Tryz.ntmps131;go_wp2_with fail
    refine Calls.mono I.out ?_;rintro e w' ⟨rfl,rfl⟩;go_wp2;go_ret3;exact .inr ⟨E.out,rfl,rfl⟩
structure Two(w:World)(base:Nat)(u1 u2:Value)(gs os:List Int):Prop where
 o1:Ow w base u1 gs
 o2:Ow w base u2 os
 ne:∀k,u1.ownBlock=some k->u2.ownBlock≠some k
theorem Two.below{w w':World}{base n:Nat}{u1 u2:Value}{gs os:List Int}(h:Two w base u1 u2 gs os)(hb:Below n w w')(hn:w.heap.size<=n):Two w' base u1 u2 gs os:=
 ⟨h.o1.below (hb.mono hn),h.o2.below (hb.mono hn),h.ne⟩
theorem Two.kp{w w':World}{base z:Nat}{u1 u2:Value}{gs os:List Int}(h:Two w base u1 u2 gs os)(hk:Kp z w w')(hz:z<base):Two w' base u1 u2 gs os:=by
 have hg:w.grownBy w' (some z):=⟨hk.os,hk.tape,hk.output,hk.size,λk hk' hne=>hk.block k hk' (λe=>hne (by rw[e]))⟩;refine⟨h.o1.kept hg ?_,h.o2.kept hg ?_,h.ne⟩
 ·right;intro e;have:=(h.o1.block z e).1;omega
 ·right;intro e;have:=(h.o2.block z e).1;omega
def Dt(w:World)(z:Nat)(u1 u2:Value)(s:Fd.St):Prop:=w.heap[z]? =some (.cells #[int i64 (s.W:Nat),int i64 (s.H:Nat),u1,u2,int i64 (s.c:Nat)] 129 (0,0))
def Dr(w:World)(z:Nat)(s:Fd.St):Prop:=∃u1 u2,Dt w z u1 u2 s/\Two w (z+1) u1 u2 s.gs s.os
section
variable {w:World} {z:Nat} {u1 u2:Value} {s:Fd.St}
theorem Dt.c0(h:Dt w z u1 u2 s):w.cell? ⟨z,0,none⟩=some (int i64 (s.W:Nat)):=by unfold Dt at h;simp[World.cell?,h]
theorem Dt.c1(h:Dt w z u1 u2 s):w.cell? ⟨z,1,none⟩=some (int i64 (s.H:Nat)):=by unfold Dt at h;simp[World.cell?,h]
theorem Dt.c2(h:Dt w z u1 u2 s):w.cell? ⟨z,2,none⟩=some u1:=by unfold Dt at h;simp[World.cell?,h]
theorem Dt.c3(h:Dt w z u1 u2 s):w.cell? ⟨z,3,none⟩=some u2:=by unfold Dt at h;simp[World.cell?,h]
theorem Dt.c4(h:Dt w z u1 u2 s):w.cell? ⟨z,4,none⟩=some (int i64 (s.c:Nat)):=by unfold Dt at h;simp[World.cell?,h]
theorem Dt.fz(h:Dt w z u1 u2 s)(i:Nat):w.frozen? ⟨z,i,none⟩=false:=by unfold Dt at h;simp[World.frozen?,h]
theorem Dt.lt(h:Dt w z u1 u2 s):z<w.heap.size:=lt_of_block h
theorem Dt.below{w':World}{n:Nat}(h:Dt w z u1 u2 s)(hb:Below n w w')(hz:z<n):Dt w' z u1 u2 s:=(hb.block z hz).trans h
end
theorem Nz(z:Nat)(u1 u2:Value)(s:Fd.St)(w:World)(h:Dt w z u1 u2 s)(hc:s.c<=12)(hw:s.W<=12)(hb:s.c=0\/s.c<s.W):
 Calls Tryz.prog 130 #[.pointer (some ⟨z,0,none⟩)] w λe w'=>e=.returned (.iface 85 (int i64 2))/\∃n,w'=w.drewN n:=by
 have c0:=h.c0;have c4:=h.c4;obtain⟨c,W,H,gs,os⟩:=s;simp only at hc hw hb c0 c4;clear h;by_cases q:c=0
 ·subst q
  go_enter Tryz.func130,Tryz.ntmps130;go_wp2_with fail
  go_quiet (fail);go_wp2;go_ret;exact⟨rfl,_,rfl⟩
 ·have q2:c<W:=by omega
  have q':((c:Int)==0)=false:=by rw[beq_eq_false_iff_ne];omega
  clear hb;go_enter Tryz.func130,Tryz.ntmps130;go_wp2_with fail
  go_quiet (fail);go_wp2;go_ret;exact⟨rfl,_,rfl⟩
theorem QE(z:Nat)(u1 u2:Value)(s:Fd.St)(w:World)(h:Dt w z u1 u2 s)(hc:s.c<=12)(hw:s.W<=12)(hh:s.H<=12)(h0:s.c≠0)(h1:¬s.c<s.W):
 Calls Tryz.prog 130 #[.pointer (some ⟨z,0,none⟩)] w λe w'=>e=.returned .nilIface/\Dt w' z u1 u2 ⟨0,s.c,s.H+1,s.gs,s.os⟩/\Kp z w w':=by
 have D:Hid (Dt w z u1 u2 s):=h;have c0:=h.c0;have c1:=h.c1;have c4:=h.c4;have f0:=h.fz 0;have f1:=h.fz 1;have f4:=h.fz 4;obtain⟨c,W,H,gs,os⟩:=s;simp only at hc hw hh h0 h1 c0 c1 c4;have q':((c:Int)==0)=false:=by rw[beq_eq_false_iff_ne];omega
 clear h;go_enter Tryz.func130,Tryz.ntmps130;go_wp2_with fail
 go_quiet (fail);have Dq:Hid (Dt (w.drewN nq) z u1 u2 ⟨c,W,H,gs,os⟩):=D.out;have Kq:Hid (Kp z w (w.drewN nq)):=(Kp.refl z w).drewN nq;have c0:(w.drewN nq).cell? ⟨z,0,none⟩=some (int i64 (W:Nat)):=Dq.out.c0;have c1:(w.drewN nq).cell? ⟨z,1,none⟩=some (int i64 (H:Nat)):=Dq.out.c1;have c4:(w.drewN nq).cell? ⟨z,4,none⟩=some (int i64 (c:Nat)):=Dq.out.c4;have f0:=Dq.out.fz 0;have f1:=Dq.out.fz 1;have f4:=Dq.out.fz 4;generalize w.drewN nq=w1 at *;go_wp2;go_ret;refine⟨rfl,?_,?_⟩
 ·unfold Dt
  rw[heap_setCell_same _ z 4 _ _ _ (heap_setCell_same _ z 1 _ _ _ (heap_setCell_same w1 z 0 _ _ _ Dq.out))];simp
 ·exact((Kq.out.trans (Kp.set _ _ _)).trans (Kp.set _ _ _)).trans (Kp.set _ _ _)
structure yS(s:Fd.St):Prop where
 w0:s.H=0->s.W=0
 cw:0<s.H->s.c<=s.W
 c12:s.c<=12
 w12:s.W<=12
 h12:s.H<=12
 gl:s.gs.length<=156
 ol:s.os.length<=156
theorem yS.of{s:Fd.St}{l:List UInt8}(h:Fd.Inv s l):yS s:=by
 have e:s.H*s.W<=144:=Nat.mul_le_mul h.h12 h.w12;have:=h.c12;exact⟨h.w0,h.cw,h.c12,h.w12,h.h12,by rw[h.gl];omega,by rw[h.ol];omega⟩
theorem JF{s:Fd.St}(h:yS s):Fd.step s 10=if s.c=0\/s.c<s.W then .inl 2 else .inr ⟨0,s.c,s.H+1,s.gs,s.os⟩:=by
 unfold Fd.step;rw[if_pos rfl];have:=h.w0;have:=h.cw
 by_cases q:s.c=0\/(0<s.H/\s.c≠s.W)
 ·rw[if_pos q,if_pos (by omega)]
 ·rw[if_neg q,if_neg (by omega)]
theorem step_none{s:Fd.St}{b:UInt8}(hb:b≠10)(hm:Fd.meant b=none):Fd.step s b=.inl 2:=by
 unfold Fd.step;rw[if_neg hb,hm]
theorem step_some{s:Fd.St}{b:UInt8}{g o:Int}(hb:b≠10)(hm:Fd.meant b=some (g,o)):Fd.step s b=if 0<s.H/\s.c=s.W then .inl 2 else if s.c=12\/s.H=12 then .inl 4 else .inr ⟨s.c+1,s.W,s.H,s.gs++[g],s.os++[o]⟩:=by
 unfold Fd.step;rw[if_neg hb,hm]
theorem JG(z:Nat)(s:Fd.St)(w:World)(h:Dr w z s)(ok:yS s):
 Calls Tryz.prog 81 #[.pointer (some ⟨z,0,none⟩),.int .u8 10] w λe w'=>(∃f,Fd.step s 10=.inl f/\e=.returned (.iface 85 (int i64 f))/\f≠0/\Below z w w')\/(∃s',Fd.step s 10=.inr s'/\e=.returned .nilIface/\Dr w' z s'/\Below z w w'):=by
 obtain⟨u1,u2,hd,ht⟩:=h;have S:=JF ok;have HS:Hid _:=S;clear S;by_cases q:s.c=0\/s.c<s.W
 ·have K:=aj (Nz z u1 u2 s w hd ok.c12 ok.w12 q)
  have Q:=aj (q);clear q hd ht ok;go_enter Tryz.func81,Tryz.ntmps81;go_wp2_with fail
  refine Calls.mono K.out ?_;rintro e w1 ⟨rfl,n,rfl⟩;go_wp2;go_ret;exact .inl ⟨2,by rw[HS.out,if_pos Q.out],rfl,by decide,_root_.Go.below_drewN (Below.refl _ _) _⟩
 ·have K:=aj (QE z u1 u2 s w hd ok.c12 ok.w12 ok.h12 (λe=>q (.inl e)) (λe=>q (.inr e)))
  have Q:=aj (q);have T:=aj (ht);have L:=aj (hd.lt);clear q hd ht ok;go_enter Tryz.func81,Tryz.ntmps81;go_wp2_with fail
  refine Calls.mono K.out ?_;rintro e w1 ⟨rfl,hd1,hk1⟩;have D1:=aj (hd1);have K1:=aj (hk1);clear hd1 hk1;go_wp2;go_ret;refine .inr ⟨_,by rw[HS.out,if_neg Q.out],rfl,⟨u1,u2,D1.out,T.out.kp K1.out (Nat.lt_succ_self _)⟩,Kp.below (Below.refl _ _) K1.out (Nat.le_of_lt L.out) (Nat.le_refl _)⟩
theorem Ed(z:Nat)(s:Fd.St)(b:UInt8)(w:World)(h:Dr w z s)(ok:yS s)(hb:b≠10):
 Calls Tryz.prog 81 #[.pointer (some ⟨z,0,none⟩),.int .u8 (b.toNat:Nat)] w λe w'=>(∃f,Fd.step s b=.inl f/\e=.returned (.iface 85 (int i64 f))/\f≠0/\Below z w w')\/(∃s',Fd.step s b=.inr s'/\e=.returned .nilIface/\Dr w' z s'/\Below z w w'):=by
 obtain⟨u1,u2,hd,ht⟩:=h;have hb2:=b.toNat_lt;have hb3:¬((b.toNat:Nat):Int)=10:=by
  intro e;have e2:b.toNat=10:=by omega
  exact hb (UInt8.toNat_inj.1 e2)
 have M:=aj (Ec b);have HB:=aj (hb);have D:=aj (hd);have T:=aj (ht);have K:=aj (ok);clear hb hd ht ok;generalize b.toNat=n at *;go_enter Tryz.func81,Tryz.ntmps81;go_wp2_with fail
 refine(M.out _).mono ?_;rintro e w1 hm;rcases hm with⟨g,o,hm,rfl,rfl⟩|⟨hm,rfl,rfl⟩
 ·have HS:Hid _:=step_some (s:=s) HB.out hm
  have c0:=D.out.c0;have c1:=D.out.c1;have c2:=D.out.c2;have c3:=D.out.c3;have c4:=D.out.c4;obtain⟨c,W,H,gs,os⟩:=s;simp only at c0 c1 c4;have k12:=K.out.c12;have w12:=K.out.w12;have h12:=K.out.h12;simp only at k12 w12 h12;clear hm M;by_cases q1:0<H/\c=W
  ·obtain⟨YI,Xm⟩:=q1
   have QF:Hid (Fd.step ⟨c,W,H,gs,os⟩ b=.inl 2):=by unfold Hid;rw[HS.out,if_pos ⟨YI,Xm⟩]
   subst Xm;go_wp2_with fail
   go_quiet (fail);go_wp2;go_ret;exact .inl ⟨2,QF.out,rfl,by decide,_root_.Go.below_drewN (Below.refl _ _) _⟩
  ·have HS1:Hid (Fd.step ⟨c,W,H,gs,os⟩ b=if c=12\/H=12 then .inl 4 else .inr ⟨c+1,W,H,gs++[g],os++[o]⟩):=by unfold Hid;rw[HS.out,if_neg q1]
   clear HS;go_wp2_with fail
   go_cut [39] (λv W'=>v=.bool false/\∃n,W'=w1.drewN n)
   case first=>
    by_cases q2:H=0
    ·subst q2
     go_quiet (fail);go_wp2_with fail
     go_meet
     case rel=>exact⟨rfl,_,rfl⟩
    ·have q3:0<H:=by omega
     have q4:¬c=W:=λe=>q1 ⟨q3,e⟩
     have Zp:((c:Int)==(W:Int))=false:=by rw[beq_eq_false_iff_ne];omega
     clear q1;go_quiet (fail);go_wp2_with fail
     go_meet
     case rel=>exact⟨rfl,_,rfl⟩
   case rest=>
    obtain⟨rfl,nn,hn⟩:=hcut;have kb:Below w1.heap.size w1 wc:=by rw[hn];exact _root_.Go.below_drewN (Below.refl _ _) _
    have D2:=aj (D.out.below kb D.out.lt);have T2:=aj (T.out.below kb (Nat.le_refl _));have B2:=aj (kb.mono (Nat.le_of_lt D.out.lt));clear kb hn c0 c1 c2 c3 c4 q1 D T;have c0:=D2.out.c0;have c1:=D2.out.c1;have c2:=D2.out.c2;have c3:=D2.out.c3;have c4:=D2.out.c4;simp only at c0 c1 c4;by_cases q5:c=12
    ·subst q5
     have QF:Hid (Fd.step ⟨12,W,H,gs,os⟩ b=.inl 4):=by unfold Hid;rw[HS1.out,if_pos (.inl rfl)]
     go_wp2;go_ret;exact .inl ⟨4,QF.out,rfl,by decide,B2.out⟩
    ·have Zq:((c:Int)==12)=false:=by rw[beq_eq_false_iff_ne];omega
     by_cases q6:H=12
     ·subst q6
      have QF:Hid (Fd.step ⟨c,W,12,gs,os⟩ b=.inl 4):=by unfold Hid;rw[HS1.out,if_pos (.inr rfl)]
      go_wp2;go_ret;exact .inl ⟨4,QF.out,rfl,by decide,B2.out⟩
     ·have Zr:((H:Int)==12)=false:=by rw[beq_eq_false_iff_ne];omega
      have QF:Hid (Fd.step ⟨c,W,H,gs,os⟩ b=.inr ⟨c+1,W,H,gs++[g],os++[o]⟩):=by unfold Hid;rw[HS1.out,if_neg (by omega)]
      have gl:=K.out.gl;have ol:=K.out.ol;simp only at gl ol;have L2:=aj (D2.out.lt);clear HS1;go_wp2_with (at_builtin;refine iq _ rfl _ _ rfl (z+1) _ gs rfl (T2.out.o1.alloc _) ⟨wc.heap.size,0,none⟩ g rfl (by simp) (by omega) (by have:=L2.out;simp;omega) ?_);intro g1 cap1 w3 o3 g3 a3 l3;have hob:∀k,u1.ownBlock=some k->z+1<=k:=λk hk=>(T2.out.o1.block k hk).1
      have b3:Below (z+1) wc w3:=((Below.refl _ _).alloc L2.out _).grown g3 (by have:=L2.out;simp;omega) hob;have D3:=D2.out.below b3 (Nat.lt_succ_self _);have O3:=(T2.out.o2.alloc _).kept g3 (by
       cases hq:u2.ownBlock with
       |none=>exact .inl rfl
       |some k=>exact .inr (λe=>T2.out.ne k e.symm hq))
      have N3:Hid (∀k,u2.ownBlock=some k->k≠g1):=by
       intro k hk e;subst e;rcases a3 with a3|a3
       ·exact T2.out.ne _ a3 hk
       ·have:=(T2.out.o2.block _ hk).2
        try simp at a3
        omega
      have K3:Kp z w3 (w3.setCell ⟨z,2,none⟩ (slice (some ⟨g1,0,none⟩) (gs.length+1) cap1)):=Kp.set _ _ _;have T3:Hid (Two (w3.setCell ⟨z,2,none⟩ (slice (some ⟨g1,0,none⟩) (gs.length+1) cap1)) (z+1) (slice (some ⟨g1,0,none⟩) (gs.length+1) cap1) u2 (gs++[g]) os):=
       (show Two w3 (z+1) (slice (some ⟨g1,0,none⟩) (gs.length+1) cap1) u2 (gs++[g]) os from⟨o3,O3,λk hk e=>N3.out k e (Option.some.inj hk).symm⟩).kp K3 (Nat.lt_succ_self _)
      have D4:Hid (Dt (w3.setCell ⟨z,2,none⟩ (slice (some ⟨g1,0,none⟩) (gs.length+1) cap1)) z (slice (some ⟨g1,0,none⟩) (gs.length+1) cap1) u2 ⟨c,W,H,gs++[g],os⟩):=by
       unfold Hid Dt;rw[heap_setCell_same w3 z 2 _ _ _ D3];simp
      have B4:Hid (Below z w1 (w3.setCell ⟨z,2,none⟩ (slice (some ⟨g1,0,none⟩) (gs.length+1) cap1))):=(B2.out.trans (b3.mono (Nat.le_succ _))).setCell (Nat.le_refl _) _;have e2:=D3.c2;have e3:=D3.c3;have f2:=D3.fz 2;have z3:=aj (D3.lt);clear o3 g3 a3 l3 hob b3 D3 O3 K3 c0 c1 c2 c3 c4;go_wp2_with (at_builtin;refine iq _ rfl _ _ rfl (z+1) _ os rfl (T3.out.o2.alloc _) ⟨w3.heap.size,0,none⟩ o rfl (by rw[World.cell?_alloc_at _ _ _ _ (by simp)];rfl) (by omega) (by have:=z3.out;simp;omega) ?_);intro g2 cap2 w5 o5 g5 a5 l5;have hob:∀k,u2.ownBlock=some k->z+1<=k:=λk hk=>(T3.out.o2.block k hk).1
      have b5:=((Below.refl _ _).alloc (by have:=z3.out;simp;omega) _).grown g5 (by have:=z3.out;simp;omega) hob;have D5:=D4.out.below b5 (Nat.lt_succ_self _);have O5:=(T3.out.o1.alloc _).kept g5 (by
       cases hq:(slice (some ⟨g1,0,none⟩) (gs.length+1) cap1).ownBlock with
       |none=>exact .inl rfl
       |some k=>exact .inr (λe=>T3.out.ne k hq e.symm))
      have N5:Hid (∀k,(slice (some ⟨g1,0,none⟩) (gs.length+1) cap1).ownBlock=some k->k≠g2):=by
       intro k hk e;subst e;rcases a5 with a5|a5
       ·exact T3.out.ne _ hk a5
       ·have:=(T3.out.o1.block _ hk).2
        simp at this
        try simp at a5
        omega
      have K5:Kp z w5 (w5.setCell ⟨z,3,none⟩ (slice (some ⟨g2,0,none⟩) (os.length+1) cap2)):=Kp.set _ _ _;have T5:Hid (Two (w5.setCell ⟨z,3,none⟩ (slice (some ⟨g2,0,none⟩) (os.length+1) cap2)) (z+1) (slice (some ⟨g1,0,none⟩) (gs.length+1) cap1) (slice (some ⟨g2,0,none⟩) (os.length+1) cap2) (gs++[g]) (os++[o])):=
       (show Two w5 (z+1) (slice (some ⟨g1,0,none⟩) (gs.length+1) cap1) (slice (some ⟨g2,0,none⟩) (os.length+1) cap2) (gs++[g]) (os++[o]) from⟨O5,o5,λk hk e=>N5.out k hk (Option.some.inj e).symm⟩).kp K5 (Nat.lt_succ_self _)
      have D6:Hid (Dt (w5.setCell ⟨z,3,none⟩ (slice (some ⟨g2,0,none⟩) (os.length+1) cap2)) z (slice (some ⟨g1,0,none⟩) (gs.length+1) cap1) (slice (some ⟨g2,0,none⟩) (os.length+1) cap2) ⟨c,W,H,gs++[g],os++[o]⟩):=by
       unfold Hid Dt;rw[heap_setCell_same w5 z 3 _ _ _ D5];simp
      have B6:Hid (Below z w1 (w5.setCell ⟨z,3,none⟩ (slice (some ⟨g2,0,none⟩) (os.length+1) cap2))):=(B4.out.trans (b5.mono (Nat.le_succ _))).setCell (Nat.le_refl _) _;have e4:=D5.c3;have e5:w5.cell? _=some (int i64 (c:Nat)):=D5.c4;have f3:=D5.fz 3;have f4:=D5.fz 4;clear o5 g5 a5 l5 hob b5 D5 O5 K5 e2 e3 f2;go_wp2;go_ret;refine .inr ⟨_,QF.out,rfl,⟨(slice _ _ cap1),(slice _ _ cap2),?_,T5.out.kp (Kp.set _ _ _) (Nat.lt_succ_self _)⟩,B6.out.setCell (Nat.le_refl _) _⟩;unfold Dt;rw[heap_setCell_same _ z 4 _ _ _ D6.out];simp
 ·have HS:Hid (Fd.step s b=.inl 2):=step_none HB.out hm
  go_wp2_with fail
  go_quiet (fail);go_wp2;go_ret;exact .inl ⟨2,HS.out,rfl,by decide,_root_.Go.below_drewN (Below.refl _ _) _⟩
theorem Ee(z:Nat)(s:Fd.St)(b:UInt8)(w:World)(h:Dr w z s)(ok:yS s):
 Calls Tryz.prog 81 #[.pointer (some ⟨z,0,none⟩),.int .u8 (b.toNat:Nat)] w λe w'=>(∃f,Fd.step s b=.inl f/\e=.returned (.iface 85 (int i64 f))/\f≠0/\Below z w w')\/(∃s',Fd.step s b=.inr s'/\e=.returned .nilIface/\Dr w' z s'/\Below z w w'):=by
 by_cases hb:b=10
 ·subst hb
  exact JG z s w h ok
 ·exact Ed z s b w h ok hb
theorem QG{l:List UInt8}{k:Nat}(st:Fd.St)(h:k<l.length):Fd.run st k (l.drop k)=match Fd.step st l[k] with| .inl e=>.inl (k,e)| .inr s'=>Fd.run s' (k+1) (l.drop (k+1)):=by
 rw[List.drop_eq_getElem_cons h];rfl
def Says(l:List UInt8)(e:Ending)(w':World):Prop:=
 (∃(i:Nat) (f:Int),Fd.parse l=.inl (i,f)/\e=.returned (.tuple #[.agg #[int i64 0,int i64 0,slice none 0 0,slice none 0 0],int i64 (i:Nat),.iface 85 (int i64 f)])/\f≠0)\/
 (∃st u1 u2,Fd.parse l=.inr st/\e=.returned (.tuple #[.agg #[int i64 (st.W:Nat),int i64 (st.H:Nat),u1,u2],int i64 0,.nilIface])/\Ro w' u1 st.gs/\Ro w' u2 st.os)
def NH(b:Nat)(l:List UInt8)(e:Ending)(w':World):Prop:=
 (∃(i:Nat) (f:Int),Fd.parse l=.inl (i,f)/\e=.returned (.tuple #[.agg #[int i64 0,int i64 0,slice none 0 0,slice none 0 0],int i64 (i:Nat),.iface 85 (int i64 f)])/\f≠0)\/
 (∃st u1 u2,Fd.parse l=.inr st/\e=.returned (.tuple #[.agg #[int i64 (st.W:Nat),int i64 (st.H:Nat),u1,u2],int i64 0,.nilIface])/\Two w' (b+1+1) u1 u2 st.gs st.os)
theorem Ef(s:ByteArray)(w:World)(hs:s.size<=maxLen):
 Calls Tryz.prog 37 #[.string s] w λe w'=>NH w.heap.size s.data.toList e w'/\Below w.heap.size w w':=by
 unfold maxLen at hs;generalize hl:s.data.toList=l;have Hl:=aj (hl);have Ll:Hid (l.length=s.size):=by unfold Hid;rw[<-hl];rfl
 clear hl;have P:Hid (Fd.parse l=match Fd.run Fd.st0 0 l with| .inl x=>.inl x| .inr s=>if 0<s.c\/s.H=0 then .inl _ else .inr s):=rfl;go_enter Tryz.func37,Tryz.ntmps37;go_wp2_with fail
 have B0:Hid (Below _ w ((w.alloc (Obj.cells #[int i64 0,int i64 0,slice none 0 0,slice none 0 0] 25)).alloc (Obj.cells #[int i64 0,int i64 0,slice none 0 0,slice none 0 0,int i64 0] 129))):=((Below.refl _ _).alloc (Nat.le_refl _) _).alloc (by simp) _;have D0:Hid (Dr ((w.alloc (Obj.cells #[int i64 0,int i64 0,slice none 0 0,slice none 0 0] 25)).alloc (Obj.cells #[int i64 0,int i64 0,slice none 0 0,slice none 0 0,int i64 0] 129)) (w.heap.size+1) Fd.st0):=by
  refine⟨slice none 0 0,slice none 0 0,?_,⟨Ow.nil _ _,Ow.nil _ _,λk h=>by cases h⟩⟩;have e:(w.alloc (Obj.cells #[int i64 0,int i64 0,slice none 0 0,slice none 0 0] 25)).heap.size=w.heap.size+1:=by simp
  unfold Dt;rw[<-e];exact heap_alloc_new _ _
 have X0:Hid (Bf ((w.alloc (Obj.cells #[int i64 0,int i64 0,slice none 0 0,slice none 0 0] 25)).alloc (Obj.cells #[int i64 0,int i64 0,slice none 0 0,slice none 0 0,int i64 0] 129)) w.heap.size 0 0 (slice none 0 0) (slice none 0 0)):=
  (Bf.mk' (w:=w) 0 0 (slice none 0 0) (slice none 0 0) rfl).below ((Below.refl _ _).alloc (Nat.le_refl _) _) (by simp)
 have Z0:Hid (∀i,((w.alloc (Obj.cells #[int i64 0,int i64 0,slice none 0 0,slice none 0 0] 25)).alloc (Obj.cells #[int i64 0,int i64 0,slice none 0 0,slice none 0 0,int i64 0] 129)).frozen? ⟨w.heap.size,i,none⟩=false):=by
  intro i;rw[((Below.refl _ (w.alloc (Obj.cells #[int i64 0,int i64 0,slice none 0 0,slice none 0 0] 25))).alloc (Nat.le_refl _) _).frozen (p:=⟨w.heap.size,i,none⟩) (by simp)];simp
 generalize (w.alloc _).alloc _=w0 at *;go_loopw [10] (λi W'=>∃(k:Nat) (st:Fd.St),k<=s.size/\i=int i64 (k:Nat)/\Dr W' (w.heap.size+1) st/\Fd.Inv st (l.take k)/\Fd.run st k (l.drop k)=Fd.run Fd.st0 0 l/\Below (w.heap.size+1) w0 W') (λi _=>s.size-(intOf i).toNat)
 case atStart=>exact⟨0,Fd.st0,Nat.zero_le _,rfl,D0,by simpa using Fd.inv0,by simp,Below.refl _ _⟩
 case round=>
  obtain⟨k,st,hk,rfl,hd,hi,hrun,hb⟩:=hrel;have D:=aj (hd);have I:=aj (hi);have R:=aj (hrun);have B:=aj (hb);have X:=aj (X0.out.below hb (Nat.lt_succ_self _));have Z:Hid (∀i,wr.frozen? _=false):=λi=>by rw[hb.frozen (p:=⟨w.heap.size,i,none⟩) (Nat.lt_succ_self _)];exact Z0.out i
  have BW:=aj (B0.out.trans (hb.mono (Nat.le_succ _)));clear hd hi hrun hb D0;by_cases h0:k=s.size
  ·subst h0
   have R2:Hid (Fd.run Fd.st0 0 l=.inr st):=by
    unfold Hid;rw[<-R.out,List.drop_of_length_le (by rw[Ll.out];exact Nat.le_refl _)];rfl
   obtain⟨u1,u2,hd,ht⟩:=D.out;have T:=aj (ht);have c0:=hd.c0;have c1:=hd.c1;have c2:=hd.c2;have c3:=hd.c3;have c4:=hd.c4;obtain⟨x0,x1,x2,x3⟩:=X.out;have z0:=Z.out 0;have z1:=Z.out 1;have z2:=Z.out 2;have z3:=Z.out 3;have k12:=I.out.c12;have h12:=I.out.h12;have w12:=I.out.w12;obtain⟨c,W,H,gs,os⟩:=st;simp only at c0 c1 c4 k12 h12 w12;have P2:Hid (Fd.parse l=if 0<c\/H=0 then .inl (l.length,2) else .inr ⟨c,W,H,gs,os⟩):=by
    unfold Hid;rw[P.out,R2.out]
   clear hd ht;by_cases q1:0<c
   ·go_wp2
    refine bodyPost_ret (by simp[results,Tryz.results37,go_sem,x0,x1,x2,x3]) rfl ⟨.inl ⟨s.size,2,by rw[P2.out,if_pos (.inl q1),Ll.out],rfl,by decide⟩,?_⟩;exact(((BW.out.setCell (Nat.le_refl _) _).setCell (Nat.le_refl _) _).setCell (Nat.le_refl _) _).setCell (Nat.le_refl _) _
   ·obtain rfl:c=0:=by omega
    by_cases q2:H=0
    ·subst q2
     go_wp2;refine bodyPost_ret (by simp[results,Tryz.results37,go_sem,x0,x1,x2,x3]) rfl ⟨.inl ⟨s.size,2,by rw[P2.out,Ll.out];simp,rfl,by decide⟩,?_⟩;exact(((BW.out.setCell (Nat.le_refl _) _).setCell (Nat.le_refl _) _).setCell (Nat.le_refl _) _).setCell (Nat.le_refl _) _
    ·have Zt:((H:Int)==0)=false:=by rw[beq_eq_false_iff_ne];omega
     obtain⟨p1,k1,rfl⟩:=T.out.o1.len;obtain⟨p2,k2,rfl⟩:=T.out.o2.len;have KK:Hid (Kp _ wr ((((wr.setCell ⟨w.heap.size,0,none⟩ (int i64 (W:Nat))).setCell ⟨w.heap.size,1,none⟩ (int i64 (H:Nat))).setCell ⟨w.heap.size,2,none⟩ (slice p1 gs.length k1)).setCell ⟨w.heap.size,3,none⟩ (slice p2 os.length k2))):=(((Kp.set _ _ _).trans (Kp.set _ _ _)).trans (Kp.set _ _ _)).trans (Kp.set _ _ _);go_wp2;refine bodyPost_ret (v:=.tuple #[.agg #[int i64 (W:Nat),int i64 (H:Nat),slice p1 gs.length k1,slice p2 os.length k2],int i64 0,.nilIface]) (by simp[results,Tryz.results37,go_sem,x0,x1,x2,x3]) rfl ⟨.inr ⟨_,_,_,by rw[P2.out,if_neg (by omega)],rfl,?_⟩,?_⟩
     ·exact T.out.kp KK.out (by omega)
     ·exact(((BW.out.setCell (Nat.le_refl _) _).setCell (Nat.le_refl _) _).setCell (Nat.le_refl _) _).setCell (Nat.le_refl _) _
  ·have hks:k<s.size:=by omega
   have hkl:k<l.length:=by rw[Ll.out];exact hks
   have RA:=QG st hkl;rw[R.out] at RA;have eb:l[k]=s[k]:=by
    have:=Hl.out;subst this;rfl
   rw[eb] at RA;have Uf:Hid _:=RA;have TK:Hid (l.take (k+1)=l.take k++[s[k]]):=by unfold Hid;rw[List.take_succ_eq_append_getElem hkl,eb]
   have KR:=aj (Ee _ st s[k] wr D.out (yS.of I.out));clear RA eb;go_wp2_with fail
   refine Calls.mono KR.out ?_;rintro e w1 hm;rcases hm with⟨f,hst,rfl,hf,hb⟩|⟨st',hst,rfl,hd',hb⟩
   ·have P2:Hid (Fd.parse l=.inl (k,f)):=by
     unfold Hid;rw[P.out,Uf.out,hst]
    have Hf:=aj (hf);have B1:=aj (BW.out.trans (hb.mono (Nat.le_succ _)));have X1:=X.out.below hb (Nat.lt_succ_self _);have z0:w1.frozen? ⟨w.heap.size,0,none⟩=false:=by rw[hb.frozen (p:=⟨w.heap.size,0,none⟩) (Nat.lt_succ_self _)];exact Z.out 0
    have z1:w1.frozen? ⟨w.heap.size,1,none⟩=false:=by rw[hb.frozen (p:=⟨w.heap.size,1,none⟩) (Nat.lt_succ_self _)];exact Z.out 1
    have z2:w1.frozen? ⟨w.heap.size,2,none⟩=false:=by rw[hb.frozen (p:=⟨w.heap.size,2,none⟩) (Nat.lt_succ_self _)];exact Z.out 2
    have z3:w1.frozen? ⟨w.heap.size,3,none⟩=false:=by rw[hb.frozen (p:=⟨w.heap.size,3,none⟩) (Nat.lt_succ_self _)];exact Z.out 3
    obtain⟨x0,x1,x2,x3⟩:=X1;clear hst hf hb KR Uf;go_wp2;refine bodyPost_ret (by simp[results,Tryz.results37,go_sem,x0,x1,x2,x3]) rfl ⟨.inl ⟨k,f,P2.out,rfl,Hf.out⟩,?_⟩;exact(((B1.out.setCell (Nat.le_refl _) _).setCell (Nat.le_refl _) _).setCell (Nat.le_refl _) _).setCell (Nat.le_refl _) _
   ·have I2:Hid (Fd.Inv st' (l.take (k+1))):=by unfold Hid;rw[TK.out];exact I.out.step hst
    have R2:Hid (Fd.run st' (k+1) (l.drop (k+1))=Fd.run Fd.st0 0 l):=by unfold Hid;rw[Uf.out,hst]
    have D2:=aj (hd');have B2:=aj (B.out.trans hb);clear hst hd' hb KR Uf;go_wp2;go_round
    case rel=>exact⟨k+1,st',by omega,by go_num,D2,I2,R2,B2⟩
    case measure=>simp[intOf];omega
theorem parse_any(s:ByteArray)(w:World)(hs:s.size<=maxLen):
 Calls Tryz.prog 37 #[.string s] w λe w'=>Says s.data.toList e w'/\Below w.heap.size w w':=
 (Ef s w hs).mono λe w' ⟨h,hb⟩=>⟨h.imp id λ⟨st,u1,u2,h1,h2,h3⟩=>⟨st,u1,u2,h1,h2,h3.o1.ro,h3.o2.ro⟩,hb⟩
theorem TP{w:World}{z:Nat}(hz:w.heap.size=z):Kl (w.alloc (.cells #[.string ⟨#[98,97,115,101]⟩,int i64 50,int i64 0,int i64 0,int i64 4,int i64 0,int i64 50,int i64 5,int i64 0,.bool false,.bool true,.string ⟨#[100,105,103,103,101,114]⟩,int i64 10,int i64 0,int i64 0,int i64 3,int i64 2,int i64 10,int i64 2,int i64 20,.bool false,.bool false,.string ⟨#[102,105,103,104,116,101,114]⟩,int i64 20,int i64 4,int i64 1,int i64 4,int i64 2,int i64 20,int i64 3,int i64 0,.bool false,.bool false] 77)) (slice (some ⟨z,0,none⟩) 3 3) SK:=by
 subst hz;refine⟨_,3,rfl,Nat.le_refl _,by omega,λ_=>⟨_,rfl,by simp,λi k hi=>?_⟩⟩;have hl:i<3:=(List.getElem?_eq_some_iff.1 hi).1;rw[Addr.add_lit,Nat.zero_add]
 match i,hl,hi with
 |0,_,hi=>injection hi with hi;subst hi;constructor<;>simp
 |1,_,hi=>injection hi with hi;subst hi;constructor<;>simp
 |2,_,hi=>injection hi with hi;subst hi;constructor<;>simp
theorem fA(w:World):Calls Tryz.prog 11 #[] w λe w'=>∃u,e=.returned u/\Kl w' u SK/\Below w.heap.size w w':=by
 have KL:=aj (@TP w _ rfl);have BL:=aj ((Below.refl w.heap.size w).alloc (Nat.le_refl _) (.cells #[.string ⟨#[98,97,115,101]⟩,int i64 50,int i64 0,int i64 0,int i64 4,int i64 0,int i64 50,int i64 5,int i64 0,.bool false,.bool true,.string ⟨#[100,105,103,103,101,114]⟩,int i64 10,int i64 0,int i64 0,int i64 3,int i64 2,int i64 10,int i64 2,int i64 20,.bool false,.bool false,.string ⟨#[102,105,103,104,116,101,114]⟩,int i64 20,int i64 4,int i64 1,int i64 4,int i64 2,int i64 20,int i64 3,int i64 0,.bool false,.bool false] 77));go_enter Tryz.func11,Tryz.ntmps11;go_wp2;go_ret;exact⟨_,rfl,KL.out,BL.out⟩
theorem QH:S3.turn=0/\S3.next=4/\S3.wide=4/\S3.high=2/\S3.gs.length=8/\S3.os.length=8/\S3.gold.length=2/\S3.us.length=3/\S3.qs.length=0:=⟨rfl,rfl,rfl,rfl,rfl,rfl,rfl,rfl,rfl⟩
theorem Ai{r:Value}(h:Er r 0):r=.nilIface:=by
 rcases h with⟨-,h⟩|⟨h,-⟩
 ·exact h
 ·exact absurd rfl h
abbrev Zx (w:World) (z:Nat):Prop:=Wx w z (int i64 0) (int i64 0) (int i64 0) (int i64 0) (slice none 0 0) (slice none 0 0) (slice none 0 0) (slice none 0 0) (slice none 0 0)
def O5(w:World)(base:Nat)(Y:WV)(u1 u2 u3 u4 u5:Value):Prop:=Ow w base u1 Y.gs/\Ow w base u2 Y.os/\Ow w base u3 Y.gold/\dO w base u4 Y.us/\dL w base u5 Y.qs
def N5(z:Nat)(u1 u2 u3 u4 u5:Value):Prop:=(∀i,u1.ownBlock=some i->i≠z)/\(∀i,u2.ownBlock=some i->i≠z)/\(∀i,u3.ownBlock=some i->i≠z)/\(∀i,u4.ownBlock=some i->i≠z)/\(∀i,u5.ownBlock=some i->i≠z)
def pt(w:World)(z:Nat)(Y:WV)(u1 u2 u3 u4 u5:Value):World:=(((((((((w.setCell ⟨z,0,none⟩ (int i64 Y.turn)).setCell ⟨z,1,none⟩ (int i64 Y.next)).setCell ⟨z,2,none⟩ (int i64 Y.wide)).setCell ⟨z,3,none⟩ (int i64 Y.high)).setCell ⟨z,4,none⟩ u1).setCell ⟨z,5,none⟩ u2).setCell ⟨z,6,none⟩ u3).setCell ⟨z,7,none⟩ u4).setCell ⟨z,8,none⟩ u5)
structure Sx(w:World)(Y:WV)(z:Nat)(u1 u2 u3 u4 u5:Value)(V:World):Prop where
 n:w.heap.size<z
 b:Below w.heap.size w V
 r:Zx V w.heap.size
 x:Wx V z (int i64 Y.turn) (int i64 Y.next) (int i64 Y.wide) (int i64 Y.high) u1 u2 u3 u4 u5
 o:O5 V (w.heap.size+1) Y u1 u2 u3 u4 u5
section
variable {w V V':World} {Y Y':WV} {z b:Nat} {u1 u2 u3 u4 u5 d0 d1 d2 d3 d4 d5 d6 d7 d8:Value}
theorem O5.below(h:O5 V b Y u1 u2 u3 u4 u5)(hb:Below V.heap.size V V'):O5 V' b Y u1 u2 u3 u4 u5:=⟨h.1.below hb,h.2.1.below hb,h.2.2.1.below hb,h.2.2.2.1.below hb,h.2.2.2.2.below hb⟩
theorem O5.nz(h:O5 V b Y u1 u2 u3 u4 u5)(hn:∀i,b<=i->i<V.heap.size->i≠z):N5 z u1 u2 u3 u4 u5:=⟨λk hk=>hn k (h.1.block k hk).1 (h.1.block k hk).2,λk hk=>hn k (h.2.1.block k hk).1 (h.2.1.block k hk).2,λk hk=>hn k (h.2.2.1.block k hk).1 (h.2.2.1.block k hk).2,λk hk=>hn k (h.2.2.2.1.block k hk).1 (h.2.2.2.1.block k hk).2,λk hk=>hn k (h.2.2.2.2.block k hk).1 (h.2.2.2.2.block k hk).2⟩
theorem qy{T:TypeId}{size n:Nat}{u:Value}{cs:List Value}(h:V.ownsRow b T size u n cs)(k:Kp z V V')(hn:∀i,u.ownBlock=some i->i≠z):V'.ownsRow b T size u n cs:=by
 refine⟨h.1,?_⟩;rcases h.2 with h1|⟨g,cap,cur,h1,h2,h3,h4⟩
 ·exact .inl h1
 ·exact .inr ⟨g,cap,cur,h1,h2,(k.block g (lt_of_block h3) (hn g (by rw[h1];rfl))).trans h3,h4⟩
theorem Sx.below(h:Sx w Y z u1 u2 u3 u4 u5 V)(hb:Below V.heap.size V V'):Sx w Y z u1 u2 u3 u4 u5 V':=
 ⟨h.n,h.b.trans (hb.mono h.b.size),h.r.below hb h.r.lt,h.x.below hb h.x.lt,h.o.below hb⟩
theorem uq(hz:w.heap.size<z)(B:Below w.heap.size w V)(R:Zx V w.heap.size)(Z:Wx V z d0 d1 d2 d3 d4 d5 d6 d7 d8)(O:O5 V b Y u1 u2 u3 u4 u5)(hb:w.heap.size+1<=b)(hn:N5 z u1 u2 u3 u4 u5):Sx w Y z u1 u2 u3 u4 u5 (pt V z Y u1 u2 u3 u4 u5):=by
 have K:=aW V z (int i64 Y.turn) (int i64 Y.next) (int i64 Y.wide) (int i64 Y.high) u1 u2 u3 u4 u5;exact⟨hz,K.below B B.size (Nat.le_of_lt hz),R.kp K (by omega),Z.put _ _ _ _ _ _ _ _ _,Ow.mono (qy O.1 K hn.1) hb,Ow.mono (qy O.2.1 K hn.2.1) hb,Ow.mono (qy O.2.2.1 K hn.2.2.1) hb,dO.mono (qy O.2.2.2.1 K hn.2.2.2.1) hb,dL.mono (qy O.2.2.2.2 K hn.2.2.2.2) hb⟩
end
def YJ(w:World)(Y:WV)(v:Value)(V:World):Prop:=∃z u1 u2 u3 u4 u5,v=.pointer (some ⟨z,0,none⟩)/\Sx w Y z u1 u2 u3 u4 u5 V
theorem O5.shape{w:World}{b:Nat}{Y:WV}{u1 u2 u3 u4 u5:Value}(h:O5 w b Y u1 u2 u3 u4 u5):∃p1 q1 p2 q2 p3 q3 p4 q4 p5 q5,u1=slice p1 Y.gs.length q1/\u2=slice p2 Y.os.length q2/\u3=slice p3 Y.gold.length q3/\u4=slice p4 Y.us.length q4/\u5=slice p5 Y.qs.length q5:=by
 obtain⟨h1,h2,h3,h4,h5⟩:=h;obtain⟨p1,q1,rfl⟩:=h1.len;obtain⟨p2,q2,rfl⟩:=h2.len;obtain⟨p3,q3,rfl⟩:=h3.len;obtain⟨p4,q4,rfl⟩:=h4.len;obtain⟨p5,q5,rfl⟩:=h5.len;exact⟨_,_,_,_,_,_,_,_,_,_,rfl,rfl,rfl,rfl,rfl⟩
theorem yT(ku:Value)(p1 p2:Option Addr)(q1 q2:Nat)(w:World)(hk:Kl w ku SK)(hf:Fl w (.agg #[int i64 4,int i64 2,slice p1 8 q1,slice p2 8 q2]) 4 2 SG SO):Calls Tryz.prog 38 #[ku,.agg #[int i64 4,int i64 2,slice p1 8 q1,slice p2 8 q2],int i64 2,int i64 100] w λe w'=>∃u1 u2 u3 u4 u5,e=.returned (.tuple #[.agg #[int i64 S0.turn,int i64 S0.next,int i64 S0.wide,int i64 S0.high,u1,u2,u3,u4,u5],.nilIface])/\O5 w' w.heap.size S0 u1 u2 u3 u4 u5/\Below w.heap.size w w':=
 (new_any ku _ SK 4 2 SG SO 2 100 w hk fM hf).mono λe w' ⟨u,r,he,hr,ho,hb⟩=>by
  rw[Oz] at hr;rw[VU] at ho;obtain rfl:=Ai hr;obtain⟨u1,u2,u3,u4,u5,rfl,o⟩:=ho;exact⟨u1,u2,u3,u4,u5,he,o,hb⟩
theorem qA{Y Y':WV}{pl kd at_:Int}{u1 u2 u3 u4 u5:Value}{b:Nat}(ku:Value)(w:World)(hk:Kl w ku SK)(o:O5 w b Y u1 u2 u3 u4 u5)(hf:Wd.dh SK Y pl kd at_=0)(hp:Wd.placed SK Y pl kd at_=Y'):Calls Tryz.prog 39 #[ku,.agg #[int i64 Y.turn,int i64 Y.next,int i64 Y.wide,int i64 Y.high,u1,u2,u3,u4,u5],int i64 pl,int i64 kd,int i64 at_] w λe w'=>∃v1 v2 v3 v4 v5,e=.returned (.tuple #[.agg #[int i64 Y'.turn,int i64 Y'.next,int i64 Y'.wide,int i64 Y'.high,v1,v2,v3,v4,v5],.nilIface])/\O5 w' w.heap.size Y' v1 v2 v3 v4 v5/\Below w.heap.size w w':=
 (rM ku _ SK Y pl kd at_ w hk fM ⟨_,_,_,_,_,rfl,o.1.ro,o.2.1.ro,o.2.2.1.ro,o.2.2.2.1.l,o.2.2.2.2.l⟩).mono λe w' ⟨u,r,he,hr,ho,hb⟩=>by
  rw[hf] at hr;rw[hp] at ho;obtain rfl:=Ai hr;obtain⟨v1,v2,v3,v4,v5,rfl,o⟩:=ho;exact⟨v1,v2,v3,v4,v5,he,o,hb⟩
structure Sf(w:World)(y:Nat)(p1 p2:Option Addr)(q1 q2:Nat)(V:World):Prop where
 b:Below w.heap.size w V
 r:Zx V w.heap.size
 x:Bx V y 4 2 (slice p1 8 q1) (slice p2 8 q2)
 f:Fl V (.agg #[int i64 4,int i64 2,slice p1 8 q1,slice p2 8 q2]) 4 2 SG SO
structure Sz(w:World)(y:Nat)(p1 p2:Option Addr)(q1 q2 z:Nat)(V:World):Prop where
 s:Sf w y p1 p2 q1 q2 V
 bx:Zx V z
 n:w.heap.size<z/\y≠z
section
variable {w V V':World} {y z q1 q2:Nat} {p1 p2:Option Addr}
theorem Sf.below(h:Sf w y p1 p2 q1 q2 V)(hb:Below V.heap.size V V'):Sf w y p1 p2 q1 q2 V':=⟨h.b.trans (hb.mono h.b.size),h.r.below hb h.r.lt,h.x.below hb h.x.lt,h.f.below hb⟩
theorem Sz.below(h:Sz w y p1 p2 q1 q2 z V)(hb:Below V.heap.size V V'):Sz w y p1 p2 q1 q2 z V':=⟨h.s.below hb,h.bx.below hb h.bx.lt,h.n⟩
theorem Sf.box(h:Sf w y p1 p2 q1 q2 V):Sz w y p1 p2 q1 q2 V.heap.size (V.alloc (.cells #[int i64 0,int i64 0,int i64 0,int i64 0,slice none 0 0,slice none 0 0,slice none 0 0,slice none 0 0,slice none 0 0] 29)):=⟨h.below ((Below.refl _ _).alloc (Nat.le_refl _) _),Wx.new _ _ _ _ _ _ _ _ _ rfl,h.r.lt,Nat.ne_of_lt h.x.lt⟩
theorem Sz.put{b:Nat}{u1 u2 u3 u4 u5:Value}(h:Sz w y p1 p2 q1 q2 z V)(O:O5 V b S0 u1 u2 u3 u4 u5)(hb:w.heap.size+1<=b)(hn:N5 z u1 u2 u3 u4 u5):Hid (Sx w S0 z u1 u2 u3 u4 u5 (pt V z S0 u1 u2 u3 u4 u5)/\Bx (pt V z S0 u1 u2 u3 u4 u5) y 4 2 (slice p1 8 q1) (slice p2 8 q2)):=by
 refine⟨uq h.n.1 h.s.b h.s.r h.bx O hb hn,?_⟩;have hc:∀i,(pt V z S0 u1 u2 u3 u4 u5).cell? ⟨y,i,none⟩=V.cell? ⟨y,i,none⟩:=λi=>by
  have:=(aW V z (int i64 S0.turn) (int i64 S0.next) (int i64 S0.wide) (int i64 S0.high) u1 u2 u3 u4 u5).block y h.s.x.lt h.n.2;unfold pt;simp only[World.cell?,this]
 exact⟨(hc 0).trans h.s.x.c0,(hc 1).trans h.s.x.c1,(hc 2).trans h.s.x.c2,(hc 3).trans h.s.x.c3⟩
end
theorem Eh(w:World):Calls Tryz.prog 9 #[] w λe w'=>∃u,e=.returned (.tuple #[u,.bool true])/\Wo w' w.heap.size u S3/\Below w.heap.size w w':=by
 go_enter Tryz.func9,Tryz.ntmps9;go_upto_region 1 with fail
 have B0:=aj ((Below.refl w.heap.size w).alloc (Nat.le_refl _) (.cells #[int i64 0,int i64 0,int i64 0,int i64 0,slice none 0 0,slice none 0 0,slice none 0 0,slice none 0 0,slice none 0 0] 29));have R0:Hid (Zx (w.alloc (.cells #[int i64 0,int i64 0,int i64 0,int i64 0,slice none 0 0,slice none 0 0,slice none 0 0,slice none 0 0,slice none 0 0] 29)) w.heap.size):=Wx.new _ _ _ _ _ _ _ _ _ rfl;generalize (w.alloc (.cells #[int i64 0,int i64 0,int i64 0,int i64 0,slice none 0 0,slice none 0 0,slice none 0 0,slice none 0 0,slice none 0 0] 29))=w0 at *;go_wp2_with fail
 refine(parse_any ⟨#[46,46,46,46,10,46,46,51,46,10]⟩ w0 (by decide)).mono ?_;rintro e w1 ⟨hs,hb⟩;have hp:Fd.parse (⟨#[46,46,46,46,10,46,46,51,46,10]⟩:ByteArray).data.toList=.inr ⟨0,4,2,SG,SO⟩:=Jz;rcases hs with⟨i,f,h1,-⟩|⟨st,u1,u2,h1,h2,r1,r2⟩
 ·rw[hp] at h1;cases h1
 rw[hp] at h1;injection h1 with h1
 subst h1;subst h2;have RO:Hid (Ro w1 u1 SG/\Ro w1 u2 SO):=⟨r1,r2⟩;obtain⟨p1,q1,rfl,-⟩:=r1;obtain⟨p2,q2,rfl,-⟩:=r2;have B1:Hid (Below w.heap.size w w1/\Zx w1 w.heap.size):=⟨B0.out.trans (hb.mono B0.out.size),R0.out.below hb R0.out.lt⟩;clear hb hp B0 R0;have l8:SG.length=8:=rfl;have l8':SO.length=8:=rfl;rw[l8,l8'] at *;clear l8 l8';go_upto_region 2 with fail
 obtain⟨y,hy⟩:∃y,w1.heap.size=y:=⟨_,rfl⟩;have D2:Hid (Sf w y p1 p2 q1 q2 (w1.alloc (.cells #[int i64 4,int i64 2,slice p1 8 q1,slice p2 8 q2] 25))):=
  have BA:=(Below.refl _ _).alloc (Nat.le_refl _) _
  ⟨B1.out.1.trans (BA.mono B1.out.1.size),B1.out.2.below BA B1.out.2.lt,Bx.mk' _ _ _ _ hy,_,_,rfl,RO.out.1.below BA,RO.out.2.below BA⟩
 rw[hy];generalize (w1.alloc (.cells #[int i64 4,int i64 2,slice p1 8 q1,slice p2 8 q2] 25))=w2 at *;clear B1 RO hy;go_cut [5,6] (λv5 v6 V=>v6=.nilIface/\YJ w S0 v5 V)
 case first=>
  have D3:Hid (Sf w y p1 p2 q1 q2 {w2 with drawn:=w2.drawn+1}):=D2.out.below (Below.refl _ _).drew;refine eH 6 [(true,1),(false,0),(false,2),(true,3),(true,4),(true,5)] [(false,7)] [(false,8)] (λV=>Bx V y 4 2 (slice p1 8 q1) (slice p2 8 q2)) (by kernel_rfl) (by kernel_rfl) (by kernel_rfl) (by decide+kernel) (by decide+kernel) D3.out.x ?_;generalize ({w2 with drawn:=w2.drawn+1}:World)=w3 at *;clear D2;refine aG rfl (.agg #[int i64 4,int i64 2,slice p1 8 q1,slice p2 8 q2]) (by go_simp) (λV hV=>by obtain⟨f0,f1,f2,f3⟩:=hV;go_simp) ?_;go_simp;have Z3:=aj D3.out.box;refine gU rfl 11 #[] (by go_simp) (by go_simp) ?_ rfl (.pointer (some ⟨w3.heap.size,0,none⟩)) (w3.alloc (.cells #[int i64 0,int i64 0,int i64 0,int i64 0,slice none 0 0,slice none 0 0,slice none 0 0,slice none 0 0,slice none 0 0] 29)) (by go_simp) (by go_simp) Z3.out.s.x ?_
  ·clear Z3
   refine(fA w3).mono ?_;rintro e w4 ⟨ku,rfl,hk,hb⟩;have K4:Hid (Kl w4 ku SK):=hk;have D4:=aj (D3.out.below hb);have Z4:=aj D4.out.box;have K5:=aj (K4.out.below ((Below.refl _ _).alloc (Nat.le_refl _) (.cells #[int i64 0,int i64 0,int i64 0,int i64 0,slice none 0 0,slice none 0 0,slice none 0 0,slice none 0 0,slice none 0 0] 29)));clear hk hb D3;refine⟨_,rfl,D4.out.x,?_⟩;go_simp;refine gU rfl 38 #[ku,.agg #[int i64 4,int i64 2,slice p1 8 q1,slice p2 8 q2],int i64 2,int i64 100] (by go_simp) (by go_simp) ?_ rfl (.pointer (some ⟨w4.heap.size,0,none⟩)) (w4.alloc (.cells #[int i64 0,int i64 0,int i64 0,int i64 0,slice none 0 0,slice none 0 0,slice none 0 0,slice none 0 0,slice none 0 0] 29)) (by go_simp) (by go_simp) Z4.out.s.x ?_
   ·refine(yT ku p1 p2 q1 q2 w4 K4.out D4.out.f).mono ?_
    rintro e w5 ⟨u1,u2,u3,u4,u5,rfl,ho,hb⟩;obtain⟨a1,b1,a2,b2,a3,b3,a4,b4,a5,b5,rfl,rfl,rfl,rfl,rfl⟩:=ho.shape;have D5:=aj (D4.out.below hb);have Z5:=aj D5.out.box;have P5:=Z5.out.put (ho.below ((Below.refl _ _).alloc (Nat.le_refl _) (.cells #[int i64 0,int i64 0,int i64 0,int i64 0,slice none 0 0,slice none 0 0,slice none 0 0,slice none 0 0,slice none 0 0] 29))) D4.out.r.lt (ho.nz (λi _ hi=>Nat.ne_of_lt hi));clear ho hb K4 D4 Z4 K5;refine⟨_,rfl,D5.out.x,?_⟩;go_simp;refine aG rfl (.tuple #[.agg #[int i64 S0.turn,int i64 S0.next,int i64 S0.wide,int i64 S0.high,slice a1 S0.gs.length b1,slice a2 S0.os.length b2,slice a3 S0.gold.length b3,slice a4 S0.us.length b4,slice a5 S0.qs.length b5],.nilIface]) (by go_simp) (λV hV=>by go_simp) ?_;go_simp;refine aG rfl (.agg #[int i64 S0.turn,int i64 S0.next,int i64 S0.wide,int i64 S0.high,slice a1 S0.gs.length b1,slice a2 S0.os.length b2,slice a3 S0.gold.length b3,slice a4 S0.us.length b4,slice a5 S0.qs.length b5]) (by go_simp) (λV hV=>by go_simp) ?_;go_simp;refine aG rfl (.nilIface) (by go_simp) (λV hV=>by go_simp) ?_;go_simp;refine iH rfl (.pointer (some ⟨w5.heap.size,0,none⟩)) (w5.alloc (.cells #[int i64 0,int i64 0,int i64 0,int i64 0,slice none 0 0,slice none 0 0,slice none 0 0,slice none 0 0,slice none 0 0] 29)) (by go_simp) (by go_simp) Z5.out.s.x ?_;go_simp;generalize w5.heap.size=z at *;generalize (w5.alloc (.cells #[int i64 0,int i64 0,int i64 0,int i64 0,slice none 0 0,slice none 0 0,slice none 0 0,slice none 0 0,slice none 0 0] 29))=w5 at *;obtain⟨x0,x1,x2,x3,x4,x5,x6,x7,x8⟩:=Z5.out.bx.cells;obtain⟨t0,t1,t2,t3,t4,t5,t6,t7,t8⟩:=Z5.out.bx.aT;refine cZ rfl (pt w5 z S0 (slice a1 S0.gs.length b1) (slice a2 S0.os.length b2) (slice a3 S0.gold.length b3) (slice a4 S0.us.length b4) (slice a5 S0.qs.length b5)) (by go_simp) (by unfold pt;go_simp) P5.out.2 ?_;go_simp;clear x0 x1 x2 x3 x4 x5 x6 x7 x8 t0 t1 t2 t3 t4 t5 t6 t7 t8;generalize pt w5 z S0 (slice a1 S0.gs.length b1) (slice a2 S0.os.length b2) (slice a3 S0.gold.length b3) (slice a4 S0.us.length b4) (slice a5 S0.qs.length b5)=w6 at *;unfold aO;refine aC rfl .nilIface w6 (by go_simp) (by go_simp) trivial ?_;go_simp;unfold aH;go_wp2_with fail
    go_meet
    case rel=>exact⟨rfl,z,_,_,_,_,_,rfl,P5.out.1⟩
   ·go_simp
    clear K4 D4;generalize w4.heap.size=z at *;generalize (w4.alloc (.cells #[int i64 0,int i64 0,int i64 0,int i64 0,slice none 0 0,slice none 0 0,slice none 0 0,slice none 0 0,slice none 0 0] 29))=w4 at *;have K4:=K5;clear K5;refine aK rfl 38 #[ku,.agg #[int i64 4,int i64 2,slice p1 8 q1,slice p2 8 q2],int i64 2,int i64 100] (by go_simp) (by go_simp) ?_;refine(yT ku p1 p2 q1 q2 _ K4.out Z4.out.s.f).mono ?_;rintro e w5 ⟨u1,u2,u3,u4,u5,rfl,ho,hb⟩;obtain⟨a1,b1,a2,b2,a3,b3,a4,b4,a5,b5,rfl,rfl,rfl,rfl,rfl⟩:=ho.shape;have P5:=(Z4.out.below hb).put ho Z4.out.s.r.lt (ho.nz (λi hi _=>by have:=Z4.out.bx.lt;omega));have Z5:=aj (Z4.out.below hb);clear ho hb K4 Z4;refine⟨_,rfl,Z5.out.s.x,?_⟩;go_simp;refine au rfl (.tuple #[.agg #[int i64 S0.turn,int i64 S0.next,int i64 S0.wide,int i64 S0.high,slice a1 S0.gs.length b1,slice a2 S0.os.length b2,slice a3 S0.gold.length b3,slice a4 S0.us.length b4,slice a5 S0.qs.length b5],.nilIface]) (by go_simp) (λV hV=>by go_simp) ?_;go_simp;refine au rfl (.agg #[int i64 S0.turn,int i64 S0.next,int i64 S0.wide,int i64 S0.high,slice a1 S0.gs.length b1,slice a2 S0.os.length b2,slice a3 S0.gold.length b3,slice a4 S0.us.length b4,slice a5 S0.qs.length b5]) (by go_simp) (λV hV=>by go_simp) ?_;go_simp;refine au rfl (.nilIface) (by go_simp) (λV hV=>by go_simp) ?_;go_simp;obtain⟨x0,x1,x2,x3,x4,x5,x6,x7,x8⟩:=Z5.out.bx.cells;obtain⟨t0,t1,t2,t3,t4,t5,t6,t7,t8⟩:=Z5.out.bx.aT;refine cZ rfl (pt w5 z S0 (slice a1 S0.gs.length b1) (slice a2 S0.os.length b2) (slice a3 S0.gold.length b3) (slice a4 S0.us.length b4) (slice a5 S0.qs.length b5)) (by go_simp) (by unfold pt;go_simp) P5.out.2 ?_;go_simp;clear x0 x1 x2 x3 x4 x5 x6 x7 x8 t0 t1 t2 t3 t4 t5 t6 t7 t8;generalize pt w5 z S0 (slice a1 S0.gs.length b1) (slice a2 S0.os.length b2) (slice a3 S0.gold.length b3) (slice a4 S0.us.length b4) (slice a5 S0.qs.length b5)=w6 at *;unfold aO;refine aC rfl .nilIface w6 (by go_simp) (by go_simp) trivial ?_;go_simp;unfold aH;go_wp2_with fail
    go_meet
    case rel=>exact⟨rfl,z,_,_,_,_,_,rfl,P5.out.1⟩
  ·go_simp
   clear D3;generalize w3.heap.size=z at *;generalize (w3.alloc (.cells #[int i64 0,int i64 0,int i64 0,int i64 0,slice none 0 0,slice none 0 0,slice none 0 0,slice none 0 0,slice none 0 0] 29))=w3 at *;refine aK rfl 11 #[] (by go_simp) (by go_simp) ?_;refine(fA w3).mono ?_;rintro e w4 ⟨ku,rfl,hk,hb⟩;have K4:Hid (Kl w4 ku SK):=hk;have Z4:=aj (Z3.out.below hb);clear hk hb Z3;refine⟨_,rfl,Z4.out.s.x,?_⟩;go_simp;refine aK rfl 38 #[ku,.agg #[int i64 4,int i64 2,slice p1 8 q1,slice p2 8 q2],int i64 2,int i64 100] (by go_simp) (by go_simp) ?_;refine(yT ku p1 p2 q1 q2 _ K4.out Z4.out.s.f).mono ?_;rintro e w5 ⟨u1,u2,u3,u4,u5,rfl,ho,hb⟩;obtain⟨a1,b1,a2,b2,a3,b3,a4,b4,a5,b5,rfl,rfl,rfl,rfl,rfl⟩:=ho.shape;have P5:=(Z4.out.below hb).put ho Z4.out.s.r.lt (ho.nz (λi hi _=>by have:=Z4.out.bx.lt;omega));have Z5:=aj (Z4.out.below hb);clear ho hb K4 Z4;refine⟨_,rfl,Z5.out.s.x,?_⟩;go_simp;refine au rfl (.tuple #[.agg #[int i64 S0.turn,int i64 S0.next,int i64 S0.wide,int i64 S0.high,slice a1 S0.gs.length b1,slice a2 S0.os.length b2,slice a3 S0.gold.length b3,slice a4 S0.us.length b4,slice a5 S0.qs.length b5],.nilIface]) (by go_simp) (λV hV=>by go_simp) ?_;go_simp;refine au rfl (.agg #[int i64 S0.turn,int i64 S0.next,int i64 S0.wide,int i64 S0.high,slice a1 S0.gs.length b1,slice a2 S0.os.length b2,slice a3 S0.gold.length b3,slice a4 S0.us.length b4,slice a5 S0.qs.length b5]) (by go_simp) (λV hV=>by go_simp) ?_;go_simp;refine au rfl (.nilIface) (by go_simp) (λV hV=>by go_simp) ?_;go_simp;obtain⟨x0,x1,x2,x3,x4,x5,x6,x7,x8⟩:=Z5.out.bx.cells;obtain⟨t0,t1,t2,t3,t4,t5,t6,t7,t8⟩:=Z5.out.bx.aT;refine cZ rfl (pt w5 z S0 (slice a1 S0.gs.length b1) (slice a2 S0.os.length b2) (slice a3 S0.gold.length b3) (slice a4 S0.us.length b4) (slice a5 S0.qs.length b5)) (by go_simp) (by unfold pt;go_simp) P5.out.2 ?_;go_simp;clear x0 x1 x2 x3 x4 x5 x6 x7 x8 t0 t1 t2 t3 t4 t5 t6 t7 t8;generalize pt w5 z S0 (slice a1 S0.gs.length b1) (slice a2 S0.os.length b2) (slice a3 S0.gold.length b3) (slice a4 S0.us.length b4) (slice a5 S0.qs.length b5)=w6 at *;unfold aO;refine aC rfl .nilIface w6 (by go_simp) (by go_simp) trivial ?_;go_simp;unfold aH;go_wp2_with fail
   go_meet
   case rel=>exact⟨rfl,z,_,_,_,_,_,rfl,P5.out.1⟩
 case rest=>
  obtain⟨rfl,z,u1,u2,u3,u4,u5,rfl,hS⟩:=hcut;have P0:Hid (Sx w S0 z u1 u2 u3 u4 u5 wc):=hS;clear hS D2;generalize wc=w0 at *;go_upto_region 3 with fail
  have D3:Hid (Sx w S0 z u1 u2 u3 u4 u5 {w0 with drawn:=w0.drawn+1}):=P0.out.below (Below.refl _ _).drew;refine aI [(true,1),(false,0),(false,2),(true,3)] [(true,4),(true,5),(false,6),(false,7)] (λV=>Wx V z (int i64 S0.turn) (int i64 S0.next) (int i64 S0.wide) (int i64 S0.high) u1 u2 u3 u4 u5) (by kernel_rfl) (by kernel_rfl) (by kernel_rfl) (by decide+kernel) (by decide+kernel) D3.out.x ?_;generalize ({w0 with drawn:=w0.drawn+1}:World)=v3 at *;clear P0;refine au rfl (.agg #[int i64 S0.turn,int i64 S0.next,int i64 S0.wide,int i64 S0.high,u1,u2,u3,u4,u5]) (by go_simp) (λV hV=>by obtain⟨x0,x1,x2,x3,x4,x5,x6,x7,x8⟩:=hV.cells;go_simp) ?_;go_simp;refine aK rfl 11 #[] (by go_simp) (by go_simp) ?_;refine(fA v3).mono ?_;rintro e v4 ⟨ku,rfl,hk,hb⟩;have K4:Hid (Kl v4 ku SK):=hk;have D4:=aj (D3.out.below hb);clear hk hb D3;refine⟨_,rfl,D4.out.x,?_⟩;go_simp;refine aK rfl 39 #[ku,.agg #[int i64 S0.turn,int i64 S0.next,int i64 S0.wide,int i64 S0.high,u1,u2,u3,u4,u5],int i64 0,int i64 0,int i64 0] (by go_simp) (by go_simp) ?_;refine(qA ku v4 K4.out D4.out.o OD VW).mono ?_;rintro e v5 ⟨v1,v2,v3,v4,v5',rfl,ho,hb⟩;obtain⟨m1,n1,m2,n2,m3,n3,m4,n4,m5,n5,rfl,rfl,rfl,rfl,rfl⟩:=ho.shape;have D5:=aj (D4.out.below hb);have P1:=aj (uq D4.out.n D5.out.b D5.out.r D5.out.x ho D4.out.r.lt (ho.nz (λi hi _=>by have:=D4.out.x.lt;omega)));clear ho hb K4 D4;refine⟨_,rfl,D5.out.x,?_⟩;go_simp;refine au rfl (.tuple #[.agg #[int i64 S1.turn,int i64 S1.next,int i64 S1.wide,int i64 S1.high,slice m1 S1.gs.length n1,slice m2 S1.os.length n2,slice m3 S1.gold.length n3,slice m4 S1.us.length n4,slice m5 S1.qs.length n5],.nilIface]) (by go_simp) (λV hV=>by go_simp) ?_;go_simp;unfold aO;obtain⟨x0,x1,x2,x3,x4,x5,x6,x7,x8⟩:=D5.out.x.cells;obtain⟨t0,t1,t2,t3,t4,t5,t6,t7,t8⟩:=D5.out.x.aT;refine bg rfl (.agg #[int i64 S1.turn,int i64 S1.next,int i64 S1.wide,int i64 S1.high,slice m1 S1.gs.length n1,slice m2 S1.os.length n2,slice m3 S1.gold.length n3,slice m4 S1.us.length n4,slice m5 S1.qs.length n5]) (by go_simp) (λV hV=>by go_simp) ?_;go_simp;refine bg rfl (.nilIface) (by go_simp) (λV hV=>by go_simp) ?_;go_simp;refine fG rfl (pt v5 z S1 (slice m1 S1.gs.length n1) (slice m2 S1.os.length n2) (slice m3 S1.gold.length n3) (slice m4 S1.us.length n4) (slice m5 S1.qs.length n5)) (by go_simp) (by unfold pt;go_simp) trivial ?_;go_simp;clear x0 x1 x2 x3 x4 x5 x6 x7 x8 t0 t1 t2 t3 t4 t5 t6 t7 t8 D5;obtain⟨u1,u2,u3,u4,u5,P1⟩:∃u1 u2 u3 u4 u5,Hid (Sx w S1 z u1 u2 u3 u4 u5 (pt v5 z S1 (slice m1 S1.gs.length n1) (slice m2 S1.os.length n2) (slice m3 S1.gold.length n3) (slice m4 S1.us.length n4) (slice m5 S1.qs.length n5))):=⟨_,_,_,_,_,P1⟩;generalize pt v5 z S1 (slice m1 S1.gs.length n1) (slice m2 S1.os.length n2) (slice m3 S1.gold.length n3) (slice m4 S1.us.length n4) (slice m5 S1.qs.length n5)=w1 at *;refine aC rfl .nilIface w1 (by go_simp) (by go_simp) trivial ?_;go_simp;unfold aH;go_upto_region 4 with fail
  have D3:Hid (Sx w S1 z u1 u2 u3 u4 u5 {w1 with drawn:=w1.drawn+1}):=P1.out.below (Below.refl _ _).drew;refine aI [(true,1),(false,0),(false,2),(true,3)] [(true,4),(true,5),(false,6),(false,7)] (λV=>Wx V z (int i64 S1.turn) (int i64 S1.next) (int i64 S1.wide) (int i64 S1.high) u1 u2 u3 u4 u5) (by kernel_rfl) (by kernel_rfl) (by kernel_rfl) (by decide+kernel) (by decide+kernel) D3.out.x ?_;generalize ({w1 with drawn:=w1.drawn+1}:World)=v3 at *;clear P1;refine au rfl (.agg #[int i64 S1.turn,int i64 S1.next,int i64 S1.wide,int i64 S1.high,u1,u2,u3,u4,u5]) (by go_simp) (λV hV=>by obtain⟨x0,x1,x2,x3,x4,x5,x6,x7,x8⟩:=hV.cells;go_simp) ?_;go_simp;refine aK rfl 11 #[] (by go_simp) (by go_simp) ?_;refine(fA v3).mono ?_;rintro e v4 ⟨ku,rfl,hk,hb⟩;have K4:Hid (Kl v4 ku SK):=hk;have D4:=aj (D3.out.below hb);clear hk hb D3;refine⟨_,rfl,D4.out.x,?_⟩;go_simp;refine aK rfl 39 #[ku,.agg #[int i64 S1.turn,int i64 S1.next,int i64 S1.wide,int i64 S1.high,u1,u2,u3,u4,u5],int i64 0,int i64 1,int i64 1] (by go_simp) (by go_simp) ?_;refine(qA ku v4 K4.out D4.out.o OG VX).mono ?_;rintro e v5 ⟨v1,v2,v3,v4,v5',rfl,ho,hb⟩;obtain⟨m1,n1,m2,n2,m3,n3,m4,n4,m5,n5,rfl,rfl,rfl,rfl,rfl⟩:=ho.shape;have D5:=aj (D4.out.below hb);have P2:=aj (uq D4.out.n D5.out.b D5.out.r D5.out.x ho D4.out.r.lt (ho.nz (λi hi _=>by have:=D4.out.x.lt;omega)));clear ho hb K4 D4;refine⟨_,rfl,D5.out.x,?_⟩;go_simp;refine au rfl (.tuple #[.agg #[int i64 S2.turn,int i64 S2.next,int i64 S2.wide,int i64 S2.high,slice m1 S2.gs.length n1,slice m2 S2.os.length n2,slice m3 S2.gold.length n3,slice m4 S2.us.length n4,slice m5 S2.qs.length n5],.nilIface]) (by go_simp) (λV hV=>by go_simp) ?_;go_simp;unfold aO;obtain⟨x0,x1,x2,x3,x4,x5,x6,x7,x8⟩:=D5.out.x.cells;obtain⟨t0,t1,t2,t3,t4,t5,t6,t7,t8⟩:=D5.out.x.aT;refine bg rfl (.agg #[int i64 S2.turn,int i64 S2.next,int i64 S2.wide,int i64 S2.high,slice m1 S2.gs.length n1,slice m2 S2.os.length n2,slice m3 S2.gold.length n3,slice m4 S2.us.length n4,slice m5 S2.qs.length n5]) (by go_simp) (λV hV=>by go_simp) ?_;go_simp;refine bg rfl (.nilIface) (by go_simp) (λV hV=>by go_simp) ?_;go_simp;refine fG rfl (pt v5 z S2 (slice m1 S2.gs.length n1) (slice m2 S2.os.length n2) (slice m3 S2.gold.length n3) (slice m4 S2.us.length n4) (slice m5 S2.qs.length n5)) (by go_simp) (by unfold pt;go_simp) trivial ?_;go_simp;clear x0 x1 x2 x3 x4 x5 x6 x7 x8 t0 t1 t2 t3 t4 t5 t6 t7 t8 D5;obtain⟨u1,u2,u3,u4,u5,P2⟩:∃u1 u2 u3 u4 u5,Hid (Sx w S2 z u1 u2 u3 u4 u5 (pt v5 z S2 (slice m1 S2.gs.length n1) (slice m2 S2.os.length n2) (slice m3 S2.gold.length n3) (slice m4 S2.us.length n4) (slice m5 S2.qs.length n5))):=⟨_,_,_,_,_,P2⟩;generalize pt v5 z S2 (slice m1 S2.gs.length n1) (slice m2 S2.os.length n2) (slice m3 S2.gold.length n3) (slice m4 S2.us.length n4) (slice m5 S2.qs.length n5)=w2 at *;refine aC rfl .nilIface w2 (by go_simp) (by go_simp) trivial ?_;go_simp;unfold aH;go_upto_region 5 with fail
  have D3:Hid (Sx w S2 z u1 u2 u3 u4 u5 {w2 with drawn:=w2.drawn+1}):=P2.out.below (Below.refl _ _).drew;refine aI [(true,1),(false,0),(false,2),(true,3)] [(true,4),(true,5),(false,6),(false,7)] (λV=>Wx V z (int i64 S2.turn) (int i64 S2.next) (int i64 S2.wide) (int i64 S2.high) u1 u2 u3 u4 u5) (by kernel_rfl) (by kernel_rfl) (by kernel_rfl) (by decide+kernel) (by decide+kernel) D3.out.x ?_;generalize ({w2 with drawn:=w2.drawn+1}:World)=v3 at *;clear P2;refine au rfl (.agg #[int i64 S2.turn,int i64 S2.next,int i64 S2.wide,int i64 S2.high,u1,u2,u3,u4,u5]) (by go_simp) (λV hV=>by obtain⟨x0,x1,x2,x3,x4,x5,x6,x7,x8⟩:=hV.cells;go_simp) ?_;go_simp;refine aK rfl 11 #[] (by go_simp) (by go_simp) ?_;refine(fA v3).mono ?_;rintro e v4 ⟨ku,rfl,hk,hb⟩;have K4:Hid (Kl v4 ku SK):=hk;have D4:=aj (D3.out.below hb);clear hk hb D3;refine⟨_,rfl,D4.out.x,?_⟩;go_simp;refine aK rfl 39 #[ku,.agg #[int i64 S2.turn,int i64 S2.next,int i64 S2.wide,int i64 S2.high,u1,u2,u3,u4,u5],int i64 1,int i64 2,int i64 3] (by go_simp) (by go_simp) ?_;refine(qA ku v4 K4.out D4.out.o OH VY).mono ?_;rintro e v5 ⟨v1,v2,v3,v4,v5',rfl,ho,hb⟩;obtain⟨m1,n1,m2,n2,m3,n3,m4,n4,m5,n5,rfl,rfl,rfl,rfl,rfl⟩:=ho.shape;have D5:=aj (D4.out.below hb);have P3:=aj (uq D4.out.n D5.out.b D5.out.r D5.out.x ho D4.out.r.lt (ho.nz (λi hi _=>by have:=D4.out.x.lt;omega)));clear ho hb K4 D4;refine⟨_,rfl,D5.out.x,?_⟩;go_simp;refine au rfl (.tuple #[.agg #[int i64 S3.turn,int i64 S3.next,int i64 S3.wide,int i64 S3.high,slice m1 S3.gs.length n1,slice m2 S3.os.length n2,slice m3 S3.gold.length n3,slice m4 S3.us.length n4,slice m5 S3.qs.length n5],.nilIface]) (by go_simp) (λV hV=>by go_simp) ?_;go_simp;unfold aO;obtain⟨x0,x1,x2,x3,x4,x5,x6,x7,x8⟩:=D5.out.x.cells;obtain⟨t0,t1,t2,t3,t4,t5,t6,t7,t8⟩:=D5.out.x.aT;refine bg rfl (.agg #[int i64 S3.turn,int i64 S3.next,int i64 S3.wide,int i64 S3.high,slice m1 S3.gs.length n1,slice m2 S3.os.length n2,slice m3 S3.gold.length n3,slice m4 S3.us.length n4,slice m5 S3.qs.length n5]) (by go_simp) (λV hV=>by go_simp) ?_;go_simp;refine bg rfl (.nilIface) (by go_simp) (λV hV=>by go_simp) ?_;go_simp;refine fG rfl (pt v5 z S3 (slice m1 S3.gs.length n1) (slice m2 S3.os.length n2) (slice m3 S3.gold.length n3) (slice m4 S3.us.length n4) (slice m5 S3.qs.length n5)) (by go_simp) (by unfold pt;go_simp) trivial ?_;go_simp;clear x0 x1 x2 x3 x4 x5 x6 x7 x8 t0 t1 t2 t3 t4 t5 t6 t7 t8 D5;obtain⟨u1,u2,u3,u4,u5,P3⟩:∃u1 u2 u3 u4 u5,Hid (Sx w S3 z u1 u2 u3 u4 u5 (pt v5 z S3 (slice m1 S3.gs.length n1) (slice m2 S3.os.length n2) (slice m3 S3.gold.length n3) (slice m4 S3.us.length n4) (slice m5 S3.qs.length n5))):=⟨_,_,_,_,_,P3⟩;generalize pt v5 z S3 (slice m1 S3.gs.length n1) (slice m2 S3.os.length n2) (slice m3 S3.gold.length n3) (slice m4 S3.us.length n4) (slice m5 S3.qs.length n5)=w3 at *;refine aC rfl .nilIface w3 (by go_simp) (by go_simp) trivial ?_;go_simp;unfold aH;go_upto_region 6 with fail
  obtain⟨k1,r1,k2,r2,g,h,i,j,k5,r5,rfl,rfl,rfl,rfl,rfl⟩:=P3.out.o.shape;rw[show S3.us.length=3 from rfl,show S3.gold.length=2 from rfl] at *;have D3:Hid (Sx w S3 z (slice k1 S3.gs.length r1) (slice k2 S3.os.length r2) (slice g 2 h) (slice i 3 j) (slice k5 S3.qs.length r5) {w3 with drawn:=w3.drawn+1}):=P3.out.below (Below.refl _ _).drew;refine aI [(true,0),(true,1),(true,2),(true,3),(true,4),(true,5),(true,6),(true,7),(true,8),(true,9),(true,10),(true,11),(true,12),(true,13),(true,14),(true,15),(true,16),(true,17),(true,18),(true,19),(true,20),(true,21),(true,22),(true,23),(true,24),(true,25),(true,26),(true,27),(true,28),(true,29),(true,30),(false,31)] [(false,32)] (λV=>Wx V z (int i64 S3.turn) (int i64 S3.next) (int i64 S3.wide) (int i64 S3.high) (slice k1 S3.gs.length r1) (slice k2 S3.os.length r2) (slice g 2 h) (slice i 3 j) (slice k5 S3.qs.length r5)) (by kernel_rfl) (by kernel_rfl) (by kernel_rfl) (by decide+kernel) (by decide+kernel) D3.out.x ?_;generalize ({w3 with drawn:=w3.drawn+1}:World)=v3 at *;clear P3;refine au rfl (.agg #[int i64 S3.turn,int i64 S3.next,int i64 S3.wide,int i64 S3.high,slice k1 S3.gs.length r1,slice k2 S3.os.length r2,slice g 2 h,slice i 3 j,slice k5 S3.qs.length r5]) (by go_simp) (λV hV=>by obtain⟨x0,x1,x2,x3,x4,x5,x6,x7,x8⟩:=hV.cells;go_simp) ?_;go_simp;refine au rfl (.nilIface) (by go_simp) (λV hV=>by go_simp) ?_;go_simp;refine au rfl (.bool true) (by go_simp) (λV hV=>by go_simp) ?_;go_simp;refine au rfl (.bool true) (by go_simp) (λV hV=>by go_simp) ?_;go_simp;refine au rfl (.nilIface) (by go_simp) (λV hV=>by go_simp) ?_;go_simp;refine au rfl (.bool true) (by go_simp) (λV hV=>by go_simp) ?_;go_simp;refine au rfl (.bool true) (by go_simp) (λV hV=>by go_simp) ?_;go_simp;refine au rfl (.bool true) (by go_simp) (λV hV=>by go_simp) ?_;go_simp;refine au rfl (.nilIface) (by go_simp) (λV hV=>by go_simp) ?_;go_simp;refine au rfl (.bool true) (by go_simp) (λV hV=>by go_simp) ?_;go_simp;refine au rfl (.bool true) (by go_simp) (λV hV=>by go_simp) ?_;go_simp;refine au rfl (.bool true) (by go_simp) (λV hV=>by go_simp) ?_;go_simp;refine au rfl (.nilIface) (by go_simp) (λV hV=>by go_simp) ?_;go_simp;refine au rfl (.bool true) (by go_simp) (λV hV=>by go_simp) ?_;go_simp;refine au rfl (.bool true) (by go_simp) (λV hV=>by go_simp) ?_;go_simp;refine au rfl (.bool true) (by go_simp) (λV hV=>by go_simp) ?_;go_simp;refine au rfl (.nilIface) (by go_simp) (λV hV=>by go_simp) ?_;go_simp;refine au rfl (.bool true) (by go_simp) (λV hV=>by go_simp) ?_;go_simp;refine au rfl (.bool true) (by go_simp) (λV hV=>by go_simp) ?_;go_simp;refine au rfl (.bool true) (by go_simp) (λV hV=>by go_simp) ?_;go_simp;refine au rfl (.pointer (some ⟨z,7,none⟩)) (by go_simp) (λV hV=>by go_simp) ?_;go_simp;refine au rfl (slice i 3 j) (by go_simp) (λV hV=>by obtain⟨x0,x1,x2,x3,x4,x5,x6,x7,x8⟩:=hV.cells;go_simp) ?_;go_simp;refine au rfl (int i64 3) (by go_simp) (λV hV=>by go_simp) ?_;go_simp;refine au rfl (.bool true) (by go_simp) (λV hV=>by go_simp) ?_;go_simp;refine au rfl (.bool true) (by go_simp) (λV hV=>by go_simp) ?_;go_simp;refine au rfl (.bool true) (by go_simp) (λV hV=>by go_simp) ?_;go_simp;refine au rfl (.pointer (some ⟨z,6,none⟩)) (by go_simp) (λV hV=>by go_simp) ?_;go_simp;refine au rfl (slice g 2 h) (by go_simp) (λV hV=>by obtain⟨x0,x1,x2,x3,x4,x5,x6,x7,x8⟩:=hV.cells;go_simp) ?_;go_simp;refine au rfl (int i64 2) (by go_simp) (λV hV=>by go_simp) ?_;go_simp;refine au rfl (.bool true) (by go_simp) (λV hV=>by go_simp) ?_;go_simp;refine au rfl (.bool true) (by go_simp) (λV hV=>by go_simp) ?_;go_simp;have KW:=aj (aW v3 w.heap.size (int i64 S3.turn) (int i64 S3.next) (int i64 S3.wide) (int i64 S3.high) (slice k1 S3.gs.length r1) (slice k2 S3.os.length r2) (slice g 2 h) (slice i 3 j) (slice k5 S3.qs.length r5));have XF:=aj (D3.out.r.put (int i64 S3.turn) (int i64 S3.next) (int i64 S3.wide) (int i64 S3.high) (slice k1 S3.gs.length r1) (slice k2 S3.os.length r2) (slice g 2 h) (slice i 3 j) (slice k5 S3.qs.length r5));obtain⟨x0,x1,x2,x3,x4,x5,x6,x7,x8⟩:=D3.out.r.cells;obtain⟨t0,t1,t2,t3,t4,t5,t6,t7,t8⟩:=D3.out.r.aT;refine cZ rfl (pt v3 w.heap.size S3 (slice k1 S3.gs.length r1) (slice k2 S3.os.length r2) (slice g 2 h) (slice i 3 j) (slice k5 S3.qs.length r5)) (by go_simp) (by unfold pt;go_simp) (D3.out.x.kp KW.out (Nat.ne_of_gt D3.out.n)) ?_;go_simp;clear x0 x1 x2 x3 x4 x5 x6 x7 x8 t0 t1 t2 t3 t4 t5 t6 t7 t8;unfold pt;generalize World.setCell _ ⟨_,8,none⟩ _=v4 at *;unfold aO;refine aC rfl (.bool true) v4 (by go_simp) (by go_simp) trivial ?_;go_simp;unfold aH;obtain⟨x0,x1,x2,x3,x4,x5,x6,x7,x8⟩:=XF.out.cells;go_wp2;have O:=D3.out.o;refine bodyPost_ret (v:=.tuple #[.agg #[int i64 S3.turn,int i64 S3.next,int i64 S3.wide,int i64 S3.high,slice k1 S3.gs.length r1,slice k2 S3.os.length r2,slice g 2 h,slice i 3 j,slice k5 S3.qs.length r5],.bool true]) (by simp[results,Tryz.results9,go_sem,x0,x1,x2,x3,x4,x5,x6,x7,x8]) rfl ⟨_,rfl,⟨_,_,_,_,_,rfl,Ow.mono (dX O.1 KW.out (by omega)) (by omega),Ow.mono (dX O.2.1 KW.out (by omega)) (by omega),Ow.mono (dX O.2.2.1 KW.out (by omega)) (by omega),dO.mono (dX O.2.2.2.1 KW.out (by omega)) (by omega),dL.mono (dX O.2.2.2.2 KW.out (by omega)) (by omega)⟩,KW.out.below D3.out.b D3.out.b.size (Nat.le_refl _)⟩
open Go
inductive rW where
 |leaf:rW
 |read:Nat->rW->rW
 |one:Nat->rW->rW
 |two:Nat->rW->Nat->rW->rW
 |three:Nat->rW->Nat->rW->Nat->rW->rW
section
variable {P:Program} {ops:Array Oper} {md:Region.Mode} {C:World->Prop} {Q:Exit->Act->World->Prop}
def fZ(P:Program)(ops:Array Oper)(C:World->Prop)(K:Act->World->Prop):rW->Act->World->Prop
 | .leaf,a,W=>K a W
 | .read i t,a,W=>∃o v,ops[i]? =some o/\fP P ops C o v a/\fZ P ops C K t (a.put o.dst v) W
 | .one i t,a,W=>∃o,ops[i]? =some o/\dB P ops C o (fZ P ops C K t) a W
 | .two i t j u,a,W=>(∃o,ops[i]? =some o/\dB P ops C o (fZ P ops C K t) a W)/\(∃o,ops[j]? =some o/\dB P ops C o (fZ P ops C K u) a W)
 | .three i t j u k v,a,W=>(∃o,ops[i]? =some o/\dB P ops C o (fZ P ops C K t) a W)/\(∃o,ops[j]? =some o/\dB P ops C o (fZ P ops C K u) a W)/\(∃o,ops[k]? =some o/\dB P ops C o (fZ P ops C K v) a W)
def uw(md:Region.Mode)(ops:Array Oper)(H0:Array Bool):Nat->rW->Array Bool->Bool
 |0,.leaf,listed=>decide (listed=H0)
 |n+1,.read i t,listed=>(Region.ready md ops listed).contains i&&(Region.free md ops listed i&&((waits md ops H0 i||decide (Region.ready md ops (H0.setIfInBounds i false)=[i]))&&uw md ops H0 n t (listed.setIfInBounds i true)))
 |n+1,.one i t,listed=>(Region.ready md ops listed).contains i&&((Region.ready md ops listed).all (λx=>decide (x=i))&&uw md ops H0 n t (listed.setIfInBounds i true))
 |n+1,.two i t j u,listed=>(Region.ready md ops listed).contains i&&((Region.ready md ops listed).contains j&&((Region.ready md ops listed).all (λx=>decide (x=i)||decide (x=j))&&(uw md ops H0 n t (listed.setIfInBounds i true)&&uw md ops H0 n u (listed.setIfInBounds j true))))
 |n+1,.three i t j u k v,listed=>(Region.ready md ops listed).contains i&&((Region.ready md ops listed).contains j&&((Region.ready md ops listed).contains k&&((Region.ready md ops listed).all (λx=>decide (x=i)||(decide (x=j)||decide (x=k)))&&(uw md ops H0 n t (listed.setIfInBounds i true)&&(uw md ops H0 n u (listed.setIfInBounds j true)&&uw md ops H0 n v (listed.setIfInBounds k true))))))
 |_,_,_=>false
theorem dK{K:Act->World->Prop}{H0:Array Bool}(hsel:Region.noSelect ops=true):∀(n:Nat) (t:rW) (listed:Array Bool) (a:Act) (W:World),xA md ops listed->uw md ops H0 n t listed=true->C W->fZ P ops C K t a W->kT P md ops C (λl a W=>l=H0/\K a W) n listed a W
 |0,.leaf,listed,a,W,inv,hB,hC,h=>by
  simp only[uw,decide_eq_true_eq] at hB;exact⟨hB,h⟩
 |n+1,.read i t,listed,a,W,inv,hB,hC,h=>by
  simp only[uw,Bool.and_eq_true,Bool.or_eq_true,decide_eq_true_eq] at hB;obtain⟨hr,hf,hH,hB⟩:=hB;obtain⟨o,v,ho,hy,hk⟩:=h;have hr':i∈Region.ready md ops listed:=by simpa using hr
  exact jA ho (Region.noSelect_spec hsel) hH (λ_ _ _ h=>h.1) n listed a W inv (Region.free_spec ho hf) hr' hy hC (dK hsel n t _ _ _ (inv.set hr') hB hC hk)
 |n+1,.one i t,listed,a,W,inv,hB,hC,h=>by
  simp only[uw,Bool.and_eq_true] at hB;obtain⟨hr,hall,hB⟩:=hB;have hr':i∈Region.ready md ops listed:=by simpa using hr
  obtain⟨o,ho,hs⟩:=h;refine⟨λh=>(by rw[h] at hr';cases hr'),λx hx=>?_⟩;have hx':=List.all_eq_true.1 hall x hx;simp only[decide_eq_true_eq] at hx';subst hx';exact⟨o,ho,hs.mono λa' W' hC' hk=>dK hsel n t _ _ _ (inv.set hr') hB hC' hk⟩
 |n+1,.two i t j u,listed,a,W,inv,hB,hC,h=>by
  simp only[uw,Bool.and_eq_true] at hB;obtain⟨hi,hj,hall,hB1,hB2⟩:=hB;have hi':i∈Region.ready md ops listed:=by simpa using hi
  have hj':j∈Region.ready md ops listed:=by simpa using hj
  obtain⟨⟨o,ho,hs⟩,⟨o2,ho2,hs2⟩⟩:=h;refine⟨λh=>(by rw[h] at hi';cases hi'),λx hx=>?_⟩;have hx':=List.all_eq_true.1 hall x hx;simp only[Bool.or_eq_true,decide_eq_true_eq] at hx';rcases hx' with e|e
  ·subst e;exact⟨o,ho,hs.mono λa' W' hC' hk=>dK hsel n t _ _ _ (inv.set hi') hB1 hC' hk⟩
  ·subst e;exact⟨o2,ho2,hs2.mono λa' W' hC' hk=>dK hsel n u _ _ _ (inv.set hj') hB2 hC' hk⟩
 |n+1,.three i t j u k v,listed,a,W,inv,hB,hC,h=>by
  simp only[uw,Bool.and_eq_true] at hB;obtain⟨hi,hj,hk,hall,hB1,hB2,hB3⟩:=hB;have hi':i∈Region.ready md ops listed:=by simpa using hi
  have hj':j∈Region.ready md ops listed:=by simpa using hj
  have hk':k∈Region.ready md ops listed:=by simpa using hk
  obtain⟨⟨o,ho,hs⟩,⟨o2,ho2,hs2⟩,⟨o3,ho3,hs3⟩⟩:=h;refine⟨λh=>(by rw[h] at hi';cases hi'),λx hx=>?_⟩;have hx':=List.all_eq_true.1 hall x hx;simp only[Bool.or_eq_true,decide_eq_true_eq] at hx';rcases hx' with e|e|e
  ·subst e;exact⟨o,ho,hs.mono λa' W' hC' hk=>dK hsel n t _ _ _ (inv.set hi') hB1 hC' hk⟩
  ·subst e;exact⟨o2,ho2,hs2.mono λa' W' hC' hk=>dK hsel n u _ _ _ (inv.set hj') hB2 hC' hk⟩
  ·subst e;exact⟨o3,ho3,hs3.mono λa' W' hC' hk=>dK hsel n v _ _ _ (inv.set hk') hB3 hC' hk⟩
 |0,.read _ _,_,_,_,_,hB,_,_=>by simp[uw] at hB
 |0,.one _ _,_,_,_,_,hB,_,_=>by simp[uw] at hB
 |0,.two _ _ _ _,_,_,_,_,hB,_,_=>by simp[uw] at hB
 |0,.three _ _ _ _ _ _,_,_,_,_,hB,_,_=>by simp[uw] at hB
 |_+1,.leaf,_,_,_,_,hB,_,_=>by simp[uw] at hB
theorem jX{id:Nat}{a:Act}{w:World}(T:rW)(s t:List (Bool×Nat))(C:World->Prop)(hm:P.follows .mixedOrders=true)(hs:Region.noSelect ops=true)(hl:s.length+t.length=ops.size)
 (hB:uw .any ops (iF ops.size s) s.length T (Array.replicate ops.size false)=true)
 (hT:jy .any ops t (iF ops.size s)=true)
 (hC:C {w with drawn:=w.drawn+1}) (h:fZ P ops C (aH P ops (λ_=>True) Q t) T a {w with drawn:=w.drawn+1}):(Code.region id ops true).wp P Q a w:=by
 refine wp_region_any hm ?_;rw[<-hl];refine gJ (g:=t.length) (λlisted a W hh=>?_) _ _ _ _ (dK (H0:=iF ops.size s) hs s.length T _ a _ (λj oj _ hj=>by rw[getD_replicate_false] at hj;cases hj) (by rw[hl];exact hB) hC h);obtain⟨rfl,hk⟩:=hh;exact gI _ _ _ _ (eG hs t _ a W hT trivial hk)
theorem aV{K:Act->World->Prop}{i:Nat}{t:rW}{o:Oper}{a:Act}{W:World}(ho:ops[i]? =some o)(v:Value)(hw:Region.wanted o (yielded ops a.tmps)=true)(hr:∀W,C W->(execOp a.eval o).run P W=.ok (.value v) W)(h:fZ P ops C K t (a.put o.dst v) W):fZ P ops C K (.read i t) a W:=
 ⟨o,v,ho,⟨hw,hr⟩,h⟩
theorem b_{K:Act->World->Prop}{i:Nat}{t:rW}{a:Act}{W:World}(h:∃o,ops[i]? =some o/\dB P ops C o (fZ P ops C K t) a W):fZ P ops C K (.one i t) a W:=h
theorem ny{K:Act->World->Prop}{i j:Nat}{t u:rW}{a:Act}{W:World}(h:∃o,ops[i]? =some o/\dB P ops C o (fZ P ops C K t) a W)(h2:∃o,ops[j]? =some o/\dB P ops C o (fZ P ops C K u) a W):fZ P ops C K (.two i t j u) a W:=⟨h,h2⟩
theorem JH{K:Act->World->Prop}{i j k:Nat}{t u v:rW}{a:Act}{W:World}(h:∃o,ops[i]? =some o/\dB P ops C o (fZ P ops C K t) a W)(h2:∃o,ops[j]? =some o/\dB P ops C o (fZ P ops C K u) a W)(h3:∃o,ops[k]? =some o/\dB P ops C o (fZ P ops C K v) a W):fZ P ops C K (.three i t j u k v) a W:=⟨h,h2,h3⟩
theorem d_{K:Act->World->Prop}{i:Nat}{o:Oper}{a:Act}{W:World}(ho:ops[i]? =some o)(f:FuncId)(args:Array Value)(hw:Region.wanted o (yielded ops a.tmps)=true)(hr:(execOp a.eval o).run P W=.ok (.enter f args) W)
 (hc:Calls P f args W (λe w'=>∃v,e=.returned v/\C w'/\K (a.put o.dst v) w')):∃o,ops[i]? =some o/\dB P ops C o K a W:=
 ⟨o,ho,hw,.inr (.inr ⟨f,args,hr,hc⟩)⟩
theorem dw{K:Act->World->Prop}{i:Nat}{o:Oper}{a:Act}{W:World}(ho:ops[i]? =some o)(v:Value)(W':World)(hw:Region.wanted o (yielded ops a.tmps)=true)(hr:(execOp a.eval o).run P W=.ok (.value v) W')(hC:C W')(h:K (a.put o.dst v) W'):∃o,ops[i]? =some o/\dB P ops C o K a W:=
 ⟨o,ho,hw,.inl ⟨v,W',hr,hC,h⟩⟩
theorem gY{K:Act->World->Prop}{i:Nat}{o:Oper}{a:Act}{W:World}(ho:ops[i]? =some o)(W':World)(hw:Region.wanted o (yielded ops a.tmps)=true)(hr:(execOp a.eval o).run P W=.ok .skip W')(hC:C W')(h:K (a.put o.dst undef) W'):∃o,ops[i]? =some o/\dB P ops C o K a W:=
 ⟨o,ho,hw,.inr (.inl ⟨W',hr,hC,h⟩)⟩
end
end Go.Proofs.YtolfphmdmpehdaaGreatDoor
namespace Go.Proofs.YtolfphmdmpehdaaGreatDoor
open Go.RowKit Go.Proofs.YtolfphmdmpehdaaGreatDoor.So
theorem QI{ks:List KV}{X:WV}{ls:List (List aQ)}{F:Int}{w w':World}{v r:Value}(hs:fJ ks X ls F w w' v)(he:Er r F)(h0:r=.nilIface):Wd.aF ks X=0/\ls.length<=200/\∃Y,bI ks X ls ls.length Y/\Wo w' w.heap.size v Y:=by
 rcases hs with⟨hn,-⟩|⟨-,h1,h2,h3⟩
 ·rcases he with⟨h,-⟩|⟨-,h⟩
  ·exact absurd h hn
  ·rw[h] at h0;cases h0
 ·exact⟨h1,h2,h3⟩
theorem mJ{ks:List KV}{X:WV}{ls:List (List aQ)}{Y:WV}(hw:Wd.aF ks X=0)(hl:ls.length<=200)(h:bI ks X ls ls.length Y){c:Nat}(hc:c<=ls.length){F:Int}{w w':World}{v r:Value}(hs:fJ ks X (ls.take c) F w w' v)(he:Er r F):r=.nilIface/\∃A,bI ks X ls c A/\Wo w' w.heap.size v A:=by
 have hlen:(ls.take c).length=c:=by rw[List.length_take];omega
 rcases hs with⟨hn,-,h1|h1|⟨-,-,n,Z,l,p,hl',hf⟩⟩|⟨rfl,h1,h2,A,h3,h4⟩
 ·exact absurd hw h1.1
 ·have:=h1.2.1;rw[hlen] at this;omega
 ·exact absurd ((vY h hc p hl').symm.trans hf).symm hn
 ·refine⟨lZ he,A,?_,h4⟩
  rw[hlen] at h3;exact rU h3 (λi hi=>by rw[List.getElem?_take,if_pos hi])
theorem Aj{ks:List KV}{X A:WV}{ls:List (List aQ)}{Y:WV}(hw:Wd.aF ks X=0)(hl:ls.length<=200)(h:bI ks X ls ls.length Y){c:Nat}(hc:c<=ls.length)(ha:bI ks X ls c A){F:Int}{w w':World}{v r:Value}(hs:fJ ks A (ls.drop c) F w w' v)(he:Er r F):r=.nilIface/\Wo w' w.heap.size v Y:=by
 have hlen:(ls.drop c).length=ls.length-c:=by rw[List.length_drop]
 rcases hs with⟨hn,-,h1|h1|⟨-,-,n,Z,l,p,hl',hf⟩⟩|⟨rfl,h1,h2,B,h3,h4⟩
 ·exact absurd (kZ hw ha).1 h1.1
 ·have:=h1.2.1;rw[hlen] at this;omega
 ·exact absurd ((yP h hc ha p hl').symm.trans hf).symm hn
 ·refine⟨lZ he,?_⟩
  rw[hlen] at h3;have:=rV ha h3;rw[show c+(ls.length-c)=ls.length by omega] at this;rw[jq h this];exact h4
theorem Ak{ks:List KV}{X:WV}{ls:List (List aQ)}{Y:WV}(h:bI ks X ls ls.length Y){l:List aQ}(hl:ls[0]? =some l){w w':World}{v ev r:Value}(hs:vX ks X l w w' v ev)(he:Er r (bF ks X l)):r=.nilIface/\∃A,bI ks X ls 1 A/\Wo w' w.heap.size v A:=by
 have h0:0<ls.length:=(List.getElem?_eq_some_iff.1 hl).1;obtain⟨Z,z1,z2⟩:=ng h 0 (by omega);cases z1;obtain⟨l',e,f⟩:=z2 h0;rw[hl] at e;injection e with e
 subst e;rcases hs with⟨hn,-⟩|⟨-,A,es,h1,h2,-⟩
 ·exact absurd f hn
 ·rw[f] at he
  exact⟨lZ he,A,.turn .zero hl f h1,h2⟩
theorem JJ:Wd.aF SK S3=0:=by decide+kernel
theorem iZ{F:Int}{w w':World}{v r:Value}(hs:fJ SK S3 [[],[]] F w w' v)(he:Er r F):r=.nilIface/\∃A,A.turn=2/\Wo w' w.heap.size v A:=by
 rcases hs with⟨hn,-,h1|h1|⟨-,-,n,Z,l,p,hl',hf⟩⟩|⟨rfl,h1,h2,B,h3,h4⟩
 ·exact absurd JJ h1.1
 ·have:=h1.2.1;simp at this
 ·obtain⟨q1,q2⟩:=kZ JJ p
  have hn2:n<2:=(List.getElem?_eq_some_iff.1 hl').1;have hl0:l=[]:=by
   match n,hn2,hl' with
   |0,_,h=>simp at h;exact h
   |1,_,h=>simp at h;exact h
  subst hl0;have ht:S3.turn=0:=rfl;rw[ht] at q2;exact absurd ((yO q1 (by omega)).symm.trans hf).symm hn
 ·refine⟨lZ he,B,?_,h4⟩
  obtain⟨-,q2⟩:=kZ JJ h3;have ht:S3.turn=0:=rfl;rw[ht] at q2;rw[q2];rfl
theorem mM(w:World):m_ (w.alloc (Obj.cells #[slice none 0 0,slice none 0 0] 61)) (slice (some ⟨w.heap.size,0,none⟩) 2 2) [[],[]]:=by
 have hn:=heap_alloc_new w (Obj.cells #[slice none 0 0,slice none 0 0] 61);have ol:∀W,zD W (slice none 0 0) []:=λW=>⟨none,0,rfl,Nat.le_refl _,by omega,λh=>absurd rfl h⟩
 refine⟨_,_,rfl,by decide,by decide,λ_=>⟨⟨w.heap.size,0,none⟩,rfl,by simp,λi l hl=>?_⟩⟩
 match i,hl with
 |0,hl=>simp at hl;subst hl;exact⟨_,by simp only[World.cell?,Addr.add_lit,hn];rfl,ol _⟩
 |1,hl=>simp at hl;subst hl;exact⟨_,by simp only[World.cell?,Addr.add_lit,hn];rfl,ol _⟩
 |i+2,hl=>simp at hl
end Go.Proofs.YtolfphmdmpehdaaGreatDoor
namespace Go.Proofs.YtolfphmdmpehdaaGreatDoor
open Go.RowKit
theorem qB(u v:Value)(xs ys:List Int)(w:World)(hu:Ro w u xs)(hv:Ro w v ys):
 Calls Tryz.prog 23 #[u,v] w λe w'=>e=.returned (.bool (decide (xs=ys)))/\∃n,w'=w.drewN n:=by
 obtain⟨a,c,rfl,hc1,hc2,ha⟩:=hu;obtain⟨b,d,rfl,hd1,hd2,hb⟩:=hv;have Ha:Hid (Cells w a xs):=ha;have Hb:Hid (Cells w b ys):=hb;clear ha hb;by_cases hl:xs.length=ys.length
 ·have Hl:Hid (xs.length=ys.length):=hl
  rw[<-hl] at hd1 ⊢;clear hl;go_enter Tryz.func23,Tryz.ntmps23;go_wp2_with fail
  go_loopw [5] (λi W=>∃(k q:Nat),k<=xs.length/\i=int i64 (k:Nat)/\xs.take k=ys.take k/\W=w.drewN q) (λi _=>xs.length-(intOf i).toNat)
  case atStart=>exact⟨0,0,Nat.zero_le _,rfl,by simp,rfl⟩
  case round=>
   obtain⟨k,q,hk,rfl,ht,rfl⟩:=hrel;have Ht:Hid (xs.take k=ys.take k):=ht;clear ht;by_cases h0:k=xs.length
   ·subst h0
    go_wp2;go_ret;refine⟨?_,q,rfl⟩;have e:=Ht.out;rw[List.take_of_length_le (Nat.le_refl _),Hl.out,List.take_of_length_le (Nat.le_refl _)] at e;simp[e]
   ·have hkx:k<xs.length:=by omega
    have hky:k<ys.length:=by rw[<-Hl.out];exact hkx
    obtain⟨x,rfl,-,hx⟩:=Ha.out (by intro h;rw[h] at hkx;simp at hkx);obtain⟨y,rfl,-,hy⟩:=Hb.out (by intro h;rw[h] at hky;simp at hky);have cx:=hx k xs[k] (List.getElem?_eq_getElem hkx);have cy:=hy k ys[k] (List.getElem?_eq_getElem hky);have Te:Hid (xs.take (k+1)=ys.take (k+1)↔xs[k]=ys[k]):=by
     unfold Hid;rw[List.take_succ_eq_append_getElem hkx,List.take_succ_eq_append_getElem hky,Ht.out];exact⟨λh=>(List.cons.inj (List.append_cancel_left h)).1,λh=>by rw[h]⟩
    generalize xs[k]=p at *;generalize ys[k]=r at *;clear hx hy;by_cases hpr:p=r
    ·subst hpr
     go_wp2;go_quiet (fail);go_wp2;go_round
     case rel=>exact⟨k+1,q+nq,by omega,by go_num,by first|exact Te.out.2 rfl|exact Te.out.2 trivial,rfl⟩
     case measure=>simp[intOf];omega
    ·go_wp2
     go_quiet (fail);go_wp2;go_ret;refine⟨?_,q+nq,by rw[World.drewN_drewN]⟩;have:xs≠ys:=λh=>hpr (Te.out.1 (by rw[h]))
     simp[this]
 ·go_enter Tryz.func23,Tryz.ntmps23
  go_wp2;go_ret;refine⟨?_,0,rfl⟩;have:xs≠ys:=λh=>hl (by rw[h])
  simp[this]
theorem yU(u v:Value)(W H:Int)(gs os:List Int)(w:World)(hu:Fl w u W H gs os)(hv:Fl w v W H gs os):
 Calls Tryz.prog 46 #[u,v] w λe w'=>e=.returned (.bool true)/\Below w.heap.size w w':=by
 obtain⟨a1,a2,rfl,ha1,ha2⟩:=hu;obtain⟨b1,b2,rfl,hb1,hb2⟩:=hv;have A1:Hid (Ro w a1 gs):=ha1;have A2:Hid (Ro w a2 os):=ha2;have B1:Hid (Ro w b1 gs):=hb1;have B2:Hid (Ro w b2 os):=hb2;clear ha1 ha2 hb1 hb2;go_enter Tryz.func46,Tryz.ntmps46;go_wp2_with fail
 have K0:Below w.heap.size w ((w.alloc (Obj.cells #[int i64 W,int i64 H,a1,a2] 25)).alloc (Obj.cells #[int i64 W,int i64 H,b1,b2] 25)):=((Below.refl _ _).alloc (Nat.le_refl _) _).alloc (by simp) _;have X0:=(Bf.mk' (w:=w) W H a1 a2 rfl).below ((Below.refl _ _).alloc (Nat.le_refl _) (Obj.cells #[int i64 W,int i64 H,b1,b2] 25)) (by simp);have Y0:=Bf.mk' (w:=w.alloc (Obj.cells #[int i64 W,int i64 H,a1,a2] 25)) (z:=w.heap.size+1) W H b1 b2 (by simp);generalize (w.alloc (Obj.cells #[int i64 W,int i64 H,a1,a2] 25)).alloc (Obj.cells #[int i64 W,int i64 H,b1,b2] 25)=w0 at *;refine(qB _ _ gs gs _ (A1.out.below K0) (B1.out.below K0)).mono ?_;rintro e w1 ⟨rfl,q1,hq1⟩;rw[decide_eq_true rfl];have k1:Below w0.heap.size w0 w1:=by rw[hq1];exact _root_.Go.below_drewN (Below.refl _ _) _
 have K1:Below w.heap.size w w1:=K0.trans (k1.mono K0.size);have X1:Hid (Bf w1 w.heap.size W H a1 a2):=X0.below k1 X0.lt;have Y1:Hid (Bf w1 (w.heap.size+1) W H b1 b2):=Y0.below k1 Y0.lt;clear hq1 k1 X0 Y0 K0;obtain⟨x0,x1,x2,x3⟩:=X1.out;obtain⟨y0,y1,y2,y3⟩:=Y1.out;have K1':Hid (Below w.heap.size w w1):=K1;clear K1;go_wp2_with fail
 refine(qB _ _ os os _ (A2.out.below K1'.out) (B2.out.below K1'.out)).mono ?_;rintro e w2 ⟨rfl,q2,hq2⟩;rw[decide_eq_true rfl];have k2:Below w1.heap.size w1 w2:=by rw[hq2];exact _root_.Go.below_drewN (Below.refl _ _) _
 have K2:Hid (Below w.heap.size w w2):=K1'.out.trans (k2.mono K1'.out.size);have X2:Hid (Bf w2 w.heap.size W H a1 a2):=X1.out.below k2 X1.out.lt;have Y2:Hid (Bf w2 (w.heap.size+1) W H b1 b2):=Y1.out.below k2 Y1.out.lt;clear hq2 k2 x0 x1 x2 x3 y0 y1 y2 y3 X1 Y1 K1';obtain⟨x0,x1,x2,x3⟩:=X2.out;obtain⟨y0,y1,y2,y3⟩:=Y2.out;go_wp2;go_ret;exact⟨rfl,K2⟩
theorem Ei(u v:Value)(xs:List Int)(w:World)(hu:Ro w u xs)(hv:Ro w v xs):
 Calls Tryz.prog 23 #[u,v] w λe w'=>e=.returned (.bool true)/\Below w.heap.size w w':=
 (qB u v xs xs w hu hv).mono λe w' ⟨h1,q,h2⟩=>⟨by rw[h1,decide_eq_true rfl],by rw[h2];exact _root_.Go.below_drewN (Below.refl _ _) _⟩
theorem nN(u v:Value)(W:WV)(w:World)(hu:Wl w u W)(hv:Wl w v W):
 Calls Tryz.prog 21 #[u,v] w λe w'=>e=.returned (.bool true)/\Below w.heap.size w w':=by
 obtain⟨u1,u2,u3,u4,u5,rfl,g1,g2,g3,g4,g5⟩:=hu;obtain⟨v1,v2,v3,v4,v5,rfl,k1,k2,k3,k4,k5⟩:=hv;obtain⟨a4,c4,rfl,gl4,gc4,ga4⟩:=g4;obtain⟨b4,d4,rfl,kl4,kc4,ka4⟩:=k4;obtain⟨a5,c5,rfl,gl5,gc5,ga5⟩:=g5;obtain⟨b5,d5,rfl,kl5,kc5,ka5⟩:=k5;have R:=aj (uF g1 g2 g3 k1 k2 k3);have GU:Hid (W.us≠[]->∃x,a4=some x/\x.block<w.heap.size/\∀(i:Nat) k,W.us[i]? =some k->dH w (x.add (i*8)) k):=ga4;have KU:Hid (W.us≠[]->∃x,b4=some x/\x.block<w.heap.size/\∀(i:Nat) k,W.us[i]? =some k->dH w (x.add (i*8)) k):=ka4;have GJ:Hid (W.qs≠[]->∃x,a5=some x/\x.block<w.heap.size/\∀(i:Nat) k,W.qs[i]? =some k->jY w (x.add (i*4)) k):=ga5;have KJ:Hid (W.qs≠[]->∃x,b5=some x/\x.block<w.heap.size/\∀(i:Nat) k,W.qs[i]? =some k->jY w (x.add (i*4)) k):=ka5;have zq:W.us.length<=9223372036854775807:=by omega
 have uz:W.qs.length<=9223372036854775807:=by omega
 clear g1 g2 g3 k1 k2 k3 ga4 ka4 ga5 ka5 gl4 gc4 kl4 kc4 gl5 gc5 kl5 kc5;go_enter Tryz.func21,Tryz.ntmps21;go_wp2_with fail
 have K0:Below w.heap.size w ((w.alloc (Obj.cells #[int i64 W.turn,int i64 W.next,int i64 W.wide,int i64 W.high,u1,u2,u3,slice a4 W.us.length c4,slice a5 W.qs.length c5] 29)).alloc (Obj.cells #[int i64 W.turn,int i64 W.next,int i64 W.wide,int i64 W.high,v1,v2,v3,slice b4 W.us.length d4,slice b5 W.qs.length d5] 29)):=((Below.refl _ _).alloc (Nat.le_refl _) _).alloc (by simp) _;have X0:=(Bw.mk' (w:=w) W u1 u2 u3 (slice a4 W.us.length c4) (slice a5 W.qs.length c5) rfl).below ((Below.refl _ _).alloc (Nat.le_refl _) (Obj.cells #[int i64 W.turn,int i64 W.next,int i64 W.wide,int i64 W.high,v1,v2,v3,slice b4 W.us.length d4,slice b5 W.qs.length d5] 29)) (by simp);have Y0:=Bw.mk' (w:=w.alloc (Obj.cells #[int i64 W.turn,int i64 W.next,int i64 W.wide,int i64 W.high,u1,u2,u3,slice a4 W.us.length c4,slice a5 W.qs.length c5] 29)) (z:=w.heap.size+1) W v1 v2 v3 (slice b4 W.us.length d4) (slice b5 W.qs.length d5) (by simp);generalize ((w.alloc (Obj.cells #[int i64 W.turn,int i64 W.next,int i64 W.wide,int i64 W.high,u1,u2,u3,slice a4 W.us.length c4,slice a5 W.qs.length c5] 29)).alloc (Obj.cells #[int i64 W.turn,int i64 W.next,int i64 W.wide,int i64 W.high,v1,v2,v3,slice b4 W.us.length d4,slice b5 W.qs.length d5] 29))=w0 at *;refine(yU _ _ W.wide W.high W.gs W.os w0 ⟨_,_,rfl,R.out.1.below K0,R.out.2.1.below K0⟩ ⟨_,_,rfl,R.out.2.2.2.1.below K0,R.out.2.2.2.2.1.below K0⟩).mono ?_;rintro e w1 ⟨rfl,hb1⟩;have K1:Hid (Below w.heap.size w w1):=K0.trans (hb1.mono K0.size);have X1:Hid (Bw w1 w.heap.size W u1 u2 u3 (slice a4 W.us.length c4) (slice a5 W.qs.length c5)):=X0.below hb1 X0.lt;have Y1:Hid (Bw w1 (w.heap.size+1) W v1 v2 v3 (slice b4 W.us.length d4) (slice b5 W.qs.length d5)):=Y0.below hb1 Y0.lt;clear K0 X0 Y0 hb1;obtain⟨x0,x1,x2,x3,x4,x5,x6,x7,x8⟩:=X1.out;obtain⟨y0,y1,y2,y3,y4,y5,y6,y7,y8⟩:=Y1.out;go_wp2_with fail
 refine(Ei _ _ W.gold w1 (R.out.2.2.1.below K1.out) (R.out.2.2.2.2.2.below K1.out)).mono ?_;rintro e w2 ⟨rfl,hb2⟩;have K2':Hid (Below w.heap.size w w2):=K1.out.trans (hb2.mono K1.out.size);have X2:Hid (Bw w2 w.heap.size W u1 u2 u3 (slice a4 W.us.length c4) (slice a5 W.qs.length c5)):=X1.out.below hb2 X1.out.lt;have Y2:Hid (Bw w2 (w.heap.size+1) W v1 v2 v3 (slice b4 W.us.length d4) (slice b5 W.qs.length d5)):=Y1.out.below hb2 Y1.out.lt;clear hb2 x0 x1 x2 x3 x4 x5 x6 x7 x8 y0 y1 y2 y3 y4 y5 y6 y7 y8 X1 Y1 K1;obtain⟨x0,x1,x2,x3,x4,x5,x6,x7,x8⟩:=X2.out;obtain⟨y0,y1,y2,y3,y4,y5,y6,y7,y8⟩:=Y2.out;go_wp2;clear x0 x1 x2 x3 x4 x5 x6 x7 x8 y0 y1 y2 y3 y4 y5 y6 y7 y8;go_loopw [7] (λi W'=>∃k:Nat,k<=W.us.length/\i=int i64 (k:Nat)/\Bw W' w.heap.size W u1 u2 u3 (slice a4 W.us.length c4) (slice a5 W.qs.length c5)/\Bw W' (w.heap.size+1) W v1 v2 v3 (slice b4 W.us.length d4) (slice b5 W.qs.length d5)/\Below w.heap.size w W') (λi _=>W.us.length-(intOf i).toNat)
 case atStart=>exact⟨0,Nat.zero_le _,rfl,X2.out,Y2.out,K2'.out⟩
 case round=>
  obtain⟨k,hk,rfl,hX,hY,hB⟩:=hrel;have XB:Hid (Bw wr w.heap.size W u1 u2 u3 (slice a4 W.us.length c4) (slice a5 W.qs.length c5)):=hX;have YB:Hid (Bw wr (w.heap.size+1) W v1 v2 v3 (slice b4 W.us.length d4) (slice b5 W.qs.length d5)):=hY;have B:Hid (Below w.heap.size w wr):=hB;clear hX hY hB X2 Y2 K2';by_cases h0:k=W.us.length
  ·subst h0
   have x7:=XB.out.c7;clear hk;go_wp2;clear x7;go_loopw [8] (λi W'=>∃k:Nat,k<=W.qs.length/\i=int i64 (k:Nat)/\Bw W' w.heap.size W u1 u2 u3 (slice a4 W.us.length c4) (slice a5 W.qs.length c5)/\Bw W' (w.heap.size+1) W v1 v2 v3 (slice b4 W.us.length d4) (slice b5 W.qs.length d5)/\Below w.heap.size w W') (λi _=>W.qs.length-(intOf i).toNat)
   case atStart=>exact⟨0,Nat.zero_le _,rfl,XB.out,YB.out,B.out⟩
   case round=>
    obtain⟨k,hk,rfl,hX,hY,hB⟩:=hrel;have XB:Hid (Bw wr w.heap.size W u1 u2 u3 (slice a4 W.us.length c4) (slice a5 W.qs.length c5)):=hX;have YB:Hid (Bw wr (w.heap.size+1) W v1 v2 v3 (slice b4 W.us.length d4) (slice b5 W.qs.length d5)):=hY;have B:Hid (Below w.heap.size w wr):=hB;clear hX hY hB;by_cases h0:k=W.qs.length
    ·subst h0
     have x8:=XB.out.c8;clear hk;go_wp2;go_ret;exact⟨rfl,B.out⟩
    ·have hlt:k<W.qs.length:=by omega
     have VZ:((k:Nat):Int)<(W.qs.length:Nat):=by omega
     obtain⟨o,ho⟩:∃o,W.qs[k]? =some o:=⟨_,List.getElem?_eq_getElem hlt⟩;have hne:W.qs≠[]:=by intro e;rw[e] at hlt;simp at hlt
     obtain⟨x,rfl,hx,hxc⟩:=GJ.out hne;obtain⟨y,rfl,hy,TS⟩:=KJ.out hne;obtain⟨q0,q1,q2,q3⟩:=(hxc k o ho).below B.out (by rw[add_block];exact hx);obtain⟨r0,r1,r2,r3⟩:=(TS k o ho).below B.out (by rw[add_block];exact hy);have x8:=XB.out.c8;have y8:=YB.out.c8;clear hxc TS hne ho hx hy;go_wp2;go_quiet (fail);go_wp2;go_round
     case rel=>exact⟨k+1,by omega,by go_num,XB.out.below (_root_.Go.below_drewN (Below.refl _ _) _) XB.out.lt,YB.out.below (_root_.Go.below_drewN (Below.refl _ _) _) YB.out.lt,_root_.Go.below_drewN B.out _⟩
     case measure=>simp[intOf];omega
  ·have hlt:k<W.us.length:=by omega
   have VZ:((k:Nat):Int)<(W.us.length:Nat):=by omega
   obtain⟨o,ho⟩:∃o,W.us[k]? =some o:=⟨_,List.getElem?_eq_getElem hlt⟩;have hne:W.us≠[]:=by intro e;rw[e] at hlt;simp at hlt
   obtain⟨x,rfl,hx,hxc⟩:=GU.out hne;obtain⟨y,rfl,hy,TS⟩:=KU.out hne;obtain⟨q0,q1,q2,q3,q4,q5,q6,q7⟩:=(hxc k o ho).below B.out (by rw[add_block];exact hx);obtain⟨r0,r1,r2,r3,r4,r5,r6,r7⟩:=(TS k o ho).below B.out (by rw[add_block];exact hy);have x7:=XB.out.c7;have y7:=YB.out.c7;clear hxc TS hne ho hx hy;go_wp2;go_quiet (fail);go_wp2;go_round
   case rel=>exact⟨k+1,by omega,by go_num,XB.out.below (_root_.Go.below_drewN (Below.refl _ _) _) XB.out.lt,YB.out.below (_root_.Go.below_drewN (Below.refl _ _) _) YB.out.lt,_root_.Go.below_drewN B.out _⟩
   case measure=>simp[intOf];omega
open Go.ChangeAt Go.ChangeShapes Go.WideShapes
theorem JK{H:Type}:∀d:DataW H,1<=Rows.uptoBulk d
 | .lit (.string bytes)=>by simp[Rows.uptoBulk]
 | .lit (.int _ _)=>by simp[Rows.uptoBulk]
 | .lit (.bool _)=>by simp[Rows.uptoBulk]
 | .lit (.float .f32 _)=>by simp[Rows.uptoBulk]
 | .lit (.float .f64 _)=>by simp[Rows.uptoBulk]
 | .lit .nil=>by simp[Rows.uptoBulk]
 | .nil=>by simp[Rows.uptoBulk]
 | .ptr d=>by simp[Rows.uptoBulk]
 | .slice _ _=>by simp[Rows.uptoBulk]
 | .agg _=>by simp[Rows.uptoBulk]
 | .iface _ _=>by simp[Rows.uptoBulk]
 | .map _=>by simp[Rows.uptoBulk]
 | .held _=>by simp[Rows.uptoBulk]
theorem wB{H:Type}:∀ds:List (DataW H),ds.length<=Rows.uptoBulkAll ds
 |[]=>by simp
 |d::ds=>by
  have h1:=JK d;have h2:=wB ds;simp only[Rows.uptoBulkAll,List.length_cons];omega
theorem lC{H:Type}(es sp:List (DataW H)):es.length<=Rows.uptoBulk (.slice es sp):=by
 have:=wB es;simp only[Rows.uptoBulk];omega
theorem in64_of_wf{n:Int}(h:(Lit.int i64 n).wf=true):Wd.In64 n:=by
 unfold Wd.In64;simp only[Lit.wf,Bool.and_eq_true,decide_eq_true_eq] at h;have h1:IntKind.i64.min= -9223372036854775808:=by decide
 have h2:IntKind.i64.max=9223372036854775807:=by decide
 omega
theorem lD{H:Type}{enc:TypeId×Value->H}{W:World}{base:Nat}{held:Bool}{fuel:Nat}{v:Value}{y:DataW H×List MemPlace}(h:DataW.trod enc Tryz.prog W base (λ_=>true) held fuel 23 [v]=some y):
 ∃zs,Ro W v zs/\(∀n∈zs,Wd.In64 n)/\zs.length<=Rows.uptoBulk y.1:=by
 rcases open_ints Tryz.underlying23 Tryz.underlying3 (by kernel_rfl) h with⟨hcs,rfl⟩|⟨x,l,c,zs,hcs,_,hl,hm,hz,rfl,hcell,hwz⟩
 ·simp at hcs
  subst hcs;exact⟨_,zk.ro (.inl ⟨rfl,rfl,rfl,rfl⟩),by simp,by simp⟩
 ·simp at hcs
  subst hcs;refine⟨_,zk.ro (zs:=zs) (.inr ⟨_,rfl,hl,hm,by simpa using hz,hcell,hwz⟩),λn hn=>in64_of_wf (hwz n (List.mem_of_mem_take hn)),?_⟩;have:=lC (H:=H) (lits .i64 (zs.take l)) (lits .i64 (zs.drop l));simpa[lits] using this
theorem NI:∃f0 f1 f2 f3 f4 f5 f6 f7:Field,Tryz.prog.underlying 74=some (.struct #[f0,f1,f2,f3,f4,f5,f6,f7])/\f0.offset=0/\f0.type=3/\f1.offset=1/\f1.type=3/\f2.offset=2/\f2.type=3/\f3.offset=3/\f3.type=3/\f4.offset=4/\f4.type=3/\f5.offset=5/\f5.type=3/\f6.offset=6/\f6.type=3/\f7.offset=7/\f7.type=3:=⟨_,_,_,_,_,_,_,_,Tryz.underlying74,rfl,rfl,rfl,rfl,rfl,rfl,rfl,rfl,rfl,rfl,rfl,rfl,rfl,rfl,rfl,rfl⟩
theorem Ej{H:Type}{enc:TypeId×Value->H}{W:World}{base:Nat}{held:Bool}{fuel:Nat}{cs:List Value}{y:DataW H×List MemPlace}(h:DataW.trod enc Tryz.prog W base (λ_=>true) held fuel 74 cs=some y):
 ∃k:aB,cs=[.int .i64 k.id,.int .i64 k.ay,.int .i64 k.kind,.int .i64 k.at_,.int .i64 k.life,.int .i64 k.load,.int .i64 k.task,.int .i64 k.goal]/\∀n∈Wd.uG k,Wd.In64 n:=by
 obtain⟨f0,f1,f2,f3,f4,f5,f6,f7,he,o0,t0,o1,t1,o2,t2,o3,t3,o4,t4,o5,t5,o6,t6,o7,t7⟩:=NI;obtain⟨xs,m,-,-,hlen,hxl,hf⟩:=DataW.trod_struct he h;have qw:Tryz.prog.cellsOf 3=1:=by kernel_rfl
 have uj:Tryz.prog.cellsOf 74=8:=by kernel_rfl
 rw[uj] at hlen
 match cs,hlen with
 |[v0,v1,v2,v3,v4,v5,v6,v7],_=>
  have hx:xs.length=8:=hxl
  match xs,hx with
  |[x0,x1,x2,x3,x4,x5,x6,x7],_=>
   have g0:=hf 0 f0 rfl;rw[o0,t0,qw] at g0;have g1:=hf 1 f1 rfl;rw[o1,t1,qw] at g1;have g2:=hf 2 f2 rfl;rw[o2,t2,qw] at g2;have g3:=hf 3 f3 rfl;rw[o3,t3,qw] at g3;have g4:=hf 4 f4 rfl;rw[o4,t4,qw] at g4;have g5:=hf 5 f5 rfl;rw[o5,t5,qw] at g5;have g6:=hf 6 f6 rfl;rw[o6,t6,qw] at g6;have g7:=hf 7 f7 rfl;rw[o7,t7,qw] at g7;obtain⟨m0,e0,-,w0⟩:=DataW.trod_int Tryz.underlying3 g0;obtain⟨m1,e1,-,w1⟩:=DataW.trod_int Tryz.underlying3 g1;obtain⟨m2,e2,-,w2⟩:=DataW.trod_int Tryz.underlying3 g2;obtain⟨m3,e3,-,w3⟩:=DataW.trod_int Tryz.underlying3 g3;obtain⟨m4,e4,-,w4⟩:=DataW.trod_int Tryz.underlying3 g4;obtain⟨m5,e5,-,w5⟩:=DataW.trod_int Tryz.underlying3 g5;obtain⟨m6,e6,-,w6⟩:=DataW.trod_int Tryz.underlying3 g6;obtain⟨m7,e7,-,w7⟩:=DataW.trod_int Tryz.underlying3 g7;simp at e0 e1 e2 e3 e4 e5 e6 e7;subst e0 e1 e2 e3 e4 e5 e6 e7;refine⟨⟨m0,m1,m2,m3,m4,m5,m6,m7⟩,rfl,?_⟩;intro n hn;simp only[Wd.uG,List.mem_cons,List.not_mem_nil,or_false] at hn;rcases hn with rfl|rfl|rfl|rfl|rfl|rfl|rfl|rfl
   ·exact in64_of_wf w0
   ·exact in64_of_wf w1
   ·exact in64_of_wf w2
   ·exact in64_of_wf w3
   ·exact in64_of_wf w4
   ·exact in64_of_wf w5
   ·exact in64_of_wf w6
   ·exact in64_of_wf w7
theorem yV{H:Type}{enc:TypeId×Value->H}{W:World}{base:Nat}{held:Bool}{fuel:Nat}{v:Value}{y:DataW H×List MemPlace}(h:DataW.trod enc Tryz.prog W base (λ_=>true) held fuel 26 [v]=some y):
 ∃ks:List aB,kH W v ks/\(∀k∈ks,∀n∈Wd.uG k,Wd.In64 n)/\ks.length<=Rows.uptoBulk y.1:=by
 have uj:Tryz.prog.cellsOf 74=8:=by kernel_rfl
 rcases Go.Deep.open_slice Tryz.underlying26 h with⟨hcs,-⟩|⟨a,len,cap,m,q,D,Pl,hcs,hb,hl,hm,hmm,rfl,hx⟩
 ·simp at hcs
  subst hcs;exact⟨[],⟨none,0,rfl,Nat.le_refl _,by omega,λh=>absurd rfl h⟩,by simp,by simp⟩
 ·simp at hcs
  subst hcs;have hlm:len<=m:=by rw[hmm];simp;exact hl
  have each:∀i,i<len->∃k:aB,dH W (a.add (i*8)) k/\(∀n∈Wd.uG k,Wd.In64 n):=by
   intro i hi;obtain⟨cs',h1,h2⟩:=hx i (by omega);obtain⟨k,rfl,hk⟩:=Ej h2;rw[uj] at h1;obtain⟨-,-,hcell⟩:=World.cells?_some h1;refine⟨k,?_,hk⟩;generalize a.add (i*8)=y at *;exact⟨hcell 0 (by decide),hcell 1 (by decide),hcell 2 (by decide),hcell 3 (by decide),hcell 4 (by decide),hcell 5 (by decide),hcell 6 (by decide),hcell 7 (by decide)⟩
  have inh:Inhabited aB:=⟨⟨0,0,0,0,0,0,0,0⟩⟩;obtain⟨q,hq⟩:=Go.Deep.choose_lt each;refine⟨(List.range len).map q,⟨some a,cap,by simp,by simpa using hl,by unfold maxLen at hm;omega,λhn=>⟨a,rfl,?_,λi k hk=>?_⟩⟩,?_,?_⟩
  ·have h0:0<len:=by
    rcases Nat.eq_zero_or_pos len with h|h
    ·subst h;simp at hn
    ·exact h
   have:=(hq 0 h0).1.lt;rwa[add_block] at this
  ·have hi:i<len:=by
    have:=(List.getElem?_eq_some_iff.1 hk).1;simpa using this
   rw[List.getElem?_map,List.getElem?_range hi] at hk;injection hk with hk
   subst hk;exact(hq i hi).1
  ·intro k hk
   obtain⟨i,hi,rfl⟩:=List.mem_map.1 hk;exact(hq i (List.mem_range.1 hi)).2
  ·have:=lC ((List.range len).map D) ((List.range (m-len)).map λj=>D (len+j))
   simpa using this
theorem NJ:∃f0 f1 f2 f3:Field,Tryz.prog.underlying 93=some (.struct #[f0,f1,f2,f3])/\f0.offset=0/\f0.type=3/\f1.offset=1/\f1.type=3/\f2.offset=2/\f2.type=3/\f3.offset=3/\f3.type=3:=⟨_,_,_,_,Tryz.underlying93,rfl,rfl,rfl,rfl,rfl,rfl,rfl,rfl⟩
theorem Em{H:Type}{enc:TypeId×Value->H}{W:World}{base:Nat}{held:Bool}{fuel:Nat}{cs:List Value}{y:DataW H×List MemPlace}(h:DataW.trod enc Tryz.prog W base (λ_=>true) held fuel 93 cs=some y):
 ∃k:aU,cs=[.int .i64 k.ay,.int .i64 k.unit,.int .i64 k.kind,.int .i64 k.left]/\∀n∈Wd.uH k,Wd.In64 n:=by
 obtain⟨f0,f1,f2,f3,he,o0,t0,o1,t1,o2,t2,o3,t3⟩:=NJ;obtain⟨xs,m,-,-,hlen,hxl,hf⟩:=DataW.trod_struct he h;have qw:Tryz.prog.cellsOf 3=1:=by kernel_rfl
 have uj:Tryz.prog.cellsOf 93=4:=by kernel_rfl
 rw[uj] at hlen
 match cs,hlen with
 |[v0,v1,v2,v3],_=>
  have hx:xs.length=4:=hxl
  match xs,hx with
  |[x0,x1,x2,x3],_=>
   have g0:=hf 0 f0 rfl;rw[o0,t0,qw] at g0;have g1:=hf 1 f1 rfl;rw[o1,t1,qw] at g1;have g2:=hf 2 f2 rfl;rw[o2,t2,qw] at g2;have g3:=hf 3 f3 rfl;rw[o3,t3,qw] at g3;obtain⟨m0,e0,-,w0⟩:=DataW.trod_int Tryz.underlying3 g0;obtain⟨m1,e1,-,w1⟩:=DataW.trod_int Tryz.underlying3 g1;obtain⟨m2,e2,-,w2⟩:=DataW.trod_int Tryz.underlying3 g2;obtain⟨m3,e3,-,w3⟩:=DataW.trod_int Tryz.underlying3 g3;simp at e0 e1 e2 e3;subst e0 e1 e2 e3;refine⟨⟨m0,m1,m2,m3⟩,rfl,?_⟩;intro n hn;simp only[Wd.uH,List.mem_cons,List.not_mem_nil,or_false] at hn;rcases hn with rfl|rfl|rfl|rfl
   ·exact in64_of_wf w0
   ·exact in64_of_wf w1
   ·exact in64_of_wf w2
   ·exact in64_of_wf w3
theorem yX{H:Type}{enc:TypeId×Value->H}{W:World}{base:Nat}{held:Bool}{fuel:Nat}{v:Value}{y:DataW H×List MemPlace}(h:DataW.trod enc Tryz.prog W base (λ_=>true) held fuel 27 [v]=some y):
 ∃ks:List aU,JQ W v ks/\(∀k∈ks,∀n∈Wd.uH k,Wd.In64 n)/\ks.length<=Rows.uptoBulk y.1:=by
 have uj:Tryz.prog.cellsOf 93=4:=by kernel_rfl
 rcases Go.Deep.open_slice Tryz.underlying27 h with⟨hcs,-⟩|⟨a,len,cap,m,q,D,Pl,hcs,hb,hl,hm,hmm,rfl,hx⟩
 ·simp at hcs
  subst hcs;exact⟨[],⟨none,0,rfl,Nat.le_refl _,by omega,λh=>absurd rfl h⟩,by simp,by simp⟩
 ·simp at hcs
  subst hcs;have hlm:len<=m:=by rw[hmm];simp;exact hl
  have each:∀i,i<len->∃k:aU,jY W (a.add (i*4)) k/\(∀n∈Wd.uH k,Wd.In64 n):=by
   intro i hi;obtain⟨cs',h1,h2⟩:=hx i (by omega);obtain⟨k,rfl,hk⟩:=Em h2;rw[uj] at h1;obtain⟨-,-,hcell⟩:=World.cells?_some h1;refine⟨k,?_,hk⟩;generalize a.add (i*4)=y at *;exact⟨hcell 0 (by decide),hcell 1 (by decide),hcell 2 (by decide),hcell 3 (by decide)⟩
  have inh:Inhabited aU:=⟨⟨0,0,0,0⟩⟩;obtain⟨q,hq⟩:=Go.Deep.choose_lt each;refine⟨(List.range len).map q,⟨some a,cap,by simp,by simpa using hl,by unfold maxLen at hm;omega,λhn=>⟨a,rfl,?_,λi k hk=>?_⟩⟩,?_,?_⟩
  ·have h0:0<len:=by
    rcases Nat.eq_zero_or_pos len with h|h
    ·subst h;simp at hn
    ·exact h
   have:=(hq 0 h0).1.lt;rwa[add_block] at this
  ·have hi:i<len:=by
    have:=(List.getElem?_eq_some_iff.1 hk).1;simpa using this
   rw[List.getElem?_map,List.getElem?_range hi] at hk;injection hk with hk
   subst hk;exact(hq i hi).1
  ·intro k hk
   obtain⟨i,hi,rfl⟩:=List.mem_map.1 hk;exact(hq i (List.mem_range.1 hi)).2
  ·have:=lC ((List.range len).map D) ((List.range (m-len)).map λj=>D (len+j))
   simpa using this
theorem yY:∃f0 f1 f2 f3 f4 f5:Field,Tryz.prog.underlying 29=some (.struct #[f0,f1,f2,f3,f4,f5])/\f0.offset=0/\f0.type=3/\f1.offset=1/\f1.type=3/\f2.offset=2/\f2.type=25/\f3.offset=6/\f3.type=23/\f4.offset=7/\f4.type=26/\f5.offset=8/\f5.type=27:=⟨_,_,_,_,_,_,Tryz.underlying29,rfl,rfl,rfl,rfl,rfl,rfl,rfl,rfl,rfl,rfl,rfl,rfl⟩
theorem yZ:∃f0 f1 f2 f3:Field,Tryz.prog.underlying 25=some (.struct #[f0,f1,f2,f3])/\f0.offset=0/\f0.type=3/\f1.offset=1/\f1.type=3/\f2.offset=2/\f2.type=23/\f3.offset=3/\f3.type=23:=⟨_,_,_,_,Tryz.underlying25,rfl,rfl,rfl,rfl,rfl,rfl,rfl,rfl⟩
theorem zf{w:World}{v:Value}{xs:List Int}(h:Ro w v xs):Wd.In64 (xs.length:Int):=by
 obtain⟨a,c,-,h1,h2,-⟩:=h;unfold Wd.In64;omega
theorem uy{H:Type}{enc:TypeId×Value->H}{W:World}{base:Nat}{held:Bool}{fuel:Nat}{cs:List Value}{y:DataW H×List MemPlace}(h:DataW.trod enc Tryz.prog W base (λ_=>true) held fuel 29 cs=some y):
 ∃X:WV,Wl W (.agg cs.toArray) X/\(∀n∈Wd.nums X,Wd.In64 n)/\(Rows.uptoBulk y.1<=1048576->Ez X):=by
 obtain⟨f0,f1,f2,f3,f4,f5,he,o0,t0,o1,t1,o2,t2,o3,t3,o4,t4,o5,t5⟩:=yY;obtain⟨xs,m,-,rfl,hlen,hxl,hf⟩:=DataW.trod_struct he h;have qw:Tryz.prog.cellsOf 3=1:=by kernel_rfl
 have YK:Tryz.prog.cellsOf 25=4:=by kernel_rfl
 have V_:Tryz.prog.cellsOf 23=1:=by kernel_rfl
 have YM:Tryz.prog.cellsOf 26=1:=by kernel_rfl
 have YN:Tryz.prog.cellsOf 27=1:=by kernel_rfl
 have uj:Tryz.prog.cellsOf 29=9:=by kernel_rfl
 rw[uj] at hlen
 match cs,hlen with
 |[v0,v1,v2,v3,v4,v5,v6,v7,v8],_=>
  have hx:xs.length=6:=hxl
  match xs,hx with
  |[x0,x1,x2,x3,x4,x5],_=>
   have g0:=hf 0 f0 rfl;rw[o0,t0,qw] at g0;have g1:=hf 1 f1 rfl;rw[o1,t1,qw] at g1;have g2:=hf 2 f2 rfl;rw[o2,t2,YK] at g2;have g3:=hf 3 f3 rfl;rw[o3,t3,V_] at g3;have g4:=hf 4 f4 rfl;rw[o4,t4,YM] at g4;have g5:=hf 5 f5 rfl;rw[o5,t5,YN] at g5;obtain⟨m0,e0,-,w0⟩:=DataW.trod_int Tryz.underlying3 g0;obtain⟨m1,e1,-,w1⟩:=DataW.trod_int Tryz.underlying3 g1;obtain⟨r0,r1,r2,r3,he',p0,s0,p1,s1,p2,s2,p3,s3⟩:=yZ;obtain⟨ys,m',-,rfl,hlen',hyl,hg⟩:=DataW.trod_struct he' g2;have hy:ys.length=4:=hyl
   match ys,hy with
   |[y0,y1,y2,y3],_=>
    have k0:=hg 0 r0 rfl;rw[p0,s0,qw] at k0;have k1:=hg 1 r1 rfl;rw[p1,s1,qw] at k1;have k2:=hg 2 r2 rfl;rw[p2,s2,V_] at k2;have k3:=hg 3 r3 rfl;rw[p3,s3,V_] at k3;obtain⟨m2,e2,-,w2⟩:=DataW.trod_int Tryz.underlying3 k0;obtain⟨m3,e3,-,w3⟩:=DataW.trod_int Tryz.underlying3 k1;simp at e0 e1 e2 e3;subst e0 e1 e2 e3;obtain⟨gs,hgs,igs,Zu⟩:=lD k2;obtain⟨os,hos,YO,Zv⟩:=lD k3;obtain⟨gold,OJ,TU,Xn⟩:=lD g3;obtain⟨us,hus,YP,Zw⟩:=yV g4;obtain⟨qs,NT,YQ,Zy⟩:=yX g5;have lu:Wd.In64 (us.length:Int):=by
     obtain⟨a,c,-,h1,h2,-⟩:=hus;unfold Wd.In64;omega
    have lq:Wd.In64 (qs.length:Int):=by
     obtain⟨a,c,-,h1,h2,-⟩:=NT;unfold Wd.In64;omega
    refine⟨⟨m0,m1,m2,m3,gs,os,gold,us,qs⟩,⟨_,_,_,_,_,rfl,hgs,hos,OJ,hus,NT⟩,?_,?_⟩
    ·intro n hn
     simp only[Wd.nums,List.mem_append,List.mem_cons,List.not_mem_nil,or_false,List.mem_flatMap] at hn;rcases hn with(((((rfl|rfl|rfl|rfl)|(rfl|hn))|(rfl|hn))|(rfl|hn))|(rfl|⟨u,hu,hn⟩))|(rfl|⟨u,hu,hn⟩)
     ·exact in64_of_wf w0
     ·exact in64_of_wf w1
     ·exact in64_of_wf w2
     ·exact in64_of_wf w3
     ·exact zf hgs
     ·exact igs _ hn
     ·exact zf hos
     ·exact YO _ hn
     ·exact zf OJ
     ·exact TU _ hn
     ·exact lu
     ·exact YP u hu n hn
     ·exact lq
     ·exact YQ u hu n hn
    ·intro hb
     simp only[Rows.uptoBulk,Rows.uptoBulkAll,List.map_cons,List.map_nil] at hb;exact⟨by simp only;omega,by simp only;omega,by simp only;omega,by simp only;omega,by simp only;omega⟩
theorem JM{H:Type}{enc:TypeId×Value->H}{W:World}{base b0:Nat}{held:Bool}{v:Value}{d:DataW H}{p:List MemPlace}(hv:Value.okWide Tryz.prog W .any b0 29 v)(h:DataW.Trod enc Tryz.prog W base (λ_=>true) held 29 v d p):
 ∃X:WV,Wl W v X/\(∀n∈Wd.nums X,Wd.In64 n)/\(Rows.uptoBulk d<=1048576->Ez X):=by
 obtain⟨cs,rfl,hsz⟩:=okWide_struct Tryz.underlying29 hv;obtain⟨fuel,hf⟩:=h;have:=uy hf;simpa[Value.cells] using this
theorem wC:∃f0 f1 f2 f3 f4 f5 f6 f7 f8 f9 f10:Field,Tryz.prog.underlying 77=some (.struct #[f0,f1,f2,f3,f4,f5,f6,f7,f8,f9,f10])/\
 f0.offset=0/\f0.type=9/\f1.offset=1/\f1.type=3/\f2.offset=2/\f2.type=3/\f3.offset=3/\f3.type=3/\f4.offset=4/\f4.type=3/\f5.offset=5/\f5.type=3/\f6.offset=6/\f6.type=3/\f7.offset=7/\f7.type=3/\f8.offset=8/\f8.type=3/\f9.offset=9/\f9.type=4/\f10.offset=10/\f10.type=4:=⟨_,_,_,_,_,_,_,_,_,_,_,Tryz.underlying77,rfl,rfl,rfl,rfl,rfl,rfl,rfl,rfl,rfl,rfl,rfl,rfl,rfl,rfl,rfl,rfl,rfl,rfl,rfl,rfl,rfl,rfl⟩
theorem Eo{H:Type}{enc:TypeId×Value->H}{W:World}{base:Nat}{held:Bool}{fuel:Nat}{cs:List Value}{y:DataW H×List MemPlace}(h:DataW.trod enc Tryz.prog W base (λ_=>true) held fuel 77 cs=some y):
 ∃k:KV,cs=[.string k.b,.int .i64 k.n0,.int .i64 k.n1,.int .i64 k.n2,.int .i64 k.n3,.int .i64 k.n4,.int .i64 k.n5,.int .i64 k.n6,.int .i64 k.n7,.bool k.f,.bool k.t]/\k.b.size<=maxLen:=by
 obtain⟨f0,f1,f2,f3,f4,f5,f6,f7,f8,f9,f10,he,o0,t0,o1,t1,o2,t2,o3,t3,o4,t4,o5,t5,o6,t6,o7,t7,o8,t8,o9,t9,o10,t10⟩:=wC;obtain⟨xs,n,-,-,hlen,hxl,hf⟩:=DataW.trod_struct he h;have cs9:Tryz.prog.cellsOf 9=1:=by kernel_rfl
 have cs3:Tryz.prog.cellsOf 3=1:=by kernel_rfl
 have cs4:Tryz.prog.cellsOf 4=1:=by kernel_rfl
 have uj:Tryz.prog.cellsOf 77=11:=by kernel_rfl
 rw[uj] at hlen
 match cs,hlen with
 |[v0,v1,v2,v3,v4,v5,v6,v7,v8,v9,v10],_=>
  have hx11:xs.length=11:=hxl
  match xs,hx11 with
  |[x0,x1,x2,x3,x4,x5,x6,x7,x8,x9,x10],_=>
   have g0:=hf 0 f0 rfl;rw[o0,t0,cs9] at g0;have g1:=hf 1 f1 rfl;rw[o1,t1,cs3] at g1;have g2:=hf 2 f2 rfl;rw[o2,t2,cs3] at g2;have g3:=hf 3 f3 rfl;rw[o3,t3,cs3] at g3;have g4:=hf 4 f4 rfl;rw[o4,t4,cs3] at g4;have g5:=hf 5 f5 rfl;rw[o5,t5,cs3] at g5;have g6:=hf 6 f6 rfl;rw[o6,t6,cs3] at g6;have g7:=hf 7 f7 rfl;rw[o7,t7,cs3] at g7;have g8:=hf 8 f8 rfl;rw[o8,t8,cs3] at g8;have g9:=hf 9 f9 rfl;rw[o9,t9,cs4] at g9;have g10:=hf 10 f10 rfl;rw[o10,t10,cs4] at g10;obtain⟨b,e0,-,hb⟩:=DataW.trod_string Tryz.underlying9 g0;obtain⟨m1,e1,-,-⟩:=DataW.trod_int Tryz.underlying3 g1;obtain⟨m2,e2,-,-⟩:=DataW.trod_int Tryz.underlying3 g2;obtain⟨m3,e3,-,-⟩:=DataW.trod_int Tryz.underlying3 g3;obtain⟨m4,e4,-,-⟩:=DataW.trod_int Tryz.underlying3 g4;obtain⟨m5,e5,-,-⟩:=DataW.trod_int Tryz.underlying3 g5;obtain⟨m6,e6,-,-⟩:=DataW.trod_int Tryz.underlying3 g6;obtain⟨m7,e7,-,-⟩:=DataW.trod_int Tryz.underlying3 g7;obtain⟨m8,e8,-,-⟩:=DataW.trod_int Tryz.underlying3 g8;obtain⟨bf,e9,-⟩:=DataW.trod_bool Tryz.underlying4 g9;obtain⟨bt,e10,-⟩:=DataW.trod_bool Tryz.underlying4 g10;simp at e0 e1 e2 e3 e4 e5 e6 e7 e8 e9 e10;subst e0 e1 e2 e3 e4 e5 e6 e7 e8 e9 e10;exact⟨⟨b,m1,m2,m3,m4,m5,m6,m7,m8,bf,bt⟩,rfl,hb⟩
theorem zh{H:Type}{enc:TypeId×Value->H}{W:World}{base:Nat}{held:Bool}{fuel:Nat}{v:Value}{y:DataW H×List MemPlace}(h:DataW.trod enc Tryz.prog W base (λ_=>true) held fuel 22 [v]=some y):
 ∃ks:List KV,Kl W v ks/\∀k∈ks,k.b.size<=maxLen:=by
 have uj:Tryz.prog.cellsOf 77=11:=by kernel_rfl
 rcases Go.Deep.open_slice Tryz.underlying22 h with⟨hcs,-⟩|⟨a,len,cap,m,n,D,Pl,hcs,hb,hl,hm,hmm,-,hx⟩
 ·simp at hcs
  subst hcs;exact⟨[],⟨none,0,rfl,Nat.le_refl _,by omega,λh=>absurd rfl h⟩,by simp⟩
 ·simp at hcs
  subst hcs;have hlm:len<=m:=by rw[hmm];simp;exact hl
  have each:∀i,i<len->∃k:KV,Kc W (a.add (i*11)) k/\k.b.size<=maxLen:=by
   intro i hi;obtain⟨cs',h1,h2⟩:=hx i (by omega);obtain⟨k,rfl,hk⟩:=Eo h2;rw[uj] at h1;obtain⟨-,-,hcell⟩:=World.cells?_some h1;refine⟨k,?_,hk⟩;generalize a.add (i*11)=y at *;exact⟨hcell 0 (by decide),hcell 1 (by decide),hcell 2 (by decide),hcell 3 (by decide),hcell 4 (by decide),hcell 5 (by decide),hcell 6 (by decide),hcell 7 (by decide),hcell 8 (by decide),hcell 9 (by decide),hcell 10 (by decide)⟩
  have inh:Inhabited KV:=⟨⟨ByteArray.empty,0,0,0,0,0,0,0,0,false,false⟩⟩;obtain⟨q,hq⟩:=Go.Deep.choose_lt each;refine⟨(List.range len).map q,⟨some a,cap,by simp,by simpa using hl,by unfold maxLen at hm;omega,λhn=>⟨a,rfl,?_,λi k hk=>?_⟩⟩,?_⟩
  ·have h0:0<len:=by
    rcases Nat.eq_zero_or_pos len with h|h
    ·subst h;simp at hn
    ·exact h
   have:=(hq 0 h0).1.lt;rwa[add_block] at this
  ·have hi:i<len:=by
    have:=(List.getElem?_eq_some_iff.1 hk).1;simpa using this
   rw[List.getElem?_map,List.getElem?_range hi] at hk;injection hk with hk
   subst hk;exact(hq i hi).1
  ·intro k hk
   obtain⟨i,hi,rfl⟩:=List.mem_map.1 hk;exact(hq i (List.mem_range.1 hi)).2
theorem JO{H:Type}{enc:TypeId×Value->H}{W:World}{base b0:Nat}{held:Bool}{v:Value}{d:DataW H}{p:List MemPlace}(hv:Value.okWide Tryz.prog W .any b0 22 v)(h:DataW.Trod enc Tryz.prog W base (λ_=>true) held 22 v d p):
 ∃ks:List KV,Kl W v ks/\∀k∈ks,k.b.size<=maxLen:=by
 obtain⟨a,len,cap,rfl⟩:=okWide_slice Tryz.underlying22 hv;obtain⟨fuel,hf⟩:=h;exact zh hf
end Go.Proofs.YtolfphmdmpehdaaGreatDoor
