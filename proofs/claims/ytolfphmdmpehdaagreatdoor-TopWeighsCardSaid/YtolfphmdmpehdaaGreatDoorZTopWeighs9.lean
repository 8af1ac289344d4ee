/- Spot and Train have one answer. Plain mathematics. And more. -/
import Derived.Test.YtolfphmdmpehdaaGreatDoorZTopWeighs8
import Derived.Deep.SlicePairs
import Derived.OpenShut
set_option linter.unusedVariables false
set_option maxHeartbeats 32000000
set_option maxRecDepth 100000
open Go.Value (int slice)
open Go.IntKind (i64)
namespace Go.Proofs.YtolfphmdmpehdaaGreatDoor
open Wy
theorem Ep{l:List Int}{n:Nat}{p:Int->Bool}{c F c' F':Int}(h:jQ l n p c F)(h':jQ l n p c' F'):c=c'/\F=F':=by
 have no:∀{m k:Nat} {c:Int},(rch l m n)[k]? =some c->p c=true->(rch l m n).any p=false->False:=λhk hp ha=>by
  rw[List.any_eq_false] at ha;exact ha _ (List.mem_of_getElem? hk) hp
 rcases h with⟨e1,e2,h⟩|⟨e1,m,k,hm,hk,hp,ht,hj⟩
 ·rcases h' with⟨f1,f2,h'⟩|⟨f1,m',k',hm',hk',hp',ht',hj'⟩
  ·exact⟨by rw[e2,f2],by rw[e1,f1]⟩
  ·exact(no hk' hp' (h m' hm')).elim
 ·rcases h' with⟨f1,f2,h'⟩|⟨f1,m',k',hm',hk',hp',ht',hj'⟩
  ·exact(no hk hp (h' m hm)).elim
  ·have em:m=m':=by
    rcases Nat.lt_trichotomy m m' with hl|hl|hl
    ·exact(no hk hp (hj' m hl)).elim
    ·exact hl
    ·exact(no hk' hp' (hj m' hl)).elim
   subst em;have ek:k=k':=by
    rcases Nat.lt_trichotomy k k' with hl|hl|hl
    ·rw[List.any_eq_false] at ht'
     exact(ht' c (List.mem_of_getElem? (by rw[List.getElem?_take,if_pos hl];exact hk)) hp).elim
    ·exact hl
    ·rw[List.any_eq_false] at ht
     exact(ht c' (List.mem_of_getElem? (by rw[List.getElem?_take,if_pos hl];exact hk')) hp').elim
   subst ek;rw[hk] at hk';injection hk' with e
   exact⟨e,by rw[e1,f1]⟩
theorem qp{p:aB->Bool}{us:List aB}{i:Nat}(h:gI p us (i:Nat)):∃x,us[i]? =some x/\p x=true/\(us.take i).any p=false:=by
 rcases h with⟨e,-⟩|⟨k,x,e,h1,h2,h3⟩
 ·omega
 ·obtain rfl:i=k:=by omega
  exact⟨x,h1,h2,h3⟩
theorem Es{p:aB->Bool}{us:List aB}{i j:Nat}(h:gI p us (i:Nat))(k:gI p us (j:Nat)):i=j:=by
 obtain⟨x,x1,x2,x3⟩:=qp h;obtain⟨y,y1,y2,y3⟩:=qp k;rcases Nat.lt_trichotomy i j with hl|hl|hl
 ·rw[List.any_eq_false] at y3
  exact(y3 x (List.mem_of_getElem? (by rw[List.getElem?_take,if_pos hl];exact x1)) x2).elim
 ·exact hl
 ·rw[List.any_eq_false] at x3
  exact(x3 y (List.mem_of_getElem? (by rw[List.getElem?_take,if_pos hl];exact y1)) y2).elim
theorem rP{ks:List KV}{X:WV}{unit kind c F c' F':Int}(h:jR ks X unit kind c F)(h':jR ks X unit kind c' F'):c=c'/\F=F':=by
 have last:∀{c F:Int},(∃(i kn Wn Hn an:Nat) (u:aB) (k:KV) (l:List Int),gI (λu=>u.id==unit) X.us (i:Nat)/\X.us[i]? =some u/\kind=(kn:Nat)/\ks[kn]? =some k/\X.wide=(Wn:Nat)/\X.high=(Hn:Nat)/\Fd.Good Wn Hn X.gs X.os/\u.at_=(an:Nat)/\an<Wn*Hn
  /\Wy.bD (Fd.near Wn Hn) (λi _=>(X.gs.map λg=>Fd.onto g k.f).getD i 0) an (Wn*Hn) l/\jQ l (Wn*Hn) (xU X.us) c F)->X.us.any (λu=>u.id==unit)=true/\(0<=kind/\kind<(ks.length:Int)):=by
  rintro c F ⟨i,kn,Wn,Hn,an,u,k,l,h1,h2,h3,h4,-⟩;obtain⟨x,x1,x2,-⟩:=qp h1;refine⟨List.any_eq_true.2 ⟨x,List.mem_of_getElem? x1,x2⟩,by omega,?_⟩;have:=(List.getElem?_eq_some_iff.1 h4).1;omega
 rcases h with⟨a1,a2,a3⟩|⟨a1,a2,a3,a4⟩|⟨a1,a2,a3,a4,a5⟩|⟨a1,a⟩
 ·rcases h' with⟨b1,b2,b3⟩|⟨b1,-⟩|⟨b1,-⟩|⟨b1,-⟩
  ·exact⟨by rw[a3,b3],by rw[a2,b2]⟩
  all_goals exact absurd b1 a1
 ·rcases h' with⟨b1,b2,b3⟩|⟨b1,b2,b3,b4⟩|⟨b1,b2,b3,b4,b5⟩|⟨b1,b⟩
  ·exact absurd a1 b1
  ·exact⟨by rw[a4,b4],by rw[a3,b3]⟩
  ·rw[a2] at b2;cases b2
  ·have:=(last b).1;rw[a2] at this;cases this
 ·rcases h' with⟨b1,b2,b3⟩|⟨b1,b2,b3,b4⟩|⟨b1,b2,b3,b4,b5⟩|⟨b1,b⟩
  ·exact absurd a1 b1
  ·rw[a2] at b2;cases b2
  ·exact⟨by rw[a5,b5],by rw[a4,b4]⟩
  ·exact absurd (last b).2 a3
 ·rcases h' with⟨b1,b2,b3⟩|⟨b1,b2,b3,b4⟩|⟨b1,b2,b3,b4,b5⟩|⟨b1,b⟩
  ·exact absurd a1 b1
  ·have:=(last a).1;rw[b2] at this;cases this
  ·exact absurd (last a).2 b3
  ·obtain⟨i,kn,Wn,Hn,an,u,k,l,h1,h2,h3,h4,h5,h6,-,h8,-,h10,h11⟩:=a
   obtain⟨i',kn',XK,XM,XP,u',k',l',g1,g2,g3,g4,g5,g6,-,g8,-,g10,g11⟩:=b;obtain rfl:=Es h1 g1;rw[h2] at g2;injection g2 with e
   subst e;obtain rfl:kn=kn':=by omega
   rw[h4] at g4;injection g4 with e
   subst e;obtain rfl:Wn=XK:=by omega
   obtain rfl:Hn=XM:=by omega
   obtain rfl:an=XP:=by omega
   obtain rfl:=Wy.bD.uniq h10 g10;exact Ep h11 g11
theorem Et{ks:List KV}{Y:WV}{j:aP}{c c':Int}(h:Comes ks Y j c)(h':Comes ks Y j c'):c=c':=(rP h.1 h'.1).1
theorem rQ{ks:List KV}{Y:WV}{j:aP}{c:Int}(h:Comes ks Y j c)(h':kS ks Y j):False:=by
 obtain⟨c',F,h1,h2⟩:=h';obtain⟨rfl,rfl⟩:=rP h.1 h1;rcases h2 with h2|h2
 ·exact h2 rfl
 ·exact h2 h.2
theorem OJ{ks:List KV}{X:WV}{q:Nat}{Y:WV}{es:List bP}{qs:List aP}(t:Tr ks X q Y es qs):∀{Y':WV} {es':List bP} {DV:List aP},Tr ks X q Y' es' DV->Y=Y'/\es=es'/\qs=DV:=by
 induction t with
 |zero=>intro Y' es' DV t';cases t';exact⟨rfl,rfl,rfl⟩
 | @wait q Y es qs j t0 ho hl ih=>
  intro Y' es' DV t';cases t' with
  |wait t1 ho1 hl1=>
   rw[ho] at ho1;injection ho1 with e;subst e
   obtain⟨rfl,rfl,rfl⟩:=ih t1;exact⟨rfl,rfl,rfl⟩
  |come t1 ho1 hl1 _=>rw[ho] at ho1;injection ho1 with e;subst e;exact absurd hl1 hl
  |stay t1 ho1 hl1 _=>rw[ho] at ho1;injection ho1 with e;subst e;exact absurd hl1 hl
 | @come q Y es qs j c t0 ho hl hc ih=>
  intro Y' es' DV t';cases t' with
  |wait t1 ho1 hl1=>rw[ho] at ho1;injection ho1 with e;subst e;exact absurd hl hl1
  |come t1 ho1 hl1 hc1=>
   rw[ho] at ho1;injection ho1 with e;subst e
   obtain⟨rfl,rfl,rfl⟩:=ih t1;obtain rfl:=Et hc hc1;exact⟨rfl,rfl,rfl⟩
  |stay t1 ho1 hl1 hn=>
   rw[ho] at ho1;injection ho1 with e;subst e
   obtain⟨rfl,rfl,rfl⟩:=ih t1;exact(rQ hc hn).elim
 | @stay q Y es qs j t0 ho hl hn ih=>
  intro Y' es' DV t';cases t' with
  |wait t1 ho1 hl1=>rw[ho] at ho1;injection ho1 with e;subst e;exact absurd hl hl1
  |come t1 ho1 hl1 hc1=>
   rw[ho] at ho1;injection ho1 with e;subst e
   obtain⟨rfl,rfl,rfl⟩:=ih t1;exact(rQ hc1 hn).elim
  |stay t1 ho1 hl1 _=>
   rw[ho] at ho1;injection ho1 with e;subst e
   obtain⟨rfl,rfl,rfl⟩:=ih t1;exact⟨rfl,rfl,rfl⟩
open Go.RowKit
theorem qw{ks:List KV}{X:WV}{Wn Hn:Nat}{k:KV}{i:Nat}{us us':List aB}{left:Int}{cells:List Int}(h:Goes ks X Wn Hn k i us left cells us'):∃(u:aB) (c:Nat) (gg:Int),us[i]? =some u/\dP ks {X with us:=us} Wn Hn u k c/\X.gs[c]? =some gg/\
 (((left<Fd.onto gg k.f\/us.any (λo=>o.at_==(c:Int))=true)/\cells=[]/\us'=us)\/(¬left<Fd.onto gg k.f/\us.any (λo=>o.at_==(c:Int))=false/\∃cells',cells=(c:Int)::cells'/\Goes ks X Wn Hn k i (us.set i {u with at_:=(c:Nat)}) (left-Fd.onto gg k.f) cells' us')):=by
 cases h with
 |stop hu hw hg h=>exact⟨_,_,_,hu,hw,hg,.inl ⟨h,rfl,rfl⟩⟩
 |step hu hw hg h1 h2 h3=>exact⟨_,_,_,hu,hw,hg,.inr ⟨h1,h2,_,rfl,h3⟩⟩
theorem nJ{ks:List KV}{X:WV}{Wn Hn n:Nat}{us us':List aB}{evs:List bP}(h:Moves ks X Wn Hn n us evs us'):(n=us.length/\evs=[]/\us'=us)\/∃(u u1:aB) (k:KV) (cells:List Int) (us1:List aB) (nN:List bP),us[n]? =some u/\ks[u.kind.toNat]? =some k/\Goes ks X Wn Hn k n us k.n4 cells us1/\us1[n]? =some u1/\Moves ks X Wn Hn (n+1) (us1.set n (ends u1)) nN us'/\evs=cells.map (λc=>(⟨1,u.id,c⟩:bP))++nN:=by
 cases h with
 |done h=>exact .inl ⟨h,rfl,rfl⟩
 |unit hu hk hg h1 hm=>exact .inr ⟨_,_,_,_,_,_,hu,hk,hg,h1,hm,rfl⟩
theorem Ko{ks:List KV}{X:WV}{Wn Hn:Nat}{u:aB}{k:KV}{c c':Int}(h:iM ks X Wn Hn u k c)(h':iM ks X Wn Hn u k c'):c=c':=by
 rcases h with⟨h1,h2⟩|⟨h1,h2,h3⟩|⟨h1,h2,l,h3,h4⟩
 ·rcases h' with⟨g1,g2⟩|⟨g1,-⟩|⟨g1,-⟩
  ·rw[h2,g2]
  ·exact absurd h1 g1
  ·omega
 ·rcases h' with⟨g1,g2⟩|⟨g1,g2,g3⟩|⟨g1,g2,-⟩
  ·exact absurd g1 h1
  ·rw[h3,g3]
  ·exact absurd ⟨g1,g2⟩ h2
 ·rcases h' with⟨g1,g2⟩|⟨g1,g2,g3⟩|⟨g1,g2,l',g3,g4⟩
  ·omega
  ·exact absurd ⟨h1,h2⟩ g2
  ·have:l=l':=h3.1.uniq g3.1
   subst this;rw[h4,g4]
theorem rU{ks:List KV}{X:WV}{Wn Hn:Nat}{u:aB}{k:KV}{c c':Nat}(h:dP ks X Wn Hn u k c)(h':dP ks X Wn Hn u k c'):c=c':=by
 obtain⟨an,bn,l,h1,h2,-,h3,h4⟩:=h;obtain⟨XP,bn',l',g1,g2,-,g3,g4⟩:=h';obtain rfl:an=XP:=by omega
 obtain rfl:bn=bn':=by have:=Ko h2 g2;omega
 have:l=l':=h3.1.uniq g3.1;subst this;rcases h4 with⟨h4,h5⟩|⟨h4,h5⟩
 ·rcases g4 with⟨g4,g5⟩|⟨g4,-⟩
  ·rw[h5,g5]
  ·omega
 ·rcases g4 with⟨g4,-⟩|⟨-,g5⟩
  ·omega
  ·exact h5.uniq g5
theorem Eu{ks:List KV}{X:WV}{Wn Hn:Nat}{k:KV}{i:Nat}{us us':List aB}{left:Int}{cells:List Int}(h:Goes ks X Wn Hn k i us left cells us'):∀{cells2:List Int} {us2:List aB},Goes ks X Wn Hn k i us left cells2 us2->cells=cells2/\us'=us2:=by
 induction h with
 |stop hu hw hg h=>
  intro cells2 us2 h';obtain⟨u',c',Yx,hu',hw',hg',hh⟩:=qw h';rw[hu] at hu';injection hu' with hu'
  subst hu';obtain rfl:=rU hw hw';rw[hg] at hg';injection hg' with hg'
  subst hg';rcases hh with⟨-,h1,h2⟩|⟨h1,h2,-⟩
  ·exact⟨h1.symm,h2.symm⟩
  ·rcases h with h|h
   ·exact absurd h h1
   ·rw[h] at h2;cases h2
 |step hu hw hg h1 h2 h3 ih=>
  intro cells2 us2 h';obtain⟨u',c',Yx,hu',hw',hg',hh⟩:=qw h';rw[hu] at hu';injection hu' with hu'
  subst hu';obtain rfl:=rU hw hw';rw[hg] at hg';injection hg' with hg'
  subst hg';rcases hh with⟨g1,-⟩|⟨-,-,cells',g1,g2⟩
  ·rcases g1 with g1|g1
   ·exact absurd g1 h1
   ·rw[h2] at g1;cases g1
  ·obtain⟨e1,e2⟩:=ih g2
   exact⟨by rw[g1,e1],e2⟩
theorem zq{ks:List KV}{X:WV}{Wn Hn n:Nat}{us us':List aB}{evs:List bP}(h:Moves ks X Wn Hn n us evs us'):∀{qJ:List bP} {us2:List aB},Moves ks X Wn Hn n us qJ us2->evs=qJ/\us'=us2:=by
 induction h with
 |done h=>
  intro qJ us2 h';rcases nJ h' with⟨-,h1,h2⟩|⟨u,u1,k,cells,us1,nN,hu,-⟩
  ·exact⟨h1.symm,h2.symm⟩
  ·have:=(List.getElem?_eq_some_iff.1 hu).1
   omega
 |unit hu hk hg h1 hm ih=>
  intro qJ us2 h';rcases nJ h' with⟨h2,-⟩|⟨u',u1',k',cells',us1',nN,hu',hk',hg',h1',hm',he⟩
  ·have:=(List.getElem?_eq_some_iff.1 hu).1
   omega
  ·rw[hu] at hu'
   injection hu' with hu'
   subst hu';rw[hk] at hk';injection hk' with hk'
   subst hk';obtain⟨e1,e2⟩:=Eu hg hg';subst e1;subst e2;rw[h1] at h1';injection h1' with h1'
   subst h1';obtain⟨e3,e4⟩:=ih hm';exact⟨by rw[he,e3],e4⟩
end Go.Proofs.YtolfphmdmpehdaaGreatDoor
namespace Go.Proofs.YtolfphmdmpehdaaGreatDoor
open Go.RowKit Go.Proofs.YtolfphmdmpehdaaGreatDoor.So
theorem OM{ks:List KV}{Wn Hn:Nat}{A:WV}{n:Nat}{Y:WV}{es:List bP}(p:Ph ks Wn Hn A n Y es):∀{Y':WV} {es':List bP},Ph ks Wn Hn A n Y' es'->Y=Y'/\es=es':=by
 induction p with
 |zero=>intro Y' es' q;cases q;exact⟨rfl,rfl⟩
 |one t=>
  intro Y' es' q;cases q with
  |one t'=>obtain⟨rfl,rfl,rfl⟩:=OJ t t';exact⟨rfl,rfl⟩
 |two p0 m ih=>
  intro Y' es' q;cases q with
  |two q0 m'=>
   obtain⟨rfl,rfl⟩:=ih q0;obtain⟨rfl,rfl⟩:=zq m m';exact⟨rfl,rfl⟩
 |three p0 ih=>
  intro Y' es' q;cases q with
  |three q0=>obtain⟨rfl,rfl⟩:=ih q0;exact⟨rfl,rfl⟩
 |four p0 ih=>
  intro Y' es' q;cases q with
  |four q0=>obtain⟨rfl,rfl⟩:=ih q0;exact⟨rfl,rfl⟩
theorem Ew{ks:List KV}{X:WV}{l:List aJ}{Y Y':WV}{es es':List bP}(h:kH ks X l Y es)(h':kH ks X l Y' es'):Y=Y'/\es=es':=by
 obtain⟨out,Wn,Hn,Z,a1,a2,a3,a4,rfl⟩:=h;obtain⟨out',XK,XM,Z',b1,b2,b3,b4,rfl⟩:=h';obtain rfl:=a1.one b1;obtain rfl:Wn=XK:=by omega
 obtain rfl:Hn=XM:=by omega
 obtain⟨rfl,rfl⟩:=OM a4 b4;exact⟨rfl,rfl⟩
theorem kD{ks:List KV}{X:WV}{ls:List (List aJ)}{n:Nat}{Y:WV}(h:iE ks X ls n Y):∀{Y':WV},iE ks X ls n Y'->Y=Y':=by
 induction h with
 |zero=>intro Y' k;cases k;rfl
 |turn p hl hf hs ih=>
  intro Y' k;cases k with
  |turn p' hl' hf' hs'=>
   obtain rfl:=ih p';rw[hl] at hl';injection hl' with e
   subst e;exact(Ew hs hs').1
theorem zx{ks:List KV}{X:WV}{l:List aJ}{Y:WV}{es:List bP}(hf:aZ ks X l=0)(h:kH ks X l Y es):Wd.aC ks Y=0/\Y.turn=X.turn+1:=by
 have hw:Wd.aC ks X=0:=by
  by_cases e:Wd.aC ks X=0
  ·exact e
  ·rw[uo e] at hf;exact absurd hf e
 have ht:¬1000000<=X.turn:=λe=>by rw[zi hw e] at hf;cases hf
 have ho:Od.faults l=0:=by rw[zn hw ht] at hf;exact hf
 have R:=aW hw;obtain⟨out,Wn,Hn,Z,a1,a2,a3,a4,rfl⟩:=h;obtain⟨g1,g2,g3⟩:=nU (ks:=ks) (Y:=X) (out:=out) out.length;have AR:=lI R (out:=out) (λo h=>(Od.fP ho).2 o (a1.mem h)) out.length;obtain⟨r,-,-,t,-⟩:=a4.keep AR (by rw[g2,a2]) (by rw[g3,a3]);have tx:Z.turn=X.turn:=t.trans g1;refine⟨?_,by show Z.turn+1=_;rw[tx]⟩;obtain⟨W',H',e1,e2,G⟩:=r.good;refine Wd.dS r.kinds (by show Fd.fault Z.wide Z.high Z.gs Z.os=0;rw[e1,e2];exact Fd.dJ G) ?_ r.ul (λi u hu=>?_) r.ql (λj hj=>r.job hj)
 ·have hn:=r.nums
  unfold Wd.aU at hn ⊢;simp only[Bool.or_eq_false_iff] at hn ⊢;refine⟨?_,hn.2⟩;have h1:=hn.1;unfold Wd.off at h1 ⊢;simp at h1 ⊢;omega
 ·obtain⟨k,F⟩:=r.fine hu
  exact⟨k,F.id1,F.id2,F.up,F.p,F.k0,F.kk,F.life,F.load,F.task,F.at_,F.goal,F.opn,F.rest⟩
end Go.Proofs.YtolfphmdmpehdaaGreatDoor
namespace Go.Proofs.YtolfphmdmpehdaaGreatDoor.Wy
theorem oL.two{nb:Nat->List Int}{ss l:List Int}{t i:Nat}{p:List Int}(h:oL nb ss l t i p):∀k,k+1<p.length->∃x y:Nat,p[k]? =some (x:Int)/\p[k+1]? =some (y:Int)/\Nx nb ss l x y:=by
 induction h with
 |here=>intro k hk;simp at hk
 | @step i j p h1 h2 h3 ih=>
  intro k hk;cases k with
  |zero=>exact⟨i,j,rfl,by simpa using h3.head,h2⟩
  |succ k=>
   obtain⟨x,y,a1,a2,a3⟩:=ih k (by simpa using hk);exact⟨x,y,by simpa using a1,by simpa using a2,a3⟩
theorem oL.pos{nb:Nat->List Int}{ss l:List Int}{t i:Nat}{p:List Int}(h:oL nb ss l t i p):0<p.length:=by
 cases h<;>simp
theorem oL.cells{nb:Nat->List Int}{ss l:List Int}{t i n:Nat}{p:List Int}(hn:∀(i j:Nat),i<n->(j:Int)∈nb i->j<n)(h:oL nb ss l t i p)(hi:i<n):∀(k:Nat) (x:Int),p[k]? =some x->∃y:Nat,x=y/\y<n:=by
 induction h with
 |here=>
  intro k x hx;cases k with
  |zero=>simp at hx;exact⟨t,hx.symm,hi⟩
  |succ k=>simp at hx
 | @step i j p h1 h2 h3 ih=>
  intro k x hx;cases k with
  |zero=>simp at hx;exact⟨i,hx.symm,hi⟩
  |succ k=>exact ih (hn i j hi h2.is.1) k x (by simpa using hx)
def RY(nb:Nat->List Int)(st:Nat->Nat->Int)(l:List Int)(n:Nat):Bool:=(List.range n).all λi=>(nb i).all λx=>decide (¬(0<st i x.toNat/\0<=l.getD x.toNat 0)\/(0<=l.getD i 0/\l.getD i 0<=st i x.toNat+l.getD x.toNat 0))
theorem wH{nb:Nat->List Int}{st:Nat->Nat->Int}{l:List Int}{n:Nat}(h:RY nb st l n=true):∀i,i<n->Shut nb st l i:=by
 intro i hi j x y hx hy hj h0 y0;unfold RY at h;rw[List.all_eq_true] at h;have h1:=h i (List.mem_range.2 hi);rw[List.all_eq_true] at h1;have h2:=of_decide_eq_true (h1 j hj);rw[Int.toNat_natCast,lJ hx,lJ hy] at h2;rcases h2 with h2|h2
 ·exact absurd ⟨h0,y0⟩ h2
 ·exact h2
def s6:Nat->Nat->Int:=λ_ j=>(([0,1,0,0,3,0]:List Int).map λg=>Fd.onto g false).getD j 0
def s3:Nat->Nat->Int:=λi _=>(([0,3,0]:List Int).map λg=>Fd.onto g false).getD i 0
theorem three:bD (Fd.near 3 1) s3 0 3 [0,2,3]:=by
 have w0:Way (Fd.near 3 1) s3 0 0 0:=.here;have w1:Way (Fd.near 3 1) s3 0 1 2:=Way.step (nb:=Fd.near 3 1) (st:=s3) (i:=1) (j:=0) (by decide) (by decide) w0;have w2:Way (Fd.near 3 1) s3 0 2 3:=Way.step (nb:=Fd.near 3 1) (st:=s3) (i:=2) (j:=1) (by decide) (by decide) w1;refine xH rfl ?_ rfl ?_ (wH (by decide))
 ·intro i j hi hj
  obtain⟨t,h1,h2,-⟩:=Fd.mP (W:=3) (H:=1) (by decide) hi hj;omega
 ·intro i x hx
  match i,hx with
  |0,hx=>simp at hx;subst hx;exact .inr w0
  |1,hx=>simp at hx;subst hx;exact .inr w1
  |2,hx=>simp at hx;subst hx;exact .inr w2
  |i+3,hx=>simp at hx
end Go.Proofs.YtolfphmdmpehdaaGreatDoor.Wy
namespace Go.Proofs.YtolfphmdmpehdaaGreatDoor
open Go.RowKit
namespace Wd
def bare(wd hg:Int)(gs os:List Int):WV:=⟨0,1,wd,hg,gs,os,[],[],[]⟩
def dZ(ks:List KV)(wd hg:Int)(gs os:List Int)(lX gold:Int):Int:=if ground ks (bare wd hg gs os)=0 then(if(1<=lX/\lX<=4)/\0<=gold/\gold<=1000000 then 0 else 1) else ground ks (bare wd hg gs os)
def begun(ks:List KV)(wd hg:Int)(gs os:List Int)(lX gold:Int):WV:=if dZ ks wd hg gs os lX gold=0 then⟨0,1,wd,hg,gs,os,List.replicate lX.toNat gold,[],[]⟩ else WV.zero
end Wd
theorem m_{ks:List KV}{wd hg:Int}{gs os:List Int}{lX gold:Int}(h:Wd.dZ ks wd hg gs os lX gold≠0):Wd.begun ks wd hg gs os lX gold=WV.zero:=by unfold Wd.begun;rw[if_neg h]
theorem wI{ks:List KV}{wd hg:Int}{gs os:List Int}{lX gold:Int}(h:Wd.dZ ks wd hg gs os lX gold=0):Wd.begun ks wd hg gs os lX gold=⟨0,1,wd,hg,gs,os,List.replicate lX.toNat gold,[],[]⟩:=by unfold Wd.begun;rw[if_pos h]
structure Bx(w:World)(z:Nat)(wd hg:Int)(u1 u2:Value):Prop where
 c0:w.cell? ⟨z,0,none⟩=some (int i64 wd)
 c1:w.cell? ⟨z,1,none⟩=some (int i64 hg)
 c2:w.cell? ⟨z,2,none⟩=some u1
 c3:w.cell? ⟨z,3,none⟩=some u2
theorem Bx.lt{w:World}{z:Nat}{wd hg:Int}{u1 u2:Value}(h:Bx w z wd hg u1 u2):z<w.heap.size:=cell_lt h.c0
theorem Bx.below{w w':World}{z n:Nat}{wd hg:Int}{u1 u2:Value}(h:Bx w z wd hg u1 u2)(hb:Below n w w')(hn:z<n):Bx w' z wd hg u1 u2:=
 ⟨by rw[hb.cell (p:=⟨z,0,none⟩) hn];exact h.c0,by rw[hb.cell (p:=⟨z,1,none⟩) hn];exact h.c1,by rw[hb.cell (p:=⟨z,2,none⟩) hn];exact h.c2,by rw[hb.cell (p:=⟨z,3,none⟩) hn];exact h.c3⟩
theorem Bx.mk'{w:World}{z:Nat}(wd hg:Int)(u1 u2:Value)(hz:w.heap.size=z):Bx (w.alloc (.cells #[int i64 wd,int i64 hg,u1,u2] 25)) z wd hg u1 u2:=by
 subst hz;constructor<;>simp
theorem new_any(vk vf:Value)(ks:List KV)(wd hg:Int)(gs os:List Int)(lX gold:Int)(w:World)(hk:Kl w vk ks)(hb:∀k∈ks,k.b.size<=9223372036854775807)(hf:Fl w vf wd hg gs os):
 Calls Tryz.prog 38 #[vk,vf,int i64 lX,int i64 gold] w λe w'=>∃u r,e=.returned (.tuple #[u,r])/\Er r (Wd.dZ ks wd hg gs os lX gold)/\Wo w' w.heap.size u (Wd.begun ks wd hg gs os lX gold)/\Below w.heap.size w w':=by
 have K:Hid (Kl w vk ks/\∀k∈ks,k.b.size<=9223372036854775807):=⟨hk,hb⟩;have F:=aj (hf);obtain⟨u1,u2,rfl,r1,r2⟩:=hf;obtain⟨p1,q1,rfl,-⟩:=r1;obtain⟨p2,q2,rfl,-⟩:=r2;clear hb hk;go_enter Tryz.func38,Tryz.ntmps38;go_upto_region 1 with fail
 have B0:Hid (Below _ w ((w.alloc (.cells #[int i64 wd,int i64 hg,slice p1 gs.length q1,slice p2 os.length q2] 25)).alloc (.cells #[int i64 0,int i64 0,int i64 0,int i64 0,slice none 0 0,slice none 0 0,slice none 0 0,slice none 0 0,slice none 0 0] 29))):=((Below.refl _ _).alloc (Nat.le_refl _) _).alloc (by simp) _;have X0:Hid (Bx ((w.alloc _).alloc (.cells #[int i64 0,int i64 0,int i64 0,int i64 0,slice none 0 0,slice none 0 0,slice none 0 0,slice none 0 0,slice none 0 0] 29)) _ wd hg (slice p1 gs.length q1) (slice p2 os.length q2)):=(Bx.mk' _ _ _ _ rfl).below ((Below.refl _ _).alloc (Nat.le_refl _) _) (by simp);have Z0:Hid (Wx ((w.alloc (.cells #[int i64 wd,int i64 hg,slice p1 gs.length q1,slice p2 os.length q2] 25)).alloc _) (w.heap.size+1) (int i64 0) (int i64 0) (int i64 0) (int i64 0) (slice none 0 0) (slice none 0 0) (slice none 0 0) (slice none 0 0) (slice none 0 0)):=Wx.new _ _ _ _ _ _ _ _ _ (by simp);have S0:Hid (w.heap.size+2<=((w.alloc (.cells #[int i64 wd,int i64 hg,slice p1 gs.length q1,slice p2 os.length q2] 25)).alloc (.cells #[int i64 0,int i64 0,int i64 0,int i64 0,slice none 0 0,slice none 0 0,slice none 0 0,slice none 0 0,slice none 0 0] 29)).heap.size):=by unfold Hid;simp
 generalize ((w.alloc _).alloc _)=w0 at *;obtain⟨x0,x1,x2,x3⟩:=X0.out;go_wp2_with fail
 refine(oq _ _ ks (Wd.bare wd hg gs os) w0 (K.out.1.below B0.out) K.out.2 (F.out.below B0.out)).mono ?_;rintro e w1 ⟨r,rfl,hr,hb1⟩;clear x0 x1 x2 x3;have B1:=aj (B0.out.trans (hb1.mono B0.out.size));have X1:=aj (X0.out.below hb1 X0.out.lt);have Z1:=aj (Z0.out.below hb1 Z0.out.lt);have S1:=aj (Nat.le_trans S0.out hb1.size);clear hb1 B0 X0 Z0 S0;rcases hr with⟨hf,rfl⟩|⟨hf,rfl⟩
 case inr=>
  obtain⟨fe,hfe⟩:∃f,Wd.ground ks (Wd.bare wd hg gs os)=f:=⟨_,rfl⟩;have AP:Hid (fe≠0):=by rw[<-hfe];exact hf
  have FE:Hid (Wd.dZ ks wd hg gs os lX gold=fe):=by unfold Hid Wd.dZ;rw[if_neg hf];exact hfe
  rw[hfe];clear hf hfe;obtain⟨z0,z1,z2,z3,z4,z5,z6,z7,z8⟩:=Z1.out.cells;obtain⟨t0,t1,t2,t3,t4,t5,t6,t7,t8⟩:=Z1.out.bC;have KZ:=aj (dD w1 (w.heap.size+1));obtain⟨y0,y1,y2,y3,y4,y5,y6,y7,y8⟩:=(Z1.out.jM).cells;go_wp2;clear z0 z1 z2 z3 z4 z5 z6 z7 z8 t0 t1 t2 t3 t4 t5 t6 t7 t8;generalize World.setCell _ ⟨_,8,none⟩ _=w9 at *;refine bodyPost_ret (v:=.tuple #[.agg #[int i64 0,int i64 0,int i64 0,int i64 0,slice none 0 0,slice none 0 0,slice none 0 0,slice none 0 0,slice none 0 0],.iface 85 (int i64 fe)]) (by simp[results,Tryz.results38,go_sem,y0,y1,y2,y3,y4,y5,y6,y7,y8]) rfl ⟨_,_,rfl,by rw[FE.out];exact Er.no AP.out,by rw[m_ (by rw[FE.out];exact AP.out)];exact jX _ _,KZ.out.below B1.out B1.out.size (by omega)⟩
 have HF:=aj (hf);have NF:Hid (Wd.dZ ks wd hg gs os lX gold=if(1<=lX/\lX<=4)/\0<=gold/\gold<=1000000 then 0 else 1):=by unfold Hid Wd.dZ;rw[if_pos hf]
 have GL:Hid (gs.length<=144/\os.length<=144):=by
  unfold Wd.ground at hf;split at hf
  ·obtain⟨Wn,Hn,-,-,G⟩:=Fd.kK hf
   have h1:=G.pos;have h2:=G.gl;have h3:=G.ol;unfold Wd.bare at h2 h3;exact⟨by simp only at h2;omega,by simp only at h3;omega⟩
  ·rename_i h0
   exact absurd hf h0
 clear hf;by_cases hp:1<=lX/\lX<=4
 case neg=>
  have t:=decide_eq_false hp;have AP:Hid ((1:Int)≠0):=by unfold Hid;decide
  have FE:Hid (Wd.dZ ks wd hg gs os lX gold=1):=by unfold Hid;rw[NF.out,if_neg (λh=>hp h.1)]
  clear hp;go_wp2_with fail
  refine(bF lX 1 4 w1).mono ?_;rintro e w2 ⟨rfl,iF⟩;obtain rfl:=iF.symm;rw[t];clear t;obtain⟨z0,z1,z2,z3,z4,z5,z6,z7,z8⟩:=Z1.out.cells;obtain⟨t0,t1,t2,t3,t4,t5,t6,t7,t8⟩:=Z1.out.bC;have KZ:=aj (dD w1 (w.heap.size+1));obtain⟨y0,y1,y2,y3,y4,y5,y6,y7,y8⟩:=(Z1.out.jM).cells;go_wp2;clear z0 z1 z2 z3 z4 z5 z6 z7 z8 t0 t1 t2 t3 t4 t5 t6 t7 t8;generalize World.setCell _ ⟨_,8,none⟩ _=w9 at *;refine bodyPost_ret (v:=.tuple #[.agg #[int i64 0,int i64 0,int i64 0,int i64 0,slice none 0 0,slice none 0 0,slice none 0 0,slice none 0 0,slice none 0 0],.iface 85 (int i64 1)]) (by simp[results,Tryz.results38,go_sem,y0,y1,y2,y3,y4,y5,y6,y7,y8]) rfl ⟨_,_,rfl,by rw[FE.out];exact Er.no AP.out,by rw[m_ (by rw[FE.out];exact AP.out)];exact jX _ _,KZ.out.below B1.out B1.out.size (by omega)⟩
 have t:=decide_eq_true hp;go_wp2_with fail
 refine(bF lX 1 4 w1).mono ?_;rintro e w2 ⟨rfl,iF⟩;obtain rfl:=iF.symm;rw[t];clear t;by_cases hgd:0<=gold/\gold<=1000000
 case neg=>
  have t:=decide_eq_false hgd;have AP:Hid ((1:Int)≠0):=by unfold Hid;decide
  have FE:Hid (Wd.dZ ks wd hg gs os lX gold=1):=by unfold Hid;rw[NF.out,if_neg (λh=>hgd h.2)]
  clear hgd hp;go_wp2_with fail
  refine(bF gold 0 1000000 w1).mono ?_;rintro e w2 ⟨rfl,iF⟩;obtain rfl:=iF.symm;rw[t];clear t;obtain⟨z0,z1,z2,z3,z4,z5,z6,z7,z8⟩:=Z1.out.cells;obtain⟨t0,t1,t2,t3,t4,t5,t6,t7,t8⟩:=Z1.out.bC;have KZ:=aj (dD w1 (w.heap.size+1));obtain⟨y0,y1,y2,y3,y4,y5,y6,y7,y8⟩:=(Z1.out.jM).cells;go_wp2;clear z0 z1 z2 z3 z4 z5 z6 z7 z8 t0 t1 t2 t3 t4 t5 t6 t7 t8;generalize World.setCell _ ⟨_,8,none⟩ _=w9 at *;refine bodyPost_ret (v:=.tuple #[.agg #[int i64 0,int i64 0,int i64 0,int i64 0,slice none 0 0,slice none 0 0,slice none 0 0,slice none 0 0,slice none 0 0],.iface 85 (int i64 1)]) (by simp[results,Tryz.results38,go_sem,y0,y1,y2,y3,y4,y5,y6,y7,y8]) rfl ⟨_,_,rfl,by rw[FE.out];exact Er.no AP.out,by rw[m_ (by rw[FE.out];exact AP.out)];exact jX _ _,KZ.out.below B1.out B1.out.size (by omega)⟩
 have t:=decide_eq_true hgd;have F0:Hid (Wd.dZ ks wd hg gs os lX gold=0):=by unfold Hid;rw[NF.out,if_pos ⟨hp,hgd⟩]
 go_wp2_with fail
 refine(bF gold 0 1000000 w1).mono ?_;rintro e w2 ⟨rfl,iF⟩;obtain rfl:=iF.symm;rw[t];clear t;obtain⟨n,rfl⟩:∃n:Nat,lX=n:=⟨lX.toNat,by omega⟩;have hn:0<n/\n<=4:=by omega
 have HN:=aj (hn);clear hp hgd hn;go_wp2_with fail
 have BA:Hid (Below _ w1 (w1.alloc (Obj.cells #[int i64 gold] 3))):=(Below.refl _ _).alloc (Nat.le_refl _) _;have RA:Hid (Ro _ (slice (some ⟨w1.heap.size,0,none⟩) 1 1) [gold]):=Ro.wU gold rfl;generalize (w1.alloc _)=wa at *;refine(qV gold _ n wa RA.out (HN.out.1) (by have:=HN.out.2;omega)).mono ?_;rintro e w2 ⟨b,rfl,-,hbk,hb2⟩;have BW:=aj (BA.out.trans (hb2.mono BA.out.size));have B2:=aj (B1.out.trans (BW.out.mono B1.out.size));have X2:=aj (X1.out.below BW.out X1.out.lt);have Z2:=aj (Z1.out.below BW.out Z1.out.lt);have S2:=aj (Nat.le_trans S1.out BW.out.size);have G2:Hid (Ro w2 (slice (some ⟨b,0,none⟩) n n) (List.replicate n gold)):=by
  unfold Hid;have:=hbk.ro (c:=n) (by simp) (by have:=HN.out.2;omega);simpa using this
 clear hb2 hbk B1 X1 Z1 S1 BA RA BW;obtain⟨x0,x1,x2,x3⟩:=X2.out;go_wp2_with fail
 have F2:=F.out.below B2.out;obtain⟨v1,v2,he,f1,f2⟩:=F2;injection he with he
 simp only[Array.mk.injEq,List.cons.injEq,and_true,true_and] at he;obtain⟨rfl,rfl⟩:=he;refine(gK _ ⟨0,1,wd,hg,gs,os,List.replicate n gold,[],[]⟩ w2 ⟨_,_,_,_,_,rfl,f1,f2,G2.out,⟨none,0,rfl,Nat.le_refl _,by omega,λh=>absurd rfl h⟩,⟨none,0,rfl,Nat.le_refl _,by omega,λh=>absurd rfl h⟩⟩ ⟨by have:=GL.out.1;simp only;omega,by have:=GL.out.2;simp only;omega,by have:=HN.out.2;simp only[List.length_replicate];omega,by simp,by simp⟩).mono ?_;rintro e w3 ⟨u,rfl,ho,hb3⟩;clear f1 f2 x0 x1 x2 x3;have B3:=aj (B2.out.trans (hb3.mono B2.out.size));have Z3:=aj (Z2.out.below hb3 Z2.out.lt);obtain⟨v1,v2,v3,v4,v5,rfl,o1,o2,o3,o4,o5⟩:=ho.wo.mono S2.out;have O3:=aj (fO o1 o2 o3 o4 o5);obtain⟨a1,b1,rfl⟩:=o1.len;obtain⟨a2,b2,rfl⟩:=o2.len;obtain⟨a3,b3,rfl⟩:=o3.len;obtain⟨a4,b4,rfl⟩:=o4.len;obtain⟨a5,b5,rfl⟩:=o5.len;simp only[List.length_replicate,List.length_nil] at O3 ⊢;clear ho hb3 o1 o2 o3 o4 o5 B2 X2 Z2 S2 G2;obtain⟨z0,z1,z2,z3,z4,z5,z6,z7,z8⟩:=Z3.out.cells;obtain⟨t0,t1,t2,t3,t4,t5,t6,t7,t8⟩:=Z3.out.bC;have KZ:=aj (bI w3 (w.heap.size+1) (int i64 0) (int i64 1) (int i64 wd) (int i64 hg) (slice a1 gs.length b1) (slice a2 os.length b2) (slice a3 n b3) (slice a4 0 b4) (slice a5 0 b5));obtain⟨y0,y1,y2,y3,y4,y5,y6,y7,y8⟩:=(Z3.out.put (int i64 0) (int i64 1) (int i64 wd) (int i64 hg) (slice a1 gs.length b1) (slice a2 os.length b2) (slice a3 n b3) (slice a4 0 b4) (slice a5 0 b5)).cells;go_wp2;clear z0 z1 z2 z3 z4 z5 z6 z7 z8 t0 t1 t2 t3 t4 t5 t6 t7 t8;generalize World.setCell _ ⟨_,8,none⟩ _=w9 at *;refine bodyPost_ret (v:=.tuple #[.agg #[int i64 0,int i64 1,int i64 wd,int i64 hg,slice a1 gs.length b1,slice a2 os.length b2,slice a3 n b3,slice a4 0 b4,slice a5 0 b5],.nilIface]) (by simp[results,Tryz.results38,go_sem,y0,y1,y2,y3,y4,y5,y6,y7,y8]) rfl ⟨_,_,rfl,by rw[F0.out];exact Er.nil,?_,KZ.out.below B3.out B3.out.size (by omega)⟩;rw[wI F0.out,Int.toNat_natCast];exact⟨_,_,_,_,_,rfl,(O3.out.1.kp KZ.out (by omega)).mono (by omega),(O3.out.2.1.kp KZ.out (by omega)).mono (by omega),(O3.out.2.2.1.kp KZ.out (by omega)).mono (by omega),(O3.out.2.2.2.1.kp KZ.out (by omega)).mono (by omega),(O3.out.2.2.2.2.kp KZ.out (by omega)).mono (by omega)⟩
end Go.Proofs.YtolfphmdmpehdaaGreatDoor
namespace Go.Proofs.YtolfphmdmpehdaaGreatDoor.Fd
def Vh(g:Int):UInt8:=if g=0 then 46 else if g=1 then 35 else if g=2 then 126 else 94
def qC(g o:Int):UInt8:=if o=0 then Vh g else if o%10=0/\o<=90 then(48+(o/10).toNat).toUInt8 else 43
def eU(W:Nat)(gs os:List Int)(r c:Nat):List UInt8:=(List.range c).map λj=>qC (gs.getD (r*W+j) 0) (os.getD (r*W+j) 0)
def jC(W:Nat)(gs os:List Int):Nat->List UInt8
 |0=>[]
 |r+1=>jC W gs os r++(eU W gs os r W++[10])
theorem jD(W:Nat)(gs os:List Int)(r c:Nat):eU W gs os r (c+1)=eU W gs os r c++[qC (gs.getD (r*W+c) 0) (os.getD (r*W+c) 0)]:=by
 unfold eU;rw[List.range_succ,List.map_append];rfl
structure St where
 c:Nat
 W:Nat
 H:Nat
 gs:List Int
 os:List Int
def st0:St:=⟨0,0,0,[],[]⟩
def meant(b:UInt8):Option (Int×Int):=
 if 49<=b.toNat/\b.toNat<=57 then some (0,((b.toNat:Int)-48)*10) else if b=46 then some (0,0) else if b=35 then some (1,0) else if b=126 then some (2,0) else if b=94 then some (3,0) else none
def step(s:St)(b:UInt8):Int ⊕ St:=
 if b=10 then(if s.c=0\/(0<s.H/\s.c≠s.W) then .inl 2 else .inr ⟨0,s.c,s.H+1,s.gs,s.os⟩)
 else match meant b with
  |none=>.inl 2
  |some (g,o)=>if 0<s.H/\s.c=s.W then .inl 2 else if s.c=12\/s.H=12 then .inl 4 else .inr ⟨s.c+1,s.W,s.H,s.gs++[g],s.os++[o]⟩
def run:St->Nat->List UInt8->(Nat×Int) ⊕ St
 |s,_,[]=>.inr s
 |s,i,b::bs=>match step s b with
  | .inl e=>.inl (i,e)
  | .inr s'=>run s' (i+1) bs
def parse(l:List UInt8):(Nat×Int) ⊕ St:=
 match run st0 0 l with
 | .inl x=>.inl x
 | .inr s=>if 0<s.c\/s.H=0 then .inl (l.length,2) else .inr s
theorem Kr(s:St)(i:Nat)(b:UInt8)(bs:List UInt8):run s i (b::bs)=match step s b with| .inl e=>.inl (i,e)| .inr s'=>run s' (i+1) bs:=rfl
def zy(g o:Int):Prop:=0<=g/\g<=3/\0<=o/\o<=90/\o%10=0/\(0<o->g=0)
theorem Ey{b:UInt8}{g o:Int}(h:meant b=some (g,o)):qC g o=b/\zy g o:=by
 unfold meant at h;split at h
 ·rename_i hb
  simp only[Option.some.injEq,Prod.mk.injEq] at h;obtain⟨rfl,rfl⟩:=h;have e1:(((b.toNat:Int)-48)*10)/10=(b.toNat:Int)-48:=by omega
  refine⟨?_,by unfold zy;omega⟩;unfold qC;rw[if_neg (by omega),if_pos (by omega),e1,show 48+((b.toNat:Int)-48).toNat=b.toNat by omega];exact UInt8.ofNat_toNat
 ·split at h
  ·rename_i hb
   simp only[Option.some.injEq,Prod.mk.injEq] at h;obtain⟨rfl,rfl⟩:=h;exact⟨by rw[hb];rfl,by unfold zy;omega⟩
  ·split at h
   ·rename_i hb
    simp only[Option.some.injEq,Prod.mk.injEq] at h;obtain⟨rfl,rfl⟩:=h;exact⟨by rw[hb];rfl,by unfold zy;omega⟩
   ·split at h
    ·rename_i hb
     simp only[Option.some.injEq,Prod.mk.injEq] at h;obtain⟨rfl,rfl⟩:=h;exact⟨by rw[hb];rfl,by unfold zy;omega⟩
    ·split at h
     ·rename_i hb
      simp only[Option.some.injEq,Prod.mk.injEq] at h;obtain⟨rfl,rfl⟩:=h;exact⟨by rw[hb];rfl,by unfold zy;omega⟩
     ·cases h
theorem lY{l:List Int}{x:Int}{i:Nat}(h:i<l.length):(l++[x]).getD i 0=l.getD i 0:=by
 rw[List.getD_eq_getElem?_getD,List.getD_eq_getElem?_getD,List.getElem?_append_left h]
theorem kJ{l:List Int}{x:Int}{i:Nat}(h:i=l.length):(l++[x]).getD i 0=x:=by
 subst h;rw[List.getD_eq_getElem?_getD,List.getElem?_append_right (Nat.le_refl _)];simp
theorem lZ{W:Nat}{gs os:List Int}{g o:Int}{r c:Nat}(h1:r*W+c<=gs.length)(h2:r*W+c<=os.length):eU W (gs++[g]) (os++[o]) r c=eU W gs os r c:=by
 induction c with
 |zero=>rfl
 |succ c ih=>
  rw[jD,jD,ih (by omega) (by omega),lY (by omega),lY (by omega)]
theorem wJ{W:Nat}{gs os:List Int}{g o:Int}{r:Nat}(h1:r*W<=gs.length)(h2:r*W<=os.length):jC W (gs++[g]) (os++[o]) r=jC W gs os r:=by
 induction r with
 |zero=>rfl
 |succ r ih=>
  rw[Nat.add_mul] at h1 h2;simp only[jC];rw[ih (by omega) (by omega),lZ (by omega) (by omega)]
theorem uq(W V:Nat)(gs os:List Int)(c:Nat):eU W gs os 0 c=eU V gs os 0 c:=by
 unfold eU;simp
structure Inv(s:St)(l:List UInt8):Prop where
 w0:s.H=0->s.W=0
 wp:0<s.H->0<s.W
 cw:0<s.H->s.c<=s.W
 c12:s.c<=12
 w12:s.W<=12
 h12:s.H<=12
 top:s.H=12->s.c=0
 gl:s.gs.length=s.H*s.W+s.c
 ol:s.os.length=s.H*s.W+s.c
 Vj:∀(i:Nat) g o,s.gs[i]? =some g->s.os[i]? =some o->zy g o
 text:l=jC s.W s.gs s.os s.H++eU s.W s.gs s.os s.H s.c
theorem inv0:Inv st0 []:=⟨λ_=>rfl,λh=>by simp[st0] at h,λh=>by simp[st0] at h,by simp[st0],by simp[st0],by simp[st0],λh=>by simp[st0] at h,rfl,rfl,λi g o h=>by simp[st0] at h,rfl⟩
theorem qx{l:List Int}{x y:Int}{i:Nat}(h:(l++[x])[i]? =some y):(i<l.length/\l[i]? =some y)\/(i=l.length/\y=x):=by
 rcases Nat.lt_or_ge i l.length with h1|h1
 ·left;rw[List.getElem?_append_left h1] at h;exact⟨h1,h⟩
 ·right
  rw[List.getElem?_append_right h1] at h;have h2:i-l.length=0:=by
   rcases Nat.eq_zero_or_pos (i-l.length) with h2|h2
   ·exact h2
   ·rw[List.getElem?_eq_none (by simp;omega)] at h;cases h
  rw[h2] at h;simp at h;exact⟨by omega,h.symm⟩
theorem Inv.step{s s':St}{l:List UInt8}{b:UInt8}(h:Inv s l)(hs:step s b=.inr s'):Inv s' (l++[b]):=by
 unfold Fd.step at hs;split at hs
 ·rename_i hb
  subst hb;split at hs
  ·cases hs
  ·rename_i hc
   injection hs with hs
   subst hs;have hc0:0<s.c:=by omega
   have hcw:0<s.H->s.c=s.W:=by omega
   have hh:s.H≠12:=λe=>by have:=h.top e;omega
   have h12:=h.h12;have c12:=h.c12
   have el:s.H*s.W+s.c=(s.H+1)*s.c:=by
    rcases Nat.eq_zero_or_pos s.H with e|e
    ·rw[e];simp
    ·rw[<-hcw e,Nat.add_mul,Nat.one_mul]
   refine⟨by simp,by simp;exact hc0,by simp,by simp,c12,by show s.H+1<=12;omega,by simp,?_,?_,h.Vj,?_⟩
   ·show s.gs.length=(s.H+1)*s.c+0;rw[h.gl,el];rfl
   ·show s.os.length=(s.H+1)*s.c+0;rw[h.ol,el];rfl
   ·show l++[10]=jC s.c s.gs s.os (s.H+1)++eU s.c s.gs s.os (s.H+1) 0
    rw[h.text];simp only[jC];rcases Nat.eq_zero_or_pos s.H with e|e
    ·rw[e,uq s.W s.c]
     simp[jC,eU]
    ·rw[<-hcw e]
     simp[eU]
 ·split at hs
  ·cases hs
  ·rename_i g o hm
   split at hs
   ·cases hs
   ·split at hs
    ·cases hs
    ·rename_i h1 h2
     injection hs with hs
     subst hs;obtain⟨e1,e2⟩:=Ey hm;have cw:=h.cw;have c12:=h.c12;have h12:=h.h12
     refine⟨h.w0,h.wp,λhp=>?_,?_,h.w12,h.h12,λe=>?_,?_,?_,?_,?_⟩
     ·show s.c+1<=s.W;have:=cw hp;have:0<s.H:=hp;omega
     ·show s.c+1<=12;omega
     ·exfalso;have:s.H=12:=e;omega
     ·show(s.gs++[g]).length=s.H*s.W+(s.c+1);rw[List.length_append,h.gl];rfl
     ·show(s.os++[o]).length=s.H*s.W+(s.c+1);rw[List.length_append,h.ol];rfl
     ·intro i g' o' hg ho
      rcases qx hg with⟨l1,q1⟩|⟨l1,q1⟩
      ·rcases qx ho with⟨l2,q2⟩|⟨l2,q2⟩
       ·exact h.Vj i g' o' q1 q2
       ·have:=h.gl;have:=h.ol;omega
      ·rcases qx ho with⟨l2,q2⟩|⟨l2,q2⟩
       ·have:=h.gl;have:=h.ol;omega
       ·rw[q1,q2];exact e2
     ·show l++[b]=jC s.W (s.gs++[g]) (s.os++[o]) s.H++eU s.W (s.gs++[g]) (s.os++[o]) s.H (s.c+1)
      have:=h.gl;have:=h.ol
      rw[wJ (by omega) (by omega),jD,lZ (by omega) (by omega),kJ (by omega),kJ (by omega),e1,h.text,List.append_assoc]
theorem Inv.run{s s':St}{l m:List UInt8}{i:Nat}(h:Inv s l)(hs:run s i m=.inr s'):Inv s' (l++m):=by
 induction m generalizing s l i with
 |nil=>
  simp only[Fd.run] at hs;injection hs with hs
  subst hs;simpa using h
 |cons b bs ih=>
  rw[Kr] at hs;cases hb:Fd.step s b with
  |inl e=>rw[hb] at hs;cases hs
  |inr s1=>
   rw[hb] at hs;have:=ih (h.step hb) hs;rwa[List.append_assoc] at this
section
variable {W H:Nat} {gs os:List Int} (G:Good W H gs os) (ht:∀o∈os,o<=90/\o%10=0)
include G ht
end
end Go.Proofs.YtolfphmdmpehdaaGreatDoor.Fd
namespace Go.Proofs.YtolfphmdmpehdaaGreatDoor
def SG:List Int:=[0,0,0,0,0,0,0,0]
def SO:List Int:=[0,0,0,0,0,0,30,0]
def S0:WV:=⟨0,1,4,2,SG,SO,[100,100],[],[]⟩
def S1:WV:=⟨0,2,4,2,SG,SO,[100,100],[⟨1,0,0,0,50,0,0,0⟩],[]⟩
def S2:WV:=⟨0,3,4,2,SG,SO,[100,100],[⟨1,0,0,0,50,0,0,0⟩,⟨2,0,1,1,10,0,0,0⟩],[]⟩
def S3:WV:=⟨0,4,4,2,SG,SO,[100,100],[⟨1,0,0,0,50,0,0,0⟩,⟨2,0,1,1,10,0,0,0⟩,⟨3,1,2,3,20,0,0,0⟩],[]⟩
theorem Kt:Fd.parse [46,46,46,46,10,46,46,51,46,10]=.inr ⟨0,4,2,SG,SO⟩:=by rfl
namespace So
def zA(o:aJ):Bool:=decide (o.what=3)
theorem rV{l:List aJ}:∀(q:Nat),q<=l.length->((kp l q).map Prod.fst).countP zA=(l.take q).countP zA
 |0,_=>by simp[kp]
 |q+1,h=>by
  have hq:q<l.length:=by omega
  have ih:=rV (l:=l) q (by omega);obtain⟨o,ho⟩:∃o,l[q]? =some o:=⟨_,List.getElem?_eq_getElem hq⟩;rw[List.take_succ_eq_append_getElem hq,List.countP_append,<-ih];have e:l[q]=o:=by have:=List.getElem?_eq_getElem hq;rw[ho] at this;exact(Option.some.inj this).symm
  rw[e];by_cases hc:o.what=3\/lf l l.length o.ay o.unit=(q:Nat)
  ·rw[qc ho hc,List.map_append,List.countP_append]
   rfl
  ·rw[PU ho hc]
   have h3:zA o=false:=by unfold zA;exact decide_eq_false (λh=>hc (.inl h))
   simp[h3]
theorem aY.Fv{l out:List aJ}(h:aY l out):out.countP zA=l.countP zA:=by
 obtain⟨S,p,r,rfl⟩:=h;have h1:=rV (l:=l) l.length (Nat.le_refl _);rw[List.take_length] at h1;rw[<-h1];exact(p.map Prod.fst).countP_eq zA
theorem aY.has{l out:List aJ}(h:aY l out){i:Nat}{o:aJ}(ho:l[i]? =some o)(h3:¬o.what=3)(hn:∀(k:Nat) x,i<k->k<l.length->l[k]? =some x->x.what=3\/x.ay≠o.ay\/x.unit≠o.unit):o∈out:=by
 obtain⟨S,p,r,rfl⟩:=h;have hi:i<l.length:=(List.getElem?_eq_some_iff.1 ho).1;exact List.mem_map.2 ⟨(o,i),p.mem_iff.2 (PV ho (.inr (t_ ho h3 hi hn)) hi),rfl⟩
theorem aY.once{l out:List aJ}(h:aY l out){i k:Nat}{x y:aJ}(hki:k<i)(hx:out[k]? =some x)(hy:out[i]? =some y)(h3:¬x.what=3)(h4:¬y.what=3)(hp:x.ay=y.ay):¬x.unit=y.unit:=by
 intro hu;obtain⟨S,p,r,rfl⟩:=h;rw[List.getElem?_map] at hx hy;obtain⟨a,ha,rfl⟩:=Option.map_eq_some_iff.1 hx;obtain⟨b,hb,rfl⟩:=Option.map_eq_some_iff.1 hy;obtain⟨-,-,ka⟩:=kW (p.mem_iff.1 (List.mem_of_getElem? ha));obtain⟨-,-,kb⟩:=kW (p.mem_iff.1 (List.mem_of_getElem? hb));have e1:=ka.resolve_left h3;have e2:=kb.resolve_left h4;rw[hp,hu,e2] at e1;have tg:S.Pairwise (λx y=>x.2≠y.2):=(p.symm.pairwise_iff (λ{a b} (h:a.2≠b.2)=>h.symm)).1 ((ku (l:=l) l.length).imp (λh=>by omega));obtain⟨la,ea⟩:=List.getElem?_eq_some_iff.1 ha;obtain⟨lb,eb⟩:=List.getElem?_eq_some_iff.1 hb;have:=List.pairwise_iff_getElem.1 tg k i la lb hki;rw[ea,eb] at this;omega
def l0:List aJ:=[⟨0,2,1,5⟩,⟨0,1,0,0⟩,⟨0,2,1,6⟩]
end So
namespace So
def Ro2(x y:aJ):Prop:=¬wR y x/\(¬x.what=3->¬y.what=3->x.ay=y.ay->¬x.unit=y.unit)
theorem aY.lo{l out:List aJ}(h:aY l out):out.Pairwise Ro2:=by
 rw[List.pairwise_iff_getElem];intro k i hk hi hki;refine⟨?_,λh3 h4 hp=>h.once hki (List.getElem?_eq_getElem hk) (List.getElem?_eq_getElem hi) h3 h4 hp⟩;obtain⟨S,p,r,rfl⟩:=h;simp only[List.length_map] at hk hi;have:=List.pairwise_iff_getElem.1 r k i hk hi hki;simp only[List.getElem_map];rcases this with h|h
 ·exact Ju h
 ·exact h.1
theorem Ku{out:List aJ}(h:out.Pairwise Ro2):∀q,q<=out.length->(kp out q).map Prod.fst=out.take q
 |0,_=>by simp[kp]
 |q+1,hq=>by
  have hl:q<out.length:=by omega
  obtain⟨o,ho⟩:∃o,out[q]? =some o:=⟨_,List.getElem?_eq_getElem hl⟩;have ih:=Ku h q (by omega);have hc:o.what=3\/lf out out.length o.ay o.unit=(q:Nat):=by
   by_cases h3:o.what=3
   ·exact .inl h3
   ·refine .inr (t_ ho h3 hl λk x h1 h2 hx=>?_)
    by_cases hx3:x.what=3
    ·exact .inl hx3
    ·refine .inr ?_
     have:=(List.pairwise_iff_getElem.1 h q k hl h2 h1).2;have e1:out[q]=o:=by have:=List.getElem?_eq_getElem hl;rw[ho] at this;exact(Option.some.inj this).symm
     have e2:out[k]=x:=by have:=List.getElem?_eq_getElem h2;rw[hx] at this;exact(Option.some.inj this).symm
     rw[e1,e2] at this;by_cases hp:x.ay=o.ay
     ·exact .inr (λhu=>this h3 hx3 hp.symm hu.symm)
     ·exact .inl hp
  have e1:out[q]=o:=by have:=List.getElem?_eq_getElem hl;rw[ho] at this;exact(Option.some.inj this).symm
  rw[qc ho hc,List.map_append,ih,List.take_succ_eq_append_getElem hl,e1];rfl
theorem uw{out:List aJ}(h:out.Pairwise Ro2):aY out out:=by
 have e:=Ku h out.length (Nat.le_refl _);rw[List.take_length] at e;refine⟨kp out out.length,List.Perm.refl _,?_,e.symm⟩;have h1:=ku (l:=out) out.length;have h2:((kp out out.length).map Prod.fst).Pairwise Ro2:=by rw[e];exact h
 rw[List.pairwise_map] at h2;exact(h1.and h2).imp λ⟨a,b⟩=>.inr ⟨b.1,a⟩
theorem aY.fault{l out:List aJ}(h:aY l out)(hf:Od.faults l=0):Od.faults out=0:=by
 obtain⟨h1,h2⟩:=Od.fP hf;exact Od.qQ (Nat.le_trans h.len h1) λo ho=>h2 o (h.mem ho)
def l1:List aJ:=[⟨1,7,1,5⟩,⟨1,7,0,0⟩]
end So
open Go.Proofs.YtolfphmdmpehdaaGreatDoor.So Go.RowKit
namespace Wy
def snd(nb:Nat->List Int)(st:Nat->Nat->Int)(t:Nat)(l:List Int)(n:Nat):Bool:=(List.range n).all λi=>(decide (i=t)&&decide (l.getD i 0=0))||(nb i).any λx=>decide (0<=x)&&decide (0<st i x.toNat)&&decide (0<=l.getD x.toNat (-1))&&decide (l.getD i 0=st i x.toNat+l.getD x.toNat (-1))
theorem Ez{nb:Nat->List Int}{st:Nat->Nat->Int}{t:Nat}{l:List Int}{n:Nat}(hn:l.length=n)(h:snd nb st t l n=true):Sound nb st t l:=by
 have key:∀(m i:Nat) (x:Int),l[i]? =some x->x<=(m:Int)->Way nb st t i x:=by
  intro m
  induction m using Nat.strongRecOn with
  |ind m ih=>
   intro i x hx hm;have hi:i<n:=by rw[<-hn];exact(List.getElem?_eq_some_iff.1 hx).1
   unfold snd at h;rw[List.all_eq_true] at h;have h1:=h i (List.mem_range.2 hi);have hg:l.getD i 0=x:=by rw[List.getD_eq_getElem?_getD,hx];rfl
   rw[Bool.or_eq_true] at h1;rcases h1 with h1|h1
   ·rw[Bool.and_eq_true,decide_eq_true_eq,decide_eq_true_eq,hg] at h1
    obtain⟨rfl,rfl⟩:=h1;exact .here
   ·rw[List.any_eq_true] at h1
    obtain⟨y,hy,h2⟩:=h1;simp only[Bool.and_eq_true,decide_eq_true_eq,hg] at h2;obtain⟨⟨⟨h3,h4⟩,h5⟩,h6⟩:=h2;have hyl:∃z,l[y.toNat]? =some z/\l.getD y.toNat (-1)=z:=by
     rw[List.getD_eq_getElem?_getD] at h5 ⊢;cases e:l[y.toNat]? with
     |none=>rw[e] at h5;simp at h5
     |some z=>exact⟨z,rfl,rfl⟩
    obtain⟨z,hz,ez⟩:=hyl;rw[ez] at h5 h6;have hz0:z<(m:Int):=by omega
    have hw:=ih z.toNat (by omega) y.toNat z hz (by omega);rw[h6];exact .step (by rw[Int.toNat_of_nonneg h3];exact hy) h4 hw
 intro i x hx;by_cases h0:0<=x
 ·exact .inr (key x.toNat i x hx (by omega))
 ·exact .inr (key 0 i x hx (by omega))
theorem mD{W H:Nat}{st:Nat->Nat->Int}{t:Nat}{l:List Int}(hW:0<W)(h1:l.length=W*H)(h2:l[t]? =some 0)(h3:snd (Fd.near W H) st t l (W*H)=true)(h4:RY (Fd.near W H) st l (W*H)=true):bD (Fd.near W H) st t (W*H) l:=by
 refine xH h1 ?_ h2 (Ez h1 h3) (wH h4);intro i j hi hj;obtain⟨t,h1,h2,-⟩:=Fd.mP (W:=W) (H:=H) hW hi hj;omega
theorem jh{l:List Int}(h:l.all (λx=>decide (x<0\/x+2<=2*told l))=true):Flat l:=by
 intro i x hx;rw[List.all_eq_true] at h;have:=h x (List.mem_of_getElem? hx);simpa using this
theorem qy{nb:Nat->List Int}{ss l:List Int}{i j:Nat}(k:Nat)(h1:(nb i)[k]? =some (j:Int))(h2:pn ss l i j=true)(h3:((nb i).take k).any (pn ss l i)=false):Nx nb ss l i j:=⟨k,h1,h2,h3⟩
end Wy
open Wy
def OB:KV:=⟨⟨#[98,97,115,101]⟩,50,0,0,0,0,0,0,0,false,true⟩
def OD:KV:=⟨⟨#[100,105,103,103,101,114]⟩,10,0,0,0,2,0,0,20,false,false⟩
def OK:List KV:=[OB,OD]
def Qh:List Int:=SG.map λg=>Fd.onto g false
def ob:aB:=⟨1,0,0,0,50,0,0,0⟩
def od(a ld tk g:Int):aB:=⟨2,0,1,a,10,ld,tk,g⟩
def OW(tn:Int)(ru:Int)(gold:Int)(d:aB):WV:=⟨tn,3,4,2,SG,[0,0,0,0,0,0,ru,0],[gold],[ob,d],[]⟩
def l0:List Int:=[0,1,2,3,1,2,3,4]
def l6:List Int:=[3,2,1,2,2,1,0,1]
def l2:List Int:=[2,1,0,1,3,2,1,2]
def l1:List Int:=[1,0,1,2,2,1,2,3]
theorem Vk:bD (Fd.near 4 2) (λ_ j=>Qh.getD j 0) 0 8 l0:=mD (W:=4) (H:=2) (by decide) rfl rfl (by decide+kernel) (by decide+kernel)
theorem XT:bD (Fd.near 4 2) (λ_ j=>Qh.getD j 0) 6 8 l6:=mD (W:=4) (H:=2) (by decide) rfl rfl (by decide+kernel) (by decide+kernel)
theorem Vl:bD (Fd.near 4 2) (λi _=>Qh.getD i 0) 6 8 l6:=mD (W:=4) (H:=2) (by decide) rfl rfl (by decide+kernel) (by decide+kernel)
theorem Vm:bD (Fd.near 4 2) (λi _=>Qh.getD i 0) 2 8 l2:=mD (W:=4) (H:=2) (by decide) rfl rfl (by decide+kernel) (by decide+kernel)
theorem Vo:bD (Fd.near 4 2) (λi _=>Qh.getD i 0) 1 8 l1:=mD (W:=4) (H:=2) (by decide) rfl rfl (by decide+kernel) (by decide+kernel)
theorem RZ(tn ru gold:Int)(d:aB):dP OK (OW tn ru gold d) 4 2 ob OB 0:=⟨0,0,l0,rfl,.inl ⟨rfl,rfl⟩,by decide,⟨Vk,jh (by decide+kernel)⟩,.inr ⟨by decide,.inl ⟨rfl,rfl⟩⟩⟩
theorem zB(tn ru gold:Int)(d:aB):Goes OK (OW tn ru gold d) 4 2 OB 0 [ob,d] OB.n4 [] [ob,d]:=
 .stop (u:=ob) (c:=0) (gg:=0) rfl (RZ tn ru gold d) rfl (.inl (by decide))
theorem uy(tn ru gold:Int){a c:Nat}{ld:Int}(h1:(ld==20||ru==0)=false)(h2:Pz (Fd.near 4 2) Qh l6 6 a c)(h3:0<=l6.getD a 0):dP OK (OW tn ru gold (od a ld 2 6)) 4 2 (od a ld 2 6) OD c:=
 ⟨a,6,l6,rfl,.inr (.inl ⟨by simp[od],λh=>by
  have h9:jS (OW tn ru gold (od a ld 2 6)).os (od a ld 2 6) OD=(ld==20||ru==0):=rfl;rw[h9,h1] at h;exact Bool.noConfusion h.2,rfl⟩),by decide,⟨XT,jh (by decide+kernel)⟩,.inr ⟨h3,h2⟩⟩
theorem zC(tn ru gold:Int){a c:Nat}{l:List Int}(hl:bD (Fd.near 4 2) (λi _=>Qh.getD i 0) a 8 l)(hf:Flat l)(hh:jr OK [ob,od a 20 2 6] l (od a 20 2 6)=0)(h2:Pz (Fd.near 4 2) Qh l0 0 a c)(h3:0<=l0.getD a 0):dP OK (OW tn ru gold (od a 20 2 6)) 4 2 (od a 20 2 6) OD c:=
 ⟨a,0,l0,rfl,.inr (.inr ⟨rfl,rfl,l,⟨hl,hf⟩,hh.symm⟩),by decide,⟨Vk,jh (by decide+kernel)⟩,.inr ⟨h3,h2⟩⟩
theorem R_:∃evs,Moves OK (OW 0 30 0 (od 1 0 2 6)) 4 2 0 [ob,od 1 0 2 6] evs [ob,od 6 0 2 6]:=by
 have g3:Goes OK (OW 0 30 0 (od 1 0 2 6)) 4 2 OD 1 [ob,od 6 0 2 6] 0 [] [ob,od 6 0 2 6]:=.stop (u:=od 6 0 2 6) (c:=6) (gg:=0) rfl (uy 0 30 0 (a:=6) (by decide) (.inl ⟨rfl,rfl⟩) (by decide)) rfl (.inl (by decide));have g2:Goes OK (OW 0 30 0 (od 1 0 2 6)) 4 2 OD 1 [ob,od 2 0 2 6] 1 [6] [ob,od 6 0 2 6]:=.step (u:=od 2 0 2 6) (c:=6) (gg:=0) rfl (uy 0 30 0 (a:=2) (by decide) (.inr ⟨by decide,qy 2 (by decide+kernel) (by decide+kernel) (by decide+kernel)⟩) (by decide)) rfl (by decide) (by decide) g3;have g1:Goes OK (OW 0 30 0 (od 1 0 2 6)) 4 2 OD 1 [ob,od 1 0 2 6] OD.n4 [2,6] [ob,od 6 0 2 6]:=.step (u:=od 1 0 2 6) (c:=2) (gg:=0) rfl (uy 0 30 0 (a:=1) (by decide) (.inr ⟨by decide,qy 1 (by decide+kernel) (by decide+kernel) (by decide+kernel)⟩) (by decide)) rfl (by decide) (by decide) g2;exact⟨_,.unit (u:=ob) (k:=OB) (u1:=ob) rfl rfl (zB _ _ _ _) rfl (.unit (u:=od 1 0 2 6) (k:=OD) (u1:=od 6 0 2 6) rfl rfl g1 rfl (.done rfl))⟩
theorem Si:∃evs,Moves OK (OW 1 20 0 (od 6 10 2 6)) 4 2 0 [ob,od 6 10 2 6] evs [ob,od 6 10 2 6]:=by
 have g1:Goes OK (OW 1 20 0 (od 6 10 2 6)) 4 2 OD 1 [ob,od 6 10 2 6] OD.n4 [] [ob,od 6 10 2 6]:=.stop (u:=od 6 10 2 6) (c:=6) (gg:=0) rfl (uy 1 20 0 (a:=6) (by decide) (.inl ⟨rfl,rfl⟩) (by decide)) rfl (.inr (by decide));exact⟨_,.unit (u:=ob) (k:=OB) (u1:=ob) rfl rfl (zB _ _ _ _) rfl (.unit (u:=od 6 10 2 6) (k:=OD) (u1:=od 6 10 2 6) rfl rfl g1 rfl (.done rfl))⟩
theorem Sj:∃evs,Moves OK (OW 2 10 0 (od 6 20 2 6)) 4 2 0 [ob,od 6 20 2 6] evs [ob,od 1 20 2 6]:=by
 have g3:Goes OK (OW 2 10 0 (od 6 20 2 6)) 4 2 OD 1 [ob,od 1 20 2 6] 0 [] [ob,od 1 20 2 6]:=.stop (u:=od 1 20 2 6) (c:=0) (gg:=0) rfl (zC 2 10 0 (a:=1) Vo (jh (by decide+kernel)) (by decide+kernel) (.inr ⟨by decide,qy 0 (by decide+kernel) (by decide+kernel) (by decide+kernel)⟩) (by decide)) rfl (.inl (by decide));have g2:Goes OK (OW 2 10 0 (od 6 20 2 6)) 4 2 OD 1 [ob,od 2 20 2 6] 1 [1] [ob,od 1 20 2 6]:=.step (u:=od 2 20 2 6) (c:=1) (gg:=0) rfl (zC 2 10 0 (a:=2) Vm (jh (by decide+kernel)) (by decide+kernel) (.inr ⟨by decide,qy 0 (by decide+kernel) (by decide+kernel) (by decide+kernel)⟩) (by decide)) rfl (by decide) (by decide) g3;have g1:Goes OK (OW 2 10 0 (od 6 20 2 6)) 4 2 OD 1 [ob,od 6 20 2 6] OD.n4 [2,1] [ob,od 1 20 2 6]:=.step (u:=od 6 20 2 6) (c:=2) (gg:=0) rfl (zC 2 10 0 (a:=6) Vl (jh (by decide+kernel)) (by decide+kernel) (.inr ⟨by decide,qy 0 (by decide+kernel) (by decide+kernel) (by decide+kernel)⟩) (by decide)) rfl (by decide) (by decide) g2;exact⟨_,.unit (u:=ob) (k:=OB) (u1:=ob) rfl rfl (zB _ _ _ _) rfl (.unit (u:=od 6 20 2 6) (k:=OD) (u1:=od 1 20 2 6) rfl rfl g1 rfl (.done rfl))⟩
def oo:aJ:=⟨0,2,2,6⟩
def OX:WV:=OW 0 30 0 (od 1 0 0 0)
theorem gv1:(gv OK OX [oo] 1).1=OW 0 30 0 (od 1 0 2 6):=by rfl
theorem XW:Ls OK 4 2 (OW 0 30 0 (od 6 0 2 6))=OW 0 20 0 (od 6 10 2 6):=by rfl
theorem X_:Ls OK 4 2 (OW 1 20 0 (od 6 10 2 6))=OW 1 10 0 (od 6 20 2 6):=by rfl
theorem Yd:Ls OK 4 2 (OW 2 10 0 (od 1 20 2 6))=OW 2 10 20 (od 1 0 2 6):=by rfl
theorem Ye(tn ru gold a ld:Int)(h:True):iW OK 4 (OW tn ru gold (od a ld 2 6))=OW tn ru gold (od a ld 2 6):=by rfl
theorem Kv{A B C:WV}{us:List aB}{evs:List bP}(hq:A.qs=[])(hm:Moves OK A 4 2 0 A.us evs us)(hb:{A with us:=us}=B)(hd:Ls OK 4 2 B=C)(hf:iW OK 4 C=C):∃es,Ph OK 4 2 A 4 C es:=by
 have t:Tr OK A A.qs.length A [] []:=by rw[hq];exact .zero
 have p1:Ph OK 4 2 A 1 {A with qs:=[]} []:=.one t;have e:{A with qs:=[]}=A:=by rw[<-hq]
 rw[e] at p1;have p2:=Ph.two p1 hm;rw[hb] at p2;have p3:=Ph.three p2;rw[hd] at p3;have p4:=Ph.four p3;rw[hf] at p4;exact⟨_,p4⟩
theorem step1:∃es,kH OK OX [oo] (OW 1 20 0 (od 6 10 2 6)) es:=by
 obtain⟨evs,hm⟩:=R_;obtain⟨es,hp⟩:=Kv (A:=OW 0 30 0 (od 1 0 2 6)) rfl hm rfl XW (Ye _ _ _ _ _ trivial);exact⟨es,[oo],4,2,_,uw (by simp),rfl,rfl,by rw[show[oo].length=1 from rfl,gv1];exact hp,rfl⟩
theorem step2:∃es,kH OK (OW 1 20 0 (od 6 10 2 6)) [] (OW 2 10 0 (od 6 20 2 6)) es:=by
 obtain⟨evs,hm⟩:=Si;obtain⟨es,hp⟩:=Kv (A:=OW 1 20 0 (od 6 10 2 6)) rfl hm rfl X_ (Ye _ _ _ _ _ trivial);exact⟨es,[],4,2,_,uw (by simp),rfl,rfl,hp,rfl⟩
theorem step3:∃es,kH OK (OW 2 10 0 (od 6 20 2 6)) [] (OW 3 10 20 (od 1 0 2 6)) es:=by
 obtain⟨evs,hm⟩:=Sj;obtain⟨es,hp⟩:=Kv (A:=OW 2 10 0 (od 6 20 2 6)) rfl hm rfl Yd (Ye _ _ _ _ _ trivial);exact⟨es,[],4,2,_,uw (by simp),rfl,rfl,hp,rfl⟩
theorem Vp:Wd.aC OK OX=0:=by decide+kernel
theorem Kw:aZ OK OX [oo]=0:=by decide+kernel
theorem Ky:aZ OK (OW 1 20 0 (od 6 10 2 6)) []=0:=by decide+kernel
theorem Kz:aZ OK (OW 2 10 0 (od 6 20 2 6)) []=0:=by decide+kernel
theorem Vq:iE OK OX [[oo],[],[]] 0 OX:=.zero
theorem Qi:iE OK OX [[oo],[],[]] 1 (OW 1 20 0 (od 6 10 2 6)):=by
 obtain⟨es,h⟩:=step1;exact .turn .zero rfl Kw h
theorem Qj:iE OK OX [[oo],[],[]] 2 (OW 2 10 0 (od 6 20 2 6)):=by
 obtain⟨es,h⟩:=step2;exact .turn Qi rfl Ky h
theorem Vr:iE OK OX [[oo],[],[]] 3 (OW 3 10 20 (od 1 0 2 6)):=by
 obtain⟨es,h⟩:=step3;exact .turn Qj rfl Kz h
theorem KD{F:Int}{w w':World}{v r:Value}(hs:gV OK OX [[oo],[],[]] F w w' v)(he:Er r F):r=.nilIface/\Wo w' w.heap.size v (OW 3 10 20 (od 1 0 2 6)):=by
 rcases hs with⟨hn,-,h1|h1|⟨-,-,n,Z,l,p,hl',hf⟩⟩|⟨rfl,h1,h2,B,h3,h4⟩
 ·exact absurd Vp h1.1
 ·have:=h1.2.1;simp at this
 ·exfalso
  have hn2:n<3:=(List.getElem?_eq_some_iff.1 hl').1
  match n,hn2,hl',p with
  |0,_,h,p=>
   obtain rfl:=kD Vq p;simp at h;subst h;exact hn (hf.symm.trans Kw)
  |1,_,h,p=>
   obtain rfl:=kD Qi p;simp at h;subst h;exact hn (hf.symm.trans Ky)
  |2,_,h,p=>
   obtain rfl:=kD Qj p;simp at h;subst h;exact hn (hf.symm.trans Kz)
 ·refine⟨?_,?_⟩
  ·rcases he with⟨-,h⟩|⟨h,-⟩
   ·exact h
   ·exact absurd rfl h
  ·rw[kD Vr h3]
   exact h4
end Go.Proofs.YtolfphmdmpehdaaGreatDoor
namespace Go.Proofs.YtolfphmdmpehdaaGreatDoor
open Go.RowKit
theorem KE(s:ByteArray)(c:Int)(w:World):
 Calls Tryz.prog 173 #[.string s,.int .u8 c] w λe w'=>e=.returned (int i64 (Lib.indexByte s.data.toList c.toNat.toUInt8))/\w'=w:=by
 have hx:=run_callFunc_extern (w:=w) (args:= #[.string s,.int .u8 c]) Tryz.func213 (by kernel_rfl) (by kernel_rfl) (by kernel_rfl) (e:=Extern.BytealgIndexByte.indexByte) (by kernel_rfl);go_enter Tryz.func173,Tryz.ntmps173;go_wp2;rw[Lib.run_indexByteString];simp only[Result.andThen];rw[Oper.upon_value];go_wp2;go_ret;exact⟨rfl,rfl⟩
theorem KG(s:ByteArray)(c:Int)(w:World):
 Calls Tryz.prog 137 #[.string s,.int .u8 c] w λe w'=>e=.returned (int i64 (Lib.indexByte s.data.toList c.toNat.toUInt8))/\w'=w:=by
 have K:Hid (Calls Tryz.prog 173 #[.string s,.int .u8 c] w λe w'=>e=.returned (int i64 (Lib.indexByte s.data.toList c.toNat.toUInt8))/\w'=w):=KE s c w;go_enter Tryz.func137,Tryz.ntmps137;go_wp2_with fail
 refine Calls.mono K.out ?_;rintro e w' ⟨rfl,rfl⟩;go_wp2;go_ret;exact⟨rfl,rfl⟩
namespace Fd
def uz(b:UInt8):Int:=if b=46 then 0 else if b=35 then 1 else if b=126 then 2 else if b=94 then 3 else -1
theorem zD(b:UInt8)(h:¬(49<=b.toNat/\b.toNat<=57)):meant b=if 0<=uz b then some (uz b,0) else none:=by
 unfold meant uz;rw[if_neg h];split
 ·rfl
 ·split
  ·rfl
  ·split
   ·rfl
   ·split
    ·rfl
    ·rfl
end Fd
theorem KH(b:UInt8):Lib.indexByte [46,35,126,94] b=Fd.uz b:=by
 unfold Fd.uz;by_cases h1:b=46
 ·subst h1;decide
 ·by_cases h2:b=35
  ·subst h2;decide
  ·by_cases h3:b=126
   ·subst h3;decide
   ·by_cases h4:b=94
    ·subst h4;decide
    ·have g1:¬46=b:=λh=>h1 h.symm
     have g2:¬35=b:=λh=>h2 h.symm
     have g3:¬126=b:=λh=>h3 h.symm
     have g4:¬94=b:=λh=>h4 h.symm
     simp[Lib.indexByte,h1,h2,h3,h4,g1,g2,g3,g4]
theorem EH(b:UInt8)(w:World):
 Calls Tryz.prog 131 #[.int .u8 (b.toNat:Nat)] w λe w'=>(∃g o,Fd.meant b=some (g,o)/\e=.returned (.tuple #[int i64 g,int i64 o,.bool true])/\w'=w)\/(Fd.meant b=none/\e=.returned (.tuple #[int i64 (-1),int i64 0,.bool false])/\w'=w):=by
 have hb:=b.toNat_lt;by_cases h:49<=b.toNat/\b.toNat<=57
 ·have e:Fd.meant b=some (0,((b.toNat:Int)-48)*10):=by unfold Fd.meant;rw[if_pos h]
  have E:Hid _:=e;obtain⟨h1,h2⟩:=h;clear e;generalize b.toNat=n at *;have w1:IntKind.u8.wrap ((n:Int)-48)=(n:Int)-48:=by rw[IntKind.wrap_u8];omega
  go_enter Tryz.func131,Tryz.ntmps131;go_wp2;go_ret3;exact .inl ⟨_,_,E.out,rfl,rfl⟩
 ·have e:=Fd.zD b h
  have I:Hid (Calls Tryz.prog 137 #[.string ⟨#[46,35,126,94]⟩,.int .u8 (b.toNat:Nat)] w λe w'=>e=.returned (int i64 (Fd.uz b))/\w'=w):=by
   refine(KG ⟨#[46,35,126,94]⟩ (b.toNat:Nat) w).mono ?_;rintro e w' ⟨rfl,rfl⟩;refine⟨?_,rfl⟩;have e2:((b.toNat:Nat):Int).toNat.toUInt8=b:=by rw[Int.toNat_natCast];exact UInt8.ofNat_toNat
   rw[e2];rw[<-KH b]
  have gl: -1<=Fd.uz b:=by unfold Fd.uz;split<;>(try split)<;>(try split)<;>(try split)<;>omega
  generalize Fd.uz b=g at *;by_cases hg:0<=g
  ·have E:Hid (Fd.meant b=some (g,0)):=by unfold Hid;rw[e,if_pos hg]
   clear e;by_cases h1:49<=b.toNat
   ·have h2:¬b.toNat<=57:=by omega
    clear h;go_enter Tryz.func131,Tryz.ntmps131;go_wp2_with fail
    refine Calls.mono I.out ?_;rintro e w' ⟨rfl,rfl⟩;go_wp2;go_ret3;exact .inl ⟨_,_,E.out,rfl,rfl⟩
   ·clear h
    go_enter Tryz.func131,Tryz.ntmps131;go_wp2_with fail
    refine Calls.mono I.out ?_;rintro e w' ⟨rfl,rfl⟩;go_wp2;go_ret3;exact .inl ⟨_,_,E.out,rfl,rfl⟩
  ·obtain rfl:g= -1:=by omega
   have E:Hid (Fd.meant b=none):=by unfold Hid;rw[e,if_neg hg]
   clear e gl hg;by_cases h1:49<=b.toNat
   ·have h2:¬b.toNat<=57:=by omega
    clear h;go_enter Tryz.func131,Tryz.ntmps131;go_wp2_with fail
    refine Calls.mono I.out ?_;rintro e w' ⟨rfl,rfl⟩;go_wp2;go_ret3;exact .inr ⟨E.out,rfl,rfl⟩
   ·clear h
    go_enter Tryz.func131,Tryz.ntmps131;go_wp2_with fail
    refine Calls.mono I.out ?_;rintro e w' ⟨rfl,rfl⟩;go_wp2;go_ret3;exact .inr ⟨E.out,rfl,rfl⟩
structure Two(w:World)(base:Nat)(u1 u2:Value)(gs os:List Int):Prop where
 o1:Ow w base u1 gs
 o2:Ow w base u2 os
 ne:∀k,u1.ownBlock=some k->u2.ownBlock≠some k
theorem Two.below{w w':World}{base n:Nat}{u1 u2:Value}{gs os:List Int}(h:Two w base u1 u2 gs os)(hb:Below n w w')(hn:w.heap.size<=n):Two w' base u1 u2 gs os:=
 ⟨h.o1.below (hb.mono hn),h.o2.below (hb.mono hn),h.ne⟩
theorem Two.kp{w w':World}{base z:Nat}{u1 u2:Value}{gs os:List Int}(h:Two w base u1 u2 gs os)(hk:Kp z w w')(hz:z<base):Two w' base u1 u2 gs os:=by
 have hg:w.grownBy w' (some z):=⟨hk.os,hk.tape,hk.output,hk.size,λk hk' hne=>hk.block k hk' (λe=>hne (by rw[e]))⟩;refine⟨h.o1.kept hg ?_,h.o2.kept hg ?_,h.ne⟩
 ·right;intro e;have:=(h.o1.block z e).1;omega
 ·right;intro e;have:=(h.o2.block z e).1;omega
def Dt(w:World)(z:Nat)(u1 u2:Value)(s:Fd.St):Prop:=w.heap[z]? =some (.cells #[int i64 (s.W:Nat),int i64 (s.H:Nat),u1,u2,int i64 (s.c:Nat)] 129 (0,0))
def Dr(w:World)(z:Nat)(s:Fd.St):Prop:=∃u1 u2,Dt w z u1 u2 s/\Two w (z+1) u1 u2 s.gs s.os
section
variable {w:World} {z:Nat} {u1 u2:Value} {s:Fd.St}
theorem Dt.c0(h:Dt w z u1 u2 s):w.cell? ⟨z,0,none⟩=some (int i64 (s.W:Nat)):=by unfold Dt at h;simp[World.cell?,h]
theorem Dt.c1(h:Dt w z u1 u2 s):w.cell? ⟨z,1,none⟩=some (int i64 (s.H:Nat)):=by unfold Dt at h;simp[World.cell?,h]
theorem Dt.c2(h:Dt w z u1 u2 s):w.cell? ⟨z,2,none⟩=some u1:=by unfold Dt at h;simp[World.cell?,h]
theorem Dt.c3(h:Dt w z u1 u2 s):w.cell? ⟨z,3,none⟩=some u2:=by unfold Dt at h;simp[World.cell?,h]
theorem Dt.c4(h:Dt w z u1 u2 s):w.cell? ⟨z,4,none⟩=some (int i64 (s.c:Nat)):=by unfold Dt at h;simp[World.cell?,h]
theorem Dt.fz(h:Dt w z u1 u2 s)(i:Nat):w.frozen? ⟨z,i,none⟩=false:=by unfold Dt at h;simp[World.frozen?,h]
theorem Dt.lt(h:Dt w z u1 u2 s):z<w.heap.size:=lt_of_block h
theorem Dt.below{w':World}{n:Nat}(h:Dt w z u1 u2 s)(hb:Below n w w')(hz:z<n):Dt w' z u1 u2 s:=(hb.block z hz).trans h
end
theorem OU(z:Nat)(u1 u2:Value)(s:Fd.St)(w:World)(h:Dt w z u1 u2 s)(hc:s.c<=12)(hw:s.W<=12)(hb:s.c=0\/s.c<s.W):
 Calls Tryz.prog 130 #[.pointer (some ⟨z,0,none⟩)] w λe w'=>e=.returned (.iface 85 (int i64 2))/\∃n,w'=w.drewN n:=by
 have c0:=h.c0;have c4:=h.c4;obtain⟨c,W,H,gs,os⟩:=s;simp only at hc hw hb c0 c4;clear h;by_cases q:c=0
 ·subst q
  go_enter Tryz.func130,Tryz.ntmps130;go_wp2_with fail
  go_quiet (fail);go_wp2;go_ret;exact⟨rfl,_,rfl⟩
 ·have q2:c<W:=by omega
  have q':((c:Int)==0)=false:=by rw[beq_eq_false_iff_ne];omega
  clear hb;go_enter Tryz.func130,Tryz.ntmps130;go_wp2_with fail
  go_quiet (fail);go_wp2;go_ret;exact⟨rfl,_,rfl⟩
theorem Sm(z:Nat)(u1 u2:Value)(s:Fd.St)(w:World)(h:Dt w z u1 u2 s)(hc:s.c<=12)(hw:s.W<=12)(hh:s.H<=12)(h0:s.c≠0)(h1:¬s.c<s.W):
 Calls Tryz.prog 130 #[.pointer (some ⟨z,0,none⟩)] w λe w'=>e=.returned .nilIface/\Dt w' z u1 u2 ⟨0,s.c,s.H+1,s.gs,s.os⟩/\Kp z w w':=by
 have D:Hid (Dt w z u1 u2 s):=h;have c0:=h.c0;have c1:=h.c1;have c4:=h.c4;have f0:=h.fz 0;have f1:=h.fz 1;have f4:=h.fz 4;obtain⟨c,W,H,gs,os⟩:=s;simp only at hc hw hh h0 h1 c0 c1 c4;have q':((c:Int)==0)=false:=by rw[beq_eq_false_iff_ne];omega
 clear h;go_enter Tryz.func130,Tryz.ntmps130;go_wp2_with fail
 go_quiet (fail);have Dq:Hid (Dt (w.drewN nq) z u1 u2 ⟨c,W,H,gs,os⟩):=D.out;have Kq:Hid (Kp z w (w.drewN nq)):=(Kp.refl z w).drewN nq;have c0:(w.drewN nq).cell? ⟨z,0,none⟩=some (int i64 (W:Nat)):=Dq.out.c0;have c1:(w.drewN nq).cell? ⟨z,1,none⟩=some (int i64 (H:Nat)):=Dq.out.c1;have c4:(w.drewN nq).cell? ⟨z,4,none⟩=some (int i64 (c:Nat)):=Dq.out.c4;have f0:=Dq.out.fz 0;have f1:=Dq.out.fz 1;have f4:=Dq.out.fz 4;generalize w.drewN nq=w1 at *;go_wp2;go_ret;refine⟨rfl,?_,?_⟩
 ·unfold Dt
  rw[heap_setCell_same _ z 4 _ _ _ (heap_setCell_same _ z 1 _ _ _ (heap_setCell_same w1 z 0 _ _ _ Dq.out))];simp
 ·exact((Kq.out.trans (Kp.set _ _ _)).trans (Kp.set _ _ _)).trans (Kp.set _ _ _)
structure zF(s:Fd.St):Prop where
 w0:s.H=0->s.W=0
 cw:0<s.H->s.c<=s.W
 c12:s.c<=12
 w12:s.W<=12
 h12:s.H<=12
 gl:s.gs.length<=156
 ol:s.os.length<=156
theorem zF.of{s:Fd.St}{l:List UInt8}(h:Fd.Inv s l):zF s:=by
 have e:s.H*s.W<=144:=Nat.mul_le_mul h.h12 h.w12;have:=h.c12;exact⟨h.w0,h.cw,h.c12,h.w12,h.h12,by rw[h.gl];omega,by rw[h.ol];omega⟩
theorem KI{s:Fd.St}(h:zF s):Fd.step s 10=if s.c=0\/s.c<s.W then .inl 2 else .inr ⟨0,s.c,s.H+1,s.gs,s.os⟩:=by
 unfold Fd.step;rw[if_pos rfl];have:=h.w0;have:=h.cw
 by_cases q:s.c=0\/(0<s.H/\s.c≠s.W)
 ·rw[if_pos q,if_pos (by omega)]
 ·rw[if_neg q,if_neg (by omega)]
theorem step_none{s:Fd.St}{b:UInt8}(hb:b≠10)(hm:Fd.meant b=none):Fd.step s b=.inl 2:=by
 unfold Fd.step;rw[if_neg hb,hm]
theorem step_some{s:Fd.St}{b:UInt8}{g o:Int}(hb:b≠10)(hm:Fd.meant b=some (g,o)):Fd.step s b=if 0<s.H/\s.c=s.W then .inl 2 else if s.c=12\/s.H=12 then .inl 4 else .inr ⟨s.c+1,s.W,s.H,s.gs++[g],s.os++[o]⟩:=by
 unfold Fd.step;rw[if_neg hb,hm]
theorem KJ(z:Nat)(s:Fd.St)(w:World)(h:Dr w z s)(ok:zF s):
 Calls Tryz.prog 81 #[.pointer (some ⟨z,0,none⟩),.int .u8 10] w λe w'=>(∃f,Fd.step s 10=.inl f/\e=.returned (.iface 85 (int i64 f))/\f≠0/\Below z w w')\/(∃s',Fd.step s 10=.inr s'/\e=.returned .nilIface/\Dr w' z s'/\Below z w w'):=by
 obtain⟨u1,u2,hd,ht⟩:=h;have S:=KI ok;have HS:Hid _:=S;clear S;by_cases q:s.c=0\/s.c<s.W
 ·have K:=aj (OU z u1 u2 s w hd ok.c12 ok.w12 q)
  have Q:=aj (q);clear q hd ht ok;go_enter Tryz.func81,Tryz.ntmps81;go_wp2_with fail
  refine Calls.mono K.out ?_;rintro e w1 ⟨rfl,n,rfl⟩;go_wp2;go_ret;exact .inl ⟨2,by rw[HS.out,if_pos Q.out],rfl,by decide,_root_.Go.below_drewN (Below.refl _ _) _⟩
 ·have K:=aj (Sm z u1 u2 s w hd ok.c12 ok.w12 ok.h12 (λe=>q (.inl e)) (λe=>q (.inr e)))
  have Q:=aj (q);have T:=aj (ht);have L:=aj (hd.lt);clear q hd ht ok;go_enter Tryz.func81,Tryz.ntmps81;go_wp2_with fail
  refine Calls.mono K.out ?_;rintro e w1 ⟨rfl,hd1,hk1⟩;have D1:=aj (hd1);have K1:=aj (hk1);clear hd1 hk1;go_wp2;go_ret;refine .inr ⟨_,by rw[HS.out,if_neg Q.out],rfl,⟨u1,u2,D1.out,T.out.kp K1.out (Nat.lt_succ_self _)⟩,Kp.below (Below.refl _ _) K1.out (Nat.le_of_lt L.out) (Nat.le_refl _)⟩
theorem EI(z:Nat)(s:Fd.St)(b:UInt8)(w:World)(h:Dr w z s)(ok:zF s)(hb:b≠10):
 Calls Tryz.prog 81 #[.pointer (some ⟨z,0,none⟩),.int .u8 (b.toNat:Nat)] w λe w'=>(∃f,Fd.step s b=.inl f/\e=.returned (.iface 85 (int i64 f))/\f≠0/\Below z w w')\/(∃s',Fd.step s b=.inr s'/\e=.returned .nilIface/\Dr w' z s'/\Below z w w'):=by
 obtain⟨u1,u2,hd,ht⟩:=h;have hb2:=b.toNat_lt;have hb3:¬((b.toNat:Nat):Int)=10:=by
  intro e;have e2:b.toNat=10:=by omega
  exact hb (UInt8.toNat_inj.1 e2)
 have M:=aj (EH b);have HB:=aj (hb);have D:=aj (hd);have T:=aj (ht);have K:=aj (ok);clear hb hd ht ok;generalize b.toNat=n at *;go_enter Tryz.func81,Tryz.ntmps81;go_wp2_with fail
 refine(M.out _).mono ?_;rintro e w1 hm;rcases hm with⟨g,o,hm,rfl,rfl⟩|⟨hm,rfl,rfl⟩
 ·have HS:Hid _:=step_some (s:=s) HB.out hm
  have c0:=D.out.c0;have c1:=D.out.c1;have c2:=D.out.c2;have c3:=D.out.c3;have c4:=D.out.c4;obtain⟨c,W,H,gs,os⟩:=s;simp only at c0 c1 c4;have k12:=K.out.c12;have w12:=K.out.w12;have h12:=K.out.h12;simp only at k12 w12 h12;clear hm M;by_cases q1:0<H/\c=W
  ·obtain⟨q1a,YN⟩:=q1
   have Sr:Hid (Fd.step ⟨c,W,H,gs,os⟩ b=.inl 2):=by unfold Hid;rw[HS.out,if_pos ⟨q1a,YN⟩]
   subst YN;go_wp2_with fail
   go_quiet (fail);go_wp2;go_ret;exact .inl ⟨2,Sr.out,rfl,by decide,_root_.Go.below_drewN (Below.refl _ _) _⟩
  ·have HS1:Hid (Fd.step ⟨c,W,H,gs,os⟩ b=if c=12\/H=12 then .inl 4 else .inr ⟨c+1,W,H,gs++[g],os++[o]⟩):=by unfold Hid;rw[HS.out,if_neg q1]
   clear HS;go_wp2_with fail
   go_cut [39] (λv W'=>v=.bool false/\∃n,W'=w1.drewN n)
   case first=>
    by_cases q2:H=0
    ·subst q2
     go_quiet (fail);go_wp2_with fail
     go_meet
     case rel=>exact⟨rfl,_,rfl⟩
    ·have q3:0<H:=by omega
     have q4:¬c=W:=λe=>q1 ⟨q3,e⟩
     have q4b:((c:Int)==(W:Int))=false:=by rw[beq_eq_false_iff_ne];omega
     clear q1;go_quiet (fail);go_wp2_with fail
     go_meet
     case rel=>exact⟨rfl,_,rfl⟩
   case rest=>
    obtain⟨rfl,nn,hn⟩:=hcut;have kb:Below w1.heap.size w1 wc:=by rw[hn];exact _root_.Go.below_drewN (Below.refl _ _) _
    have D2:=aj (D.out.below kb D.out.lt);have T2:=aj (T.out.below kb (Nat.le_refl _));have B2:=aj (kb.mono (Nat.le_of_lt D.out.lt));clear kb hn c0 c1 c2 c3 c4 q1 D T;have c0:=D2.out.c0;have c1:=D2.out.c1;have c2:=D2.out.c2;have c3:=D2.out.c3;have c4:=D2.out.c4;simp only at c0 c1 c4;by_cases q5:c=12
    ·subst q5
     have Sr:Hid (Fd.step ⟨12,W,H,gs,os⟩ b=.inl 4):=by unfold Hid;rw[HS1.out,if_pos (.inl rfl)]
     go_wp2;go_ret;exact .inl ⟨4,Sr.out,rfl,by decide,B2.out⟩
    ·have q5b:((c:Int)==12)=false:=by rw[beq_eq_false_iff_ne];omega
     by_cases q6:H=12
     ·subst q6
      have Sr:Hid (Fd.step ⟨c,W,12,gs,os⟩ b=.inl 4):=by unfold Hid;rw[HS1.out,if_pos (.inr rfl)]
      go_wp2;go_ret;exact .inl ⟨4,Sr.out,rfl,by decide,B2.out⟩
     ·have q6b:((H:Int)==12)=false:=by rw[beq_eq_false_iff_ne];omega
      have Sr:Hid (Fd.step ⟨c,W,H,gs,os⟩ b=.inr ⟨c+1,W,H,gs++[g],os++[o]⟩):=by unfold Hid;rw[HS1.out,if_neg (by omega)]
      have gl:=K.out.gl;have ol:=K.out.ol;simp only at gl ol;have L2:=aj (D2.out.lt);clear HS1;go_wp2_with (at_builtin;refine gX _ rfl _ _ rfl (z+1) _ gs rfl (T2.out.o1.alloc _) ⟨wc.heap.size,0,none⟩ g rfl (by simp) (by omega) (by have:=L2.out;simp;omega) ?_);intro g1 cap1 w3 o3 g3 a3 l3;have hob:∀k,u1.ownBlock=some k->z+1<=k:=λk hk=>(T2.out.o1.block k hk).1
      have b3:Below (z+1) wc w3:=((Below.refl _ _).alloc L2.out _).grown g3 (by have:=L2.out;simp;omega) hob;have D3:=D2.out.below b3 (Nat.lt_succ_self _);have O3:=(T2.out.o2.alloc _).kept g3 (by
       cases hq:u2.ownBlock with
       |none=>exact .inl rfl
       |some k=>exact .inr (λe=>T2.out.ne k e.symm hq))
      have N3:Hid (∀k,u2.ownBlock=some k->k≠g1):=by
       intro k hk e;subst e;rcases a3 with a3|a3
       ·exact T2.out.ne _ a3 hk
       ·have:=(T2.out.o2.block _ hk).2
        try simp at a3
        omega
      have K3:Kp z w3 (w3.setCell ⟨z,2,none⟩ (slice (some ⟨g1,0,none⟩) (gs.length+1) cap1)):=Kp.set _ _ _;have T3:Hid (Two (w3.setCell ⟨z,2,none⟩ (slice (some ⟨g1,0,none⟩) (gs.length+1) cap1)) (z+1) (slice (some ⟨g1,0,none⟩) (gs.length+1) cap1) u2 (gs++[g]) os):=
       (show Two w3 (z+1) (slice (some ⟨g1,0,none⟩) (gs.length+1) cap1) u2 (gs++[g]) os from⟨o3,O3,λk hk e=>N3.out k e (Option.some.inj hk).symm⟩).kp K3 (Nat.lt_succ_self _)
      have D4:Hid (Dt (w3.setCell ⟨z,2,none⟩ (slice (some ⟨g1,0,none⟩) (gs.length+1) cap1)) z (slice (some ⟨g1,0,none⟩) (gs.length+1) cap1) u2 ⟨c,W,H,gs++[g],os⟩):=by
       unfold Hid Dt;rw[heap_setCell_same w3 z 2 _ _ _ D3];simp
      have B4:Hid (Below z w1 (w3.setCell ⟨z,2,none⟩ (slice (some ⟨g1,0,none⟩) (gs.length+1) cap1))):=(B2.out.trans (b3.mono (Nat.le_succ _))).setCell (Nat.le_refl _) _;have e2:=D3.c2;have e3:=D3.c3;have f2:=D3.fz 2;have z3:=aj (D3.lt);clear o3 g3 a3 l3 hob b3 D3 O3 K3 c0 c1 c2 c3 c4;go_wp2_with (at_builtin;refine gX _ rfl _ _ rfl (z+1) _ os rfl (T3.out.o2.alloc _) ⟨w3.heap.size,0,none⟩ o rfl (by rw[World.cell?_alloc_at _ _ _ _ (by simp)];rfl) (by omega) (by have:=z3.out;simp;omega) ?_);intro g2 cap2 w5 o5 g5 a5 l5;have hob:∀k,u2.ownBlock=some k->z+1<=k:=λk hk=>(T3.out.o2.block k hk).1
      have b5:=((Below.refl _ _).alloc (by have:=z3.out;simp;omega) _).grown g5 (by have:=z3.out;simp;omega) hob;have D5:=D4.out.below b5 (Nat.lt_succ_self _);have O5:=(T3.out.o1.alloc _).kept g5 (by
       cases hq:(slice (some ⟨g1,0,none⟩) (gs.length+1) cap1).ownBlock with
       |none=>exact .inl rfl
       |some k=>exact .inr (λe=>T3.out.ne k hq e.symm))
      have N5:Hid (∀k,(slice (some ⟨g1,0,none⟩) (gs.length+1) cap1).ownBlock=some k->k≠g2):=by
       intro k hk e;subst e;rcases a5 with a5|a5
       ·exact T3.out.ne _ hk a5
       ·have:=(T3.out.o1.block _ hk).2
        simp at this
        try simp at a5
        omega
      have K5:Kp z w5 (w5.setCell ⟨z,3,none⟩ (slice (some ⟨g2,0,none⟩) (os.length+1) cap2)):=Kp.set _ _ _;have T5:Hid (Two (w5.setCell ⟨z,3,none⟩ (slice (some ⟨g2,0,none⟩) (os.length+1) cap2)) (z+1) (slice (some ⟨g1,0,none⟩) (gs.length+1) cap1) (slice (some ⟨g2,0,none⟩) (os.length+1) cap2) (gs++[g]) (os++[o])):=
       (show Two w5 (z+1) (slice (some ⟨g1,0,none⟩) (gs.length+1) cap1) (slice (some ⟨g2,0,none⟩) (os.length+1) cap2) (gs++[g]) (os++[o]) from⟨O5,o5,λk hk e=>N5.out k hk (Option.some.inj e).symm⟩).kp K5 (Nat.lt_succ_self _)
      have D6:Hid (Dt (w5.setCell ⟨z,3,none⟩ (slice (some ⟨g2,0,none⟩) (os.length+1) cap2)) z (slice (some ⟨g1,0,none⟩) (gs.length+1) cap1) (slice (some ⟨g2,0,none⟩) (os.length+1) cap2) ⟨c,W,H,gs++[g],os++[o]⟩):=by
       unfold Hid Dt;rw[heap_setCell_same w5 z 3 _ _ _ D5];simp
      have B6:Hid (Below z w1 (w5.setCell ⟨z,3,none⟩ (slice (some ⟨g2,0,none⟩) (os.length+1) cap2))):=(B4.out.trans (b5.mono (Nat.le_succ _))).setCell (Nat.le_refl _) _;have e4:=D5.c3;have e5:w5.cell? _=some (int i64 (c:Nat)):=D5.c4;have f3:=D5.fz 3;have f4:=D5.fz 4;clear o5 g5 a5 l5 hob b5 D5 O5 K5 e2 e3 f2;go_wp2;go_ret;refine .inr ⟨_,Sr.out,rfl,⟨(slice _ _ cap1),(slice _ _ cap2),?_,T5.out.kp (Kp.set _ _ _) (Nat.lt_succ_self _)⟩,B6.out.setCell (Nat.le_refl _) _⟩;unfold Dt;rw[heap_setCell_same _ z 4 _ _ _ D6.out];simp
 ·have HS:Hid (Fd.step s b=.inl 2):=step_none HB.out hm
  go_wp2_with fail
  go_quiet (fail);go_wp2;go_ret;exact .inl ⟨2,HS.out,rfl,by decide,_root_.Go.below_drewN (Below.refl _ _) _⟩
theorem EJ(z:Nat)(s:Fd.St)(b:UInt8)(w:World)(h:Dr w z s)(ok:zF s):
 Calls Tryz.prog 81 #[.pointer (some ⟨z,0,none⟩),.int .u8 (b.toNat:Nat)] w λe w'=>(∃f,Fd.step s b=.inl f/\e=.returned (.iface 85 (int i64 f))/\f≠0/\Below z w w')\/(∃s',Fd.step s b=.inr s'/\e=.returned .nilIface/\Dr w' z s'/\Below z w w'):=by
 by_cases hb:b=10
 ·subst hb
  exact KJ z s w h ok
 ·exact EI z s b w h ok hb
theorem Sv{l:List UInt8}{k:Nat}(st:Fd.St)(h:k<l.length):Fd.run st k (l.drop k)=match Fd.step st l[k] with| .inl e=>.inl (k,e)| .inr s'=>Fd.run s' (k+1) (l.drop (k+1)):=by
 rw[List.drop_eq_getElem_cons h];rfl
def Says(l:List UInt8)(e:Ending)(w':World):Prop:=
 (∃(i:Nat) (f:Int),Fd.parse l=.inl (i,f)/\e=.returned (.tuple #[.agg #[int i64 0,int i64 0,slice none 0 0,slice none 0 0],int i64 (i:Nat),.iface 85 (int i64 f)])/\f≠0)\/
 (∃st u1 u2,Fd.parse l=.inr st/\e=.returned (.tuple #[.agg #[int i64 (st.W:Nat),int i64 (st.H:Nat),u1,u2],int i64 0,.nilIface])/\Ro w' u1 st.gs/\Ro w' u2 st.os)
def OV(b:Nat)(l:List UInt8)(e:Ending)(w':World):Prop:=
 (∃(i:Nat) (f:Int),Fd.parse l=.inl (i,f)/\e=.returned (.tuple #[.agg #[int i64 0,int i64 0,slice none 0 0,slice none 0 0],int i64 (i:Nat),.iface 85 (int i64 f)])/\f≠0)\/
 (∃st u1 u2,Fd.parse l=.inr st/\e=.returned (.tuple #[.agg #[int i64 (st.W:Nat),int i64 (st.H:Nat),u1,u2],int i64 0,.nilIface])/\Two w' (b+1+1) u1 u2 st.gs st.os)
theorem EM(s:ByteArray)(w:World)(hs:s.size<=maxLen):
 Calls Tryz.prog 37 #[.string s] w λe w'=>OV w.heap.size s.data.toList e w'/\Below w.heap.size w w':=by
 unfold maxLen at hs;generalize hl:s.data.toList=l;have Hl:=aj (hl);have Ll:Hid (l.length=s.size):=by unfold Hid;rw[<-hl];rfl
 clear hl;have P:Hid (Fd.parse l=match Fd.run Fd.st0 0 l with| .inl x=>.inl x| .inr s=>if 0<s.c\/s.H=0 then .inl _ else .inr s):=rfl;go_enter Tryz.func37,Tryz.ntmps37;go_wp2_with fail
 have B0:Hid (Below _ w ((w.alloc (Obj.cells #[int i64 0,int i64 0,slice none 0 0,slice none 0 0] 25)).alloc (Obj.cells #[int i64 0,int i64 0,slice none 0 0,slice none 0 0,int i64 0] 129))):=((Below.refl _ _).alloc (Nat.le_refl _) _).alloc (by simp) _;have D0:Hid (Dr ((w.alloc (Obj.cells #[int i64 0,int i64 0,slice none 0 0,slice none 0 0] 25)).alloc (Obj.cells #[int i64 0,int i64 0,slice none 0 0,slice none 0 0,int i64 0] 129)) (w.heap.size+1) Fd.st0):=by
  refine⟨slice none 0 0,slice none 0 0,?_,⟨Ow.nil _ _,Ow.nil _ _,λk h=>by cases h⟩⟩;have e:(w.alloc (Obj.cells #[int i64 0,int i64 0,slice none 0 0,slice none 0 0] 25)).heap.size=w.heap.size+1:=by simp
  unfold Dt;rw[<-e];exact heap_alloc_new _ _
 have X0:Hid (Bf ((w.alloc (Obj.cells #[int i64 0,int i64 0,slice none 0 0,slice none 0 0] 25)).alloc (Obj.cells #[int i64 0,int i64 0,slice none 0 0,slice none 0 0,int i64 0] 129)) w.heap.size 0 0 (slice none 0 0) (slice none 0 0)):=
  (Bf.mk' (w:=w) 0 0 (slice none 0 0) (slice none 0 0) rfl).below ((Below.refl _ _).alloc (Nat.le_refl _) _) (by simp)
 have Z0:Hid (∀i,((w.alloc (Obj.cells #[int i64 0,int i64 0,slice none 0 0,slice none 0 0] 25)).alloc (Obj.cells #[int i64 0,int i64 0,slice none 0 0,slice none 0 0,int i64 0] 129)).frozen? ⟨w.heap.size,i,none⟩=false):=by
  intro i;rw[((Below.refl _ (w.alloc (Obj.cells #[int i64 0,int i64 0,slice none 0 0,slice none 0 0] 25))).alloc (Nat.le_refl _) _).frozen (p:=⟨w.heap.size,i,none⟩) (by simp)];simp
 generalize (w.alloc _).alloc _=w0 at *;go_loopw [10] (λi W'=>∃(k:Nat) (st:Fd.St),k<=s.size/\i=int i64 (k:Nat)/\Dr W' (w.heap.size+1) st/\Fd.Inv st (l.take k)/\Fd.run st k (l.drop k)=Fd.run Fd.st0 0 l/\Below (w.heap.size+1) w0 W') (λi _=>s.size-(intOf i).toNat)
 case atStart=>exact⟨0,Fd.st0,Nat.zero_le _,rfl,D0,by simpa using Fd.inv0,by simp,Below.refl _ _⟩
 case round=>
  obtain⟨k,st,hk,rfl,hd,hi,hrun,hb⟩:=hrel;have D:=aj (hd);have I:=aj (hi);have R:=aj (hrun);have B:=aj (hb);have X:=aj (X0.out.below hb (Nat.lt_succ_self _));have Z:Hid (∀i,wr.frozen? _=false):=λi=>by rw[hb.frozen (p:=⟨w.heap.size,i,none⟩) (Nat.lt_succ_self _)];exact Z0.out i
  have BW:=aj (B0.out.trans (hb.mono (Nat.le_succ _)));clear hd hi hrun hb D0;by_cases h0:k=s.size
  ·subst h0
   have R2:Hid (Fd.run Fd.st0 0 l=.inr st):=by
    unfold Hid;rw[<-R.out,List.drop_of_length_le (by rw[Ll.out];exact Nat.le_refl _)];rfl
   obtain⟨u1,u2,hd,ht⟩:=D.out;have T:=aj (ht);have c0:=hd.c0;have c1:=hd.c1;have c2:=hd.c2;have c3:=hd.c3;have c4:=hd.c4;obtain⟨x0,x1,x2,x3⟩:=X.out;have z0:=Z.out 0;have z1:=Z.out 1;have z2:=Z.out 2;have z3:=Z.out 3;have k12:=I.out.c12;have h12:=I.out.h12;have w12:=I.out.w12;obtain⟨c,W,H,gs,os⟩:=st;simp only at c0 c1 c4 k12 h12 w12;have P2:Hid (Fd.parse l=if 0<c\/H=0 then .inl (l.length,2) else .inr ⟨c,W,H,gs,os⟩):=by
    unfold Hid;rw[P.out,R2.out]
   clear hd ht;by_cases q1:0<c
   ·go_wp2
    refine bodyPost_ret (by simp[results,Tryz.results37,go_sem,x0,x1,x2,x3]) rfl ⟨.inl ⟨s.size,2,by rw[P2.out,if_pos (.inl q1),Ll.out],rfl,by decide⟩,?_⟩;exact(((BW.out.setCell (Nat.le_refl _) _).setCell (Nat.le_refl _) _).setCell (Nat.le_refl _) _).setCell (Nat.le_refl _) _
   ·obtain rfl:c=0:=by omega
    by_cases q2:H=0
    ·subst q2
     go_wp2;refine bodyPost_ret (by simp[results,Tryz.results37,go_sem,x0,x1,x2,x3]) rfl ⟨.inl ⟨s.size,2,by rw[P2.out,Ll.out];simp,rfl,by decide⟩,?_⟩;exact(((BW.out.setCell (Nat.le_refl _) _).setCell (Nat.le_refl _) _).setCell (Nat.le_refl _) _).setCell (Nat.le_refl _) _
    ·have q2b:((H:Int)==0)=false:=by rw[beq_eq_false_iff_ne];omega
     obtain⟨p1,k1,rfl⟩:=T.out.o1.len;obtain⟨p2,k2,rfl⟩:=T.out.o2.len;have KK:Hid (Kp _ wr ((((wr.setCell ⟨w.heap.size,0,none⟩ (int i64 (W:Nat))).setCell ⟨w.heap.size,1,none⟩ (int i64 (H:Nat))).setCell ⟨w.heap.size,2,none⟩ (slice p1 gs.length k1)).setCell ⟨w.heap.size,3,none⟩ (slice p2 os.length k2))):=(((Kp.set _ _ _).trans (Kp.set _ _ _)).trans (Kp.set _ _ _)).trans (Kp.set _ _ _);go_wp2;refine bodyPost_ret (v:=.tuple #[.agg #[int i64 (W:Nat),int i64 (H:Nat),slice p1 gs.length k1,slice p2 os.length k2],int i64 0,.nilIface]) (by simp[results,Tryz.results37,go_sem,x0,x1,x2,x3]) rfl ⟨.inr ⟨_,_,_,by rw[P2.out,if_neg (by omega)],rfl,?_⟩,?_⟩
     ·exact T.out.kp KK.out (by omega)
     ·exact(((BW.out.setCell (Nat.le_refl _) _).setCell (Nat.le_refl _) _).setCell (Nat.le_refl _) _).setCell (Nat.le_refl _) _
  ·have hks:k<s.size:=by omega
   have hkl:k<l.length:=by rw[Ll.out];exact hks
   have RA:=Sv st hkl;rw[R.out] at RA;have eb:l[k]=s[k]:=by
    have:=Hl.out;subst this;rfl
   rw[eb] at RA;have VJ:Hid _:=RA;have TK:Hid (l.take (k+1)=l.take k++[s[k]]):=by unfold Hid;rw[List.take_succ_eq_append_getElem hkl,eb]
   have KR:=aj (EJ _ st s[k] wr D.out (zF.of I.out));clear RA eb;go_wp2_with fail
   refine Calls.mono KR.out ?_;rintro e w1 hm;rcases hm with⟨f,hst,rfl,hf,hb⟩|⟨st',hst,rfl,hd',hb⟩
   ·have P2:Hid (Fd.parse l=.inl (k,f)):=by
     unfold Hid;rw[P.out,VJ.out,hst]
    have Hf:=aj (hf);have B1:=aj (BW.out.trans (hb.mono (Nat.le_succ _)));have X1:=X.out.below hb (Nat.lt_succ_self _);have z0:w1.frozen? ⟨w.heap.size,0,none⟩=false:=by rw[hb.frozen (p:=⟨w.heap.size,0,none⟩) (Nat.lt_succ_self _)];exact Z.out 0
    have z1:w1.frozen? ⟨w.heap.size,1,none⟩=false:=by rw[hb.frozen (p:=⟨w.heap.size,1,none⟩) (Nat.lt_succ_self _)];exact Z.out 1
    have z2:w1.frozen? ⟨w.heap.size,2,none⟩=false:=by rw[hb.frozen (p:=⟨w.heap.size,2,none⟩) (Nat.lt_succ_self _)];exact Z.out 2
    have z3:w1.frozen? ⟨w.heap.size,3,none⟩=false:=by rw[hb.frozen (p:=⟨w.heap.size,3,none⟩) (Nat.lt_succ_self _)];exact Z.out 3
    obtain⟨x0,x1,x2,x3⟩:=X1;clear hst hf hb KR VJ;go_wp2;refine bodyPost_ret (by simp[results,Tryz.results37,go_sem,x0,x1,x2,x3]) rfl ⟨.inl ⟨k,f,P2.out,rfl,Hf.out⟩,?_⟩;exact(((B1.out.setCell (Nat.le_refl _) _).setCell (Nat.le_refl _) _).setCell (Nat.le_refl _) _).setCell (Nat.le_refl _) _
   ·have I2:Hid (Fd.Inv st' (l.take (k+1))):=by unfold Hid;rw[TK.out];exact I.out.step hst
    have R2:Hid (Fd.run st' (k+1) (l.drop (k+1))=Fd.run Fd.st0 0 l):=by unfold Hid;rw[VJ.out,hst]
    have D2:=aj (hd');have B2:=aj (B.out.trans hb);clear hst hd' hb KR VJ;go_wp2;go_round
    case rel=>exact⟨k+1,st',by omega,by go_num,D2,I2,R2,B2⟩
    case measure=>simp[intOf];omega
theorem parse_any(s:ByteArray)(w:World)(hs:s.size<=maxLen):
 Calls Tryz.prog 37 #[.string s] w λe w'=>Says s.data.toList e w'/\Below w.heap.size w w':=
 (EM s w hs).mono λe w' ⟨h,hb⟩=>⟨h.imp id λ⟨st,u1,u2,h1,h2,h3⟩=>⟨st,u1,u2,h1,h2,h3.o1.ro,h3.o2.ro⟩,hb⟩
open Go.Proofs.YtolfphmdmpehdaaGreatDoor.So
namespace One
def X0:WV:=⟨0,1,4,2,SG,SO,[0],[],[]⟩
def X1:WV:=⟨0,2,4,2,SG,SO,[0],[ob],[]⟩
theorem f0:Wd.dZ OK 4 2 SG SO 1 0=0:=by decide+kernel
theorem f1:Wd.dF OK X0 0 0 0=0:=by decide+kernel
theorem f2:Wd.dF OK X1 0 1 1=0:=by decide+kernel
theorem e0:Wd.begun OK 4 2 SG SO 1 0=X0:=wI f0
theorem e1:Wd.placed OK X0 0 0 0=X1:=(jW f1).trans rfl
theorem e2:Wd.placed OK X1 0 1 1=OX:=(jW f2).trans rfl
theorem names:∀k∈OK,k.b.size<=9223372036854775807:=by
 intro k hk;unfold OK at hk;rcases List.mem_cons.1 hk with rfl|hk
 ·decide
 rcases List.mem_cons.1 hk with rfl|hk
 ·decide
 ·cases hk
theorem ez{r:Value}(h:Er r 0):r=.nilIface:=by
 rcases h with⟨-,h⟩|⟨h,-⟩
 ·exact h
 ·exact absurd rfl h
theorem Vs{w:World}{z:Nat}(hz:w.heap.size=z):Kl (w.alloc (.cells #[.string ⟨#[98,97,115,101]⟩,int i64 50,int i64 0,int i64 0,int i64 0,int i64 0,int i64 0,int i64 0,int i64 0,.bool false,.bool true,.string ⟨#[100,105,103,103,101,114]⟩,int i64 10,int i64 0,int i64 0,int i64 0,int i64 2,int i64 0,int i64 0,int i64 20,.bool false,.bool false] 77)) (slice (some ⟨z,0,none⟩) 2 2) OK:=by
 subst hz;refine⟨_,2,rfl,Nat.le_refl _,by omega,λ_=>⟨_,rfl,by simp,λi k hi=>?_⟩⟩;have hl:i<2:=(List.getElem?_eq_some_iff.1 hi).1;rw[Addr.add_lit,Nat.zero_add]
 match i,hl,hi with
 |0,_,hi=>injection hi with hi;subst hi;constructor<;>simp[OB]
 |1,_,hi=>injection hi with hi;subst hi;constructor<;>simp[OD]
theorem Vt(w:World):vF (w.alloc (Obj.cells #[int i64 0,int i64 2,int i64 2,int i64 6] 96)) (slice (some ⟨w.heap.size,0,none⟩) 1 1) [oo]:=by
 refine⟨_,_,rfl,by decide,by decide,λ_=>⟨⟨w.heap.size,0,none⟩,rfl,by simp,λi k hk=>?_⟩⟩;have hn:=heap_alloc_new w (Obj.cells #[int i64 0,int i64 2,int i64 2,int i64 6] 96)
 match i,hk with
 |0,hk=>simp[oo] at hk;subst hk;refine⟨?_,?_,?_,?_⟩<;>(simp only[World.cell?,Addr.add_lit,hn];rfl)
 |i+1,hk=>simp at hk
theorem Vu(w:World)(v:Value)(hv:vF w v [oo]):Ej (w.alloc (Obj.cells #[v,slice none 0 0,slice none 0 0] 61)) (slice (some ⟨w.heap.size,0,none⟩) 3 3) [[oo],[],[]]:=by
 have hn:=heap_alloc_new w (Obj.cells #[v,slice none 0 0,slice none 0 0] 61);have hb:Below _ w (w.alloc (Obj.cells #[v,slice none 0 0,slice none 0 0] 61)):=(Below.refl _ _).alloc (Nat.le_refl _) _;have ol:∀W,vF W (slice none 0 0) []:=λW=>⟨none,0,rfl,Nat.le_refl _,by omega,λh=>absurd rfl h⟩
 refine⟨_,_,rfl,by decide,by decide,λ_=>⟨⟨w.heap.size,0,none⟩,rfl,by simp,λi l hl=>?_⟩⟩
 match i,hl with
 |0,hl=>simp at hl;subst hl;exact⟨_,by simp only[World.cell?,Addr.add_lit,hn];rfl,hv.below hb⟩
 |1,hl=>simp at hl;subst hl;exact⟨_,by simp only[World.cell?,Addr.add_lit,hn];rfl,ol _⟩
 |2,hl=>simp at hl;subst hl;exact⟨_,by simp only[World.cell?,Addr.add_lit,hn];rfl,ol _⟩
 |i+3,hl=>simp at hl
end One
theorem one_any(w:World)(hsd:Sd w):Calls Tryz.prog 24 #[] w λe w'=>e=.returned (.bool true)/\Below w.heap.size w w':=by
 have Vw:=aj (hsd);clear hsd;go_enter Tryz.func24,Tryz.ntmps24;go_upto_region 2 with fail
 have KL:Hid (Kl _ (slice (some ⟨w.heap.size,0,none⟩) 2 2) OK):=One.Vs rfl;have B0:Hid (Below _ w (w.alloc (Obj.cells #[.string ⟨#[98,97,115,101]⟩,int i64 50,int i64 0,int i64 0,int i64 0,int i64 0,int i64 0,int i64 0,int i64 0,.bool false,.bool true,.string ⟨#[100,105,103,103,101,114]⟩,int i64 10,int i64 0,int i64 0,int i64 0,int i64 2,int i64 0,int i64 0,int i64 20,.bool false,.bool false] 77))):=(Below.refl _ _).alloc (Nat.le_refl _) _;generalize w.alloc _=w0 at *;obtain⟨zk,Yf⟩:∃z,w.heap.size=z:=⟨_,rfl⟩;have HZK:=aj (Yf);rw[Yf] at KL ⊢;clear Yf;go_wp2_with fail
 refine(parse_any _ w0 (by decide)).mono ?_;rintro e w1 ⟨hs,hb⟩;have hp:Fd.parse (⟨#[46,46,46,46,10,46,46,51,46,10]⟩:ByteArray).data.toList=.inr _:=Kt;rcases hs with⟨i,f,h1,-⟩|⟨st,u1,u2,h1,h2,r1,r2⟩
 ·rw[hp] at h1;cases h1
 rw[hp] at h1;injection h1 with h1
 subst h1;subst h2;have RO:Hid (Ro w1 u1 SG/\Ro w1 u2 SO):=⟨r1,r2⟩;obtain⟨p1,q1,rfl,-⟩:=r1;obtain⟨p2,q2,rfl,-⟩:=r2;have B1:=aj (hb);clear hb hp;have l8:SG.length=8:=rfl;have l8':SO.length=8:=rfl;rw[l8,l8'] at *;clear l8 l8';go_upto_region 3 with fail
 have BA:Hid (Below _ w1 (w1.alloc (Obj.cells #[int i64 4,int i64 2,slice p1 8 q1,slice p2 8 q2] 25))):=(Below.refl _ _).alloc (Nat.le_refl _) _;obtain⟨zf,Yg⟩:∃z,w1.heap.size=z:=⟨_,rfl⟩;have X2:Hid (Bx _ zf 4 2 (slice p1 8 q1) (slice p2 8 q2)):=Bx.mk' _ _ _ _ Yg;have FL:Hid (Fl (w1.alloc (Obj.cells #[int i64 4,int i64 2,slice p1 8 q1,slice p2 8 q2] 25)) (.agg #[int i64 4,int i64 2,slice p1 8 q1,slice p2 8 q2]) 4 2 SG SO):=⟨_,_,rfl,RO.out.1.below BA.out,RO.out.2.below BA.out⟩;have B2:=aj (B1.out.trans (BA.out.mono B1.out.size));rw[Yg];generalize (w1.alloc _)=w2 at *;clear BA B1 RO Yg;obtain⟨f0,f1,f2,f3⟩:=X2.out;go_wp2_with fail
 refine(new_any _ _ OK 4 2 SG SO 1 0 w2 (KL.out.below B2.out) One.names FL.out).mono ?_;rintro e w3 ⟨u,r,rfl,hr,ho,hb⟩;rw[One.f0] at hr;rw[One.e0] at ho;obtain rfl:=One.ez hr;have B3:=aj (B2.out.trans (hb.mono B2.out.size));have L3:=aj (ho.l);clear hr hb f0 f1 f2 f3 X2 FL B2;obtain⟨y1,y2,y3,y4,y5,rfl,o1,o2,o3,o4,o5⟩:=ho;obtain⟨a1,b1,rfl⟩:=o1.len;obtain⟨a2,b2,rfl⟩:=o2.len;obtain⟨a3,b3,rfl⟩:=o3.len;obtain⟨a4,b4,rfl⟩:=o4.len;obtain⟨a5,b5,rfl⟩:=o5.len;have L3':Hid (Wl w3 (.agg #[int i64 0,int i64 1,int i64 4,int i64 2,slice a1 8 b1,slice a2 8 b2,slice a3 1 b3,slice a4 0 b4,slice a5 0 b5]) One.X0):=L3.out;clear L3 o1 o2 o3 o4 o5;have g1:One.X0.turn=0/\One.X0.next=1/\One.X0.wide=4/\One.X0.high=2/\One.X0.gs.length=8/\One.X0.os.length=8/\One.X0.gold.length=1/\One.X0.us.length=0/\One.X0.qs.length=0:=⟨rfl,rfl,rfl,rfl,rfl,rfl,rfl,rfl,rfl⟩;obtain⟨g1,g2,g3,g4,g5,g6,g7,g8,g9⟩:=g1;simp only[g1,g2,g3,g4,g5,g6,g7,g8,g9];clear g1 g2 g3 g4 g5 g6 g7 g8 g9;go_upto_region 4 with fail
 have BA:Hid (Below _ w3 (w3.alloc (Obj.cells #[int i64 0,int i64 1,int i64 4,int i64 2,slice a1 8 b1,slice a2 8 b2,slice a3 1 b3,slice a4 0 b4,slice a5 0 b5] 29))):=(Below.refl _ _).alloc (Nat.le_refl _) _;obtain⟨z,hz⟩:∃z,w3.heap.size=z:=⟨_,rfl⟩;have XA0:Hid (Wx _ z (int i64 0) (int i64 1) (int i64 4) (int i64 2) (slice a1 8 b1) (slice a2 8 b2) (slice a3 1 b3) (slice a4 0 b4) (slice a5 0 b5)):=Wx.new _ _ _ _ _ _ _ _ _ hz;have LA0:=aj (L3'.out.below BA.out);have BA0:=aj (B3.out.trans (BA.out.mono B3.out.size));have NZ:Hid (w0.heap.size<=z):=by rw[<-hz];exact B3.out.size
 rw[hz];generalize w3.alloc _=s0 at *;clear BA L3' B3 hz;obtain⟨x0,x1,x2,x3,x4,x5,x6,x7,x8⟩:=XA0.out.cells;go_wp2_with fail
 refine(mZ _ _ OK One.X0 0 0 0 s0 (KL.out.below BA0.out) One.names LA0.out).mono ?_;rintro e v0 ⟨u,r,rfl,hr,ho,hb⟩;rw[One.f1] at hr;rw[One.e1] at ho;obtain rfl:=One.ez hr;have BV:=aj (BA0.out.trans (hb.mono BA0.out.size));have XV:=aj (XA0.out.below hb XA0.out.lt);have LV:=aj (fD (ho) (XA0.out.lt));clear hr hb x0 x1 x2 x3 x4 x5 x6 x7 x8 XA0 LA0 BA0;obtain⟨y1,y2,y3,y4,y5,rfl,o1,o2,o3,o4,o5⟩:=ho;obtain⟨c1,d1,rfl⟩:=o1.len;obtain⟨c2,d2,rfl⟩:=o2.len;obtain⟨c3,d3,rfl⟩:=o3.len;obtain⟨c4,d4,rfl⟩:=o4.len;obtain⟨c5,d5,rfl⟩:=o5.len;have SC:Hid (Wo v0 _ (.agg #[int i64 0,int i64 2,int i64 4,int i64 2,slice c1 8 d1,slice c2 8 d2,slice c3 1 d3,slice c4 1 d4,slice c5 0 d5]) One.X1/\z<s0.heap.size):=LV.out;clear LV o1 o2 o3 o4 o5;have g1:One.X1.turn=0/\One.X1.next=2/\One.X1.wide=4/\One.X1.high=2/\One.X1.gs.length=8/\One.X1.os.length=8/\One.X1.gold.length=1/\One.X1.us.length=1/\One.X1.qs.length=0:=⟨rfl,rfl,rfl,rfl,rfl,rfl,rfl,rfl,rfl⟩;obtain⟨g1,g2,g3,g4,g5,g6,g7,g8,g9⟩:=g1;simp only[g1,g2,g3,g4,g5,g6,g7,g8,g9];clear g1 g2 g3 g4 g5 g6 g7 g8 g9;obtain⟨x0,x1,x2,x3,x4,x5,x6,x7,x8⟩:=XV.out.cells;obtain⟨t0,t1,t2,t3,t4,t5,t6,t7,t8⟩:=XV.out.bC;have KW:=aj (bI v0 z (int i64 0) (int i64 2) (int i64 4) (int i64 2) (slice c1 8 d1) (slice c2 8 d2) (slice c3 1 d3) (slice c4 1 d4) (slice c5 0 d5));have XA1:=aj (XV.out.put (int i64 0) (int i64 2) (int i64 4) (int i64 2) (slice c1 8 d1) (slice c2 8 d2) (slice c3 1 d3) (slice c4 1 d4) (slice c5 0 d5));have LA1:=aj ((SC.out.1.kp KW.out SC.out.2).l);have BA1:=aj (KW.out.below BV.out BV.out.size NZ.out);go_upto_region 5 with fail
 clear x0 x1 x2 x3 x4 x5 x6 x7 x8 t0 t1 t2 t3 t4 t5 t6 t7 t8 XV SC BV KW;generalize World.setCell _ _ _=s1 at *;obtain⟨x0,x1,x2,x3,x4,x5,x6,x7,x8⟩:=XA1.out.cells;go_wp2_with fail
 refine(mZ _ _ OK One.X1 0 1 1 s1 (KL.out.below BA1.out) One.names LA1.out).mono ?_;rintro e v1 ⟨u,r,rfl,hr,ho,hb⟩;rw[One.f2] at hr;rw[One.e2] at ho;obtain rfl:=One.ez hr;have BV:=aj (BA1.out.trans (hb.mono BA1.out.size));have XV:=aj (XA1.out.below hb XA1.out.lt);have LV:=aj (fD (ho) (XA1.out.lt));clear hr hb x0 x1 x2 x3 x4 x5 x6 x7 x8 XA1 LA1 BA1;obtain⟨y1,y2,y3,y4,y5,rfl,o1,o2,o3,o4,o5⟩:=ho;obtain⟨m1,n1,rfl⟩:=o1.len;obtain⟨m2,n2,rfl⟩:=o2.len;obtain⟨m3,n3,rfl⟩:=o3.len;obtain⟨m4,n4,rfl⟩:=o4.len;obtain⟨m5,n5,rfl⟩:=o5.len;have SC:Hid (Wo v1 _ (.agg #[int i64 0,int i64 3,int i64 4,int i64 2,slice m1 8 n1,slice m2 8 n2,slice m3 1 n3,slice m4 2 n4,slice m5 0 n5]) OX/\z<s1.heap.size):=LV.out;clear LV o1 o2 o3 o4 o5;have g1:OX.turn=0/\OX.next=3/\OX.wide=4/\OX.high=2/\OX.gs.length=8/\OX.os.length=8/\OX.gold.length=1/\OX.us.length=2/\OX.qs.length=0:=⟨rfl,rfl,rfl,rfl,rfl,rfl,rfl,rfl,rfl⟩;obtain⟨g1,g2,g3,g4,g5,g6,g7,g8,g9⟩:=g1;simp only[g1,g2,g3,g4,g5,g6,g7,g8,g9];clear g1 g2 g3 g4 g5 g6 g7 g8 g9;obtain⟨x0,x1,x2,x3,x4,x5,x6,x7,x8⟩:=XV.out.cells;obtain⟨t0,t1,t2,t3,t4,t5,t6,t7,t8⟩:=XV.out.bC;have KW:=aj (bI v1 z (int i64 0) (int i64 3) (int i64 4) (int i64 2) (slice m1 8 n1) (slice m2 8 n2) (slice m3 1 n3) (slice m4 2 n4) (slice m5 0 n5));have XA2:=aj (XV.out.put (int i64 0) (int i64 3) (int i64 4) (int i64 2) (slice m1 8 n1) (slice m2 8 n2) (slice m3 1 n3) (slice m4 2 n4) (slice m5 0 n5));have LA2:=aj ((SC.out.1.kp KW.out SC.out.2).l);have BA2:=aj (KW.out.below BV.out BV.out.size NZ.out);go_upto_region 6 with fail
 clear x0 x1 x2 x3 x4 x5 x6 x7 x8 t0 t1 t2 t3 t4 t5 t6 t7 t8 XV SC BV KW;generalize World.setCell _ _ _=s2 at *;go_upto_region 7 with fail
 have BO:Hid (Below _ s2 (s2.alloc (Obj.cells #[int i64 0,int i64 2,int i64 2,int i64 6] 96))):=(Below.refl _ _).alloc (Nat.le_refl _) _;obtain⟨zo,Yh⟩:∃z,s2.heap.size=z:=⟨_,rfl⟩;have OL:Hid (vF (s2.alloc (Obj.cells #[int i64 0,int i64 2,int i64 2,int i64 6] 96)) (slice (some ⟨zo,0,none⟩) 1 1) [oo]):=by rw[<-Yh];exact One.Vt s2
 have X6:=aj (XA2.out.below BO.out XA2.out.lt);have L6:=aj (LA2.out.below BO.out);have B6:=aj (BA2.out.trans (BO.out.mono BA2.out.size));rw[Yh];generalize s2.alloc _=w6 at *;clear BO Yh XA2 LA2 BA2;have BL:Hid (Below _ w6 (w6.alloc (Obj.cells #[slice (some ⟨zo,0,none⟩) 1 1,slice none 0 0,slice none 0 0] 61))):=(Below.refl _ _).alloc (Nat.le_refl _) _;have LL:=aj (One.Vu w6 _ OL.out);have B7:=aj (B6.out.trans (BL.out.mono B6.out.size));have L7:=aj (L6.out.below BL.out);obtain⟨x0,x1,x2,x3,x4,x5,x6,x7,x8⟩:=X6.out.cells;go_wp2_with fail
 refine(J_ _ _ _ OK OX _ _ (KL.out.below B7.out) One.names L7.out LL.out ((Vw.out.below B0.out).below B7.out)).mono ?_;rintro e w8 ⟨v,r,FF,rfl,hr,hf,hb⟩;obtain⟨rfl,ho⟩:=KD hf hr;have B8:=aj (B7.out.trans (hb.mono B7.out.size));have G8:=aj (ho.l);clear hr hf hb x0 x1 x2 x3 x4 x5 x6 x7 x8 X6 L6 B6 BL LL B7 L7 OL;obtain⟨y1,y2,y3,y4,y5,rfl,o1,o2,o3,o4,o5⟩:=ho;obtain⟨r1,s1,rfl⟩:=o1.len;obtain⟨r2,s2,rfl⟩:=o2.len;obtain⟨r3,s3,rfl⟩:=o3.len;obtain⟨r4,s4,rfl⟩:=o4.len;obtain⟨r5,s5,rfl⟩:=o5.len;obtain⟨ya,yc,ye,-,-,yq⟩:=o3.ro;injection ye with e1 e2 e3
 subst e1 e3;obtain⟨yg,rfl,ylt,yq⟩:=yq (by simp[OW]);have c20:=yq 0 20 rfl;have ey:yg.add 0=yg:=by simp[Addr.add]
 rw[ey] at c20;have YL:=aj (fD (c20) (ylt));clear o1 o2 o3 o4 o5 yq c20 ylt e2 ey G8;have g1:(OW 3 10 20 (od 1 0 2 6)).turn=3/\(OW 3 10 20 (od 1 0 2 6)).next=3/\(OW 3 10 20 (od 1 0 2 6)).wide=4/\(OW 3 10 20 (od 1 0 2 6)).high=2/\(OW 3 10 20 (od 1 0 2 6)).gs.length=8/\(OW 3 10 20 (od 1 0 2 6)).os.length=8/\(OW 3 10 20 (od 1 0 2 6)).gold.length=1/\(OW 3 10 20 (od 1 0 2 6)).us.length=2/\(OW 3 10 20 (od 1 0 2 6)).qs.length=0:=⟨rfl,rfl,rfl,rfl,rfl,rfl,rfl,rfl,rfl⟩
 obtain⟨g1,g2,g3,g4,g5,g6,g7,g8,g9⟩:=g1;simp only[g1,g2,g3,g4,g5,g6,g7,g8,g9];clear g1 g2 g3 g4 g5 g6 g7 g8 g9;go_upto_region 8 with fail
 have BF:Hid (Below _ w8 (w8.alloc (Obj.cells #[int i64 3,int i64 3,int i64 4,int i64 2,slice r1 8 s1,slice r2 8 s2,slice (some yg) 1 s3,slice r4 2 s4,slice r5 0 s5] 29))):=(Below.refl _ _).alloc (Nat.le_refl _) _;obtain⟨zz,hzz⟩:∃z,w8.heap.size=z:=⟨_,rfl⟩;have XF:Hid (Wx _ zz (int i64 3) (int i64 3) (int i64 4) (int i64 2) (slice r1 8 s1) (slice r2 8 s2) (slice (some yg) 1 s3) (slice r4 2 s4) (slice r5 0 s5)):=Wx.new _ _ _ _ _ _ _ _ _ hzz;have B9:=aj (B8.out.trans (BF.out.mono B8.out.size));have c20:(w8.alloc (Obj.cells #[int i64 3,int i64 3,int i64 4,int i64 2,slice r1 8 s1,slice r2 8 s2,slice (some yg) 1 s3,slice r4 2 s4,slice r5 0 s5] 29)).cell? yg=some (int i64 20):=by rw[BF.out.cell YL.out.2];exact YL.out.1
 rw[hzz];generalize w8.alloc _=w9 at *;clear BF hzz B8 YL;obtain⟨x0,x1,x2,x3,x4,x5,x6,x7,x8⟩:=XF.out.cells;have BZ:=aj (B0.out.trans (B9.out.mono B0.out.size));have GL:=aj (trivial);go_wp2;go_ret;exact⟨rfl,by first|exact BZ.out|(rw[<-HZK.out];exact BZ.out)⟩
end Go.Proofs.YtolfphmdmpehdaaGreatDoor
namespace Go.Proofs.YtolfphmdmpehdaaGreatDoor
def sm:List Int->Int
 |[]=>0
 |x::l=>x+sm l
theorem rW(a b:List Int):sm (a++b)=sm a+sm b:=by
 induction a with
 |nil=>simp[sm]
 |cons x l ih=>simp only[List.cons_append,sm,ih];omega
theorem uD{l:List Int}{n:Nat}{x:Int}(h:l[n]? =some x):sm (l.take (n+1))=sm (l.take n)+x:=by
 rw[List.take_add_one,h,rW];simp[sm]
theorem ng:∀(l:List Int) (i:Nat) (x y:Int),l[i]? =some x->sm (l.set i y)=sm l-x+y
 |[],i,x,y,h=>by simp at h
 |a::l,0,x,y,h=>by
  simp at h;subst h;simp only[List.set_cons_zero,sm];omega
 |a::l,i+1,x,y,h=>by
  have h':l[i]? =some x:=by simpa using h
  simp only[List.set_cons_succ,sm,ng l i x y h'];omega
theorem Qk{B:Int}(hB:0<=B):∀(l:List Int),(∀x∈l,0<=x/\x<=B)->0<=sm l/\sm l<=B*(l.length:Int)
 |[],_=>by simp[sm]
 |x::l,h=>by
  have ih:=Qk hB l (λy hy=>h y (List.mem_cons_of_mem _ hy));have hx:=h x (by simp);simp only[sm,List.length_cons];have e:B*((l.length+1:Nat):Int)=B*(l.length:Int)+B:=by rw[Int.natCast_add,Int.mul_add];simp
  rw[e];omega
def loads(Z:WV):List Int:=Z.us.map aB.load
def tot(Z:WV):Int:=sm Z.os+sm (loads Z)+sm Z.gold
theorem rX{l:List aB}{i:Nat}(u:aB)(n:Int):(l.set i (iK u n)).map aB.load=(l.map aB.load).set i n:=by rw[List.map_set];rfl
theorem KN{ks:List KV}{Z:WV}(f:iw ks Z){i:Nat}{u:aB}(hu:Z.us[i]? =some u)(n:Int):tot (fE Z i u n)=tot Z:=by
 obtain⟨-,⟨an,ha,hal⟩,-⟩:=f.units u (List.mem_of_getElem? hu);obtain⟨x,hx⟩:∃x,Z.os[an]? =some x:=⟨_,List.getElem?_eq_getElem hal⟩;unfold tot loads fE;simp only;rw[rX,ha,Int.toNat_natCast,List.getD_eq_getElem?_getD,hx,Option.getD_some,ng Z.os an x _ hx,ng (Z.us.map aB.load) i u.load _ (by rw[List.getElem?_map,hu];rfl)];omega
def Full(Z:WV):Prop:=∃g∈Z.gold,g=1000000
theorem EP{ks:List KV}{Z:WV}(f:iw ks Z){i:Nat}{u:aB}(hu:Z.us[i]? =some u):tot (b_ Z i u)<=tot Z/\(tot (b_ Z i u)=tot Z\/Full (b_ Z i u))/\(Full Z->Full (b_ Z i u)):=by
 obtain⟨⟨kn,k,-,-,l1,-⟩,-,pn,hp,hpl⟩:=f.units u (List.mem_of_getElem? hu);obtain⟨x,hx⟩:∃x,Z.gold[pn]? =some x:=⟨_,List.getElem?_eq_getElem hpl⟩;have e:tot (b_ Z i u)=tot Z-u.load-x+min (x+u.load) 1000000:=by
  unfold tot loads b_;simp only;rw[rX,hp,Int.toNat_natCast,List.getD_eq_getElem?_getD,hx,Option.getD_some,ng Z.gold pn x _ hx,ng (Z.us.map aB.load) i u.load _ (by rw[List.getElem?_map,hu];rfl)];omega
 have eg:(b_ Z i u).gold=Z.gold.set pn (min (x+u.load) 1000000):=by
  unfold b_;simp only;rw[hp,Int.toNat_natCast,List.getD_eq_getElem?_getD,hx,Option.getD_some]
 have gx:=f.gold x (List.mem_of_getElem? hx);have at_:(Z.gold.set pn (min (x+u.load) 1000000))[pn]? =some (min (x+u.load) 1000000):=List.getElem?_set_self hpl;refine⟨by rw[e];omega,?_,?_⟩
 ·by_cases h:x+u.load<=1000000
  ·left;rw[e];omega
  ·right
   exact⟨_,by rw[eg];exact List.mem_of_getElem? at_,by omega⟩
 ·rintro⟨g,hg,rfl⟩
  obtain⟨q,hq⟩:=List.mem_iff_getElem?.1 hg;by_cases h:q=pn
  ·subst h
   rw[hx] at hq;injection hq with hq
   subst hq;exact⟨_,by rw[eg];exact List.mem_of_getElem? at_,by omega⟩
  ·exact⟨1000000,by rw[eg];exact List.mem_of_getElem? (i:=q) (by rw[List.getElem?_set_ne (λe=>h e.symm)];exact hq),rfl⟩
theorem KO{ks:List KV}{Y:WV}(hf:iw ks Y):∀q,tot (tk ks Y q).1=tot Y/\∀e∈(tk ks Y q).2,1<=e.arg/\e.what=4
 |0=>⟨rfl,by intro e he;cases he⟩
 |q+1=>by
  obtain⟨i1,i2⟩:=KO hf q;cases hu:(tk ks Y q).1.us[q]? with
  |none=>rw[tk];simp only[hu];exact⟨i1,i2⟩
  |some u=>
   by_cases h:0<bJ ks (tk ks Y q).1 u
   ·rw[mV hu h]
    refine⟨by rw[KN (sS hf q) hu];exact i1,λe he=>?_⟩;rcases List.mem_append.1 he with he|he
    ·exact i2 e he
    ·simp only[List.mem_singleton] at he
     subst he;exact⟨by show 1<=bJ ks _ u;omega,rfl⟩
   ·rw[qZ hu h];exact⟨i1,i2⟩
theorem KQ{ks:List KV}{Wn Hn:Nat}{Y:WV}(hf:iw ks Y):∀q,tot (br ks Wn Hn Y q).1<=tot Y/\(tot (br ks Wn Hn Y q).1=tot Y\/Full (br ks Wn Hn Y q).1)/\∀e∈(br ks Wn Hn Y q).2,1<=e.arg/\e.what=5
 |0=>⟨Int.le_refl _,.inl rfl,by intro e he;cases he⟩
 |q+1=>by
  obtain⟨i1,i2,i3⟩:=KQ (Wn:=Wn) (Hn:=Hn) hf q;have f:=(nR (Wn:=Wn) (Hn:=Hn) hf q).2.1;cases hu:(br ks Wn Hn Y q).1.us[q]? with
  |none=>rw[br];simp only[hu];exact⟨i1,i2,i3⟩
  |some u=>
   cases h:brings ks Wn Hn (br ks Wn Hn Y q).1 u with
   |true=>
    rw[tq hu h];obtain⟨t1,t2,t3⟩:=EP f hu;refine⟨Int.le_trans t1 i1,?_,λe he=>?_⟩
    ·rcases i2 with i2|i2
     ·rcases t2 with t2|t2
      ·exact .inl (t2.trans i2)
      ·exact .inr t2
     ·exact .inr (t3 i2)
    ·rcases List.mem_append.1 he with he|he
     ·exact i3 e he
     ·simp only[List.mem_singleton] at he
      subst he;unfold brings at h;rw[Bool.and_eq_true] at h;have:=of_decide_eq_true h.1;exact⟨by show 1<=u.load;omega,rfl⟩
   |false=>rw[vO hu h];exact⟨i1,i2,i3⟩
open Go.Proofs.YtolfphmdmpehdaaGreatDoor.So Go.RowKit
def fM(us us':List aB):Prop:=us'.length=us.length/\∀(j:Nat) (v:aB),us'[j]? =some v->∃u,us[j]? =some u/\v.id=u.id/\v.ay=u.ay/\v.kind=u.kind/\v.life=u.life
def iU(us us':List aB):Prop:=fM us us'/\us'.map aB.load=us.map aB.load
theorem fM.refl(us:List aB):fM us us:=⟨rfl,λj v h=>⟨v,h,rfl,rfl,rfl,rfl⟩⟩
theorem fM.trans{a b c:List aB}(h:fM a b)(k:fM b c):fM a c:=by
 refine⟨k.1.trans h.1,λj v hv=>?_⟩;obtain⟨u,h1,e1,e2,e3,e4⟩:=k.2 j v hv;obtain⟨x,h2,d1,d2,d3,d4⟩:=h.2 j u h1;exact⟨x,h2,e1.trans d1,e2.trans d2,e3.trans d3,e4.trans d4⟩
theorem fM.set{us:List aB}{i:Nat}{u v:aB}(hu:us[i]? =some u)(h1:v.id=u.id)(h2:v.ay=u.ay)(h3:v.kind=u.kind)(h4:v.life=u.life):fM us (us.set i v):=by
 refine⟨by simp,λj x hx=>?_⟩;rw[List.getElem?_set] at hx;split at hx
 ·rename_i e
  subst e;split at hx
  ·injection hx with hx
   subst hx;exact⟨u,hu,h1,h2,h3,h4⟩
  ·cases hx
 ·exact⟨x,hx,rfl,rfl,rfl,rfl⟩
theorem iU.refl(us:List aB):iU us us:=⟨.refl us,rfl⟩
theorem iU.trans{a b c:List aB}(h:iU a b)(k:iU b c):iU a c:=⟨h.1.trans k.1,k.2.trans h.2⟩
theorem iU.set{us:List aB}{i:Nat}{u v:aB}(hu:us[i]? =some u)(h1:v.id=u.id)(h2:v.ay=u.ay)(h3:v.kind=u.kind)(h4:v.life=u.life)(h5:v.load=u.load):iU us (us.set i v):=by
 refine⟨.set hu h1 h2 h3 h4,?_⟩;rw[List.map_set,h5];apply List.ext_getElem?;intro j;rw[List.getElem?_set];split
 ·rename_i e
  subst e;rw[List.getElem?_map,hu];simp;exact(List.getElem?_eq_some_iff.1 hu).1
 ·rfl
theorem ES{ks:List KV}{X:WV}{Wn Hn:Nat}{k:KV}{i:Nat}{us us':List aB}{left:Int}{cells:List Int}(h:Goes ks X Wn Hn k i us left cells us'):iU us us':=by
 induction h with
 |stop=>exact .refl _
 | @step us us' left u c gg cells hu hw hg h1 h2 h3 ih=>exact(iU.set (v:={u with at_:=(c:Nat)}) hu rfl rfl rfl rfl rfl).trans ih
theorem ET(u:aB):(ends u).id=u.id/\(ends u).ay=u.ay/\(ends u).kind=u.kind/\(ends u).life=u.life/\(ends u).load=u.load:=by
 unfold ends;split<;>exact⟨rfl,rfl,rfl,rfl,rfl⟩
theorem zG{ks:List KV}{X:WV}{Wn Hn n:Nat}{us us':List aB}{evs:List bP}(h:Moves ks X Wn Hn n us evs us'):iU us us':=by
 induction h with
 |done=>exact .refl _
 | @unit n us us1 us' u u1 k cells evs hu hkk hg h1 hm ih=>
  obtain⟨e1,e2,e3,e4,e5⟩:=ET u1;exact(ES hg).trans ((iU.set h1 e1 e2 e3 e4 e5).trans ih)
structure Wg(ks:List KV)(X Y:WV):Prop where
 t:tot Y<=tot X
 n:X.next<=Y.next
 u:∀u∈Y.us,(∃v∈X.us,v.id=u.id/\u.life<=v.life/\u.ay=v.ay/\u.kind=v.kind)\/(X.next<=u.id/\∃k,ks[u.kind.toNat]? =some k/\u.life<=k.n0)
theorem Wg.refl(ks:List KV)(X:WV):Wg ks X X:=⟨Int.le_refl _,Int.le_refl _,λu hu=>.inl ⟨u,hu,rfl,Int.le_refl _,rfl,rfl⟩⟩
theorem Wg.trans{ks:List KV}{X Y Z:WV}(h:Wg ks X Y)(k:Wg ks Y Z):Wg ks X Z:=by
 refine⟨Int.le_trans k.t h.t,Int.le_trans h.n k.n,λu hu=>?_⟩;rcases k.u u hu with⟨v,hv,e1,e2,e3,e4⟩|⟨h1,h2⟩
 ·rcases h.u v hv with⟨x,hx,d1,d2,d3,d4⟩|⟨d1,kk,d2,d3⟩
  ·exact .inl ⟨x,hx,d1.trans e1,Int.le_trans e2 d2,e3.trans d3,e4.trans d4⟩
  ·exact .inr ⟨by rw[<-e1];exact d1,kk,by rw[e4];exact d2,Int.le_trans e2 d3⟩
 ·exact .inr ⟨Int.le_trans h.n h1,h2⟩
theorem wK{ks:List KV}{X Y:WV}(h:fM X.us Y.us)(hn:Y.next=X.next)(ht:tot Y<=tot X):Wg ks X Y:=by
 refine⟨ht,by rw[hn];exact Int.le_refl _,λu hu=>.inl ?_⟩;obtain⟨j,hj⟩:=List.mem_iff_getElem?.1 hu;obtain⟨v,h1,e1,e2,e3,e4⟩:=h.2 j u hj;exact⟨v,List.mem_of_getElem? h1,e1.symm,by rw[e4];exact Int.le_refl _,e2,e3⟩
theorem AQ{ks:List KV}{X Y:WV}(h:iU X.us Y.us)(hn:Y.next=X.next)(ho:Y.os=X.os)(hg:Y.gold=X.gold):Wg ks X Y:=wK h.1 hn (by unfold tot loads;rw[ho,hg,h.2];exact Int.le_refl _)
theorem EX{ks:List KV}(hk:Kd.aG (ks.map KV.k)=0)(a:Int):0<=eH ks a:=by
 unfold eH;split
 ·rename_i k h
  exact((jO hk).2 k (List.mem_of_getElem? h)).1
 ·exact Int.le_refl _
theorem KT{ks:List KV}{Y Z:WV}{o:aJ}(hk:Kd.aG (ks.map KV.k)=0)(hg:fB ks Y o=some Z):Wg ks Y Z:=by
 unfold fB at hg;split at hg
 ·cases hg
 ·rename_i i _
  split at hg
  ·cases hg
  ·rename_i u hu
   split at hg
   ·cases hg
   ·split at hg
    ·injection hg with hg
     subst hg;split
     ·refine⟨?_,Int.le_refl _,λu hu=>.inl ⟨u,hu,rfl,Int.le_refl _,rfl,rfl⟩⟩
      have hp:=EX hk o.arg;unfold tot loads eP;simp only;by_cases h:o.ay.toNat<Y.gold.length
      ·have e:Y.gold[o.ay.toNat]? =some Y.gold[o.ay.toNat]:=List.getElem?_eq_getElem h
       rw[ng _ _ _ _ e,List.getD_eq_getElem?_getD,e];simp only[Option.getD_some];omega
      ·rw[List.set_eq_of_length_le (by omega)]
       exact Int.le_refl _
     ·exact AQ (iU.set hu rfl rfl rfl rfl rfl) rfl rfl rfl
    ·cases hg
theorem Ql{ks:List KV}{X:WV}{out:List aJ}(hk:Kd.aG (ks.map KV.k)=0):∀q,Wg ks X (gv ks X out q).1
 |0=>.refl ks X
 |q+1=>by
  have ih:=Ql (X:=X) (out:=out) hk q;rw[gv];split
  ·exact ih
  ·split
   ·rename_i Z hZ
    exact ih.trans (KT hk hZ)
   ·exact ih
theorem Vx{ks:List KV}{X:WV}{q:Nat}{Y:WV}{es:List bP}{qs:List aP}(t:Tr ks X q Y es qs):Wg ks X Y:=by
 induction t with
 |zero=>exact .refl ks X
 |wait _ _ _ ih=>exact ih
 |stay _ _ _ _ ih=>exact ih
 | @come q Y es qs j c _ _ _ hc ih=>
  refine ih.trans ⟨?_,?_,?_⟩
  ·unfold tot loads Wd.put
   simp only[List.map_append,rW];have:sm (List.map aB.load [Wd.iI ks Y j.ay j.kind c])=0:=rfl;omega
  ·show Y.next<=Y.next+1
   omega
  ·intro u hu
   rcases List.mem_append.1 hu with hu|hu
   ·exact .inl ⟨u,hu,rfl,Int.le_refl _,rfl,rfl⟩
   ·simp at hu
    obtain⟨-,-,-,kn,k,e,-,hkk,-⟩:=sK hc.2;have hnu:u=⟨Y.next,j.ay,(kn:Nat),c,k.n0,0,0,0⟩:=by
     rw[hu,e];unfold Wd.iI;rw[Int.toNat_natCast,hkk]
    subst hnu;exact .inr ⟨Int.le_refl _,k,by simp only[Int.toNat_natCast];exact hkk,Int.le_refl _⟩
theorem wL{ks:List KV}{Y:WV}:∀q,fM Y.us (tk ks Y q).1.us
 |0=>.refl _
 |q+1=>by
  have ih:=wL (ks:=ks) (Y:=Y) q;rw[tk];split
  ·exact ih
  ·rename_i u hu
   split
   ·exact ih.trans (fM.set hu rfl rfl rfl rfl)
   ·exact ih
theorem wM{ks:List KV}{Wn Hn:Nat}{Y:WV}:∀q,fM Y.us (br ks Wn Hn Y q).1.us
 |0=>.refl _
 |q+1=>by
  have ih:=wM (ks:=ks) (Wn:=Wn) (Hn:=Hn) (Y:=Y) q;rw[br];split
  ·exact ih
  ·rename_i u hu
   split
   ·exact ih.trans (fM.set hu rfl rfl rfl rfl)
   ·exact ih
theorem SH{ks:List KV}{Wn Hn:Nat}{X:WV}(h:aO ks X):Wg ks X (Ls ks Wn Hn X):=by
 have f:=h.Nh;have f2:=sS f X.us.length;have k1:=(nP (ks:=ks) (Y:=X) X.us.length).2.1;have k2:=(nR (Wn:=Wn) (Hn:=Hn) f2 (tk ks X X.us.length).1.us.length).1.2.1;refine wK ((wL X.us.length).trans (wM (Wn:=Wn) (Hn:=Hn) _)) (k2.trans k1) ?_;have t1:=(KO f X.us.length).1;have t2:=(KQ (Wn:=Wn) (Hn:=Hn) f2 (tk ks X X.us.length).1.us.length).1;unfold Ls;omega
theorem rY(p:aB->Bool):∀l:List aB,(∀u∈l,0<=u.load)->sm ((l.filter p).map aB.load)<=sm (l.map aB.load)
 |[],_=>Int.le_refl _
 |u::l,h=>by
  have ih:=rY p l (λx hx=>h x (by simp[hx]));have h0:=h u (by simp);rw[List.filter_cons];split
  ·show u.load+_<=u.load+_
   omega
  ·show _<=u.load+_
   omega
theorem EZ{us:List aB}{lost:List Int}(hl:lost.length=us.length):(hurt us lost).map aB.load=us.map aB.load:=by
 apply List.ext_getElem?;intro j;rw[List.getElem?_map,List.getElem?_map];cases h:(hurt us lost)[j]? with
 |some y=>
  obtain⟨u,x,h1,-,rfl⟩:=jf h;rw[h1];rfl
 |none=>
  have h1:=List.getElem?_eq_none_iff.1 h;rw[gQ hl] at h1;rw[List.getElem?_eq_none h1]
theorem E_{ks:List KV}{Wn:Nat}{X:WV}(h:aO ks X):Wg ks X (iW ks Wn X):=by
 have hl:(strikes ks Wn X.us X.us).1.length=X.us.length:=dH;have up:=fK (ks:=ks) (W:=Wn) (us:=X.us) h.kinds X.us.length (Nat.le_refl _);rw[List.take_length] at up;have hld:∀u∈X.us,0<=u.load:=λu hu=>by
  obtain⟨i,hi⟩:=List.mem_iff_getElem?.1 hu;obtain⟨k,F⟩:=h.fine hi;exact F.load.1
 refine⟨?_,Int.le_refl _,λu hu=>.inl ?_⟩
 ·have e:=EZ hl
  have s:=rY (λu=> !bK u) (struck ks Wn X) (λu hu=>by
   obtain⟨j,hj⟩:=List.mem_iff_getElem?.1 hu;obtain⟨v,x,h1,-,rfl⟩:=jf hj;exact hld v (List.mem_of_getElem? h1))
  unfold tot loads iW stays;simp only;unfold struck at s ⊢;rw[e] at s;omega
 ·have hu':u∈stays ks Wn X:=hu
  unfold stays struck at hu';have hm:=(List.mem_filter.1 hu').1;obtain⟨j,hj⟩:=List.mem_iff_getElem?.1 hm;obtain⟨v,x,h1,h2,rfl⟩:=jf hj;have:=(up x (List.mem_of_getElem? h2)).1;exact⟨v,List.mem_of_getElem? h1,rfl,by show v.life-x<=v.life;omega,rfl,rfl⟩
theorem OY{ks:List KV}{X:WV}{l:List aJ}{Y:WV}{es:List bP}(hf:aZ ks X l=0)(h:kH ks X l Y es):Wg ks X Y:=by
 have hw:Wd.aC ks X=0:=by
  by_cases e:Wd.aC ks X=0
  ·exact e
  ·rw[uo e] at hf;exact absurd hf e
 have ht:¬1000000<=X.turn:=λe=>by rw[zi hw e] at hf;cases hf
 have ho:Od.faults l=0:=by rw[zn hw ht] at hf;exact hf
 have R:=aW hw;obtain⟨out,Wn,Hn,Z,a1,a2,a3,a4,rfl⟩:=h;obtain⟨g1,g2,g3⟩:=nU (ks:=ks) (Y:=X) (out:=out) out.length;have AR:=lI R (out:=out) (λo h=>(Od.fP ho).2 o (a1.mem h)) out.length;have w0:=Ql (X:=X) (out:=out) R.kinds out.length;generalize (gv ks X out out.length).1=A at *;have b1:A.wide=(Wn:Nat):=by rw[g2,a2]
 have b2:A.high=(Hn:Nat):=by rw[g3,a3]
 have fin:Wg ks A Z:=by
  cases a4 with
  |four p3=>
   have r3:=(p3.keep AR b1 b2).1;refine Wg.trans ?_ (E_ r3);cases p3 with
   |three p2=>
    have r2:=(p2.keep AR b1 b2).1;refine Wg.trans ?_ (SH r2);cases p2 with
    |two p1 m=>
     refine Wg.trans ?_ (AQ (zG m) rfl rfl rfl);cases p1 with
     |one t=>exact(Vx t).trans ⟨Int.le_refl _,Int.le_refl _,λu hu=>.inl ⟨u,hu,rfl,Int.le_refl _,rfl,rfl⟩⟩
 exact(w0.trans fin).trans ⟨Int.le_refl _,Int.le_refl _,λu hu=>.inl ⟨u,hu,rfl,Int.le_refl _,rfl,rfl⟩⟩
end Go.Proofs.YtolfphmdmpehdaaGreatDoor
namespace Go.Proofs.YtolfphmdmpehdaaGreatDoor
structure SB(Z:WV):Prop where
 os:∀n,0<=sm (Z.os.take n)/\sm (Z.os.take n)<=144000000
 ls:∀n,0<=sm ((loads Z).take n)/\sm ((loads Z).take n)<=40000
 gs:∀n,0<=sm (Z.gold.take n)/\sm (Z.gold.take n)<=4000000
 o1:∀x∈Z.os,0<=x/\x<=1000000
 l1:∀x∈loads Z,0<=x/\x<=1000
 g1:∀x∈Z.gold,0<=x/\x<=1000000
 ol:Z.os.length<=144
 ul:Z.us.length<=40
 gl:Z.gold.length<=4
 ql:Z.qs.length<=12
theorem uF{B:Int}{l:List Int}{m:Nat}(hB:0<=B)(h:∀x∈l,0<=x/\x<=B)(hl:l.length<=m)(n:Nat):0<=sm (l.take n)/\sm (l.take n)<=B*(m:Int):=by
 have h1:=Qk hB (l.take n) (λx hx=>h x (List.mem_of_mem_take hx));have h2:(l.take n).length<=m:=by rw[List.length_take];omega
 have h3:B*((l.take n).length:Int)<=B*(m:Int):=Int.mul_le_mul_of_nonneg_left (by omega) hB;omega
theorem Qm{ks:List KV}{Z:WV}(h:aO ks Z):SB Z:=by
 have f:=h.Nh;obtain⟨Wn,Hn,e1,e2,G⟩:=f.wide;have ol:Z.os.length<=144:=by
  rw[G.ol];have h1:Wn*Hn<=12*12:=Nat.mul_le_mul G.w2 G.h2;omega
 have o1:∀x∈Z.os,0<=x/\x<=1000000:=λx hx=>by
  obtain⟨i,hi⟩:=List.mem_iff_getElem?.1 hx;exact f.ru hi
 have l1:∀x∈loads Z,0<=x/\x<=1000:=λx hx=>by
  obtain⟨u,hu,rfl⟩:=List.mem_map.1 hx;obtain⟨⟨kn,k,-,-,a,b,c⟩,-⟩:=f.units u hu;omega
 have gl:Z.gold.length<=4:=by
  have n:=h.nums;unfold Wd.aU at n;simp only[Bool.or_eq_false_iff,Bool.not_eq_false',decide_eq_true_eq] at n;obtain⟨-,-,⟨g1,g2⟩,-⟩:=n;omega
 have ll:(loads Z).length<=40:=by unfold loads;rw[List.length_map];exact h.ul
 exact⟨λn=>by have:=uF (B:=1000000) (m:=144) (by decide) o1 ol n;omega,λn=>by have:=uF (B:=1000) (m:=40) (by decide) l1 ll n;omega,λn=>by have:=uF (B:=1000000) (m:=4) (by decide) f.gold gl n;omega,o1,l1,f.gold,ol,h.ul,gl,h.ql⟩
open Go.Proofs.YtolfphmdmpehdaaGreatDoor.So Go.RowKit
theorem wO(v:Value)(X:WV)(w:World)(hw:Wl w v X)(hf:SB X):
 Calls Tryz.prog 34 #[v] w λe w'=>e=.returned (int i64 (tot X))/\Below w.heap.size w w':=by
 have SF:Hid (SB X):=hf;have H:Hid (Wl w v X):=hw;obtain⟨p1,q1,p2,q2,p3,q3,p4,q4,p5,q5,rfl⟩:=aT hw;have HS:=H.out.slices;have GR:Hid (Ro w (slice p3 X.gold.length q3) X.gold/\Ro w (slice p2 X.os.length q2) X.os/\jI w (slice p4 X.us.length q4) X.us):=⟨HS.2.2.1,HS.2.1,HS.2.2.2.1⟩;obtain⟨ga9,gc9,gce,gc1,gc2,-⟩:=GR.out.1;injection gce with ge1 ge2 ge3
 subst ge1 ge3;obtain⟨oa9,oc9,oce,oc1,oc2,-⟩:=GR.out.2.1;injection oce with oe1 oe2 oe3
 subst oe1 oe3;obtain⟨ua9,uc9,uce,uc1,uc2,-⟩:=GR.out.2.2;injection uce with ue1 ue2 ue3
 subst ue1 ue3;have SG0:Hid (∃G O L,sm X.gold=G/\sm X.os=O/\sm (loads X)=L/\tot X=G+O+L/\(0<=G/\G<=4000000)/\(0<=O/\O<=144000000)/\(0<=L/\L<=40000)):=by
  have h1:=SF.out.gs X.gold.length;have h2:=SF.out.os X.os.length;have h3:=SF.out.ls (loads X).length;rw[List.take_length] at h1 h2 h3;exact⟨_,_,_,rfl,rfl,rfl,by unfold tot;omega,h1,h2,h3⟩
 obtain⟨G,O,L,eG,eO,eL,eT,bG,bO,bL⟩:=SG0.out;have EQ:Hid (sm X.gold=G/\sm X.os=O/\sm (loads X)=L/\tot X=G+O+L):=⟨eG,eO,eL,eT⟩;clear hw hf HS ge2 oe2 ue2 eG eO eL eT SG0;go_enter Tryz.func34,Tryz.ntmps34;go_upto_region 1 with fail
 have B0:Hid (Below w.heap.size w (w.alloc (Obj.cells #[int i64 X.turn,int i64 X.next,int i64 X.wide,int i64 X.high,slice p1 X.gs.length q1,slice p2 X.os.length q2,slice p3 X.gold.length q3,slice p4 X.us.length q4,slice p5 X.qs.length q5] 29))):=(Below.refl _ _).alloc (Nat.le_refl _) _;have X0:Hid (Bw (w.alloc (Obj.cells #[int i64 X.turn,int i64 X.next,int i64 X.wide,int i64 X.high,slice p1 X.gs.length q1,slice p2 X.os.length q2,slice p3 X.gold.length q3,slice p4 X.us.length q4,slice p5 X.qs.length q5] 29)) w.heap.size X (slice p1 X.gs.length q1) (slice p2 X.os.length q2) (slice p3 X.gold.length q3) (slice p4 X.us.length q4) (slice p5 X.qs.length q5)):=Bw.mk' X _ _ _ _ _ rfl;generalize w.alloc (Obj.cells #[int i64 X.turn,int i64 X.next,int i64 X.wide,int i64 X.high,slice p1 X.gs.length q1,slice p2 X.os.length q2,slice p3 X.gold.length q3,slice p4 X.us.length q4,slice p5 X.qs.length q5] 29)=w0 at *;obtain⟨x0,x1,x2,x3,x4,x5,x6,x7,x8⟩:=X0.out;go_wp2_with fail
 clear x0 x1 x2 x3 x4 x5 x6 x7 x8;go_loopw [3,4] (λnv iv W=>∃i:Nat,i<=X.gold.length/\nv=int i64 (sm (X.gold.take i))/\iv=int i64 (i:Nat)/\W=w0) (λ_ iv _=>X.gold.length-(intOf iv).toNat)
 case atStart=>exact⟨0,Nat.zero_le _,by simp[sm],rfl,rfl⟩
 case round=>
 obtain⟨i,hi,rfl,rfl,hW⟩:=hrel;obtain rfl:w0=wr:=hW.symm;obtain⟨x0,x1,x2,x3,x4,x5,x6,x7,x8⟩:=X0.out;by_cases hie:i=X.gold.length
 case neg=>
  have hil:i<X.gold.length:=by omega
  have Vy:(i:Int)<(X.gold.length:Int):=by omega
  obtain⟨g,hg⟩:∃g,X.gold[i]? =some g:=⟨_,List.getElem?_eq_getElem hil⟩;have NX:Hid (sm (X.gold.take (i+1))=sm (X.gold.take i)+g):=uD hg;have sb:=SF.out.gs i;have gb:=SF.out.g1 g (List.mem_of_getElem? hg);obtain⟨ga,gq,ge,-,-,iV⟩:=GR.out.1.below B0.out;injection ge with ge1 ge2 ge3
  subst ge1 ge3;obtain⟨yg,rfl,-,iV⟩:=iV (by rintro h;rw[h] at hg;simp at hg);have cg:=iV i g hg;obtain⟨s,hs⟩:∃s,sm (X.gold.take i)=s:=⟨_,rfl⟩;rw[hs] at sb NX ⊢;obtain⟨a,ha⟩:∃a,s=a:=⟨_,rfl⟩;have ab:0<=a/\a<=1000000000:=by omega
  have AE:Hid (s=a):=ha;rw[ha];have wg:IntKind.i64.wrap (a+g)=a+g:=by rw[IntKind.wrap_i64];omega
  clear hg iV ge2 hs ha sb;go_wp2;go_roundw
  case rel=>exact⟨i+1,by omega,by rw[NX.out,<-AE.out]<;>first|rfl|(congr 1;omega),by go_num,by first|rfl|trivial⟩
  case measure=>simp[intOf];omega
 have hii:¬(i:Int)<(X.gold.length:Int):=by omega
 have eg:sm (X.gold.take i)=G:=by rw[hie,List.take_length];exact EQ.out.1
 rw[eg];clear eg;go_wp2_with fail
 clear x0 x1 x2 x3 x4 x5 x6 x7 x8;go_loopw [3,5] (λnv iv W=>∃i:Nat,i<=X.os.length/\nv=int i64 (G+sm (X.os.take i))/\iv=int i64 (i:Nat)/\W=w0) (λ_ iv _=>X.os.length-(intOf iv).toNat)
 case atStart=>exact⟨0,Nat.zero_le _,by simp[sm],rfl,rfl⟩
 case round=>
 obtain⟨i,hi,rfl,rfl,hW⟩:=hrel;obtain rfl:w0=wr:=hW.symm;obtain⟨x0,x1,x2,x3,x4,x5,x6,x7,x8⟩:=X0.out;by_cases hie:i=X.os.length
 case neg=>
  have hil:i<X.os.length:=by omega
  have Vy:(i:Int)<(X.os.length:Int):=by omega
  obtain⟨g,hg⟩:∃g,X.os[i]? =some g:=⟨_,List.getElem?_eq_getElem hil⟩;have NX:Hid (sm (X.os.take (i+1))=sm (X.os.take i)+g):=uD hg;have sb:=SF.out.os i;have gb:=SF.out.o1 g (List.mem_of_getElem? hg);obtain⟨ga,gq,ge,-,-,iV⟩:=GR.out.2.1.below B0.out;injection ge with ge1 ge2 ge3
  subst ge1 ge3;obtain⟨yg,rfl,-,iV⟩:=iV (by rintro h;rw[h] at hg;simp at hg);have cg:=iV i g hg;obtain⟨s,hs⟩:∃s,sm (X.os.take i)=s:=⟨_,rfl⟩;rw[hs] at sb NX ⊢;obtain⟨a,ha⟩:∃a,G+s=a:=⟨_,rfl⟩;have ab:0<=a/\a<=1000000000:=by omega
  have AE:Hid (G+s=a):=ha;rw[ha];have wg:IntKind.i64.wrap (a+g)=a+g:=by rw[IntKind.wrap_i64];omega
  clear hg iV ge2 hs ha sb;go_wp2;go_roundw
  case rel=>exact⟨i+1,by omega,by rw[NX.out,<-AE.out]<;>first|rfl|(congr 1;omega),by go_num,by first|rfl|trivial⟩
  case measure=>simp[intOf];omega
 have hii:¬(i:Int)<(X.os.length:Int):=by omega
 have eo:sm (X.os.take i)=O:=by rw[hie,List.take_length];exact EQ.out.2.1
 rw[eo];clear eo;obtain⟨GO,Yi⟩:∃a,G+O=a:=⟨_,rfl⟩;have EGO:Hid (G+O=GO):=Yi;rw[Yi];have bGO:0<=GO/\GO<=148000000:=by omega
 clear Yi;go_wp2_with fail
 clear x0 x1 x2 x3 x4 x5 x6 x7 x8;go_loopw [3,6] (λnv iv W=>∃i:Nat,i<=X.us.length/\nv=int i64 (GO+sm ((loads X).take i))/\iv=int i64 (i:Nat)/\W=w0) (λ_ iv _=>X.us.length-(intOf iv).toNat)
 case atStart=>exact⟨0,Nat.zero_le _,by simp[sm],rfl,rfl⟩
 case round=>
 obtain⟨i,hi,rfl,rfl,hW⟩:=hrel;obtain rfl:w0=wr:=hW.symm;obtain⟨x0,x1,x2,x3,x4,x5,x6,x7,x8⟩:=X0.out;by_cases hie:i=X.us.length
 case neg=>
  have hil:i<X.us.length:=by omega
  have Vy:(i:Int)<(X.us.length:Int):=by omega
  obtain⟨g,hg⟩:∃g,X.us[i]? =some g:=⟨_,List.getElem?_eq_getElem hil⟩;have NX:Hid (sm ((loads X).take (i+1))=sm ((loads X).take i)+g.load):=uD (by unfold loads;rw[List.getElem?_map,hg];rfl);have sb:=SF.out.ls i;have gb:=SF.out.l1 g.load (by unfold loads;exact List.mem_map.2 ⟨g,List.mem_of_getElem? hg,rfl⟩);obtain⟨ga,gq,ge,-,-,iV⟩:=GR.out.2.2.below B0.out;injection ge with ge1 ge2 ge3
  subst ge1 ge3;obtain⟨yg,rfl,-,iV⟩:=iV (by rintro h;rw[h] at hg;simp at hg);obtain⟨c0,c1,c2,c3,c4,cg,c6,c7⟩:=iV i g hg;obtain⟨s,hs⟩:∃s,sm ((loads X).take i)=s:=⟨_,rfl⟩;rw[hs] at sb NX ⊢;obtain⟨a,ha⟩:∃a,GO+s=a:=⟨_,rfl⟩;have ab:0<=a/\a<=1000000000:=by omega
  have AE:Hid (GO+s=a):=ha;rw[ha];have wg:IntKind.i64.wrap (a+g.load)=a+g.load:=by rw[IntKind.wrap_i64];omega
  clear hg iV ge2 hs ha sb;go_wp2;go_roundw
  case rel=>exact⟨i+1,by omega,by rw[NX.out,<-AE.out]<;>first|rfl|(congr 1;omega),by go_num,by first|rfl|trivial⟩
  case measure=>simp[intOf];omega
 have hii:¬(i:Int)<(X.us.length:Int):=by omega
 have el:GO+sm ((loads X).take i)=tot X:=by
  rw[hie,List.take_of_length_le (by unfold loads;rw[List.length_map];exact Nat.le_refl _)];have:=EQ.out;have:=EGO.out;omega
 rw[el];go_wp2;go_ret;exact⟨rfl,B0.out⟩
end Go.Proofs.YtolfphmdmpehdaaGreatDoor
namespace Go.Proofs.YtolfphmdmpehdaaGreatDoor
open Go.ChangeShapes Go.WideShapes Go.ChangeAt Go.RowKit
theorem Fa:∃f0 f1 f2 f3:Field,Tryz.prog.underlying 96=some (.struct #[f0,f1,f2,f3])/\
 f0.offset=0/\f0.type=3/\f1.offset=1/\f1.type=3/\f2.offset=2/\f2.type=3/\f3.offset=3/\f3.type=3:=⟨_,_,_,_,Tryz.underlying96,rfl,rfl,rfl,rfl,rfl,rfl,rfl,rfl⟩
theorem O_{H:Type}{enc:TypeId×Value->H}{W:World}{base:Nat}{held:Bool}{fuel:Nat}{cs:List Value}{y:DataW H×List MemPlace}(h:DataW.trod enc Tryz.prog W base (λ_=>true) held fuel 96 cs=some y):
 ∃k:aJ,cs=[.int .i64 k.ay,.int .i64 k.unit,.int .i64 k.what,.int .i64 k.arg]/\True:=by
 obtain⟨f0,f1,f2,f3,he,o0,t0,o1,t1,o2,t2,o3,t3⟩:=Fa;obtain⟨xs,m,-,-,hlen,hxl,hf⟩:=DataW.trod_struct he h;have qA:Tryz.prog.cellsOf 3=1:=by kernel_rfl
 have uG:Tryz.prog.cellsOf 96=4:=by kernel_rfl
 rw[uG] at hlen
 match cs,hlen with
 |[v0,v1,v2,v3],_=>
  have hx:xs.length=4:=hxl
  match xs,hx with
  |[x0,x1,x2,x3],_=>
   have g0:=hf 0 f0 rfl;rw[o0,t0,qA] at g0;have g1:=hf 1 f1 rfl;rw[o1,t1,qA] at g1;have g2:=hf 2 f2 rfl;rw[o2,t2,qA] at g2;have g3:=hf 3 f3 rfl;rw[o3,t3,qA] at g3;obtain⟨m0,e0,-,-⟩:=DataW.trod_int Tryz.underlying3 g0;obtain⟨m1,e1,-,-⟩:=DataW.trod_int Tryz.underlying3 g1;obtain⟨m2,e2,-,-⟩:=DataW.trod_int Tryz.underlying3 g2;obtain⟨m3,e3,-,-⟩:=DataW.trod_int Tryz.underlying3 g3;simp at e0 e1 e2 e3;subst e0 e1 e2 e3;exact⟨⟨m0,m1,m2,m3⟩,rfl,trivial⟩
theorem KY{H:Type}{enc:TypeId×Value->H}{W:World}{base:Nat}{held:Bool}{fuel:Nat}{v:Value}{y:DataW H×List MemPlace}(h:DataW.trod enc Tryz.prog W base (λ_=>true) held fuel 61 [v]=some y):
 ∃ks:List aJ,vF W v ks/\∀k∈ks,True:=by
 have uG:Tryz.prog.cellsOf 96=4:=by kernel_rfl
 rcases Go.Deep.open_slice Tryz.underlying61 h with⟨hcs,-⟩|⟨a,len,cap,m,q,D,Pl,hcs,hb,hl,hm,hmm,-,hx⟩
 ·simp at hcs
  subst hcs;exact⟨[],⟨none,0,rfl,Nat.le_refl _,by omega,λh=>absurd rfl h⟩,by simp⟩
 ·simp at hcs
  subst hcs;have hlm:len<=m:=by rw[hmm];simp;exact hl
  have each:∀i,i<len->∃k:aJ,kN W (a.add (i*4)) k/\(True):=by
   intro i hi;obtain⟨cs',h1,h2⟩:=hx i (by omega);obtain⟨k,rfl,hk⟩:=O_ h2;rw[uG] at h1;obtain⟨-,-,hcell⟩:=World.cells?_some h1;refine⟨k,?_,hk⟩;generalize a.add (i*4)=y at *;exact⟨hcell 0 (by decide),hcell 1 (by decide),hcell 2 (by decide),hcell 3 (by decide)⟩
  have inh:Inhabited aJ:=⟨⟨0,0,0,0⟩⟩;obtain⟨q,hq⟩:=Go.Deep.choose_lt each;refine⟨(List.range len).map q,⟨some a,cap,by simp,by simpa using hl,by unfold maxLen at hm;omega,λhn=>⟨a,rfl,?_,λi k hk=>?_⟩⟩,?_⟩
  ·have h0:0<len:=by
    rcases Nat.eq_zero_or_pos len with h|h
    ·subst h;simp at hn
    ·exact h
   have:=(hq 0 h0).1.lt;rwa[add_block] at this
  ·have hi:i<len:=by
    have:=(List.getElem?_eq_some_iff.1 hk).1;simpa using this
   rw[List.getElem?_map,List.getElem?_range hi] at hk;injection hk with hk
   subst hk;exact(hq i hi).1
  ·intro k hk
   obtain⟨i,hi,rfl⟩:=List.mem_map.1 hk;exact(hq i (List.mem_range.1 hi)).2
theorem Fb{H:Type}{enc:TypeId×Value->H}{W:World}{base:Nat}{held:Bool}{fuel:Nat}{v:Value}{y:DataW H×List MemPlace}(h:DataW.trod enc Tryz.prog W base (λ_=>true) held fuel 30 [v]=some y):
 ∃ls:List (List aJ),Ej W v ls:=by
 have uG:Tryz.prog.cellsOf 61=1:=by kernel_rfl
 rcases Go.Deep.open_slice Tryz.underlying30 h with⟨hcs,-⟩|⟨a,len,cap,m,q,D,Pl,hcs,hb,hl,hm,hmm,-,hx⟩
 ·simp at hcs
  subst hcs;exact⟨[],⟨none,0,rfl,Nat.le_refl _,by omega,λh=>absurd rfl h⟩⟩
 ·simp at hcs
  subst hcs;have hlm:len<=m:=by rw[hmm];simp;exact hl
  have each:∀i,i<len->∃l:List aJ,∃u,W.cell? (a.add i)=some u/\vF W u l:=by
   intro i hi;obtain⟨cs',h1,h2⟩:=hx i (by omega);rw[uG] at h1;rw[Nat.mul_one] at h1;obtain⟨-,hlen,hcell⟩:=World.cells?_some h1
   match cs',hlen with
   |[u],_=>
    obtain⟨l,hl',-⟩:=KY h2;exact⟨l,u,hcell 0 (by decide),hl'⟩
  have inh:Inhabited (List aJ):=⟨[]⟩;obtain⟨q,hq⟩:=Go.Deep.choose_lt each;refine⟨(List.range len).map q,⟨some a,cap,by simp,by simpa using hl,by unfold maxLen at hm;omega,λhn=>⟨a,rfl,?_,λi k hk=>?_⟩⟩⟩
  ·have h0:0<len:=by
    rcases Nat.eq_zero_or_pos len with h|h
    ·subst h;simp at hn
    ·exact h
   obtain⟨u,h1,-⟩:=hq 0 h0;have:=cell_lt h1;rwa[add_block] at this
  ·have hi:i<len:=by
    have:=(List.getElem?_eq_some_iff.1 hk).1;simpa using this
   rw[List.getElem?_map,List.getElem?_range hi] at hk;injection hk with hk
   subst hk;exact hq i hi
theorem Pg{H:Type}{enc:TypeId×Value->H}{W:World}{base b0:Nat}{held:Bool}{v:Value}{d:DataW H}{p:List MemPlace}(hv:Value.okWide Tryz.prog W .any b0 30 v)(h:DataW.Trod enc Tryz.prog W base (λ_=>true) held 30 v d p):∃ls:List (List aJ),Ej W v ls:=by
 obtain⟨a,len,cap,rfl⟩:=okWide_slice Tryz.underlying30 hv;obtain⟨fuel,hf⟩:=h;exact Fb hf
theorem Ej.take{w:World}{a:Option Addr}{n c:Nat}{ls:List (List aJ)}(h:Ej w (slice a n c) ls){k:Nat}(hk:k<=ls.length):Ej w (slice a k c) (ls.take k):=by
 obtain⟨a',c',e,h2,h3,h4⟩:=h;injection e with e1 e2 e3
 subst e1 e3;have hl:(ls.take k).length=k:=by rw[List.length_take];omega
 refine⟨a,c,by rw[hl],by omega,h3,λhn=>?_⟩;obtain⟨x,ex,hx,hy⟩:=h4 (by rintro rfl;simp at hn);refine⟨x,ex,hx,λi l hi=>hy i l ?_⟩;rw[List.getElem?_take] at hi;split at hi
 ·exact hi
 ·cases hi
end Go.Proofs.YtolfphmdmpehdaaGreatDoor
namespace Go.Proofs.YtolfphmdmpehdaaGreatDoor
open Go Go.RowKit
inductive uH where
 |leaf:uH
 |read:Nat->uH->uH
 |one:Nat->uH->uH
 |two:Nat->uH->Nat->uH->uH
 |three:Nat->uH->Nat->uH->Nat->uH->uH
section
variable {P:Program} {ops:Array Oper} {md:Region.Mode} {C:World->Prop} {Q:Exit->Act->World->Prop}
def jH(P:Program)(ops:Array Oper)(C:World->Prop)(K:Act->World->Prop):uH->Act->World->Prop
 | .leaf,a,W=>K a W
 | .read i t,a,W=>∃o v,ops[i]? =some o/\fF P ops C o v a/\jH P ops C K t (a.put o.dst v) W
 | .one i t,a,W=>∃o,ops[i]? =some o/\dG P ops C o (jH P ops C K t) a W
 | .two i t j u,a,W=>(∃o,ops[i]? =some o/\dG P ops C o (jH P ops C K t) a W)/\(∃o,ops[j]? =some o/\dG P ops C o (jH P ops C K u) a W)
 | .three i t j u k v,a,W=>(∃o,ops[i]? =some o/\dG P ops C o (jH P ops C K t) a W)/\(∃o,ops[j]? =some o/\dG P ops C o (jH P ops C K u) a W)/\(∃o,ops[k]? =some o/\dG P ops C o (jH P ops C K v) a W)
def uI(md:Region.Mode)(ops:Array Oper)(H0:Array Bool):Nat->uH->Array Bool->Bool
 |0,.leaf,listed=>decide (listed=H0)
 |n+1,.read i t,listed=>(Region.ready md ops listed).contains i&&(Region.free md ops listed i&&((waits md ops H0 i||decide (Region.ready md ops (H0.setIfInBounds i false)=[i]))&&uI md ops H0 n t (listed.setIfInBounds i true)))
 |n+1,.one i t,listed=>(Region.ready md ops listed).contains i&&((Region.ready md ops listed).all (λx=>decide (x=i))&&uI md ops H0 n t (listed.setIfInBounds i true))
 |n+1,.two i t j u,listed=>(Region.ready md ops listed).contains i&&((Region.ready md ops listed).contains j&&((Region.ready md ops listed).all (λx=>decide (x=i)||decide (x=j))&&(uI md ops H0 n t (listed.setIfInBounds i true)&&uI md ops H0 n u (listed.setIfInBounds j true))))
 |n+1,.three i t j u k v,listed=>(Region.ready md ops listed).contains i&&((Region.ready md ops listed).contains j&&((Region.ready md ops listed).contains k&&((Region.ready md ops listed).all (λx=>decide (x=i)||(decide (x=j)||decide (x=k)))&&(uI md ops H0 n t (listed.setIfInBounds i true)&&(uI md ops H0 n u (listed.setIfInBounds j true)&&uI md ops H0 n v (listed.setIfInBounds k true))))))
 |_,_,_=>false
theorem dI{K:Act->World->Prop}{H0:Array Bool}(hsel:Region.noSelect ops=true):∀(n:Nat) (t:uH) (listed:Array Bool) (a:Act) (W:World),xQ md ops listed->uI md ops H0 n t listed=true->C W->jH P ops C K t a W->kQ P md ops C (λl a W=>l=H0/\K a W) n listed a W
 |0,.leaf,listed,a,W,inv,hB,hC,h=>by
  simp only[uI,decide_eq_true_eq] at hB;exact⟨hB,h⟩
 |n+1,.read i t,listed,a,W,inv,hB,hC,h=>by
  simp only[uI,Bool.and_eq_true,Bool.or_eq_true,decide_eq_true_eq] at hB;obtain⟨hr,hf,hH,hB⟩:=hB;obtain⟨o,v,ho,hy,hk⟩:=h;have hr':i∈Region.ready md ops listed:=by simpa using hr
  exact jo ho (Region.noSelect_spec hsel) hH (λ_ _ _ h=>h.1) n listed a W inv (Region.free_spec ho hf) hr' hy hC (dI hsel n t _ _ _ (inv.set hr') hB hC hk)
 |n+1,.one i t,listed,a,W,inv,hB,hC,h=>by
  simp only[uI,Bool.and_eq_true] at hB;obtain⟨hr,hall,hB⟩:=hB;have hr':i∈Region.ready md ops listed:=by simpa using hr
  obtain⟨o,ho,hs⟩:=h;refine⟨λh=>(by rw[h] at hr';cases hr'),λx hx=>?_⟩;have hx':=List.all_eq_true.1 hall x hx;simp only[decide_eq_true_eq] at hx';subst hx';exact⟨o,ho,hs.mono λa' W' hC' hk=>dI hsel n t _ _ _ (inv.set hr') hB hC' hk⟩
 |n+1,.two i t j u,listed,a,W,inv,hB,hC,h=>by
  simp only[uI,Bool.and_eq_true] at hB;obtain⟨hi,hj,hall,hB1,hB2⟩:=hB;have hi':i∈Region.ready md ops listed:=by simpa using hi
  have hj':j∈Region.ready md ops listed:=by simpa using hj
  obtain⟨⟨o,ho,hs⟩,⟨o2,ho2,hs2⟩⟩:=h;refine⟨λh=>(by rw[h] at hi';cases hi'),λx hx=>?_⟩;have hx':=List.all_eq_true.1 hall x hx;simp only[Bool.or_eq_true,decide_eq_true_eq] at hx';rcases hx' with e|e
  ·subst e;exact⟨o,ho,hs.mono λa' W' hC' hk=>dI hsel n t _ _ _ (inv.set hi') hB1 hC' hk⟩
  ·subst e;exact⟨o2,ho2,hs2.mono λa' W' hC' hk=>dI hsel n u _ _ _ (inv.set hj') hB2 hC' hk⟩
 |n+1,.three i t j u k v,listed,a,W,inv,hB,hC,h=>by
  simp only[uI,Bool.and_eq_true] at hB;obtain⟨hi,hj,hk,hall,hB1,hB2,hB3⟩:=hB;have hi':i∈Region.ready md ops listed:=by simpa using hi
  have hj':j∈Region.ready md ops listed:=by simpa using hj
  have hk':k∈Region.ready md ops listed:=by simpa using hk
  obtain⟨⟨o,ho,hs⟩,⟨o2,ho2,hs2⟩,⟨o3,ho3,hs3⟩⟩:=h;refine⟨λh=>(by rw[h] at hi';cases hi'),λx hx=>?_⟩;have hx':=List.all_eq_true.1 hall x hx;simp only[Bool.or_eq_true,decide_eq_true_eq] at hx';rcases hx' with e|e|e
  ·subst e;exact⟨o,ho,hs.mono λa' W' hC' hk=>dI hsel n t _ _ _ (inv.set hi') hB1 hC' hk⟩
  ·subst e;exact⟨o2,ho2,hs2.mono λa' W' hC' hk=>dI hsel n u _ _ _ (inv.set hj') hB2 hC' hk⟩
  ·subst e;exact⟨o3,ho3,hs3.mono λa' W' hC' hk=>dI hsel n v _ _ _ (inv.set hk') hB3 hC' hk⟩
 |0,.read _ _,_,_,_,_,hB,_,_=>by simp[uI] at hB
 |0,.one _ _,_,_,_,_,hB,_,_=>by simp[uI] at hB
 |0,.two _ _ _ _,_,_,_,_,hB,_,_=>by simp[uI] at hB
 |0,.three _ _ _ _ _ _,_,_,_,_,hB,_,_=>by simp[uI] at hB
 |_+1,.leaf,_,_,_,_,hB,_,_=>by simp[uI] at hB
theorem qB{id:Nat}{a:Act}{w:World}(T:uH)(s t:List (Bool×Nat))(C:World->Prop)(hm:P.follows .mixedOrders=true)(hs:Region.noSelect ops=true)(hl:s.length+t.length=ops.size)
 (hB:uI .any ops (iq ops.size s) s.length T (Array.replicate ops.size false)=true)
 (hT:jm .any ops t (iq ops.size s)=true)
 (hC:C {w with drawn:=w.drawn+1}) (h:jH P ops C (aK P ops (λ_=>True) Q t) T a {w with drawn:=w.drawn+1}):(Code.region id ops true).wp P Q a w:=by
 refine wp_region_any hm ?_;rw[<-hl];refine fU (g:=t.length) (λlisted a W hh=>?_) _ _ _ _ (dI (H0:=iq ops.size s) hs s.length T _ a _ (λj oj _ hj=>by rw[getD_replicate_false] at hj;cases hj) (by rw[hl];exact hB) hC h);obtain⟨rfl,hk⟩:=hh;exact fQ _ _ _ _ (dY hs t _ a W hT trivial hk)
theorem eY{K:Act->World->Prop}{i:Nat}{t:uH}{o:Oper}{a:Act}{W:World}(ho:ops[i]? =some o)(v:Value)(hw:Region.wanted o (yielded ops a.tmps)=true)(hr:∀W,C W->(execOp a.eval o).run P W=.ok (.value v) W)(h:jH P ops C K t (a.put o.dst v) W):jH P ops C K (.read i t) a W:=
 ⟨o,v,ho,⟨hw,hr⟩,h⟩
theorem ni{K:Act->World->Prop}{i:Nat}{t:uH}{a:Act}{W:World}(h:∃o,ops[i]? =some o/\dG P ops C o (jH P ops C K t) a W):jH P ops C K (.one i t) a W:=h
theorem SK{K:Act->World->Prop}{i j:Nat}{t u:uH}{a:Act}{W:World}(h:∃o,ops[i]? =some o/\dG P ops C o (jH P ops C K t) a W)(h2:∃o,ops[j]? =some o/\dG P ops C o (jH P ops C K u) a W):jH P ops C K (.two i t j u) a W:=⟨h,h2⟩
theorem AV{K:Act->World->Prop}{i:Nat}{o:Oper}{a:Act}{W:World}(ho:ops[i]? =some o)(f:FuncId)(args:Array Value)(hw:Region.wanted o (yielded ops a.tmps)=true)(hr:(execOp a.eval o).run P W=.ok (.enter f args) W)
 (hc:Calls P f args W (λe w'=>∃v,e=.returned v/\C w'/\K (a.put o.dst v) w')):∃o,ops[i]? =some o/\dG P ops C o K a W:=
 ⟨o,ho,hw,.inr (.inr ⟨f,args,hr,hc⟩)⟩
theorem mF{K:Act->World->Prop}{i:Nat}{o:Oper}{a:Act}{W:World}(ho:ops[i]? =some o)(v:Value)(W':World)(hw:Region.wanted o (yielded ops a.tmps)=true)(hr:(execOp a.eval o).run P W=.ok (.value v) W')(hC:C W')(h:K (a.put o.dst v) W'):∃o,ops[i]? =some o/\dG P ops C o K a W:=
 ⟨o,ho,hw,.inl ⟨v,W',hr,hC,h⟩⟩
theorem AY{K:Act->World->Prop}{i:Nat}{o:Oper}{a:Act}{W:World}(ho:ops[i]? =some o)(W':World)(hw:Region.wanted o (yielded ops a.tmps)=true)(hr:(execOp a.eval o).run P W=.ok .skip W')(hC:C W')(h:K (a.put o.dst undef) W'):∃o,ops[i]? =some o/\dG P ops C o K a W:=
 ⟨o,ho,hw,.inr (.inl ⟨W',hr,hC,h⟩)⟩
end
end Go.Proofs.YtolfphmdmpehdaaGreatDoor
namespace Go.Proofs.YtolfphmdmpehdaaGreatDoor
open Go.RowKit
theorem Fe(v:Value)(W:WV)(id:Int)(w:World)(h:Wl w v W):
 Calls Tryz.prog 35 #[v,int i64 id] w λe w'=>∃r:Int,e=.returned (int i64 r)/\gI (λu=>u.id==id) W.us r/\Below w.heap.size w w':=by
 obtain⟨u1,u2,u3,u4,u5,rfl,-,-,-,⟨a,c,rfl,c1,c2,ca⟩,-⟩:=h;have Ca:Hid (W.us≠[]->∃x,a=some x/\x.block<w.heap.size/\∀(i:Nat) k,W.us[i]? =some k->dw w (x.add (i*8)) k):=ca;clear ca;go_enter Tryz.func35,Tryz.ntmps35;go_wp2;have B0:Hid (Below w.heap.size w (w.alloc (Obj.cells #[int i64 W.turn,int i64 W.next,int i64 W.wide,int i64 W.high,u1,u2,u3,slice a W.us.length c,u5] 29))):=(Below.refl _ _).alloc (Nat.le_refl _) _;have X0:Hid (Bw (w.alloc (Obj.cells #[int i64 W.turn,int i64 W.next,int i64 W.wide,int i64 W.high,u1,u2,u3,slice a W.us.length c,u5] 29)) w.heap.size W u1 u2 u3 (slice a W.us.length c) u5):=Bw.mk' W _ _ _ _ _ rfl;generalize w.alloc (Obj.cells #[int i64 W.turn,int i64 W.next,int i64 W.wide,int i64 W.high,u1,u2,u3,slice a W.us.length c,u5] 29)=w0 at *;go_loopw [5] (λiv V=>∃k:Nat,k<=W.us.length/\iv=int i64 (k:Nat)/\(W.us.take k).any (λu=>u.id==id)=false/\V=w0) (λiv _=>W.us.length-(intOf iv).toNat)
 case atStart=>exact⟨0,Nat.zero_le _,rfl,rfl,rfl⟩
 case round=>
  obtain⟨k,hk,rfl,hn,rfl⟩:=hrel;have HN:Hid ((W.us.take k).any (λu=>u.id==id)=false):=hn;have c7:=X0.out.c7;clear hn;by_cases hkl:k=W.us.length
  ·have F:Hid (gI (λu=>u.id==id) W.us (-1)):=.inl ⟨rfl,by have:=HN.out;rwa[hkl,List.take_length] at this⟩
   subst hkl;clear hk;go_wp2;go_ret;exact⟨-1,rfl,F.out,B0.out⟩
  ·have hlt:k<W.us.length:=by omega
   have VT:(k:Int)<(W.us.length:Int):=by omega
   obtain⟨u,hu⟩:∃u,W.us[k]? =some u:=⟨_,List.getElem?_eq_getElem hlt⟩;obtain⟨x,rfl,hx,hcell⟩:=Ca.out (by intro e;rw[e] at hlt;simp at hlt);obtain⟨d0,-,-,-,-,-,-,-⟩:=(hcell k u hu).below B0.out (by rw[add_block];exact hx);have HU:Hid (W.us[k]? =some u):=hu;clear hcell hx hu hkl;by_cases hid:u.id=id
   ·have F:Hid (gI (λu=>u.id==id) W.us (k:Nat)):=.inr ⟨k,u,rfl,HU.out,by simp[hid],HN.out⟩
    go_wp2;go_ret;exact⟨_,rfl,F.out,B0.out⟩
   ·have Yj:(u.id==id)=false:=by simpa using hid
    have N2:Hid ((W.us.take (k+1)).any (λu=>u.id==id)=false):=by unfold Hid;rw[mG HU.out,HN.out,Yj];rfl
    clear hid;go_wp2;go_roundw
    case rel=>exact⟨k+1,by omega,rfl,N2.out,trivial⟩
    case measure=>simp[intOf];omega
open Go.ChangeAt Go.ChangeShapes Go.WideShapes
theorem K_{H:Type}:∀d:DataW H,1<=Rows.uptoBulk d
 | .lit (.string bytes)=>by simp[Rows.uptoBulk]
 | .lit (.int _ _)=>by simp[Rows.uptoBulk]
 | .lit (.bool _)=>by simp[Rows.uptoBulk]
 | .lit (.float .f32 _)=>by simp[Rows.uptoBulk]
 | .lit (.float .f64 _)=>by simp[Rows.uptoBulk]
 | .lit .nil=>by simp[Rows.uptoBulk]
 | .nil=>by simp[Rows.uptoBulk]
 | .ptr d=>by simp[Rows.uptoBulk]
 | .slice _ _=>by simp[Rows.uptoBulk]
 | .agg _=>by simp[Rows.uptoBulk]
 | .iface _ _=>by simp[Rows.uptoBulk]
 | .map _=>by simp[Rows.uptoBulk]
 | .held _=>by simp[Rows.uptoBulk]
theorem wP{H:Type}:∀ds:List (DataW H),ds.length<=Rows.uptoBulkAll ds
 |[]=>by simp
 |d::ds=>by
  have h1:=K_ d;have h2:=wP ds;simp only[Rows.uptoBulkAll,List.length_cons];omega
theorem kX{H:Type}(es sp:List (DataW H)):es.length<=Rows.uptoBulk (.slice es sp):=by
 have:=wP es;simp only[Rows.uptoBulk];omega
end Go.Proofs.YtolfphmdmpehdaaGreatDoor
