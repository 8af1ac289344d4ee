/- Cells beside one another: plain mathematics. And more. -/
import Derived.Test.YtjpappkgdadhhaaGreatDoorZTopQuiet2
set_option linter.unusedVariables false
set_option maxHeartbeats 4000000
set_option maxRecDepth 100000
namespace Go.Proofs.YtjpappkgdadhhaaGreatDoor.Fd
open Go.Value (int slice)
open Go.IntKind (i64)
theorem iT{W H a:Nat}{x:Int}:x∈near W H a↔(0<a/W/\x=(a:Int)-W)\/(0<a%W/\x=(a:Int)-1)\/(a%W+1<W/\x=(a:Int)+1)\/(a/W+1<H/\x=(a:Int)+W):=by
 unfold near;simp only[List.mem_append];constructor
 ·rintro(h|h|h|h)
  ·split at h
   ·simp at h;left;exact⟨by assumption,h⟩
   ·simp at h
  ·split at h
   ·simp at h;right;left;exact⟨by assumption,h⟩
   ·simp at h
  ·split at h
   ·simp at h;right;right;left;exact⟨by assumption,h⟩
   ·simp at h
  ·split at h
   ·simp at h;right;right;right;exact⟨by assumption,h⟩
   ·simp at h
 ·rintro(⟨h,e⟩|⟨h,e⟩|⟨h,e⟩|⟨h,e⟩)
  ·left;rw[if_pos h,e];simp
  ·right;left;rw[if_pos h,e];simp
  ·right;right;left;rw[if_pos h,e];simp
  ·right;right;right;rw[if_pos h,e];simp
theorem nZ(W H a:Nat):(near W H a).length<=4:=by
 unfold near;simp only[List.length_append];have h:∀(c:Prop) [Decidable c] (x:Int),(if c then[x] else[]).length<=1:=by
  intro c _ x;split<;>simp
 have h1:=h (0<a/W) ((a:Int)-W);have h2:=h (0<a%W) ((a:Int)-1);have h3:=h (a%W+1<W) ((a:Int)+1);have h4:=h (a/W+1<H) ((a:Int)+W);omega
theorem mD{W H a:Nat}{x:Int}(hW:0<W)(ha:a<W*H)(h:x∈near W H a):∃t:Nat,x=t/\t<W*H/\(a:Int)∈near W H t:=by
 have e:=Nat.div_add_mod a W;have hr:=Nat.div_lt_of_lt_mul ha;have hc:=Nat.mod_lt a hW;have key:∀r c:Nat,c<W->(W*r+c)/W=r/\(W*r+c)%W=c:=by
  intro r c h;constructor
  ·rw[Nat.mul_add_div hW,Nat.div_eq_of_lt h];omega
  ·rw[Nat.mul_add_mod,Nat.mod_eq_of_lt h]
 have bd:∀r c:Nat,r<H->c<W->W*r+c<W*H:=by
  intro r c h1 h2;have:=Nat.mul_le_mul_left W (show r+1<=H by omega);rw[Nat.mul_add,Nat.mul_one] at this;omega
 generalize a/W=r at *;generalize a%W=c at *;have ei:(a:Int)=(W:Int)*r+c:=by rw[<-e];simp
 have hh:=iT.1 h;have e1:=(key r c hc).1;have e2:=(key r c hc).2;rw[e] at e1 e2;rw[e1,e2] at hh;rcases hh with⟨h1,hx⟩|⟨h1,hx⟩|⟨h1,hx⟩|⟨h1,hx⟩
 ·obtain⟨r',rfl⟩:∃r',r=r'+1:=⟨r-1,by omega⟩
  have k:=key r' c hc;refine⟨W*r'+c,?_,bd r' c (by omega) hc,iT.2 ?_⟩
  ·rw[hx,ei];simp[Int.mul_add];omega
  ·rw[k.1,k.2]
   right;right;right;refine⟨hr,?_⟩;rw[ei];simp[Int.mul_add];omega
 ·obtain⟨c',rfl⟩:∃c',c=c'+1:=⟨c-1,by omega⟩
  have k:=key r c' (by omega);refine⟨W*r+c',?_,bd r c' hr (by omega),iT.2 ?_⟩
  ·rw[hx,ei];simp;omega
  ·rw[k.1,k.2]
   right;right;left;refine⟨hc,?_⟩;rw[ei];simp;omega
 ·have k:=key r (c+1) h1
  refine⟨W*r+(c+1),?_,bd r _ hr h1,iT.2 ?_⟩
  ·rw[hx,ei];simp;omega
  ·rw[k.1,k.2]
   right;left;refine⟨by omega,?_⟩;rw[ei];simp;omega
 ·have k:=key (r+1) c hc
  refine⟨W*(r+1)+c,?_,bd _ c h1 hc,iT.2 ?_⟩
  ·rw[hx,ei];simp[Int.mul_add];omega
  ·rw[k.1,k.2]
   left;refine⟨by omega,?_⟩;rw[ei];simp[Int.mul_add];omega
end Go.Proofs.YtjpappkgdadhhaaGreatDoor.Fd
namespace Go.Proofs.YtjpappkgdadhhaaGreatDoor.Wy
open Go.Value (int slice)
open Go.IntKind (i64)
inductive Way (nb:Nat->List Int) (st:Nat->Nat->Int) (t:Nat):Nat->Int->Prop
 |here:Way nb st t t 0
 |step {i j:Nat} {d:Int}:(j:Int)∈nb i->0<st i j->Way nb st t j d->Way nb st t i (st i j+d)
section
variable {nb:Nat->List Int} {st:Nat->Nat->Int} {t:Nat}
theorem Way.nonneg{i:Nat}{d:Int}(h:Way nb st t i d):0<=d:=by
 induction h with
 |here=>omega
 |step _ h1 _ ih=>omega
def Least(nb:Nat->List Int)(st:Nat->Nat->Int)(t i:Nat)(x:Int):Prop:=
 (x= -1/\∀d,¬Way nb st t i d)\/(Way nb st t i x/\∀d,Way nb st t i d->x<=d)
theorem Least.uniq{i:Nat}{x y:Int}(hx:Least nb st t i x)(hy:Least nb st t i y):x=y:=by
 rcases hx with⟨rfl,hx⟩|⟨h1,h2⟩
 ·rcases hy with⟨rfl,_⟩|⟨h3,_⟩
  ·rfl
  ·exact absurd h3 (hx _)
 ·rcases hy with⟨rfl,hy⟩|⟨h3,h4⟩
  ·exact absurd h1 (hy _)
  ·have:=h2 _ h3
   have:=h4 _ h1;omega
theorem Least.ge{i:Nat}{x:Int}(h:Least nb st t i x): -1<=x:=by
 rcases h with⟨rfl,_⟩|⟨h,_⟩
 ·omega
 ·have:=h.nonneg;omega
def aY(nb:Nat->List Int)(st:Nat->Nat->Int)(t n:Nat)(l:List Int):Prop:=l.length=n/\∀(i:Nat) x,l[i]? =some x->Least nb st t i x
theorem aY.uniq{n:Nat}{l m:List Int}(hl:aY nb st t n l)(hm:aY nb st t n m):l=m:=by
 apply List.ext_getElem?;intro i;by_cases h:i<n
 ·have h1:i<l.length:=by rw[hl.1];exact h
  have h2:i<m.length:=by rw[hm.1];exact h
  rw[List.getElem?_eq_getElem h1,List.getElem?_eq_getElem h2,(hl.2 i _ (List.getElem?_eq_getElem h1)).uniq (hm.2 i _ (List.getElem?_eq_getElem h2))]
 ·rw[List.getElem?_eq_none (by rw[hl.1];omega),List.getElem?_eq_none (by rw[hm.1];omega)]
def Sound(nb:Nat->List Int)(st:Nat->Nat->Int)(t:Nat)(l:List Int):Prop:=∀(i:Nat) x,l[i]? =some x->x= -1\/Way nb st t i x
def Shut(nb:Nat->List Int)(st:Nat->Nat->Int)(l:List Int)(i:Nat):Prop:=∀(j:Nat) x y,l[i]? =some x->l[j]? =some y->(j:Int)∈nb i->0<st i j->0<=y->0<=x/\x<=st i j+y
theorem wZ{n:Nat}{l:List Int}(hn:l.length=n)(hnb:∀(i j:Nat),i<n->(j:Int)∈nb i->j<n)(ht:l[t]? =some 0)(hs:Sound nb st t l)(hc:∀i,i<n->Shut nb st l i):aY nb st t n l:=by
 have key:∀i d,Way nb st t i d->i<n->∃x,l[i]? =some x/\0<=x/\x<=d:=by
  intro i d h
  induction h with
  |here=>intro _;exact⟨0,ht,by omega,by omega⟩
  | @step i j d h1 h2 h3 ih=>
   intro hi;obtain⟨y,hy,y0,yd⟩:=ih (hnb i j hi h1);have hx:i<l.length:=by rw[hn];exact hi
   have:=hc i hi j _ y (List.getElem?_eq_getElem hx) hy h1 h2 y0;exact⟨_,List.getElem?_eq_getElem hx,this.1,by omega⟩
 refine⟨hn,λi x hx=>?_⟩;have hi:i<n:=by rw[<-hn];exact(List.getElem?_eq_some_iff.1 hx).1
 rcases hs i x hx with rfl|hw
 ·refine .inl ⟨rfl,λd hd=>?_⟩
  obtain⟨x,h1,h2,-⟩:=key i d hd hi;rw[hx] at h1;injection h1 with h1
  omega
 ·refine .inr ⟨hw,λd hd=>?_⟩
  obtain⟨y,h1,h2,h3⟩:=key i d hd hi;rw[hx] at h1;injection h1 with h1
  omega
theorem aY.sound{n:Nat}{l:List Int}(h:aY nb st t n l):Sound nb st t l:=λi x hx=>by
 rcases h.2 i x hx with⟨rfl,_⟩|⟨h,_⟩
 ·exact .inl rfl
 ·exact .inr h
theorem aY.shut{n:Nat}{l:List Int}(h:aY nb st t n l)(i:Nat):Shut nb st l i:=by
 intro j x y hx hy hj hs y0;rcases h.2 j y hy with⟨rfl,_⟩|⟨hy1,_⟩
 ·omega
 ·have hw:=Way.step hj hs hy1
  rcases h.2 i x hx with⟨rfl,hx1⟩|⟨hx1,hx2⟩
  ·exact absurd hw (hx1 _)
  ·exact⟨hx1.nonneg,hx2 _ hw⟩
theorem aY.here{n:Nat}{l:List Int}(h:aY nb st t n l)(ht:t<n):l[t]? =some 0:=by
 have hl:t<l.length:=by rw[h.1];exact ht
 have h1:=List.getElem?_eq_getElem hl;rcases h.2 t _ h1 with⟨_,h2⟩|⟨h2,h3⟩
 ·exact absurd Way.here (h2 0)
 ·have:=h3 0 .here
  have:=h2.nonneg;rw[h1,show l[t]=0 by omega]
theorem aY.next{n:Nat}{l:List Int}(h:aY nb st t n l)(hnb:∀(i j:Nat),i<n->(j:Int)∈nb i->j<n){i:Nat}{x:Int}(hx:l[i]? =some x)(x0:0<=x)(hi:i≠t):
 ∃(j:Nat) (y:Int),(j:Int)∈nb i/\l[j]? =some y/\0<st i j/\0<=y/\x=st i j+y:=by
 have hin:i<n:=by rw[<-h.1];exact(List.getElem?_eq_some_iff.1 hx).1
 rcases h.2 i x hx with⟨rfl,_⟩|⟨hw,hl⟩
 ·omega
 ·cases hw with
  |here=>exact absurd rfl hi
  | @step _ j d h1 h2 h3=>
   have hj:j<l.length:=by rw[h.1];exact hnb i j hin h1
   have hy:=List.getElem?_eq_getElem hj;refine⟨j,_,h1,hy,h2,?_,?_⟩
   ·rcases h.2 j _ hy with⟨_,h4⟩|⟨h4,_⟩
    ·exact absurd h3 (h4 _)
    ·exact h4.nonneg
   ·rcases h.2 j _ hy with⟨_,h4⟩|⟨h4,h5⟩
    ·exact absurd h3 (h4 _)
    ·have a1:=h5 _ h3
     have a2:=hl _ (Way.step h1 h2 h4);omega
theorem Sound.set{l:List Int}{i j:Nat}{y:Int}(h:Sound nb st t l)(hy:l[j]? =some y)(hj:(j:Int)∈nb i)(hs:0<st i j)(y0:0<=y):Sound nb st t (l.set i (st i j+y)):=by
 intro k x hk;rw[List.getElem?_set] at hk;by_cases e:i=k
 ·subst e
  by_cases hl:i<l.length
  ·simp only[hl,if_true] at hk
   injection hk with hk
   subst hk;rcases h j y hy with rfl|hw
   ·omega
   ·exact .inr (.step hj hs hw)
  ·simp[hl] at hk
 ·rw[if_neg e] at hk
  exact h k x hk
end
def left(M:Nat)(l:List Int):Nat:=(l.map λx=>if x<0 then M else x.toNat).sum
def told(l:List Int):Nat:=(l.map λx=>if x<0 then 0 else 1).sum
theorem su(f:Int->Nat)(l:List Int)(i:Nat)(x v:Int)(h:l[i]? =some x):((l.set i v).map f).sum+f x=(l.map f).sum+f v:=by
 induction l generalizing i with
 |nil=>simp at h
 |cons a l ih=>
  cases i with
  |zero=>
   simp at h;subst h;simp;omega
  |succ i=>
   simp at h;have:=ih i h;simp only[List.set_cons_succ,List.map_cons,List.sum_cons];omega
theorem left_le(M:Nat)(l:List Int)(h:∀x∈l,x<=M):left M l<=l.length*M:=by
 unfold left
 induction l with
 |nil=>simp
 |cons a l ih=>
  have h1:=ih (λx hx=>h x (List.mem_cons_of_mem _ hx));have h2:=h a (List.mem_cons_self ..);simp only[List.map_cons,List.sum_cons,List.length_cons,Nat.add_mul,Nat.one_mul];split<;>omega
theorem sD(l:List Int):told l<=l.length:=by
 unfold told
 induction l with
 |nil=>simp
 |cons a l ih=>
  simp only[List.map_cons,List.sum_cons,List.length_cons];split<;>omega
def Flat(l:List Int):Prop:=∀(i:Nat) x,l[i]? =some x->x<0\/x+2<=2*told l
theorem Flat.set{l:List Int}{i j:Nat}{x y s:Int}(h:Flat l)(hx:l[i]? =some x)(hy:l[j]? =some y)(y0:0<=y)(s0:0<s)(s2:s<=2)(hn:x<0\/s+y<x):Flat (l.set i (s+y)):=by
 have e:=su (λx=>if x<0 then 0 else 1) l i x (s+y) hx;have ht:told (l.set i (s+y))+(if x<0 then 0 else 1)=told l+1:=by
  unfold told;rw[e,if_neg (show ¬s+y<0 by omega)]
 have hyl:=h j y hy;have hxl:=h i x hx;intro k z hk;rw[List.getElem?_set] at hk;by_cases ek:i=k
 ·subst ek
  have hl:=(List.getElem?_eq_some_iff.1 hx).1;simp only[hl,if_true] at hk;injection hk with hk
  subst hk;right;by_cases q:x<0
  ·rw[if_pos q] at ht;omega
  ·rw[if_neg q] at ht;omega
 ·rw[if_neg ek] at hk
  have hz:=h k z hk;by_cases q:x<0
  ·rw[if_pos q] at ht;omega
  ·rw[if_neg q] at ht;omega
theorem GK{l:List Int}{i j n:Nat}{x y s:Int}(h:Flat l)(hl:l.length=n)(hx:l[i]? =some x)(hy:l[j]? =some y)(y0:0<=y)(s0:0<s)(s2:s<=2)(hn:x<0\/s+y<x):left (2*n+1) (l.set i (s+y))<left (2*n+1) l:=by
 have e:=su (λx=>if x<0 then 2*n+1 else x.toNat) l i x (s+y) hx;have hyl:=h j y hy;have ht:=sD l;unfold left;rw[if_neg (show ¬s+y<0 by omega)] at e;by_cases q:x<0
 ·rw[if_pos q] at e;omega
 ·rw[if_neg q] at e;omega
section
variable {nb:Nat->List Int} {st:Nat->Nat->Int} {t n:Nat}
def Pr(nb:Nat->List Int)(st:Nat->Nat->Int)(l:List Int)(i j:Nat):Prop:=∀x y,l[i]? =some x->l[j]? =some y->(j:Int)∈nb i->0<st i j->0<=y->0<=x/\x<=st i j+y
structure Even(nb:Nat->List Int)(st:Nat->Nat->Int)(n:Nat):Prop where
 cell:∀(i:Nat) x,i<n->x∈nb i->∃j:Nat,x=j/\j<n/\(i:Int)∈nb j
 other:∀(i:Nat),i<n->(i:Int)∉nb i
 two:∀i j,st i j<=2
theorem Even.lt(h:Even nb st n):∀(i j:Nat),i<n->(j:Int)∈nb i->j<n:=λi j hi hj=>by
 obtain⟨k,e,hk,-⟩:=h.cell i j hi hj;have:j=k:=by omega
 omega
theorem Even.back(h:Even nb st n){i j:Nat}(hi:i<n)(hj:(j:Int)∈nb i):(i:Int)∈nb j:=by
 obtain⟨k,e,hk,hb⟩:=h.cell i j hi hj;have:j=k:=by omega
 rw[this];exact hb
structure Wk(nb:Nat->List Int)(st:Nat->Nat->Int)(t n:Nat)(l:List Int)(td:List Nat):Prop where
 len:l.length=n
 here:l[t]? =some 0
 sound:Sound nb st t l
 flat:Flat l
 todo:∀j∈td,∃y,l[j]? =some y/\0<=y
 shut:∀i j,j∉td->Pr nb st l i j
structure qx(nb:Nat->List Int)(st:Nat->Nat->Int)(t n:Nat)(l:List Int)(a:Nat)(rest:List Nat)(k:Nat):Prop where
 wk:Wk nb st t n l (a::rest)
 mid:∀(q i:Nat),q<k->(nb a)[q]? =some (i:Int)->Pr nb st l i a
theorem Wk.start(ht:t<n):Wk nb st t n ((List.replicate n (-1)).set t 0) [t]:=by
 have get:∀(i:Nat) x,((List.replicate n (-1:Int)).set t 0)[i]? =some x->(i=t/\x=0)\/(i≠t/\x= -1):=by
  intro i x hx;rw[List.getElem?_set] at hx;by_cases e:t=i
  ·subst e
   rw[if_pos rfl,List.length_replicate,if_pos ht] at hx;injection hx with hx
   exact .inl ⟨rfl,hx.symm⟩
  ·rw[if_neg e,List.getElem?_replicate] at hx
   split at hx
   ·injection hx with hx
    exact .inr ⟨λh=>e h.symm,hx.symm⟩
   ·cases hx
 have h0:((List.replicate n (-1:Int)).set t 0)[t]? =some 0:=by
  rw[List.getElem?_set,if_pos rfl,List.length_replicate,if_pos ht]
 refine⟨by simp,h0,λi x hx=>?_,λi x hx=>?_,λj hj=>?_,λi j hj x y hx hy=>?_⟩
 ·rcases get i x hx with⟨rfl,rfl⟩|⟨_,rfl⟩
  ·exact .inr .here
  ·exact .inl rfl
 ·rcases get i x hx with⟨rfl,rfl⟩|⟨_,rfl⟩
  ·right
   have e:=su (λx=>if x<0 then 0 else 1) (List.replicate n (-1)) i (-1) 0 (by rw[List.getElem?_replicate,if_pos ht]);have:told ((List.replicate n (-1)).set i 0)=((List.replicate n (-1:Int)).map λx=>if x<0 then 0 else 1).sum+1:=by
    unfold told;simpa using e
   omega
  ·left;omega
 ·simp at hj
  subst hj;exact⟨0,h0,by omega⟩
 ·intro _ _ y0
  rcases get j y hy with⟨rfl,rfl⟩|⟨_,rfl⟩
  ·simp at hj
  ·omega
theorem w_(ht:t<n)(hn:n<=144):left (2*n+1) ((List.replicate n (-1)).set t 0)<=41616:=by
 refine Nat.le_trans (left_le _ _ λx hx=>?_) ?_
 ·rcases List.mem_or_eq_of_mem_set hx with h|h
  ·rw[List.eq_of_mem_replicate h];omega
  ·omega
 ·rw[List.length_set,List.length_replicate]
  exact Nat.mul_le_mul hn (show 2*n+1<=289 by omega)
theorem qx.skip{l:List Int}{a b k:Nat}{rest:List Nat}{x y:Int}(h:qx nb st t n l a rest k)(hb:(nb a)[k]? =some (b:Int))(hx:l[b]? =some x)(hy:l[a]? =some y)(hs:0<st b a->0<=x/\x<=st b a+y):qx nb st t n l a rest (k+1):=by
 refine⟨h.wk,λq i hq hi=>?_⟩;by_cases e:q=k
 ·subst e
  rw[hb] at hi;injection hi with hi
  have:b=i:=by omega
  subst this;intro x' y' hx' hy' _ h0 _;rw[hx] at hx';rw[hy] at hy';injection hx' with hx'
  injection hy' with hy'
  subst hx';subst hy';exact hs h0
 ·exact h.mid q i (by omega) hi
theorem qx.set{l:List Int}{a b k:Nat}{rest:List Nat}{x y:Int}(E:Even nb st n)(h:qx nb st t n l a rest k)(hb:(nb a)[k]? =some (b:Int))(hx:l[b]? =some x)(hy:l[a]? =some y)(h0:0<st b a)(hn:x<0\/st b a+y<x):
 qx nb st t n (l.set b (st b a+y)) a (rest++[b]) (k+1)/\left (2*n+1) (l.set b (st b a+y))<left (2*n+1) l:=by
 have an:a<n:=by rw[<-h.wk.len];exact(List.getElem?_eq_some_iff.1 hy).1
 have bn:=(List.getElem?_eq_some_iff.1 hx).1;have hm:=List.mem_of_getElem? hb;have hm':=E.back an hm;have hab:b≠a:=by
  rintro rfl;exact E.other b an hm
 obtain⟨y1,hy1,y0⟩:=h.wk.todo a (List.mem_cons_self ..);rw[hy] at hy1;injection hy1 with hy1
 subst hy1;have hbt:b≠t:=by
  rintro rfl;rw[h.wk.here] at hx;injection hx with hx
  omega
 have get:∀(i:Nat) z,(l.set b (st b a+y))[i]? =some z->(i=b/\z=st b a+y)\/(i≠b/\l[i]? =some z):=by
  intro i z hz;rw[List.getElem?_set] at hz;by_cases e:b=i
  ·subst e
   rw[if_pos rfl,if_pos bn] at hz;injection hz with hz
   exact .inl ⟨rfl,hz.symm⟩
  ·rw[if_neg e] at hz
   exact .inr ⟨λh=>e h.symm,hz⟩
 have keep:∀(i:Nat),i≠b->(l.set b (st b a+y))[i]? =l[i]? :=by
  intro i hi;rw[List.getElem?_set,if_neg (λh=>hi h.symm)]
 refine⟨⟨⟨by simp[h.wk.len],?_,h.wk.sound.set hy hm' h0 y0,h.wk.flat.set hx hy y0 h0 (E.two _ _) hn,λj hj=>?_,λi j hj=>?_⟩,λq i hq hi=>?_⟩,GK h.wk.flat h.wk.len hx hy y0 h0 (E.two _ _) hn⟩
 ·rw[keep t (λh=>hbt h.symm)]
  exact h.wk.here
 ·by_cases e:j=b
  ·subst e
   exact⟨st j a+y,by rw[List.getElem?_set,if_pos rfl,if_pos bn],by omega⟩
  ·rw[keep j e]
   refine h.wk.todo j ?_;simp only[List.mem_cons,List.mem_append,List.not_mem_nil,or_false] at hj ⊢;rcases hj with hj|hj|hj
   ·exact .inl hj
   ·exact .inr hj
   ·exact absurd hj e
 ·have hj1:j∉a::rest:=by
   simp only[List.mem_cons,List.mem_append,List.not_mem_nil,or_false,not_or] at hj ⊢;exact⟨hj.1,hj.2.1⟩
  have hj2:j≠b:=by
   simp only[List.mem_cons,List.mem_append,List.not_mem_nil,or_false,not_or] at hj;exact hj.2.2
  have P:=h.wk.shut i j hj1;intro x' y' hx' hy' hn' h0' y0';rw[keep j hj2] at hy';rcases get i x' hx' with⟨rfl,rfl⟩|⟨_,hx1⟩
  ·have:=P x y' hx hy' hn' h0' y0'
   omega
  ·exact P x' y' hx1 hy' hn' h0' y0'
 ·intro x' y' hx' hy' hn' h0' y0'
  rw[keep a (λh=>hab h.symm),hy] at hy';injection hy' with hy'
  subst hy';rcases get i x' hx' with⟨rfl,rfl⟩|⟨ib,hx1⟩
  ·omega
  ·have hq':q<k:=by
    rcases Nat.lt_or_ge q k with h|h
    ·exact h
    ·have:q=k:=by omega
     subst this;rw[hb] at hi;injection hi with hi
     exact absurd (by omega) ib
   exact h.mid q i hq' hi x' y hx1 hy hn' h0' y0'
theorem qx.done{l:List Int}{a:Nat}{rest:List Nat}(E:Even nb st n)(h:qx nb st t n l a rest (nb a).length):Wk nb st t n l rest:=by
 refine⟨h.wk.len,h.wk.here,h.wk.sound,h.wk.flat,λj hj=>h.wk.todo j (List.mem_cons_of_mem _ hj),λi j hj=>?_⟩;by_cases e:j=a
 ·subst e
  intro x y hx hy hn h0 y0;have hi:i<n:=by rw[<-h.wk.len];exact(List.getElem?_eq_some_iff.1 hx).1
  obtain⟨q,hq⟩:=List.mem_iff_getElem?.1 (E.back hi hn);exact h.mid q i (List.getElem?_eq_some_iff.1 hq).1 hq x y hx hy hn h0 y0
 ·exact h.wk.shut i j (by simp[e,hj])
theorem Wk.far{l:List Int}(E:Even nb st n)(h:Wk nb st t n l []):aY nb st t n l:=wZ h.len E.lt h.here h.sound λi hi j=>h.shut i j (by simp)
end
theorem Way.snoc{nb:Nat->List Int}{s:Nat->Int}{a i j:Nat}{d:Int}(h:Way nb (λ_ j=>s j) j a d)(hi:(i:Int)∈nb j)(h0:0<s i):Way nb (λ_ j=>s j) i a (d+s i):=by
 induction h with
 |here=>
  have:=Way.step (st:=λ_ j=>s j) hi h0 .here;rwa[show s i+0=0+s i by omega] at this
 | @step p q d h1 h2 h3 ih=>
  have:=Way.step (st:=λ_ j=>s j) h1 h2 ih;rwa[show s q+(d+s i)=s q+d+s i by omega] at this
theorem Way.SL{nb:Nat->List Int}{s:Nat->Int}{a i j:Nat}{d:Int}(h:Way nb (λi _=>s i) j a d)(hi:(i:Int)∈nb j)(h0:0<s j):Way nb (λi _=>s i) i a (d+s j):=by
 induction h with
 |here=>
  have:=Way.step (st:=λi _=>s i) hi h0 .here;rwa[show s j+0=0+s j by omega] at this
 | @step p q d h1 h2 h3 ih=>
  have:=Way.step (st:=λi _=>s i) h1 h2 ih;rwa[show s p+(d+s j)=s p+d+s j by omega] at this
theorem Way.turn{nb:Nat->List Int}{s:Nat->Int}{n:Nat}(E:Even nb (λ_ j=>s j) n){t i:Nat}{d:Int}(h:Way nb (λi _=>s i) t i d)(hi:i<n):Way nb (λ_ j=>s j) i t d:=by
 induction h with
 |here=>exact .here
 | @step i j d h1 h2 h3 ih=>
  have:=(ih (E.lt _ _ hi h1)).snoc (E.back hi h1) h2;rwa[show d+s i=s i+d by omega] at this
theorem Way.turn'{nb:Nat->List Int}{s:Nat->Int}{n:Nat}(E:Even nb (λ_ j=>s j) n){t i:Nat}{d:Int}(h:Way nb (λ_ j=>s j) t i d)(hi:i<n):Way nb (λi _=>s i) i t d:=by
 induction h with
 |here=>exact .here
 | @step i j d h1 h2 h3 ih=>
  have:=(ih (E.lt _ _ hi h1)).SL (E.back hi h1) h2;rwa[show d+s j=s j+d by omega] at this
theorem Least.turn{nb:Nat->List Int}{s:Nat->Int}{n:Nat}(E:Even nb (λ_ j=>s j) n){t i:Nat}{x:Int}(h:Least nb (λi _=>s i) t i x)(hi:i<n)(ht:t<n):Least nb (λ_ j=>s j) i t x:=by
 rcases h with⟨rfl,h⟩|⟨h1,h2⟩
 ·exact .inl ⟨rfl,λd hd=>h d (hd.turn' E ht)⟩
 ·exact .inr ⟨h1.turn E hi,λd hd=>h2 d (hd.turn' E ht)⟩
theorem qO{W H:Nat}(hW:0<W){st:Nat->Nat->Int}(h2:∀i j,st i j<=2):Even (Fd.near W H) st (W*H):=by
 refine⟨λi x hi hx=>?_,λi hi hx=>?_,h2⟩
 ·obtain⟨t,h1,h3,h4⟩:=Fd.mD hW hi hx
  exact⟨t,h1,h3,h4⟩
 ·have:=Fd.iT.1 hx
  omega
end Go.Proofs.YtjpappkgdadhhaaGreatDoor.Wy
namespace Go.Proofs.YtjpappkgdadhhaaGreatDoor
open Go.Value (int slice)
open Go.IntKind (i64)
open Go.RowKit Wy
def zY(w:World)(b M:Nat):Nat:=match w.heap[b]? with
 |some (.cells cs _ _)=>left M (cs.toList.map intOf)
 |_=>0
theorem Bk.left{w:World}{b:Nat}{l:List Int}(h:Bk w b l #[])(M:Nat):zY w b M=Wy.left M l:=by
 unfold Bk at h;unfold zY;rw[h];simp[intCells,intOf,Function.comp_def]
def xA:Value->Nat
 |slice _ n _=>n
 |_=>0
theorem Qu.xA{w:World}{base:Nat}{v:Value}{xs:List Int}(h:Qu w base v xs):xA v=xs.length:=by
 obtain⟨g,off,cap,cur,h1,-⟩:=h;rw[h1];rfl
theorem uU{w:World}{z:Nat}(d:Value)(hz:w.heap.size=z):(w.alloc (Obj.cells #[d] 3)).cell? ⟨z,0,none⟩=some d:=by
 subst hz;simp
def ints(td:List Nat):List Int:=td.map Int.ofNat
theorem jD(td:List Nat):(ints td).length=td.length:=by simp[ints]
theorem qP(K:Nat)(eK:∀args w,(callFunc K args).run Tryz.prog w=.ok (.enter K args) w)(q v:Value)(n t:Nat)(nb:Nat->List Int)(ss:List Int)(st:Nat->Nat->Int)(w:World)(h:Ld w v n nb ss)(E:Even nb st n)(ht:t<n)(hn:n<=144)(h4:∀i,(nb i).length<=4)
 (hon:∀w' (i j:Nat),i<n->j<n->Below w.heap.size w w'->Calls Tryz.prog K #[int i64 (i:Nat),int i64 (j:Nat),q] w' λe w''=>e=.returned (int i64 (st j i))/\w''=w'):
 Calls Tryz.prog 148 #[v,int i64 (t:Nat),.func (Fn.func K) #[] #[q]] w λe w'=>∃b l,e=.returned (slice (some ⟨b,0,none⟩) n n)/\w.heap.size<=b/\Bk w' b l #[]/\(aY nb st t n l/\Flat l)/\Below w.heap.size w w':=by
 obtain⟨u1,u2,rfl,⟨x,c,rfl,c1,c2,hx⟩,⟨a2,d,rfl,d1,d2,ca⟩,hl⟩:=h;rw[hl] at d1 ⊢;have Hx:=aj (hx);have Ho:=aj (hon);have H4:=aj (h4);have E0:=aj (E);clear hx ca hon h4 E hl;go_enter Tryz.func148,Tryz.ntmps148;go_wp2_with fail
 refine(qN _ _ n _ (Ro.wL _ (by simp)) (by omega) hn).mono ?_;rintro e w1 ⟨b,rfl,hbz,hbk,hbel⟩;have bz:Hid (w.heap.size+2<=b):=by unfold Hid;simpa using hbz
 have B1:=aj ((((Below.refl _ _).alloc (Nat.le_refl _) _).alloc (by simp) _).trans (hbel.mono (by simp;omega)));have X1:=aj (((Bl.mk' (w:=w) (slice (some x) n c) (slice a2 n d) rfl).below ((Below.refl _ _).alloc (Nat.le_refl _) (Obj.cells #[Value.int IntKind.i64 (-1)] 3)) (by simp)).below hbel (by simp;omega));have K1:=aj (hbk);have ct:=hbk.cell (i:=t) (d:= -1) (by rw[List.getElem?_replicate,if_pos ht]);have ft:=hbk.thaw t;clear hbz hbk hbel;have k12:=Kp.set (z:=b) w1 t (int i64 0);have K2:=aj (K1.out.set t 0 (by simp;exact ht));have X2:=aj (X1.out.kp k12 (by have:=bz.out;omega));have B2:=aj (k12.below B1.out B1.out.size (by have:=bz.out;omega));have Z2:Hid ((w1.setCell ⟨b,t,none⟩ (int i64 0)).heap.size=w1.heap.size):=by unfold Hid;simp
 have bB:=aj (K1.out.lt);clear k12 K1 X1 B1;go_wp2_with fail
 generalize w1.setCell _ _=w2 at *;clear ct ft;obtain⟨B,hB⟩:∃B,w1.heap.size=B:=⟨_,rfl⟩;rw[hB] at bB Z2 ⊢;have Q3:Hid (Qu (w2.alloc (Obj.cells #[int i64 (t:Nat)] 3)) B (slice (some ⟨B,0,none⟩) 1 1) (ints [t])):=Qu.one (w:=w2) (t:Nat) (by rw[Z2.out];exact Nat.le_refl _) Z2.out;have b23:Below _ w2 (w2.alloc (Obj.cells #[int i64 (t:Nat)] 3)):=(Below.refl _ _).alloc (Nat.le_refl _) _;have K3:=aj (K2.out.below b23);have X3:=aj (X2.out.below b23 X2.out.lt);have B3:=aj (B2.out.trans (b23.mono B2.out.size));have S3:Hid (B<=(w2.alloc (Obj.cells #[int i64 (t:Nat)] 3)).heap.size):=by
  have:=b23.size;rw[Z2.out] at this;exact this
 generalize w2.alloc _=w3 at *;clear K2 X2 B2 Z2 b23 hB;go_loopw [8] (λv W'=>∃l td,Qu W' B v (ints td)/\Bk W' b l #[]/\Wk nb st t n l td/\Bl W' w.heap.size (slice (some x) n c) (slice a2 n d)/\Below w.heap.size w W'/\B<=W'.heap.size/\2*left (2*n+1) l+td.length<=100000) (λv W'=>2*zY W' b (2*n+1)+xA v)
 case atStart=>exact⟨_,[t],Q3,K3,Wk.start ht,X3,B3,S3,by have:=w_ ht hn;simp only[List.length_cons,List.length_nil];omega⟩
 case round=>
  obtain⟨l,td,hq,hk,hw,hxx,hb,hsz,hmx⟩:=hrel;clear Q3 K3 X3 B3 S3;have Kb:=aj (hk);have Ww:=aj (hw);have X:=aj (hxx);have Bw:=aj (hb);have Sz:=aj (hsz);clear hk hw hxx hb hsz;cases td with
  |nil=>
   obtain⟨g,off,cap,cur,rfl,-,-,-⟩:=hq;go_wp2;go_ret;exact⟨b,l,rfl,by have:=bz.out;omega,Kb,⟨Ww.out.far E0.out,Ww.out.flat⟩,Bw⟩
  |cons a rest=>
   have Q:=aj (hq);have an:a<n:=by
    obtain⟨y,hy,-⟩:=Ww.out.todo a (List.mem_cons_self ..);have:=(List.getElem?_eq_some_iff.1 hy).1;rw[Ww.out.len] at this;exact this
   obtain⟨m0,hm0⟩:∃m0,2*zY wr b (2*n+1)+xA u8=m0:=⟨_,rfl⟩;have M0:=aj (hm0);have ML:Hid (2*left (2*n+1) l+rest.length+1<=m0):=by
    unfold Hid;rw[<-hm0,Kb.out.left,hq.xA,jD];simp only[List.length_cons];omega
   have m9:m0<=100000:=by
    rw[<-hm0,Kb.out.left,hq.xA,jD];exact hmx
   clear hm0 hmx;obtain⟨g,off,cap,hu8,o1,o2,hc⟩:=Qu.first (x:=(a:Int)) (xs:=ints rest) hq;subst hu8;clear hq;obtain⟨u,hu,hr⟩:=Hx.out a an;have hu':wr.cell? (x.add a)=some u:=by rw[Bw.out.cell (p:=x.add a) (by have:=cell_lt hu;rw[add_block] at this ⊢;exact this)];exact hu
   have Hr0:=aj (hr);obtain⟨a3,c3,rfl,e1,e2,-⟩:=hr;have L4:=H4.out a;have x0:=X.out.c0;clear hu;go_wp2_with fail
   clear hc x0 hu' o1 o2 ht;go_loopw [8,37] (λv i W'=>∃l rest k,i=int i64 (k:Nat)/\k<=(nb a).length/\Qu W' B v (ints (a::rest))/\Bk W' b l #[]/\qx nb st t n l a rest k/\Bl W' w.heap.size (slice (some x) n c) (slice a2 n d)/\Below w.heap.size w W'/\B<=W'.heap.size/\2*left (2*n+1) l+rest.length+1<=m0) (λ_ i _=>(nb a).length-(intOf i).toNat)
   case atStart=>exact⟨l,rest,0,rfl,Nat.zero_le _,Q,Kb,⟨Ww,λq i hq=>absurd hq (Nat.not_lt_zero _)⟩,X,Bw,Sz,ML⟩
   case round=>
    clear Q Kb Ww X ML;obtain⟨l,rest,k,rfl,hk,hq,hkb,hwi,hx,hb,hsz,hml⟩:=hrel;have Q:=aj (hq);have Kb:=aj (hkb);have qx:=aj (hwi);have X:=aj (hx);have xB:=aj (hb);have L_:=aj (hsz);have ML:=aj (hml);clear hkb hwi hx hb hsz hml;by_cases h0:k=(nb a).length
    ·have nY:Hid (Wk nb st t n l rest):=by
      have:=qx.out;rw[h0] at this;exact this.done E0.out
     subst h0;obtain⟨v',qv,sv⟩:=Qu.rest (x:=(a:Int)) (xs:=ints rest) Q.out;have Q':=aj (qv);clear qv hq Q qx;go_wp2;go_round
     case rel=>exact⟨l,rest,Q',Kb,nY,X,xB,L_,by have:=ML.out;omega⟩
     case measure=>
      rw[Kb.out.left,Q'.out.xA,jD];have:=ML.out;have:=M0.out;omega
    ·have hkl:k<(nb a).length:=by omega
     obtain⟨j,hj,jn,-⟩:=E0.out.cell a _ an (List.getElem_mem hkl);have Hj:Hid ((nb a)[k]? =some (j:Int)):=by unfold Hid;rw[List.getElem?_eq_getElem hkl,hj]
     clear hj;obtain⟨a4,c4,e4,-,-,ca⟩:=Hr0.out.below xB.out;injection e4 with e5 e6 e7
     subst e5;obtain⟨y,rfl,-,hy⟩:=ca (by intro h;rw[h] at hkl;simp at hkl);have cj:=hy k _ Hj.out;clear hy e6 e7 ca hq;have l2:=E0.out.two j a;obtain⟨yv,hyv,y0⟩:=qx.out.wk.todo a (List.mem_cons_self ..);have ll:=qx.out.wk.len;obtain⟨xv,hxv⟩:∃xv,l[j]? =some xv:=⟨l[j]'(by rw[ll];exact jn),List.getElem?_eq_getElem _⟩;have tl:=sD l;have fx:=qx.out.wk.flat j xv hxv;have fy:=qx.out.wk.flat a yv hyv;have xb:xv<=288:=by omega
     have yb:yv<=288:=by omega
     have xm: -1<=xv:=by
      rcases qx.out.wk.sound j xv hxv with h|h
      ·omega
      ·have:=h.nonneg;omega
     have cx:=Kb.out.cell hxv;have cy:=Kb.out.cell hyv;have fz:=Kb.out.thaw j;clear tl fx fy ll;go_wp2_with fail
     refine(Ho.out wr a j an jn xB.out).mono ?_;rintro e w' ⟨rfl,rfl⟩;obtain⟨m,hm⟩:∃m,st j a=m:=⟨_,rfl⟩;have HD:=aj (hm);rw[hm] at l2 ⊢;clear hm;by_cases h1:0<m
     ·by_cases h2:xv<0
      ·have HS:=qx.out.set E0.out Hj.out hxv hyv (by rw[HD.out];exact h1) (.inl h2)
       rw[HD.out,Int.add_comm m yv] at HS;have HT:=aj (HS);clear HS HD;go_wp2;go_quiet (fail);have kq:Below w'.heap.size w' (w'.drewN nq):=_root_.Go.below_drewN (Below.refl _ _) _;have K5:=aj (Kb.out.below kq);have Q5:=aj (Q.out.below kq);have X5:=aj (X.out.below kq X.out.lt);have B5:=aj (xB.out.trans (kq.mono xB.out.size));have S5:=aj (Nat.le_trans L_.out kq.size);generalize w'.drewN nq=w5 at *;clear Kb Q X xB L_ kq cx cy fz cj;have cx:=K5.out.cell hxv;have cy:=K5.out.cell hyv;have fz:=K5.out.thaw j;have k6:=Kp.set (z:=b) w5 j (int i64 (yv+m));have K6:=aj (K5.out.set j (yv+m) (List.getElem?_eq_some_iff.1 hxv).1);have Q6:=aj (Q5.out.kp k6 bB.out);have X6:=aj (X5.out.kp k6 (by have:=bz.out;omega));have B6:=aj (k6.below B5.out B5.out.size (by have:=bz.out;omega));have S6:=aj (Nat.le_trans S5.out k6.size);clear k6 K5 Q5 X5 B5 S5 hxv hyv;have RL:Hid ((ints (a::rest)).length<=1000000):=by
        unfold Hid;rw[jD];simp only[List.length_cons];have:=ML.out;omega
       have Sb:Hid (b<B/\w.heap.size<B):=by
        have:=bz.out;have:=bB.out;exact⟨by omega,by omega⟩
       have Ba:Hid (Below _ _ ((w5.setCell ⟨b,j,none⟩ (int i64 (yv+m))).alloc (Obj.cells #[int i64 (j:Nat)] 3))):=(Below.refl _ _).alloc (Nat.le_refl _) _;have Cd:Hid (((w5.setCell _ _).alloc _).cell? _=some (int i64 (j:Nat))):=uU (w:=w5.setCell ⟨b,j,none⟩ (int i64 (yv+m))) _ (World.size_setCell _ _ _);go_wp2_with (at_builtin;refine Oz _ rfl _ _ rfl B _ (ints (a::rest)) rfl (Q6.out.below Ba.out) ⟨w5.heap.size,0,none⟩ (j:Nat) rfl Cd.out RL.out (Nat.le_trans S6.out Ba.out.size) ?_);intro v7 w7 q7 b7;have ba:=Ba.out;have Q7:Hid (Qu w7 B v7 (ints (a::(rest++[j])))):=by
        have e:ints (a::(rest++[j]))=ints (a::rest)++[(j:Int)]:=by simp[ints]
        unfold Hid;rw[e];exact q7
       have K7:=aj ((K6.out.below ba).low b7 Sb.out.1);have X7:=aj ((X6.out.below ba X6.out.lt).below b7 Sb.out.2);have B7:=aj ((B6.out.trans (ba.mono B6.out.size)).trans (b7.mono (Nat.le_of_lt Sb.out.2)));have S7:=aj (Nat.le_trans (Nat.le_trans S6.out ba.size) b7.size);clear q7 b7 ba Ba Cd K6 Q6 X6 B6 S6 cx cy fz;go_wp2;go_round
       case rel=>exact⟨l.set j _,rest++[j],k+1,by go_num,by omega,Q7,K7,HT.out.1,X7,B7,S7,by have:=HT.out.2;have:=ML.out;simp only[List.length_append,List.length_cons,List.length_nil];omega⟩
       case measure=>simp[intOf];omega
      ·have h2':=decide_eq_false h2
       by_cases h3:yv+m<xv
       ·have HS:=qx.out.set E0.out Hj.out hxv hyv (by rw[HD.out];exact h1) (.inr (by rw[HD.out];omega))
        rw[HD.out,Int.add_comm m yv] at HS;have HT:=aj (HS);clear HS HD;go_wp2;go_quiet (fail);have kq:Below w'.heap.size w' (w'.drewN nq):=_root_.Go.below_drewN (Below.refl _ _) _;have K5:=aj (Kb.out.below kq);have Q5:=aj (Q.out.below kq);have X5:=aj (X.out.below kq X.out.lt);have B5:=aj (xB.out.trans (kq.mono xB.out.size));have S5:=aj (Nat.le_trans L_.out kq.size);generalize w'.drewN nq=w5 at *;clear Kb Q X xB L_ kq cx cy fz cj;have cx:=K5.out.cell hxv;have cy:=K5.out.cell hyv;have fz:=K5.out.thaw j;have k6:=Kp.set (z:=b) w5 j (int i64 (yv+m));have K6:=aj (K5.out.set j (yv+m) (List.getElem?_eq_some_iff.1 hxv).1);have Q6:=aj (Q5.out.kp k6 bB.out);have X6:=aj (X5.out.kp k6 (by have:=bz.out;omega));have B6:=aj (k6.below B5.out B5.out.size (by have:=bz.out;omega));have S6:=aj (Nat.le_trans S5.out k6.size);clear k6 K5 Q5 X5 B5 S5 hxv hyv;have RL:Hid ((ints (a::rest)).length<=1000000):=by
         unfold Hid;rw[jD];simp only[List.length_cons];have:=ML.out;omega
        have Sb:Hid (b<B/\w.heap.size<B):=by
         have:=bz.out;have:=bB.out;exact⟨by omega,by omega⟩
        have Ba:Hid (Below _ _ ((w5.setCell ⟨b,j,none⟩ (int i64 (yv+m))).alloc (Obj.cells #[int i64 (j:Nat)] 3))):=(Below.refl _ _).alloc (Nat.le_refl _) _;have Cd:Hid (((w5.setCell _ _).alloc _).cell? _=some (int i64 (j:Nat))):=uU (w:=w5.setCell ⟨b,j,none⟩ (int i64 (yv+m))) _ (World.size_setCell _ _ _);go_wp2_with (at_builtin;refine Oz _ rfl _ _ rfl B _ (ints (a::rest)) rfl (Q6.out.below Ba.out) ⟨w5.heap.size,0,none⟩ (j:Nat) rfl Cd.out RL.out (Nat.le_trans S6.out Ba.out.size) ?_);intro v7 w7 q7 b7;have ba:=Ba.out;have Q7:Hid (Qu w7 B v7 (ints (a::(rest++[j])))):=by
         have e:ints (a::(rest++[j]))=ints (a::rest)++[(j:Int)]:=by simp[ints]
         unfold Hid;rw[e];exact q7
        have K7:=aj ((K6.out.below ba).low b7 Sb.out.1);have X7:=aj ((X6.out.below ba X6.out.lt).below b7 Sb.out.2);have B7:=aj ((B6.out.trans (ba.mono B6.out.size)).trans (b7.mono (Nat.le_of_lt Sb.out.2)));have S7:=aj (Nat.le_trans (Nat.le_trans S6.out ba.size) b7.size);clear q7 b7 ba Ba Cd K6 Q6 X6 B6 S6 cx cy fz;go_wp2;go_round
        case rel=>exact⟨l.set j _,rest++[j],k+1,by go_num,by omega,Q7,K7,HT.out.1,X7,B7,S7,by have:=HT.out.2;have:=ML.out;simp only[List.length_append,List.length_cons,List.length_nil];omega⟩
        case measure=>simp[intOf];omega
       ·have h3':=decide_eq_false h3
        have HS:=aj (qx.out.skip Hj.out hxv hyv (λh=>by rw[HD.out];omega));clear HD;go_wp2;go_quiet (fail);have kq:Below w'.heap.size w' (w'.drewN nq):=_root_.Go.below_drewN (Below.refl _ _) _;have Q5:=aj (Q.out.below kq);have K5:=aj (Kb.out.below kq);have X5:=aj (X.out.below kq X.out.lt);have B5:=aj (xB.out.trans (kq.mono xB.out.size));have S5:=aj (Nat.le_trans L_.out kq.size);generalize w'.drewN nq=w5 at *;clear Kb Q X xB L_ kq cx cy fz cj;go_wp2;go_round
        case rel=>exact⟨l,rest,k+1,by go_num,by omega,Q5,K5,HS,X5,B5,S5,ML⟩
        case measure=>simp[intOf];omega
     ·have h1':=decide_eq_false h1
      have HS:=aj (qx.out.skip Hj.out hxv hyv (λh=>absurd (by rw[HD.out] at h;exact h) h1));clear HD;go_wp2;go_quiet (fail);have kq:Below w'.heap.size w' (w'.drewN nq):=_root_.Go.below_drewN (Below.refl _ _) _;have Q5:=aj (Q.out.below kq);have K5:=aj (Kb.out.below kq);have X5:=aj (X.out.below kq X.out.lt);have B5:=aj (xB.out.trans (kq.mono xB.out.size));have S5:=aj (Nat.le_trans L_.out kq.size);generalize w'.drewN nq=w5 at *;clear Kb Q X xB L_ kq cx cy fz cj;go_wp2;go_round
      case rel=>exact⟨l,rest,k+1,by go_num,by omega,Q5,K5,HS,X5,B5,S5,ML⟩
      case measure=>simp[intOf];omega
theorem xC:∀args w,(callFunc 149 args).run Tryz.prog w=.ok (.enter 149 args) w:=by
 intro args w;go_simp
theorem Mc(z n:Nat)(u1 u2:Value)(ss:List Int)(i j:Nat)(w:World)(X:Bl w z u1 u2)(hu:Ro w u2 ss)(hl:ss.length=n)(hi:j<n):
 Calls Tryz.prog 149 #[int i64 (i:Nat),int i64 (j:Nat),.pointer (some ⟨z,0,none⟩)] w λe w'=>e=.returned (int i64 (ss.getD j 0))/\w'=w:=by
 obtain⟨a,c,rfl,c1,c2,ca⟩:=hu;obtain⟨x,rfl,-,hx⟩:=ca (by intro e;rw[e] at hl;simp at hl;omega);have e:ss[j]? =some (ss.getD j 0):=by rw[List.getD_eq_getElem?_getD,List.getElem?_eq_getElem (by omega)];rfl
 have cx:=hx j _ e;have x1:=X.c1;generalize ss.getD j 0=s at *;rw[hl] at *;clear hx ca e X;go_enter Tryz.func149,Tryz.ntmps149;go_wp2;go_ret;exact⟨rfl,rfl⟩
theorem n_(v:Value)(n t:Nat)(nb:Nat->List Int)(ss:List Int)(w:World)(h:Ld w v n nb ss)(E:Even nb (λi _=>ss.getD i 0) n)(ht:t<n)(hn:n<=144)(h4:∀i,(nb i).length<=4):
 Calls Tryz.prog 136 #[v,int i64 (t:Nat)] w λe w'=>∃b l,e=.returned (slice (some ⟨b,0,none⟩) n n)/\w.heap.size<=b/\Bk w' b l #[]/\(aY nb (λi _=>ss.getD i 0) t n l/\Flat l)/\Below w.heap.size w w':=by
 have L0:=aj (h);have E0:=aj (E);have T0:Hid (t<n/\n<=144/\∀i,(nb i).length<=4):=⟨ht,hn,h4⟩;obtain⟨u1,u2,rfl,hb1,hr2,hl⟩:=h;have R2:Hid (Ro w u2 ss/\ss.length=n):=⟨hr2,hl⟩;obtain⟨x1,c1,e1,-⟩:=hb1;obtain⟨x2,c2,e2,-⟩:=hr2;clear ht hn h4 E hl;have b0:Below _ w (w.alloc (Obj.cells #[u1,u2] 173)):=(Below.refl _ _).alloc (Nat.le_refl _) _;have X0:Hid (Bl _ w.heap.size u1 u2):=Bl.mk' u1 u2 rfl;have B0:=aj (b0);clear b0;have hon:∀w' (i j:Nat),i<n->j<n->Below (w.alloc (Obj.cells #[u1,u2] 173)).heap.size (w.alloc (Obj.cells #[u1,u2] 173)) w'->Calls Tryz.prog 149 #[int i64 (i:Nat),int i64 (j:Nat),.pointer (some ⟨w.heap.size,0,none⟩)] w' λe w''=>e=.returned (int i64 ((λi _=>ss.getD i 0) j i))/\w''=w':=λw' i j hi hj hb=>
  Mc _ n u1 u2 ss i j w' (X0.out.below hb X0.out.lt) ((R2.out.1.below B0.out).below hb) R2.out.2 hj
 have Ho:=aj (hon);clear hon;subst e1;subst e2;go_enter Tryz.func136,Tryz.ntmps136;go_wp2_with fail
 refine(qP _ xC _ _ n t nb ss _ _ (L0.out.below B0.out) E0.out T0.out.1 T0.out.2.1 T0.out.2.2 Ho.out).mono ?_;rintro e w1 ⟨b,l,rfl,hbz,hbk,hf,hb⟩;have P:Hid (w.heap.size<=b/\Bk w1 b l #[]/\(aY nb (λi _=>ss.getD i 0) t n l/\Flat l)/\Below w.heap.size w w1):=⟨Nat.le_trans B0.out.size hbz,hbk,hf,B0.out.trans (hb.mono B0.out.size)⟩;clear hbz hbk hf hb Ho;go_wp2;go_ret;exact⟨b,l,rfl,P.out.1,P.out.2.1,P.out.2.2.1,P.out.2.2.2⟩
end Go.Proofs.YtjpappkgdadhhaaGreatDoor
namespace Go.Proofs.YtjpappkgdadhhaaGreatDoor.Wy
open Go.Value (int slice)
open Go.IntKind (i64)
theorem uV{p:Int->Bool}{xs:List Int}{k m:Nat}{x:Int}(h:(xs.take k).any p=false)(hm:m<k)(hx:xs[m]? =some x):p x=false:=by
 rw[List.any_eq_false] at h;have:=h x (by
  rw[List.mem_iff_getElem?];exact⟨m,by rw[List.getElem?_take,if_pos hm];exact hx⟩)
 cases hp:p x with
 |false=>rfl
 |true=>exact absurd hp this
theorem GR{p:Int->Bool}{xs:List Int}{r r':Int}(h:KQ p xs r)(h':KQ p xs r'):r=r':=by
 rcases h with⟨rfl,h⟩|⟨k,x,rfl,h1,h2,h3⟩
 ·rcases h' with⟨rfl,h'⟩|⟨k',x',rfl,h1',h2',h3'⟩
  ·rfl
  ·rw[List.any_eq_false] at h
   exact absurd h2' (h x' (List.mem_of_getElem? h1'))
 ·rcases h' with⟨rfl,h'⟩|⟨k',x',rfl,h1',h2',h3'⟩
  ·rw[List.any_eq_false] at h'
   exact absurd h2 (h' x (List.mem_of_getElem? h1))
  ·rcases Nat.lt_trichotomy k k' with hk|hk|hk
   ·have:=uV h3' hk h1
    rw[h2] at this;cases this
   ·rw[hk]
   ·have:=uV h3 hk h1'
    rw[h2'] at this;cases this
theorem PV(p:Int->Bool)(xs:List Int):∃r,KQ p xs r:=by
 have key:∀k,k<=xs.length->(∃r,KQ p xs r)\/(xs.take k).any p=false:=by
  intro k
  induction k with
  |zero=>intro _;exact .inr (by simp)
  |succ k ih=>
   intro hk;rcases ih (by omega) with h|h
   ·exact .inl h
   ·cases hp:p xs[k] with
    |true=>exact .inl ⟨k,.inr ⟨k,xs[k],rfl,List.getElem?_eq_getElem _,hp,h⟩⟩
    |false=>exact .inr (by rw[kR (by omega),h,hp];rfl)
 rcases key xs.length (Nat.le_refl _) with h|h
 ·exact h
 ·rw[List.take_of_length_le (Nat.le_refl _)] at h
  exact⟨-1,.inl ⟨rfl,h⟩⟩
def pn(ss l:List Int)(i:Nat)(x:Int):Bool:=decide (0<ss.getD x.toNat 0)&&(decide (0<=l.getD x.toNat 0)&&decide (ss.getD x.toNat 0+l.getD x.toNat 0=l.getD i 0))
def Nx(nb:Nat->List Int)(ss l:List Int)(i j:Nat):Prop:=∃k:Nat,(nb i)[k]? =some (j:Int)/\pn ss l i j=true/\((nb i).take k).any (pn ss l i)=false
theorem take_any{p:Int->Bool}{xs:List Int}{k m:Nat}{x:Int}(h:(xs.take k).any p=false)(hm:m<k)(hx:xs[m]? =some x):p x=false:=by
 rw[List.any_eq_false] at h;have:=h x (by
  rw[List.mem_iff_getElem?];exact⟨m,by rw[List.getElem?_take,if_pos hm];exact hx⟩)
 cases hp:p x with
 |false=>rfl
 |true=>exact absurd hp this
theorem Nx.uniq{nb:Nat->List Int}{ss l:List Int}{i j j':Nat}(h:Nx nb ss l i j)(h':Nx nb ss l i j'):j=j':=by
 obtain⟨k,h1,h2,h3⟩:=h;obtain⟨k',h1',h2',h3'⟩:=h';rcases Nat.lt_trichotomy k k' with hk|hk|hk
 ·have:=take_any h3' hk h1
  rw[h2] at this;cases this
 ·subst hk
  rw[h1] at h1';injection h1' with h1'
  omega
 ·have:=take_any h3 hk h1'
  rw[h2'] at this;cases this
theorem Md{ss l:List Int}{i:Nat}{x:Int}(h:pn ss l i x=true):0<ss.getD x.toNat 0/\0<=l.getD x.toNat 0/\ss.getD x.toNat 0+l.getD x.toNat 0=l.getD i 0:=by
 unfold pn at h;simp only[Bool.and_eq_true,decide_eq_true_eq] at h;exact h
theorem Nx.is{nb:Nat->List Int}{ss l:List Int}{i j:Nat}(h:Nx nb ss l i j):(j:Int)∈nb i/\0<ss.getD j 0/\0<=l.getD j 0/\ss.getD j 0+l.getD j 0=l.getD i 0:=by
 obtain⟨k,h1,h2,-⟩:=h;have:=Md h2;rw[Int.toNat_natCast] at this;exact⟨List.mem_of_getElem? h1,this⟩
theorem PX{nb:Nat->List Int}{ss l:List Int}{i n:Nat}{r:Int}(E:∀x,x∈nb i->∃j:Nat,x=j/\j<n)(h:KQ (pn ss l i) (nb i) r)(hx:∃x∈nb i,pn ss l i x=true):∃k j:Nat,r=k/\j<n/\(nb i)[k]? =some (j:Int)/\Nx nb ss l i j:=by
 rcases h with⟨_,h⟩|⟨k,x,h1,h2,h3,h4⟩
 ·obtain⟨x,hm,hp⟩:=hx
  rw[List.any_eq_false] at h;exact absurd hp (h x hm)
 ·obtain⟨j,rfl,hj⟩:=E x (List.mem_of_getElem? h2)
  exact⟨k,j,h1,hj,h2,k,h2,h3,h4⟩
theorem kY{l:List Int}{i:Nat}{x:Int}(h:l[i]? =some x):l.getD i 0=x:=by rw[List.getD_eq_getElem?_getD,h];rfl
theorem GV{nb:Nat->List Int}{ss l:List Int}{t n i:Nat}(E:Even nb (λ_ j=>ss.getD j 0) n)(h:aY nb (λ_ j=>ss.getD j 0) t n l)(hi:i<n)(h0:0<=l.getD i 0)(ht:i≠t):∃x∈nb i,pn ss l i x=true:=by
 have hl:i<l.length:=by rw[h.1];exact hi
 have e:=List.getElem?_eq_getElem hl;rw[kY e] at h0;obtain⟨j,y,h1,h2,h3,h4,h5⟩:=h.next E.lt e h0 ht;refine⟨j,h1,?_⟩;unfold pn;rw[Int.toNat_natCast,kY h2,kY e,decide_eq_true h3,decide_eq_true h4,decide_eq_true h5.symm];rfl
def OG(nb:Nat->List Int)(ss l:List Int)(t i j:Nat):Prop:=(i=t/\j=i)\/(i≠t/\Nx nb ss l i j)
theorem OG.uniq{nb:Nat->List Int}{ss l:List Int}{t i j j':Nat}(h:OG nb ss l t i j)(h':OG nb ss l t i j'):j=j':=by
 rcases h with⟨h1,h2⟩|⟨h1,h2⟩
 ·rcases h' with⟨_,h4⟩|⟨h3,_⟩
  ·rw[h2,h4]
  ·exact absurd h1 h3
 ·rcases h' with⟨h3,_⟩|⟨_,h4⟩
  ·exact absurd h3 h1
  ·exact h2.uniq h4
inductive og (nb:Nat->List Int) (ss l:List Int) (t:Nat):Nat->List Int->Prop
 |here:og nb ss l t t [(t:Int)]
 |step {i j:Nat} {p:List Int}:i≠t->Nx nb ss l i j->og nb ss l t j p->og nb ss l t i ((i:Int)::p)
theorem og.uniq{nb:Nat->List Int}{ss l:List Int}{t i:Nat}{p p':List Int}(h:og nb ss l t i p)(h':og nb ss l t i p'):p=p':=by
 induction h generalizing p' with
 |here=>
  cases h' with
  |here=>rfl
  |step h1 _ _=>exact absurd rfl h1
 |step h1 h2 h3 ih=>
  cases h' with
  |here=>exact absurd rfl h1
  |step h1' h2' h3'=>
   have:=h2.uniq h2';subst this;rw[ih h3']
theorem og.head{nb:Nat->List Int}{ss l:List Int}{t i:Nat}{p:List Int}(h:og nb ss l t i p):p[0]? =some (i:Int):=by
 cases h<;>rfl
theorem og.last{nb:Nat->List Int}{ss l:List Int}{t i:Nat}{p:List Int}(h:og nb ss l t i p):p.getLast? =some (t:Int):=by
 induction h with
 |here=>rfl
 |step h1 h2 h3 ih=>
  rename_i i j p;cases p with
  |nil=>simp at ih
  |cons a p=>rw[List.getLast?_cons_cons];exact ih
theorem og.second{nb:Nat->List Int}{ss l:List Int}{t i:Nat}{p:List Int}(h:og nb ss l t i p)(hi:i≠t):∃j:Nat,p[1]? =some (j:Int)/\Nx nb ss l i j:=by
 cases h with
 |here=>exact absurd rfl hi
 |step h1 h2 h3=>exact⟨_,by simpa using h3.head,h2⟩
def rch(l:List Int)(most:Int)(k:Nat):List Int:=((List.range k).filter λi=>decide (0<=l.getD i 0/\l.getD i 0<=most)).map Int.ofNat
theorem GX(l:List Int)(most:Int)(k:Nat):rch l most (k+1)=rch l most k++(if 0<=l.getD k 0/\l.getD k 0<=most then[(k:Int)] else[]):=by
 unfold rch;rw[List.range_succ,List.filter_append,List.map_append]
 congr 1
 by_cases h:0<=l.getD k 0/\l.getD k 0<=most
 ·rw[if_pos h,List.filter_cons_of_pos (by simpa using h)]
  rfl
 ·rw[if_neg h,List.filter_cons_of_neg (by simpa using h)]
  rfl
theorem Me(l:List Int)(most:Int)(k:Nat):(rch l most k).length<=k:=by
 unfold rch;rw[List.length_map];exact Nat.le_trans (List.length_filter_le _ _) (by simp)
theorem get_some{l:List Int}{i n:Nat}(hl:l.length=n)(h:i<n):l[i]? =some (l.getD i 0):=by rw[List.getD_eq_getElem?_getD,List.getElem?_eq_getElem (by omega)];rfl
end Go.Proofs.YtjpappkgdadhhaaGreatDoor.Wy
namespace Go.Proofs.YtjpappkgdadhhaaGreatDoor
open Go.Value (int slice)
open Go.IntKind (i64)
open Go.RowKit Wy
theorem GZ(g:Int)(fl:Bool):Fd.onto g fl<=2:=by
 unfold Fd.onto
 repeat' split
 all_goals omega
theorem xE(gs:List Int)(fl:Bool)(j:Nat):(gs.map λg=>Fd.onto g fl).getD j 0<=2:=by
 rw[List.getD_eq_getElem?_getD,List.getElem?_map];cases gs[j]? with
 |none=>exact(by decide:(0:Int)<=2)
 |some g=>exact GZ g fl
theorem zZ{W H:Nat}(hW:0<W)(gs:List Int)(fl:Bool):Even (Fd.near W H) (λ_ j=>(gs.map λg=>Fd.onto g fl).getD j 0) (W*H):=qO hW λ_ j=>xE gs fl j
theorem qQ{W H:Nat}(hW:0<W)(gs:List Int)(fl:Bool):Even (Fd.near W H) (λi _=>(gs.map λg=>Fd.onto g fl).getD i 0) (W*H):=qO hW λi _=>xE gs fl i
theorem z_{n:Nat}{l:List Int}(h:Flat l)(hl:l.length=n)(hn:n<=144)(j:Nat):l.getD j 0<=288:=by
 rw[List.getD_eq_getElem?_getD];cases hx:l[j]? with
 |none=>decide
 |some x=>
  have h1:=h j x hx;have h2:=sD l;show x<=288;omega
theorem G_(v:Value)(W H:Nat)(gs os:List Int)(a:Nat)(m:Int)(fl:Bool)(w:World)(h:Fl w v W H gs os)(hs:Sd w)(G:Fd.Good W H gs os)(ha:a<W*H)(m0:0<=m)(m1:m<=1000000):
 Calls Tryz.prog 126 #[v,int i64 (a:Nat),int i64 m,.bool fl] w λe w'=>∃u l,e=.returned (.tuple #[u,.nilIface])/\aY (Fd.near W H) (λi _=>(gs.map λg=>Fd.onto g fl).getD i 0) a (W*H) l/\Ro w' u (rch l m (W*H))/\Below w.heap.size w w':=by
 have F0:=aj (h);have S0:=aj (hs);have G0:=aj (G);have A0:=aj (ha);obtain⟨u1,u2,rfl,⟨a1,c,rfl,c1,c2,ca⟩,⟨b1,d,rfl,d1,d2,cb⟩⟩:=h;obtain⟨ss,hss⟩:∃ss,(gs.map λg=>Fd.onto g fl)=ss:=⟨_,rfl⟩;have Fa:=aj (hss);have E0:Hid (Even (Fd.near W H) (λi _=>ss.getD i 0) (W*H)):=by rw[<-hss];exact qQ G.w1 gs fl
 rw[hss];obtain⟨n,hn⟩:∃n,W*H=n:=⟨_,rfl⟩;have Hn:=aj (hn);rw[hn] at E0 ⊢;clear ca cb hs G ha hss hn;go_enter Tryz.func126,Tryz.ntmps126;go_wp2_with fail
 have b0:Below w.heap.size w ((w.alloc (Obj.cells #[int i64 W,int i64 H,slice a1 gs.length c,slice b1 os.length d] 25)).alloc (Obj.cells #[int i64 (a:Nat)] 3)):=((Below.refl _ _).alloc (Nat.le_refl _) _).alloc (by simp) _;refine(look_ok _ _ W H gs os _ fl _ (F0.out.below b0) G0.out (S0.out.below b0) (Ro.wL _ (by simp)) (by have:=A0.out;simp;omega)).mono ?_;rintro e w1 ⟨⟨v1,rfl,hL⟩,hb⟩;rw[Fa.out,Hn.out] at hL;have B1:=aj (b0.trans (hb.mono (by simp;omega)));have L1:=aj (hL);obtain⟨p1,p2,rfl,⟨x1,k1,rfl,-⟩,⟨x2,k2,rfl,-⟩,-⟩:=hL;clear hb b0;have n0:¬m<0:=by omega
 have n1:¬1000000<m:=by omega
 go_wp2_with fail
 have b2:Below _ w1 (w1.alloc (Obj.cells #[slice (some x1) (n) k1,slice x2 ss.length k2] 173)):=(Below.refl _ _).alloc (Nat.le_refl _) _;refine(n_ _ _ a _ ss _ (L1.out.below b2) E0.out (by rw[<-Hn.out];exact A0.out) (by rw[<-Hn.out];exact G0.out.pos.2) (Fd.nZ W H)).mono ?_;rintro e w2 ⟨g,l,rfl,hbz,hbk,⟨hf,hfl⟩,hb⟩;have K2:=aj (hbk);have HF:=aj (hf);have B2:=aj ((B1.out.trans (b2.mono B1.out.size)).trans (hb.mono (Nat.le_trans B1.out.size b2.size)));have N0:n<=144:=by rw[<-Hn.out];exact G0.out.pos.2
 clear hbz hbk hb b2 L1 B1 hf hfl n0 n1;go_wp2_with fail
 go_loopw [12,37] (λv i W'=>∃k:Nat,k<=n/\i=int i64 (k:Nat)/\Ow W' w2.heap.size v (rch l m k)/\Below w2.heap.size w2 W') (λ_ i _=>n-(intOf i).toNat)
 case atStart=>exact⟨0,Nat.zero_le _,rfl,Ow.nil _ _,Below.refl _ _⟩
 case round=>
  obtain⟨k,hk,rfl,ho,hb⟩:=hrel;have O:=aj (ho);have B:=aj (hb);clear ho hb;by_cases h0:k=n
  ·subst h0
   go_wp2;go_ret2;exact⟨_,l,rfl,HF,O.out.ro,B2.out.trans (B.out.mono B2.out.size)⟩
  ·have hkn:k<n:=by omega
   have Er:=aj (GX l m k);have ck:=(K2.out.below B.out).cell (get_some HF.out.1 hkn);have Lr:Hid ((rch l m k).length<=1000000000):=Nat.le_trans (Me l m k) (by omega);generalize l.getD k 0=y at *;generalize rch l m k=rs at *;by_cases h1:0<=y
   ·by_cases h2:y<=m
    ·have SN:Hid (rch l m (k+1)=rs++[(k:Int)]):=by
      have:=Er.out;rw[if_pos ⟨h1,h2⟩] at this;exact this
     have ba:Below _ wr (wr.alloc (Obj.cells #[int i64 (k:Nat)] 3)):=(Below.refl _ _).alloc (Nat.le_refl _) _;have O5:=aj (O.out.below ba);have B5:=aj (B.out.trans (ba.mono B.out.size));have Cd:Hid ((wr.alloc (Obj.cells #[int i64 (k:Nat)] 3)).cell? ⟨wr.heap.size,0,none⟩=some (int i64 (k:Nat))):=by unfold Hid;simp
     clear ba Er O B;go_wp2_with (at_builtin;refine gJ _ rfl _ _ rfl _ _ rs rfl O5.out _ _ rfl Cd.out Lr.out B5.out.size ?_);intro g6 cap6 w6 o6 gr6 at6 lt6;have O6:=aj (o6);have B6:=aj (B5.out.trans ((Below.refl _ _).grown gr6 B5.out.size (λk hk=>(O5.out.block k hk).1)));clear o6 gr6 at6 lt6 O5 B5 Cd;go_wp2;go_round
     case rel=>exact⟨k+1,by omega,by go_num,by rw[SN.out];exact O6,B6⟩
     case measure=>simp[intOf];omega
    ·have SN:Hid (rch l m (k+1)=rs):=by
      have:=Er.out;rw[if_neg (λh=>h2 h.2),List.append_nil] at this;exact this
     clear Er;go_wp2;go_round
     case rel=>exact⟨k+1,by omega,by go_num,by rw[SN.out];exact O,B⟩
     case measure=>simp[intOf];omega
   ·have SN:Hid (rch l m (k+1)=rs):=by
     have:=Er.out;rw[if_neg (λh=>h1 h.1),List.append_nil] at this;exact this
    clear Er;go_wp2;go_round
    case rel=>exact⟨k+1,by omega,by go_num,by rw[SN.out];exact O,B⟩
    case measure=>simp[intOf];omega
theorem He(K:Nat)(eK:∀args w,(callFunc K args).run Tryz.prog w=.ok (.enter K args) w)(u:Value)(cs:Array Value)(xs:List Int)(p:Int->Bool)(w:World)(hu:Ro w u xs)
 (hp:∀W,Below w.heap.size w W->∀x:Int,Calls Tryz.prog K (#[int i64 x]++cs) W λe w'=>e=.returned (.bool (p x))/\Below W.heap.size W w'):
 Calls Tryz.prog 52 #[u,.func (Fn.func K) #[] cs] w λe w'=>∃r:Int,e=.returned (int i64 r)/\KQ p xs r/\Below w.heap.size w w':=by
 have R0:Hid (Ro w u xs):=hu;obtain⟨a,c,rfl,c1,c2,ca⟩:=hu;have Hp:Hid (∀W,Below w.heap.size w W->∀x:Int,Calls Tryz.prog K (#[int i64 x]++cs) W λe w'=>e=.returned (.bool (p x))/\Below W.heap.size W w'):=hp;clear ca hp;go_enter Tryz.func52,Tryz.ntmps52;go_wp2;go_loopw [8] (λi W'=>∃k:Nat,k<=xs.length/\i=int i64 (k:Nat)/\(xs.take k).any p=false/\Below w.heap.size w W') (λi _=>xs.length-(intOf i).toNat)
 case atStart=>exact⟨0,Nat.zero_le _,rfl,by simp,Below.refl _ _⟩
 case round=>
  obtain⟨k,hk,rfl,ht,hb⟩:=hrel;have Ht:Hid ((xs.take k).any p=false):=ht;have B:Hid (Below w.heap.size w wr):=hb;clear ht hb;by_cases h0:k=xs.length
  ·subst h0
   go_wp2;go_ret;refine⟨_,rfl,.inl ⟨rfl,?_⟩,B⟩;have:=Ht.out;rw[List.take_of_length_le (Nat.le_refl _)] at this;exact this
  ·have hkx:k<xs.length:=by omega
   obtain⟨a',c',he,-,-,hca⟩:=R0.out.below B.out;injection he with he1 he2 he3
   subst he1;obtain⟨x,rfl,-,hx⟩:=hca (by intro h;rw[h] at hkx;simp at hkx);obtain⟨y,hy⟩:∃y,xs[k]? =some y:=⟨_,List.getElem?_eq_getElem hkx⟩;have cx:wr.cell? (x.add k)=some (int i64 y):=hx k y hy;have hc:=Hp.out wr B.out y;have Hs:Hid ((xs.take (k+1)).any p=((xs.take k).any p||p y)):=by
    unfold Hid;rw[kR hkx];obtain⟨hi,e⟩:=List.getElem?_eq_some_iff.1 hy;rw[e]
   have Hm:Hid (xs[k]? =some y):=hy;clear hx hca hy he2 he3;cases hy:p y with
   |true=>
    rw[hy] at hc;have Hc:Hid (Calls Tryz.prog K (#[int i64 y]++cs) wr λe w'=>e=.returned (.bool true)/\Below wr.heap.size wr w'):=hc;have Hy:Hid (p y=true):=hy;clear hc hy;go_wp2_with fail
    refine Calls.mono Hc.out ?_;rintro e w1 ⟨rfl,b1⟩;have B1:Hid (Below w.heap.size w w1):=B.out.trans (b1.mono B.out.size);clear b1;go_wp2;go_ret;exact⟨_,rfl,.inr ⟨k,y,rfl,Hm,Hy,Ht⟩,B1⟩
   |false=>
    rw[hy] at hc;have Hc:Hid (Calls Tryz.prog K (#[int i64 y]++cs) wr λe w'=>e=.returned (.bool false)/\Below wr.heap.size wr w'):=hc;have Hy:Hid (p y=false):=hy;clear hc hy;go_wp2_with fail
    refine Calls.mono Hc.out ?_;rintro e w1 ⟨rfl,b1⟩;have B1:Hid (Below w.heap.size w w1):=B.out.trans (b1.mono B.out.size);clear b1;go_wp2;go_round
    case rel=>exact⟨k+1,by omega,by go_num,by have:=Hs.out;rw[Ht.out,Hy.out] at this;exact this,B1⟩
    case measure=>simp[intOf];omega
def iU(l:List Int)(n:Nat)(p:Int->Bool)(c F:Int):Prop:=
 (F=6/\c=0/\∀m:Nat,m<=3->(rch l m n).any p=false)\/(F=0/\∃m k:Nat,m<=3/\(rch l m n)[k]? =some c/\p c=true/\((rch l m n).take k).any p=false/\∀j:Nat,j<m->(rch l j n).any p=false)
theorem xG(K:Nat)(eK:∀args w,(callFunc K args).run Tryz.prog w=.ok (.enter K args) w)(cs:Array Value)(p:Int->Bool)(v:Value)(W H:Nat)(gs os:List Int)(a:Nat)(fl:Bool)(w:World)(h:Fl w v W H gs os)(hs:Sd w)(G:Fd.Good W H gs os)(ha:a<W*H)
 (hp:∀V,Below w.heap.size w V->∀x:Int,Calls Tryz.prog K (#[int i64 x]++cs) V λe w'=>e=.returned (.bool (p x))/\Below V.heap.size V w'):
 Calls Tryz.prog 107 #[v,int i64 (a:Nat),.bool fl,.func (Fn.func K) #[] cs] w λe w'=>∃l c r F,e=.returned (.tuple #[int i64 c,r])/\aY (Fd.near W H) (λi _=>(gs.map λg=>Fd.onto g fl).getD i 0) a (W*H) l/\Er r F/\iU l (W*H) p c F/\Below w.heap.size w w':=by
 have F0:Hid (Fl w v W H gs os):=h;have S0:Hid (Sd w):=hs;have G0:Hid (Fd.Good W H gs os/\a<W*H):=⟨G,ha⟩;have Hp:Hid (∀V,Below w.heap.size w V->∀x:Int,Calls Tryz.prog K (#[int i64 x]++cs) V λe w'=>e=.returned (.bool (p x))/\Below V.heap.size V w'):=hp;obtain⟨u1,u2,rfl,-,-⟩:=h;clear hs G ha hp;go_enter Tryz.func107,Tryz.ntmps107;go_upto_region 1 with fail
 have B0:Hid (Below w.heap.size w (w.alloc (.cells #[int i64 (W:Int),int i64 (H:Int),u1,u2] 25))):=(Below.refl _ _).alloc (Nat.le_refl _) _;have X0:Hid (Bf (w.alloc (.cells #[int i64 (W:Int),int i64 (H:Int),u1,u2] 25)) w.heap.size W H u1 u2):=Bf.mk' W H u1 u2 rfl;generalize (w.alloc (.cells #[int i64 (W:Int),int i64 (H:Int),u1,u2] 25))=w0 at *;go_wp2;go_loopw [14] (λi V=>∃k:Nat,k<=4/\i=int i64 (k:Nat)/\(∀l,aY (Fd.near W H) (λi _=>(gs.map λg=>Fd.onto g fl).getD i 0) a (W*H) l->∀j:Nat,j<k->(rch l j (W*H)).any p=false)/\(0<k->∃l,aY (Fd.near W H) (λi _=>(gs.map λg=>Fd.onto g fl).getD i 0) a (W*H) l)/\Bf V w.heap.size W H u1 u2/\Below w.heap.size w V) (λi _=>4-(intOf i).toNat)
 case atStart=>exact⟨0,by omega,rfl,λl _ j hj=>by omega,λh=>by omega,X0.out,B0.out⟩
 case round=>
  obtain⟨k,hk,rfl,hN,hL,hX,hB⟩:=hrel;have N:Hid (∀l,aY (Fd.near W H) (λi _=>(gs.map λg=>Fd.onto g fl).getD i 0) a (W*H) l->∀j:Nat,j<k->(rch l j (W*H)).any p=false):=hN;have L:Hid (0<k->∃l,aY (Fd.near W H) (λi _=>(gs.map λg=>Fd.onto g fl).getD i 0) a (W*H) l):=hL;have X:Hid (Bf wr w.heap.size W H u1 u2):=hX;have B:Hid (Below w.heap.size w wr):=hB;clear hN hL hX hB X0 B0;by_cases h0:k=4
  ·subst h0
   go_wp2;go_ret2;obtain⟨l,hl⟩:=L.out (by omega);exact⟨l,0,_,6,rfl,hl,Er.no (by decide),.inl ⟨rfl,rfl,λm hm=>N.out l hl m (by omega)⟩,B.out⟩
  ·have hk4:k<4:=by omega
   have hki:((k:Nat):Int)<4:=by omega
   obtain⟨x0,x1,x2,x3⟩:=X.out;go_wp2_with fail
   refine(G_ _ W H gs os a (k:Nat) fl wr (F0.out.below B.out) (S0.out.below B.out) G0.out.1 G0.out.2 (by omega) (by omega)).mono ?_;rintro e w1 ⟨u,l,rfl,hl,hr,hb⟩;have B1:Hid (Below w.heap.size w w1):=B.out.trans (hb.mono B.out.size);have X1:Hid (Bf w1 w.heap.size W H u1 u2):=X.out.below hb X.out.lt;have HL:Hid (aY (Fd.near W H) (λi _=>(gs.map λg=>Fd.onto g fl).getD i 0) a (W*H) l):=hl;have RO:Hid (Ro w1 u (rch l (k:Nat) (W*H))):=hr;clear hb hl hr x0 x1 x2 x3 X B;go_wp2_with fail
   refine(He K eK _ cs (rch l (k:Nat) (W*H)) p w1 RO.out (λV hV x=>Hp.out V (B1.out.trans (hV.mono B1.out.size)) x)).mono ?_;rintro e w2 ⟨r,rfl,hf,hb⟩;have B2:Hid (Below w.heap.size w w2):=B1.out.trans (hb.mono B1.out.size);have X2:Hid (Bf w2 w.heap.size W H u1 u2):=X1.out.below hb X1.out.lt;have RO2:Hid (Ro w2 u (rch l (k:Nat) (W*H))):=RO.out.below hb;clear hb X1 B1 RO;rcases hf with⟨rfl,hno⟩|⟨j,c,rfl,hj,hpc,htk⟩
   ·have NO:Hid ((rch l (k:Nat) (W*H)).any p=false):=hno
    clear hno;go_wp2;go_round
    case rel=>exact⟨k+1,by omega,by go_num,λl' hl' j hj=>by
     by_cases hjk:j<k
     ·exact N.out l' hl' j hjk
     ·have:j=k:=by omega
      subst this;rw[hl'.uniq HL.out];exact NO.out,λ_=>⟨l,HL.out⟩,X2.out,B2.out⟩
    case measure=>simp[intOf];omega
   ·have FJ:Hid ((rch l (k:Nat) (W*H))[j]? =some c/\p c=true/\((rch l (k:Nat) (W*H)).take j).any p=false):=⟨hj,hpc,htk⟩
    have hjl:j<(rch l (k:Nat) (W*H)).length:=(List.getElem?_eq_some_iff.1 hj).1;obtain⟨ad,cp,rfl,-,-,hca⟩:=RO2.out;obtain⟨x,rfl,-,hx⟩:=hca (by intro h;rw[h] at hjl;simp at hjl);have cx:w2.cell? (x.add j)=some (int i64 c):=hx j c hj;clear hj hpc htk hx hca;go_wp2;go_ret2;exact⟨l,c,_,0,rfl,HL.out,Er.nil,.inr ⟨rfl,k,j,by omega,FJ.out.1,FJ.out.2.1,FJ.out.2.2,λi hi=>N.out l HL.out i hi⟩,B2.out⟩
theorem MC(u:aC)(at_:Int)(b:Nat)(w:World)(hc:w.cell? ⟨b,0,none⟩=some (int i64 at_)):
 Calls Tryz.prog 106 #[u.val,.pointer (some ⟨b,0,none⟩)] w λe w'=>e=.returned (.bool (u.at_==at_))/\Below w.heap.size w w':=by
 have hb:b<w.heap.size:=cell_lt hc;have hne:b≠w.heap.size:=by omega
 unfold aC.val;go_enter Tryz.func106,Tryz.ntmps106;go_wp2;go_ret;exact⟨rfl,(Below.refl _ _).alloc (Nat.le_refl _) _⟩
theorem Hq(us:List aC)(at_:Int)(b:Nat)(u:Value)(w:World)(hc:w.cell? ⟨b,7,none⟩=some u)(hu:jd w u us):
 Calls Tryz.prog 105 #[int i64 at_,.pointer (some ⟨b,0,none⟩)] w λe w'=>e=.returned (.bool (!us.any (λu=>u.at_==at_)))/\Below w.heap.size w w':=by
 have U:Hid (jd w u us):=hu;have hb:b<w.heap.size:=cell_lt hc;have hne:b≠w.heap.size:=by omega
 clear hu;go_enter Tryz.func105,Tryz.ntmps105;go_upto_region 1 with fail
 have B0:Hid (Below w.heap.size w (w.alloc (Obj.cells #[int i64 at_] 3))):=(Below.refl _ _).alloc (Nat.le_refl _) _;have C0:Hid ((w.alloc (Obj.cells #[int i64 at_] 3)).cell? ⟨w.heap.size,0,none⟩=some (int i64 at_)):=dD (by simp) rfl;have c7:(w.alloc (Obj.cells #[int i64 at_] 3)).cell? ⟨b,7,none⟩=some u:=by rw[B0.out.cell (p:=⟨b,7,none⟩) hb];exact hc
 generalize (w.alloc (Obj.cells #[int i64 at_] 3))=w0 at *;go_wp2_with fail
 refine(kQ 106 (by intro args w;go_simp) u #[.pointer (some ⟨w.heap.size,0,none⟩)] us (λu=>u.at_==at_) w0 (U.out.below B0.out) (λV hV k=>MC k at_ w.heap.size V (by rw[hV.cell (p:=⟨w.heap.size,0,none⟩) (cell_lt C0.out)];exact C0.out))).mono ?_;rintro e w1 ⟨rfl,hb1⟩;have B1:Hid (Below w.heap.size w w1):=B0.out.trans (hb1.mono B0.out.size);obtain⟨m,hm⟩:∃m,us.any (λu=>u.at_==at_)=m:=⟨_,rfl⟩;have HM:Hid (us.any (λu=>u.at_==at_)=m):=hm;rw[hm];clear hb1 hm c7 hc;go_wp2;go_ret;exact⟨by rw[HM.out];rfl,B1.out⟩
end Go.Proofs.YtjpappkgdadhhaaGreatDoor
namespace Go.Proofs.YtjpappkgdadhhaaGreatDoor
open Go.Value (int slice)
open Go.IntKind (i64)
open Go Go.RowKit
section
variable {P:Program} {ops:Array Oper} {md:Region.Mode} {C:World->Prop} {Q:Exit->Act->World->Prop}
def fJ(P:Program)(ops:Array Oper)(C:World->Prop)(o:Oper)(v:Value)(a:Act):Prop:=
 Region.wanted o (yielded ops a.tmps)=true/\∀W,C W->(execOp a.eval o).run P W=.ok (.value v) W
def fZ(P:Program)(ops:Array Oper)(C:World->Prop)(o:Oper)(K:Act->World->Prop)(a:Act)(W:World):Prop:=
 Region.wanted o (yielded ops a.tmps)=true/\
  ((∃v W',(execOp a.eval o).run P W=.ok (.value v) W'/\C W'/\K (a.put o.dst v) W')\/(∃W',(execOp a.eval o).run P W=.ok .skip W'/\C W'/\K (a.put o.dst undef) W')\/
   ∃f args,(execOp a.eval o).run P W=.ok (.enter f args) W/\Calls P f args W (λe w'=>∃v,e=.returned v/\C w'/\K (a.put o.dst v) w'))
theorem fZ.mono{o:Oper}{K K':Act->World->Prop}{a:Act}{W:World}(h:∀a W,C W->K a W->K' a W)(hh:fZ P ops C o K a W):fZ P ops C o K' a W:=by
 obtain⟨h1,h2⟩:=hh;refine⟨h1,?_⟩;rcases h2 with⟨v,W',e,hc,hk⟩|⟨W',e,hc,hk⟩|⟨f,args,e,hc⟩
 ·exact .inl ⟨v,W',e,hc,h _ _ hc hk⟩
 ·exact .inr (.inl ⟨W',e,hc,h _ _ hc hk⟩)
 ·exact .inr (.inr ⟨f,args,e,hc.mono λe w' ⟨v,he,hw,hk⟩=>⟨v,he,hw,h _ _ hw hk⟩⟩)
theorem fJ.step{o:Oper}{v:Value}{K:Act->World->Prop}{a:Act}{W:World}(hy:fJ P ops C o v a)(hC:C W)(h:K (a.put o.dst v) W):fZ P ops C o K a W:=
 ⟨hy.1,.inl ⟨v,W,hy.2 W hC,hC,h⟩⟩
theorem fZ.put{oi oj:Oper}{v:Value}(hap:oi.apart ops oj=true)
 (hsi:∀cs b,oi.op≠ .select cs b) (hsj:∀cs b,oj.op≠ .select cs b) {K:Act->World->Prop} {a:Act} {W:World}
 (hy:fJ P ops C oi v a) (h:fZ P ops C oj K (a.put oi.dst v) W):
 fZ P ops C oj (λa' w'=>fJ P ops C oi v a'/\K (a'.put oi.dst v) w') a W:=by
 obtain⟨h1,h2,h3⟩:=Oper.apart_spec hap;have keep:∀u,fJ P ops C oi v (a.put oj.dst u):=λu=>by
  unfold fJ at *;rw[execOp_put oi hsi a oj.dst u h3,wanted_put oi a oj.dst u h3];exact hy
 unfold fZ at *;rw[wanted_put oj a oi.dst v h1,execOp_put oj hsj a oi.dst v h1] at h;obtain⟨hw,h⟩:=h;refine⟨hw,?_⟩;rcases h with⟨u,W',e,hc,hk⟩|⟨W',e,hc,hk⟩|⟨f,args,e,hc⟩
 ·exact .inl ⟨u,W',e,hc,keep u,by rw[<-Act.put_comm a v u h2];exact hk⟩
 ·exact .inr (.inl ⟨W',e,hc,keep _,by rw[<-Act.put_comm a v _ h2];exact hk⟩)
 ·exact .inr (.inr ⟨f,args,e,hc.mono λe w' ⟨u,he,hw,hk⟩=>⟨u,he,hw,keep u,by rw[<-Act.put_comm a v u h2];exact hk⟩⟩)
def wpAnyS(P:Program)(md:Region.Mode)(ops:Array Oper)(C:World->Prop)(Q:Exit->Act->World->Prop):Nat->Array Bool->Act->World->Prop
 |0,listed,a,W=>Region.ready md ops listed=[]/\Q .normal a W
 |f+1,listed,a,W=>Region.ready md ops listed≠[]/\∀i∈Region.ready md ops listed,∃o,ops[i]? =some o/\fZ P ops C o (wpAnyS P md ops C Q f (listed.setIfInBounds i true)) a W
theorem gY:∀(f:Nat) (listed:Array Bool) (a:Act) (W:World),wpAnyS P md ops C Q f listed a W->wpAny P md ops Q f listed a W
 |0,listed,a,W,h=>h
 |f+1,listed,a,W,h=>by
  refine⟨λh0=>absurd h0 h.1,λi hi=>?_⟩;obtain⟨o,ho,hs⟩:=h.2 i hi;unfold wpOp;simp only[ho];obtain⟨hw,hs⟩:=hs;rw[if_pos hw];refine .inl ?_;unfold Oper.wp;rcases hs with⟨v,W',e,-,hk⟩|⟨W',e,-,hk⟩|⟨g,args,e,hc⟩
  ·rw[e];exact gY f _ _ _ hk
  ·rw[e];exact gY f _ _ _ hk
  ·rw[e]
   exact hc.mono λe w' ⟨v,he,_,hk⟩=>by subst he;exact gY f _ _ _ hk
theorem wpAnyS_first{i:Nat}{oi:Oper}{v:Value}(hi:ops[i]? =some oi)(hsel:∀(j:Nat) (o:Oper) cs b,ops[j]? =some o->o.op≠ .select cs b):
 ∀(f:Nat) (listed:Array Bool) (a:Act) (W:World),
  (∀j oj,ops[j]? =some oj->j≠i->listed.getD j true=false->(∀e∈oj.after,Region.binds md e=true->e.on≠i)->oi.apart ops oj=true)->
  i∈Region.ready md ops listed->fJ P ops C oi v a->C W->
  wpAnyS P md ops C Q f (listed.setIfInBounds i true) (a.put oi.dst v) W->wpAnyS P md ops C Q (f+1) listed a W:=by
 intro f
 induction f with
 |zero=>
  intro listed a W _ hr hy hC H;refine⟨λh=>(by rw[h] at hr;cases hr),λj hj=>?_⟩;by_cases hji:j=i
  ·subst hji;exact⟨oi,hi,hy.step hC H⟩
  ·have:=ready_mono hj hji
   rw[H.1] at this;cases this
 |succ f ih=>
  intro listed a W hfree hr hy hC H;refine⟨λh=>(by rw[h] at hr;cases hr),λj hj=>?_⟩;by_cases hji:j=i
  ·subst hji;exact⟨oi,hi,hy.step hC H⟩
  ·obtain⟨o',ho',h1⟩:=H.2 j (ready_mono hj hji)
   obtain⟨hjun,oj,hoj,hall⟩:=mem_ready.1 hj;obtain rfl:o'=oj:=Option.some.inj (ho'.symm.trans hoj);have hnot:∀e∈o'.after,Region.binds md e=true->e.on≠i:=λe he hb heq=>by
    have h1:=hall e he hb;have h0:=(mem_ready.1 hr).1;rw[heq,getD_both h0] at h1;cases h1
   have h2:=fZ.put (hfree j o' hoj hji hjun hnot) (λcs b=>hsel i oi cs b hi) (λcs b=>hsel j o' cs b hoj) hy h1;have hfree':∀k ok,ops[k]? =some ok->k≠i->(listed.setIfInBounds j true).getD k true=false->
    (∀e∈ok.after,Region.binds md e=true->e.on≠i)->oi.apart ops ok=true:=λk ok hk hki hun hno=>by
    refine hfree k ok hk hki ?_ hno;by_cases hjk:j=k
    ·subst hjk;exact hjun
    ·rw[getD_set_ne true hjk] at hun;exact hun
   refine⟨o',hoj,h2.mono λa' W' hC' h3=>ih _ a' W' hfree' (ready_mono hr (Ne.symm hji)) h3.1 hC' ?_⟩;rw[Array.setIfInBounds_comm _ _ hji];exact h3.2
def aS(P:Program)(ops:Array Oper)(C:World->Prop)(Q:Exit->Act->World->Prop):List (Bool×Nat)->Act->World->Prop
 |[],a,W=>Q .normal a W
 |(true,i)::r,a,W=>∃o v,ops[i]? =some o/\fJ P ops C o v a/\aS P ops C Q r (a.put o.dst v) W
 |(false,i)::r,a,W=>∃o,ops[i]? =some o/\fZ P ops C o (aS P ops C Q r) a W
def jE(md:Region.Mode)(ops:Array Oper):List (Bool×Nat)->Array Bool->Bool
 |[],listed=>(Region.ready md ops listed).isEmpty
 |(true,i)::r,listed=>(Region.ready md ops listed).contains i&&(Region.free md ops listed i&&jE md ops r (listed.setIfInBounds i true))
 |(false,i)::r,listed=>decide (Region.ready md ops listed=[i])&&jE md ops r (listed.setIfInBounds i true)
theorem fA(hsel:Region.noSelect ops=true):∀(s:List (Bool×Nat)) (listed:Array Bool) (a:Act) (W:World),jE md ops s listed=true->C W->aS P ops C Q s a W->wpAnyS P md ops C Q s.length listed a W
 |[],listed,a,W,hB,hC,h=>⟨by simpa[jE] using hB,h⟩
 |(true,i)::r,listed,a,W,hB,hC,h=>by
  simp only[jE,Bool.and_eq_true] at hB;obtain⟨hr,hf,hB⟩:=hB;obtain⟨o,v,ho,hy,hk⟩:=h;have hr':i∈Region.ready md ops listed:=by simpa using hr
  exact wpAnyS_first ho (Region.noSelect_spec hsel) _ _ a W (Region.free_spec ho hf) hr' hy hC (fA hsel r _ _ _ hB hC hk)
 |(false,i)::r,listed,a,W,hB,hC,h=>by
  simp only[jE,Bool.and_eq_true,decide_eq_true_eq] at hB;obtain⟨hr,hB⟩:=hB;obtain⟨o,ho,hs⟩:=h;refine⟨λh=>(by rw[hr] at h;cases h),λj hj=>?_⟩;rw[hr] at hj;obtain rfl:j=i:=by simpa using hj
  exact⟨o,ho,hs.mono λa' W' hC' hk=>fA hsel r _ _ _ hB hC' hk⟩
theorem cO{i:Nat}{r:List (Bool×Nat)}{o:Oper}{a:Act}{W:World}(ho:ops[i]? =some o)(v:Value)(hw:Region.wanted o (yielded ops a.tmps)=true)(hr:∀W,C W->(execOp a.eval o).run P W=.ok (.value v) W)(h:aS P ops C Q r (a.put o.dst v) W):aS P ops C Q ((true,i)::r) a W:=
 ⟨o,v,ho,⟨hw,hr⟩,h⟩
theorem oh{i:Nat}{r:List (Bool×Nat)}{o:Oper}{a:Act}{W:World}(ho:ops[i]? =some o)(f:FuncId)(args:Array Value)(hw:Region.wanted o (yielded ops a.tmps)=true)(hr:(execOp a.eval o).run P W=.ok (.enter f args) W)
 (hc:Calls P f args W (λe w'=>∃v,e=.returned v/\C w'/\aS P ops C Q r (a.put o.dst v) w')):aS P ops C Q ((false,i)::r) a W:=
 ⟨o,ho,hw,.inr (.inr ⟨f,args,hr,hc⟩)⟩
theorem aN{i:Nat}{r:List (Bool×Nat)}{o:Oper}{a:Act}{W:World}(ho:ops[i]? =some o)(v:Value)(W':World)(hw:Region.wanted o (yielded ops a.tmps)=true)(hr:(execOp a.eval o).run P W=.ok (.value v) W')(hC:C W')(h:aS P ops C Q r (a.put o.dst v) W'):aS P ops C Q ((false,i)::r) a W:=
 ⟨o,ho,hw,.inl ⟨v,W',hr,hC,h⟩⟩
theorem gZ{i:Nat}{r:List (Bool×Nat)}{o:Oper}{a:Act}{W:World}(ho:ops[i]? =some o)(W':World)(hw:Region.wanted o (yielded ops a.tmps)=true)(hr:(execOp a.eval o).run P W=.ok .skip W')(hC:C W')(h:aS P ops C Q r (a.put o.dst undef) W'):aS P ops C Q ((false,i)::r) a W:=
 ⟨o,ho,hw,.inr (.inl ⟨W',hr,hC,h⟩)⟩
end
section
variable {P:Program} {ops:Array Oper} {md:Region.Mode} {C:World->Prop} {Q:Exit->Act->World->Prop} {L:Array Bool->Act->World->Prop}
def mF(P:Program)(md:Region.Mode)(ops:Array Oper)(C:World->Prop)(L:Array Bool->Act->World->Prop):Nat->Array Bool->Act->World->Prop
 |0,listed,a,W=>L listed a W
 |f+1,listed,a,W=>Region.ready md ops listed≠[]/\∀i∈Region.ready md ops listed,∃o,ops[i]? =some o/\fZ P ops C o (mF P md ops C L f (listed.setIfInBounds i true)) a W
theorem g_{g:Nat}(hL:∀listed a W,L listed a W->wpAny P md ops Q g listed a W):∀(f:Nat) (listed:Array Bool) (a:Act) (W:World),mF P md ops C L f listed a W->wpAny P md ops Q (f+g) listed a W
 |0,listed,a,W,h=>by rw[Nat.zero_add];exact hL _ _ _ h
 |f+1,listed,a,W,h=>by
  rw[show f+1+g=(f+g)+1 by omega];refine⟨λh0=>absurd h0 h.1,λi hi=>?_⟩;obtain⟨o,ho,hs⟩:=h.2 i hi;unfold wpOp;simp only[ho];obtain⟨hw,hs⟩:=hs;rw[if_pos hw];refine .inl ?_;unfold Oper.wp;rcases hs with⟨v,W',e,-,hk⟩|⟨W',e,-,hk⟩|⟨k,args,e,hc⟩
  ·rw[e];exact g_ hL f _ _ _ hk
  ·rw[e];exact g_ hL f _ _ _ hk
  ·rw[e]
   exact hc.mono λe w' ⟨v,he,_,hk⟩=>by subst he;exact g_ hL f _ _ _ hk
theorem H_{l H:Array Bool}{i:Nat}(h0:l.getD i true=false)(e:l.setIfInBounds i true=H):l=H.setIfInBounds i false:=by
 subst e;apply Array.ext_getElem?;intro k;by_cases hk:i=k
 ·subst hk
  rcases Nat.lt_or_ge i l.size with hl|hl
  ·simp[Array.getD,hl] at h0
   simp[hl,h0]
  ·simp[Array.getD,Nat.not_lt.2 hl] at h0
 ·simp[hk]
def CG(md:Region.Mode)(ops:Array Oper)(listed:Array Bool):Prop:=∀(j:Nat) (oj:Oper),ops[j]? =some oj->listed.getD j false=true->∀e∈oj.after,Region.binds md e=true->listed.getD e.on false=true
theorem CG.set{i:Nat}{listed:Array Bool}(inv:CG md ops listed)(hi:i∈Region.ready md ops listed):CG md ops (listed.setIfInBounds i true):=by
 obtain⟨_,oi,hoi,hall⟩:=mem_ready.1 hi;intro j oj hj hl e he hb;by_cases hij:i=j
 ·subst hij
  have:oj=oi:=Option.some.inj (hj.symm.trans hoi);subst this;exact getD_set_true (hall e he hb)
 ·rw[getD_set_ne false hij] at hl
  exact getD_set_true (inv j oj hj hl e he hb)
def waits(md:Region.Mode)(ops:Array Oper)(H0:Array Bool)(i:Nat):Bool:=(List.range ops.size).any λj=>H0.getD j false&&(decide (j≠i)&&match ops[j]? with|some o=>o.after.any λe=>Region.binds md e&&decide (e.on=i)|none=>false)
theorem xH{H0:Array Bool}{i:Nat}(h:waits md ops H0 i=true):∃j o,ops[j]? =some o/\j≠i/\H0.getD j false=true/\∃e∈o.after,Region.binds md e=true/\e.on=i:=by
 unfold waits at h;obtain⟨j,-,hj⟩:=List.any_eq_true.1 h;simp only[Bool.and_eq_true,decide_eq_true_eq] at hj;obtain⟨h1,h2,h3⟩:=hj;cases ho:ops[j]? with
 |none=>rw[ho] at h3;cases h3
 |some o=>
  rw[ho] at h3;obtain⟨k,hk,he⟩:=Array.any_eq_true.1 h3;simp only[Bool.and_eq_true,decide_eq_true_eq] at he;exact⟨j,o,ho,h2,h1,o.after[k],Array.getElem_mem hk,he.1,he.2⟩
theorem kZ{i:Nat}{oi:Oper}{v:Value}{H0:Array Bool}(hi:ops[i]? =some oi)(hsel:∀(j:Nat) (o:Oper) cs b,ops[j]? =some o->o.op≠ .select cs b)
 (hH:waits md ops H0 i=true\/Region.ready md ops (H0.setIfInBounds i false)=[i]) (Xx:∀listed a W,L listed a W->listed=H0):
 ∀(f:Nat) (listed:Array Bool) (a:Act) (W:World),CG md ops listed->
  (∀j oj,ops[j]? =some oj->j≠i->listed.getD j true=false->(∀e∈oj.after,Region.binds md e=true->e.on≠i)->oi.apart ops oj=true)->
  i∈Region.ready md ops listed->fJ P ops C oi v a->C W->
  mF P md ops C L f (listed.setIfInBounds i true) (a.put oi.dst v) W->mF P md ops C L (f+1) listed a W:=by
 intro f
 induction f with
 |zero=>
  intro listed a W inv _ hr hy hC H;refine⟨λh=>(by rw[h] at hr;cases hr),λj hj=>?_⟩;by_cases hji:j=i
  ·subst hji;exact⟨oi,hi,hy.step hC H⟩
  ·rcases hH with hH|hH
   ·obtain⟨k,ok,hk,hki,hkl,e,he,hb,heq⟩:=xH hH
    rw[<-Xx _ _ _ H,getD_set_ne false (Ne.symm hki)] at hkl;have h1:=inv k ok hk hkl e he hb;rw[heq,getD_both (mem_ready.1 hr).1] at h1;cases h1
   ·have e:=H_ (mem_ready.1 hr).1 (Xx _ _ _ H)
    rw[e,hH] at hj;exact absurd (by simpa using hj) hji
 |succ f ih=>
  intro listed a W inv hfree hr hy hC H;refine⟨λh=>(by rw[h] at hr;cases hr),λj hj=>?_⟩;by_cases hji:j=i
  ·subst hji;exact⟨oi,hi,hy.step hC H⟩
  ·obtain⟨o',ho',h1⟩:=H.2 j (ready_mono hj hji)
   obtain⟨hjun,oj,hoj,hall⟩:=mem_ready.1 hj;obtain rfl:o'=oj:=Option.some.inj (ho'.symm.trans hoj);have hnot:∀e∈o'.after,Region.binds md e=true->e.on≠i:=λe he hb heq=>by
    have h1:=hall e he hb;have h0:=(mem_ready.1 hr).1;rw[heq,getD_both h0] at h1;cases h1
   have h2:=fZ.put (hfree j o' hoj hji hjun hnot) (λcs b=>hsel i oi cs b hi) (λcs b=>hsel j o' cs b hoj) hy h1;have hfree':∀k ok,ops[k]? =some ok->k≠i->(listed.setIfInBounds j true).getD k true=false->
    (∀e∈ok.after,Region.binds md e=true->e.on≠i)->oi.apart ops ok=true:=λk ok hk hki hun hno=>by
    refine hfree k ok hk hki ?_ hno;by_cases hjk:j=k
    ·subst hjk;exact hjun
    ·rw[getD_set_ne true hjk] at hun;exact hun
   refine⟨o',hoj,h2.mono λa' W' hC' h3=>ih _ a' W' (inv.set hj) hfree' (ready_mono hr (Ne.symm hji)) h3.1 hC' ?_⟩;rw[Array.setIfInBounds_comm _ _ hji];exact h3.2
def aZ(P:Program)(ops:Array Oper)(C:World->Prop)(K:Act->World->Prop):List (Bool×Nat)->Act->World->Prop
 |[],a,W=>K a W
 |(true,i)::r,a,W=>∃o v,ops[i]? =some o/\fJ P ops C o v a/\aZ P ops C K r (a.put o.dst v) W
 |(false,i)::r,a,W=>∃o,ops[i]? =some o/\fZ P ops C o (aZ P ops C K r) a W
def headB(md:Region.Mode)(ops:Array Oper)(H0:Array Bool):List (Bool×Nat)->Array Bool->Bool
 |[],listed=>decide (listed=H0)
 |(true,i)::r,listed=>(Region.ready md ops listed).contains i&&(Region.free md ops listed i&&((waits md ops H0 i||decide (Region.ready md ops (H0.setIfInBounds i false)=[i]))&&headB md ops H0 r (listed.setIfInBounds i true)))
 |(false,i)::r,listed=>decide (Region.ready md ops listed=[i])&&headB md ops H0 r (listed.setIfInBounds i true)
theorem eP{K:Act->World->Prop}{H0:Array Bool}(hsel:Region.noSelect ops=true):∀(s:List (Bool×Nat)) (listed:Array Bool) (a:Act) (W:World),CG md ops listed->headB md ops H0 s listed=true->C W->aZ P ops C K s a W->mF P md ops C (λl a W=>l=H0/\K a W) s.length listed a W
 |[],listed,a,W,inv,hB,hC,h=>⟨of_decide_eq_true hB,h⟩
 |(true,i)::r,listed,a,W,inv,hB,hC,h=>by
  simp only[headB,Bool.and_eq_true,Bool.or_eq_true,decide_eq_true_eq] at hB;obtain⟨hr,hf,hH,hB⟩:=hB;obtain⟨o,v,ho,hy,hk⟩:=h;have hr':i∈Region.ready md ops listed:=by simpa using hr
  exact kZ ho (Region.noSelect_spec hsel) hH (λ_ _ _ h=>h.1) _ _ a W inv (Region.free_spec ho hf) hr' hy hC (eP hsel r _ _ _ (inv.set hr') hB hC hk)
 |(false,i)::r,listed,a,W,inv,hB,hC,h=>by
  simp only[headB,Bool.and_eq_true,decide_eq_true_eq] at hB;obtain⟨hr,hB⟩:=hB;obtain⟨o,ho,hs⟩:=h;refine⟨λh=>(by rw[hr] at h;cases h),λj hj=>?_⟩;have hr':i∈Region.ready md ops listed:=by rw[hr];simp
  rw[hr] at hj;obtain rfl:j=i:=by simpa using hj
  exact⟨o,ho,hs.mono λa' W' hC' hk=>eP hsel r _ _ _ (inv.set hr') hB hC' hk⟩
def lC(n:Nat)(s:List (Bool×Nat)):Array Bool:=s.foldl (λl p=>l.setIfInBounds p.2 true) (Array.replicate n false)
theorem aI{id:Nat}{a:Act}{w:World}(s t:List (Bool×Nat))(C:World->Prop)(hm:P.follows .mixedOrders=true)(hs:Region.noSelect ops=true)(hl:s.length+t.length=ops.size)(hB:headB .any ops (lC ops.size s) s (Array.replicate ops.size false)=true)
 (hT:jE .any ops t (lC ops.size s)=true)
 (hC:C {w with drawn:=w.drawn+1}) (h:aZ P ops C (aS P ops (λ_=>True) Q t) s a {w with drawn:=w.drawn+1}):(Code.region id ops true).wp P Q a w:=by
 refine wp_region_any hm ?_;rw[<-hl];refine g_ (λlisted a W hh=>?_) _ _ _ _ (eP hs s _ a _ (λj oj _ hj=>by rw[getD_replicate_false] at hj;cases hj) (by rw[hl];exact hB) hC h);obtain⟨rfl,hk⟩:=hh;exact gY _ _ _ _ (fA hs t _ a W hT trivial hk)
theorem ay{K:Act->World->Prop}{i:Nat}{r:List (Bool×Nat)}{o:Oper}{a:Act}{W:World}(ho:ops[i]? =some o)(v:Value)(hw:Region.wanted o (yielded ops a.tmps)=true)(hr:∀W,C W->(execOp a.eval o).run P W=.ok (.value v) W)(h:aZ P ops C K r (a.put o.dst v) W):aZ P ops C K ((true,i)::r) a W:=
 ⟨o,v,ho,⟨hw,hr⟩,h⟩
theorem bI{K:Act->World->Prop}{i:Nat}{r:List (Bool×Nat)}{o:Oper}{a:Act}{W:World}(ho:ops[i]? =some o)(f:FuncId)(args:Array Value)(hw:Region.wanted o (yielded ops a.tmps)=true)(hr:(execOp a.eval o).run P W=.ok (.enter f args) W)
 (hc:Calls P f args W (λe w'=>∃v,e=.returned v/\C w'/\aZ P ops C K r (a.put o.dst v) w')):aZ P ops C K ((false,i)::r) a W:=
 ⟨o,ho,hw,.inr (.inr ⟨f,args,hr,hc⟩)⟩
theorem f_{o:Oper}{a:Act}{w w':World}{v':Value}(s x:Operand)(t tx:TypeId)(ho:o.op=.call {callee:=.builtin .append,args:= #[s,x],argTypes:= #[t,tx]})(v xv:Value)(hs:a.eval s=v)(hx:a.eval x=xv)
 (hr:(Builtin.append_ #[t,tx] o.type #[v,xv]).run P w=.ok v' w'):(execOp a.eval o).run P w=.ok (.value v') w':=by
 unfold execOp;simp only[ho,resolve,invoke,builtin,Sem.run_bind,Sem.run_pure,Result.andThen_ok,List.map_toArray,List.map_cons,List.map_nil,hs,hx,hr]
theorem dF{K:Act->World->Prop}{i:Nat}{r:List (Bool×Nat)}{o:Oper}{a:Act}{W:World}(ho:ops[i]? =some o)(v:Value)(W':World)(hw:Region.wanted o (yielded ops a.tmps)=true)(hr:(execOp a.eval o).run P W=.ok (.value v) W')(hC:C W')(h:aZ P ops C K r (a.put o.dst v) W'):aZ P ops C K ((false,i)::r) a W:=
 ⟨o,ho,hw,.inl ⟨v,W',hr,hC,h⟩⟩
end
end Go.Proofs.YtjpappkgdadhhaaGreatDoor
namespace Go.Proofs.YtjpappkgdadhhaaGreatDoor
open Go.Value (int slice)
open Go.IntKind (i64)
open Go.RowKit
theorem bD{w:World}{v:Value}{X:WV}(h:Wl w v X):∃p1 q1 p2 q2 p3 q3 p4 q4 p5 q5,v=.agg #[int i64 X.turn,int i64 X.next,int i64 X.wide,int i64 X.high,slice p1 X.gs.length q1,slice p2 X.os.length q2,slice p3 X.gold.length q3,slice p4 X.us.length q4,slice p5 X.qs.length q5]:=by
 obtain⟨u1,u2,u3,u4,u5,rfl,⟨p1,q1,rfl,-⟩,⟨p2,q2,rfl,-⟩,⟨p3,q3,rfl,-⟩,⟨p4,q4,rfl,-⟩,⟨p5,q5,rfl,-⟩⟩:=h;exact⟨_,_,_,_,_,_,_,_,_,_,rfl⟩
theorem oq{w:World}{X:WV}{u1 u2 u3 u4 u5:Value}(h:Wl w (.agg #[int i64 X.turn,int i64 X.next,int i64 X.wide,int i64 X.high,u1,u2,u3,u4,u5]) X):Fl w (.agg #[int i64 X.wide,int i64 X.high,u1,u2]) X.wide X.high X.gs X.os:=
 ⟨u1,u2,rfl,h.slices.1,h.slices.2.1⟩
end Go.Proofs.YtjpappkgdadhhaaGreatDoor
