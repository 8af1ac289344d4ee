/- Cells beside one another: plain mathematics. And more. -/
import Derived.Test.YtolfphmdmpehdaaGreatDoorZTopViews2
set_option linter.unusedVariables false
set_option linter.unusedSimpArgs false
set_option maxHeartbeats 16000000
set_option maxRecDepth 100000
open Go.Value (int slice)
open Go.IntKind (i64)
open Go.Obj (cells)
open Go.Proofs.Tryz
namespace Go.Proofs.YtolfphmdmpehdaaGreatDoor
namespace Fd
variable {H W a:Nat} {x:Int}
theorem lU:x∈near W H a↔(0<a/W/\x=(a:Int)-W)\/(0<a%W/\x=(a:Int)-1)\/(a%W+1<W/\x=(a:Int)+1)\/(a/W+1<H/\x=(a:Int)+W):=by
 unfold near;simp only[gJ];constructor
 ·rintro(h|h|h|h)
  ·split at h
   ·simp at h;left;exact⟨by assumption,h⟩
   ·simp at h
  ·split at h
   ·simp at h;right;left;exact⟨by assumption,h⟩
   ·simp at h
  ·split at h
   ·simp at h;right;right;left;exact⟨by assumption,h⟩
   ·simp at h
  ·split at h
   ·simp at h;right;right;right;exact⟨by assumption,h⟩
   ·simp at h
 ·rintro(⟨h,e⟩|⟨h,e⟩|⟨h,e⟩|⟨h,e⟩)
  ·left;rw[if_pos h,e];simp
  ·right;left;rw[if_pos h,e];simp
  ·right;right;left;rw[if_pos h,e];simp
  ·right;right;right;rw[if_pos h,e];simp
theorem uM(W H a:Nat):(near W H a).length<=4:=by
 unfold near;simp only[aC];have h:∀(c:Prop) [Decidable c] (x:Int),(if c then[x] else[]).length<=1:=by
  intro c _ x;split<;>simp
 have h1:=h (0<a/W) ((a:Int)-W);have h2:=h (0<a%W) ((a:Int)-1);have h3:=h (a%W+1<W) ((a:Int)+1);have h4:=h (a/W+1<H) ((a:Int)+W);omega
theorem rU(hW:0<W)(ha:a<W*H)(h:x∈near W H a):∃t:Nat,x=t/\t<W*H/\(a:Int)∈near W H t:=by
 have e:=Nat.div_add_mod a W;have hr:=Nat.div_lt_of_lt_mul ha;have hc:=Nat.mod_lt a hW;have key:∀r c:Nat,c<W->(W*r+c)/W=r/\(W*r+c)%W=c:=by
  intro r c h;constructor
  ·rw[Nat.mul_add_div hW,Nat.div_eq_of_lt h];omega
  ·rw[Nat.mul_add_mod,Nat.mod_eq_of_lt h]
 have bd:∀r c:Nat,r<H->c<W->W*r+c<W*H:=by
  intro r c h1 h2;have:=Nat.mul_le_mul_left W (show r+1<=H by omega);rw[Nat.mul_add,Nat.mul_one] at this;omega
 generalize a/W=r at *;generalize a%W=c at *;have ei:(a:Int)=(W:Int)*r+c:=by rw[<-e];simp
 have hh:=lU.1 h;have e1:=(key r c hc).1;have e2:=(key r c hc).2;rw[e] at e1 e2;rw[e1,e2] at hh;rcases hh with⟨h1,hx⟩|⟨h1,hx⟩|⟨h1,hx⟩|⟨h1,hx⟩
 ·obtain⟨r',rfl⟩:∃r',r=r'+1:=⟨r-1,by omega⟩
  have k:=key r' c hc;refine⟨W*r'+c,?_,bd r' c (by omega) hc,lU.2 ?_⟩
  ·rw[hx,ei];simp[Int.mul_add];omega
  ·rw[k.1,k.2]
   right;right;right;refine⟨hr,?_⟩;rw[ei];simp[Int.mul_add];omega
 ·obtain⟨c',rfl⟩:∃c',c=c'+1:=⟨c-1,by omega⟩
  have k:=key r c' (by omega);refine⟨W*r+c',?_,bd r c' hr (by omega),lU.2 ?_⟩
  ·rw[hx,ei];simp;omega
  ·rw[k.1,k.2]
   right;right;left;refine⟨hc,?_⟩;rw[ei];simp;omega
 ·have k:=key r (c+1) h1
  refine⟨W*r+(c+1),?_,bd r _ hr h1,lU.2 ?_⟩
  ·rw[hx,ei];simp;omega
  ·rw[k.1,k.2]
   right;left;refine⟨by omega,?_⟩;rw[ei];simp;omega
 ·have k:=key (r+1) c hc
  refine⟨W*(r+1)+c,?_,bd _ c h1 hc,lU.2 ?_⟩
  ·rw[hx,ei];simp[Int.mul_add];omega
  ·rw[k.1,k.2]
   left;refine⟨by omega,?_⟩;rw[ei];simp[Int.mul_add];omega
end Fd
namespace Wy
variable {a b i j k n t:Nat} {d s x y:Int} {l:List Int} {rest:List Nat}
inductive Way (nb:Nat->List Int) (st:Nat->Nat->Int) (t:Nat):Nat->Int->Prop
 |here:Way nb st t t 0
 |step {i j:Nat} {d:Int}:(j:Int)∈nb i->0<st i j->Way nb st t j d->Way nb st t i (st i j+d)
section
variable {nb:Nat->List Int} {st:Nat->Nat->Int} {t:Nat}
theorem Way.nonneg(h:Way nb st t i d):0<=d:=by
 induction h with
 |here=>omega
 |step _ h1 _ ih=>omega
def Least(nb:Nat->List Int)(st:Nat->Nat->Int)(t i:Nat)(x:Int):Prop:=
 (x= -1/\∀d,¬Way nb st t i d)\/(Way nb st t i x/\∀d,Way nb st t i d->x<=d)
theorem Least.uniq(hx:Least nb st t i x)(hy:Least nb st t i y):x=y:=by
 rcases hx with⟨rfl,hx⟩|⟨h1,h2⟩
 ·rcases hy with⟨rfl,_⟩|⟨h3,_⟩
  ·rfl
  ·exact absurd h3 (hx _)
 ·rcases hy with⟨rfl,hy⟩|⟨h3,h4⟩
  ·exact absurd h1 (hy _)
  ·have:=h2 _ h3
   have:=h4 _ h1;omega
theorem Least.ge(h:Least nb st t i x): -1<=x:=by
 rcases h with⟨rfl,_⟩|⟨h,_⟩
 ·omega
 ·have:=h.nonneg;omega
def dK(nb:Nat->List Int)(st:Nat->Nat->Int)(t n:Nat)(l:List Int):Prop:=l.length=n/\∀(i:Nat) x,l[i]? =some x->Least nb st t i x
theorem dK.uniq{m:List Int}(hl:dK nb st t n l)(hm:dK nb st t n m):l=m:=by
 apply List.ext_getElem?;intro i;by_cases h:i<n
 ·have h1:i<l.length:=by rw[hl.1];exact h
  have h2:i<m.length:=by rw[hm.1];exact h
  rw[aH h1,aH h2,(hl.2 i _ (aH h1)).uniq (hm.2 i _ (aH h2))]
 ·rw[List.getElem?_eq_none (by rw[hl.1];omega),List.getElem?_eq_none (by rw[hm.1];omega)]
def Sound(nb:Nat->List Int)(st:Nat->Nat->Int)(t:Nat)(l:List Int):Prop:=∀(i:Nat) x,l[i]? =some x->x= -1\/Way nb st t i x
def Shut(nb:Nat->List Int)(st:Nat->Nat->Int)(l:List Int)(i:Nat):Prop:=∀(j:Nat) x y,l[i]? =some x->l[j]? =some y->(j:Int)∈nb i->0<st i j->0<=y->0<=x/\x<=st i j+y
theorem FD(hn:l.length=n)(hnb:∀(i j:Nat),i<n->(j:Int)∈nb i->j<n)(ht:l[t]? =some 0)(hs:Sound nb st t l)(hc:∀i,i<n->Shut nb st l i):dK nb st t n l:=by
 have key:∀i d,Way nb st t i d->i<n->∃x,l[i]? =some x/\0<=x/\x<=d:=by
  intro i d h
  induction h with
  |here=>intro _;exact⟨0,ht,by omega,by omega⟩
  | @step i j d h1 h2 h3 ih=>
   intro hi;obtain⟨y,hy,y0,yd⟩:=ih (hnb i j hi h1);have hx:i<l.length:=by rw[hn];exact hi
   have:=hc i hi j _ y (aH hx) hy h1 h2 y0;exact⟨_,aH hx,this.1,by omega⟩
 refine⟨hn,λi x hx=>?_⟩;have hi:i<n:=by rw[<-hn];exact(aK.1 hx).1
 rcases hs i x hx with rfl|hw
 ·refine .inl ⟨rfl,λd hd=>?_⟩
  obtain⟨x,h1,h2,-⟩:=key i d hd hi;rw[hx] at h1;injection h1 with h1
  omega
 ·refine .inr ⟨hw,λd hd=>?_⟩
  obtain⟨y,h1,h2,h3⟩:=key i d hd hi;rw[hx] at h1;injection h1 with h1
  omega
theorem dK.sound(h:dK nb st t n l):Sound nb st t l:=λi x hx=>by
 rcases h.2 i x hx with⟨rfl,_⟩|⟨h,_⟩
 ·exact .inl rfl
 ·exact .inr h
theorem dK.shut(h:dK nb st t n l)(i:Nat):Shut nb st l i:=by
 intro j x y hx hy hj hs y0;rcases h.2 j y hy with⟨rfl,_⟩|⟨hy1,_⟩
 ·omega
 ·have hw:=Way.step hj hs hy1
  rcases h.2 i x hx with⟨rfl,hx1⟩|⟨hx1,hx2⟩
  ·exact absurd hw (hx1 _)
  ·exact⟨hx1.nonneg,hx2 _ hw⟩
theorem dK.here(h:dK nb st t n l)(ht:t<n):l[t]? =some 0:=by
 have hl:t<l.length:=by rw[h.1];exact ht
 have h1:=aH hl;rcases h.2 t _ h1 with⟨_,h2⟩|⟨h2,h3⟩
 ·exact absurd Way.here (h2 0)
 ·have:=h3 0 .here
  have:=h2.nonneg;rw[h1,show l[t]=0 by omega]
theorem dK.next(h:dK nb st t n l)(hnb:∀(i j:Nat),i<n->(j:Int)∈nb i->j<n)(hx:l[i]? =some x)(x0:0<=x)(hi:i≠t):
  ∃(j:Nat) (y:Int),(j:Int)∈nb i/\l[j]? =some y/\0<st i j/\0<=y/\x=st i j+y:=by
 have hin:i<n:=by rw[<-h.1];exact(aK.1 hx).1
 rcases h.2 i x hx with⟨rfl,_⟩|⟨hw,hl⟩
 ·omega
 ·cases hw with
  |here=>exact absurd rfl hi
  | @step _ j d h1 h2 h3=>
   have hj:j<l.length:=by rw[h.1];exact hnb i j hin h1
   have hy:=aH hj;refine⟨j,_,h1,hy,h2,?_,?_⟩
   ·rcases h.2 j _ hy with⟨_,h4⟩|⟨h4,_⟩
    ·exact absurd h3 (h4 _)
    ·exact h4.nonneg
   ·rcases h.2 j _ hy with⟨_,h4⟩|⟨h4,h5⟩
    ·exact absurd h3 (h4 _)
    ·have a1:=h5 _ h3
     have a2:=hl _ (Way.step h1 h2 h4);omega
theorem Sound.set(h:Sound nb st t l)(hy:l[j]? =some y)(hj:(j:Int)∈nb i)(hs:0<st i j)(y0:0<=y):Sound nb st t (l.set i (st i j+y)):=by
 intro k x hk;rw[kJ] at hk;by_cases e:i=k
 ·subst e
  by_cases hl:i<l.length
  ·simp only[hl,if_true] at hk
   injection hk with hk
   subst hk;rcases h j y hy with rfl|hw
   ·omega
   ·exact .inr (.step hj hs hw)
  ·simp[hl] at hk
 ·rw[if_neg e] at hk
  exact h k x hk
end
def left(M:Nat)(l:List Int):Nat:=(l.map λx=>if x<0 then M else x.toNat).sum
def told(l:List Int):Nat:=(l.map λx=>if x<0 then 0 else 1).sum
theorem yY(f:Int->Nat)(l:List Int)(i:Nat)(x v:Int)(h:l[i]? =some x):((l.set i v).map f).sum+f x=(l.map f).sum+f v:=by
 induction l generalizing i with
 |nil=>simp at h
 |cons a l ih=>
  cases i with
  |zero=>
   simp at h;subst h;simp;omega
  |succ i=>
   simp at h;have:=ih i h;simp only[List.set_cons_succ,List.map_cons,List.sum_cons];omega
theorem left_le(M:Nat)(l:List Int)(h:∀x∈l,x<=M):left M l<=l.length*M:=by
 unfold left
 induction l with
 |nil=>simp
 |cons a l ih=>
  have h1:=ih (λx hx=>h x (List.mem_cons_of_mem _ hx));have h2:=h a (List.mem_cons_self ..);simp only[List.map_cons,List.sum_cons,dI,Nat.add_mul,Nat.one_mul];split<;>omega
theorem yZ(l:List Int):told l<=l.length:=by
 unfold told
 induction l with
 |nil=>simp
 |cons a l ih=>
  simp only[List.map_cons,List.sum_cons,dI];split<;>omega
def Flat(l:List Int):Prop:=∀(i:Nat) x,l[i]? =some x->x<0\/x+2<=2*told l
theorem Flat.set(h:Flat l)(hx:l[i]? =some x)(hy:l[j]? =some y)(y0:0<=y)(s0:0<s)(s2:s<=2)(hn:x<0\/s+y<x):Flat (l.set i (s+y)):=by
 have e:=yY (λx=>if x<0 then 0 else 1) l i x (s+y) hx;have ht:told (l.set i (s+y))+(if x<0 then 0 else 1)=told l+1:=by
  unfold told;rw[e,if_neg (show ¬s+y<0 by omega)]
 have hyl:=h j y hy;have hxl:=h i x hx;intro k z hk;rw[kJ] at hk;by_cases ek:i=k
 ·subst ek
  have hl:=(aK.1 hx).1;simp only[hl,if_true] at hk;injection hk with hk
  subst hk;right;by_cases q:x<0
  ·rw[if_pos q] at ht;omega
  ·rw[if_neg q] at ht;omega
 ·rw[if_neg ek] at hk
  have hz:=h k z hk;by_cases q:x<0
  ·rw[if_pos q] at ht;omega
  ·rw[if_neg q] at ht;omega
theorem QG(h:Flat l)(hl:l.length=n)(hx:l[i]? =some x)(hy:l[j]? =some y)(y0:0<=y)(s0:0<s)(s2:s<=2)(hn:x<0\/s+y<x):left (2*n+1) (l.set i (s+y))<left (2*n+1) l:=by
 have e:=yY (λx=>if x<0 then 2*n+1 else x.toNat) l i x (s+y) hx;have hyl:=h j y hy;have ht:=yZ l;unfold left;rw[if_neg (show ¬s+y<0 by omega)] at e;by_cases q:x<0
 ·rw[if_pos q] at e;omega
 ·rw[if_neg q] at e;omega
section
variable {nb:Nat->List Int} {st:Nat->Nat->Int} {t n:Nat}
def Pr(nb:Nat->List Int)(st:Nat->Nat->Int)(l:List Int)(i j:Nat):Prop:=∀x y,l[i]? =some x->l[j]? =some y->(j:Int)∈nb i->0<st i j->0<=y->0<=x/\x<=st i j+y
structure Even(nb:Nat->List Int)(st:Nat->Nat->Int)(n:Nat):Prop where
 cell:∀(i:Nat) x,i<n->x∈nb i->∃j:Nat,x=j/\j<n/\(i:Int)∈nb j
 other:∀(i:Nat),i<n->(i:Int)∉nb i
 two:∀i j,st i j<=2
theorem Even.lt(h:Even nb st n):∀(i j:Nat),i<n->(j:Int)∈nb i->j<n:=λi j hi hj=>by
 obtain⟨k,e,hk,-⟩:=h.cell i j hi hj;have:j=k:=by omega
 omega
theorem Even.back(h:Even nb st n)(hi:i<n)(hj:(j:Int)∈nb i):(i:Int)∈nb j:=by
 obtain⟨k,e,hk,hb⟩:=h.cell i j hi hj;have:j=k:=by omega
 rw[this];exact hb
structure Wk(nb:Nat->List Int)(st:Nat->Nat->Int)(t n:Nat)(l:List Int)(td:List Nat):Prop where
 len:l.length=n
 here:l[t]? =some 0
 sound:Sound nb st t l
 flat:Flat l
 todo:∀j∈td,∃y,l[j]? =some y/\0<=y
 shut:∀i j,j∉td->Pr nb st l i j
structure wS(nb:Nat->List Int)(st:Nat->Nat->Int)(t n:Nat)(l:List Int)(a:Nat)(rest:List Nat)(k:Nat):Prop where
 wk:Wk nb st t n l (a::rest)
 mid:∀(q i:Nat),q<k->(nb a)[q]? =some (i:Int)->Pr nb st l i a
theorem Wk.start(ht:t<n):Wk nb st t n ((List.replicate n (-1)).set t 0) [t]:=by
 have get:∀(i:Nat) x,((List.replicate n (-1:Int)).set t 0)[i]? =some x->(i=t/\x=0)\/(i≠t/\x= -1):=by
  intro i x hx;rw[kJ] at hx;by_cases e:t=i
  ·subst e
   rw[if_pos rfl,jB,if_pos ht] at hx;injection hx with hx
   exact .inl ⟨rfl,hx.symm⟩
  ·rw[if_neg e,oZ] at hx
   split at hx
   ·injection hx with hx
    exact .inr ⟨λh=>e h.symm,hx.symm⟩
   ·cases hx
 have h0:((List.replicate n (-1:Int)).set t 0)[t]? =some 0:=by
  rw[kJ,if_pos rfl,jB,if_pos ht]
 refine⟨by simp,h0,λi x hx=>?_,λi x hx=>?_,λj hj=>?_,λi j hj x y hx hy=>?_⟩
 ·rcases get i x hx with⟨rfl,rfl⟩|⟨_,rfl⟩
  ·exact .inr .here
  ·exact .inl rfl
 ·rcases get i x hx with⟨rfl,rfl⟩|⟨_,rfl⟩
  ·right
   have e:=yY (λx=>if x<0 then 0 else 1) (List.replicate n (-1)) i (-1) 0 (by rw[oZ,if_pos ht]);have:told ((List.replicate n (-1)).set i 0)=((List.replicate n (-1:Int)).map λx=>if x<0 then 0 else 1).sum+1:=by
    unfold told;simpa using e
   omega
  ·left;omega
 ·simp at hj
  subst hj;exact⟨0,h0,by omega⟩
 ·intro _ _ y0
  rcases get j y hy with⟨rfl,rfl⟩|⟨_,rfl⟩
  ·simp at hj
  ·omega
theorem FH(ht:t<n)(hn:n<=144):left (2*n+1) ((List.replicate n (-1)).set t 0)<=41616:=by
 refine aJ (left_le _ _ λx hx=>?_) ?_
 ·rcases List.mem_or_eq_of_mem_set hx with h|h
  ·rw[List.eq_of_mem_replicate h];omega
  ·omega
 ·rw[jA,jB]
  exact o_ hn (show 2*n+1<=289 by omega)
theorem wS.skip(h:wS nb st t n l a rest k)(hb:(nb a)[k]? =some (b:Int))(hx:l[b]? =some x)(hy:l[a]? =some y)(hs:0<st b a->0<=x/\x<=st b a+y):wS nb st t n l a rest (k+1):=by
 refine⟨h.wk,λq i hq hi=>?_⟩;by_cases e:q=k
 ·subst e
  rw[hb] at hi;injection hi with hi
  have:b=i:=by omega
  subst this;intro x' y' hx' hy' _ h0 _;rw[hx] at hx';rw[hy] at hy';injection hx' with hx'
  injection hy' with hy'
  subst hx';subst hy';exact hs h0
 ·exact h.mid q i (by omega) hi
theorem wS.set(E:Even nb st n)(h:wS nb st t n l a rest k)(hb:(nb a)[k]? =some (b:Int))(hx:l[b]? =some x)(hy:l[a]? =some y)(h0:0<st b a)(hn:x<0\/st b a+y<x):
  wS nb st t n (l.set b (st b a+y)) a (rest++[b]) (k+1)/\left (2*n+1) (l.set b (st b a+y))<left (2*n+1) l:=by
 have an:a<n:=by rw[<-h.wk.len];exact(aK.1 hy).1
 have bn:=(aK.1 hx).1;have hm:=aT hb;have hm':=E.back an hm;have hab:b≠a:=by
  rintro rfl;exact E.other b an hm
 obtain⟨y1,hy1,y0⟩:=h.wk.todo a (List.mem_cons_self ..);rw[hy] at hy1;injection hy1 with hy1
 subst hy1;have hbt:b≠t:=by
  rintro rfl;rw[h.wk.here] at hx;injection hx with hx
  omega
 have get:∀(i:Nat) z,(l.set b (st b a+y))[i]? =some z->(i=b/\z=st b a+y)\/(i≠b/\l[i]? =some z):=by
  intro i z hz;rw[kJ] at hz;by_cases e:b=i
  ·subst e
   rw[if_pos rfl,if_pos bn] at hz;injection hz with hz
   exact .inl ⟨rfl,hz.symm⟩
  ·rw[if_neg e] at hz
   exact .inr ⟨λh=>e h.symm,hz⟩
 have keep:∀(i:Nat),i≠b->(l.set b (st b a+y))[i]? =l[i]? :=by
  intro i hi;rw[kJ,if_neg (λh=>hi h.symm)]
 refine⟨⟨⟨by simp[h.wk.len],?_,h.wk.sound.set hy hm' h0 y0,h.wk.flat.set hx hy y0 h0 (E.two _ _) hn,λj hj=>?_,λi j hj=>?_⟩,λq i hq hi=>?_⟩,QG h.wk.flat h.wk.len hx hy y0 h0 (E.two _ _) hn⟩
 ·rw[keep t (λh=>hbt h.symm)]
  exact h.wk.here
 ·by_cases e:j=b
  ·subst e
   exact⟨st j a+y,by rw[kJ,if_pos rfl,if_pos bn],by omega⟩
  ·rw[keep j e]
   refine h.wk.todo j ?_;simp only[bP,gJ,List.not_mem_nil,or_false] at hj ⊢;rcases hj with hj|hj|hj
   ·exact .inl hj
   ·exact .inr hj
   ·exact absurd hj e
 ·have hj1:j∉a::rest:=by
   simp only[bP,gJ,List.not_mem_nil,or_false,not_or] at hj ⊢;exact⟨hj.1,hj.2.1⟩
  have hj2:j≠b:=by
   simp only[bP,gJ,List.not_mem_nil,or_false,not_or] at hj;exact hj.2.2
  have P:=h.wk.shut i j hj1;intro x' y' hx' hy' hn' h0' y0';rw[keep j hj2] at hy';rcases get i x' hx' with⟨rfl,rfl⟩|⟨_,hx1⟩
  ·have:=P x y' hx hy' hn' h0' y0'
   omega
  ·exact P x' y' hx1 hy' hn' h0' y0'
 ·intro x' y' hx' hy' hn' h0' y0'
  rw[keep a (λh=>hab h.symm),hy] at hy';injection hy' with hy'
  subst hy';rcases get i x' hx' with⟨rfl,rfl⟩|⟨ib,hx1⟩
  ·omega
  ·have hq':q<k:=by
    rcases Nat.lt_or_ge q k with h|h
    ·exact h
    ·have:q=k:=by omega
     subst this;rw[hb] at hi;injection hi with hi
     exact absurd (by omega) ib
   exact h.mid q i hq' hi x' y hx1 hy hn' h0' y0'
theorem wS.done(E:Even nb st n)(h:wS nb st t n l a rest (nb a).length):Wk nb st t n l rest:=by
 refine⟨h.wk.len,h.wk.here,h.wk.sound,h.wk.flat,λj hj=>h.wk.todo j (List.mem_cons_of_mem _ hj),λi j hj=>?_⟩;by_cases e:j=a
 ·subst e
  intro x y hx hy hn h0 y0;have hi:i<n:=by rw[<-h.wk.len];exact(aK.1 hx).1
  obtain⟨q,hq⟩:=List.mem_iff_getElem?.1 (E.back hi hn);exact h.mid q i (aK.1 hq).1 hq x y hx hy hn h0 y0
 ·exact h.wk.shut i j (by simp[e,hj])
theorem Wk.far(E:Even nb st n)(h:Wk nb st t n l []):dK nb st t n l:=FD h.len E.lt h.here h.sound λi hi j=>h.shut i j (by simp)
end
theorem Way.snoc{nb:Nat->List Int}{s:Nat->Int}(h:Way nb (λ_ j=>s j) j a d)(hi:(i:Int)∈nb j)(h0:0<s i):Way nb (λ_ j=>s j) i a (d+s i):=by
 induction h with
 |here=>
  have:=Way.step (st:=λ_ j=>s j) hi h0 .here;rwa[show s i+0=0+s i by omega] at this
 | @step p q d h1 h2 h3 ih=>
  have:=Way.step (st:=λ_ j=>s j) h1 h2 ih;rwa[show s q+(d+s i)=s q+d+s i by omega] at this
theorem Way.aa7{nb:Nat->List Int}{s:Nat->Int}(h:Way nb (λi _=>s i) j a d)(hi:(i:Int)∈nb j)(h0:0<s j):Way nb (λi _=>s i) i a (d+s j):=by
 induction h with
 |here=>
  have:=Way.step (st:=λi _=>s i) hi h0 .here;rwa[show s j+0=0+s j by omega] at this
 | @step p q d h1 h2 h3 ih=>
  have:=Way.step (st:=λi _=>s i) h1 h2 ih;rwa[show s p+(d+s j)=s p+d+s j by omega] at this
theorem Way.turn{nb:Nat->List Int}{s:Nat->Int}(E:Even nb (λ_ j=>s j) n)(h:Way nb (λi _=>s i) t i d)(hi:i<n):Way nb (λ_ j=>s j) i t d:=by
 induction h with
 |here=>exact .here
 | @step i j d h1 h2 h3 ih=>
  have:=(ih (E.lt _ _ hi h1)).snoc (E.back hi h1) h2;rwa[show d+s i=s i+d by omega] at this
theorem Way.turn'{nb:Nat->List Int}{s:Nat->Int}(E:Even nb (λ_ j=>s j) n)(h:Way nb (λ_ j=>s j) t i d)(hi:i<n):Way nb (λi _=>s i) i t d:=by
 induction h with
 |here=>exact .here
 | @step i j d h1 h2 h3 ih=>
  have:=(ih (E.lt _ _ hi h1)).aa7 (E.back hi h1) h2;rwa[show d+s j=s j+d by omega] at this
theorem Least.turn{nb:Nat->List Int}{s:Nat->Int}(E:Even nb (λ_ j=>s j) n)(h:Least nb (λi _=>s i) t i x)(hi:i<n)(ht:t<n):Least nb (λ_ j=>s j) i t x:=by
 rcases h with⟨rfl,h⟩|⟨h1,h2⟩
 ·exact .inl ⟨rfl,λd hd=>h d (hd.turn' E ht)⟩
 ·exact .inr ⟨h1.turn E hi,λd hd=>h2 d (hd.turn' E ht)⟩
theorem xQ{W H:Nat}(hW:0<W){st:Nat->Nat->Int}(h2:∀i j,st i j<=2):Even (Fd.near W H) st (W*H):=by
 refine⟨λi x hi hx=>?_,λi hi hx=>?_,h2⟩
 ·obtain⟨t,h1,h3,h4⟩:=Fd.rU hW hi hx
  exact⟨t,h1,h3,h4⟩
 ·have:=Fd.lU.1 hx
  omega
end Wy
section
open Go.RowKit Wy
variable {w:World}
def Jz(w:World)(b M:Nat):Nat:=match w.heap[b]? with
 |some (.cells cs _ _)=>left M (cs.toList.map intOf)
 |_=>0
theorem Bk.left{b:Nat}{l:List Int}(h:Bk w b l #[])(M:Nat):Jz w b M=Wy.left M l:=by
 unfold Bk at h;unfold Jz;rw[h];simp[intCells,intOf,Function.comp_def]
def FM:Value->Nat
 |slice _ n _=>n
 |_=>0
theorem Qu.FM{base:Nat}{v:Value}{xs:List Int}(h:Qu w base v xs):FM v=xs.length:=by
 obtain⟨g,off,cap,cur,h1,-⟩:=h;rw[h1];rfl
theorem Cc{z:Nat}(d:Value)(hz:w.heap.size=z):(w.alloc (cells #[d] 3)).cell? ⟨z,0,none⟩=some d:=by
 subst hz;simp
def ints(td:List Nat):List Int:=td.map Int.ofNat
theorem nT(td:List Nat):(ints td).length=td.length:=by simp[ints]
theorem xR(K:Nat)(eK:∀args w,(callFunc K args).run prog w=.ok (.enter K args) w)(q v:Value)(n t:Nat)(nb:Nat->List Int)(ss:List Int)(st:Nat->Nat->Int)(w:World)(h:Ld w v n nb ss)(E:Even nb st n)(ht:t<n)(hn:n<=144)(h4:∀i,(nb i).length<=4)
  (hon:∀w' (i j:Nat),i<n->j<n->Below w.heap.size w w'->Calls prog K #[int i64 (i:Nat),int i64 (j:Nat),q] w' λe w''=>e=.returned (int i64 (st j i))/\w''=w'):
  Calls prog 275 #[v,int i64 (t:Nat),.func (Fn.func K) #[] #[q]] w λe w'=>∃b l,e=.returned (slice (some ⟨b,0,none⟩) n n)/\w.heap.size<=b/\Bk w' b l #[]/\(dK nb st t n l/\Flat l)/\Below w.heap.size w w':=by
 obtain⟨u1,u2,rfl,⟨x,c,rfl,c1,c2,hx⟩,⟨a2,d,rfl,d1,d2,ca⟩,hl⟩:=h;rw[hl] at d1 ⊢;have Hx:=aj (hx);have Ho:=aj (hon);have H4:=aj (h4);have E0:=aj (E);clear hx ca hon h4 E hl;go_enter func275,ntmps275;go_wp2_with fail
 refine(xP _ _ n _ (Ro.EX _ (by simp)) (by omega) hn).mono ?_;rintro e w1 ⟨b,rfl,hbz,hbk,hbel⟩;have bz:Hid (w.heap.size+2<=b):=by unfold Hid;simpa using hbz
 have B1:=aj ((aA.alloc (by simp) _).trans (hbel.mono (by simp;omega)));have X1:=aj (((Bl.mk' (w:=w) (slice (some x) n c) (slice a2 n d) rfl).below (aB.alloc aN (cells #[Value.int IntKind.i64 (-1)] 3)) (by simp)).below hbel (by simp;omega));have K1:=aj (hbk);have ct:=hbk.cell (i:=t) (d:= -1) (by rw[oZ,if_pos ht]);have ft:=hbk.thaw t;clear hbz hbk hbel;have k12:=Kp.set (z:=b) w1 t (int i64 0);have K2:=aj (K1.set t 0 (by simp;exact ht));have X2:=aj (X1.kp k12 (by have:=bz.out;omega));have B2:=aj (k12.below B1 B1.size (by have:=bz.out;omega));have Z2:Hid ((w1.setCell ⟨b,t,none⟩ (int i64 0)).heap.size=w1.heap.size):=by unfold Hid;simp
 have bB:=aj (K1.lt);clear k12 K1 X1 B1;go_wp2_with fail
 generalize w1.setCell _ _=w2 at *;clear ct ft;obtain⟨B,hB⟩:∃B,w1.heap.size=B:=⟨_,rfl⟩;rw[hB] at bB Z2 ⊢;have Q3:Hid (Qu (w2.alloc (cells #[int i64 (t:Nat)] 3)) B (slice (some ⟨B,0,none⟩) 1 1) (ints [t])):=Qu.one (w:=w2) (t:Nat) (by rw[Z2.out];exact aU _) Z2;have b23:Below _ w2 (w2.alloc (cells #[int i64 (t:Nat)] 3)):=aA;have K3:=aj (K2.below b23);have X3:=aj (X2.below b23 X2.lt);have B3:=aG B2 b23;have S3:Hid (B<=(w2.alloc (cells #[int i64 (t:Nat)] 3)).heap.size):=by
  have:=b23.size;rw[Z2.out] at this;exact this
 generalize w2.alloc _=w3 at *;clear K2 X2 B2 Z2 b23 hB;go_loopw [8] (λv W'=>∃l td,Qu W' B v (ints td)/\Bk W' b l #[]/\Wk nb st t n l td/\Bl W' w.heap.size (slice (some x) n c) (slice a2 n d)/\Below w.heap.size w W'/\B<=W'.heap.size/\2*left (2*n+1) l+td.length<=100000) (λv W'=>2*Jz W' b (2*n+1)+FM v)
 case atStart=>exact⟨_,[t],Q3,K3,Wk.start ht,X3,B3,S3,by have:=FH ht hn;simp only[dI,aS];omega⟩
 case round=>
  obtain⟨l,td,hq,hk,hw,hxx,hb,hsz,hmx⟩:=hrel;clear Q3 K3 X3 B3 S3;have Kb:=aj (hk);have Ww:=aj (hw);have X:=aj (hxx);have Bw:=aj (hb);have Sz:=aj (hsz);clear hk hw hxx hb hsz;cases td with
  |nil=>
   obtain⟨g,off,cap,cur,rfl,-,-,-⟩:=hq;go_wp2;go_ret;exact⟨b,l,rfl,by have:=bz.out;omega,Kb,⟨Ww.far E0,Ww.flat⟩,Bw⟩
  |cons a rest=>
   have Q:=aj (hq);have an:a<n:=by
    obtain⟨y,hy,-⟩:=Ww.todo a (List.mem_cons_self ..);have:=(aK.1 hy).1;rw[Ww.out.len] at this;exact this
   obtain⟨m0,hm0⟩:∃m0,2*Jz wr b (2*n+1)+FM u8=m0:=⟨_,rfl⟩;have M0:=aj (hm0);have ML:Hid (2*left (2*n+1) l+rest.length+1<=m0):=by
    unfold Hid;rw[<-hm0,Kb.out.left,hq.FM,nT];simp only[dI];omega
   have m9:m0<=100000:=by
    rw[<-hm0,Kb.out.left,hq.FM,nT];exact hmx
   clear hm0 hmx;obtain⟨g,off,cap,hu8,o1,o2,hc⟩:=Qu.first (x:=(a:Int)) (xs:=ints rest) hq;subst hu8;clear hq;obtain⟨u,hu,hr⟩:=Hx a an;have hu':wr.cell? (x.add a)=some u:=by rw[Bw.out.cell (p:=x.add a) (by have:=cell_lt hu;rw[add_block] at this ⊢;exact this)];exact hu
   have Hr0:=aj (hr);obtain⟨a3,c3,rfl,e1,e2,-⟩:=hr;have L4:=H4 a;have x0:=X.c0;clear hu;go_wp2_with fail
   clear hc x0 hu' o1 o2 ht;go_loopw [8,37] (λv i W'=>∃l rest k,i=int i64 (k:Nat)/\k<=(nb a).length/\Qu W' B v (ints (a::rest))/\Bk W' b l #[]/\wS nb st t n l a rest k/\Bl W' w.heap.size (slice (some x) n c) (slice a2 n d)/\Below w.heap.size w W'/\B<=W'.heap.size/\2*left (2*n+1) l+rest.length+1<=m0) (λ_ i _=>(nb a).length-(intOf i).toNat)
   case atStart=>exact⟨l,rest,0,rfl,aZ _,Q,Kb,⟨Ww,λq i hq=>absurd hq (Nat.not_lt_zero _)⟩,X,Bw,Sz,ML⟩
   case round=>
    clear Q Kb Ww X ML;obtain⟨l,rest,k,rfl,hk,hq,hkb,hwi,hx,hb,hsz,hml⟩:=hrel;have Q:=aj (hq);have Kb:=aj (hkb);have wS:=aj (hwi);have X:=aj (hx);have FN:=aj (hb);have WY:=aj (hsz);have ML:=aj (hml);clear hkb hwi hx hb hsz hml;by_cases h0:k=(nb a).length
    ·have uK:Hid (Wk nb st t n l rest):=by
      have:=wS.out;rw[h0] at this;exact this.done E0
     subst h0;obtain⟨v',qv,sv⟩:=Qu.rest (x:=(a:Int)) (xs:=ints rest) Q;have Q':=aj (qv);clear qv hq Q wS;go_wp2;go_round
     case rel=>exact⟨l,rest,Q',Kb,uK,X,FN,WY,by have:=ML.out;omega⟩
     case measure=>
      rw[Kb.out.left,Q'.out.FM,nT];have:=ML.out;have:=M0.out;omega
    ·have hkl:k<(nb a).length:=by omega
     obtain⟨j,hj,jn,-⟩:=E0.cell a _ an (kG hkl);have Hj:Hid ((nb a)[k]? =some (j:Int)):=by unfold Hid;rw[aH hkl,hj]
     clear hj;obtain⟨a4,c4,e4,-,-,ca⟩:=Hr0.below FN;injection e4 with e5 e6 e7
     subst e5;obtain⟨y,rfl,-,hy⟩:=ca (by intro h;rw[h] at hkl;simp at hkl);have cj:=hy k _ Hj;clear hy e6 e7 ca hq;have l2:=E0.two j a;obtain⟨yv,hyv,y0⟩:=wS.wk.todo a (List.mem_cons_self ..);have ll:=wS.wk.len;obtain⟨xv,hxv⟩:∃xv,l[j]? =some xv:=⟨l[j]'(by rw[ll];exact jn),aH _⟩;have tl:=yZ l;have fx:=wS.wk.flat j xv hxv;have fy:=wS.wk.flat a yv hyv;have xb:xv<=288:=by omega
     have yb:yv<=288:=by omega
     have xm: -1<=xv:=by
      rcases wS.wk.sound j xv hxv with h|h
      ·omega
      ·have:=h.nonneg;omega
     have cx:=Kb.cell hxv;have cy:=Kb.cell hyv;have fz:=Kb.thaw j;clear tl fx fy ll;go_wp2_with fail
     refine(Ho wr a j an jn FN).mono ?_;rintro e w' ⟨rfl,rfl⟩;obtain⟨m,hm⟩:∃m,st j a=m:=⟨_,rfl⟩;have HD:=aj (hm);rw[hm] at l2 ⊢;clear hm;by_cases h1:0<m
     ·by_cases h2:xv<0
      ·have HS:=wS.set E0 Hj hxv hyv (by rw[HD.out];exact h1) (.inl h2)
       rw[HD.out,Int.add_comm m yv] at HS;have HT:=aj (HS);clear HS HD;go_wp2;go_quiet (fail);have kq:Below w'.heap.size w' (w'.drewN nq):=_root_.Go.below_drewN aB _;have K5:=aj (Kb.below kq);have Q5:=aj (Q.below kq);have X5:=aj (X.below kq X.lt);have B5:=aj (FN.trans (kq.mono FN.size));have S5:=aj (aJ WY kq.size);generalize w'.drewN nq=w5 at *;clear Kb Q X FN WY kq cx cy fz cj;have cx:=K5.cell hxv;have cy:=K5.cell hyv;have fz:=K5.thaw j;have k6:=Kp.set (z:=b) w5 j (int i64 (yv+m));have K6:=aj (K5.set j (yv+m) (aK.1 hxv).1);have Q6:=aj (Q5.kp k6 bB);have X6:=aj (X5.kp k6 (by have:=bz.out;omega));have B6:=aj (k6.below B5 B5.size (by have:=bz.out;omega));have S6:=aj (aJ S5 k6.size);clear k6 K5 Q5 X5 B5 S5 hxv hyv;have RL:Hid ((ints (a::rest)).length<=1000000):=by
        unfold Hid;rw[nT];simp only[dI];have:=ML.out;omega
       have Sb:Hid (b<B/\w.heap.size<B):=by
        have:=bz.out;have:=bB.out;exact⟨by omega,by omega⟩
       have Ba:Hid (Below _ _ ((w5.setCell ⟨b,j,none⟩ (int i64 (yv+m))).alloc (cells #[int i64 (j:Nat)] 3))):=aA;have Cd:Hid (((w5.setCell _ _).alloc _).cell? _=some (int i64 (j:Nat))):=Cc (w:=w5.setCell ⟨b,j,none⟩ (int i64 (yv+m))) _ (World.size_setCell _ _ _);go_wp2_with (at_builtin;refine YO _ rfl _ _ rfl B _ (ints (a::rest)) rfl (Q6.below Ba) ⟨w5.heap.size,0,none⟩ (j:Nat) rfl Cd RL (aJ S6 Ba.size) ?_);intro v7 w7 q7 b7;have ba:=Ba.out;have Q7:Hid (Qu w7 B v7 (ints (a::(rest++[j])))):=by
        have e:ints (a::(rest++[j]))=ints (a::rest)++[(j:Int)]:=by simp[ints]
        unfold Hid;rw[e];exact q7
       have K7:=aj ((K6.below ba).low b7 Sb.1);have X7:=aj ((X6.below ba X6.lt).below b7 Sb.2);have B7:=aj ((B6.trans (ba.mono B6.size)).trans (b7.mono (Nat.le_of_lt Sb.2)));have S7:=aj (aJ (aJ S6 ba.size) b7.size);clear q7 b7 ba Ba Cd K6 Q6 X6 B6 S6 cx cy fz;go_wp2;go_round
       case rel=>exact⟨l.set j _,rest++[j],k+1,by go_num,by omega,Q7,K7,HT.1,X7,B7,S7,by have:=HT.out.2;have:=ML.out;simp only[aC,dI,aS];omega⟩
       case measure=>simp[intOf];omega
      ·have h2':=decide_eq_false h2
       by_cases h3:yv+m<xv
       ·have HS:=wS.set E0 Hj hxv hyv (by rw[HD.out];exact h1) (.inr (by rw[HD.out];omega))
        rw[HD.out,Int.add_comm m yv] at HS;have HT:=aj (HS);clear HS HD;go_wp2;go_quiet (fail);have kq:Below w'.heap.size w' (w'.drewN nq):=_root_.Go.below_drewN aB _;have K5:=aj (Kb.below kq);have Q5:=aj (Q.below kq);have X5:=aj (X.below kq X.lt);have B5:=aj (FN.trans (kq.mono FN.size));have S5:=aj (aJ WY kq.size);generalize w'.drewN nq=w5 at *;clear Kb Q X FN WY kq cx cy fz cj;have cx:=K5.cell hxv;have cy:=K5.cell hyv;have fz:=K5.thaw j;have k6:=Kp.set (z:=b) w5 j (int i64 (yv+m));have K6:=aj (K5.set j (yv+m) (aK.1 hxv).1);have Q6:=aj (Q5.kp k6 bB);have X6:=aj (X5.kp k6 (by have:=bz.out;omega));have B6:=aj (k6.below B5 B5.size (by have:=bz.out;omega));have S6:=aj (aJ S5 k6.size);clear k6 K5 Q5 X5 B5 S5 hxv hyv;have RL:Hid ((ints (a::rest)).length<=1000000):=by
         unfold Hid;rw[nT];simp only[dI];have:=ML.out;omega
        have Sb:Hid (b<B/\w.heap.size<B):=by
         have:=bz.out;have:=bB.out;exact⟨by omega,by omega⟩
        have Ba:Hid (Below _ _ ((w5.setCell ⟨b,j,none⟩ (int i64 (yv+m))).alloc (cells #[int i64 (j:Nat)] 3))):=aA;have Cd:Hid (((w5.setCell _ _).alloc _).cell? _=some (int i64 (j:Nat))):=Cc (w:=w5.setCell ⟨b,j,none⟩ (int i64 (yv+m))) _ (World.size_setCell _ _ _);go_wp2_with (at_builtin;refine YO _ rfl _ _ rfl B _ (ints (a::rest)) rfl (Q6.below Ba) ⟨w5.heap.size,0,none⟩ (j:Nat) rfl Cd RL (aJ S6 Ba.size) ?_);intro v7 w7 q7 b7;have ba:=Ba.out;have Q7:Hid (Qu w7 B v7 (ints (a::(rest++[j])))):=by
         have e:ints (a::(rest++[j]))=ints (a::rest)++[(j:Int)]:=by simp[ints]
         unfold Hid;rw[e];exact q7
        have K7:=aj ((K6.below ba).low b7 Sb.1);have X7:=aj ((X6.below ba X6.lt).below b7 Sb.2);have B7:=aj ((B6.trans (ba.mono B6.size)).trans (b7.mono (Nat.le_of_lt Sb.2)));have S7:=aj (aJ (aJ S6 ba.size) b7.size);clear q7 b7 ba Ba Cd K6 Q6 X6 B6 S6 cx cy fz;go_wp2;go_round
        case rel=>exact⟨l.set j _,rest++[j],k+1,by go_num,by omega,Q7,K7,HT.1,X7,B7,S7,by have:=HT.out.2;have:=ML.out;simp only[aC,dI,aS];omega⟩
        case measure=>simp[intOf];omega
       ·have h3':=decide_eq_false h3
        have HS:=aj (wS.skip Hj hxv hyv (λh=>by rw[HD.out];omega));clear HD;go_wp2;go_quiet (fail);have kq:Below w'.heap.size w' (w'.drewN nq):=_root_.Go.below_drewN aB _;have Q5:=aj (Q.below kq);have K5:=aj (Kb.below kq);have X5:=aj (X.below kq X.lt);have B5:=aj (FN.trans (kq.mono FN.size));have S5:=aj (aJ WY kq.size);generalize w'.drewN nq=w5 at *;clear Kb Q X FN WY kq cx cy fz cj;go_wp2;go_round
        case rel=>exact⟨l,rest,k+1,by go_num,by omega,Q5,K5,HS,X5,B5,S5,ML⟩
        case measure=>simp[intOf];omega
     ·have h1':=decide_eq_false h1
      have HS:=aj (wS.skip Hj hxv hyv (λh=>absurd (by rw[HD.out] at h;exact h) h1));clear HD;go_wp2;go_quiet (fail);have kq:Below w'.heap.size w' (w'.drewN nq):=_root_.Go.below_drewN aB _;have Q5:=aj (Q.below kq);have K5:=aj (Kb.below kq);have X5:=aj (X.below kq X.lt);have B5:=aj (FN.trans (kq.mono FN.size));have S5:=aj (aJ WY kq.size);generalize w'.drewN nq=w5 at *;clear Kb Q X FN WY kq cx cy fz cj;go_wp2;go_round
      case rel=>exact⟨l,rest,k+1,by go_num,by omega,Q5,K5,HS,X5,B5,S5,ML⟩
      case measure=>simp[intOf];omega
theorem FP:∀args w,(callFunc 276 args).run prog w=.ok (.enter 276 args) w:=by
 intro args w;go_simp
theorem W_(z n:Nat)(u1 u2:Value)(ss:List Int)(i j:Nat)(w:World)(X:Bl w z u1 u2)(hu:Ro w u2 ss)(hl:ss.length=n)(hi:j<n):
  Calls prog 276 #[int i64 (i:Nat),int i64 (j:Nat),.pointer (some ⟨z,0,none⟩)] w λe w'=>e=.returned (int i64 (ss.getD j 0))/\w'=w:=by
 obtain⟨a,c,rfl,c1,c2,ca⟩:=hu;obtain⟨x,rfl,-,hx⟩:=ca (by intro e;rw[e] at hl;simp at hl;omega);have e:ss[j]? =some (ss.getD j 0):=by rw[dD,aH (by omega)];rfl
 have cx:=hx j _ e;have x1:=X.c1;generalize ss.getD j 0=s at *;rw[hl] at *;clear hx ca e X;go_enter func276,ntmps276;go_wp2;go_ret;exact⟨rfl,rfl⟩
theorem uN(v:Value)(n t:Nat)(nb:Nat->List Int)(ss:List Int)(w:World)(h:Ld w v n nb ss)(E:Even nb (λi _=>ss.getD i 0) n)(ht:t<n)(hn:n<=144)(h4:∀i,(nb i).length<=4):
  Calls prog 257 #[v,int i64 (t:Nat)] w λe w'=>∃b l,e=.returned (slice (some ⟨b,0,none⟩) n n)/\w.heap.size<=b/\Bk w' b l #[]/\(dK nb (λi _=>ss.getD i 0) t n l/\Flat l)/\Below w.heap.size w w':=by
 have L0:=aj (h);have E0:=aj (E);have T0:Hid (t<n/\n<=144/\∀i,(nb i).length<=4):=⟨ht,hn,h4⟩;obtain⟨u1,u2,rfl,hb1,hr2,hl⟩:=h;have R2:Hid (Ro w u2 ss/\ss.length=n):=⟨hr2,hl⟩;obtain⟨x1,c1,e1,-⟩:=hb1;obtain⟨x2,c2,e2,-⟩:=hr2;clear ht hn h4 E hl;have b0:Below _ w (w.alloc (cells #[u1,u2] 296)):=aA;have X0:Hid (Bl _ w.heap.size u1 u2):=Bl.mk' u1 u2 rfl;have B0:=aj (b0);clear b0;have hon:∀w' (i j:Nat),i<n->j<n->Below (w.alloc (cells #[u1,u2] 296)).heap.size (w.alloc (cells #[u1,u2] 296)) w'->Calls prog 276 #[int i64 (i:Nat),int i64 (j:Nat),.pointer (some ⟨w.heap.size,0,none⟩)] w' λe w''=>e=.returned (int i64 ((λi _=>ss.getD i 0) j i))/\w''=w':=λw' i j hi hj hb=>
  W_ _ n u1 u2 ss i j w' (X0.below hb X0.lt) ((R2.1.below B0).below hb) R2.2 hj
 have Ho:=aj (hon);clear hon;subst e1;subst e2;go_enter func257,ntmps257;go_wp2_with fail
 refine(xR _ FP _ _ n t nb ss _ _ (L0.below B0) E0 T0.1 T0.2.1 T0.2.2 Ho).mono ?_;rintro e w1 ⟨b,l,rfl,hbz,hbk,hf,hb⟩;have P:=aj (lM (aJ B0.size hbz) hbk hf (B0.trans (hb.mono B0.size)));clear hbz hbk hf hb Ho;go_wp2;go_ret;exact⟨b,l,rfl,P.1,P.2.1,P.2.2.1,P.2.2.2⟩
end
namespace Wy
variable {i j j' k m n t:Nat} {l p ss xs:List Int} {r x:Int}
theorem Ce{p:Int->Bool}(h:(xs.take k).any p=false)(hm:m<k)(hx:xs[m]? =some x):p x=false:=by
 rw[bK] at h;have:=h x (by
  rw[List.mem_iff_getElem?];exact⟨m,by rw[eP,if_pos hm];exact hx⟩)
 cases hp:p x with
 |false=>rfl
 |true=>exact absurd hp this
theorem QH{p:Int->Bool}{r':Int}(h:VG p xs r)(h':VG p xs r'):r=r':=by
 rcases h with⟨rfl,h⟩|⟨k,x,rfl,h1,h2,h3⟩
 ·rcases h' with⟨rfl,h'⟩|⟨k',x',rfl,h1',h2',h3'⟩
  ·rfl
  ·rw[bK] at h
   exact absurd h2' (h x' (aT h1'))
 ·rcases h' with⟨rfl,h'⟩|⟨k',x',rfl,h1',h2',h3'⟩
  ·rw[bK] at h'
   exact absurd h2 (h' x (aT h1))
  ·rcases Nat.lt_trichotomy k k' with hk|hk|hk
   ·have:=Ce h3' hk h1
    rw[h2] at this;cases this
   ·rw[hk]
   ·have:=Ce h3 hk h1'
    rw[h2'] at this;cases this
theorem ZK(p:Int->Bool)(xs:List Int):∃r,VG p xs r:=by
 have key:∀k,k<=xs.length->(∃r,VG p xs r)\/(xs.take k).any p=false:=by
  intro k
  induction k with
  |zero=>intro _;exact .inr (by simp)
  |succ k ih=>
   intro hk;rcases ih (by omega) with h|h
   ·exact .inl h
   ·cases hp:p xs[k] with
    |true=>exact .inl ⟨k,.inr ⟨k,xs[k],rfl,aH _,hp,h⟩⟩
    |false=>exact .inr (by rw[qx (by omega),h,hp];rfl)
 rcases key xs.length aN with h|h
 ·exact h
 ·rw[List.take_of_length_le aN] at h
  exact⟨-1,.inl ⟨rfl,h⟩⟩
def pn(ss l:List Int)(i:Nat)(x:Int):Bool:=decide (0<ss.getD x.toNat 0)&&(decide (0<=l.getD x.toNat 0)&&decide (ss.getD x.toNat 0+l.getD x.toNat 0=l.getD i 0))
def Nx(nb:Nat->List Int)(ss l:List Int)(i j:Nat):Prop:=∃k:Nat,(nb i)[k]? =some (j:Int)/\pn ss l i j=true/\((nb i).take k).any (pn ss l i)=false
theorem take_any{p:Int->Bool}(h:(xs.take k).any p=false)(hm:m<k)(hx:xs[m]? =some x):p x=false:=by
 rw[bK] at h;have:=h x (by
  rw[List.mem_iff_getElem?];exact⟨m,by rw[eP,if_pos hm];exact hx⟩)
 cases hp:p x with
 |false=>rfl
 |true=>exact absurd hp this
theorem Nx.uniq{nb:Nat->List Int}(h:Nx nb ss l i j)(h':Nx nb ss l i j'):j=j':=by
 obtain⟨k,h1,h2,h3⟩:=h;obtain⟨k',h1',h2',h3'⟩:=h';rcases Nat.lt_trichotomy k k' with hk|hk|hk
 ·have:=take_any h3' hk h1
  rw[h2] at this;cases this
 ·subst hk
  rw[h1] at h1';injection h1' with h1'
  omega
 ·have:=take_any h3 hk h1'
  rw[h2'] at this;cases this
theorem Xa(h:pn ss l i x=true):0<ss.getD x.toNat 0/\0<=l.getD x.toNat 0/\ss.getD x.toNat 0+l.getD x.toNat 0=l.getD i 0:=by
 unfold pn at h;simp only[Bool.and_eq_true,decide_eq_true_eq] at h;exact h
theorem Nx.is{nb:Nat->List Int}(h:Nx nb ss l i j):(j:Int)∈nb i/\0<ss.getD j 0/\0<=l.getD j 0/\ss.getD j 0+l.getD j 0=l.getD i 0:=by
 obtain⟨k,h1,h2,-⟩:=h;have:=Xa h2;rw[bF] at this;exact⟨aT h1,this⟩
theorem ZO{nb:Nat->List Int}(E:∀x,x∈nb i->∃j:Nat,x=j/\j<n)(h:VG (pn ss l i) (nb i) r)(hx:∃x∈nb i,pn ss l i x=true):∃k j:Nat,r=k/\j<n/\(nb i)[k]? =some (j:Int)/\Nx nb ss l i j:=by
 rcases h with⟨_,h⟩|⟨k,x,h1,h2,h3,h4⟩
 ·obtain⟨x,hm,hp⟩:=hx
  rw[bK] at h;exact absurd hp (h x hm)
 ·obtain⟨j,rfl,hj⟩:=E x (aT h2)
  exact⟨k,j,h1,hj,h2,k,h2,h3,h4⟩
theorem qH(h:l[i]? =some x):l.getD i 0=x:=by rw[dD,h];rfl
theorem QI{nb:Nat->List Int}(E:Even nb (λ_ j=>ss.getD j 0) n)(h:dK nb (λ_ j=>ss.getD j 0) t n l)(hi:i<n)(h0:0<=l.getD i 0)(ht:i≠t):∃x∈nb i,pn ss l i x=true:=by
 have hl:i<l.length:=by rw[h.1];exact hi
 have e:=aH hl;rw[qH e] at h0;obtain⟨j,y,h1,h2,h3,h4,h5⟩:=h.next E.lt e h0 ht;refine⟨j,h1,?_⟩;unfold pn;rw[bF,qH h2,qH e,decide_eq_true h3,decide_eq_true h4,decide_eq_true h5.symm];rfl
def YP(nb:Nat->List Int)(ss l:List Int)(t i j:Nat):Prop:=(i=t/\j=i)\/(i≠t/\Nx nb ss l i j)
theorem YP.uniq{nb:Nat->List Int}(h:YP nb ss l t i j)(h':YP nb ss l t i j'):j=j':=by
 rcases h with⟨h1,h2⟩|⟨h1,h2⟩
 ·rcases h' with⟨_,h4⟩|⟨h3,_⟩
  ·rw[h2,h4]
  ·exact absurd h1 h3
 ·rcases h' with⟨h3,_⟩|⟨_,h4⟩
  ·exact absurd h3 h1
  ·exact h2.uniq h4
inductive uO (nb:Nat->List Int) (ss l:List Int) (t:Nat):Nat->List Int->Prop
 |here:uO nb ss l t t [(t:Int)]
 |step {i j:Nat} {p:List Int}:i≠t->Nx nb ss l i j->uO nb ss l t j p->uO nb ss l t i ((i:Int)::p)
theorem uO.uniq{nb:Nat->List Int}{p':List Int}(h:uO nb ss l t i p)(h':uO nb ss l t i p'):p=p':=by
 induction h generalizing p' with
 |here=>
  cases h' with
  |here=>rfl
  |step h1 _ _=>exact absurd rfl h1
 |step h1 h2 h3 ih=>
  cases h' with
  |here=>exact absurd rfl h1
  |step h1' h2' h3'=>
   have:=h2.uniq h2';subst this;rw[ih h3']
theorem uO.head{nb:Nat->List Int}(h:uO nb ss l t i p):p[0]? =some (i:Int):=by
 cases h<;>rfl
theorem uO.last{nb:Nat->List Int}(h:uO nb ss l t i p):p.getLast? =some (t:Int):=by
 induction h with
 |here=>rfl
 |step h1 h2 h3 ih=>
  rename_i i j p;cases p with
  |nil=>simp at ih
  |cons a p=>rw[List.getLast?_cons_cons];exact ih
theorem uO.second{nb:Nat->List Int}(h:uO nb ss l t i p)(hi:i≠t):∃j:Nat,p[1]? =some (j:Int)/\Nx nb ss l i j:=by
 cases h with
 |here=>exact absurd rfl hi
 |step h1 h2 h3=>exact⟨_,by simpa using h3.head,h2⟩
def rch(l:List Int)(most:Int)(k:Nat):List Int:=((List.range k).filter λi=>decide (0<=l.getD i 0/\l.getD i 0<=most)).map Int.ofNat
theorem QJ(l:List Int)(most:Int)(k:Nat):rch l most (k+1)=rch l most k++(if 0<=l.getD k 0/\l.getD k 0<=most then[(k:Int)] else[]):=by
 unfold rch;rw[List.range_succ,List.filter_append,kH]
 congr 1
 by_cases h:0<=l.getD k 0/\l.getD k 0<=most
 ·rw[if_pos h,List.filter_cons_of_pos (by simpa using h)]
  rfl
 ·rw[if_neg h,List.filter_cons_of_neg (by simpa using h)]
  rfl
theorem Xb(l:List Int)(most:Int)(k:Nat):(rch l most k).length<=k:=by
 unfold rch;rw[lG];exact aJ (List.length_filter_le _ _) (by simp)
theorem get_some(hl:l.length=n)(h:i<n):l[i]? =some (l.getD i 0):=by rw[dD,aH (by omega)];rfl
end Wy
section
open Go.RowKit Wy
theorem QM(g:Int)(fl:Bool):Fd.onto g fl<=2:=by
 unfold Fd.onto
 repeat' split
 all_goals omega
theorem FV(gs:List Int)(fl:Bool)(j:Nat):(gs.map λg=>Fd.onto g fl).getD j 0<=2:=by
 rw[dD,fG];cases gs[j]? with
 |none=>exact(by decide:(0:Int)<=2)
 |some g=>exact QM g fl
theorem JB{W H:Nat}(hW:0<W)(gs:List Int)(fl:Bool):Even (Fd.near W H) (λ_ j=>(gs.map λg=>Fd.onto g fl).getD j 0) (W*H):=xQ hW λ_ j=>FV gs fl j
theorem xU{W H:Nat}(hW:0<W)(gs:List Int)(fl:Bool):Even (Fd.near W H) (λi _=>(gs.map λg=>Fd.onto g fl).getD i 0) (W*H):=xQ hW λi _=>FV gs fl i
theorem JD{n:Nat}{l:List Int}(h:Flat l)(hl:l.length=n)(hn:n<=144)(j:Nat):l.getD j 0<=288:=by
 rw[dD];cases hx:l[j]? with
 |none=>decide
 |some x=>
  have h1:=h j x hx;have h2:=yZ l;show x<=288;omega
theorem QT(v:Value)(W H:Nat)(gs os:List Int)(a:Nat)(m:Int)(fl:Bool)(w:World)(h:Fl w v W H gs os)(hs:Sd w)(G:Fd.Good W H gs os)(ha:a<W*H)(m0:0<=m)(m1:m<=1000000):
  Calls prog 233 #[v,int i64 (a:Nat),int i64 m,.bool fl] w λe w'=>∃u l,e=.returned (.tuple #[u,.nilIface])/\dK (Fd.near W H) (λi _=>(gs.map λg=>Fd.onto g fl).getD i 0) a (W*H) l/\Ro w' u (rch l m (W*H))/\Below w.heap.size w w':=by
 have F0:=aj (h);have S0:=aj (hs);have G0:=aj (G);have A0:=aj (ha);obtain⟨u1,u2,rfl,⟨a1,c,rfl,c1,c2,ca⟩,⟨b1,d,rfl,d1,d2,cb⟩⟩:=h;obtain⟨ss,hss⟩:∃ss,(gs.map λg=>Fd.onto g fl)=ss:=⟨_,rfl⟩;have Px:=aj (hss);have E0:Hid (Even (Fd.near W H) (λi _=>ss.getD i 0) (W*H)):=by rw[<-hss];exact xU G.w1 gs fl
 rw[hss];obtain⟨n,hn⟩:∃n,W*H=n:=⟨_,rfl⟩;have Hn:=aj (hn);rw[hn] at E0 ⊢;clear ca cb hs G ha hss hn;go_enter func233,ntmps233;go_wp2_with fail
 have b0:Below w.heap.size w ((w.alloc (cells #[int i64 W,int i64 H,slice a1 gs.length c,slice b1 os.length d] 25)).alloc (cells #[int i64 (a:Nat)] 3)):=aA.alloc (by simp) _;refine(look_ok _ _ W H gs os _ fl _ (F0.below b0) G0 (S0.below b0) (Ro.EX _ (by simp)) (by have:=A0.out;simp;omega)).mono ?_;rintro e w1 ⟨⟨v1,rfl,hL⟩,hb⟩;rw[Px.out,Hn.out] at hL;have B1:=aj (b0.trans (hb.mono (by simp;omega)));have L1:=aj (hL);obtain⟨p1,p2,rfl,⟨x1,k1,rfl,-⟩,⟨x2,k2,rfl,-⟩,-⟩:=hL;clear hb b0;have n0:¬m<0:=by omega
 have n1:¬1000000<m:=by omega
 go_wp2_with fail
 have b2:Below _ w1 (w1.alloc (cells #[slice (some x1) (n) k1,slice x2 ss.length k2] 296)):=aA;refine(uN _ _ a _ ss _ (L1.below b2) E0 (by rw[<-Hn.out];exact A0) (by rw[<-Hn.out];exact G0.pos.2) (Fd.uM W H)).mono ?_;rintro e w2 ⟨g,l,rfl,hbz,hbk,⟨hf,hfl⟩,hb⟩;have K2:=aj (hbk);have HF:=aj (hf);have B2:=aj ((B1.trans (b2.mono B1.size)).trans (hb.mono (aJ B1.size b2.size)));have N0:n<=144:=by rw[<-Hn.out];exact G0.pos.2
 clear hbz hbk hb b2 L1 B1 hf hfl n0 n1;go_wp2_with fail
 go_loopw [12,37] (λv i W'=>∃k:Nat,k<=n/\i=int i64 (k:Nat)/\Ow W' w2.heap.size v (rch l m k)/\Below w2.heap.size w2 W') (λ_ i _=>n-(intOf i).toNat)
 case atStart=>exact⟨0,aZ _,rfl,Ow.nil _ _,dU _ _⟩
 case round=>
  obtain⟨k,hk,rfl,ho,hb⟩:=hrel;have O:=aj (ho);have B:=aj (hb);clear ho hb;by_cases h0:k=n
  ·subst h0
   go_wp2;go_ret2;exact⟨_,l,rfl,HF,O.ro,B2.trans (B.mono B2.size)⟩
  ·have hkn:k<n:=by omega
   have Er:=aj (QJ l m k);have ck:=(K2.below B).cell (get_some HF.1 hkn);have Lr:Hid ((rch l m k).length<=1000000000):=aJ (Xb l m k) (by omega);generalize l.getD k 0=y at *;generalize rch l m k=rs at *;by_cases h1:0<=y
   ·by_cases h2:y<=m
    ·have Er':Hid (rch l m (k+1)=rs++[(k:Int)]):=by
      have:=Er.out;rw[if_pos ⟨h1,h2⟩] at this;exact this
     have ba:Below _ wr (wr.alloc (cells #[int i64 (k:Nat)] 3)):=aA;have O5:=aj (O.below ba);have B5:=aG B ba;have Cd:Hid ((wr.alloc (cells #[int i64 (k:Nat)] 3)).cell? ⟨wr.heap.size,0,none⟩=some (int i64 (k:Nat))):=by unfold Hid;simp
     clear ba Er O B;go_wp2_with (at_builtin;refine gG _ rfl _ _ rfl _ _ rs rfl O5 _ _ rfl Cd Lr B5.size ?_);intro g6 cap6 w6 o6 gr6 at6 lt6;have O6:=aj (o6);have B6:=aj (B5.trans (aB.grown gr6 B5.size (λk hk=>(O5.block k hk).1)));clear o6 gr6 at6 lt6 O5 B5 Cd;go_wp2;go_round
     case rel=>exact⟨k+1,by omega,by go_num,by rw[Er'.out];exact O6,B6⟩
     case measure=>simp[intOf];omega
    ·have Er':Hid (rch l m (k+1)=rs):=by
      have:=Er.out;rw[if_neg (λh=>h2 h.2),iK] at this;exact this
     clear Er;go_wp2;go_round
     case rel=>exact⟨k+1,by omega,by go_num,by rw[Er'.out];exact O,B⟩
     case measure=>simp[intOf];omega
   ·have Er':Hid (rch l m (k+1)=rs):=by
     have:=Er.out;rw[if_neg (λh=>h1 h.1),iK] at this;exact this
    clear Er;go_wp2;go_round
    case rel=>exact⟨k+1,by omega,by go_num,by rw[Er'.out];exact O,B⟩
    case measure=>simp[intOf];omega
theorem QU(K:Nat)(eK:∀args w,(callFunc K args).run prog w=.ok (.enter K args) w)(u:Value)(cs:Array Value)(xs:List Int)(p:Int->Bool)(w:World)(hu:Ro w u xs)
  (hp:∀W,Below w.heap.size w W->∀x:Int,Calls prog K (#[int i64 x]++cs) W λe w'=>e=.returned (.bool (p x))/\Below W.heap.size W w'):
  Calls prog 165 #[u,.func (Fn.func K) #[] cs] w λe w'=>∃r:Int,e=.returned (int i64 r)/\VG p xs r/\Below w.heap.size w w':=by
 have R0:=aj (hu);obtain⟨a,c,rfl,c1,c2,ca⟩:=hu;have Hp:=aj (hp);clear ca hp;go_enter func165,ntmps165;go_wp2;go_loopw [8] (λi W'=>∃k:Nat,k<=xs.length/\i=int i64 (k:Nat)/\(xs.take k).any p=false/\Below w.heap.size w W') (λi _=>xs.length-(intOf i).toNat)
 case atStart=>exact⟨0,aZ _,rfl,by simp,dU _ _⟩
 case round=>
  obtain⟨k,hk,rfl,ht,hb⟩:=hrel;have Ht:=aj (ht);have B:=aj (hb);clear ht hb;by_cases h0:k=xs.length
  ·subst h0
   go_wp2;go_ret;refine⟨_,rfl,.inl ⟨rfl,?_⟩,B⟩;have:=Ht.out;rw[List.take_of_length_le aN] at this;exact this
  ·have hkx:k<xs.length:=by omega
   obtain⟨a',c',he,-,-,hca⟩:=R0.below B;injection he with he1 he2 he3
   subst he1;obtain⟨x,rfl,-,hx⟩:=hca (by intro h;rw[h] at hkx;simp at hkx);obtain⟨y,hy⟩:∃y,xs[k]? =some y:=⟨_,aH hkx⟩;have cx:=hx k y hy;have hc:=Hp wr B y;have Hs:Hid ((xs.take (k+1)).any p=((xs.take k).any p||p y)):=by
    unfold Hid;rw[qx hkx];obtain⟨hi,e⟩:=aK.1 hy;rw[e]
   have Hm:=aj (hy);clear hx hca hy he2 he3;cases hy:p y with
   |true=>
    rw[hy] at hc;have Hc:=aj (hc);have Hy:=aj (hy);clear hc hy;go_wp2_with fail
    refine Calls.mono Hc ?_;rintro e w1 ⟨rfl,b1⟩;have B1:=aG B b1;clear b1;go_wp2;go_ret;exact⟨_,rfl,.inr ⟨k,y,rfl,Hm,Hy,Ht⟩,B1⟩
   |false=>
    rw[hy] at hc;have Hc:=aj (hc);have Hy:=aj (hy);clear hc hy;go_wp2_with fail
    refine Calls.mono Hc ?_;rintro e w1 ⟨rfl,b1⟩;have B1:=aG B b1;clear b1;go_wp2;go_round
    case rel=>exact⟨k+1,by omega,by go_num,by have:=Hs.out;rw[Ht.out,Hy.out] at this;exact this,B1⟩
    case measure=>simp[intOf];omega
def nU(l:List Int)(n:Nat)(p:Int->Bool)(c F:Int):Prop:=
 (F=6/\c=0/\∀m:Nat,m<=3->(rch l m n).any p=false)\/(F=0/\∃m k:Nat,m<=3/\(rch l m n)[k]? =some c/\p c=true/\((rch l m n).take k).any p=false/\∀j:Nat,j<m->(rch l j n).any p=false)
theorem FX(K:Nat)(eK:∀args w,(callFunc K args).run prog w=.ok (.enter K args) w)(cs:Array Value)(p:Int->Bool)(v:Value)(W H:Nat)(gs os:List Int)(a:Nat)(fl:Bool)(w:World)(h:Fl w v W H gs os)(hs:Sd w)(G:Fd.Good W H gs os)(ha:a<W*H)
  (hp:∀V,Below w.heap.size w V->∀x:Int,Calls prog K (#[int i64 x]++cs) V λe w'=>e=.returned (.bool (p x))/\Below V.heap.size V w'):
  Calls prog 194 #[v,int i64 (a:Nat),.bool fl,.func (Fn.func K) #[] cs] w λe w'=>∃l c r F,e=.returned (.tuple #[int i64 c,r])/\dK (Fd.near W H) (λi _=>(gs.map λg=>Fd.onto g fl).getD i 0) a (W*H) l/\Er r F/\nU l (W*H) p c F/\Below w.heap.size w w':=by
 have F0:=aj (h);have S0:=aj (hs);have G0:Hid (Fd.Good W H gs os/\a<W*H):=⟨G,ha⟩;have Hp:=aj (hp);obtain⟨u1,u2,rfl,-,-⟩:=h;clear hs G ha hp;go_enter func194,ntmps194;go_upto_region 1 with fail
 have B0:Hid (Below _ w (w.alloc (.cells #[int i64 (W:Int),int i64 (H:Int),u1,u2] 25))):=aA;have X0:Hid (Bf _ w.heap.size W H u1 u2):=Bf.mk' W H u1 u2 rfl;generalize (w.alloc _)=w0 at *;go_wp2;go_loopw [14] (λi V=>∃k:Nat,k<=4/\i=int i64 (k:Nat)/\(∀l,dK (Fd.near W H) (λi _=>(gs.map λg=>Fd.onto g fl).getD i 0) a (W*H) l->∀j:Nat,j<k->(rch l j (W*H)).any p=false)/\(0<k->∃l,dK (Fd.near W H) (λi _=>(gs.map λg=>Fd.onto g fl).getD i 0) a (W*H) l)/\Bf V w.heap.size W H u1 u2/\Below w.heap.size w V) (λi _=>4-(intOf i).toNat)
 case atStart=>exact⟨0,by omega,rfl,λl _ j hj=>by omega,λh=>by omega,X0,B0⟩
 case round=>
  obtain⟨k,hk,rfl,hN,hL,hX,hB⟩:=hrel;have N:=aj (hN);have L:=aj (hL);have X:=aj (hX);have B:=aj (hB);clear hN hL hX hB X0 B0;by_cases h0:k=4
  ·subst h0
   go_wp2;go_ret2;obtain⟨l,hl⟩:=L (by omega);exact⟨l,0,_,6,rfl,hl,Er.no (by decide),.inl ⟨rfl,rfl,λm hm=>N l hl m (by omega)⟩,B⟩
  ·have hk4:k<4:=by omega
   have hki:((k:Nat):Int)<4:=by omega
   obtain⟨x0,x1,x2,x3⟩:=X.out;go_wp2_with fail
   refine(QT _ W H gs os a _ fl wr (F0.below B) (S0.below B) G0.1 G0.2 (by omega) (by omega)).mono ?_;rintro e w1 ⟨u,l,rfl,hl,hr,hb⟩;have B1:=aG B hb;have X1:=aj (X.below hb X.lt);have HL:=aj (hl);have RO:=aj (hr);clear hb hl hr x0 x1 x2 x3 X B;go_wp2_with fail
   refine(QU K eK _ cs _ p w1 RO (λV hV x=>Hp V (B1.trans (hV.mono B1.size)) x)).mono ?_;rintro e w2 ⟨r,rfl,hf,hb⟩;have B2:=aG B1 hb;have X2:=aj (X1.below hb X1.lt);have RO2:=aj (RO.below hb);clear hb X1 B1 RO;rcases hf with⟨rfl,hno⟩|⟨j,c,rfl,hj,hpc,htk⟩
   ·have NO:=aj (hno)
    clear hno;go_wp2;go_round
    case rel=>exact⟨k+1,by omega,by go_num,λl' hl' j hj=>by
     by_cases hjk:j<k
     ·exact N l' hl' j hjk
     ·have:j=k:=by omega
      subst this;rw[hl'.uniq HL.out];exact NO,λ_=>⟨l,HL⟩,X2,B2⟩
    case measure=>simp[intOf];omega
   ·have FJ:=aj (fQ hj hpc htk)
    have hjl:=(aK.1 hj).1;obtain⟨ad,cp,rfl,-,-,hca⟩:=RO2.out;obtain⟨x,rfl,-,hx⟩:=hca (by intro h;rw[h] at hjl;simp at hjl);have cx:=hx j c hj;clear hj hpc htk hx hca;go_wp2;go_ret2;exact⟨l,c,_,0,rfl,HL,Er.nil,.inr ⟨rfl,k,j,by omega,FJ.1,FJ.2.1,FJ.2.2,λi hi=>N l HL i hi⟩,B2⟩
theorem Xc(u:aI)(at_:Int)(b:Nat)(w:World)(hc:w.cell? ⟨b,0,none⟩=some (int i64 at_)):
  Calls prog 193 #[u.val,.pointer (some ⟨b,0,none⟩)] w λe w'=>e=.returned (.bool (u.at_==at_))/\Below w.heap.size w w':=by
 have hb:b<w.heap.size:=cell_lt hc;have hne:b≠w.heap.size:=by omega
 unfold aI.val;go_enter func193,ntmps193;go_wp2;go_ret;exact⟨rfl,aA⟩
theorem QW(us:List aI)(at_:Int)(b:Nat)(u:Value)(w:World)(hc:w.cell? ⟨b,7,none⟩=some u)(hu:oP w u us):
  Calls prog 192 #[int i64 at_,.pointer (some ⟨b,0,none⟩)] w λe w'=>e=.returned (.bool (!us.any (λu=>u.at_==at_)))/\Below w.heap.size w w':=by
 have U:=aj (hu);have hb:b<w.heap.size:=cell_lt hc;have hne:b≠w.heap.size:=by omega
 clear hu;go_enter func192,ntmps192;go_upto_region 1 with fail
 have B0:Hid (Below _ w (w.alloc (cells #[int i64 at_] 3))):=aA;have C0:Hid ((w.alloc (cells #[int i64 at_] 3)).cell? ⟨w.heap.size,0,none⟩=some (int i64 at_)):=bD (by simp) rfl;have c7:(w.alloc (cells #[int i64 at_] 3)).cell? ⟨b,7,none⟩=some u:=by rw[B0.out.cell (p:=⟨b,7,none⟩) hb];exact hc
 generalize (w.alloc _)=w0 at *;go_wp2_with fail
 refine(um 193 (by intro args w;go_simp) u #[.pointer (some ⟨w.heap.size,0,none⟩)] us (λu=>u.at_==at_) w0 (U.below B0) (λV hV k=>Xc k at_ w.heap.size V (by rw[hV.cell (p:=⟨w.heap.size,0,none⟩) (cell_lt C0.out)];exact C0))).mono ?_;rintro e w1 ⟨rfl,hb1⟩;have B1:=aG B0 hb1;obtain⟨m,hm⟩:∃m,us.any (λu=>u.at_==at_)=m:=⟨_,rfl⟩;have HM:=aj (hm);rw[hm];clear hb1 hm c7 hc;go_wp2;go_ret;exact⟨by rw[HM.out];rfl,B1⟩
end
section
open Go Go.RowKit
variable {H0:Array Bool} {W w:World} {a:Act} {i id:Nat} {o oi:Oper} {v:Value}
section
variable {P:Program} {ops:Array Oper} {md:Region.Mode} {C:World->Prop} {Q:Exit->Act->World->Prop}
def iU(P:Program)(ops:Array Oper)(C:World->Prop)(o:Oper)(v:Value)(a:Act):Prop:=
 Region.wanted o (yielded ops a.tmps)=true/\∀W,C W->(execOp a.eval o).run P W=.ok (.value v) W
def f_(P:Program)(ops:Array Oper)(C:World->Prop)(o:Oper)(K:Act->World->Prop)(a:Act)(W:World):Prop:=
 Region.wanted o (yielded ops a.tmps)=true/\
  ((∃v W',(execOp a.eval o).run P W=.ok (.value v) W'/\C W'/\K (a.put o.dst v) W')\/(∃W',(execOp a.eval o).run P W=.ok .skip W'/\C W'/\K (a.put o.dst undef) W')\/
   ∃f args,(execOp a.eval o).run P W=.ok (.enter f args) W/\Calls P f args W (λe w'=>∃v,e=.returned v/\C w'/\K (a.put o.dst v) w'))
theorem f_.mono{K K':Act->World->Prop}(h:∀a W,C W->K a W->K' a W)(hh:f_ P ops C o K a W):f_ P ops C o K' a W:=by
 obtain⟨h1,h2⟩:=hh;refine⟨h1,?_⟩;rcases h2 with⟨v,W',e,hc,hk⟩|⟨W',e,hc,hk⟩|⟨f,args,e,hc⟩
 ·exact .inl ⟨v,W',e,hc,h _ _ hc hk⟩
 ·exact .inr (.inl ⟨W',e,hc,h _ _ hc hk⟩)
 ·exact .inr (.inr ⟨f,args,e,hc.mono λe w' ⟨v,he,hw,hk⟩=>⟨v,he,hw,h _ _ hw hk⟩⟩)
theorem iU.step{o:Oper}{v:Value}{K:Act->World->Prop}{a:Act}{W:World}(hy:iU P ops C o v a)(hC:C W)(h:K (a.put o.dst v) W):f_ P ops C o K a W:=
 ⟨hy.1,.inl ⟨v,W,hy.2 W hC,hC,h⟩⟩
theorem f_.put{oj:Oper}(hap:oi.apart ops oj=true)
  (hsi:∀cs b,oi.op≠ .select cs b) (hsj:∀cs b,oj.op≠ .select cs b) {K:Act->World->Prop}
  (hy:iU P ops C oi v a) (h:f_ P ops C oj K (a.put oi.dst v) W):
  f_ P ops C oj (λa' w'=>iU P ops C oi v a'/\K (a'.put oi.dst v) w') a W:=by
 obtain⟨h1,h2,h3⟩:=Oper.apart_spec hap;have keep:∀u,iU P ops C oi v (a.put oj.dst u):=λu=>by
  unfold iU at *;rw[execOp_put oi hsi a oj.dst u h3,wanted_put oi a oj.dst u h3];exact hy
 unfold f_ at *;rw[wanted_put oj a oi.dst v h1,execOp_put oj hsj a oi.dst v h1] at h;obtain⟨hw,h⟩:=h;refine⟨hw,?_⟩;rcases h with⟨u,W',e,hc,hk⟩|⟨W',e,hc,hk⟩|⟨f,args,e,hc⟩
 ·exact .inl ⟨u,W',e,hc,keep u,by rw[<-Act.put_comm a v u h2];exact hk⟩
 ·exact .inr (.inl ⟨W',e,hc,keep _,by rw[<-Act.put_comm a v _ h2];exact hk⟩)
 ·exact .inr (.inr ⟨f,args,e,hc.mono λe w' ⟨u,he,hw,hk⟩=>⟨u,he,hw,keep u,by rw[<-Act.put_comm a v u h2];exact hk⟩⟩)
def wpAnyS(P:Program)(md:Region.Mode)(ops:Array Oper)(C:World->Prop)(Q:Exit->Act->World->Prop):Nat->Array Bool->Act->World->Prop
 |0,listed,a,W=>Region.ready md ops listed=[]/\Q .normal a W
 |f+1,listed,a,W=>Region.ready md ops listed≠[]/\∀i∈Region.ready md ops listed,∃o,ops[i]? =some o/\f_ P ops C o (wpAnyS P md ops C Q f (listed.setIfInBounds i true)) a W
theorem iY:∀(f:Nat) (listed:Array Bool) (a:Act) (W:World),wpAnyS P md ops C Q f listed a W->wpAny P md ops Q f listed a W
 |0,listed,a,W,h=>h
 |f+1,listed,a,W,h=>by
  refine⟨λh0=>absurd h0 h.1,λi hi=>?_⟩;obtain⟨o,ho,hs⟩:=h.2 i hi;unfold wpOp;simp only[ho];obtain⟨hw,hs⟩:=hs;rw[if_pos hw];refine .inl ?_;unfold Oper.wp;rcases hs with⟨v,W',e,-,hk⟩|⟨W',e,-,hk⟩|⟨g,args,e,hc⟩
  ·rw[e];exact iY f _ _ _ hk
  ·rw[e];exact iY f _ _ _ hk
  ·rw[e]
   exact hc.mono λe w' ⟨v,he,_,hk⟩=>by subst he;exact iY f _ _ _ hk
theorem wpAnyS_first(hi:ops[i]? =some oi)(hsel:∀(j:Nat) (o:Oper) cs b,ops[j]? =some o->o.op≠ .select cs b):
  ∀(f:Nat) (listed:Array Bool) (a:Act) (W:World),
   (∀j oj,ops[j]? =some oj->j≠i->listed.getD j true=false->(∀e∈oj.after,Region.binds md e=true->e.on≠i)->oi.apart ops oj=true)->
   i∈Region.ready md ops listed->iU P ops C oi v a->C W->
   wpAnyS P md ops C Q f (listed.setIfInBounds i true) (a.put oi.dst v) W->wpAnyS P md ops C Q (f+1) listed a W:=by
 intro f
 induction f with
 |zero=>
  intro listed a W _ hr hy hC H;refine⟨λh=>(by rw[h] at hr;cases hr),λj hj=>?_⟩;by_cases hji:j=i
  ·subst hji;exact⟨oi,hi,hy.step hC H⟩
  ·have:=ready_mono hj hji
   rw[H.1] at this;cases this
 |succ f ih=>
  intro listed a W hfree hr hy hC H;refine⟨λh=>(by rw[h] at hr;cases hr),λj hj=>?_⟩;by_cases hji:j=i
  ·subst hji;exact⟨oi,hi,hy.step hC H⟩
  ·obtain⟨o',ho',h1⟩:=H.2 j (ready_mono hj hji)
   obtain⟨hjun,oj,hoj,hall⟩:=mem_ready.1 hj;obtain rfl:o'=oj:=dQ (ho'.symm.trans hoj);have hnot:∀e∈o'.after,Region.binds md e=true->e.on≠i:=λe he hb heq=>by
    have h1:=hall e he hb;have h0:=(mem_ready.1 hr).1;rw[heq,getD_both h0] at h1;cases h1
   have h2:=f_.put (hfree j o' hoj hji hjun hnot) (λcs b=>hsel i oi cs b hi) (λcs b=>hsel j o' cs b hoj) hy h1;have hfree':∀k ok,ops[k]? =some ok->k≠i->(listed.setIfInBounds j true).getD k true=false->
     (∀e∈ok.after,Region.binds md e=true->e.on≠i)->oi.apart ops ok=true:=λk ok hk hki hun hno=>by
    refine hfree k ok hk hki ?_ hno;by_cases hjk:j=k
    ·subst hjk;exact hjun
    ·rw[getD_set_ne true hjk] at hun;exact hun
   refine⟨o',hoj,h2.mono λa' W' hC' h3=>ih _ a' W' hfree' (ready_mono hr (Ne.symm hji)) h3.1 hC' ?_⟩;rw[Array.setIfInBounds_comm _ _ hji];exact h3.2
def bC(P:Program)(ops:Array Oper)(C:World->Prop)(Q:Exit->Act->World->Prop):List (Bool×Nat)->Act->World->Prop
 |[],a,W=>Q .normal a W
 |(true,i)::r,a,W=>∃o v,ops[i]? =some o/\iU P ops C o v a/\bC P ops C Q r (a.put o.dst v) W
 |(false,i)::r,a,W=>∃o,ops[i]? =some o/\f_ P ops C o (bC P ops C Q r) a W
def lI(md:Region.Mode)(ops:Array Oper):List (Bool×Nat)->Array Bool->Bool
 |[],listed=>(Region.ready md ops listed).isEmpty
 |(true,i)::r,listed=>(Region.ready md ops listed).contains i&&(Region.free md ops listed i&&lI md ops r (listed.setIfInBounds i true))
 |(false,i)::r,listed=>decide (Region.ready md ops listed=[i])&&lI md ops r (listed.setIfInBounds i true)
theorem fO(hsel:Region.noSelect ops=true):∀(s:List (Bool×Nat)) (listed:Array Bool) (a:Act) (W:World),lI md ops s listed=true->C W->bC P ops C Q s a W->wpAnyS P md ops C Q s.length listed a W
 |[],listed,a,W,hB,hC,h=>⟨by simpa[lI] using hB,h⟩
 |(true,i)::r,listed,a,W,hB,hC,h=>by
  simp only[lI,Bool.and_eq_true] at hB;obtain⟨hr,hf,hB⟩:=hB;obtain⟨o,v,ho,hy,hk⟩:=h;have hr':i∈Region.ready md ops listed:=by simpa using hr
  exact wpAnyS_first ho (Region.noSelect_spec hsel) _ _ a W (Region.free_spec ho hf) hr' hy hC (fO hsel r _ _ _ hB hC hk)
 |(false,i)::r,listed,a,W,hB,hC,h=>by
  simp only[lI,Bool.and_eq_true,decide_eq_true_eq] at hB;obtain⟨hr,hB⟩:=hB;obtain⟨o,ho,hs⟩:=h;refine⟨λh=>(by rw[hr] at h;cases h),λj hj=>?_⟩;rw[hr] at hj;obtain rfl:j=i:=by simpa using hj
  exact⟨o,ho,hs.mono λa' W' hC' hk=>fO hsel r _ _ _ hB hC' hk⟩
theorem jT(s:List (Bool×Nat))(C:World->Prop)(hm:P.follows .mixedOrders=true)(hs:Region.noSelect ops=true)(hl:s.length=ops.size)(hB:lI .any ops s (Array.replicate ops.size false)=true)
  (hC:C {w with drawn:=w.drawn+1}) (h:bC P ops C Q s a {w with drawn:=w.drawn+1}):(Code.region id ops true).wp P Q a w:=by
 refine wp_region_any hm ?_;rw[<-hl];exact iY _ _ _ _ (fO hs s _ a _ (by rw[hl];exact hB) hC h)
theorem aQ{r:List (Bool×Nat)}(ho:ops[i]? =some o)(v:Value)(hw:Region.wanted o (yielded ops a.tmps)=true)(hr:∀W,C W->(execOp a.eval o).run P W=.ok (.value v) W)(h:bC P ops C Q r (a.put o.dst v) W):bC P ops C Q ((true,i)::r) a W:=
 ⟨o,v,ho,⟨hw,hr⟩,h⟩
theorem bI{r:List (Bool×Nat)}(ho:ops[i]? =some o)(f:FuncId)(args:Array Value)(hw:Region.wanted o (yielded ops a.tmps)=true)(hr:(execOp a.eval o).run P W=.ok (.enter f args) W)
  (hc:Calls P f args W (λe w'=>∃v,e=.returned v/\C w'/\bC P ops C Q r (a.put o.dst v) w')):bC P ops C Q ((false,i)::r) a W:=
 ⟨o,ho,hw,.inr (.inr ⟨f,args,hr,hc⟩)⟩
theorem aW{r:List (Bool×Nat)}(ho:ops[i]? =some o)(v:Value)(W':World)(hw:Region.wanted o (yielded ops a.tmps)=true)(hr:(execOp a.eval o).run P W=.ok (.value v) W')(hC:C W')(h:bC P ops C Q r (a.put o.dst v) W'):bC P ops C Q ((false,i)::r) a W:=
 ⟨o,ho,hw,.inl ⟨v,W',hr,hC,h⟩⟩
theorem iH{r:List (Bool×Nat)}(ho:ops[i]? =some o)(W':World)(hw:Region.wanted o (yielded ops a.tmps)=true)(hr:(execOp a.eval o).run P W=.ok .skip W')(hC:C W')(h:bC P ops C Q r (a.put o.dst undef) W'):bC P ops C Q ((false,i)::r) a W:=
 ⟨o,ho,hw,.inr (.inl ⟨W',hr,hC,h⟩)⟩
end
section
variable {P:Program} {ops:Array Oper} {md:Region.Mode} {C:World->Prop} {Q:Exit->Act->World->Prop} {L:Array Bool->Act->World->Prop}
def pO(P:Program)(md:Region.Mode)(ops:Array Oper)(C:World->Prop)(L:Array Bool->Act->World->Prop):Nat->Array Bool->Act->World->Prop
 |0,listed,a,W=>L listed a W
 |f+1,listed,a,W=>Region.ready md ops listed≠[]/\∀i∈Region.ready md ops listed,∃o,ops[i]? =some o/\f_ P ops C o (pO P md ops C L f (listed.setIfInBounds i true)) a W
theorem jD{g:Nat}(hL:∀listed a W,L listed a W->wpAny P md ops Q g listed a W):∀(f:Nat) (listed:Array Bool) (a:Act) (W:World),pO P md ops C L f listed a W->wpAny P md ops Q (f+g) listed a W
 |0,listed,a,W,h=>by rw[aO];exact hL _ _ _ h
 |f+1,listed,a,W,h=>by
  rw[show f+1+g=(f+g)+1 by omega];refine⟨λh0=>absurd h0 h.1,λi hi=>?_⟩;obtain⟨o,ho,hs⟩:=h.2 i hi;unfold wpOp;simp only[ho];obtain⟨hw,hs⟩:=hs;rw[if_pos hw];refine .inl ?_;unfold Oper.wp;rcases hs with⟨v,W',e,-,hk⟩|⟨W',e,-,hk⟩|⟨k,args,e,hc⟩
  ·rw[e];exact jD hL f _ _ _ hk
  ·rw[e];exact jD hL f _ _ _ hk
  ·rw[e]
   exact hc.mono λe w' ⟨v,he,_,hk⟩=>by subst he;exact jD hL f _ _ _ hk
theorem QX{l H:Array Bool}(h0:l.getD i true=false)(e:l.setIfInBounds i true=H):l=H.setIfInBounds i false:=by
 subst e;apply Array.ext_getElem?;intro k;by_cases hk:i=k
 ·subst hk
  rcases Nat.lt_or_ge i l.size with hl|hl
  ·simp[Array.getD,hl] at h0
   simp[hl,h0]
  ·simp[Array.getD,Nat.not_lt.2 hl] at h0
 ·simp[hk]
def FY(md:Region.Mode)(ops:Array Oper)(listed:Array Bool):Prop:=∀(j:Nat) (oj:Oper),ops[j]? =some oj->listed.getD j false=true->∀e∈oj.after,Region.binds md e=true->listed.getD e.on false=true
theorem FY.set{listed:Array Bool}(inv:FY md ops listed)(hi:i∈Region.ready md ops listed):FY md ops (listed.setIfInBounds i true):=by
 obtain⟨_,oi,hoi,hall⟩:=mem_ready.1 hi;intro j oj hj hl e he hb;by_cases hij:i=j
 ·subst hij
  have:oj=oi:=dQ (hj.symm.trans hoi);subst this;exact getD_set_true (hall e he hb)
 ·rw[getD_set_ne false hij] at hl
  exact getD_set_true (inv j oj hj hl e he hb)
def waits(md:Region.Mode)(ops:Array Oper)(H0:Array Bool)(i:Nat):Bool:=(List.range ops.size).any λj=>H0.getD j false&&(decide (j≠i)&&match ops[j]? with|some o=>o.after.any λe=>Region.binds md e&&decide (e.on=i)|none=>false)
theorem FZ(h:waits md ops H0 i=true):∃j o,ops[j]? =some o/\j≠i/\H0.getD j false=true/\∃e∈o.after,Region.binds md e=true/\e.on=i:=by
 unfold waits at h;obtain⟨j,-,hj⟩:=gK.1 h;simp only[Bool.and_eq_true,decide_eq_true_eq] at hj;obtain⟨h1,h2,h3⟩:=hj;cases ho:ops[j]? with
 |none=>rw[ho] at h3;cases h3
 |some o=>
  rw[ho] at h3;obtain⟨k,hk,he⟩:=Array.any_eq_true.1 h3;simp only[Bool.and_eq_true,decide_eq_true_eq] at he;exact⟨j,o,ho,h2,h1,o.after[k],Array.getElem_mem hk,he.1,he.2⟩
theorem mP(hi:ops[i]? =some oi)(hsel:∀(j:Nat) (o:Oper) cs b,ops[j]? =some o->o.op≠ .select cs b)
  (hH:waits md ops H0 i=true\/Region.ready md ops (H0.setIfInBounds i false)=[i]) (hLH:∀listed a W,L listed a W->listed=H0):
  ∀(f:Nat) (listed:Array Bool) (a:Act) (W:World),FY md ops listed->
   (∀j oj,ops[j]? =some oj->j≠i->listed.getD j true=false->(∀e∈oj.after,Region.binds md e=true->e.on≠i)->oi.apart ops oj=true)->
   i∈Region.ready md ops listed->iU P ops C oi v a->C W->
   pO P md ops C L f (listed.setIfInBounds i true) (a.put oi.dst v) W->pO P md ops C L (f+1) listed a W:=by
 intro f
 induction f with
 |zero=>
  intro listed a W inv _ hr hy hC H;refine⟨λh=>(by rw[h] at hr;cases hr),λj hj=>?_⟩;by_cases hji:j=i
  ·subst hji;exact⟨oi,hi,hy.step hC H⟩
  ·rcases hH with hH|hH
   ·obtain⟨k,ok,hk,hki,hkl,e,he,hb,heq⟩:=FZ hH
    rw[<-hLH _ _ _ H,getD_set_ne false (Ne.symm hki)] at hkl;have h1:=inv k ok hk hkl e he hb;rw[heq,getD_both (mem_ready.1 hr).1] at h1;cases h1
   ·have e:=QX (mem_ready.1 hr).1 (hLH _ _ _ H)
    rw[e,hH] at hj;exact absurd (by simpa using hj) hji
 |succ f ih=>
  intro listed a W inv hfree hr hy hC H;refine⟨λh=>(by rw[h] at hr;cases hr),λj hj=>?_⟩;by_cases hji:j=i
  ·subst hji;exact⟨oi,hi,hy.step hC H⟩
  ·obtain⟨o',ho',h1⟩:=H.2 j (ready_mono hj hji)
   obtain⟨hjun,oj,hoj,hall⟩:=mem_ready.1 hj;obtain rfl:o'=oj:=dQ (ho'.symm.trans hoj);have hnot:∀e∈o'.after,Region.binds md e=true->e.on≠i:=λe he hb heq=>by
    have h1:=hall e he hb;have h0:=(mem_ready.1 hr).1;rw[heq,getD_both h0] at h1;cases h1
   have h2:=f_.put (hfree j o' hoj hji hjun hnot) (λcs b=>hsel i oi cs b hi) (λcs b=>hsel j o' cs b hoj) hy h1;have hfree':∀k ok,ops[k]? =some ok->k≠i->(listed.setIfInBounds j true).getD k true=false->
     (∀e∈ok.after,Region.binds md e=true->e.on≠i)->oi.apart ops ok=true:=λk ok hk hki hun hno=>by
    refine hfree k ok hk hki ?_ hno;by_cases hjk:j=k
    ·subst hjk;exact hjun
    ·rw[getD_set_ne true hjk] at hun;exact hun
   refine⟨o',hoj,h2.mono λa' W' hC' h3=>ih _ a' W' (inv.set hj) hfree' (ready_mono hr (Ne.symm hji)) h3.1 hC' ?_⟩;rw[Array.setIfInBounds_comm _ _ hji];exact h3.2
def dw(P:Program)(ops:Array Oper)(C:World->Prop)(K:Act->World->Prop):List (Bool×Nat)->Act->World->Prop
 |[],a,W=>K a W
 |(true,i)::r,a,W=>∃o v,ops[i]? =some o/\iU P ops C o v a/\dw P ops C K r (a.put o.dst v) W
 |(false,i)::r,a,W=>∃o,ops[i]? =some o/\f_ P ops C o (dw P ops C K r) a W
def headB(md:Region.Mode)(ops:Array Oper)(H0:Array Bool):List (Bool×Nat)->Array Bool->Bool
 |[],listed=>decide (listed=H0)
 |(true,i)::r,listed=>(Region.ready md ops listed).contains i&&(Region.free md ops listed i&&((waits md ops H0 i||decide (Region.ready md ops (H0.setIfInBounds i false)=[i]))&&headB md ops H0 r (listed.setIfInBounds i true)))
 |(false,i)::r,listed=>decide (Region.ready md ops listed=[i])&&headB md ops H0 r (listed.setIfInBounds i true)
theorem iI{K:Act->World->Prop}{H0:Array Bool}(hsel:Region.noSelect ops=true):∀(s:List (Bool×Nat)) (listed:Array Bool) (a:Act) (W:World),FY md ops listed->headB md ops H0 s listed=true->C W->dw P ops C K s a W->pO P md ops C (λl a W=>l=H0/\K a W) s.length listed a W
 |[],listed,a,W,inv,hB,hC,h=>⟨of_decide_eq_true hB,h⟩
 |(true,i)::r,listed,a,W,inv,hB,hC,h=>by
  simp only[headB,Bool.and_eq_true,Bool.or_eq_true,decide_eq_true_eq] at hB;obtain⟨hr,hf,hH,hB⟩:=hB;obtain⟨o,v,ho,hy,hk⟩:=h;have hr':i∈Region.ready md ops listed:=by simpa using hr
  exact mP ho (Region.noSelect_spec hsel) hH (λ_ _ _ h=>h.1) _ _ a W inv (Region.free_spec ho hf) hr' hy hC (iI hsel r _ _ _ (inv.set hr') hB hC hk)
 |(false,i)::r,listed,a,W,inv,hB,hC,h=>by
  simp only[headB,Bool.and_eq_true,decide_eq_true_eq] at hB;obtain⟨hr,hB⟩:=hB;obtain⟨o,ho,hs⟩:=h;refine⟨λh=>(by rw[hr] at h;cases h),λj hj=>?_⟩;have hr':i∈Region.ready md ops listed:=by rw[hr];simp
  rw[hr] at hj;obtain rfl:j=i:=by simpa using hj
  exact⟨o,ho,hs.mono λa' W' hC' hk=>iI hsel r _ _ _ (inv.set hr') hB hC' hk⟩
def kM(n:Nat)(s:List (Bool×Nat)):Array Bool:=s.foldl (λl p=>l.setIfInBounds p.2 true) (Array.replicate n false)
theorem aV(s t:List (Bool×Nat))(C:World->Prop)(hm:P.follows .mixedOrders=true)(hs:Region.noSelect ops=true)(hl:s.length+t.length=ops.size)(hB:headB .any ops (kM ops.size s) s (Array.replicate ops.size false)=true)
  (hT:lI .any ops t (kM ops.size s)=true)
  (hC:C {w with drawn:=w.drawn+1}) (h:dw P ops C (bC P ops (λ_=>True) Q t) s a {w with drawn:=w.drawn+1}):(Code.region id ops true).wp P Q a w:=by
 refine wp_region_any hm ?_;rw[<-hl];refine jD (λlisted a W hh=>?_) _ _ _ _ (iI hs s _ a _ (λj oj _ hj=>by rw[getD_replicate_false] at hj;cases hj) (by rw[hl];exact hB) hC h);obtain⟨rfl,hk⟩:=hh;exact iY _ _ _ _ (fO hs t _ a W hT trivial hk)
theorem au{K:Act->World->Prop}{r:List (Bool×Nat)}(ho:ops[i]? =some o)(v:Value)(hw:Region.wanted o (yielded ops a.tmps)=true)(hr:∀W,C W->(execOp a.eval o).run P W=.ok (.value v) W)(h:dw P ops C K r (a.put o.dst v) W):dw P ops C K ((true,i)::r) a W:=
 ⟨o,v,ho,⟨hw,hr⟩,h⟩
theorem dH{K:Act->World->Prop}{r:List (Bool×Nat)}(ho:ops[i]? =some o)(f:FuncId)(args:Array Value)(hw:Region.wanted o (yielded ops a.tmps)=true)(hr:(execOp a.eval o).run P W=.ok (.enter f args) W)
  (hc:Calls P f args W (λe w'=>∃v,e=.returned v/\C w'/\dw P ops C K r (a.put o.dst v) w')):dw P ops C K ((false,i)::r) a W:=
 ⟨o,ho,hw,.inr (.inr ⟨f,args,hr,hc⟩)⟩
theorem jO{w':World}{v':Value}(s x:Operand)(t tx:TypeId)(ho:o.op=.call {callee:=.builtin .append,args:= #[s,x],argTypes:= #[t,tx]})(v xv:Value)(hs:a.eval s=v)(hx:a.eval x=xv)
  (hr:(Builtin.append_ #[t,tx] o.type #[v,xv]).run P w=.ok v' w'):(execOp a.eval o).run P w=.ok (.value v') w':=by
 unfold execOp;simp only[ho,resolve,invoke,builtin,Sem.run_bind,Sem.run_pure,Result.andThen_ok,List.map_toArray,List.map_cons,List.map_nil,hs,hx,hr]
theorem fF{K:Act->World->Prop}{r:List (Bool×Nat)}(ho:ops[i]? =some o)(v:Value)(W':World)(hw:Region.wanted o (yielded ops a.tmps)=true)(hr:(execOp a.eval o).run P W=.ok (.value v) W')(hC:C W')(h:dw P ops C K r (a.put o.dst v) W'):dw P ops C K ((false,i)::r) a W:=
 ⟨o,ho,hw,.inl ⟨v,W',hr,hC,h⟩⟩
end
end
section
open Go.RowKit
variable {X:WV} {w:World}
theorem aX{v:Value}(h:Wl w v X):∃p1 q1 p2 q2 p3 q3 p4 q4 p5 q5,v=.agg #[int i64 X.turn,int i64 X.next,int i64 X.wide,int i64 X.high,slice p1 X.gs.length q1,slice p2 X.os.length q2,slice p3 X.gold.length q3,slice p4 X.us.length q4,slice p5 X.qs.length q5]:=by
 obtain⟨u1,u2,u3,u4,u5,rfl,⟨p1,q1,rfl,-⟩,⟨p2,q2,rfl,-⟩,⟨p3,q3,rfl,-⟩,⟨p4,q4,rfl,-⟩,⟨p5,q5,rfl,-⟩⟩:=h;exact⟨_,_,_,_,_,_,_,_,_,_,rfl⟩
theorem sN{u1 u2 u3 u4 u5:Value}(h:Wl w (.agg #[int i64 X.turn,int i64 X.next,int i64 X.wide,int i64 X.high,u1,u2,u3,u4,u5]) X):Fl w (.agg #[int i64 X.wide,int i64 X.high,u1,u2]) X.wide X.high X.gs X.os:=
 ⟨u1,u2,rfl,h.slices.1,h.slices.2.1⟩
open Wy
def Gf(us:List aI)(x:Int):Bool:= !us.any (λu=>u.at_==x)
def nV(ks:List KV)(X:WV)(unit kind c F:Int):Prop:=
 (Wd.aP ks X≠0/\F=Wd.aP ks X/\c=0)\/(Wd.aP ks X=0/\X.us.any (λu=>u.id==unit)=false/\F=6/\c=0)
 \/(Wd.aP ks X=0/\X.us.any (λu=>u.id==unit)=true/\¬(0<=kind/\kind<(ks.length:Int))/\F=1/\c=0)
 \/(Wd.aP ks X=0/\∃(i kn Wn Hn an:Nat) (u:aI) (k:KV) (l:List Int),mM (λu=>u.id==unit) X.us (i:Nat)/\X.us[i]? =some u/\kind=(kn:Nat)/\ks[kn]? =some k/\X.wide=(Wn:Nat)/\X.high=(Hn:Nat)/\Fd.Good Wn Hn X.gs X.os/\u.at_=(an:Nat)/\an<Wn*Hn
  /\dK (Fd.near Wn Hn) (λi _=>(X.gs.map λg=>Fd.onto g k.f).getD i 0) an (Wn*Hn) l/\nU l (Wn*Hn) (Gf X.us) c F)
theorem QY(vk vw:Value)(ks:List KV)(X:WV)(unit kind:Int)(w:World)(hk:Kl w vk ks)(hb:∀k∈ks,k.b.size<=9223372036854775807)(hw:Wl w vw X)(hs:Sd w):
  Calls prog 155 #[vk,vw,int i64 unit,int i64 kind] w λe w'=>∃c r F,e=.returned (.tuple #[int i64 c,r])/\Er r F/\nV ks X unit kind c F/\Below w.heap.size w w':=by
 have K:Hid (Kl w vk ks/\∀k∈ks,k.b.size<=9223372036854775807):=⟨hk,hb⟩;have H:=aj (hw);have S:=aj (hs);obtain⟨p1,q1,p2,q2,p3,q3,p4,q4,p5,q5,rfl⟩:=aX hw;obtain⟨pk,qk,rfl,ck1,ck2,kc⟩:=hk;have KC:=aj (kc);clear hb hw hs kc;go_enter func155,ntmps155;go_upto_region 1 with fail
 have B0:Hid (Below _ w (w.alloc (cells #[int i64 X.turn,int i64 X.next,int i64 X.wide,int i64 X.high,slice p1 X.gs.length q1,slice p2 X.os.length q2,slice p3 X.gold.length q3,slice p4 X.us.length q4,slice p5 X.qs.length q5] 29))):=aA;have X0:Hid (Bw _ w.heap.size X (slice p1 X.gs.length q1) (slice p2 X.os.length q2) (slice p3 X.gold.length q3) (slice p4 X.us.length q4) (slice p5 X.qs.length q5)):=Bw.mk' X _ _ _ _ _ rfl;generalize (w.alloc _)=w0 at *;obtain⟨x0,x1,x2,x3,x4,x5,x6,x7,x8⟩:=X0.out;go_wp2_with fail
 refine(gY _ _ ks X w0 (K.1.below B0) K.2 (H.below B0)).mono ?_;rintro e w1 ⟨r,rfl,hr,hb⟩;obtain⟨fw,hfw⟩:∃f,Wd.aP ks X=f:=⟨_,rfl⟩;have FW:=aj (hfw);rw[hfw] at hr;have B1:=aG B0 hb;have X1:=aj (X0.below hb X0.lt);clear hb hfw x0 x1 x2 x3 x4 x5 x6 x7 x8 X0 B0;rcases hr with⟨rfl,rfl⟩|⟨hf,rfl⟩
 case inr=>
  have HF:=aj (hf);clear hf;go_wp2;go_ret2;exact⟨0,_,fw,rfl,Er.no HF,.inl (by rw[FW.out];exact⟨HF,rfl,rfl⟩),B1⟩
 obtain⟨x0,x1,x2,x3,x4,x5,x6,x7,x8⟩:=X1.out;go_wp2_with fail
 refine(rO _ X unit w1 (H.below B1)).mono ?_;rintro e w2 ⟨r,rfl,hf,hb⟩;have B2:=aG B1 hb;have X2:=aj (X1.below hb X1.lt);have FI:=aj (hf);clear hb x0 x1 x2 x3 x4 x5 x6 x7 x8 X1 B1;rcases hf with⟨rfl,hno⟩|⟨i,u,rfl,hi,hid,-⟩
 ·have NO:=aj (hno)
  clear hno;go_wp2;go_ret2;exact⟨0,_,6,rfl,Er.no (by decide),.inr (.inl ⟨FW,NO,rfl,rfl⟩),B2⟩
 have AN:Hid (X.us.any (λu=>u.id==unit)=true):=gK.2 ⟨u,aT hi,hid⟩;have UI:=aj (hi);have hil:=(aK.1 hi).1;clear hi hid;by_cases hk0:kind<0
 ·go_wp2
  go_ret2;exact⟨0,_,1,rfl,Er.no (by decide),.inr (.inr (.inl ⟨FW,AN,by omega,rfl,rfl⟩)),B2⟩
 by_cases hk1:(ks.length:Int)<=kind
 ·go_wp2
  go_ret2;exact⟨0,_,1,rfl,Er.no (by decide),.inr (.inr (.inl ⟨FW,AN,by omega,rfl,rfl⟩)),B2⟩
 obtain⟨kn,rfl⟩:∃n:Nat,kind=n:=⟨kind.toNat,by omega⟩;have hkl:kn<ks.length:=by omega
 obtain⟨k,hkk⟩:∃k,ks[kn]? =some k:=⟨_,aH hkl⟩;have WR:=aj (bY FW);obtain⟨Wn,Hn,e1,e2,G⟩:=WR.good;obtain⟨k0,fu⟩:=WR.fine UI;have hat:=fu.at_;obtain⟨an,han⟩:∃n:Nat,u.at_=n:=⟨u.at_.toNat,by omega⟩;have GD:Hid (X.wide=(Wn:Nat)/\X.high=(Hn:Nat)/\Fd.Good Wn Hn X.gs X.os/\u.at_=(an:Nat)/\an<Wn*Hn/\ks[kn]? =some k):=⟨e1,e2,G,han,by have:=G.gl;omega,hkk⟩;obtain⟨pa,pc,he,-,-,hu⟩:=H.slices.2.2.2.1;obtain⟨xu,hxu,aa8,aa9⟩:=hu (by intro h;rw[h] at hil;simp at hil);injection he with he1 he2 he3
 subst he1;subst hxu;obtain⟨xk,hxk,hxl,hxc⟩:=KC (by intro h;subst h;simp at hkl);subst hxk;have UK:Hid (fA w (xu.add (i*8)) u/\(xu.add (i*8)).block<w.heap.size/\Kc w (xk.add (kn*11)) k/\(xk.add (kn*11)).block<w.heap.size):=⟨aa9 i u UI,by rw[add_block];exact aa8,hxc kn k hkk,by rw[add_block];exact hxl⟩;clear hu he2 he3 aa8 aa9 hxl hxc e1 e2 G fu hat hkk KC han;go_upto_region 10 with fail
 refine aV [(true,0),(true,1),(true,2),(true,3),(true,4),(true,5),(true,6),(true,7),(true,8),(true,9),(true,10),(true,11),(true,12),(true,13),(false,14)] [(true,15),(true,16),(true,17),(false,18)] (λV=>Bw V w.heap.size X (slice p1 X.gs.length q1) (slice p2 X.os.length q2) (slice p3 X.gold.length q3) (slice (some xu) X.us.length q4) (slice p5 X.qs.length q5)/\V.cell? ⟨(xu.add (i*8)).block,(xu.add (i*8)).off+3,none⟩=some (int i64 u.at_)/\V.cell? ⟨(xk.add (kn*11)).block,(xk.add (kn*11)).off+9,none⟩=some (.bool k.f)) (by kernel_rfl) (by kernel_rfl) (by kernel_rfl) (by decide+kernel) (by decide+kernel) ?_ ?_
 ·exact⟨X2.below (aB.drew) X2.lt,(UK.1.below B2 UK.2.1).c3,(UK.2.2.1.below B2 UK.2.2.2).c9⟩
 have X3:Hid (Bw {w2 with drawn:=w2.drawn+1} _ X _ _ _ _ _):=X2.below (aB.drew) X2.lt;have B3:Hid (Below _ w {w2 with drawn:=w2.drawn+1}):=B2.drew;generalize ({w2 with drawn:=w2.drawn+1}:World)=w3 at *;clear X2 B2;refine au rfl (.pointer (some ⟨w.heap.size,2,none⟩)) (by go_simp) (λV hV=>by go_simp) ?_;go_simp;refine au rfl (.agg #[int i64 X.wide,int i64 X.high,slice p1 X.gs.length q1,slice p2 X.os.length q2]) (by go_simp) (λV hV=>by obtain⟨⟨x0,x1,x2,x3,x4,x5,x6,x7,x8⟩,cu,ck⟩:=hV;go_simp) ?_;go_simp;refine au rfl (.pointer (some ⟨w.heap.size,7,none⟩)) (by go_simp) (λV hV=>by go_simp) ?_;go_simp;refine au rfl (slice (some xu) X.us.length q4) (by go_simp) (λV hV=>by obtain⟨⟨x0,x1,x2,x3,x4,x5,x6,x7,x8⟩,cu,ck⟩:=hV;go_simp) ?_;go_simp;refine au rfl (int i64 (i:Nat)) (by go_simp) (λV hV=>by go_simp) ?_;go_simp;refine au rfl (.pointer (some (xu.add (i*8)))) (by go_simp) (λV hV=>by go_simp) ?_;go_simp;refine au rfl (.pointer (some ⟨(xu.add (i*8)).block,(xu.add (i*8)).off+3,none⟩)) (by go_simp) (λV hV=>by go_simp) ?_;go_simp;refine au rfl (int i64 u.at_) (by go_simp) (λV hV=>by obtain⟨⟨x0,x1,x2,x3,x4,x5,x6,x7,x8⟩,cu,ck⟩:=hV;go_simp) ?_;go_simp;refine au rfl (slice (some xk) ks.length qk) (by go_simp) (λV hV=>by go_simp) ?_;go_simp;refine au rfl (int i64 (kn:Nat)) (by go_simp) (λV hV=>by go_simp) ?_;go_simp;refine au rfl (.pointer (some (xk.add (kn*11)))) (by go_simp) (λV hV=>by go_simp) ?_;go_simp;refine au rfl (.pointer (some ⟨(xk.add (kn*11)).block,(xk.add (kn*11)).off+9,none⟩)) (by go_simp) (λV hV=>by go_simp) ?_;go_simp;refine au rfl (.bool k.f) (by go_simp) (λV hV=>by obtain⟨⟨x0,x1,x2,x3,x4,x5,x6,x7,x8⟩,cu,ck⟩:=hV;go_simp) ?_;go_simp;refine au rfl (.func (Fn.func 192) #[] #[.pointer (some ⟨w.heap.size,0,none⟩)]) (by go_simp) (λV hV=>by go_simp) ?_;go_simp;refine dH rfl 194 #[.agg #[int i64 X.wide,int i64 X.high,slice p1 X.gs.length q1,slice p2 X.os.length q2],int i64 u.at_,.bool k.f,.func (Fn.func 192) #[] #[.pointer (some ⟨w.heap.size,0,none⟩)]] (by go_simp) (by go_simp) ?_;have FL:Hid (Fl w3 (.agg #[int i64 X.wide,int i64 X.high,slice p1 X.gs.length q1,slice p2 X.os.length q2]) (Wn:Nat) (Hn:Nat) X.gs X.os):=by
  have:=sN (H.below B3);rw[GD.out.1,GD.out.2.1] at this;rw[GD.out.1,GD.out.2.1];exact this
 have UL:=aj (H.slices.2.2.2.1);rw[GD.out.2.2.2.1];refine(FX 192 (by intro args w;go_simp) #[.pointer (some ⟨w.heap.size,0,none⟩)] (Gf X.us) _ Wn Hn X.gs X.os an k.f w3 FL (S.below B3) GD.2.2.1 GD.2.2.2.2.1
  (λV hV x=>QW X.us x w.heap.size _ V (X3.below hV X3.lt).c7 ((UL.below B3).below hV))).mono ?_
 rintro e w4 ⟨l,c,r,F,rfl,hl,hr,hn,hb⟩;have B4:=aG B3 hb;have X4:=aj (X3.below hb X3.lt);have NS:=aj (fQ hl hr hn);refine⟨_,rfl,⟨X4,(by have:=(UK.1.below B4 UK.2.1).c3;rw[GD.out.2.2.2.1] at this;exact this),(UK.2.2.1.below B4 UK.2.2.2).c9⟩,?_⟩;clear hb hl hr hn X3 B3 FL;go_simp;refine aQ rfl (int i64 c) (by go_simp) (λV hV=>by go_simp) ?_;go_simp;refine aQ rfl r (by go_simp) (λV hV=>by go_simp) ?_;go_simp;refine aQ rfl (int i64 c) (by go_simp) (λV hV=>by go_simp) ?_;go_simp;refine aW rfl r w4 (by go_simp) (by go_simp) trivial ?_;go_simp;unfold bC;go_wp2;go_ret2;exact⟨c,r,F,rfl,NS.2.1,.inr (.inr (.inr ⟨FW,i,kn,Wn,Hn,an,u,k,l,FI,UI,rfl,GD.2.2.2.2.2,GD.1,GD.2.1,GD.2.2.1,GD.2.2.2.1,GD.2.2.2.2.1,NS.1,NS.2.2⟩)),B4⟩
end
section
open Go.RowKit
variable {w w':World} {y:Addr}
structure dZ where
 what:Int
 unit:Int
 arg:Int
def dZ.val(k:dZ):Value:=.agg #[int i64 k.what,int i64 k.unit,int i64 k.arg]
structure uP(w:World)(y:Addr)(k:dZ):Prop where
 c0:w.cell? y=some (int i64 k.what)
 c1:w.cell? ⟨y.block,y.off+1,none⟩=some (int i64 k.unit)
 c2:w.cell? ⟨y.block,y.off+2,none⟩=some (int i64 k.arg)
theorem uP.lt{k:dZ}(h:uP w y k):y.block<w.heap.size:=cell_lt h.c0
theorem uP.below{k:dZ}{B:Nat}(h:uP w y k)(hb:Below B w w')(hy:y.block<B):uP w' y k:=
 ⟨by rw[hb.cell (p:=y) hy];exact h.c0,by rw[hb.cell (p:=⟨y.block,y.off+1,none⟩) hy];exact h.c1,by rw[hb.cell (p:=⟨y.block,y.off+2,none⟩) hy];exact h.c2⟩
def Evl(w:World)(v:Value)(ks:List dZ):Prop:=∃a c,v=slice a ks.length c/\ks.length<=c/\c<=9223372036854775807/\(ks≠[]->∃x,a=some x/\x.block<w.heap.size/\∀(i:Nat) k,ks[i]? =some k->uP w (x.add (i*3)) k)
theorem Evl.below{v:Value}{ks:List dZ}(h:Evl w v ks)(hb:Below w.heap.size w w'):Evl w' v ks:=by
 obtain⟨a,c,h1,h2,h3,h4⟩:=h;refine⟨a,c,h1,h2,h3,λhn=>?_⟩;obtain⟨x,e,hx,hk⟩:=h4 hn;exact⟨x,e,fE hx hb.size,λi k hi=>(hk i k hi).below hb (by rw[add_block];exact hx)⟩
theorem uP.mk'{z:Nat}(k:dZ)(hz:w.heap.size=z):uP (w.alloc (.cells #[int i64 k.what,int i64 k.unit,int i64 k.arg] 169)) ⟨z,0,none⟩ k:=by
 subst hz;constructor<;>simp
end
section
variable {B base cap g i n q size z:Nat} {T:TypeId} {X Y:WV} {a b c w w':World} {es:List dZ} {k:KV} {ks:List aI} {o u:aI} {ops:Array Oper} {p y:Addr} {qs:List bM} {r:Option Nat} {rest:List Value} {u1 u2 u3 u4 u5 v:Value} {x:Int} {xs:List Int}
def rV(l:List bM)(u:Int):Nat:=l.countP (λj=>decide (j.unit=u))
theorem LM{l:List bM}{j:bM}(h:l[q]? =some j)(u:Int):rV (l.take (q+1)) u=rV (l.take q) u+if j.unit=u then 1 else 0:=by
 unfold rV;rw[List.take_add_one,h,List.countP_append];simp[List.countP_cons]
def pR(l:List bM)(j:bM):bM:=if rV l j.unit=0 then{j with left:=j.left-1} else j
def one1(j:bM):bM:={j with left:=1}
def Comes(ks:List KV)(Y:WV)(j:bM)(c:Int):Prop:=nV ks Y j.unit j.kind c 0/\Wd.bV ks Y j.ay j.kind c=0
def pU(ks:List KV)(Y:WV)(j:bM):Prop:=∃c F,nV ks Y j.unit j.kind c F/\(F≠0\/Wd.bV ks Y j.ay j.kind c≠0)
inductive Tr (ks:List KV) (X:WV):Nat->WV->List dZ->List bM->Prop
 |zero:Tr ks X 0 X [] []
 |wait {q:Nat} {Y:WV} {es:List dZ} {qs:List bM} {j:bM}:Tr ks X q Y es qs->X.qs[q]? =some j->(pR (X.qs.take q) j).left≠0->Tr ks X (q+1) Y es (qs++[pR (X.qs.take q) j])
 |come {q:Nat} {Y:WV} {es:List dZ} {qs:List bM} {j:bM} {c:Int}:Tr ks X q Y es qs->X.qs[q]? =some j->(pR (X.qs.take q) j).left=0->Comes ks Y j c->Tr ks X (q+1) (Wd.put ks Y j.ay j.kind c) (es++[⟨6,Y.next,c⟩]) qs
 |stay {q:Nat} {Y:WV} {es:List dZ} {qs:List bM} {j:bM}:Tr ks X q Y es qs->X.qs[q]? =some j->(pR (X.qs.take q) j).left=0->pU ks Y j->Tr ks X (q+1) Y es (qs++[one1 j])
theorem Tr.keep{ks:List KV}(h:bH ks X)(t:Tr ks X q Y es qs):bH ks Y/\Y.qs=X.qs/\es.length<=q/\qs.length<=q/\Y.turn=X.turn/\Y.wide=X.wide/\Y.high=X.high/\Y.gs=X.gs/\Y.os=X.os/\Y.gold=X.gold:=by
 induction t with
 |zero=>exact⟨h,rfl,by simp,by simp,rfl,rfl,rfl,rfl,rfl,rfl⟩
 |wait _ _ _ ih=>
  obtain⟨i1,i2,i3,i4,i5⟩:=ih;exact⟨i1,i2,by omega,by simp;omega,i5⟩
 |come _ _ _ hc ih=>
  obtain⟨i1,i2,i3,i4,i5⟩:=ih;exact⟨bY (LD i1 hc.2),i2,by simp;omega,by omega,i5⟩
 |stay _ _ _ _ ih=>
  obtain⟨i1,i2,i3,i4,i5⟩:=ih;exact⟨i1,i2,by omega,by simp;omega,i5⟩
theorem Tr.count{ks:List KV}(t:Tr ks X q Y es qs):Y.us.length=X.us.length+es.length/\Y.next=X.next+(es.length:Int)/\qs.length+es.length=q:=by
 induction t with
 |zero=>simp
 |wait _ _ _ ih=>obtain⟨i1,i2,i3⟩:=ih;exact⟨i1,i2,by simp;omega⟩
 |come _ _ _ _ ih=>
  obtain⟨i1,i2,i3⟩:=ih;refine⟨?_,?_,by simp;omega⟩
  ·simp only[Wd.put,aC,dI,aS]
   omega
  ·simp only[Wd.put,aC,dI,aS,i2]
   omega
 |stay _ _ _ _ ih=>obtain⟨i1,i2,i3⟩:=ih;exact⟨i1,i2,by simp;omega⟩
def abb(X:WV)(j:bM):Prop:=∃o∈X.qs,j.ay=o.ay/\j.unit=o.unit/\j.kind=o.kind/\j.left≠0/\(j.left=1\/j.left=o.left\/j.left=o.left-1)
theorem Tr.from{ks:List KV}(t:Tr ks X q Y es qs):∀j∈qs,abb X j:=by
 induction t with
 |zero=>intro j hj;cases hj
 | @wait q Y es qs o _ ho hl ih=>
  intro j hj;rcases gJ.1 hj with hj|hj
  ·exact ih j hj
  ·simp only[List.mem_singleton] at hj
   subst hj;refine⟨o,aT ho,?_⟩;unfold pR at hl ⊢;split
   ·rename_i h
    rw[if_pos h] at hl;exact⟨rfl,rfl,rfl,hl,.inr (.inr rfl)⟩
   ·rename_i h
    rw[if_neg h] at hl;exact⟨rfl,rfl,rfl,hl,.inr (.inl rfl)⟩
 |come _ _ _ _ ih=>exact ih
 | @stay q Y es qs o _ ho _ _ ih=>
  intro j hj;rcases gJ.1 hj with hj|hj
  ·exact ih j hj
  ·simp only[List.mem_singleton] at hj
   subst hj;exact⟨o,aT ho,rfl,rfl,rfl,(by show(1:Int)≠0;decide),.inl rfl⟩
theorem QZ{ks:List KV}(h:bH ks X)(t:Tr ks X X.qs.length Y es qs):Wd.aP ks {Y with qs:=qs}=0:=by
 obtain⟨R,eq,-,hq,-⟩:=t.keep h;have hf:=t.from;obtain⟨Wn,Hn,e1,e2,G⟩:=R.good;refine Wd.fZ R.kinds (by show Fd.fault Y.wide Y.high Y.gs Y.os=0;rw[e1,e2];exact Fd.eU G) R.nums R.ul (λi u hu=>?_) (by show qs.length<=12;have:=h.ql;omega) (λj hj=>?_)
 ·obtain⟨k,F⟩:=R.fine hu
  exact⟨k,F.id1,F.id2,F.up,F.p,F.k0,F.kk,F.life,F.load,F.task,F.at_,F.goal,F.opn,F.rest⟩
 ·obtain⟨o,ho,p1,p2,p3,p4,p5⟩:=hf j hj
  have h1:=R.job (j:=o) (by rw[eq];exact ho);unfold Wd.aY at h1 ⊢;show(match Y.us.find? (λu=>u.id==j.unit) with|none=>6|some u=>_)=(0:Int);rw[p2];cases hu:Y.us.find? (λu=>u.id==o.unit) with
  |none=>rw[hu] at h1;exact h1
  |some u=>
   rw[hu] at h1;simp only at h1 ⊢;cases hk:ks[u.kind.toNat]? with
   |none=>rw[hk] at h1;exact h1
   |some k=>
    rw[hk] at h1;simp only at h1 ⊢;rw[p1,p3];split at h1
    ·cases h1
    ·rename_i c1
     rw[if_neg c1];split at h1
     ·cases h1
     ·rename_i c2
      rw[if_neg];simp only[Bool.or_eq_true,Bool.not_eq_true',decide_eq_false_iff_not,not_or,Classical.not_not,Bool.not_eq_false] at c2 ⊢;refine⟨c2.1,?_⟩;have:=c2.2;rcases p5 with e|e|e<;>omega
def JE(ks:List KV)(u:aI):Int:=match ks[u.kind.toNat]? with|some k=>k.n7|none=>0
def dR(ks:List KV)(Y:WV)(u:aI):Int:=if u.task=2/\u.at_=u.goal then min (min (JE ks u-u.load) (Y.os.getD u.at_.toNat 0)) 10 else 0
def lV(u:aI)(n:Int):aI:={u with load:=n}
def jd(Y:WV)(i:Nat)(u:aI)(n:Int):WV:={Y with us:=Y.us.set i (lV u (u.load+n)),os:=Y.os.set u.at_.toNat (Y.os.getD u.at_.toNat 0-n)}
def tk(ks:List KV)(Y:WV):Nat->WV×List dZ
 |0=>(Y,[])
 |q+1=>match (tk ks Y q).1.us[q]? with
  |none=>tk ks Y q
  |some u=>if 0<dR ks (tk ks Y q).1 u then(jd (tk ks Y q).1 q u (dR ks (tk ks Y q).1 u),(tk ks Y q).2++[⟨4,u.id,dR ks (tk ks Y q).1 u⟩]) else tk ks Y q
theorem uQ{ks:List KV}(hu:(tk ks Y q).1.us[q]? =some u)(h:0<dR ks (tk ks Y q).1 u):tk ks Y (q+1)=(jd (tk ks Y q).1 q u (dR ks (tk ks Y q).1 u),(tk ks Y q).2++[⟨4,u.id,dR ks (tk ks Y q).1 u⟩]):=by
 rw[tk];simp only[hu];rw[if_pos h]
theorem Ci{ks:List KV}(hu:(tk ks Y q).1.us[q]? =some u)(h:¬0<dR ks (tk ks Y q).1 u):tk ks Y (q+1)=tk ks Y q:=by
 rw[tk];simp only[hu];rw[if_neg h]
structure mQ(ks:List KV)(Y:WV):Prop where
 wide:∃Wn Hn:Nat,Y.wide=Wn/\Y.high=Hn/\Fd.Good Wn Hn Y.gs Y.os
 units:∀u∈Y.us,(∃kn:Nat,∃k,u.kind=kn/\ks[kn]? =some k/\0<=u.load/\u.load<=k.n7/\k.n7<=1000)/\(∃an:Nat,u.at_=an/\an<Y.os.length)/\∃pn:Nat,u.ay=pn/\pn<Y.gold.length
 gold:∀g∈Y.gold,0<=g/\g<=1000000
 ul:Y.us.length<=40
theorem mQ.zi{ks:List KV}(h:mQ ks Y)(hx:Y.os[i]? =some x):0<=x/\x<=1000000:=by
 obtain⟨Wn,Hn,-,-,G⟩:=h.wide;have hi:=(aK.1 hx).1;have hg:=aH (l:=Y.gs) (i:=i) (by rw[G.gl,<-G.ol];exact hi);have:=G.cell i _ x hg hx;omega
theorem Cj{ks:List KV}(h:Kd.bg (ks.map KV.k)=0):∀k∈ks,0<=k.n7/\k.n7<=1000:=by
 intro k hk;unfold Kd.bg at h;split at h
 ·omega
 ·have h2:=jM h k.k (jg.2 ⟨k,hk,rfl⟩)
  unfold Kd.eu at h2;split at h2
  ·omega
  ·rename_i h3
   rw[Bool.not_eq_true,bK] at h3;have:=h3 k.n7 (by simp[KV.k]);simp only[decide_eq_true_eq] at this;omega
theorem Q_(h:Wd.b_ Y=false):∀g∈Y.gold,0<=g/\g<=1000000:=by
 unfold Wd.b_ at h;simp only[Bool.or_eq_false_iff] at h;obtain⟨-,-,h3,h4⟩:=h;intro g hg;rw[bK] at h4;have:=h4 g hg;unfold Wd.off at this;simp at this;exact this
theorem bH.abd{ks:List KV}(h:bH ks Y):mQ ks Y:=by
 have kc:=Cj h.kinds;obtain⟨Wn,Hn,e1,e2,G⟩:=h.good;refine⟨⟨Wn,Hn,e1,e2,G⟩,λu hu=>?_,Q_ h.nums,h.ul⟩;obtain⟨i,hi⟩:=List.mem_iff_getElem?.1 hu;obtain⟨k,F⟩:=h.fine hi;have hl:Y.os.length=Y.gs.length:=by rw[G.gl,G.ol]
 exact⟨⟨u.kind.toNat,k,by have:=F.k0;omega,F.kk,F.load.1,F.load.2,(kc k (aT F.kk)).2⟩,⟨u.at_.toNat,by have:=F.at_;omega,by have:=F.at_;omega⟩,⟨u.ay.toNat,by have:=F.p;omega,by have:=F.p;omega⟩⟩
theorem uS{ks:List KV}{kn an:Nat}(hk:u.kind=kn)(hkk:ks[kn]? =some k)(ha:u.at_=an)(hx:Y.os[an]? =some x):dR ks Y u=(if u.task=2/\u.at_=u.goal then min (min (k.n7-u.load) x) 10 else 0):=by
 unfold dR JE;rw[hk,ha,bF,bF];simp only[hkk,dD,hx,Option.getD_some]
theorem mQ.take{ks:List KV}(h:mQ ks Y)(hu:Y.us[i]? =some u)(hn:0<dR ks Y u):mQ ks (jd Y i u (dR ks Y u)):=by
 obtain⟨⟨kn,k,e1,e2,l1,l2,l3⟩,⟨an,e3,hal⟩,pn,e4,hpl⟩:=h.units u (aT hu);obtain⟨x,hx⟩:∃x,Y.os[an]? =some x:=⟨_,aH hal⟩;have ey:=uS (ks:=ks) (Y:=Y) e1 e2 e3 hx;have hox:=h.zi hx;have hy:dR ks Y u<=k.n7-u.load/\dR ks Y u<=x:=by
  rw[ey] at hn ⊢;split
  ·omega
  ·rename_i hh;rw[if_neg hh] at hn;omega
 have eg:Y.os.getD u.at_.toNat 0=x:=by rw[e3,bF,dD,hx,Option.getD_some]
 refine⟨?_,λv hv=>?_,h.gold,by simpa[jd] using h.ul⟩
 ·obtain⟨Wn,Hn,a1,a2,G⟩:=h.wide
  refine⟨Wn,Hn,a1,a2,⟨G.w1,G.w2,G.h1,G.h2,G.gl,by simpa[jd] using G.ol,λj g o hg ho=>?_⟩⟩;unfold jd at ho;simp only at ho;rw[eg,e3,bF,kJ] at ho;split at ho
  ·rename_i ej
   subst ej;injection ho with ho
   have c:=G.cell an g x hg hx;refine⟨c.1,c.2.1,by omega,by omega,λh9=>c.2.2.2.2 (by omega)⟩
  ·exact G.cell j g o hg ho
 ·have hlen:(jd Y i u (dR ks Y u)).os.length=Y.os.length:=by simp[jd]
  rw[hlen];rcases List.mem_or_eq_of_mem_set hv with hv|rfl
  ·exact h.units v hv
  ·exact⟨⟨kn,k,e1,e2,by show 0<=u.load+_;omega,by show u.load+_<=_;omega,l3⟩,⟨an,e3,hal⟩,pn,e4,hpl⟩
def TkK(Y Z:WV):Prop:=Z.turn=Y.turn/\Z.next=Y.next/\Z.wide=Y.wide/\Z.high=Y.high/\Z.gs=Y.gs/\Z.gold=Y.gold/\Z.qs=Y.qs/\Z.us.length=Y.us.length/\Z.os.length=Y.os.length
theorem zy{ks:List KV}{Y:WV}:∀q,TkK Y (tk ks Y q).1
 |0=>⟨rfl,rfl,rfl,rfl,rfl,rfl,rfl,rfl,rfl⟩
 |q+1=>by
  have ih:=zy (ks:=ks) (Y:=Y) q;cases hu:(tk ks Y q).1.us[q]? with
  |none=>rw[tk];simp only[hu];exact ih
  |some u=>
   by_cases h:0<dR ks (tk ks Y q).1 u
   ·rw[uQ hu h]
    obtain⟨a1,a2,a3,a4,a5,a6,a7,a8,a9⟩:=ih;exact⟨a1,a2,a3,a4,a5,a6,a7,by simpa[jd] using a8,by simpa[jd] using a9⟩
   ·rw[Ci hu h];exact ih
theorem Rf{ks:List KV}{Y:WV}(h:mQ ks Y):∀q,mQ ks (tk ks Y q).1
 |0=>h
 |q+1=>by
  have ih:=Rf h q;cases hu:(tk ks Y q).1.us[q]? with
  |none=>rw[tk];simp only[hu];exact ih
  |some u=>
   by_cases hh:0<dR ks (tk ks Y q).1 u
   ·rw[uQ hu hh];exact ih.take hu hh
   ·rw[Ci hu hh];exact ih
theorem zA{ks:List KV}{Y:WV}:∀q,(tk ks Y q).2.length<=q
 |0=>by simp[tk]
 |q+1=>by
  have ih:=zA (ks:=ks) (Y:=Y) q;cases hu:(tk ks Y q).1.us[q]? with
  |none=>rw[tk];simp only[hu];omega
  |some u=>
   by_cases h:0<dR ks (tk ks Y q).1 u
   ·rw[uQ hu h];simp;omega
   ·rw[Ci hu h];omega
open Go.RowKit
theorem jE(ks:List aI):(ks.flatMap aI.cs).length=ks.length*8:=by
 induction ks with
 |nil=>rfl
 |cons x l ih=>rw[List.flatMap_cons,aC,ih,dI,Nat.succ_mul,Nat.add_comm];rfl
theorem Xd(hc:∀(i:Nat) k,ks[i]? =some k->fA w (y.add (i*8)) k)(j:Nat)(u:Value)(hj:(ks.flatMap aI.cs)[j]? =some u):w.cell? (y.add j)=some u:=by
 have hjl:j<ks.length*8:=by rw[<-jE];exact(aK.1 hj).1
 obtain⟨i,r,hr,rfl⟩:∃i r,r<8/\j=i*8+r:=⟨j/8,j%8,Nat.mod_lt _ (by decide),by omega⟩;have hi:i<ks.length:=by omega
 obtain⟨k,hk⟩:∃k,ks[i]? =some k:=⟨_,aH hi⟩;rw[qA ks i r k hk hr] at hj;have h:=hc i k hk;rcases Nat.eq_zero_or_pos r with rfl|hr0
 ·simp[aI.cs] at hj
  subst hj;exact h.c0
 ·have ea:y.add (i*8+r)=⟨(y.add (i*8)).block,(y.add (i*8)).off+r,none⟩:=by
   unfold Addr.add;rw[if_neg (by omega)];split<;>simp<;>omega
  rw[ea]
  match r,hr,hr0,hj with
  |1,_,_,hj=>simp[aI.cs] at hj;subst hj;exact h.c1
  |2,_,_,hj=>simp[aI.cs] at hj;subst hj;exact h.c2
  |3,_,_,hj=>simp[aI.cs] at hj;subst hj;exact h.c3
  |4,_,_,hj=>simp[aI.cs] at hj;subst hj;exact h.c4
  |5,_,_,hj=>simp[aI.cs] at hj;subst hj;exact h.c5
  |6,_,_,hj=>simp[aI.cs] at hj;subst hj;exact h.c6
  |7,_,_,hj=>simp[aI.cs] at hj;subst hj;exact h.c7
theorem JF{rest:List Oper}{o:Oper}{a:Act}{Q:Exit->Act->World->Prop}(w:World)(hgd:o.guard=none)(s x:Operand)
  (ho:o.op=.call {callee:=.builtin .append,args:= #[s,x],argTypes:= #[26,26]}) (base:Nat) (v:Value) (ks:List aI) (hs:a.eval s=v) (hown:fD w base v ks)
  (u:Value) (ys:List aI) (hx:a.eval x=u) (hu:oP w u ys) (hl:ks.length+ys.length<=100000000) (hbase:base<=w.heap.size)
  (h:∀v' w',fD w' base v' (ks++ys)->w.grownBy w' v.ownBlock->(v'.ownBlock=v.ownBlock\/v'.ownBlock=some w.heap.size)->wpList prog ops Q rest (a.put o.dst v') w'):
  wpList prog ops Q (o::rest) a w:=by
 obtain⟨i0,hi,hz0,hz1,hz2⟩:=info_parts yU;obtain⟨ad,c,rfl,h1,h2,h3⟩:=hu;by_cases hn:ys=[]
 ·subst hn
  refine wpList_plain hgd λK hK=>?_
  have hrun:=jI (P:=prog) (w:=w) base 26 o.type 74 i0 8 underlying26 hi v ks.length _ hown ad c;have hx':a.eval x=slice ad 0 c:=hx;unfold Oper.wp;simp[execOp,ho,resolve,invoke,builtin,hs,hx',hrun,Result.andThen];exact hK _ _ (h v w (by simpa using hown) (World.grownBy.refl _ _) (.inl rfl))
 ·obtain⟨y,rfl,hy,hc⟩:=h3 hn
  refine wpList_append_lies w hgd s x 26 ho _ 74 i0 _ 8 64 underlying26 hi hz0 hz1 hz2 rfl (by decide) v _ _ hs hown y _ c _ hx (jE ys) (Xd hc) ?_ (List.length_pos_iff.2 hn) (by unfold maxLen;omega) (by omega) hbase _ rfl ?_
  ·intro u hu
   obtain⟨k,-,hk⟩:=List.mem_flatMap.1 hu;simp[aI.cs] at hk;rcases hk with rfl|rfl|rfl|rfl|rfl|rfl|rfl|rfl<;>rfl
  ·intro g cap w' k1 k2 k3 _
   refine h _ w' ?_ k2 ?_
   ·unfold fD
    rw[aC,fM];exact k1
   ·rcases k3 with k3|k3
    ·exact .inl k3.symm
    ·exact .inr (by rw[k3];rfl)
def Ub(w:World)(g:Nat)(ks:List aI)(rest:List Value):Prop:=w.heap[g]? =some (.cells (ks.flatMap aI.cs++rest).toArray 74 (0,0))
theorem Ub.lt(h:Ub w g ks rest):g<w.heap.size:=lt_of_block h
theorem Ub.thaw(h:Ub w g ks rest)(i:Nat):w.frozen? ⟨g,i,none⟩=false:=by
 unfold Ub at h;simp[World.frozen?,h]
theorem Ub.below(h:Ub w g ks rest)(hb:Below B w w')(hB:g<B):Ub w' g ks rest:=by
 unfold Ub at *;rw[hb.block g hB];exact h
theorem Ub.at_(h:Ub w g ks rest)(ho:ks[i]? =some o){j:Nat}(hj:j<8):w.cell? ⟨g,i*8+j,none⟩=o.cs[j]? :=by
 unfold Ub at h;have hi:=(aK.1 ho).1;simp only[World.cell?,h];have e:(ks.flatMap aI.cs++rest).toArray[i*8+j]? =o.cs[j]? :=by
  rw[List.getElem?_toArray,iV (by rw[jE];omega),qA ks i j o ho hj]
 simp only[e];simp
theorem Ub.pV(h:Ub w g ks rest)(ho:ks[i]? =some o):fA w ⟨g,i*8,none⟩ o:=
 ⟨h.at_ ho (j:=0) (by decide),h.at_ ho (j:=1) (by decide),h.at_ ho (j:=2) (by decide),h.at_ ho (j:=3) (by decide),h.at_ ho (j:=4) (by decide),h.at_ ho (j:=5) (by decide),h.at_ ho (j:=6) (by decide),h.at_ ho (j:=7) (by decide)⟩
theorem xW:∀(ks:List aI) (i:Nat) (o:aI) (rest:List Value),i<ks.length->
  (ks.set i o).flatMap aI.cs++rest=((((((((ks.flatMap aI.cs++rest).set (i*8) (int i64 o.id)).set (i*8+1) (int i64 o.ay)).set (i*8+2) (int i64 o.kind)).set (i*8+3) (int i64 o.at_)).set (i*8+4) (int i64 o.life)).set (i*8+5) (int i64 o.load)).set (i*8+6) (int i64 o.task)).set (i*8+7) (int i64 o.goal)
 |[],i,o,rest,h=>by simp at h
 |k::ks,0,o,rest,_=>by
  simp[aI.cs]
 |k::ks,i+1,o,rest,h=>by
  have ih:=xW ks i o rest (by simpa using h);rw[show(i+1)*8=i*8+8 by omega,show i*8+8+1=i*8+1+8 by omega,show i*8+8+2=i*8+2+8 by omega,show i*8+8+3=i*8+3+8 by omega,show i*8+8+4=i*8+4+8 by omega,show i*8+8+5=i*8+5+8 by omega,show i*8+8+6=i*8+6+8 by omega,show i*8+8+7=i*8+7+8 by omega,List.set_cons_succ,List.flatMap_cons,bT,ih,List.flatMap_cons];simp[aI.cs]
theorem Ub.put(h:Ub w g ks rest)(hi:i<ks.length)(o:aI):
  Ub ((((((((w.setCell ⟨g,i*8,none⟩ (int i64 o.id)).setCell ⟨g,i*8+1,none⟩ (int i64 o.ay)).setCell ⟨g,i*8+2,none⟩ (int i64 o.kind)).setCell ⟨g,i*8+3,none⟩ (int i64 o.at_)).setCell ⟨g,i*8+4,none⟩ (int i64 o.life)).setCell ⟨g,i*8+5,none⟩ (int i64 o.load)).setCell ⟨g,i*8+6,none⟩ (int i64 o.task)).setCell ⟨g,i*8+7,none⟩ (int i64 o.goal)) g (ks.set i o) rest:=by
 unfold Ub at *;have h0:=heap_setCell_same w g (i*8) _ _ (int i64 o.id) h;have h1:=heap_setCell_same _ g (i*8+1) _ _ (int i64 o.ay) h0;have h2:=heap_setCell_same _ g (i*8+2) _ _ (int i64 o.kind) h1;have h3:=heap_setCell_same _ g (i*8+3) _ _ (int i64 o.at_) h2;have h4:=heap_setCell_same _ g (i*8+4) _ _ (int i64 o.life) h3;have h5:=heap_setCell_same _ g (i*8+5) _ _ (int i64 o.load) h4;have h6:=heap_setCell_same _ g (i*8+6) _ _ (int i64 o.task) h5;have h7:=heap_setCell_same _ g (i*8+7) _ _ (int i64 o.goal) h6;rw[h7,xW ks i o rest hi];simp
theorem uT{W:World}(o:aI)(h:Below B w W)(hb:B<=g):Below B w ((((((((W.setCell ⟨g,i*8,none⟩ (int i64 o.id)).setCell ⟨g,i*8+1,none⟩ (int i64 o.ay)).setCell ⟨g,i*8+2,none⟩ (int i64 o.kind)).setCell ⟨g,i*8+3,none⟩ (int i64 o.at_)).setCell ⟨g,i*8+4,none⟩ (int i64 o.life)).setCell ⟨g,i*8+5,none⟩ (int i64 o.load)).setCell ⟨g,i*8+6,none⟩ (int i64 o.task)).setCell ⟨g,i*8+7,none⟩ (int i64 o.goal)):=
 (((((((h.setCell (p:=⟨g,i*8,none⟩) hb _).setCell (p:=⟨g,i*8+1,none⟩) hb _).setCell (p:=⟨g,i*8+2,none⟩) hb _).setCell (p:=⟨g,i*8+3,none⟩) hb _).setCell (p:=⟨g,i*8+4,none⟩) hb _).setCell (p:=⟨g,i*8+5,none⟩) hb _).setCell (p:=⟨g,i*8+6,none⟩) hb _).setCell (p:=⟨g,i*8+7,none⟩) hb _
theorem uU:∀(ks:List aI) (i:Nat) (o:aI) (a:Int) (rest:List Value),ks[i]? =some o->(ks.set i {o with at_:=a}).flatMap aI.cs++rest=(ks.flatMap aI.cs++rest).set (i*8+3) (int i64 a)
 |[],i,o,a,rest,h=>by simp at h
 |k::ks,0,o,a,rest,h=>by
  simp at h;subst h;simp[aI.cs]
 |k::ks,i+1,o,a,rest,h=>by
  have ih:=uU ks i o a rest (by simpa using h);rw[show(i+1)*8+3=i*8+3+8 by omega,List.set_cons_succ,List.flatMap_cons,bT,ih,List.flatMap_cons];simp[aI.cs]
theorem Ub.Ls(h:Ub w g ks rest)(ho:ks[i]? =some o)(a:Int):Ub (w.setCell ⟨g,i*8+3,none⟩ (int i64 a)) g (ks.set i {o with at_:=a}) rest:=by
 unfold Ub at *;have h0:=heap_setCell_same w g (i*8+3) _ _ (int i64 a) h;rw[h0,uU ks i o a rest ho];simp
theorem uV:∀(ks:List aI) (i:Nat) (o:aI) (a:Int) (rest:List Value),ks[i]? =some o->(ks.set i {o with life:=a}).flatMap aI.cs++rest=(ks.flatMap aI.cs++rest).set (i*8+4) (int i64 a)
 |[],i,o,a,rest,h=>by simp at h
 |k::ks,0,o,a,rest,h=>by
  simp at h;subst h;simp[aI.cs]
 |k::ks,i+1,o,a,rest,h=>by
  have ih:=uV ks i o a rest (by simpa using h);rw[show(i+1)*8+4=i*8+4+8 by omega,List.set_cons_succ,List.flatMap_cons,bT,ih,List.flatMap_cons];simp[aI.cs]
theorem Ub.Wq(h:Ub w g ks rest)(ho:ks[i]? =some o)(a:Int):Ub (w.setCell ⟨g,i*8+4,none⟩ (int i64 a)) g (ks.set i {o with life:=a}) rest:=by
 unfold Ub at *;have h0:=heap_setCell_same w g (i*8+4) _ _ (int i64 a) h;rw[h0,uV ks i o a rest ho];simp
theorem uX:∀(ks:List aI) (i:Nat) (o:aI) (a:Int) (rest:List Value),ks[i]? =some o->(ks.set i {o with load:=a}).flatMap aI.cs++rest=(ks.flatMap aI.cs++rest).set (i*8+5) (int i64 a)
 |[],i,o,a,rest,h=>by simp at h
 |k::ks,0,o,a,rest,h=>by
  simp at h;subst h;simp[aI.cs]
 |k::ks,i+1,o,a,rest,h=>by
  have ih:=uX ks i o a rest (by simpa using h);rw[show(i+1)*8+5=i*8+5+8 by omega,List.set_cons_succ,List.flatMap_cons,bT,ih,List.flatMap_cons];simp[aI.cs]
theorem Ub.Qp(h:Ub w g ks rest)(ho:ks[i]? =some o)(a:Int):Ub (w.setCell ⟨g,i*8+5,none⟩ (int i64 a)) g (ks.set i {o with load:=a}) rest:=by
 unfold Ub at *;have h0:=heap_setCell_same w g (i*8+5) _ _ (int i64 a) h;rw[h0,uX ks i o a rest ho];simp
theorem uY:∀(ks:List aI) (i:Nat) (o:aI) (a:Int) (rest:List Value),ks[i]? =some o->(ks.set i {o with task:=a}).flatMap aI.cs++rest=(ks.flatMap aI.cs++rest).set (i*8+6) (int i64 a)
 |[],i,o,a,rest,h=>by simp at h
 |k::ks,0,o,a,rest,h=>by
  simp at h;subst h;simp[aI.cs]
 |k::ks,i+1,o,a,rest,h=>by
  have ih:=uY ks i o a rest (by simpa using h);rw[show(i+1)*8+6=i*8+6+8 by omega,List.set_cons_succ,List.flatMap_cons,bT,ih,List.flatMap_cons];simp[aI.cs]
theorem Ub.Qq(h:Ub w g ks rest)(ho:ks[i]? =some o)(a:Int):Ub (w.setCell ⟨g,i*8+6,none⟩ (int i64 a)) g (ks.set i {o with task:=a}) rest:=by
 unfold Ub at *;have h0:=heap_setCell_same w g (i*8+6) _ _ (int i64 a) h;rw[h0,uY ks i o a rest ho];simp
theorem uZ:∀(ks:List aI) (i:Nat) (o:aI) (a:Int) (rest:List Value),ks[i]? =some o->(ks.set i {o with goal:=a}).flatMap aI.cs++rest=(ks.flatMap aI.cs++rest).set (i*8+7) (int i64 a)
 |[],i,o,a,rest,h=>by simp at h
 |k::ks,0,o,a,rest,h=>by
  simp at h;subst h;simp[aI.cs]
 |k::ks,i+1,o,a,rest,h=>by
  have ih:=uZ ks i o a rest (by simpa using h);rw[show(i+1)*8+7=i*8+7+8 by omega,List.set_cons_succ,List.flatMap_cons,bT,ih,List.flatMap_cons];simp[aI.cs]
theorem Ub.Bj(h:Ub w g ks rest)(ho:ks[i]? =some o)(a:Int):Ub (w.setCell ⟨g,i*8+7,none⟩ (int i64 a)) g (ks.set i {o with goal:=a}) rest:=by
 unfold Ub at *;have h0:=heap_setCell_same w g (i*8+7) _ _ (int i64 a) h;rw[h0,uZ ks i o a rest ho];simp
theorem fD.ub(h:fD w base v ks):(v=slice none 0 0/\ks=[])\/∃g cap rest,v=slice (some ⟨g,0,none⟩) ks.length cap/\base<=g/\ks.length<=cap/\cap<=maxLen/\ks.length*8+rest.length=cap*8/\Ub w g ks rest:=by
 rcases h.2 with⟨h1,h2⟩|⟨g,cap,cur,h1,h2,h3,h4,h5,h6,h7⟩
 ·exact .inl ⟨h1,List.length_eq_zero_iff.1 h2⟩
 ·refine .inr ⟨g,cap,cur.toList.drop (ks.length*8),h1,h2,h4,h5,?_,?_⟩
  ·have e6:cur.toList.length=cap*8:=by simpa using h6
   rw[jR,e6];have:ks.length*8<=cap*8:=Nat.mul_le_mul_right _ h4;omega
  ·unfold Ub
   rw[<-h7,List.take_append_drop,Array.toArray_toList];exact h3
theorem Ub.ZQ(h:Ub w g ks rest)(hb:base<=g)(h1:ks.length<=cap)(h2:cap<=maxLen)(h3:ks.length*8+rest.length=cap*8):fD w base (slice (some ⟨g,0,none⟩) ks.length cap) ks:=by
 refine⟨jE ks,.inr ⟨g,cap,_,rfl,hb,h,h1,h2,?_,?_⟩⟩
 ·simp only[List.size_toArray,aC,jE];omega
 ·show(ks.flatMap aI.cs++rest).take (ks.length*8)=_
  rw[List.take_append_of_le_length (by rw[jE];exact aU _),List.take_of_length_le (by rw[jE];exact aU _)]
theorem Ub.take(h:Ub w g ks rest)(m:Nat):Ub w g (ks.take m) ((ks.drop m).flatMap aI.cs++rest):=by
 unfold Ub at *;rw[<-bT,<-fM,List.take_append_drop];exact h
theorem u_(y:aI)(hz:w.heap.size=z):Ub (w.alloc (cells #[int i64 y.id,int i64 y.ay,int i64 y.kind,int i64 y.at_,int i64 y.life,int i64 y.load,int i64 y.task,int i64 y.goal] 74)) z [y] []:=by
 subst hz;exact heap_alloc_new _ _
theorem Rh{a b:Int}(h:a=b):Ending.returned (int i64 a)=Ending.returned (int i64 b):=by rw[h]
theorem LP(vk vw:Value)(ks:List KV)(Y:WV)(u:aI)(kn an:Nat)(k:KV)(x:Int)(w:World)(hk:Kl w vk ks)(hw:Wl w vw Y)(hkn:u.kind=kn)(hkk:ks[kn]? =some k)(han:u.at_=an)(hx:Y.os[an]? =some x)
  (l1:0<=u.load) (l2:u.load<=1000) (l3:0<=k.n7) (l4:k.n7<=1000) (l5:0<=x/\x<=1000000):
  Calls prog 158 #[vk,vw,u.val] w λe w'=>e=.returned (int i64 (dR ks Y u))/\Below w.heap.size w w':=by
 have K:=aj (hk);have H:=aj (hw);have NN:=aj (lM hkn hkk han hx);have EY:=aj (uS hkn hkk han hx);have hkl:=(aK.1 hkk).1;have hal:=(aK.1 hx).1;have hki:((kn:Nat):Int)<(ks.length:Nat):=by omega
 have hai:((an:Nat):Int)<(Y.os.length:Nat):=by omega
 obtain⟨p1,q1,p2,q2,p3,q3,p4,q4,p5,q5,rfl⟩:=aX hw;obtain⟨pk,qk,rfl,ck1,ck2,kc⟩:=hk;obtain⟨xk,rfl,Ri,hxk⟩:=kc (by rintro hn;rw[hn] at hkl;simp at hkl);have KC:Hid (xk.block<w.heap.size/\Kc w (xk.add (kn*11)) k):=⟨Ri,hxk kn k hkk⟩;obtain⟨xo,rfl,hxo⟩:∃xo,p2=some xo/\xo.block<w.heap.size/\w.cell? (xo.add an)=some (int i64 x):=by
  obtain⟨k1,k2,k3,k4,k5,ev,r1,r2,r3,hu,r5⟩:=hw;have e9:k2=slice p2 Y.os.length q2:=by simp only[Value.agg.injEq,Array.mk.injEq,List.cons.injEq] at ev;exact ev.2.2.2.2.2.1.symm
  subst e9;obtain⟨a',c',e',-,-,hz⟩:=r2;injection e' with e1' e2' e3'
  subst e1';obtain⟨y,e,h1,h2⟩:=hz (by rintro hn;rw[hn] at hal;simp at hal);exact⟨y,e,h1,h2 an x hx⟩
 have XO:=aj (hxo);clear hw hxo hkn hkk han hx kc hxk Ri;unfold aI.val;go_enter func158,ntmps158;go_upto_region 1 with fail
 have BA:Hid (Below _ w (w.alloc (cells #[int i64 Y.turn,int i64 Y.next,int i64 Y.wide,int i64 Y.high,slice p1 Y.gs.length q1,slice (some xo) Y.os.length q2,slice p3 Y.gold.length q3,slice p4 Y.us.length q4,slice p5 Y.qs.length q5] 29))):=aA;have X0:Hid (Bw _ w.heap.size Y (slice p1 Y.gs.length q1) (slice (some xo) Y.os.length q2) (slice p3 Y.gold.length q3) (slice p4 Y.us.length q4) (slice p5 Y.qs.length q5)):=Bw.mk' Y _ _ _ _ _ rfl;have U0:Hid (Ub ((w.alloc (cells #[int i64 Y.turn,int i64 Y.next,int i64 Y.wide,int i64 Y.high,slice p1 Y.gs.length q1,slice (some xo) Y.os.length q2,slice p3 Y.gold.length q3,slice p4 Y.us.length q4,slice p5 Y.qs.length q5] 29)).alloc (cells #[int i64 u.id,int i64 u.ay,int i64 u.kind,int i64 u.at_,int i64 u.life,int i64 u.load,int i64 u.task,int i64 u.goal] 74)) (w.heap.size+1) [u] []):=u_ u (by simp);have B1:Hid (Below w.heap.size w ((w.alloc (cells #[int i64 Y.turn,int i64 Y.next,int i64 Y.wide,int i64 Y.high,slice p1 Y.gs.length q1,slice (some xo) Y.os.length q2,slice p3 Y.gold.length q3,slice p4 Y.us.length q4,slice p5 Y.qs.length q5] 29)).alloc (cells #[int i64 u.id,int i64 u.ay,int i64 u.kind,int i64 u.at_,int i64 u.life,int i64 u.load,int i64 u.task,int i64 u.goal] 74))):=BA.alloc (by simp) _;have X1:Hid (Bw ((w.alloc _).alloc (cells #[int i64 u.id,int i64 u.ay,int i64 u.kind,int i64 u.at_,int i64 u.life,int i64 u.load,int i64 u.task,int i64 u.goal] 74)) _ Y _ _ _ _ _):=X0.below aA X0.lt;generalize ((w.alloc _).alloc _)=w1 at *;clear BA X0;have kc1:=KC.2.below B1 (by rw[add_block];exact KC.1);have k8:=kc1.c8;have co:w1.cell? (xo.add an)=some (int i64 x):=by rw[B1.out.cell (by rw[add_block];exact XO.out.1)];exact XO.2
 obtain⟨x0,x1,x2,x3,x4,x5,x6,x7,x8⟩:=X1.out;obtain⟨y0,y1,y2,y3,y4,y5,y6,y7⟩:=U0.pV (i:=0) (o:=u) rfl;simp only[Nat.zero_mul,aO] at y0 y1 y2 y3 y4 y5 y6 y7;rw[NN.out.1] at y2;by_cases h2:u.task=2
 ·rw[h2] at y6
  by_cases hg:u.at_=u.goal
  ·have E:Hid (dR ks Y u=min (min (k.n7-u.load) x) 10):=by unfold Hid;rw[EY.out,if_pos ⟨h2,hg⟩]
   rw[<-hg,NN.out.2.2.1] at y7;rw[NN.out.2.2.1] at y3;have wr:IntKind.i64.wrap (k.n7-u.load)=k.n7-u.load:=by rw[IntKind.wrap_i64];omega
   clear h2 hg;go_upto_region 3 with fail
   go_region
   all_goals (try go_wp2)
   all_goals go_ret
   all_goals refine⟨?_,⟨B1.os,B1.tape,B1.output,B1.size,B1.block⟩⟩
   all_goals (rw[E.out];exact Rh (by omega))
  ·have E:Hid (dR ks Y u=0):=by unfold Hid;rw[EY.out,if_neg (λh=>hg h.2)]
   clear h2;go_wp2;go_ret;exact⟨by rw[E.out];rfl,⟨B1.os,B1.tape,B1.output,B1.size,B1.block⟩⟩
 ·have E:Hid (dR ks Y u=0):=by unfold Hid;rw[EY.out,if_neg (λh=>h2 h.1)]
  go_wp2;go_ret;exact⟨by rw[E.out];rfl,⟨B1.os,B1.tape,B1.output,B1.size,B1.block⟩⟩
structure Fr(S:Nat->Prop)(w w':World):Prop where
 os:w'.os=w.os
 tape:w'.tape=w.tape
 output:w'.output=w.output
 size:w.heap.size<=w'.heap.size
 block:∀k,k<w.heap.size->¬S k->w'.heap[k]? =w.heap[k]?
theorem Fr.below{S:Nat->Prop}(h:Below w.heap.size w w'):Fr S w w':=⟨h.os,h.tape,h.output,h.size,λk hk _=>h.block k hk⟩
theorem Fr.kp{S:Nat->Prop}(h:Kp z w w')(hz:S z):Fr S w w':=⟨h.os,h.tape,h.output,h.size,λk hk hn=>h.block k hk (λe=>hn (e▸hz))⟩
theorem Fr.gb{S:Nat->Prop}(h:w.grownBy w' r)(hr:∀k,r=some k->S k):Fr S w w':=⟨h.os,h.tape,h.output,h.size,λk hk hn=>h.block k hk (λe=>hn (hr k e.symm))⟩
theorem Fr.trans{S:Nat->Prop}(h:Fr S a b)(k:Fr S b c):Fr S a c:=
 ⟨k.os.trans h.os,k.tape.trans h.tape,k.output.trans h.output,aJ h.size k.size,λi hi hn=>(k.block i (fE hi h.size) hn).trans (h.block i hi hn)⟩
theorem Fr.mono{S T:Nat->Prop}(h:Fr S a b)(hs:∀k,S k->T k):Fr T a b:=⟨h.os,h.tape,h.output,h.size,λk hk hn=>h.block k hk (λe=>hn (hs k e))⟩
theorem Fr.low{S:Nat->Prop}(h:Fr S w w')(hn:n<=w.heap.size)(hs:∀k,S k->n<=k):Below n w w':=⟨h.os,h.tape,h.output,h.size,λk hk=>h.block k (by omega) (λe=>by have:=hs k e;omega)⟩
theorem Fr.own{S:Nat->Prop}{u:Value}{cs:List Value}(f:Fr S w w')(h:w.ownsRow base T size u n cs)(hn:∀b,u.ownBlock=some b->¬S b):w'.ownsRow base T size u n cs:=by
 refine⟨h.1,?_⟩;rcases h.2 with h1|⟨g,cap,cur,h1,h2,h3,h4⟩
 ·exact .inl h1
 ·exact .inr ⟨g,cap,cur,h1,h2,(f.block g (lt_of_block h3) (hn g (by rw[h1];rfl))).trans h3,h4⟩
theorem Fr.cell{S:Nat->Prop}{u:Value}(f:Fr S w w')(h:w.cell? p=some u)(hn:¬S p.block):w'.cell? p=some u:=by
 have hl:=cell_lt h;have e:=f.block p.block hl hn;unfold World.cell? at h ⊢;rw[e];exact h
theorem gI{b1 b2:Nat}{S:TypeId}{s1 s2:Nat}{u:Value}{m:Nat}{cs ds:List Value}(h:w.ownsRow b1 T s1 u n cs)(k:w.ownsRow b2 S s2 v m ds)(hT:T≠S):∀b,u.ownBlock=some b->¬v.ownBlock=some b:=by
 intro b hb hv;rcases h.2 with⟨h1,-⟩|⟨g,cap,cur,h1,-,h3,-⟩
 ·rw[h1] at hb;cases hb
 ·rcases k.2 with⟨k1,-⟩|⟨g',cap',cur',k1,-,k3,-⟩
  ·rw[k1] at hv;cases hv
  ·rw[h1] at hb
   rw[k1] at hv;simp[Value.ownBlock] at hb hv;subst hb;subst hv;rw[h3] at k3;injection k3 with k3
   injection k3 with _ k4
   exact hT k4
theorem nX(h:Below a.heap.size a b):a.grownBy b r:=⟨h.os,h.tape,h.output,h.size,λk hk _=>h.block k hk⟩
theorem jm(h:Kp z a b):a.grownBy b (some z):=⟨h.os,h.tape,h.output,h.size,λk hk hn=>h.block k hk (λe=>hn (by rw[e]))⟩
theorem JG(h:Kp z a b)(g:b.grownBy c r)(hr:∀k,r=some k->a.heap.size<=k):Kp z a c:=
 ⟨g.os.trans h.os,g.tape.trans h.tape,g.output.trans h.output,aJ h.size g.size,λi hi hz=>(g.block i (fE hi h.size) (λe=>by have:=hr i e.symm;omega)).trans (h.block i hi hz)⟩
theorem bQ{u:Value}(h:w.cell? p=some u)(k:Kp z w w')(hz:p.block≠z):w'.cell? p=some u:=by
 rw[World.cell?_of_block (k.block p.block (cell_lt h) hz)];exact h
theorem Bw.kp9{y:Nat}{W:WV}(h:Bw w z W u1 u2 u3 u4 u5)(k:Kp y w w')(hn:z≠y):Bw w' z W u1 u2 u3 u4 u5:=
 ⟨bQ h.c0 k hn,bQ h.c1 k hn,bQ h.c2 k hn,bQ h.c3 k hn,bQ h.c4 k hn,bQ h.c5 k hn,bQ h.c6 k hn,bQ h.c7 k hn,bQ h.c8 k hn⟩
theorem fA.kp9(h:fA w y u)(k:Kp z w w')(hn:y.block≠z):fA w' y u:=
 ⟨bQ h.c0 k hn,bQ h.c1 k hn,bQ h.c2 k hn,bQ h.c3 k hn,bQ h.c4 k hn,bQ h.c5 k hn,bQ h.c6 k hn,bQ h.c7 k hn⟩
theorem jL{u:Value}(h:w.cell? p=some u)(k:w.grownBy w' r)(hz:r≠some p.block):w'.cell? p=some u:=by
 rw[World.cell?_of_block (k.block p.block (cell_lt h) (λe=>hz e.symm))];exact h
theorem fA.gb(h:fA w y u)(k:w.grownBy w' r)(hn:r≠some y.block):fA w' y u:=
 ⟨jL h.c0 k hn,jL h.c1 k hn,jL h.c2 k hn,jL h.c3 k hn,jL h.c4 k hn,jL h.c5 k hn,jL h.c6 k hn,jL h.c7 k hn⟩
theorem Rj(h:Wx w z (int i64 X.turn) (int i64 X.next) (int i64 X.wide) (int i64 X.high) u1 u2 u3 u4 u5):Bw w z X u1 u2 u3 u4 u5:=by
 have hh:=h.cells;exact⟨hh.1,hh.2.1,hh.2.2.1,hh.2.2.2.1,hh.2.2.2.2.1,hh.2.2.2.2.2.1,hh.2.2.2.2.2.2.1,hh.2.2.2.2.2.2.2.1,hh.2.2.2.2.2.2.2.2⟩
theorem oI{u:Value}{cs:List Value}(h:w.ownsRow base T size u n cs)(k:Below B w w')(hz:∀b,u.ownBlock=some b->b<B):w'.ownsRow base T size u n cs:=by
 refine⟨h.1,?_⟩;rcases h.2 with h1|⟨g,cap,cur,h1,h2,h3,h4⟩
 ·exact .inl h1
 ·exact .inr ⟨g,cap,cur,h1,h2,(k.block g (hz g (by rw[h1];rfl))).trans h3,h4⟩
theorem bJ{u:Value}{cs:List Value}(h:w.ownsRow base T size u n cs)(k:w.grownBy w' r)(hz:∀b,u.ownBlock=some b->r≠some b):w'.ownsRow base T size u n cs:=by
 refine⟨h.1,?_⟩;rcases h.2 with h1|⟨g,cap,cur,h1,h2,h3,h4⟩
 ·exact .inl h1
 ·exact .inr ⟨g,cap,cur,h1,h2,(k.block g (lt_of_block h3) (λe=>hz g (by rw[h1];rfl) e.symm)).trans h3,h4⟩
theorem qI(k:KV)(hz:w.heap.size=z):Kc (w.alloc (cells #[.string k.b,int i64 k.n0,int i64 k.n1,int i64 k.n2,int i64 k.n3,int i64 k.n4,int i64 k.n5,int i64 k.n6,int i64 k.n7,.bool k.f,.bool k.t] 77)) ⟨z,0,none⟩ k:=by
 subst hz;exact⟨by simp,by simp,by simp,by simp,by simp,by simp,by simp,by simp,by simp,by simp,by simp⟩
theorem Kc.kp9(h:Kc w y k)(q:Kp z w w')(hn:y.block≠z):Kc w' y k:=
 ⟨bQ h.c0 q hn,bQ h.c1 q hn,bQ h.c2 q hn,bQ h.c3 q hn,bQ h.c4 q hn,bQ h.c5 q hn,bQ h.c6 q hn,bQ h.c7 q hn,bQ h.c8 q hn,bQ h.c9 q hn,bQ h.c10 q hn⟩
theorem Fr.wx{S:Nat->Prop}{c0 c1 c2 c3 c4 c5 c6 c7 c8:Value}(f:Fr S w w')(h:Wx w z c0 c1 c2 c3 c4 c5 c6 c7 c8)(hn:¬S z):Wx w' z c0 c1 c2 c3 c4 c5 c6 c7 c8:=(f.block z h.lt hn).trans h
theorem Ow.bk(h:Ow w base v xs):(v=slice none 0 0/\xs=[])\/∃g cap rest,v=slice (some ⟨g,0,none⟩) xs.length cap/\base<=g/\xs.length<=cap/\cap<=maxLen/\xs.length+rest.size=cap/\Bk w g xs rest:=by
 rcases h.2 with⟨h1,h2⟩|⟨g,cap,cur,h1,h2,h3,h4,h5,h6,h7⟩
 ·exact .inl ⟨h1,List.length_eq_zero_iff.1 h2⟩
 ·have e6:cur.toList.length=cap:=by simpa using h6
  refine .inr ⟨g,cap,(cur.toList.drop xs.length).toArray,h1,h2,h4,h5,?_,?_⟩
  ·simp only[List.size_toArray,jR,e6];omega
  ·have e:cur=(intCells xs).toArray++(cur.toList.drop xs.length).toArray:=by
    apply Array.ext';rw[Nat.mul_one] at h7;have h8:cur.toList.take _=intCells xs:=h7;rw[Array.toList_append];show cur.toList=intCells xs++cur.toList.drop xs.length;rw[<-h8,List.take_append_drop]
   unfold Bk;rw[h3,<-e]
theorem Bk.ow{rest:Array Value}(h:Bk w g xs rest)(hb:base<=g)(h1:xs.length<=cap)(h2:cap<=maxLen)(h3:xs.length+rest.size=cap):Ow w base (slice (some ⟨g,0,none⟩) xs.length cap) xs:=by
 refine⟨by simp,.inr ⟨g,cap,_,rfl,hb,h,h1,h2,?_,?_⟩⟩
 ·simp[intCells];omega
 ·simp[intCells]
theorem zB:(prog.info? 169).map (λi=>(i.zero,i.size,i.bytes))=some (some (.agg #[int i64 0,int i64 0,int i64 0]),3,24):=by kernel_rfl
def dZ.cs(k:dZ):List Value:=[int i64 k.what,int i64 k.unit,int i64 k.arg]
theorem zC:∀(ks:List dZ) (i j:Nat) (k:dZ),ks[i]? =some k->j<3->(ks.flatMap dZ.cs)[i*3+j]? =k.cs[j]?
 |[],i,j,k,h,_=>by simp at h
 |x::ks,0,j,k,h,hj=>by
  simp at h;subst h;rw[List.flatMap_cons,iV (by simp[dZ.cs];omega)];simp
 |x::ks,i+1,j,k,h,hj=>by
  rw[List.flatMap_cons,jy (by simp[dZ.cs];omega)];have:(i+1)*3+j-(dZ.cs x).length=i*3+j:=by simp[dZ.cs];omega
  rw[this];exact zC ks i j k (by simpa using h) hj
def ig(w:World)(base:Nat)(v:Value)(ks:List dZ):Prop:=w.ownsRow base 169 3 v ks.length (ks.flatMap dZ.cs)
theorem ig.nil(w:World)(base:Nat):ig w base (slice none 0 0) []:=World.ownsRow_nil _ _ _ _
theorem ig.below{ks:List dZ}(h:ig w base v ks)(hb:Below w.heap.size w w'):ig w' base v ks:=
 World.ownsRow.kept h (row:=none) ⟨hb.os,hb.tape,hb.output,hb.size,λk hk _=>hb.block k hk⟩ (by cases v.ownBlock<;>simp)
theorem ig.kept{ks:List dZ}{row:Option Nat}(h:ig w base v ks)(hg:w.grownBy w' row)(hne:v.ownBlock=none\/v.ownBlock≠row):ig w' base v ks:=World.ownsRow.kept h hg hne
theorem ig.alloc{ks:List dZ}(h:ig w base v ks)(o:Obj):ig (w.alloc o) base v ks:=World.ownsRow.alloc h o
theorem ig.block{ks:List dZ}(h:ig w base v ks):∀k,v.ownBlock=some k->base<=k/\k<w.heap.size:=World.ownsRow.lt h
theorem ig.mono{base':Nat}{ks:List dZ}(h:ig w base v ks)(hb:base'<=base):ig w base' v ks:=by
 refine⟨h.1,?_⟩;rcases h.2 with h1|⟨g,cap,cur,h1,h2,h3⟩
 ·exact .inl h1
 ·exact .inr ⟨g,cap,cur,h1,aJ hb h2,h3⟩
theorem ig.l{ks:List dZ}(h:ig w base v ks):Evl w v ks:=by
 rcases h.2 with⟨hv,h0⟩|⟨g,cap,cur,hv,hb,hg,h1,h2,h3,h4⟩
 ·exact⟨none,0,by rw[hv,h0],by omega,by omega,λhn=>absurd (List.length_eq_zero_iff.1 h0) hn⟩
 ·refine⟨_,cap,hv,h1,by unfold maxLen at h2;omega,λ_=>⟨_,rfl,lt_of_block hg,λi k hi=>?_⟩⟩
  have hil:=(aK.1 hi).1;have h5:w.ownsRow base 169 3 (slice (some ⟨g,0,none⟩) ks.length cap) ks.length (ks.flatMap dZ.cs):=by rw[<-hv];exact h
  have hc:∀j u,j<3->k.cs[j]? =some u->w.cell? ⟨g,i*3+j,none⟩=some u:=λj u hj hu=>by
   rw[h5.cellAt (i*3+j) (by omega),zC ks i j k hi hj,hu]
  rw[Addr.add_lit,aO];exact⟨hc 0 _ (by decide) rfl,hc 1 _ (by decide) rfl,hc 2 _ (by decide) rfl⟩
theorem ig.len{ks:List dZ}(h:ig w base v ks):∃a c,v=slice a ks.length c:=by
 obtain⟨a,c,h1,-⟩:=h.l;exact⟨a,c,h1⟩
theorem zD{rest:List Oper}{o:Oper}{a:Act}{Q:Exit->Act->World->Prop}(w:World)(hgd:o.guard=none)(s x:Operand)
  (ho:o.op=.call {callee:=.builtin .append,args:= #[s,x],argTypes:= #[58,58]}) (base:Nat) (v:Value) (ks:List dZ) (hs:a.eval s=v) (hown:ig w base v ks)
  (b:Nat) (d:dZ) (hx:a.eval x=slice (some ⟨b,0,none⟩) 1 1) (hd:uP w ⟨b,0,none⟩ d) (hl:ks.length<=1000000) (hbase:base<=w.heap.size)
  (h:∀g cap w',ig w' base (slice (some ⟨g,0,none⟩) (ks.length+1) cap) (ks++[d])->w.grownBy w' v.ownBlock->(v.ownBlock=some g\/g=w.heap.size)->g<w'.heap.size->wpList prog ops Q rest (a.put o.dst (slice (some ⟨g,0,none⟩) (ks.length+1) cap)) w'):
  wpList prog ops Q (o::rest) a w:=by
 obtain⟨i0,hi,hz0,hz1,hz2⟩:=info_parts zB;refine wpList_append_lies w hgd s x 58 ho _ 169 i0 _ 3 24 underlying58 hi hz0 hz1 hz2 rfl (by decide) v _ _ hs hown _ 1 1 d.cs hx rfl ?_ ?_ (by decide) (by unfold maxLen;omega) (by omega) hbase _ rfl ?_
 ·intro j u hj
  have hjn:j<3:=(aK.1 hj).1;rw[Addr.add_lit,aO]
  match j,hjn,hj with
  |0,_,hj=>simp[dZ.cs] at hj;subst hj;exact hd.c0
  |1,_,hj=>simp[dZ.cs] at hj;subst hj;exact hd.c1
  |2,_,hj=>simp[dZ.cs] at hj;subst hj;exact hd.c2
 ·intro u hu
  simp[dZ.cs] at hu;rcases hu with rfl|rfl|rfl<;>rfl
 ·intro g cap w' h1 h2 h3 h4
  refine h g _ w' ?_ h2 h3 h4;unfold ig;rw[aC,fM];simpa using h1
structure Gg(ks:List KV)(Y Z:WV)(es:List dZ)(b1 b:Nat)(w:World)(u1 u2 u3 u4 u5 ev:Value)(V:World):Prop where
 o1:Ow V b1 u1 Z.gs
 o2:Ow V b1 u2 Z.os
 o3:Ow V b1 u3 Z.gold
 o4:fD V b1 u4 Z.us
 o5:fB V b1 u5 Z.qs
 e:ig V b ev es
 d:[u1,u2,u3,u4,u5].Pairwise fK
 fr:Fr (λq=>u2.ownBlock=some q\/u4.ownBlock=some q) w V
 k:TkK Y Z
 f:mQ ks Z
section
variable {ks:List KV} {Y Z:WV} {es:List dZ} {b1 b:Nat} {w:World} {u1 u2 u3 u4 u5 ev:Value} {V V':World}
theorem Gg.below(h:Gg ks Y Z es b1 b w u1 u2 u3 u4 u5 ev V)(hb:Below V.heap.size V V'):Gg ks Y Z es b1 b w u1 u2 u3 u4 u5 ev V':=
 ⟨h.o1.below hb,h.o2.below hb,h.o3.below hb,h.o4.below hb,h.o5.below hb,h.e.below hb,h.d,h.fr.trans (Fr.below hb),h.k,h.f⟩
theorem Gg.wl(h:Gg ks Y Z es b1 b w u1 u2 u3 u4 u5 ev V):Wl V (.agg #[int i64 Y.turn,int i64 Y.next,int i64 Y.wide,int i64 Y.high,u1,u2,u3,u4,u5]) Z:=by
 obtain⟨a1,a2,a3,a4,-⟩:=h.k;exact⟨u1,u2,u3,u4,u5,by rw[a1,a2,a3,a4],h.o1.ro,h.o2.ro,h.o3.ro,h.o4.l,h.o5.l⟩
theorem Gg.wU(h:Gg ks Y Z es b1 b w u1 u2 u3 u4 u5 ev V):(fK u1 u2/\fK u1 u3/\fK u1 u4/\fK u1 u5)/\(fK u2 u3/\fK u2 u4/\fK u2 u5)/\(fK u3 u4/\fK u3 u5)/\fK u4 u5:=by
 have:=h.d;simp only[List.pairwise_cons,bP,List.not_mem_nil,or_false,forall_eq_or_imp,forall_eq] at this;obtain⟨⟨a1,a2,a3,a4⟩,⟨b1,b2,b3⟩,⟨c1,c2⟩,d1,-⟩:=this;exact⟨⟨a1,a2,a3,a4⟩,⟨b1,b2,b3⟩,⟨c1,c2⟩,d1⟩
theorem Gg.take{gu gs cu co:Nat}{ur:List Value}{sr:Array Value}{ev':Value}(h:Gg ks Y Z es b1 b w u1 (slice (some ⟨gs,0,none⟩) Y.os.length co) u3 (slice (some ⟨gu,0,none⟩) Y.us.length cu) u5 ev V)(hwb:w.heap.size=b)
  (hl:∀x∈[u1,u3,u5],∀k,x.ownBlock=some k->k<b) (hgu:b1<=gu) (c1:Y.us.length<=cu) (c2:cu<=maxLen) (c3:Y.us.length*8+ur.length=cu*8) (hgs:b1<=gs) (d1:Y.os.length<=co) (d2:co<=maxLen) (d3:Y.os.length+sr.size=co)
  (hu:Z.us[i]? =some u) (hy:0<dR ks Z u) (hub:Ub V' gu (jd Z i u (dR ks Z u)).us ur) (hbk:Bk V' gs (jd Z i u (dR ks Z u)).os sr) (he:ig V' b ev' (es++[⟨4,u.id,dR ks Z u⟩])) (hf:Fr (λq=>q=gu\/q=gs\/ev.ownBlock=some q) V V'):
  Gg ks Y (jd Z i u (dR ks Z u)) (es++[⟨4,u.id,dR ks Z u⟩]) b1 b w u1 (slice (some ⟨gs,0,none⟩) Y.os.length co) u3 (slice (some ⟨gu,0,none⟩) Y.us.length cu) u5 ev' V':=by
 obtain⟨⟨d12,d13,d14,d15⟩,⟨d23,d24,d25⟩,⟨d34,d35⟩,d45⟩:=h.wU;have owu:(slice (some ⟨gu,0,none⟩) Y.us.length cu).ownBlock=some gu:=rfl;have ows:(slice (some ⟨gs,0,none⟩) Y.os.length co).ownBlock=some gs:=rfl;have no:∀x∈[u1,u3,u5],fK x (slice (some ⟨gs,0,none⟩) Y.os.length co)->fK x (slice (some ⟨gu,0,none⟩) Y.us.length cu)->∀q,x.ownBlock=some q->¬(q=gu\/q=gs\/ev.ownBlock=some q):=λx hx e2 e4 q hq hs=>by
  rcases hs with e|e|e
  ·exact e4 q hq (by rw[owu,e])
  ·exact e2 q hq (by rw[ows,e])
  ·have h8:=(h.e.block q e).1;have h9:=hl x hx q hq;omega
 have k':TkK Y (jd Z i u (dR ks Z u)):=by
  obtain⟨a1,a2,a3,a4,a5,a6,a7,a8,a9⟩:=h.k;exact⟨a1,a2,a3,a4,a5,a6,a7,by simpa[jd] using a8,by simpa[jd] using a9⟩
 refine⟨hf.own h.o1 (no u1 (by simp) d12 d14),?_,hf.own h.o3 (no u3 (by simp) d23.symm d34),?_,hf.own h.o5 (no u5 (by simp) d25.symm d45.symm),he,h.d,?_,k',h.f.take hu hy⟩
 ·have:=hbk.ow (base:=b1) (cap:=co) hgs (by rw[k'.2.2.2.2.2.2.2.2];exact d1) d2 (by rw[k'.2.2.2.2.2.2.2.2];exact d3)
  rw[k'.2.2.2.2.2.2.2.2] at this;exact this
 ·have:=hub.ZQ (base:=b1) (cap:=cu) hgu (by rw[k'.2.2.2.2.2.2.2.1];exact c1) c2 (by rw[k'.2.2.2.2.2.2.2.1];exact c3)
  rw[k'.2.2.2.2.2.2.2.1] at this;exact this
 ·refine⟨hf.os.trans h.fr.os,hf.tape.trans h.fr.tape,hf.output.trans h.fr.output,aJ h.fr.size hf.size,λq hq hn=>(hf.block q (fE hq h.fr.size) (λe=>?_)).trans (h.fr.block q hq hn)⟩
  rcases e with e|e|e
  ·exact hn (.inr (by rw[owu,e]))
  ·exact hn (.inl (by rw[ows,e]))
  ·have:=(h.e.block q e).1;omega
end
def TkI(ks:List KV)(Y:WV)(z b1:Nat)(w1:World)(u1 u2 u3 u4 u5 ev j:Value)(V:World):Prop:=∃q:Nat,q<=Y.us.length/\j=int i64 (q:Nat)/\Wx V z (int i64 Y.turn) (int i64 Y.next) (int i64 Y.wide) (int i64 Y.high) u1 u2 u3 u4 u5/\Gg ks Y (tk ks Y q).1 (tk ks Y q).2 b1 (z+1) w1 u1 u2 u3 u4 u5 ev V
theorem take_any(vk:Value)(ks:List KV)(Y:WV)(u1 u2 u3 u4 u5:Value)(b1:Nat)(w0 w:World)(hk:Kl w0 vk ks)(hb0:Below w0.heap.size w0 w)(ZT:w0.heap.size<=b1)(o1:Ow w b1 u1 Y.gs)(o2:Ow w b1 u2 Y.os)(o3:Ow w b1 u3 Y.gold)(o4:fD w b1 u4 Y.us)(o5:fB w b1 u5 Y.qs)(hd:[u1,u2,u3,u4,u5].Pairwise fK)(hf:mQ ks Y):
  Calls prog 108 #[vk,.agg #[int i64 Y.turn,int i64 Y.next,int i64 Y.wide,int i64 Y.high,u1,u2,u3,u4,u5]] w λe w'=>∃ev,e=.returned ev/\Gg ks Y (tk ks Y Y.us.length).1 (tk ks Y Y.us.length).2 b1 w.heap.size w u1 u2 u3 u4 u5 ev w':=by
 have KB:Hid (Kl w0 vk ks/\Below w0.heap.size w0 w/\w0.heap.size<=b1):=⟨hk,hb0,ZT⟩;obtain⟨pk,qk,rfl,ck1,ck2,kc⟩:=hk;have T0:Hid (Gg ks Y Y [] b1 w.heap.size w u1 u2 u3 u4 u5 (slice none 0 0) w):=⟨o1,o2,o3,o4,o5,ig.nil _ _,hd,Fr.below aB,⟨rfl,rfl,rfl,rfl,rfl,rfl,rfl,rfl,rfl⟩,hf⟩;have LW:Hid (∀x∈[u1,u3,u5],∀k,x.ownBlock=some k->k<w.heap.size):=by
  intro x hx k hk;simp only[bP,List.not_mem_nil,or_false] at hx;rcases hx with rfl|rfl|rfl
  ·exact(o1.block k hk).2
  ·exact(o3.block k hk).2
  ·exact(o5.block k hk).2
 have L24:Hid ((∀k,u2.ownBlock=some k->b1<=k/\k<w.heap.size)/\∀k,u4.ownBlock=some k->b1<=k/\k<w.heap.size):=⟨o2.block,o4.block⟩;have ul:=hf.ul;obtain⟨a1,h1,rfl⟩:=o1.len;obtain⟨a2,h2,rfl⟩:=o2.len;obtain⟨a3,h3,rfl⟩:=o3.len;obtain⟨a4,h4,rfl⟩:=o4.len;obtain⟨a5,h5,rfl⟩:=o5.len;clear hb0 ZT kc o1 o2 o3 o4 o5 hd hf;go_enter func108,ntmps108;go_upto_region 2 with fail
 have BA:Hid (Below _ w (w.alloc (cells #[int i64 Y.turn,int i64 Y.next,int i64 Y.wide,int i64 Y.high,slice a1 Y.gs.length h1,slice a2 Y.os.length h2,slice a3 Y.gold.length h3,slice a4 Y.us.length h4,slice a5 Y.qs.length h5] 29))):=aA;obtain⟨z,hz⟩:∃z,w.heap.size=z:=⟨_,rfl⟩;have HZ:=aj (hz);have X1:Hid (Wx _ z (int i64 Y.turn) (int i64 Y.next) (int i64 Y.wide) (int i64 Y.high) (slice a1 Y.gs.length h1) (slice a2 Y.os.length h2) (slice a3 Y.gold.length h3) (slice a4 Y.us.length h4) (slice a5 Y.qs.length h5)):=Wx.new _ _ _ _ _ _ _ _ _ hz;have S1:Hid ((w.alloc (cells #[int i64 Y.turn,int i64 Y.next,int i64 Y.wide,int i64 Y.high,slice a1 Y.gs.length h1,slice a2 Y.os.length h2,slice a3 Y.gold.length h3,slice a4 Y.us.length h4,slice a5 Y.qs.length h5] 29)).heap.size=z+1):=by unfold Hid;rw[<-hz];simp
 rw[hz];clear hz;generalize w.alloc _=w1 at *;have T1:Hid (Gg ks Y Y [] b1 (z+1) w1 (slice a1 Y.gs.length h1) (slice a2 Y.os.length h2) (slice a3 Y.gold.length h3) (slice a4 Y.us.length h4) (slice a5 Y.qs.length h5) (slice none 0 0) w1):=by
  have h:=T0.below BA;exact⟨h.o1,h.o2,h.o3,h.o4,h.o5,ig.nil _ _,h.d,Fr.below aB,h.k,h.f⟩
 clear T0;have xx:=X1.cells;go_wp2_with fail
 clear xx;go_loopw [5,12] (λev j V=>TkI ks Y z b1 w1 (slice a1 Y.gs.length h1) (slice a2 Y.os.length h2) (slice a3 Y.gold.length h3) (slice a4 Y.us.length h4) (slice a5 Y.qs.length h5) ev j V) (λ_ j _=>Y.us.length-(intOf j).toNat)
 case atStart=>exact⟨0,aZ _,rfl,X1,T1⟩
 case round=>
  obtain⟨q,hq,rfl,hx,ht⟩:=hrel;obtain⟨Z,hZ⟩:∃Z,(tk ks Y q).1=Z:=⟨_,rfl⟩;obtain⟨es,hE⟩:∃es,(tk ks Y q).2=es:=⟨_,rfl⟩;have HQ:Hid ((tk ks Y q).1=Z/\(tk ks Y q).2=es):=⟨hZ,hE⟩;have EL:Hid (es.length<=40):=by have h9:=zA (ks:=ks) (Y:=Y) q;rw[hE] at h9;unfold Hid;omega
  rw[hZ,hE] at ht;clear hZ hE;obtain⟨ea,ec,rfl⟩:=ht.e.len;have TQ:=aj (ht);have XQ:=aj (hx);clear hx ht;by_cases hqn:q=Y.us.length
  ·have FIN:Hid ((tk ks Y Y.us.length).1=Z/\(tk ks Y Y.us.length).2=es):=by rw[<-hqn];exact HQ
   subst hqn;go_wp2;go_ret;refine⟨_,rfl,?_⟩;rw[FIN.out.1,FIN.out.2];have h:=TQ.out;exact⟨h.o1,h.o2,h.o3,h.o4,h.o5,h.e.mono (by have:=HZ.out;omega),h.d,(Fr.below BA).trans h.fr,h.k,h.f⟩
  ·have Ak:q<Y.us.length:=by omega
   have hqi:((q:Nat):Int)<(Y.us.length:Nat):=by omega
   have hzl:q<Z.us.length:=by rw[TQ.out.k.2.2.2.2.2.2.2.1];exact Ak
   obtain⟨u,hu⟩:∃u,Z.us[q]? =some u:=⟨_,aH hzl⟩;obtain⟨⟨kn,k,hkn,hkk,l1,l2,l3⟩,⟨an,han,hal⟩,-⟩:=TQ.f.units u (aT hu);obtain⟨x,hx⟩:∃x,Z.os[an]? =some x:=⟨_,aH hal⟩;have UU:=aj (iJ hu hkn hkk han hx);have OX:=TQ.f.zi hx;have abZ:((an:Nat):Int)<(Y.os.length:Nat):=by rw[<-TQ.out.k.2.2.2.2.2.2.2.2];omega
   obtain⟨gu,cu,ur,e4,hgu,c1,c2,c3,hub⟩:∃g cap rest,slice a4 Y.us.length h4=slice (some ⟨g,0,none⟩) Y.us.length cap/\b1<=g/\Y.us.length<=cap/\cap<=maxLen/\Y.us.length*8+rest.length=cap*8/\Ub wr g Z.us rest:=by
    rcases TQ.o4.ub with⟨-,h⟩|⟨g,cap,rest,h⟩
    ·rw[h] at hzl;simp at hzl
    ·rw[TQ.out.k.2.2.2.2.2.2.2.1] at h;exact⟨g,cap,rest,h⟩
   injection e4 with e41 e42 e43
   subst e41 e43;obtain⟨gs,co,sr,e2,hgs,d1,d2,d3,hbk⟩:∃g cap rest,slice a2 Y.os.length h2=slice (some ⟨g,0,none⟩) Y.os.length cap/\b1<=g/\Y.os.length<=cap/\cap<=maxLen/\Y.os.length+rest.size=cap/\Bk wr g Z.os rest:=by
    rcases TQ.o2.bk with⟨-,h⟩|⟨g,cap,rest,h⟩
    ·rw[h] at hal;simp at hal
    ·rw[TQ.out.k.2.2.2.2.2.2.2.2] at h;exact⟨g,cap,rest,h⟩
   injection e2 with e21 e22 e23
   subst e21 e23;have GB:=aj (YK hgu c1 c2 c3 hgs d1 d2 d3);have UB:Hid (∀V,Below wr.heap.size wr V->Ub V gu Z.us ur):=λV hV=>hub.below hV hub.lt
   have BB:Hid (∀V,Below wr.heap.size wr V->Bk V gs Z.os sr):=λV hV=>hbk.below hV
   have GL:Hid (gu<z/\gs<z/\gu≠gs):=by
    rw[<-HZ.out];refine⟨(L24.2 gu rfl).2,(L24.1 gs rfl).2,λe=>TQ.wU.2.1.2.1 gs rfl (by rw[<-e];rfl)⟩
   have KV':Hid (∀V,Below wr.heap.size wr V->Kl V (slice pk ks.length qk) ks):=λV hV=>by
    have b01:=KB.2.1.trans (BA.mono KB.2.1.size);have YQ:=TQ.fr.low b01.size (λk hk=>by
     rcases hk with hk|hk
     ·have:=(L24.1 k hk).1;have:=KB.out.2.2;omega
     ·have:=(L24.2 k hk).1;have:=KB.out.2.2;omega)
    exact KB.1.below ((b01.trans YQ).trans (hV.mono (b01.trans YQ).size))
   have CV:Hid (∀V,Below wr.heap.size wr V->Wx V z (int i64 Y.turn) (int i64 Y.next) (int i64 Y.wide) (int i64 Y.high) (slice a1 Y.gs.length h1) (slice (some ⟨gs,0,none⟩) Y.os.length h2) (slice a3 Y.gold.length h3) (slice (some ⟨gu,0,none⟩) Y.us.length h4) (slice a5 Y.qs.length h5)/\fA V ⟨gu,q*8,none⟩ u):=λV hV=>⟨XQ.below hV XQ.lt,(UB V hV).pV UU.1⟩
   have D5:Hid (Below wr.heap.size wr {wr with drawn:=wr.drawn+1}):=aB.drew;have xq:=XQ.out;have xx:=xq.cells;clear xq hu hkn hkk han hx hal hzl hgu c1 c2 c3 hgs d1 d2 d3 hub hbk e42 e22;go_upto_region 6 with fail
   clear xx;refine aV [(true,0),(true,1),(true,2),(true,3),(true,4),(false,5)] [(false,6)] (λV=>Wx V z _ _ _ _ _ _ _ _ _/\fA V _ u) (by kernel_rfl) (by kernel_rfl) (by kernel_rfl) (by decide+kernel) (by decide+kernel) (CV _ D5) ?_;generalize ({wr with drawn:=wr.drawn+1}:World)=w6 at *;refine au rfl (slice pk ks.length qk) (by go_simp) (λV hV=>by go_simp) ?_;go_simp;refine au rfl (.agg #[int i64 Y.turn,int i64 Y.next,int i64 Y.wide,int i64 Y.high,slice a1 Y.gs.length h1,slice (some ⟨gs,0,none⟩) Y.os.length h2,slice a3 Y.gold.length h3,slice (some ⟨gu,0,none⟩) Y.us.length h4,slice a5 Y.qs.length h5]) (by go_simp) (λV hV=>by obtain⟨hX,hU⟩:=hV;have xx:=hX.cells;obtain⟨y0,y1,y2,y3,y4,y5,y6,y7⟩:=hU;go_simp) ?_;go_simp;refine au rfl (.pointer (some ⟨gu,q*8,none⟩)) (by go_simp) (λV hV=>by go_simp) ?_;go_simp;refine au rfl (.pointer (some ⟨gu,q*8,none⟩)) (by go_simp) (λV hV=>by obtain⟨hX,hU⟩:=hV;have xx:=hX.cells;obtain⟨y0,y1,y2,y3,y4,y5,y6,y7⟩:=hU;go_simp) ?_;go_simp;refine au rfl (.agg #[int i64 u.id,int i64 u.ay,int i64 u.kind,int i64 u.at_,int i64 u.life,int i64 u.load,int i64 u.task,int i64 u.goal]) (by go_simp) (λV hV=>by obtain⟨hX,hU⟩:=hV;have xx:=hX.cells;obtain⟨y0,y1,y2,y3,y4,y5,y6,y7⟩:=hU;go_simp) ?_;go_simp;refine dH rfl 158 #[slice pk ks.length qk,.agg #[int i64 Y.turn,int i64 Y.next,int i64 Y.wide,int i64 Y.high,slice a1 Y.gs.length h1,slice (some ⟨gs,0,none⟩) Y.os.length h2,slice a3 Y.gold.length h3,slice (some ⟨gu,0,none⟩) Y.us.length h4,slice a5 Y.qs.length h5],.agg #[int i64 u.id,int i64 u.ay,int i64 u.kind,int i64 u.at_,int i64 u.life,int i64 u.load,int i64 u.task,int i64 u.goal]] (by go_simp) (by go_simp) ?_;have T6:=aj (TQ.below D5);refine Calls.mono (LP _ _ ks Z u kn an k x w6 (KV' _ D5) T6.wl UU.2.1 UU.2.2.1 UU.2.2.2.1 UU.2.2.2.2 l1 (by omega) (by omega) l3 OX) ?_;rintro e w7 ⟨rfl,b7⟩;have D7:=aG D5 b7;refine⟨_,rfl,CV _ D7,?_⟩;have EY:=uS (ks:=ks) (Y:=Z) UU.2.1 UU.2.2.1 UU.2.2.2.1 UU.2.2.2.2;obtain⟨n,hn⟩:∃n,dR ks Z u=n:=⟨_,rfl⟩;have HN:=aj (hn);have nb:n<=10/\(0<n->n<=x/\u.load+n<=k.n7):=by
    rw[hn] at EY;split at EY
    ·omega
    ·omega
   rw[hn];clear b7 hn EY T6;go_simp;refine aW rfl (int i64 n) w7 (by go_simp) (by go_simp) trivial ?_;go_simp;unfold bC;have T7:=aj (TQ.below D7);have X7:=aj (XQ.below D7 XQ.lt);by_cases hp:0<n
   ·have NX:Hid (tk ks Y (q+1)=(jd Z q u n,es++[⟨4,u.id,n⟩])):=by
     have h9:=uQ (ks:=ks) (Y:=Y) (q:=q) (u:=u) (by rw[HQ.out.1];exact UU.1) (by rw[HQ.out.1,HN.out];exact hp);unfold Hid;rw[h9,HQ.out.1,HQ.out.2,HN.out]
    have U7:=UB _ D7;have B7:=BB _ D7;obtain⟨y0,y1,y2,y3,y4,y5,y6,y7⟩:=U7.pV UU.1;have t5:=U7.thaw (q*8+5);have wr1:IntKind.i64.wrap (u.load+n)=u.load+n:=by rw[IntKind.wrap_i64];omega
    have U8:Hid (Ub _ gu (Z.us.set q (lV u (u.load+n))) ur):=U7.Qp UU.1 _;have K8:Hid (Kp gu w7 (w7.setCell ⟨gu,q*8+5,none⟩ (int i64 (u.load+n)))):=Kp.set _ _ _;have B8:Hid (Bk (w7.setCell ⟨gu,q*8+5,none⟩ (int i64 (u.load+n))) gs Z.os sr):=B7.other (by have:=GL.out.2.2;omega) _ _;clear U7 B7;go_upto_region 9 with fail
    clear y0 y1 y2 y3 y4 y5 y6 y7 t5 wr1;generalize w7.setCell _ _=w8 at *;have F8:Hid (Fr (λq=>q=gu) w7 w8):=Fr.kp K8 rfl;have X8:=aj (F8.wx X7 (by have:=GL.out.1;omega));obtain⟨y0,y1,y2,y3,y4,y5,y6,y7⟩:=U8.pV (i:=q) (o:=lV u (u.load+n)) (by rw[List.getElem?_set_self (by have:=(aK.1 UU.out.1).1;exact this)]);have y3':w8.cell? ⟨gu,q*8+3,none⟩=some (int i64 (an:Nat)):=by rw[<-UU.out.2.2.2.1];exact y3
    have xx:=X8.cells;have co:=B8.cell UU.2.2.2.2;have ts:=B8.thaw an;have wr2:IntKind.i64.wrap (x-n)=x-n:=by rw[IntKind.wrap_i64];omega
    clear y0 y1 y2 y3 y4 y5 y6 y7;go_region;have K9:Hid (Kp gs w8 (w8.setCell ⟨gs,an,none⟩ (int i64 (x-n))).drew):=(Kp.set _ _ _).trans (Kp.of aB.drew);have B9:Hid (Bk (w8.setCell _ _).drew gs (Z.os.set an (x-n)) sr):=B8.set an _ (aK.1 UU.2.2.2.2).1;clear xx y3' co ts wr2;generalize (w8.setCell _ _).drew=w9 at *;have F9:Hid (Fr (λq=>q=gs) w8 w9):=Fr.kp K9 rfl;have X9:=aj (F9.wx X8 (by have:=GL.out.2.1;omega));have U9:Hid (Ub w9 gu (Z.us.set q (lV u (u.load+n))) ur):=(F9.block gu U8.lt (by have:=GL.out.2.2;omega)).trans U8;have F79:Hid (Fr (λq=>q=gu\/q=gs) w7 w9):=(F8.mono (λk hk=>.inl hk)).trans (F9.mono (λk hk=>.inr hk));have E9:Hid (ig w9 (z+1) (slice ea es.length ec) es):=F79.own T7.e (λb hb e=>by have h9:=(T7.e.block b hb).1;have h8:=GL.out;omega);obtain⟨y0,y1,y2,y3,y4,y5,y6,y7⟩:=U9.pV (i:=q) (o:=lV u (u.load+n)) (by rw[List.getElem?_set_self (by have:=(aK.1 UU.out.1).1;exact this)]);have y0':w9.cell? _=some (.int _ u.id):=y0;have OA:Hid (ig (w9.alloc (cells #[int i64 4,int i64 u.id,int i64 n] 169)) _ _ es):=E9.alloc _;have RC:Hid (uP (w9.alloc (cells #[.int _ 4,.int _ u.id,.int _ n] _)) _ _):=uP.mk' ⟨4,u.id,n⟩ rfl;have BE:Hid (Below _ w9 (w9.alloc (cells #[int i64 4,int i64 u.id,int i64 n] 169))):=aA;have SB:Hid (z+1<=(w9.alloc _).heap.size):=aJ X9.lt BE.size;clear y0 y1 y2 y3 y4 y5 y6 y7;go_wp2_with (at_builtin;refine zD _ rfl _ _ rfl (z+1) _ es rfl OA w9.heap.size ⟨4,u.id,n⟩ rfl RC (by have:=EL.out;omega) SB ?_);intro g cap wE o8 g8 a8 l8;have EO:=aj (o8);have FE:=aj ((Fr.below BE).trans (Fr.gb g8 (λk hk=>hk)));have FA:Hid (Fr (λq=>q=gu\/q=gs\/(slice ea es.length ec:Value).ownBlock=some q) w7 wE):=(F79.mono (λk hk=>by rcases hk with h|h;exact .inl h;exact .inr (.inl h))).trans (FE.mono (λk hk=>.inr (.inr hk)));have NE:Hid (∀k,k<=z->¬(slice ea es.length ec:Value).ownBlock=some k):=λk hk e=>by have:=(E9.block k e).1;omega
    have UE:Hid (Ub wE gu (Z.us.set q (lV u (u.load+n))) ur):=(FE.block gu U9.lt (NE gu (by have:=GL.out.1;omega))).trans U9;have BK:Hid (Bk wE gs (Z.os.set an (x-n)) sr):=(FE.block gs B9.lt (NE gs (by have:=GL.out.2.1;omega))).trans B9;have XE:=aj (FE.wx X9 (NE z aN));have EW:Hid ((jd Z q u n).os=Z.os.set an (x-n)):=by
     unfold Hid jd;simp only[UU.out.2.2.2.1,bF,dD,UU.out.2.2.2.2,Option.getD_some]
    have TE:Hid (Gg ks Y (jd Z q u n) (es++[⟨4,u.id,n⟩]) b1 (z+1) w1 (slice a1 Y.gs.length h1) (slice (some ⟨gs,0,none⟩) Y.os.length h2) (slice a3 Y.gold.length h3) (slice (some ⟨gu,0,none⟩) Y.us.length h4) (slice a5 Y.qs.length h5) (slice (some ⟨g,0,none⟩) (es.length+1) cap) wE):=by
     have h9:=T7.take (V':=wE) (i:=q) (u:=u) (ur:=ur) (sr:=sr) (ev':=slice (some ⟨g,0,none⟩) (es.length+1) cap) S1 (λy hy k hk=>by have:=LW y hy k hk;have:=HZ.out;omega) GB.1 GB.2.1 GB.2.2.1 GB.2.2.2.1 GB.2.2.2.2.1 GB.2.2.2.2.2.1 GB.2.2.2.2.2.2.1 GB.2.2.2.2.2.2.2 UU.1 (by rw[HN.out];exact hp) (by rw[HN.out];exact UE) (by rw[HN.out,EW.out];exact BK) (by rw[HN.out];exact EO) FA;rw[HN.out] at h9;exact h9
    clear o8 g8 a8 l8 y0';go_wp2;go_round
    case rel=>exact⟨q+1,by omega,by go_num,XE,by rw[NX.out];exact TE⟩
    case measure=>simp[intOf];omega
   ·have NX:Hid (tk ks Y (q+1)=(Z,es)):=by
     have h9:=Ci (ks:=ks) (Y:=Y) (q:=q) (u:=u) (by rw[HQ.out.1];exact UU.1) (by rw[HQ.out.1,HN.out];exact hp);unfold Hid;rw[h9,<-HQ.out.1,<-HQ.out.2]
    go_wp2;go_round
    case rel=>exact⟨q+1,by omega,by go_num,X7,by rw[NX.out];exact T7⟩
    case measure=>simp[intOf];omega
theorem Rk(u:Value)(v:Int)(xs:List Int)(w:World)(hu:Ro w u xs):
  Calls prog 238 #[u,int i64 v] w λe w'=>∃r:Int,e=.returned (int i64 r)/\VG (λx=>decide (v=x)) xs r/\w'=w:=by
 obtain⟨a,c,rfl,c1,c2,ca⟩:=hu;have Ca:=aj (ca);clear ca;go_enter func238,ntmps238;go_wp2;go_loopw [8] (λi W'=>∃k:Nat,k<=xs.length/\i=int i64 (k:Nat)/\(xs.take k).any (λx=>decide (v=x))=false/\W'=w) (λi _=>xs.length-(intOf i).toNat)
 case atStart=>exact⟨0,aZ _,rfl,by simp,rfl⟩
 case round=>
  obtain⟨k,hk,rfl,ht,rfl⟩:=hrel;have Ht:=aj (ht);clear ht;by_cases h0:k=xs.length
  ·subst h0
   go_wp2;go_ret;refine⟨_,rfl,.inl ⟨rfl,?_⟩,rfl⟩;have:=Ht.out;rw[List.take_of_length_le aN] at this;exact this
  ·have hkx:k<xs.length:=by omega
   obtain⟨x,rfl,-,hx⟩:=Ca (by intro h;rw[h] at hkx;simp at hkx);have cx:=hx k xs[k] (aH hkx);have Hs:Hid _:=qx (p:=λx=>decide (v=x)) hkx;have Hm:=aj (aH hkx);generalize xs[k]=y at *;clear hx;by_cases hy:v=y
   ·have Hy:=aj (decide_eq_true hy)
    go_wp2;go_ret;exact⟨_,rfl,.inr ⟨k,y,rfl,Hm,Hy,Ht⟩,rfl⟩
   ·have Hy:=aj (decide_eq_false hy)
    go_wp2;go_round
    case rel=>exact⟨k+1,by omega,by go_num,by have:=Hs.out;rw[Ht.out,Hy.out] at this;exact this,trivial⟩
    case measure=>simp[intOf];omega
theorem Rl(u:Value)(v:Int)(xs:List Int)(w:World)(hu:Ro w u xs):
  Calls prog 200 #[u,int i64 v] w λe w'=>e=.returned (.bool (xs.any (λx=>decide (v=x))))/\w'=w:=by
 have H:Hid _:=Rk u v xs w hu;obtain⟨a,c,rfl,-⟩:=hu;go_enter func200,ntmps200;go_wp2_with fail
 refine Calls.mono H ?_;rintro e w1 ⟨r,rfl,hr,rfl⟩;have Hr:=aj (hr.has);clear hr;go_wp2;go_ret;exact⟨by show Ending.returned (.bool (decide (0<=r)))=_;rw[Hr.out],rfl⟩
theorem qJ(K:Nat)(eK:∀args w,(callFunc K args).run prog w=.ok (.enter K args) w)(u:Value)(cs:Array Value)(ks:List aI)(p:aI->Bool)(w:World)(hu:oP w u ks)
  (hp:∀W,Below w.heap.size w W->∀k∈ks,Calls prog K (#[k.val]++cs) W λe w'=>e=.returned (.bool (p k))/\Below W.heap.size W w'):
  Calls prog 97 #[u,.func (Fn.func K) #[] cs] w λe w'=>∃r:Int,e=.returned (int i64 r)/\mM p ks r/\Below w.heap.size w w':=by
 obtain⟨a,c,rfl,c1,c2,ca⟩:=hu;have Ca:=aj (ca);have Hp:=aj (hp);clear ca hp;go_enter func97,ntmps97;go_wp2;go_loopw [8] (λi W'=>∃k:Nat,k<=ks.length/\i=int i64 (k:Nat)/\(ks.take k).any p=false/\Below w.heap.size w W') (λi _=>ks.length-(intOf i).toNat)
 case atStart=>exact⟨0,aZ _,rfl,by simp,dU _ _⟩
 case round=>
  obtain⟨k,hk,rfl,ht,hb⟩:=hrel;have Ht:=aj (ht);have B:=aj (hb);clear ht hb;by_cases h0:k=ks.length
  ·subst h0
   go_wp2;go_ret;refine⟨_,rfl,.inl ⟨rfl,?_⟩,B⟩;have:=Ht.out;rw[List.take_of_length_le aN] at this;exact this
  ·have hkx:k<ks.length:=by omega
   obtain⟨x,rfl,hx1,hx⟩:=Ca (by intro h;rw[h] at hkx;simp at hkx);obtain⟨y,hy⟩:∃y,ks[k]? =some y:=⟨_,aH hkx⟩;have Yc:=(hx k y hy).below B (by rw[add_block];exact hx1);obtain⟨q0,q1,q2,q3,q4,q5,q6,q7⟩:=Yc;have hc:=Hp wr B y (aT hy);have Hs:Hid _:=xE (p:=p) hy;have Hm:=aj (hy);clear hx hx1 hy;cases hy:p y with
   |true=>
    rw[hy] at hc;have Hc:=aj (hc);have Hy:=aj (hy);clear hc hy;go_wp2_with fail
    refine Calls.mono Hc ?_;rintro e w1 ⟨rfl,b1⟩;have B1:=aG B b1;clear b1;go_wp2;go_ret;exact⟨_,rfl,.inr ⟨k,y,rfl,Hm,Hy,Ht⟩,B1⟩
   |false=>
    rw[hy] at hc;have Hc:=aj (hc);have Hy:=aj (hy);clear hc hy;go_wp2_with fail
    refine Calls.mono Hc ?_;rintro e w1 ⟨rfl,b1⟩;have B1:=aG B b1;clear b1;go_wp2;go_round
    case rel=>exact⟨k+1,by omega,by go_num,by have:=Hs.out;rw[Ht.out,Hy.out] at this;exact this,B1⟩
    case measure=>simp[intOf];omega
theorem Rn(K:Nat)(eK:∀args w,(callFunc K args).run prog w=.ok (.enter K args) w)(u:Value)(cs:Array Value)(ks:List aI)(p:aI->Bool)(w:World)(hu:oP w u ks)
  (hp:∀W,Below w.heap.size w W->∀k∈ks,Calls prog K (#[k.val]++cs) W λe w'=>e=.returned (.bool (p k))/\Below W.heap.size W w'):
  Calls prog 129 #[u,.func (Fn.func K) #[] cs] w λe w'=>e=.returned (.bool (ks.any p))/\Below w.heap.size w w':=by
 have H':=aj (qJ K eK u cs ks p w hu hp);clear hp;go_enter func129,ntmps129;go_wp2_with fail
 refine Calls.mono H' ?_;rintro e w1 ⟨r,rfl,hr,q⟩;have Hr:=aj (hr.has);have Q:=aj (q);clear hr q;go_wp2;go_ret;exact⟨by show Ending.returned (.bool (decide (0<=r)))=_;rw[Hr.out],Q⟩
end
end Go.Proofs.YtolfphmdmpehdaaGreatDoor
