/- TurnOrder: orders turned round, but each unit's in their order, bring the same. Plain mathematics. And more. -/
import Derived.Test.YtojhiiiebnlipaaGreatDoorZTurnOrder9
import Derived.Deep.SlicePairs
import Derived.OpenShut
set_option linter.unusedVariables false
set_option maxHeartbeats 8000000
set_option maxRecDepth 100000
open Go.Value (int slice)
open Go.IntKind (i64)
namespace Go.Proofs.YtojhiiiebnlipaaGreatDoor
open Go.Proofs.YtojhiiiebnlipaaGreatDoor.So
namespace To
def ck(p u:Int)(t:Bool)(o:aK):Bool:=decide (o.aA=p/\o.unit=u)&&(decide (o.what=3)==t)
theorem iD{p u:Int}{t:Bool}{o:aK}:ck p u t o=true↔(o.aA=p/\o.unit=u)/\decide (o.what=3)=t:=by
 unfold ck;rw[Bool.and_eq_true,decide_eq_true_iff,beq_iff_eq]
theorem Qk{l:List aK}{k:Nat}{x:aK}(hx:l[k]? =some x)(h3:¬x.what=3):∀{n:Nat},k<n->(k:Int)<=lf l n x.aA x.unit
 |0,h=>by omega
 |n+1,h=>by
  by_cases e:k=n
  ·subst e
   rw[qG hx h3];unfold nX;rw[if_pos ⟨rfl,rfl⟩];exact Int.le_refl _
  ·have ih:=Qk hx h3 (n:=n) (by omega)
   rw[lf];cases hq:l[n]? with
   |none=>exact ih
   |some y=>
    simp only;split
    ·exact ih
    ·unfold nX
     split
     ·omega
     ·exact ih
theorem wZ{l:List aK}{p u:Int}:∀(q:Nat),q<=l.length->((kp l q).map Prod.fst).filter (ck p u true)=(l.take q).filter (ck p u true)
 |0,_=>by simp[kp]
 |q+1,h=>by
  have hq:q<l.length:=by omega
  have ih:=wZ (l:=l) (p:=p) (u:=u) q (by omega);have ho:=List.getElem?_eq_getElem hq;rw[List.take_succ_eq_append_getElem hq,List.filter_append,<-ih];by_cases hc:l[q].what=3\/lf l l.length l[q].aA l[q].unit=(q:Nat)
  ·rw[kD ho hc,List.map_append,List.filter_append]
   rfl
  ·rw[wJ ho hc]
   have:ck p u true l[q]=false:=by
    cases hk:ck p u true l[q] with
    |false=>rfl
    |true=>exact absurd (.inl (of_decide_eq_true (iD.1 hk).2)) hc
   simp[this]
theorem w_{l:List aK}{p u:Int}:∀(q:Nat),q<=l.length->((kp l q).map Prod.fst).filter (ck p u false)=if(l.drop q).any (ck p u false) then[] else((l.take q).filter (ck p u false)).getLast?.toList
 |0,_=>by simp[kp]
 |q+1,h=>by
  have hq:q<l.length:=by omega
  have ih:=w_ (l:=l) (p:=p) (u:=u) q (by omega);have ho:=List.getElem?_eq_getElem hq;have hd:l.drop q=l[q]::l.drop (q+1):=List.drop_eq_getElem_cons hq;rw[hd,List.any_cons] at ih;rw[List.take_succ_eq_append_getElem hq,List.filter_append];cases hk:ck p u false l[q] with
  |false=>
   rw[hk,Bool.false_or] at ih;have e:((kp l (q+1)).map Prod.fst).filter (ck p u false)=((kp l q).map Prod.fst).filter (ck p u false):=by
    by_cases hc:l[q].what=3\/lf l l.length l[q].aA l[q].unit=(q:Nat)
    ·rw[kD ho hc,List.map_append,List.filter_append]
     simp[hk]
    ·rw[wJ ho hc]
   rw[e,ih];simp[hk]
  |true=>
   rw[hk,Bool.true_or,if_pos rfl] at ih;obtain⟨⟨e1,e2⟩,e3⟩:=iD.1 hk;have h3:¬l[q].what=3:=of_decide_eq_false e3;cases hy:(l.drop (q+1)).any (ck p u false) with
   |true=>
    rw[if_pos rfl];obtain⟨x,hx,hxk⟩:=List.any_eq_true.1 hy;obtain⟨i,hi⟩:=List.mem_iff_getElem?.1 hx;rw[List.getElem?_drop] at hi;obtain⟨⟨f1,f2⟩,f3⟩:=iD.1 hxk;have hl:q+1+i<l.length:=(List.getElem?_eq_some_iff.1 hi).1;have g:=Qk hi (of_decide_eq_false f3) hl;rw[f1,f2,<-e1,<-e2] at g;have hc:¬(l[q].what=3\/lf l l.length l[q].aA l[q].unit=(q:Nat)):=by
     rintro(h|h)
     ·exact h3 h
     ·rw[h] at g
      omega
    rw[wJ ho hc,ih]
   |false=>
    rw[if_neg (by simp)];have hc:l[q].what=3\/lf l l.length l[q].aA l[q].unit=(q:Nat):=by
     refine .inr (oz ho h3 hq λk x h1 h2 hx=>?_);by_cases hx3:x.what=3
     ·exact .inl hx3
     ·refine .inr ?_
      have hm:x∈l.drop (q+1):=by
       refine List.mem_iff_getElem?.2 ⟨k-(q+1),?_⟩;rw[List.getElem?_drop,show q+1+(k-(q+1))=k from by omega];exact hx
      have hf:ck p u false x=false:=by
       cases hb:ck p u false x with
       |false=>rfl
       |true=>rw[List.any_eq_true.2 ⟨x,hm,hb⟩] at hy;cases hy
      by_cases hp:x.aA=l[q].aA
      ·refine .inr λhu=>?_
       rw[iD.2 ⟨⟨hp.trans e1,hu.trans e2⟩,decide_eq_false hx3⟩] at hf;cases hf
      ·exact .inl hp
    rw[kD ho hc,List.map_append,List.filter_append,ih];simp[hk]
theorem qO{l out:List aK}(h:aW l out)(p u:Int)(t:Bool):out.filter (ck p u t)=((kp l l.length).map Prod.fst).filter (ck p u t):=by
 obtain⟨S,pm,r,rfl⟩:=h;rw[List.filter_map,List.filter_map]
 congr 1
 refine kC (pm.filter _) (r.filter _) ?_;have h1:=(jF (l:=l) l.length).filter (ck p u t∘Prod.fst);refine h1.imp_of_mem λ{a b} ha hb hab=>.inr ⟨?_,hab⟩
 obtain⟨⟨a1,a2⟩,a3⟩:=iD.1 (List.mem_filter.1 ha).2;obtain⟨⟨b1,b2⟩,b3⟩:=iD.1 (List.mem_filter.1 hb).2;unfold og Ej;rw[a1,a2,b1,b2];have e:a.1.what=3↔b.1.what=3:=by rw[<-decide_eq_decide,a3,b3]
 by_cases h3:a.1.what=3
 ·rw[if_pos h3,if_pos (e.1 h3)];omega
 ·rw[if_neg h3,if_neg (λh=>h3 (e.2 h))];omega
theorem BO{l out:List aK}(h:aW l out)(p u:Int):out.filter (ck p u true)=l.filter (ck p u true)/\out.filter (ck p u false)=(l.filter (ck p u false)).getLast?.toList:=by
 refine⟨?_,?_⟩
 ·rw[qO h,wZ _ (Nat.le_refl _),List.take_length]
 ·rw[qO h,w_ _ (Nat.le_refl _),List.drop_length,List.take_length]
  simp
theorem mY(o:aK):ck o.aA o.unit (decide (o.what=3)) o=true:=iD.2 ⟨⟨rfl,rfl⟩,rfl⟩
theorem qP:∀{a b:List aK},a.Pairwise (λx y=>¬og y x)->b.Pairwise (λx y=>¬og y x)->(∀p u t,a.filter (ck p u t)=b.filter (ck p u t))->a=b
 |[],[],_,_,_=>rfl
 |[],y::b,_,_,h=>by
  have:=h y.aA y.unit (decide (y.what=3));rw[List.filter_cons_of_pos (mY y)] at this;cases this
 |x::a,[],_,_,h=>by
  have:=h x.aA x.unit (decide (x.what=3));rw[List.filter_cons_of_pos (mY x)] at this;cases this
 |x::a,y::b,ha,hb,h=>by
  have hm:∀o,o∈x::a↔o∈y::b:=λo=>by
   have e:=h o.aA o.unit (decide (o.what=3));constructor
   ·intro ho
    have:=List.mem_filter.2 ⟨ho,mY o⟩;rw[e] at this;exact(List.mem_filter.1 this).1
   ·intro ho
    have:=List.mem_filter.2 ⟨ho,mY o⟩;rw[<-e] at this;exact(List.mem_filter.1 this).1
  have h1:¬og y x:=by
   rcases List.mem_cons.1 ((hm y).2 List.mem_cons_self) with e|e
   ·rw[e];exact Bc _
   ·exact(List.pairwise_cons.1 ha).1 y e
  have h2:¬og x y:=by
   rcases List.mem_cons.1 ((hm x).1 List.mem_cons_self) with e|e
   ·rw[e];exact Bc _
   ·exact(List.pairwise_cons.1 hb).1 x e
  have hk:ck x.aA x.unit (decide (x.what=3)) y=true:=by
   refine iD.2 ?_;unfold og Ej at h1 h2;by_cases c1:x.what=3<;>by_cases c2:y.what=3
   all_goals
    simp only[c1,c2,if_true,if_false] at h1 h2
   ·exact⟨⟨by omega,by omega⟩,by simp[c1,c2]⟩
   ·omega
   ·omega
   ·exact⟨⟨by omega,by omega⟩,by simp[c1,c2]⟩
  have e:=h x.aA x.unit (decide (x.what=3));rw[List.filter_cons_of_pos (mY x),List.filter_cons_of_pos hk] at e;injection e with e1 e2
  subst e1;rw[qP (List.pairwise_cons.1 ha).2 (List.pairwise_cons.1 hb).2 λp u t=>by
   have:=h p u t;rw[List.filter_cons,List.filter_cons] at this;split at this
   ·injection this
   ·exact this]
theorem xA{m:List aK}{Q:Int->Int->Bool}{p u:Int}{t:Bool}:(m.filter (λo=>Q o.aA o.unit)).filter (ck p u t)=if Q p u then m.filter (ck p u t) else[]:=by
 rw[List.filter_filter];split
 ·rename_i hq
  refine List.filter_congr λo _=>?_
  cases hk:ck p u t o with
  |false=>rfl
  |true=>
   obtain⟨⟨e1,e2⟩,-⟩:=iD.1 hk;rw[e1,e2,hq];rfl
 ·rename_i hq
  refine List.filter_eq_nil_iff.2 λo _ ho=>?_
  rw[Bool.and_eq_true] at ho;obtain⟨⟨e1,e2⟩,-⟩:=iD.1 ho.1;rw[e1,e2] at ho;exact hq ho.2
theorem EX{l l' out out':List aK}{Q:Int->Int->Bool}(h:aW l out)(h':aW l' out')(hc:∀p u t,l'.filter (ck p u t)=if Q p u then l.filter (ck p u t) else[]):out'=out.filter (λo=>Q o.aA o.unit):=by
 refine qP (h'.lo.imp λh=>h.1) ((h.lo.imp λh=>h.1).filter _) λp u t=>?_
 rw[xA];obtain⟨a1,a2⟩:=BO h p u;obtain⟨b1,b2⟩:=BO h' p u;cases t with
 |true=>rw[b1,hc,a1]
 |false=>
  rw[b2,hc,a2];split<;>rfl
def kq(d:Int×Int)(o:aK):Bool:=decide (o.aA=d.1/\o.unit=d.2)
def oC(ds:List (Int×Int))(l:List aK):List aK:=ds.flatMap λd=>l.filter (kq d)
theorem Vs{l:List aK}{d:Int×Int}{p u:Int}{t:Bool}:(l.filter (kq d)).filter (ck p u t)=if d=(p,u) then l.filter (ck p u t) else[]:=by
 rw[List.filter_filter];split
 ·rename_i e
  subst e;refine List.filter_congr λo _=>?_
  cases hk:ck p u t o with
  |false=>rfl
  |true=>rw[show kq (p,u) o=true from decide_eq_true (iD.1 hk).1];rfl
 ·rename_i hn
  refine List.filter_eq_nil_iff.2 λo _ ho=>?_
  rw[Bool.and_eq_true] at ho;obtain⟨⟨e1,e2⟩,-⟩:=iD.1 ho.1;have:=of_decide_eq_true ho.2;exact hn (Prod.ext (this.1.symm.trans e1) (this.2.symm.trans e2))
theorem sS{l:List aK}{p u:Int}{t:Bool}:∀{ds:List (Int×Int)},ds.Nodup->(oC ds l).filter (ck p u t)=if decide ((p,u)∈ds) then l.filter (ck p u t) else[]
 |[],_=>by simp[oC]
 |d::ds,hn=>by
  obtain⟨h1,h2⟩:=List.nodup_cons.1 hn;have ih:=sS (l:=l) (p:=p) (u:=u) (t:=t) h2;unfold oC at ih ⊢;rw[List.flatMap_cons,List.filter_append,Vs,ih];by_cases e:d=(p,u)
  ·subst e
   rw[if_pos rfl,if_neg (by simpa using h1),if_pos (by simp),List.append_nil]
  ·rw[if_neg e,List.nil_append]
   have:((p,u)∈d::ds)=((p,u)∈ds):=by
    rw[List.mem_cons];exact propext ⟨λh=>h.resolve_left (λh=>e h.symm),.inr⟩
   simp only[this]
theorem B_(q:aK->Bool):∀l:List aK,(l.filter q).length+(l.filter (λo=> !q o)).length=l.length
 |[]=>rfl
 |o::l=>by
  have ih:=B_ q l;rw[List.filter_cons,List.filter_cons];cases q o<;>simp<;>omega
theorem uO:∀{ds:List (Int×Int)} {l:List aK},ds.Nodup->(oC ds l).length<=l.length
 |[],l,_=>by simp[oC]
 |d::ds,l,hn=>by
  obtain⟨h1,h2⟩:=List.nodup_cons.1 hn;have ih:=uO (ds:=ds) (l:=l.filter (λo=> !kq d o)) h2;have e:oC ds (l.filter (λo=> !kq d o))=oC ds l:=by
   unfold oC;rw[List.flatMap_def,List.flatMap_def]
   congr 1
   refine List.map_congr_left λc hc=>?_
   rw[List.filter_filter];refine List.filter_congr λo _=>?_
   cases hk:kq c o with
   |false=>rfl
   |true=>
    have:=of_decide_eq_true hk;have hf:kq d o=false:=by
     cases hd:kq d o with
     |false=>rfl
     |true=>
      have h9:=of_decide_eq_true hd;exact absurd (show d∈ds from by rw[show d=c from Prod.ext (h9.1.symm.trans this.1) (h9.2.symm.trans this.2)];exact hc) h1
    rw[hf];rfl
  rw[e] at ih;have hl:=B_ (kq d) l;unfold oC at ih ⊢;rw[List.flatMap_cons,List.length_append];omega
theorem Po{ds:List (Int×Int)}{l:List aK}{o:aK}(h:o∈oC ds l):o∈l:=by
 obtain⟨d,-,h⟩:=List.mem_flatMap.1 h;exact(List.mem_filter.1 h).1
theorem EZ{ds:List (Int×Int)}{l:List aK}(hn:ds.Nodup)(h:Od.faults l=0):Od.faults (oC ds l)=0:=by
 obtain⟨h1,h2⟩:=Od.fK h;exact Od.nD (Nat.le_trans (uO hn) h1) λo ho=>h2 o (Po ho)
theorem E_{ks:List KV}{Y Z:WV}{o:aK}(hg:dX ks Y o=some Z):Z.us.map aC.id=Y.us.map aC.id:=by
 unfold dX at hg;split at hg
 ·cases hg
 ·split at hg
  ·cases hg
  ·split at hg
   ·cases hg
   ·split at hg
    ·injection hg with hg
     subst hg;split
     ·rfl
     ·rename_i i _ _ u hu _ _ _ _ _
      show(Y.us.set i (nO o u)).map aC.id=_;rw[List.map_set,show(nO o u).id=u.id from rfl];obtain⟨hi,e⟩:=List.getElem?_eq_some_iff.1 hu;refine List.ext_getElem? λn=>?_
      rw[List.getElem?_set];split
      ·rename_i en
       subst en;rw[List.length_map,if_pos hi,List.getElem?_map,hu];rfl
      ·rfl
    ·cases hg
theorem KI{ks:List KV}{Y:WV}{out:List aK}:∀q,(gv ks Y out q).1.us.map aC.id=Y.us.map aC.id
 |0=>rfl
 |q+1=>by
  have ih:=KI (ks:=ks) (Y:=Y) (out:=out) q;cases hq:out[q]? with
  |none=>rw[gv];simp only[hq];exact ih
  |some o=>
   cases hg:dX ks (gv ks Y out q).1 o with
   |some Z=>rw[lD hq hg];exact(E_ hg).trans ih
   |none=>rw[nP hq hg];exact ih
theorem zM{ks:List KV}{Y:WV}{o:aK}(h:¬o.unit∈Y.us.map aC.id):dX ks Y o=none:=by
 unfold dX;rw[vS];rw[List.any_eq_false];intro u hu;simp only[kR,decide_eq_true_eq];rintro⟨e,-⟩;exact h (e▸List.mem_map_of_mem hu)
theorem Cc{ks:List KV}{Y:WV}{out:List aK}{P:aK->Bool}(hP:∀o∈out,P o=false->¬o.unit∈Y.us.map aC.id):∀q,q<=out.length->(gv ks Y ((out.take q).filter P) ((out.take q).filter P).length).1=(gv ks Y out q).1
 |0,_=>by simp[gv]
 |q+1,hq=>by
  have hl:q<out.length:=by omega
  have ih:=Cc (ks:=ks) hP q (by omega);have ho:=List.getElem?_eq_getElem hl;rw[List.take_succ_eq_append_getElem hl,List.filter_append];cases hp:P out[q] with
  |false=>
   rw[List.filter_cons_of_neg (by simp[hp]),List.filter_nil,List.append_nil,ih];rw[nP ho (zM (by rw[KI];exact hP _ (List.getElem_mem hl) hp))]
  |true=>
   rw[List.filter_cons_of_pos hp,List.filter_nil,List.length_append,List.length_singleton];generalize hm:(out.take q).filter P=m at ih ⊢;have e1:gv ks Y (m++[out[q]]) m.length=gv ks Y m m.length:=wY _ (Nat.le_refl _);have e2:(m++[out[q]])[m.length]? =some out[q]:=by simp
   cases hg:dX ks (gv ks Y out q).1 out[q] with
   |none=>rw[nP ho hg,nP e2 (by rw[e1,ih];exact hg),e1,ih]
   |some Z=>rw[lD ho hg,lD e2 (Z:=Z) (by rw[e1,ih];exact hg)]
def keys(us:List aC):List (Int×Int):=[3,2,1,0].flatMap λp=>us.reverse.map λv=>((p:Int),v.id)
theorem lN{us:List aC}(h:(us.map aC.id).Nodup):(keys us).Nodup:=by
 have hr:∀p:Int,(us.reverse.map λv=>(p,v.id)).Nodup:=λp=>by
  have:(us.reverse.map λv=>(p,v.id))=(us.reverse.map aC.id).map (Prod.mk p):=by rw[List.map_map];rfl
  rw[this,List.map_reverse];exact List.Pairwise.map _ (λa b (hab:a≠b) he=>hab (Prod.mk.inj he).2) (List.pairwise_reverse.2 (List.Pairwise.imp (λhab=>Ne.symm hab) h))
 have hd:∀p q:Int,p≠q->∀x∈(us.reverse.map λv=>(p,v.id)),∀y∈(us.reverse.map λv=>(q,v.id)),x≠y:=by
  intro p q hpq x hx y hy e;obtain⟨a,-,rfl⟩:=List.mem_map.1 hx;obtain⟨b,-,rfl⟩:=List.mem_map.1 hy;exact hpq (Prod.mk.inj e).1
 unfold keys;simp only[List.flatMap_cons,List.flatMap_nil,List.append_nil];refine List.nodup_append.2 ⟨hr 3,List.nodup_append.2 ⟨hr 2,List.nodup_append.2 ⟨hr 1,hr 0,hd 1 0 (by decide)⟩,?_⟩,?_⟩
 ·intro x hx y hy
  rcases List.mem_append.1 hy with hy|hy
  ·exact hd 2 1 (by decide) x hx y hy
  ·exact hd 2 0 (by decide) x hx y hy
 ·intro x hx y hy
  rcases List.mem_append.1 hy with hy|hy
  ·exact hd 3 2 (by decide) x hx y hy
  ·rcases List.mem_append.1 hy with hy|hy
   ·exact hd 3 1 (by decide) x hx y hy
   ·exact hd 3 0 (by decide) x hx y hy
theorem KN{us:List aC}{p u:Int}(h0:0<=p)(h3:p<=3)(hu:u∈us.map aC.id):(p,u)∈keys us:=by
 obtain⟨v,hv,rfl⟩:=List.mem_map.1 hu;refine List.mem_flatMap.2 ⟨p,?_,List.mem_map.2 ⟨v,List.mem_reverse.2 hv,rfl⟩⟩;have:p=3\/p=2\/p=1\/p=0:=by omega
 rcases this with rfl|rfl|rfl|rfl<;>simp
theorem xB{ks:List KV}{X Y Y':WV}{l:List aK}{es es':List cO}(hn:(X.us.map aC.id).Nodup)(hf:Od.faults l=0)(h:kW ks X l Y es)(h':kW ks X (oC (keys X.us) l) Y' es'):Y=Y':=by
 obtain⟨out,Wn,Hn,Z,a1,a2,a3,a4,rfl⟩:=h;obtain⟨out',Vj,Vk,Z',b1,b2,b3,b4,rfl⟩:=h';obtain rfl:Wn=Vj:=by omega
 obtain rfl:Hn=Vk:=by omega
 have e:=EX (Q:=λp u=>decide ((p,u)∈keys X.us)) a1 b1 λp u t=>sS (lN hn)
 have hg:=Cc (ks:=ks) (Y:=X) (out:=out) (P:=λo=>decide ((o.aA,o.unit)∈keys X.us)) (λo ho hp hu=>by
  have hb:=(Od.fK hf).2 o (a1.mem ho);unfold Od.bad at hb;exact of_decide_eq_false hp (KN (by omega) (by omega) hu)) out.length (Nat.le_refl _)
 rw[List.take_length] at hg;rw[e,hg] at b4;obtain⟨rfl,rfl⟩:=BI a4 b4;rfl
end To
namespace To
theorem nK{ks:List KV}{X:WV}(h:aT ks X):(X.us.map aC.id).Nodup:=by
 refine List.pairwise_map.2 (List.pairwise_iff_getElem.2 λi j hi hj hij=>?_);have:=jU h (j-i-1) i X.us[i] X.us[j] (List.getElem?_eq_getElem hi) (by rw[show i+(j-i-1)+1=j from by omega];exact List.getElem?_eq_getElem hj);omega
theorem KO(us:List aC):(keys us).length=4*us.length:=by
 unfold keys;simp only[List.flatMap_cons,List.flatMap_nil,List.append_nil,List.length_append,List.length_map,List.length_reverse];omega
theorem Pq{us:List aC}{m k:Nat}{v:aC}(hm:m<4)(hk:k<us.length)(hv:us[us.length-1-k]? =some v):(keys us)[m*us.length+k]? =some (3-(m:Int),v.id):=by
 have r:∀p:Int,(us.reverse.map λv=>(p,v.id))[k]? =some (p,v.id):=λp=>by
  rw[List.getElem?_map,List.getElem?_reverse hk,hv];rfl
 have ln:∀p:Int,(us.reverse.map λv=>(p,v.id)).length=us.length:=λp=>by rw[List.length_map,List.length_reverse]
 unfold keys;simp only[List.flatMap_cons,List.flatMap_nil,List.append_nil]
 match m,hm with
 |0,_=>
  rw[List.getElem?_append_left (by rw[ln];omega),show 0*us.length+k=k from by omega,r];rfl
 |1,_=>
  rw[List.getElem?_append_right (by rw[ln];omega),ln,show 1*us.length+k-us.length=k from by omega,List.getElem?_append_left (by rw[ln];omega),r];rfl
 |2,_=>
  rw[List.getElem?_append_right (by rw[ln];omega),ln,List.getElem?_append_right (by rw[ln];omega),ln,show 2*us.length+k-us.length-us.length=k from by omega,List.getElem?_append_left (by rw[ln];omega),r];rfl
 |3,_=>
  rw[List.getElem?_append_right (by rw[ln];omega),ln,List.getElem?_append_right (by rw[ln];omega),ln,List.getElem?_append_right (by rw[ln];omega),ln,show 3*us.length+k-us.length-us.length-us.length=k from by omega,r];rfl
theorem KQ{ds:List (Int×Int)}{l:List aK}{j:Nat}{d:Int×Int}(h:ds[j]? =some d):oC (ds.take (j+1)) l=oC (ds.take j) l++l.filter (kq d):=by
 obtain⟨hj,e⟩:=List.getElem?_eq_some_iff.1 h;unfold oC;rw[List.take_succ_eq_append_getElem hj,List.flatMap_append,e];simp
theorem xC{l:List aK}{q:aK->Bool}{n:Nat}{o:aK}(h:l[n]? =some o):(l.take (n+1)).filter q=(l.take n).filter q++if q o then[o] else[]:=by
 obtain⟨hj,e⟩:=List.getElem?_eq_some_iff.1 h;rw[List.take_succ_eq_append_getElem hj,List.filter_append,e,List.filter_cons,List.filter_nil]
def tw(us:List aC)(l:List aK)(m k n:Nat):List aK:=oC ((keys us).take (m*us.length+k)) l++match us[us.length-1-k]? with
 |some v=>(l.take n).filter (kq (3-(m:Int),v.id))
 |none=>[]
theorem Pv(us:List aC)(l:List aK):tw us l 0 0 0=[]:=by
 unfold tw;cases us[us.length-1-0]? <;>simp[oC]
theorem Ql{us:List aC}{l:List aK}{m k n:Nat}{v:aC}{o:aK}(hv:us[us.length-1-k]? =some v)(ho:l[n]? =some o)(h:¬(o.aA=3-(m:Int)/\o.unit=v.id)):tw us l m k (n+1)=tw us l m k n:=by
 unfold tw;simp only[hv];rw[xC ho,if_neg (by simpa[kq] using h),List.append_nil]
theorem R_{us:List aC}{l:List aK}{m k n:Nat}{v:aC}{o:aK}(hv:us[us.length-1-k]? =some v)(ho:l[n]? =some o)(h:o.aA=3-(m:Int)/\o.unit=v.id):tw us l m k (n+1)=tw us l m k n++[o]:=by
 unfold tw;simp only[hv];rw[xC ho,if_pos (show kq (3-(m:Int),v.id) o=true from decide_eq_true h),List.append_assoc]
theorem mZ(us:List aC)(l:List aK)(m k:Nat):tw us l m k 0=oC ((keys us).take (m*us.length+k)) l:=by
 unfold tw;cases us[us.length-1-k]? <;>simp
theorem Px{us:List aC}{l:List aK}{m k:Nat}{v:aC}(hm:m<4)(hk:k<us.length)(hv:us[us.length-1-k]? =some v):tw us l m k l.length=tw us l m (k+1) 0:=by
 rw[mZ];unfold tw;simp only[hv];rw[List.take_length,<-Nat.add_assoc,KQ (Pq hm hk hv)]
theorem Fa(us:List aC)(l:List aK)(m:Nat):tw us l m us.length 0=tw us l (m+1) 0 0:=by
 rw[mZ,mZ,Nat.succ_mul,Nat.add_zero]
theorem Si(us:List aC)(l:List aK):tw us l 4 0 0=oC (keys us) l:=by
 rw[mZ,Nat.add_zero,<-KO,List.take_length]
theorem Sj{us:List aC}{l:List aK}{m k n:Nat}(hn:(us.map aC.id).Nodup):(tw us l m k n).length<=2*l.length:=by
 unfold tw;rw[List.length_append];have h1:=uO (l:=l) ((lN hn).sublist (List.take_sublist (m*us.length+k) _));have h2:∀q:aK->Bool,((l.take n).filter q).length<=l.length:=λq=>by
  have a:=List.length_filter_le q (l.take n);rw[List.length_take] at a;omega
 cases us[us.length-1-k]? with
 |none=>simp;omega
 |some v=>have:=h2 (kq (3-(m:Int),v.id));simp only;omega
end To
open Go.RowKit
def Wb(V:World)(z:Nat)(Q:WV):Prop:=∃g1 l1 g2 l2 g3 l3 g4 l4 g5 l5,Bw V z Q (slice g1 Q.gs.length l1) (slice g2 Q.os.length l2) (slice g3 Q.gold.length l3) (slice g4 Q.us.length l4) (slice g5 Q.qs.length l5)/\Wl V (.agg #[int i64 Q.turn,int i64 Q.next,int i64 Q.wide,int i64 Q.high,slice g1 Q.gs.length l1,slice g2 Q.os.length l2,slice g3 Q.gold.length l3,slice g4 Q.us.length l4,slice g5 Q.qs.length l5]) Q
theorem Wb.below{W V:World}{z:Nat}{Q:WV}(h:Wb W z Q)(hb:Below W.heap.size W V):Wb V z Q:=by
 obtain⟨g1,l1,g2,l2,g3,l3,g4,l4,g5,l5,h1,h2⟩:=h;exact⟨g1,l1,g2,l2,g3,l3,g4,l4,g5,l5,h1.below hb h1.lt,h2.below hb⟩
theorem Wb.lt{W:World}{z:Nat}{Q:WV}(h:Wb W z Q):z<W.heap.size:=by
 obtain⟨g1,l1,g2,l2,g3,l3,g4,l4,g5,l5,h1,h2⟩:=h;exact h1.lt
theorem oD{r:Value}(h:Er r 0):r=.nilIface:=by
 rcases h with⟨-,h⟩|⟨h,-⟩
 ·exact h
 ·exact absurd rfl h
namespace To
theorem iY{w w':World}{v ev r:Value}(hs:kE SK S3 [o1,o2] w w' v ev)(he:Er r (bC SK S3 [o1,o2])):r=.nilIface/\∃es,3<=es.length/\Wo w' w.heap.size v (TW 1 20 hit)/\dM w' w.heap.size ev es:=by
 rw[fault] at he;obtain⟨es,h1,h2⟩:=step;rcases hs with⟨hn,-⟩|⟨-,A,es',h3,h4,h5⟩
 ·exact absurd fault hn
 ·obtain⟨rfl,rfl⟩:=EP h1 h3
  exact⟨oD he,es,h2,h4,h5⟩
theorem KT{ks:List KV}{X:WV}{l:List aK}{w w':World}{v ev r:Value}(hs:kE ks X l w w' v ev)(he:Er r (bC ks X l)):(∃F:Int,r=.iface 90 (int i64 F))\/(r=.nilIface/\bC ks X l=0/\∃Y es,kW ks X l Y es/\Wd.aG ks Y=0/\Y.turn=X.turn+1/\Wo w' w.heap.size v Y):=by
 rcases hs with⟨hn,-⟩|⟨h0,A,es,h3,h4,h5⟩
 ·rcases he with⟨h,-⟩|⟨-,h⟩
  ·exact absurd h hn
  ·exact .inl ⟨_,h⟩
 ·rw[h0] at he
  obtain⟨a,b⟩:=zI h0 h3;exact .inr ⟨oD he,h0,A,es,h3,a,b,h4⟩
theorem gG{ks:List KV}{X:WV}{l:List aK}(h:bC ks X l=0):Wd.aG ks X=0/\Od.faults l=0/\bC ks X (oC (keys X.us) l)=0:=by
 unfold bC at h ⊢;by_cases h1:Wd.aG ks X=0
 ·rw[if_neg (λh=>h h1)] at h ⊢
  by_cases h2:1000000<=X.turn
  ·rw[if_pos h2] at h;cases h
  ·rw[if_neg h2] at h ⊢
   exact⟨h1,h,EZ (lN (nK (bM h1))) h⟩
 ·rw[if_pos h1] at h;exact absurd h h1
theorem Fb{ks:List KV}{X Y:WV}{l:List aK}{es:List cO}(h0:bC ks X l=0)(h:kW ks X l Y es){w w':World}{v ev r:Value}(hs:kE ks X (oC (keys X.us) l) w w' v ev)(he:Er r (bC ks X (oC (keys X.us) l))):r=.nilIface/\Wo w' w.heap.size v Y:=by
 obtain⟨a,b,c⟩:=gG h0;rcases hs with⟨hn,-⟩|⟨-,A,es',h3,h4,h5⟩
 ·exact absurd c hn
 ·rw[c] at he
  obtain rfl:=xB (nK (bM a)) b h h3;exact⟨oD he,h4⟩
end To
end Go.Proofs.YtojhiiiebnlipaaGreatDoor
namespace Go.Proofs.YtojhiiiebnlipaaGreatDoor
open Go.RowKit
theorem qQ(u v:Value)(xs ys:List Int)(w:World)(hu:Ro w u xs)(hv:Ro w v ys):
 Calls Tryz.prog 15 #[u,v] w λe w'=>e=.returned (.bool (decide (xs=ys)))/\∃n,w'=w.drewN n:=by
 obtain⟨a,c,rfl,hc1,hc2,ha⟩:=hu;obtain⟨b,d,rfl,hd1,hd2,hb⟩:=hv;have Ha:Hid (Cells w a xs):=ha;have Hb:Hid (Cells w b ys):=hb;clear ha hb;by_cases hl:xs.length=ys.length
 ·have Hl:Hid (xs.length=ys.length):=hl
  rw[<-hl] at hd1 ⊢;clear hl;go_enter Tryz.func15,Tryz.ntmps15;go_wp2_with fail
  go_loopw [5] (λi W=>∃(k q:Nat),k<=xs.length/\i=int i64 (k:Nat)/\xs.take k=ys.take k/\W=w.drewN q) (λi _=>xs.length-(intOf i).toNat)
  case atStart=>exact⟨0,0,Nat.zero_le _,rfl,by simp,rfl⟩
  case round=>
   obtain⟨k,q,hk,rfl,ht,rfl⟩:=hrel;have Ht:Hid (xs.take k=ys.take k):=ht;clear ht;by_cases h0:k=xs.length
   ·subst h0
    go_wp2;go_ret;refine⟨?_,q,rfl⟩;have e:=Ht.out;rw[List.take_of_length_le (Nat.le_refl _),Hl.out,List.take_of_length_le (Nat.le_refl _)] at e;simp[e]
   ·have hkx:k<xs.length:=by omega
    have hky:k<ys.length:=by rw[<-Hl.out];exact hkx
    obtain⟨x,rfl,-,hx⟩:=Ha.out (by intro h;rw[h] at hkx;simp at hkx);obtain⟨y,rfl,-,hy⟩:=Hb.out (by intro h;rw[h] at hky;simp at hky);have cx:=hx k xs[k] (List.getElem?_eq_getElem hkx);have cy:=hy k ys[k] (List.getElem?_eq_getElem hky);have Te:Hid (xs.take (k+1)=ys.take (k+1)↔xs[k]=ys[k]):=by
     unfold Hid;rw[List.take_succ_eq_append_getElem hkx,List.take_succ_eq_append_getElem hky,Ht.out];exact⟨λh=>(List.cons.inj (List.append_cancel_left h)).1,λh=>by rw[h]⟩
    generalize xs[k]=p at *;generalize ys[k]=r at *;clear hx hy;by_cases hpr:p=r
    ·subst hpr
     go_wp2;go_quiet (fail);go_wp2;go_round
     case rel=>exact⟨k+1,q+nq,by omega,by go_num,by first|exact Te.out.2 rfl|exact Te.out.2 trivial,rfl⟩
     case measure=>simp[intOf];omega
    ·go_wp2
     go_quiet (fail);go_wp2;go_ret;refine⟨?_,q+nq,by rw[World.drewN_drewN]⟩;have:xs≠ys:=λh=>hpr (Te.out.1 (by rw[h]))
     simp[this]
 ·go_enter Tryz.func15,Tryz.ntmps15
  go_wp2;go_ret;refine⟨?_,0,rfl⟩;have:xs≠ys:=λh=>hl (by rw[h])
  simp[this]
theorem zN(u v:Value)(W H:Int)(gs os:List Int)(w:World)(hu:Fl w u W H gs os)(hv:Fl w v W H gs os):
 Calls Tryz.prog 46 #[u,v] w λe w'=>e=.returned (.bool true)/\Below w.heap.size w w':=by
 obtain⟨a1,a2,rfl,ha1,ha2⟩:=hu;obtain⟨b1,b2,rfl,hb1,hb2⟩:=hv;have A1:Hid (Ro w a1 gs):=ha1;have A2:Hid (Ro w a2 os):=ha2;have B1:Hid (Ro w b1 gs):=hb1;have B2:Hid (Ro w b2 os):=hb2;clear ha1 ha2 hb1 hb2;go_enter Tryz.func46,Tryz.ntmps46;go_wp2_with fail
 have K0:Below w.heap.size w ((w.alloc (Obj.cells #[int i64 W,int i64 H,a1,a2] 25)).alloc (Obj.cells #[int i64 W,int i64 H,b1,b2] 25)):=((Below.refl _ _).alloc (Nat.le_refl _) _).alloc (by simp) _;have X0:=(Bf.mk' (w:=w) W H a1 a2 rfl).below ((Below.refl _ _).alloc (Nat.le_refl _) (Obj.cells #[int i64 W,int i64 H,b1,b2] 25)) (by simp);have Y0:=Bf.mk' (w:=w.alloc (Obj.cells #[int i64 W,int i64 H,a1,a2] 25)) (z:=w.heap.size+1) W H b1 b2 (by simp);generalize (w.alloc (Obj.cells #[int i64 W,int i64 H,a1,a2] 25)).alloc (Obj.cells #[int i64 W,int i64 H,b1,b2] 25)=w0 at *;refine(qQ _ _ gs gs _ (A1.out.below K0) (B1.out.below K0)).mono ?_;rintro e w1 ⟨rfl,q1,hq1⟩;rw[decide_eq_true rfl];have k1:Below w0.heap.size w0 w1:=by rw[hq1];exact _root_.Go.below_drewN (Below.refl _ _) _
 have K1:Below w.heap.size w w1:=K0.trans (k1.mono K0.size);have X1:Hid (Bf w1 w.heap.size W H a1 a2):=X0.below k1 X0.lt;have Y1:Hid (Bf w1 (w.heap.size+1) W H b1 b2):=Y0.below k1 Y0.lt;clear hq1 k1 X0 Y0 K0;obtain⟨x0,x1,x2,x3⟩:=X1.out;obtain⟨y0,y1,y2,y3⟩:=Y1.out;have K1':Hid (Below w.heap.size w w1):=K1;clear K1;go_wp2_with fail
 refine(qQ _ _ os os _ (A2.out.below K1'.out) (B2.out.below K1'.out)).mono ?_;rintro e w2 ⟨rfl,q2,hq2⟩;rw[decide_eq_true rfl];have k2:Below w1.heap.size w1 w2:=by rw[hq2];exact _root_.Go.below_drewN (Below.refl _ _) _
 have K2:Hid (Below w.heap.size w w2):=K1'.out.trans (k2.mono K1'.out.size);have X2:Hid (Bf w2 w.heap.size W H a1 a2):=X1.out.below k2 X1.out.lt;have Y2:Hid (Bf w2 (w.heap.size+1) W H b1 b2):=Y1.out.below k2 Y1.out.lt;clear hq2 k2 x0 x1 x2 x3 y0 y1 y2 y3 X1 Y1 K1';obtain⟨x0,x1,x2,x3⟩:=X2.out;obtain⟨y0,y1,y2,y3⟩:=Y2.out;go_wp2;go_ret;exact⟨rfl,K2⟩
theorem Fe(u v:Value)(xs:List Int)(w:World)(hu:Ro w u xs)(hv:Ro w v xs):
 Calls Tryz.prog 15 #[u,v] w λe w'=>e=.returned (.bool true)/\Below w.heap.size w w':=
 (qQ u v xs xs w hu hv).mono λe w' ⟨h1,q,h2⟩=>⟨by rw[h1,decide_eq_true rfl],by rw[h2];exact _root_.Go.below_drewN (Below.refl _ _) _⟩
theorem xE(u v:Value)(W:WV)(w:World)(hu:Wl w u W)(hv:Wl w v W):
 Calls Tryz.prog 14 #[u,v] w λe w'=>e=.returned (.bool true)/\Below w.heap.size w w':=by
 obtain⟨u1,u2,u3,u4,u5,rfl,g1,g2,g3,g4,g5⟩:=hu;obtain⟨v1,v2,v3,v4,v5,rfl,k1,k2,k3,k4,k5⟩:=hv;obtain⟨a4,c4,rfl,gl4,gc4,ga4⟩:=g4;obtain⟨b4,d4,rfl,kl4,kc4,ka4⟩:=k4;obtain⟨a5,c5,rfl,gl5,gc5,ga5⟩:=g5;obtain⟨b5,d5,rfl,kl5,kc5,ka5⟩:=k5;have R:Hid (Ro w u1 W.gs/\Ro w u2 W.os/\Ro w u3 W.gold/\Ro w v1 W.gs/\Ro w v2 W.os/\Ro w v3 W.gold):=⟨g1,g2,g3,k1,k2,k3⟩;have GU:Hid (W.us≠[]->∃x,a4=some x/\x.block<w.heap.size/\∀(i:Nat) k,W.us[i]? =some k->dO w (x.add (i*8)) k):=ga4;have KU:Hid (W.us≠[]->∃x,b4=some x/\x.block<w.heap.size/\∀(i:Nat) k,W.us[i]? =some k->dO w (x.add (i*8)) k):=ka4;have GJ:Hid (W.qs≠[]->∃x,a5=some x/\x.block<w.heap.size/\∀(i:Nat) k,W.qs[i]? =some k->jP w (x.add (i*4)) k):=ga5;have KJ:Hid (W.qs≠[]->∃x,b5=some x/\x.block<w.heap.size/\∀(i:Nat) k,W.qs[i]? =some k->jP w (x.add (i*4)) k):=ka5;have Ac:W.us.length<=9223372036854775807:=by omega
 have uU:W.qs.length<=9223372036854775807:=by omega
 clear g1 g2 g3 k1 k2 k3 ga4 ka4 ga5 ka5 gl4 gc4 kl4 kc4 gl5 gc5 kl5 kc5;go_enter Tryz.func14,Tryz.ntmps14;go_wp2_with fail
 have K0:Below w.heap.size w ((w.alloc (Obj.cells #[int i64 W.turn,int i64 W.next,int i64 W.wide,int i64 W.high,u1,u2,u3,slice a4 W.us.length c4,slice a5 W.qs.length c5] 29)).alloc (Obj.cells #[int i64 W.turn,int i64 W.next,int i64 W.wide,int i64 W.high,v1,v2,v3,slice b4 W.us.length d4,slice b5 W.qs.length d5] 29)):=((Below.refl _ _).alloc (Nat.le_refl _) _).alloc (by simp) _;have X0:=(Bw.mk' (w:=w) W u1 u2 u3 (slice a4 W.us.length c4) (slice a5 W.qs.length c5) rfl).below ((Below.refl _ _).alloc (Nat.le_refl _) (Obj.cells #[int i64 W.turn,int i64 W.next,int i64 W.wide,int i64 W.high,v1,v2,v3,slice b4 W.us.length d4,slice b5 W.qs.length d5] 29)) (by simp);have Y0:=Bw.mk' (w:=w.alloc (Obj.cells #[int i64 W.turn,int i64 W.next,int i64 W.wide,int i64 W.high,u1,u2,u3,slice a4 W.us.length c4,slice a5 W.qs.length c5] 29)) (z:=w.heap.size+1) W v1 v2 v3 (slice b4 W.us.length d4) (slice b5 W.qs.length d5) (by simp);generalize ((w.alloc (Obj.cells #[int i64 W.turn,int i64 W.next,int i64 W.wide,int i64 W.high,u1,u2,u3,slice a4 W.us.length c4,slice a5 W.qs.length c5] 29)).alloc (Obj.cells #[int i64 W.turn,int i64 W.next,int i64 W.wide,int i64 W.high,v1,v2,v3,slice b4 W.us.length d4,slice b5 W.qs.length d5] 29))=w0 at *;refine(zN _ _ W.wide W.high W.gs W.os w0 ⟨_,_,rfl,R.out.1.below K0,R.out.2.1.below K0⟩ ⟨_,_,rfl,R.out.2.2.2.1.below K0,R.out.2.2.2.2.1.below K0⟩).mono ?_;rintro e w1 ⟨rfl,hb1⟩;have K1:Hid (Below w.heap.size w w1):=K0.trans (hb1.mono K0.size);have X1:Hid (Bw w1 w.heap.size W u1 u2 u3 (slice a4 W.us.length c4) (slice a5 W.qs.length c5)):=X0.below hb1 X0.lt;have Y1:Hid (Bw w1 (w.heap.size+1) W v1 v2 v3 (slice b4 W.us.length d4) (slice b5 W.qs.length d5)):=Y0.below hb1 Y0.lt;clear K0 X0 Y0 hb1;obtain⟨x0,x1,x2,x3,x4,x5,x6,x7,x8⟩:=X1.out;obtain⟨y0,y1,y2,y3,y4,y5,y6,y7,y8⟩:=Y1.out;go_wp2_with fail
 refine(Fe _ _ W.gold w1 (R.out.2.2.1.below K1.out) (R.out.2.2.2.2.2.below K1.out)).mono ?_;rintro e w2 ⟨rfl,hb2⟩;have K2':Hid (Below w.heap.size w w2):=K1.out.trans (hb2.mono K1.out.size);have X2:Hid (Bw w2 w.heap.size W u1 u2 u3 (slice a4 W.us.length c4) (slice a5 W.qs.length c5)):=X1.out.below hb2 X1.out.lt;have Y2:Hid (Bw w2 (w.heap.size+1) W v1 v2 v3 (slice b4 W.us.length d4) (slice b5 W.qs.length d5)):=Y1.out.below hb2 Y1.out.lt;clear hb2 x0 x1 x2 x3 x4 x5 x6 x7 x8 y0 y1 y2 y3 y4 y5 y6 y7 y8 X1 Y1 K1;obtain⟨x0,x1,x2,x3,x4,x5,x6,x7,x8⟩:=X2.out;obtain⟨y0,y1,y2,y3,y4,y5,y6,y7,y8⟩:=Y2.out;go_wp2;clear x0 x1 x2 x3 x4 x5 x6 x7 x8 y0 y1 y2 y3 y4 y5 y6 y7 y8;go_loopw [7] (λi W'=>∃k:Nat,k<=W.us.length/\i=int i64 (k:Nat)/\Bw W' w.heap.size W u1 u2 u3 (slice a4 W.us.length c4) (slice a5 W.qs.length c5)/\Bw W' (w.heap.size+1) W v1 v2 v3 (slice b4 W.us.length d4) (slice b5 W.qs.length d5)/\Below w.heap.size w W') (λi _=>W.us.length-(intOf i).toNat)
 case atStart=>exact⟨0,Nat.zero_le _,rfl,X2.out,Y2.out,K2'.out⟩
 case round=>
  obtain⟨k,hk,rfl,hX,hY,hB⟩:=hrel;have XB:Hid (Bw wr w.heap.size W u1 u2 u3 (slice a4 W.us.length c4) (slice a5 W.qs.length c5)):=hX;have YB:Hid (Bw wr (w.heap.size+1) W v1 v2 v3 (slice b4 W.us.length d4) (slice b5 W.qs.length d5)):=hY;have B:Hid (Below w.heap.size w wr):=hB;clear hX hY hB X2 Y2 K2';by_cases h0:k=W.us.length
  ·subst h0
   have x7:=XB.out.c7;clear hk;go_wp2;clear x7;go_loopw [8] (λi W'=>∃k:Nat,k<=W.qs.length/\i=int i64 (k:Nat)/\Bw W' w.heap.size W u1 u2 u3 (slice a4 W.us.length c4) (slice a5 W.qs.length c5)/\Bw W' (w.heap.size+1) W v1 v2 v3 (slice b4 W.us.length d4) (slice b5 W.qs.length d5)/\Below w.heap.size w W') (λi _=>W.qs.length-(intOf i).toNat)
   case atStart=>exact⟨0,Nat.zero_le _,rfl,XB.out,YB.out,B.out⟩
   case round=>
    obtain⟨k,hk,rfl,hX,hY,hB⟩:=hrel;have XB:Hid (Bw wr w.heap.size W u1 u2 u3 (slice a4 W.us.length c4) (slice a5 W.qs.length c5)):=hX;have YB:Hid (Bw wr (w.heap.size+1) W v1 v2 v3 (slice b4 W.us.length d4) (slice b5 W.qs.length d5)):=hY;have B:Hid (Below w.heap.size w wr):=hB;clear hX hY hB;by_cases h0:k=W.qs.length
    ·subst h0
     have x8:=XB.out.c8;clear hk;go_wp2;go_ret;exact⟨rfl,B.out⟩
    ·have hlt:k<W.qs.length:=by omega
     have XH:((k:Nat):Int)<(W.qs.length:Nat):=by omega
     obtain⟨o,ho⟩:∃o,W.qs[k]? =some o:=⟨_,List.getElem?_eq_getElem hlt⟩;have hne:W.qs≠[]:=by intro e;rw[e] at hlt;simp at hlt
     obtain⟨x,rfl,hx,hxc⟩:=GJ.out hne;obtain⟨y,rfl,hy,Vt⟩:=KJ.out hne;obtain⟨q0,q1,q2,q3⟩:=(hxc k o ho).below B.out (by rw[add_block];exact hx);obtain⟨r0,r1,r2,r3⟩:=(Vt k o ho).below B.out (by rw[add_block];exact hy);have x8:=XB.out.c8;have y8:=YB.out.c8;clear hxc Vt hne ho hx hy;go_wp2;go_quiet (fail);go_wp2;go_round
     case rel=>exact⟨k+1,by omega,by go_num,XB.out.below (_root_.Go.below_drewN (Below.refl _ _) _) XB.out.lt,YB.out.below (_root_.Go.below_drewN (Below.refl _ _) _) YB.out.lt,_root_.Go.below_drewN B.out _⟩
     case measure=>simp[intOf];omega
  ·have hlt:k<W.us.length:=by omega
   have XH:((k:Nat):Int)<(W.us.length:Nat):=by omega
   obtain⟨o,ho⟩:∃o,W.us[k]? =some o:=⟨_,List.getElem?_eq_getElem hlt⟩;have hne:W.us≠[]:=by intro e;rw[e] at hlt;simp at hlt
   obtain⟨x,rfl,hx,hxc⟩:=GU.out hne;obtain⟨y,rfl,hy,Vt⟩:=KU.out hne;obtain⟨q0,q1,q2,q3,q4,q5,q6,q7⟩:=(hxc k o ho).below B.out (by rw[add_block];exact hx);obtain⟨r0,r1,r2,r3,r4,r5,r6,r7⟩:=(Vt k o ho).below B.out (by rw[add_block];exact hy);have x7:=XB.out.c7;have y7:=YB.out.c7;clear hxc Vt hne ho hx hy;go_wp2;go_quiet (fail);go_wp2;go_round
   case rel=>exact⟨k+1,by omega,by go_num,XB.out.below (_root_.Go.below_drewN (Below.refl _ _) _) XB.out.lt,YB.out.below (_root_.Go.below_drewN (Below.refl _ _) _) YB.out.lt,_root_.Go.below_drewN B.out _⟩
   case measure=>simp[intOf];omega
theorem KY(s:ByteArray)(c:Int)(w:World):
 Calls Tryz.prog 210 #[.string s,.int .u8 c] w λe w'=>e=.returned (int i64 (Lib.indexByte s.data.toList c.toNat.toUInt8))/\w'=w:=by
 have hx:=run_callFunc_extern (w:=w) (args:= #[.string s,.int .u8 c]) Tryz.func230 (by kernel_rfl) (by kernel_rfl) (by kernel_rfl) (e:=Extern.BytealgIndexByte.indexByte) (by kernel_rfl);go_enter Tryz.func210,Tryz.ntmps210;go_wp2;rw[Lib.run_indexByteString];simp only[Result.andThen];rw[Oper.upon_value];go_wp2;go_ret;exact⟨rfl,rfl⟩
theorem K_(s:ByteArray)(c:Int)(w:World):
 Calls Tryz.prog 190 #[.string s,.int .u8 c] w λe w'=>e=.returned (int i64 (Lib.indexByte s.data.toList c.toNat.toUInt8))/\w'=w:=by
 have K:Hid (Calls Tryz.prog 210 #[.string s,.int .u8 c] w λe w'=>e=.returned (int i64 (Lib.indexByte s.data.toList c.toNat.toUInt8))/\w'=w):=KY s c w;go_enter Tryz.func190,Tryz.ntmps190;go_wp2_with fail
 refine Calls.mono K.out ?_;rintro e w' ⟨rfl,rfl⟩;go_wp2;go_ret;exact⟨rfl,rfl⟩
namespace Fd
def uP(b:UInt8):Int:=if b=46 then 0 else if b=35 then 1 else if b=126 then 2 else if b=94 then 3 else -1
theorem zO(b:UInt8)(h:¬(49<=b.toNat/\b.toNat<=57)):meant b=if 0<=uP b then some (uP b,0) else none:=by
 unfold meant uP;rw[if_neg h];split
 ·rfl
 ·split
  ·rfl
  ·split
   ·rfl
   ·split
    ·rfl
    ·rfl
end Fd
theorem La(b:UInt8):Lib.indexByte [46,35,126,94] b=Fd.uP b:=by
 unfold Fd.uP;by_cases h1:b=46
 ·subst h1;decide
 ·by_cases h2:b=35
  ·subst h2;decide
  ·by_cases h3:b=126
   ·subst h3;decide
   ·by_cases h4:b=94
    ·subst h4;decide
    ·have g1:¬46=b:=λh=>h1 h.symm
     have g2:¬35=b:=λh=>h2 h.symm
     have g3:¬126=b:=λh=>h3 h.symm
     have g4:¬94=b:=λh=>h4 h.symm
     simp[Lib.indexByte,h1,h2,h3,h4,g1,g2,g3,g4]
theorem Fg(b:UInt8)(w:World):
 Calls Tryz.prog 153 #[.int .u8 (b.toNat:Nat)] w λe w'=>(∃g o,Fd.meant b=some (g,o)/\e=.returned (.tuple #[int i64 g,int i64 o,.bool true])/\w'=w)\/(Fd.meant b=none/\e=.returned (.tuple #[int i64 (-1),int i64 0,.bool false])/\w'=w):=by
 have hb:=b.toNat_lt;by_cases h:49<=b.toNat/\b.toNat<=57
 ·have e:Fd.meant b=some (0,((b.toNat:Int)-48)*10):=by unfold Fd.meant;rw[if_pos h]
  have E:Hid _:=e;obtain⟨h1,h2⟩:=h;clear e;generalize b.toNat=n at *;have w1:IntKind.u8.wrap ((n:Int)-48)=(n:Int)-48:=by rw[IntKind.wrap_u8];omega
  go_enter Tryz.func153,Tryz.ntmps153;go_wp2;go_ret3;exact .inl ⟨_,_,E.out,rfl,rfl⟩
 ·have e:=Fd.zO b h
  have I:Hid (Calls Tryz.prog 190 #[.string ⟨#[46,35,126,94]⟩,.int .u8 (b.toNat:Nat)] w λe w'=>e=.returned (int i64 (Fd.uP b))/\w'=w):=by
   refine(K_ ⟨#[46,35,126,94]⟩ (b.toNat:Nat) w).mono ?_;rintro e w' ⟨rfl,rfl⟩;refine⟨?_,rfl⟩;have e2:((b.toNat:Nat):Int).toNat.toUInt8=b:=by rw[Int.toNat_natCast];exact UInt8.ofNat_toNat
   rw[e2];rw[<-La b]
  have gl: -1<=Fd.uP b:=by unfold Fd.uP;split<;>(try split)<;>(try split)<;>(try split)<;>omega
  generalize Fd.uP b=g at *;by_cases hg:0<=g
  ·have E:Hid (Fd.meant b=some (g,0)):=by unfold Hid;rw[e,if_pos hg]
   clear e;by_cases h1:49<=b.toNat
   ·have h2:¬b.toNat<=57:=by omega
    clear h;go_enter Tryz.func153,Tryz.ntmps153;go_wp2_with fail
    refine Calls.mono I.out ?_;rintro e w' ⟨rfl,rfl⟩;go_wp2;go_ret3;exact .inl ⟨_,_,E.out,rfl,rfl⟩
   ·clear h
    go_enter Tryz.func153,Tryz.ntmps153;go_wp2_with fail
    refine Calls.mono I.out ?_;rintro e w' ⟨rfl,rfl⟩;go_wp2;go_ret3;exact .inl ⟨_,_,E.out,rfl,rfl⟩
  ·obtain rfl:g= -1:=by omega
   have E:Hid (Fd.meant b=none):=by unfold Hid;rw[e,if_neg hg]
   clear e gl hg;by_cases h1:49<=b.toNat
   ·have h2:¬b.toNat<=57:=by omega
    clear h;go_enter Tryz.func153,Tryz.ntmps153;go_wp2_with fail
    refine Calls.mono I.out ?_;rintro e w' ⟨rfl,rfl⟩;go_wp2;go_ret3;exact .inr ⟨E.out,rfl,rfl⟩
   ·clear h
    go_enter Tryz.func153,Tryz.ntmps153;go_wp2_with fail
    refine Calls.mono I.out ?_;rintro e w' ⟨rfl,rfl⟩;go_wp2;go_ret3;exact .inr ⟨E.out,rfl,rfl⟩
structure Two(w:World)(base:Nat)(u1 u2:Value)(gs os:List Int):Prop where
 o1:Ow w base u1 gs
 o2:Ow w base u2 os
 ne:∀k,u1.ownBlock=some k->u2.ownBlock≠some k
theorem Two.below{w w':World}{base n:Nat}{u1 u2:Value}{gs os:List Int}(h:Two w base u1 u2 gs os)(hb:Below n w w')(hn:w.heap.size<=n):Two w' base u1 u2 gs os:=
 ⟨h.o1.below (hb.mono hn),h.o2.below (hb.mono hn),h.ne⟩
theorem Two.kp{w w':World}{base z:Nat}{u1 u2:Value}{gs os:List Int}(h:Two w base u1 u2 gs os)(hk:Kp z w w')(hz:z<base):Two w' base u1 u2 gs os:=by
 have hg:w.grownBy w' (some z):=⟨hk.os,hk.tape,hk.output,hk.size,λk hk' hne=>hk.block k hk' (λe=>hne (by rw[e]))⟩;refine⟨h.o1.kept hg ?_,h.o2.kept hg ?_,h.ne⟩
 ·right;intro e;have:=(h.o1.block z e).1;omega
 ·right;intro e;have:=(h.o2.block z e).1;omega
def Dt(w:World)(z:Nat)(u1 u2:Value)(s:Fd.St):Prop:=w.heap[z]? =some (.cells #[int i64 (s.W:Nat),int i64 (s.H:Nat),u1,u2,int i64 (s.c:Nat)] 151 (0,0))
def Dr(w:World)(z:Nat)(s:Fd.St):Prop:=∃u1 u2,Dt w z u1 u2 s/\Two w (z+1) u1 u2 s.gs s.os
section
variable {w:World} {z:Nat} {u1 u2:Value} {s:Fd.St}
theorem Dt.c0(h:Dt w z u1 u2 s):w.cell? ⟨z,0,none⟩=some (int i64 (s.W:Nat)):=by unfold Dt at h;simp[World.cell?,h]
theorem Dt.c1(h:Dt w z u1 u2 s):w.cell? ⟨z,1,none⟩=some (int i64 (s.H:Nat)):=by unfold Dt at h;simp[World.cell?,h]
theorem Dt.c2(h:Dt w z u1 u2 s):w.cell? ⟨z,2,none⟩=some u1:=by unfold Dt at h;simp[World.cell?,h]
theorem Dt.c3(h:Dt w z u1 u2 s):w.cell? ⟨z,3,none⟩=some u2:=by unfold Dt at h;simp[World.cell?,h]
theorem Dt.c4(h:Dt w z u1 u2 s):w.cell? ⟨z,4,none⟩=some (int i64 (s.c:Nat)):=by unfold Dt at h;simp[World.cell?,h]
theorem Dt.fz(h:Dt w z u1 u2 s)(i:Nat):w.frozen? ⟨z,i,none⟩=false:=by unfold Dt at h;simp[World.frozen?,h]
theorem Dt.lt(h:Dt w z u1 u2 s):z<w.heap.size:=lt_of_block h
theorem Dt.below{w':World}{n:Nat}(h:Dt w z u1 u2 s)(hb:Below n w w')(hz:z<n):Dt w' z u1 u2 s:=(hb.block z hz).trans h
end
theorem Py(z:Nat)(u1 u2:Value)(s:Fd.St)(w:World)(h:Dt w z u1 u2 s)(hc:s.c<=12)(hw:s.W<=12)(hb:s.c=0\/s.c<s.W):
 Calls Tryz.prog 152 #[.pointer (some ⟨z,0,none⟩)] w λe w'=>e=.returned (.iface 90 (int i64 2))/\∃n,w'=w.drewN n:=by
 have c0:=h.c0;have c4:=h.c4;obtain⟨c,W,H,gs,os⟩:=s;simp only at hc hw hb c0 c4;clear h;by_cases q:c=0
 ·subst q
  go_enter Tryz.func152,Tryz.ntmps152;go_wp2_with fail
  go_quiet (fail);go_wp2;go_ret;exact⟨rfl,_,rfl⟩
 ·have q2:c<W:=by omega
  have q':((c:Int)==0)=false:=by rw[beq_eq_false_iff_ne];omega
  clear hb;go_enter Tryz.func152,Tryz.ntmps152;go_wp2_with fail
  go_quiet (fail);go_wp2;go_ret;exact⟨rfl,_,rfl⟩
theorem Sm(z:Nat)(u1 u2:Value)(s:Fd.St)(w:World)(h:Dt w z u1 u2 s)(hc:s.c<=12)(hw:s.W<=12)(hh:s.H<=12)(h0:s.c≠0)(h1:¬s.c<s.W):
 Calls Tryz.prog 152 #[.pointer (some ⟨z,0,none⟩)] w λe w'=>e=.returned .nilIface/\Dt w' z u1 u2 ⟨0,s.c,s.H+1,s.gs,s.os⟩/\Kp z w w':=by
 have D:Hid (Dt w z u1 u2 s):=h;have c0:=h.c0;have c1:=h.c1;have c4:=h.c4;have f0:=h.fz 0;have f1:=h.fz 1;have f4:=h.fz 4;obtain⟨c,W,H,gs,os⟩:=s;simp only at hc hw hh h0 h1 c0 c1 c4;have q':((c:Int)==0)=false:=by rw[beq_eq_false_iff_ne];omega
 clear h;go_enter Tryz.func152,Tryz.ntmps152;go_wp2_with fail
 go_quiet (fail);have Dq:Hid (Dt (w.drewN nq) z u1 u2 ⟨c,W,H,gs,os⟩):=D.out;have Kq:Hid (Kp z w (w.drewN nq)):=(Kp.refl z w).drewN nq;have c0:(w.drewN nq).cell? ⟨z,0,none⟩=some (int i64 (W:Nat)):=Dq.out.c0;have c1:(w.drewN nq).cell? ⟨z,1,none⟩=some (int i64 (H:Nat)):=Dq.out.c1;have c4:(w.drewN nq).cell? ⟨z,4,none⟩=some (int i64 (c:Nat)):=Dq.out.c4;have f0:=Dq.out.fz 0;have f1:=Dq.out.fz 1;have f4:=Dq.out.fz 4;generalize w.drewN nq=w1 at *;go_wp2;go_ret;refine⟨rfl,?_,?_⟩
 ·unfold Dt
  rw[heap_setCell_same _ z 4 _ _ _ (heap_setCell_same _ z 1 _ _ _ (heap_setCell_same w1 z 0 _ _ _ Dq.out))];simp
 ·exact((Kq.out.trans (Kp.set _ _ _)).trans (Kp.set _ _ _)).trans (Kp.set _ _ _)
structure xG(s:Fd.St):Prop where
 w0:s.H=0->s.W=0
 cw:0<s.H->s.c<=s.W
 c12:s.c<=12
 w12:s.W<=12
 h12:s.H<=12
 gl:s.gs.length<=156
 ol:s.os.length<=156
theorem xG.of{s:Fd.St}{l:List UInt8}(h:Fd.Inv s l):xG s:=by
 have e:s.H*s.W<=144:=Nat.mul_le_mul h.h12 h.w12;have:=h.c12;exact⟨h.w0,h.cw,h.c12,h.w12,h.h12,by rw[h.gl];omega,by rw[h.ol];omega⟩
theorem Lc{s:Fd.St}(h:xG s):Fd.step s 10=if s.c=0\/s.c<s.W then .inl 2 else .inr ⟨0,s.c,s.H+1,s.gs,s.os⟩:=by
 unfold Fd.step;rw[if_pos rfl];have:=h.w0;have:=h.cw
 by_cases q:s.c=0\/(0<s.H/\s.c≠s.W)
 ·rw[if_pos q,if_pos (by omega)]
 ·rw[if_neg q,if_neg (by omega)]
theorem step_none{s:Fd.St}{b:UInt8}(hb:b≠10)(hm:Fd.meant b=none):Fd.step s b=.inl 2:=by
 unfold Fd.step;rw[if_neg hb,hm]
theorem step_some{s:Fd.St}{b:UInt8}{g o:Int}(hb:b≠10)(hm:Fd.meant b=some (g,o)):Fd.step s b=if 0<s.H/\s.c=s.W then .inl 2 else if s.c=12\/s.H=12 then .inl 4 else .inr ⟨s.c+1,s.W,s.H,s.gs++[g],s.os++[o]⟩:=by
 unfold Fd.step;rw[if_neg hb,hm]
theorem Le(z:Nat)(s:Fd.St)(w:World)(h:Dr w z s)(ok:xG s):
 Calls Tryz.prog 110 #[.pointer (some ⟨z,0,none⟩),.int .u8 10] w λe w'=>(∃f,Fd.step s 10=.inl f/\e=.returned (.iface 90 (int i64 f))/\f≠0/\Below z w w')\/(∃s',Fd.step s 10=.inr s'/\e=.returned .nilIface/\Dr w' z s'/\Below z w w'):=by
 obtain⟨u1,u2,hd,ht⟩:=h;have S:=Lc ok;have HS:Hid _:=S;clear S;by_cases q:s.c=0\/s.c<s.W
 ·have K:Hid (Calls Tryz.prog 152 #[.pointer (some ⟨z,0,none⟩)] w λe w'=>e=.returned (.iface 90 (int i64 2))/\∃n,w'=w.drewN n):=Py z u1 u2 s w hd ok.c12 ok.w12 q
  have Q:Hid (s.c=0\/s.c<s.W):=q;clear q hd ht ok;go_enter Tryz.func110,Tryz.ntmps110;go_wp2_with fail
  refine Calls.mono K.out ?_;rintro e w1 ⟨rfl,n,rfl⟩;go_wp2;go_ret;exact .inl ⟨2,by rw[HS.out,if_pos Q.out],rfl,by decide,_root_.Go.below_drewN (Below.refl _ _) _⟩
 ·have K:Hid (Calls Tryz.prog 152 #[.pointer (some ⟨z,0,none⟩)] w λe w'=>e=.returned .nilIface/\Dt w' z u1 u2 ⟨0,s.c,s.H+1,s.gs,s.os⟩/\Kp z w w'):=Sm z u1 u2 s w hd ok.c12 ok.w12 ok.h12 (λe=>q (.inl e)) (λe=>q (.inr e))
  have Q:Hid (¬(s.c=0\/s.c<s.W)):=q;have T:Hid (Two w (z+1) u1 u2 s.gs s.os):=ht;have L:Hid (z<w.heap.size):=hd.lt;clear q hd ht ok;go_enter Tryz.func110,Tryz.ntmps110;go_wp2_with fail
  refine Calls.mono K.out ?_;rintro e w1 ⟨rfl,hd1,hk1⟩;have D1:Hid (Dt w1 z u1 u2 ⟨0,s.c,s.H+1,s.gs,s.os⟩):=hd1;have K1:Hid (Kp z w w1):=hk1;clear hd1 hk1;go_wp2;go_ret;refine .inr ⟨_,by rw[HS.out,if_neg Q.out],rfl,⟨u1,u2,D1.out,T.out.kp K1.out (Nat.lt_succ_self _)⟩,Kp.below (Below.refl _ _) K1.out (Nat.le_of_lt L.out) (Nat.le_refl _)⟩
theorem Fh(z:Nat)(s:Fd.St)(b:UInt8)(w:World)(h:Dr w z s)(ok:xG s)(hb:b≠10):
 Calls Tryz.prog 110 #[.pointer (some ⟨z,0,none⟩),.int .u8 (b.toNat:Nat)] w λe w'=>(∃f,Fd.step s b=.inl f/\e=.returned (.iface 90 (int i64 f))/\f≠0/\Below z w w')\/(∃s',Fd.step s b=.inr s'/\e=.returned .nilIface/\Dr w' z s'/\Below z w w'):=by
 obtain⟨u1,u2,hd,ht⟩:=h;have hb2:=b.toNat_lt;have hb3:¬((b.toNat:Nat):Int)=10:=by
  intro e;have e2:b.toNat=10:=by omega
  exact hb (UInt8.toNat_inj.1 e2)
 have M:Hid (∀w,Calls Tryz.prog 153 #[.int .u8 (b.toNat:Nat)] w λe w'=>(∃g o,Fd.meant b=some (g,o)/\e=.returned (.tuple #[int i64 g,int i64 o,.bool true])/\w'=w)\/(Fd.meant b=none/\e=.returned (.tuple #[int i64 (-1),int i64 0,.bool false])/\w'=w)):=Fg b;have HB:Hid (b≠10):=hb;have D:Hid (Dt w z u1 u2 s):=hd;have T:Hid (Two w (z+1) u1 u2 s.gs s.os):=ht;have K:Hid (xG s):=ok;clear hb hd ht ok;generalize b.toNat=n at *;go_enter Tryz.func110,Tryz.ntmps110;go_wp2_with fail
 refine(M.out _).mono ?_;rintro e w1 hm;rcases hm with⟨g,o,hm,rfl,rfl⟩|⟨hm,rfl,rfl⟩
 ·have HS:Hid _:=step_some (s:=s) HB.out hm
  have c0:=D.out.c0;have c1:=D.out.c1;have c2:=D.out.c2;have c3:=D.out.c3;have c4:=D.out.c4;obtain⟨c,W,H,gs,os⟩:=s;simp only at c0 c1 c4;have k12:=K.out.c12;have w12:=K.out.w12;have h12:=K.out.h12;simp only at k12 w12 h12;clear hm M;by_cases q1:0<H/\c=W
  ·obtain⟨ZR,Yw⟩:=q1
   have Sr:Hid (Fd.step ⟨c,W,H,gs,os⟩ b=.inl 2):=by unfold Hid;rw[HS.out,if_pos ⟨ZR,Yw⟩]
   subst Yw;go_wp2_with fail
   go_quiet (fail);go_wp2;go_ret;exact .inl ⟨2,Sr.out,rfl,by decide,_root_.Go.below_drewN (Below.refl _ _) _⟩
  ·have HS1:Hid (Fd.step ⟨c,W,H,gs,os⟩ b=if c=12\/H=12 then .inl 4 else .inr ⟨c+1,W,H,gs++[g],os++[o]⟩):=by unfold Hid;rw[HS.out,if_neg q1]
   clear HS;go_wp2_with fail
   go_cut [39] (λv W'=>v=.bool false/\∃n,W'=w1.drewN n)
   case first=>
    by_cases q2:H=0
    ·subst q2
     go_quiet (fail);go_wp2_with fail
     go_meet
     case rel=>exact⟨rfl,_,rfl⟩
    ·have q3:0<H:=by omega
     have q4:¬c=W:=λe=>q1 ⟨q3,e⟩
     have q4b:((c:Int)==(W:Int))=false:=by rw[beq_eq_false_iff_ne];omega
     clear q1;go_quiet (fail);go_wp2_with fail
     go_meet
     case rel=>exact⟨rfl,_,rfl⟩
   case rest=>
    obtain⟨rfl,nn,hn⟩:=hcut;have kb:Below w1.heap.size w1 wc:=by rw[hn];exact _root_.Go.below_drewN (Below.refl _ _) _
    have D2:Hid (Dt wc z u1 u2 ⟨c,W,H,gs,os⟩):=D.out.below kb D.out.lt;have T2:Hid (Two wc (z+1) u1 u2 gs os):=T.out.below kb (Nat.le_refl _);have B2:Hid (Below z w1 wc):=kb.mono (Nat.le_of_lt D.out.lt);clear kb hn c0 c1 c2 c3 c4 q1 D T;have c0:=D2.out.c0;have c1:=D2.out.c1;have c2:=D2.out.c2;have c3:=D2.out.c3;have c4:=D2.out.c4;simp only at c0 c1 c4;by_cases q5:c=12
    ·subst q5
     have Sr:Hid (Fd.step ⟨12,W,H,gs,os⟩ b=.inl 4):=by unfold Hid;rw[HS1.out,if_pos (.inl rfl)]
     go_wp2;go_ret;exact .inl ⟨4,Sr.out,rfl,by decide,B2.out⟩
    ·have q5b:((c:Int)==12)=false:=by rw[beq_eq_false_iff_ne];omega
     by_cases q6:H=12
     ·subst q6
      have Sr:Hid (Fd.step ⟨c,W,12,gs,os⟩ b=.inl 4):=by unfold Hid;rw[HS1.out,if_pos (.inr rfl)]
      go_wp2;go_ret;exact .inl ⟨4,Sr.out,rfl,by decide,B2.out⟩
     ·have q6b:((H:Int)==12)=false:=by rw[beq_eq_false_iff_ne];omega
      have Sr:Hid (Fd.step ⟨c,W,H,gs,os⟩ b=.inr ⟨c+1,W,H,gs++[g],os++[o]⟩):=by unfold Hid;rw[HS1.out,if_neg (by omega)]
      have gl:=K.out.gl;have ol:=K.out.ol;simp only at gl ol;have L2:Hid (z<wc.heap.size):=D2.out.lt;clear HS1;go_wp2_with (at_builtin;refine iE _ rfl _ _ rfl (z+1) _ gs rfl (T2.out.o1.alloc _) ⟨wc.heap.size,0,none⟩ g rfl (by simp) (by omega) (by have:=L2.out;simp;omega) ?_);intro g1 cap1 w3 o3 g3 a3 l3;have hob:∀k,u1.ownBlock=some k->z+1<=k:=λk hk=>(T2.out.o1.block k hk).1
      have b3:Below (z+1) wc w3:=((Below.refl _ _).alloc L2.out _).grown g3 (by have:=L2.out;simp;omega) hob;have D3:Dt w3 z u1 u2 ⟨c,W,H,gs,os⟩:=D2.out.below b3 (Nat.lt_succ_self _);have O3:Ow w3 (z+1) u2 os:=(T2.out.o2.alloc _).kept g3 (by
       cases hq:u2.ownBlock with
       |none=>exact .inl rfl
       |some k=>exact .inr (λe=>T2.out.ne k e.symm hq))
      have N3:Hid (∀k,u2.ownBlock=some k->k≠g1):=by
       intro k hk e;subst e;rcases a3 with a3|a3
       ·exact T2.out.ne _ a3 hk
       ·have:=(T2.out.o2.block _ hk).2
        try simp at a3
        omega
      have K3:Kp z w3 (w3.setCell ⟨z,2,none⟩ (slice (some ⟨g1,0,none⟩) (gs.length+1) cap1)):=Kp.set _ _ _;have T3:Hid (Two (w3.setCell ⟨z,2,none⟩ (slice (some ⟨g1,0,none⟩) (gs.length+1) cap1)) (z+1) (slice (some ⟨g1,0,none⟩) (gs.length+1) cap1) u2 (gs++[g]) os):=
       (show Two w3 (z+1) (slice (some ⟨g1,0,none⟩) (gs.length+1) cap1) u2 (gs++[g]) os from⟨o3,O3,λk hk e=>N3.out k e (Option.some.inj hk).symm⟩).kp K3 (Nat.lt_succ_self _)
      have D4:Hid (Dt (w3.setCell ⟨z,2,none⟩ (slice (some ⟨g1,0,none⟩) (gs.length+1) cap1)) z (slice (some ⟨g1,0,none⟩) (gs.length+1) cap1) u2 ⟨c,W,H,gs++[g],os⟩):=by
       unfold Hid Dt;rw[heap_setCell_same w3 z 2 _ _ _ D3];simp
      have B4:Hid (Below z w1 (w3.setCell ⟨z,2,none⟩ (slice (some ⟨g1,0,none⟩) (gs.length+1) cap1))):=(B2.out.trans (b3.mono (Nat.le_succ _))).setCell (Nat.le_refl _) _;have e2:=D3.c2;have e3:=D3.c3;have f2:=D3.fz 2;have z3:Hid (z<w3.heap.size):=D3.lt;clear o3 g3 a3 l3 hob b3 D3 O3 K3 c0 c1 c2 c3 c4;go_wp2_with (at_builtin;refine iE _ rfl _ _ rfl (z+1) _ os rfl (T3.out.o2.alloc _) ⟨w3.heap.size,0,none⟩ o rfl (by rw[World.cell?_alloc_at _ _ _ _ (by simp)];rfl) (by omega) (by have:=z3.out;simp;omega) ?_);intro g2 cap2 w5 o5 g5 a5 l5;have hob:∀k,u2.ownBlock=some k->z+1<=k:=λk hk=>(T3.out.o2.block k hk).1
      have b5:Below (z+1) (w3.setCell ⟨z,2,none⟩ (slice (some ⟨g1,0,none⟩) (gs.length+1) cap1)) w5:=((Below.refl _ _).alloc (by have:=z3.out;simp;omega) _).grown g5 (by have:=z3.out;simp;omega) hob;have D5:Dt w5 z (slice (some ⟨g1,0,none⟩) (gs.length+1) cap1) u2 ⟨c,W,H,gs++[g],os⟩:=D4.out.below b5 (Nat.lt_succ_self _);have O5:Ow w5 (z+1) (slice (some ⟨g1,0,none⟩) (gs.length+1) cap1) (gs++[g]):=(T3.out.o1.alloc _).kept g5 (by
       cases hq:(slice (some ⟨g1,0,none⟩) (gs.length+1) cap1).ownBlock with
       |none=>exact .inl rfl
       |some k=>exact .inr (λe=>T3.out.ne k hq e.symm))
      have N5:Hid (∀k,(slice (some ⟨g1,0,none⟩) (gs.length+1) cap1).ownBlock=some k->k≠g2):=by
       intro k hk e;subst e;rcases a5 with a5|a5
       ·exact T3.out.ne _ hk a5
       ·have:=(T3.out.o1.block _ hk).2
        simp at this
        try simp at a5
        omega
      have K5:Kp z w5 (w5.setCell ⟨z,3,none⟩ (slice (some ⟨g2,0,none⟩) (os.length+1) cap2)):=Kp.set _ _ _;have T5:Hid (Two (w5.setCell ⟨z,3,none⟩ (slice (some ⟨g2,0,none⟩) (os.length+1) cap2)) (z+1) (slice (some ⟨g1,0,none⟩) (gs.length+1) cap1) (slice (some ⟨g2,0,none⟩) (os.length+1) cap2) (gs++[g]) (os++[o])):=
       (show Two w5 (z+1) (slice (some ⟨g1,0,none⟩) (gs.length+1) cap1) (slice (some ⟨g2,0,none⟩) (os.length+1) cap2) (gs++[g]) (os++[o]) from⟨O5,o5,λk hk e=>N5.out k hk (Option.some.inj e).symm⟩).kp K5 (Nat.lt_succ_self _)
      have D6:Hid (Dt (w5.setCell ⟨z,3,none⟩ (slice (some ⟨g2,0,none⟩) (os.length+1) cap2)) z (slice (some ⟨g1,0,none⟩) (gs.length+1) cap1) (slice (some ⟨g2,0,none⟩) (os.length+1) cap2) ⟨c,W,H,gs++[g],os++[o]⟩):=by
       unfold Hid Dt;rw[heap_setCell_same w5 z 3 _ _ _ D5];simp
      have B6:Hid (Below z w1 (w5.setCell ⟨z,3,none⟩ (slice (some ⟨g2,0,none⟩) (os.length+1) cap2))):=(B4.out.trans (b5.mono (Nat.le_succ _))).setCell (Nat.le_refl _) _;have e4:w5.cell? ⟨z,3,none⟩=some u2:=D5.c3;have e5:w5.cell? ⟨z,4,none⟩=some (int i64 (c:Nat)):=D5.c4;have f3:=D5.fz 3;have f4:=D5.fz 4;clear o5 g5 a5 l5 hob b5 D5 O5 K5 e2 e3 f2;go_wp2;go_ret;refine .inr ⟨_,Sr.out,rfl,⟨(slice (some ⟨g1,0,none⟩) (gs.length+1) cap1),(slice (some ⟨g2,0,none⟩) (os.length+1) cap2),?_,T5.out.kp (Kp.set _ _ _) (Nat.lt_succ_self _)⟩,B6.out.setCell (Nat.le_refl _) _⟩;unfold Dt;rw[heap_setCell_same _ z 4 _ _ _ D6.out];simp
 ·have HS:Hid (Fd.step s b=.inl 2):=step_none HB.out hm
  go_wp2_with fail
  go_quiet (fail);go_wp2;go_ret;exact .inl ⟨2,HS.out,rfl,by decide,_root_.Go.below_drewN (Below.refl _ _) _⟩
theorem Fj(z:Nat)(s:Fd.St)(b:UInt8)(w:World)(h:Dr w z s)(ok:xG s):
 Calls Tryz.prog 110 #[.pointer (some ⟨z,0,none⟩),.int .u8 (b.toNat:Nat)] w λe w'=>(∃f,Fd.step s b=.inl f/\e=.returned (.iface 90 (int i64 f))/\f≠0/\Below z w w')\/(∃s',Fd.step s b=.inr s'/\e=.returned .nilIface/\Dr w' z s'/\Below z w w'):=by
 by_cases hb:b=10
 ·subst hb
  exact Le z s w h ok
 ·exact Fh z s b w h ok hb
theorem Sv{l:List UInt8}{k:Nat}(st:Fd.St)(h:k<l.length):Fd.run st k (l.drop k)=match Fd.step st l[k] with| .inl e=>.inl (k,e)| .inr s'=>Fd.run s' (k+1) (l.drop (k+1)):=by
 rw[List.drop_eq_getElem_cons h];rfl
def Says(l:List UInt8)(e:Ending)(w':World):Prop:=
 (∃(i:Nat) (f:Int),Fd.parse l=.inl (i,f)/\e=.returned (.tuple #[.agg #[int i64 0,int i64 0,slice none 0 0,slice none 0 0],int i64 (i:Nat),.iface 90 (int i64 f)])/\f≠0)\/
 (∃st u1 u2,Fd.parse l=.inr st/\e=.returned (.tuple #[.agg #[int i64 (st.W:Nat),int i64 (st.H:Nat),u1,u2],int i64 0,.nilIface])/\Ro w' u1 st.gs/\Ro w' u2 st.os)
def Pz(b:Nat)(l:List UInt8)(e:Ending)(w':World):Prop:=
 (∃(i:Nat) (f:Int),Fd.parse l=.inl (i,f)/\e=.returned (.tuple #[.agg #[int i64 0,int i64 0,slice none 0 0,slice none 0 0],int i64 (i:Nat),.iface 90 (int i64 f)])/\f≠0)\/
 (∃st u1 u2,Fd.parse l=.inr st/\e=.returned (.tuple #[.agg #[int i64 (st.W:Nat),int i64 (st.H:Nat),u1,u2],int i64 0,.nilIface])/\Two w' (b+1+1) u1 u2 st.gs st.os)
theorem Fp(s:ByteArray)(w:World)(hs:s.size<=maxLen):
 Calls Tryz.prog 56 #[.string s] w λe w'=>Pz w.heap.size s.data.toList e w'/\Below w.heap.size w w':=by
 unfold maxLen at hs;generalize hl:s.data.toList=l;have Hl:Hid (s.data.toList=l):=hl;have Ll:Hid (l.length=s.size):=by unfold Hid;rw[<-hl];rfl
 clear hl;have P:Hid (Fd.parse l=match Fd.run Fd.st0 0 l with| .inl x=>.inl x| .inr s=>if 0<s.c\/s.H=0 then .inl (l.length,2) else .inr s):=rfl;go_enter Tryz.func56,Tryz.ntmps56;go_wp2_with fail
 have B0:Hid (Below w.heap.size w ((w.alloc (Obj.cells #[int i64 0,int i64 0,slice none 0 0,slice none 0 0] 25)).alloc (Obj.cells #[int i64 0,int i64 0,slice none 0 0,slice none 0 0,int i64 0] 151))):=((Below.refl _ _).alloc (Nat.le_refl _) _).alloc (by simp) _;have D0:Hid (Dr ((w.alloc (Obj.cells #[int i64 0,int i64 0,slice none 0 0,slice none 0 0] 25)).alloc (Obj.cells #[int i64 0,int i64 0,slice none 0 0,slice none 0 0,int i64 0] 151)) (w.heap.size+1) Fd.st0):=by
  refine⟨slice none 0 0,slice none 0 0,?_,⟨Ow.nil _ _,Ow.nil _ _,λk h=>by cases h⟩⟩;have e:(w.alloc (Obj.cells #[int i64 0,int i64 0,slice none 0 0,slice none 0 0] 25)).heap.size=w.heap.size+1:=by simp
  unfold Dt;rw[<-e];exact heap_alloc_new _ _
 have X0:Hid (Bf ((w.alloc (Obj.cells #[int i64 0,int i64 0,slice none 0 0,slice none 0 0] 25)).alloc (Obj.cells #[int i64 0,int i64 0,slice none 0 0,slice none 0 0,int i64 0] 151)) w.heap.size 0 0 (slice none 0 0) (slice none 0 0)):=
  (Bf.mk' (w:=w) 0 0 (slice none 0 0) (slice none 0 0) rfl).below ((Below.refl _ _).alloc (Nat.le_refl _) _) (by simp)
 have Z0:Hid (∀i,((w.alloc (Obj.cells #[int i64 0,int i64 0,slice none 0 0,slice none 0 0] 25)).alloc (Obj.cells #[int i64 0,int i64 0,slice none 0 0,slice none 0 0,int i64 0] 151)).frozen? ⟨w.heap.size,i,none⟩=false):=by
  intro i;rw[((Below.refl _ (w.alloc (Obj.cells #[int i64 0,int i64 0,slice none 0 0,slice none 0 0] 25))).alloc (Nat.le_refl _) _).frozen (p:=⟨w.heap.size,i,none⟩) (by simp)];simp
 generalize (w.alloc (Obj.cells #[int i64 0,int i64 0,slice none 0 0,slice none 0 0] 25)).alloc (Obj.cells #[int i64 0,int i64 0,slice none 0 0,slice none 0 0,int i64 0] 151)=w0 at *;go_loopw [10] (λi W'=>∃(k:Nat) (st:Fd.St),k<=s.size/\i=int i64 (k:Nat)/\Dr W' (w.heap.size+1) st/\Fd.Inv st (l.take k)/\Fd.run st k (l.drop k)=Fd.run Fd.st0 0 l/\Below (w.heap.size+1) w0 W') (λi _=>s.size-(intOf i).toNat)
 case atStart=>exact⟨0,Fd.st0,Nat.zero_le _,rfl,D0,by simpa using Fd.inv0,by simp,Below.refl _ _⟩
 case round=>
  obtain⟨k,st,hk,rfl,hd,hi,hrun,hb⟩:=hrel;have D:Hid (Dr wr (w.heap.size+1) st):=hd;have I:Hid (Fd.Inv st (l.take k)):=hi;have R:Hid (Fd.run st k (l.drop k)=Fd.run Fd.st0 0 l):=hrun;have B:Hid (Below (w.heap.size+1) w0 wr):=hb;have X:Hid (Bf wr w.heap.size 0 0 (slice none 0 0) (slice none 0 0)):=X0.out.below hb (Nat.lt_succ_self _);have Z:Hid (∀i,wr.frozen? ⟨w.heap.size,i,none⟩=false):=λi=>by rw[hb.frozen (p:=⟨w.heap.size,i,none⟩) (Nat.lt_succ_self _)];exact Z0.out i
  have BW:Hid (Below w.heap.size w wr):=B0.out.trans (hb.mono (Nat.le_succ _));clear hd hi hrun hb D0;by_cases h0:k=s.size
  ·subst h0
   have R2:Hid (Fd.run Fd.st0 0 l=.inr st):=by
    unfold Hid;rw[<-R.out,List.drop_of_length_le (by rw[Ll.out];exact Nat.le_refl _)];rfl
   obtain⟨u1,u2,hd,ht⟩:=D.out;have T:Hid (Two wr (w.heap.size+1+1) u1 u2 st.gs st.os):=ht;have c0:=hd.c0;have c1:=hd.c1;have c2:=hd.c2;have c3:=hd.c3;have c4:=hd.c4;obtain⟨x0,x1,x2,x3⟩:=X.out;have z0:=Z.out 0;have z1:=Z.out 1;have z2:=Z.out 2;have z3:=Z.out 3;have k12:=I.out.c12;have h12:=I.out.h12;have w12:=I.out.w12;obtain⟨c,W,H,gs,os⟩:=st;simp only at c0 c1 c4 k12 h12 w12;have P2:Hid (Fd.parse l=if 0<c\/H=0 then .inl (l.length,2) else .inr ⟨c,W,H,gs,os⟩):=by
    unfold Hid;rw[P.out,R2.out]
   clear hd ht;by_cases q1:0<c
   ·go_wp2
    refine bodyPost_ret (v:=.tuple #[.agg #[int i64 0,int i64 0,slice none 0 0,slice none 0 0],int i64 (s.size:Nat),.iface 90 (int i64 2)]) (by simp[results,Tryz.results56,go_sem,x0,x1,x2,x3]) rfl ⟨.inl ⟨s.size,2,by rw[P2.out,if_pos (.inl q1),Ll.out],rfl,by decide⟩,?_⟩;exact(((BW.out.setCell (Nat.le_refl _) _).setCell (Nat.le_refl _) _).setCell (Nat.le_refl _) _).setCell (Nat.le_refl _) _
   ·obtain rfl:c=0:=by omega
    by_cases q2:H=0
    ·subst q2
     go_wp2;refine bodyPost_ret (v:=.tuple #[.agg #[int i64 0,int i64 0,slice none 0 0,slice none 0 0],int i64 (s.size:Nat),.iface 90 (int i64 2)]) (by simp[results,Tryz.results56,go_sem,x0,x1,x2,x3]) rfl ⟨.inl ⟨s.size,2,by rw[P2.out,Ll.out];simp,rfl,by decide⟩,?_⟩;exact(((BW.out.setCell (Nat.le_refl _) _).setCell (Nat.le_refl _) _).setCell (Nat.le_refl _) _).setCell (Nat.le_refl _) _
    ·have q2b:((H:Int)==0)=false:=by rw[beq_eq_false_iff_ne];omega
     obtain⟨p1,k1,rfl⟩:=T.out.o1.len;obtain⟨p2,k2,rfl⟩:=T.out.o2.len;have KK:Hid (Kp w.heap.size wr ((((wr.setCell ⟨w.heap.size,0,none⟩ (int i64 (W:Nat))).setCell ⟨w.heap.size,1,none⟩ (int i64 (H:Nat))).setCell ⟨w.heap.size,2,none⟩ (slice p1 gs.length k1)).setCell ⟨w.heap.size,3,none⟩ (slice p2 os.length k2))):=(((Kp.set _ _ _).trans (Kp.set _ _ _)).trans (Kp.set _ _ _)).trans (Kp.set _ _ _);go_wp2;refine bodyPost_ret (v:=.tuple #[.agg #[int i64 (W:Nat),int i64 (H:Nat),slice p1 gs.length k1,slice p2 os.length k2],int i64 0,.nilIface]) (by simp[results,Tryz.results56,go_sem,x0,x1,x2,x3]) rfl ⟨.inr ⟨_,_,_,by rw[P2.out,if_neg (by omega)],rfl,?_⟩,?_⟩
     ·exact T.out.kp KK.out (by omega)
     ·exact(((BW.out.setCell (Nat.le_refl _) _).setCell (Nat.le_refl _) _).setCell (Nat.le_refl _) _).setCell (Nat.le_refl _) _
  ·have hks:k<s.size:=by omega
   have hkl:k<l.length:=by rw[Ll.out];exact hks
   have RA:=Sv st hkl;rw[R.out] at RA;have eb:l[k]=s[k]:=by
    have:=Hl.out;subst this;rfl
   rw[eb] at RA;have VG:Hid _:=RA;have TK:Hid (l.take (k+1)=l.take k++[s[k]]):=by unfold Hid;rw[List.take_succ_eq_append_getElem hkl,eb]
   have KR:Hid (Calls Tryz.prog 110 #[.pointer (some ⟨w.heap.size+1,0,none⟩),.int .u8 (s[k].toNat:Nat)] wr λe w'=>(∃f,Fd.step st s[k]=.inl f/\e=.returned (.iface 90 (int i64 f))/\f≠0/\Below (w.heap.size+1) wr w')\/(∃s',Fd.step st s[k]=.inr s'/\e=.returned .nilIface/\Dr w' (w.heap.size+1) s'/\Below (w.heap.size+1) wr w')):=Fj _ st s[k] wr D.out (xG.of I.out);clear RA eb;go_wp2_with fail
   refine Calls.mono KR.out ?_;rintro e w1 hm;rcases hm with⟨f,hst,rfl,hf,hb⟩|⟨st',hst,rfl,hd',hb⟩
   ·have P2:Hid (Fd.parse l=.inl (k,f)):=by
     unfold Hid;rw[P.out,VG.out,hst]
    have Hf:Hid (f≠0):=hf;have B1:Hid (Below w.heap.size w w1):=BW.out.trans (hb.mono (Nat.le_succ _));have X1:Bf w1 w.heap.size 0 0 (slice none 0 0) (slice none 0 0):=X.out.below hb (Nat.lt_succ_self _);have z0:w1.frozen? ⟨w.heap.size,0,none⟩=false:=by rw[hb.frozen (p:=⟨w.heap.size,0,none⟩) (Nat.lt_succ_self _)];exact Z.out 0
    have z1:w1.frozen? ⟨w.heap.size,1,none⟩=false:=by rw[hb.frozen (p:=⟨w.heap.size,1,none⟩) (Nat.lt_succ_self _)];exact Z.out 1
    have z2:w1.frozen? ⟨w.heap.size,2,none⟩=false:=by rw[hb.frozen (p:=⟨w.heap.size,2,none⟩) (Nat.lt_succ_self _)];exact Z.out 2
    have z3:w1.frozen? ⟨w.heap.size,3,none⟩=false:=by rw[hb.frozen (p:=⟨w.heap.size,3,none⟩) (Nat.lt_succ_self _)];exact Z.out 3
    obtain⟨x0,x1,x2,x3⟩:=X1;clear hst hf hb KR VG;go_wp2;refine bodyPost_ret (v:=.tuple #[.agg #[int i64 0,int i64 0,slice none 0 0,slice none 0 0],int i64 (k:Nat),.iface 90 (int i64 f)]) (by simp[results,Tryz.results56,go_sem,x0,x1,x2,x3]) rfl ⟨.inl ⟨k,f,P2.out,rfl,Hf.out⟩,?_⟩;exact(((B1.out.setCell (Nat.le_refl _) _).setCell (Nat.le_refl _) _).setCell (Nat.le_refl _) _).setCell (Nat.le_refl _) _
   ·have I2:Hid (Fd.Inv st' (l.take (k+1))):=by unfold Hid;rw[TK.out];exact I.out.step hst
    have R2:Hid (Fd.run st' (k+1) (l.drop (k+1))=Fd.run Fd.st0 0 l):=by unfold Hid;rw[VG.out,hst]
    have D2:Hid (Dr w1 (w.heap.size+1) st'):=hd';have B2:Hid (Below (w.heap.size+1) w0 w1):=B.out.trans hb;clear hst hd' hb KR VG;go_wp2;go_round
    case rel=>exact⟨k+1,st',by omega,by go_num,D2,I2,R2,B2⟩
    case measure=>simp[intOf];omega
theorem parse_any(s:ByteArray)(w:World)(hs:s.size<=maxLen):
 Calls Tryz.prog 56 #[.string s] w λe w'=>Says s.data.toList e w'/\Below w.heap.size w w':=
 (Fp s w hs).mono λe w' ⟨h,hb⟩=>⟨h.imp id λ⟨st,u1,u2,h1,h2,h3⟩=>⟨st,u1,u2,h1,h2,h3.o1.ro,h3.o2.ro⟩,hb⟩
theorem Vu{w:World}{z:Nat}(hz:w.heap.size=z):Kl (w.alloc (.cells #[.string ⟨#[98,97,115,101]⟩,int i64 50,int i64 0,int i64 0,int i64 4,int i64 0,int i64 50,int i64 5,int i64 0,.bool false,.bool true,.string ⟨#[100,105,103,103,101,114]⟩,int i64 10,int i64 0,int i64 0,int i64 3,int i64 2,int i64 10,int i64 2,int i64 20,.bool false,.bool false,.string ⟨#[102,105,103,104,116,101,114]⟩,int i64 20,int i64 4,int i64 1,int i64 4,int i64 2,int i64 20,int i64 3,int i64 0,.bool false,.bool false] 68)) (slice (some ⟨z,0,none⟩) 3 3) SK:=by
 subst hz;refine⟨_,3,rfl,Nat.le_refl _,by omega,λ_=>⟨_,rfl,by simp,λi k hi=>?_⟩⟩;have hl:i<3:=(List.getElem?_eq_some_iff.1 hi).1;rw[Addr.add_lit,Nat.zero_add]
 match i,hl,hi with
 |0,_,hi=>injection hi with hi;subst hi;constructor<;>simp
 |1,_,hi=>injection hi with hi;subst hi;constructor<;>simp
 |2,_,hi=>injection hi with hi;subst hi;constructor<;>simp
theorem fA(w:World):Calls Tryz.prog 22 #[] w λe w'=>∃u,e=.returned u/\Kl w' u SK/\Below w.heap.size w w':=by
 have KL:Hid (Kl (w.alloc (.cells #[.string ⟨#[98,97,115,101]⟩,int i64 50,int i64 0,int i64 0,int i64 4,int i64 0,int i64 50,int i64 5,int i64 0,.bool false,.bool true,.string ⟨#[100,105,103,103,101,114]⟩,int i64 10,int i64 0,int i64 0,int i64 3,int i64 2,int i64 10,int i64 2,int i64 20,.bool false,.bool false,.string ⟨#[102,105,103,104,116,101,114]⟩,int i64 20,int i64 4,int i64 1,int i64 4,int i64 2,int i64 20,int i64 3,int i64 0,.bool false,.bool false] 68)) (slice (some ⟨w.heap.size,0,none⟩) 3 3) SK/\Below w.heap.size w (w.alloc (.cells #[.string ⟨#[98,97,115,101]⟩,int i64 50,int i64 0,int i64 0,int i64 4,int i64 0,int i64 50,int i64 5,int i64 0,.bool false,.bool true,.string ⟨#[100,105,103,103,101,114]⟩,int i64 10,int i64 0,int i64 0,int i64 3,int i64 2,int i64 10,int i64 2,int i64 20,.bool false,.bool false,.string ⟨#[102,105,103,104,116,101,114]⟩,int i64 20,int i64 4,int i64 1,int i64 4,int i64 2,int i64 20,int i64 3,int i64 0,.bool false,.bool false] 68))):=⟨Vu rfl,(Below.refl _ _).alloc (Nat.le_refl _) _⟩;go_enter Tryz.func22,Tryz.ntmps22;go_wp2;go_ret;exact⟨_,rfl,KL.out.1,KL.out.2⟩
def Nz(z:Nat)(u:Value):Prop:=∀b,u.ownBlock=some b->b≠z
def Vw(w:World)(Y:WV)(v:Value)(V:World):Prop:=∃z u1 u2 u3 u4 u5,v=.pointer (some ⟨z,0,none⟩)/\w.heap.size<z/\Below w.heap.size w V/\Wx V w.heap.size (int i64 0) (int i64 0) (int i64 0) (int i64 0) (slice none 0 0) (slice none 0 0) (slice none 0 0) (slice none 0 0) (slice none 0 0)/\Wx V z (int i64 Y.turn) (int i64 Y.next) (int i64 Y.wide) (int i64 Y.high) u1 u2 u3 u4 u5/\(Ow V (w.heap.size+1) u1 Y.gs/\Ow V (w.heap.size+1) u2 Y.os/\Ow V (w.heap.size+1) u3 Y.gold/\dA V (w.heap.size+1) u4 Y.us/\bY V (w.heap.size+1) u5 Y.qs)/\Nz z u1/\Nz z u2/\Nz z u3/\Nz z u4/\Nz z u5
theorem zQ:S0.turn=0/\S0.next=1/\S0.wide=4/\S0.high=2/\S0.gs.length=8/\S0.os.length=8/\S0.gold.length=2/\S0.us.length=0/\S0.qs.length=0:=⟨rfl,rfl,rfl,rfl,rfl,rfl,rfl,rfl,rfl⟩
theorem SC:S1.turn=0/\S1.next=2/\S1.wide=4/\S1.high=2/\S1.gs.length=8/\S1.os.length=8/\S1.gold.length=2/\S1.us.length=1/\S1.qs.length=0:=⟨rfl,rfl,rfl,rfl,rfl,rfl,rfl,rfl,rfl⟩
theorem SE:S2.turn=0/\S2.next=3/\S2.wide=4/\S2.high=2/\S2.gs.length=8/\S2.os.length=8/\S2.gold.length=2/\S2.us.length=2/\S2.qs.length=0:=⟨rfl,rfl,rfl,rfl,rfl,rfl,rfl,rfl,rfl⟩
theorem Lh:S3.turn=0/\S3.next=4/\S3.wide=4/\S3.high=2/\S3.gs.length=8/\S3.os.length=8/\S3.gold.length=2/\S3.us.length=3/\S3.qs.length=0:=⟨rfl,rfl,rfl,rfl,rfl,rfl,rfl,rfl,rfl⟩
theorem jI{r:Value}(h:Er r 0):r=.nilIface:=by
 rcases h with⟨-,h⟩|⟨h,-⟩
 ·exact h
 ·exact absurd rfl h
theorem Lj{w w':World}{y z:Nat}{a b:Int}{u1 u2:Value}(h:Bx w y a b u1 u2)(k:Kp z w w')(hn:y≠z):Bx w' y a b u1 u2:=by
 have hc:∀i,w'.cell? ⟨y,i,none⟩=w.cell? ⟨y,i,none⟩:=λi=>by
  have:=k.block y h.lt hn;simp only[World.cell?,this]
 exact⟨by rw[hc];exact h.c0,by rw[hc];exact h.c1,by rw[hc];exact h.c2,by rw[hc];exact h.c3⟩
theorem dF{z:Nat}{w w':World}{base:Nat}{T:TypeId}{size:Nat}{u:Value}{n:Nat}{cs:List Value}(h:w.ownsRow base T size u n cs)(k:Kp z w w')(hz:Nz z u):w'.ownsRow base T size u n cs:=by
 refine⟨h.1,?_⟩;rcases h.2 with h1|⟨g,cap,cur,h1,h2,h3,h4⟩
 ·exact .inl h1
 ·exact .inr ⟨g,cap,cur,h1,h2,(k.block g (lt_of_block h3) (hz g (by rw[h1];rfl))).trans h3,h4⟩
theorem uQ{w V:World}{z:Nat}{Y:WV}{u1 u2 u3 u4 u5 d0 d1 d2 d3 d4 d5 d6 d7 d8:Value}(hz:w.heap.size<z)(B:Below w.heap.size w V)(R:Wx V w.heap.size (int i64 0) (int i64 0) (int i64 0) (int i64 0) (slice none 0 0) (slice none 0 0) (slice none 0 0) (slice none 0 0) (slice none 0 0))(Z:Wx V z d0 d1 d2 d3 d4 d5 d6 d7 d8)
 (O:Ow V (w.heap.size+1) u1 Y.gs/\Ow V (w.heap.size+1) u2 Y.os/\Ow V (w.heap.size+1) u3 Y.gold/\dA V (w.heap.size+1) u4 Y.us/\bY V (w.heap.size+1) u5 Y.qs) (N:Nz z u1/\Nz z u2/\Nz z u3/\Nz z u4/\Nz z u5):
 Vw w Y (.pointer (some ⟨z,0,none⟩)) (((((((((V.setCell ⟨z,0,none⟩ (int i64 Y.turn)).setCell ⟨z,1,none⟩ (int i64 Y.next)).setCell ⟨z,2,none⟩ (int i64 Y.wide)).setCell ⟨z,3,none⟩ (int i64 Y.high)).setCell ⟨z,4,none⟩ u1).setCell ⟨z,5,none⟩ u2).setCell ⟨z,6,none⟩ u3).setCell ⟨z,7,none⟩ u4).setCell ⟨z,8,none⟩ u5):=by
 have K:=aN V z (int i64 Y.turn) (int i64 Y.next) (int i64 Y.wide) (int i64 Y.high) u1 u2 u3 u4 u5;exact⟨z,u1,u2,u3,u4,u5,rfl,hz,K.below B B.size (Nat.le_of_lt hz),R.kp K (by omega),Z.put _ _ _ _ _ _ _ _ _,⟨dF O.1 K N.1,dF O.2.1 K N.2.1,dF O.2.2.1 K N.2.2.1,dF O.2.2.2.1 K N.2.2.2.1,dF O.2.2.2.2 K N.2.2.2.2⟩,N⟩
theorem Fq(w:World):Calls Tryz.prog 21 #[] w λe w'=>∃u,e=.returned (.tuple #[u,.bool true])/\Wo w' w.heap.size u S3/\Below w.heap.size w w':=by
 go_enter Tryz.func21,Tryz.ntmps21;go_upto_region 1 with fail
 have B0:Hid (Below w.heap.size w (w.alloc (.cells #[int i64 0,int i64 0,int i64 0,int i64 0,slice none 0 0,slice none 0 0,slice none 0 0,slice none 0 0,slice none 0 0] 29))):=(Below.refl _ _).alloc (Nat.le_refl _) _;have R0:Hid (Wx (w.alloc (.cells #[int i64 0,int i64 0,int i64 0,int i64 0,slice none 0 0,slice none 0 0,slice none 0 0,slice none 0 0,slice none 0 0] 29)) w.heap.size (int i64 0) (int i64 0) (int i64 0) (int i64 0) (slice none 0 0) (slice none 0 0) (slice none 0 0) (slice none 0 0) (slice none 0 0)):=Wx.new _ _ _ _ _ _ _ _ _ rfl;generalize (w.alloc (.cells #[int i64 0,int i64 0,int i64 0,int i64 0,slice none 0 0,slice none 0 0,slice none 0 0,slice none 0 0,slice none 0 0] 29))=w0 at *;go_wp2_with fail
 refine(parse_any ⟨#[46,46,46,46,10,46,46,51,46,10]⟩ w0 (by decide)).mono ?_;rintro e w1 ⟨hs,hb⟩;have hp:Fd.parse (⟨#[46,46,46,46,10,46,46,51,46,10]⟩:ByteArray).data.toList=.inr ⟨0,4,2,SG,SO⟩:=KD;rcases hs with⟨i,f,h1,-⟩|⟨st,u1,u2,h1,h2,r1,r2⟩
 ·rw[hp] at h1;cases h1
 rw[hp] at h1;injection h1 with h1
 subst h1;subst h2;have RO:Hid (Ro w1 u1 SG/\Ro w1 u2 SO):=⟨r1,r2⟩;obtain⟨p1,q1,rfl,-⟩:=r1;obtain⟨p2,q2,rfl,-⟩:=r2;have B1:Hid (Below w.heap.size w w1):=B0.out.trans (hb.mono B0.out.size);have R1:Hid (Wx w1 w.heap.size (int i64 0) (int i64 0) (int i64 0) (int i64 0) (slice none 0 0) (slice none 0 0) (slice none 0 0) (slice none 0 0) (slice none 0 0)):=R0.out.below hb R0.out.lt;clear hb hp B0 R0;have l8:SG.length=8:=rfl;have l8':SO.length=8:=rfl;rw[l8,l8'] at *;clear l8 l8';go_upto_region 2 with fail
 have BA:Hid (Below w1.heap.size w1 (w1.alloc (.cells #[int i64 4,int i64 2,slice p1 8 q1,slice p2 8 q2] 25))):=(Below.refl _ _).alloc (Nat.le_refl _) _;have X2:Hid (Bx (w1.alloc (.cells #[int i64 4,int i64 2,slice p1 8 q1,slice p2 8 q2] 25)) w1.heap.size 4 2 (slice p1 8 q1) (slice p2 8 q2)):=Bx.mk' _ _ _ _ rfl;have FL:Hid (Fl (w1.alloc (.cells #[int i64 4,int i64 2,slice p1 8 q1,slice p2 8 q2] 25)) (.agg #[int i64 4,int i64 2,slice p1 8 q1,slice p2 8 q2]) 4 2 SG SO):=⟨_,_,rfl,RO.out.1.below BA.out,RO.out.2.below BA.out⟩;have R2:Hid (Wx (w1.alloc (.cells #[int i64 4,int i64 2,slice p1 8 q1,slice p2 8 q2] 25)) w.heap.size (int i64 0) (int i64 0) (int i64 0) (int i64 0) (slice none 0 0) (slice none 0 0) (slice none 0 0) (slice none 0 0) (slice none 0 0)):=R1.out.below BA.out R1.out.lt;have B2:Hid (Below w.heap.size w (w1.alloc (.cells #[int i64 4,int i64 2,slice p1 8 q1,slice p2 8 q2] 25))):=B1.out.trans (BA.out.mono B1.out.size);generalize (w1.alloc (.cells #[int i64 4,int i64 2,slice p1 8 q1,slice p2 8 q2] 25))=w2 at *;clear BA B1 R1 RO;have N2:Hid (w.heap.size<w2.heap.size):=by have:=R2.out.lt;exact this
 go_cut [5,6] (λv5 v6 V=>v6=.nilIface/\Vw w S0 v5 V)
 case first=>
  refine jM 6 [(true,1),(false,0),(false,2),(true,3),(true,4),(true,5)] [(false,7)] [(false,8)] (λV=>Bx V w1.heap.size 4 2 (slice p1 8 q1) (slice p2 8 q2)) (by kernel_rfl) (by kernel_rfl) (by kernel_rfl) (by decide+kernel) (by decide+kernel) (X2.out.below (Below.refl _ _).drew X2.out.lt) ?_;have X3:Hid (Bx {w2 with drawn:=w2.drawn+1} w1.heap.size 4 2 (slice p1 8 q1) (slice p2 8 q2)):=X2.out.below (Below.refl _ _).drew X2.out.lt;have F3:Hid (Fl {w2 with drawn:=w2.drawn+1} (.agg #[int i64 4,int i64 2,slice p1 8 q1,slice p2 8 q2]) 4 2 SG SO):=FL.out.below (Below.refl _ _).drew;have R3:Hid (Wx {w2 with drawn:=w2.drawn+1} w.heap.size (int i64 0) (int i64 0) (int i64 0) (int i64 0) (slice none 0 0) (slice none 0 0) (slice none 0 0) (slice none 0 0) (slice none 0 0)):=R2.out;have B3:Hid (Below w.heap.size w {w2 with drawn:=w2.drawn+1}):=B2.out.drew;generalize ({w2 with drawn:=w2.drawn+1}:World)=w3 at *;clear X2 FL R2 B2;refine bK rfl (.agg #[int i64 4,int i64 2,slice p1 8 q1,slice p2 8 q2]) (by go_simp) (λV hV=>by obtain⟨f0,f1,f2,f3⟩:=hV;go_simp) ?_;go_simp;refine lJ rfl 22 #[] (by go_simp) (by go_simp) ?_ rfl (.pointer (some ⟨w3.heap.size,0,none⟩)) (w3.alloc (.cells #[int i64 0,int i64 0,int i64 0,int i64 0,slice none 0 0,slice none 0 0,slice none 0 0,slice none 0 0,slice none 0 0] 29)) (by go_simp) (by go_simp) (X3.out.below ((Below.refl _ _).alloc (Nat.le_refl _) _) X3.out.lt) ?_
  ·refine(fA w3).mono ?_
   rintro e w4 ⟨ku,rfl,hk,hb⟩;have K4:Hid (Kl w4 ku SK):=hk;have X4:Hid (Bx w4 w1.heap.size 4 2 (slice p1 8 q1) (slice p2 8 q2)):=X3.out.below hb X3.out.lt;have F4:Hid (Fl w4 (.agg #[int i64 4,int i64 2,slice p1 8 q1,slice p2 8 q2]) 4 2 SG SO):=F3.out.below hb;have R4:Hid (Wx w4 w.heap.size (int i64 0) (int i64 0) (int i64 0) (int i64 0) (slice none 0 0) (slice none 0 0) (slice none 0 0) (slice none 0 0) (slice none 0 0)):=R3.out.below hb R3.out.lt;have B4:Hid (Below w.heap.size w w4):=B3.out.trans (hb.mono B3.out.size);clear hk hb X3 F3 R3 B3;refine⟨_,rfl,X4.out,?_⟩;go_simp;refine lJ rfl 57 #[ku,.agg #[int i64 4,int i64 2,slice p1 8 q1,slice p2 8 q2],int i64 2,int i64 100] (by go_simp) (by go_simp) ?_ rfl (.pointer (some ⟨w4.heap.size,0,none⟩)) (w4.alloc (.cells #[int i64 0,int i64 0,int i64 0,int i64 0,slice none 0 0,slice none 0 0,slice none 0 0,slice none 0 0,slice none 0 0] 29)) (by go_simp) (by go_simp) (X4.out.below ((Below.refl _ _).alloc (Nat.le_refl _) _) X4.out.lt) ?_
   ·refine(new_any ku _ SK 4 2 SG SO 2 100 w4 K4.out dU F4.out).mono ?_
    rintro e w5 ⟨u,r,rfl,hr,ho,hb⟩;rw[BM] at hr;rw[RY] at ho;obtain rfl:=jI hr;have X5:Hid (Bx w5 w1.heap.size 4 2 (slice p1 8 q1) (slice p2 8 q2)):=X4.out.below hb X4.out.lt;have R5:Hid (Wx w5 w.heap.size (int i64 0) (int i64 0) (int i64 0) (int i64 0) (slice none 0 0) (slice none 0 0) (slice none 0 0) (slice none 0 0) (slice none 0 0)):=R4.out.below hb R4.out.lt;have B5:Hid (Below w.heap.size w w5):=B4.out.trans (hb.mono B4.out.size);obtain⟨v1,v2,v3,v4,v5,rfl,o1,o2,o3,o4,o5⟩:=ho;obtain⟨a1,b1,rfl⟩:=o1.len;obtain⟨a2,b2,rfl⟩:=o2.len;obtain⟨a3,b3,rfl⟩:=o3.len;obtain⟨a4,b4,rfl⟩:=o4.len;obtain⟨a5,b5,rfl⟩:=o5.len;obtain⟨g1,g2,g3,g4,g5,g6,g7,g8,g9⟩:=zQ;simp only[g5] at o1;simp only[g6] at o2;simp only[g7] at o3;simp only[g8] at o4;simp only[g9] at o5;simp only[g1,g2,g3,g4,g5,g6,g7,g8,g9];clear g1 g2 g3 g4 g5 g6 g7 g8 g9;have O5:Hid (Ow w5 (w.heap.size+1) (slice a1 8 b1) S0.gs/\Ow w5 (w.heap.size+1) (slice a2 8 b2) S0.os/\Ow w5 (w.heap.size+1) (slice a3 2 b3) S0.gold/\dA w5 (w.heap.size+1) (slice a4 0 b4) S0.us/\bY w5 (w.heap.size+1) (slice a5 0 b5) S0.qs):=⟨o1.mono R4.out.lt,o2.mono R4.out.lt,o3.mono R4.out.lt,o4.mono R4.out.lt,o5.mono R4.out.lt⟩;clear hr hb o1 o2 o3 o4 o5 K4 X4 F4 R4 B4;refine⟨_,rfl,X5.out,?_⟩;go_simp;refine bK rfl (.tuple #[.agg #[int i64 0,int i64 1,int i64 4,int i64 2,slice a1 8 b1,slice a2 8 b2,slice a3 2 b3,slice a4 0 b4,slice a5 0 b5],.nilIface]) (by go_simp) (λV hV=>by go_simp) ?_;go_simp;refine bK rfl (.agg #[int i64 0,int i64 1,int i64 4,int i64 2,slice a1 8 b1,slice a2 8 b2,slice a3 2 b3,slice a4 0 b4,slice a5 0 b5]) (by go_simp) (λV hV=>by go_simp) ?_;go_simp;refine bK rfl .nilIface (by go_simp) (λV hV=>by go_simp) ?_;go_simp;have NZ:Hid (Nz w5.heap.size (slice a1 8 b1)/\Nz w5.heap.size (slice a2 8 b2)/\Nz w5.heap.size (slice a3 2 b3)/\Nz w5.heap.size (slice a4 0 b4)/\Nz w5.heap.size (slice a5 0 b5)):=⟨λb hb=>by have:=(O5.out.1.block b hb).2;omega,λb hb=>by have:=(O5.out.2.1.block b hb).2;omega,λb hb=>by have:=(O5.out.2.2.1.block b hb).2;omega,λb hb=>by have:=(O5.out.2.2.2.1.block b hb).2;omega,λb hb=>by have:=(O5.out.2.2.2.2.block b hb).2;omega⟩;have BQ:Hid (Below w5.heap.size w5 (w5.alloc (.cells #[int i64 0,int i64 0,int i64 0,int i64 0,slice none 0 0,slice none 0 0,slice none 0 0,slice none 0 0,slice none 0 0] 29))):=(Below.refl _ _).alloc (Nat.le_refl _) _;have Z6:Hid (Wx (w5.alloc (.cells #[int i64 0,int i64 0,int i64 0,int i64 0,slice none 0 0,slice none 0 0,slice none 0 0,slice none 0 0,slice none 0 0] 29)) w5.heap.size (int i64 0) (int i64 0) (int i64 0) (int i64 0) (slice none 0 0) (slice none 0 0) (slice none 0 0) (slice none 0 0) (slice none 0 0)):=Wx.new _ _ _ _ _ _ _ _ _ rfl;refine qm rfl (.pointer (some ⟨w5.heap.size,0,none⟩)) (w5.alloc (.cells #[int i64 0,int i64 0,int i64 0,int i64 0,slice none 0 0,slice none 0 0,slice none 0 0,slice none 0 0,slice none 0 0] 29)) (by go_simp) (by go_simp) (X5.out.below BQ.out X5.out.lt) ?_;obtain⟨z,hz⟩:∃z,w5.heap.size=z:=⟨_,rfl⟩;have HZ:Hid (w.heap.size<z):=by rw[<-hz];exact R5.out.lt
    rw[hz] at NZ Z6 BQ ⊢;go_simp;generalize (w5.alloc (.cells #[int i64 0,int i64 0,int i64 0,int i64 0,slice none 0 0,slice none 0 0,slice none 0 0,slice none 0 0,slice none 0 0] 29))=w6 at *;have X6:Hid (Bx w6 w1.heap.size 4 2 (slice p1 8 q1) (slice p2 8 q2)):=X5.out.below BQ.out (by have:=X5.out.lt;omega);have R6:Hid (Wx w6 w.heap.size (int i64 0) (int i64 0) (int i64 0) (int i64 0) (slice none 0 0) (slice none 0 0) (slice none 0 0) (slice none 0 0) (slice none 0 0)):=R5.out.below BQ.out HZ.out;have B6:Hid (Below w.heap.size w w6):=B5.out.trans (BQ.out.mono (by have:=HZ.out;omega));have O6:Hid (Ow w6 (w.heap.size+1) (slice a1 8 b1) S0.gs/\Ow w6 (w.heap.size+1) (slice a2 8 b2) S0.os/\Ow w6 (w.heap.size+1) (slice a3 2 b3) S0.gold/\dA w6 (w.heap.size+1) (slice a4 0 b4) S0.us/\bY w6 (w.heap.size+1) (slice a5 0 b5) S0.qs):=⟨O5.out.1.below (by rw[hz];exact BQ.out),O5.out.2.1.below (by rw[hz];exact BQ.out),O5.out.2.2.1.below (by rw[hz];exact BQ.out),O5.out.2.2.2.1.below (by rw[hz];exact BQ.out),O5.out.2.2.2.2.below (by rw[hz];exact BQ.out)⟩;have XZ:Hid (w1.heap.size≠z):=by have:=X5.out.lt;unfold Hid;omega
    clear X5 R5 B5 O5 BQ hz;have KW:Hid (Kp z w6 (((((((((w6.setCell ⟨z,0,none⟩ (int i64 0)).setCell ⟨z,1,none⟩ (int i64 1)).setCell ⟨z,2,none⟩ (int i64 4)).setCell ⟨z,3,none⟩ (int i64 2)).setCell ⟨z,4,none⟩ (slice a1 8 b1)).setCell ⟨z,5,none⟩ (slice a2 8 b2)).setCell ⟨z,6,none⟩ (slice a3 2 b3)).setCell ⟨z,7,none⟩ (slice a4 0 b4)).setCell ⟨z,8,none⟩ (slice a5 0 b5))):=aN _ _ _ _ _ _ _ _ _ _ _;have FIN:Hid (Vw w S0 (.pointer (some ⟨z,0,none⟩)) (((((((((w6.setCell ⟨z,0,none⟩ (int i64 0)).setCell ⟨z,1,none⟩ (int i64 1)).setCell ⟨z,2,none⟩ (int i64 4)).setCell ⟨z,3,none⟩ (int i64 2)).setCell ⟨z,4,none⟩ (slice a1 8 b1)).setCell ⟨z,5,none⟩ (slice a2 8 b2)).setCell ⟨z,6,none⟩ (slice a3 2 b3)).setCell ⟨z,7,none⟩ (slice a4 0 b4)).setCell ⟨z,8,none⟩ (slice a5 0 b5))):=uQ HZ.out B6.out R6.out Z6.out O6.out NZ.out;obtain⟨x0,x1,x2,x3,x4,x5,x6,x7,x8⟩:=Z6.out.cells;obtain⟨t0,t1,t2,t3,t4,t5,t6,t7,t8⟩:=Z6.out.bF;refine gV rfl (((((((((w6.setCell ⟨z,0,none⟩ (int i64 0)).setCell ⟨z,1,none⟩ (int i64 1)).setCell ⟨z,2,none⟩ (int i64 4)).setCell ⟨z,3,none⟩ (int i64 2)).setCell ⟨z,4,none⟩ (slice a1 8 b1)).setCell ⟨z,5,none⟩ (slice a2 8 b2)).setCell ⟨z,6,none⟩ (slice a3 2 b3)).setCell ⟨z,7,none⟩ (slice a4 0 b4)).setCell ⟨z,8,none⟩ (slice a5 0 b5)) (by go_simp) (by go_simp) (Lj X6.out KW.out XZ.out) ?_;go_simp;clear x0 x1 x2 x3 x4 x5 x6 x7 x8 t0 t1 t2 t3 t4 t5 t6 t7 t8;generalize (((((((((w6.setCell ⟨z,0,none⟩ (int i64 0)).setCell ⟨z,1,none⟩ (int i64 1)).setCell ⟨z,2,none⟩ (int i64 4)).setCell ⟨z,3,none⟩ (int i64 2)).setCell ⟨z,4,none⟩ (slice a1 8 b1)).setCell ⟨z,5,none⟩ (slice a2 8 b2)).setCell ⟨z,6,none⟩ (slice a3 2 b3)).setCell ⟨z,7,none⟩ (slice a4 0 b4)).setCell ⟨z,8,none⟩ (slice a5 0 b5))=w7 at *;unfold aX;refine aF rfl .nilIface w7 (by go_simp) (by go_simp) trivial ?_;go_simp;unfold aJ;go_wp2_with fail
    go_meet
    case rel=>exact⟨rfl,FIN.out⟩
   ·
    have BQ:Hid (Below w4.heap.size w4 (w4.alloc (.cells #[int i64 0,int i64 0,int i64 0,int i64 0,slice none 0 0,slice none 0 0,slice none 0 0,slice none 0 0,slice none 0 0] 29))):=(Below.refl _ _).alloc (Nat.le_refl _) _;have ZQ:Hid (Wx (w4.alloc (.cells #[int i64 0,int i64 0,int i64 0,int i64 0,slice none 0 0,slice none 0 0,slice none 0 0,slice none 0 0,slice none 0 0] 29)) w4.heap.size (int i64 0) (int i64 0) (int i64 0) (int i64 0) (slice none 0 0) (slice none 0 0) (slice none 0 0) (slice none 0 0) (slice none 0 0)):=Wx.new _ _ _ _ _ _ _ _ _ rfl;obtain⟨z,hz⟩:∃z,w4.heap.size=z:=⟨_,rfl⟩;have HZ:Hid (w.heap.size<z):=by rw[<-hz];exact R4.out.lt
    have XZ:Hid (w1.heap.size≠z):=by have:=X4.out.lt;unfold Hid;omega
    rw[hz] at ZQ ⊢;go_simp;generalize (w4.alloc (.cells #[int i64 0,int i64 0,int i64 0,int i64 0,slice none 0 0,slice none 0 0,slice none 0 0,slice none 0 0,slice none 0 0] 29))=w4' at *;have K4':Hid (Kl w4' ku SK):=K4.out.below BQ.out;have X4':Hid (Bx w4' w1.heap.size 4 2 (slice p1 8 q1) (slice p2 8 q2)):=X4.out.below BQ.out X4.out.lt;have F4':Hid (Fl w4' (.agg #[int i64 4,int i64 2,slice p1 8 q1,slice p2 8 q2]) 4 2 SG SO):=F4.out.below BQ.out;have R4':Hid (Wx w4' w.heap.size (int i64 0) (int i64 0) (int i64 0) (int i64 0) (slice none 0 0) (slice none 0 0) (slice none 0 0) (slice none 0 0) (slice none 0 0)):=R4.out.below BQ.out R4.out.lt;have B4':Hid (Below w.heap.size w w4'):=B4.out.trans (BQ.out.mono B4.out.size);clear K4 X4 F4 R4 B4 BQ hz;refine aQ rfl 57 #[ku,.agg #[int i64 4,int i64 2,slice p1 8 q1,slice p2 8 q2],int i64 2,int i64 100] (by go_simp) (by go_simp) ?_;refine(new_any ku _ SK 4 2 SG SO 2 100 w4' K4'.out dU F4'.out).mono ?_;rintro e w5 ⟨u,r,rfl,hr,ho,hb⟩;rw[BM] at hr;rw[RY] at ho;obtain rfl:=jI hr;have X5:Hid (Bx w5 w1.heap.size 4 2 (slice p1 8 q1) (slice p2 8 q2)):=X4'.out.below hb X4'.out.lt;have R5:Hid (Wx w5 w.heap.size (int i64 0) (int i64 0) (int i64 0) (int i64 0) (slice none 0 0) (slice none 0 0) (slice none 0 0) (slice none 0 0) (slice none 0 0)):=R4'.out.below hb R4'.out.lt;have B5:Hid (Below w.heap.size w w5):=B4'.out.trans (hb.mono B4'.out.size);have Z5:Hid (Wx w5 z (int i64 0) (int i64 0) (int i64 0) (int i64 0) (slice none 0 0) (slice none 0 0) (slice none 0 0) (slice none 0 0) (slice none 0 0)):=ZQ.out.below hb ZQ.out.lt;have ZL:Hid (z<w4'.heap.size):=ZQ.out.lt;obtain⟨v1,v2,v3,v4,v5,rfl,o1,o2,o3,o4,o5⟩:=ho;obtain⟨a1,b1,rfl⟩:=o1.len;obtain⟨a2,b2,rfl⟩:=o2.len;obtain⟨a3,b3,rfl⟩:=o3.len;obtain⟨a4,b4,rfl⟩:=o4.len;obtain⟨a5,b5,rfl⟩:=o5.len;obtain⟨g1,g2,g3,g4,g5,g6,g7,g8,g9⟩:=zQ;simp only[g5] at o1;simp only[g6] at o2;simp only[g7] at o3;simp only[g8] at o4;simp only[g9] at o5;simp only[g1,g2,g3,g4,g5,g6,g7,g8,g9];clear g1 g2 g3 g4 g5 g6 g7 g8 g9;have NZ:Hid (Nz z (slice a1 8 b1)/\Nz z (slice a2 8 b2)/\Nz z (slice a3 2 b3)/\Nz z (slice a4 0 b4)/\Nz z (slice a5 0 b5)):=⟨λb hb=>by have:=(o1.block b hb).1;have:=ZL.out;omega,λb hb=>by have:=(o2.block b hb).1;have:=ZL.out;omega,λb hb=>by have:=(o3.block b hb).1;have:=ZL.out;omega,λb hb=>by have:=(o4.block b hb).1;have:=ZL.out;omega,λb hb=>by have:=(o5.block b hb).1;have:=ZL.out;omega⟩;have O5:Hid (Ow w5 (w.heap.size+1) (slice a1 8 b1) S0.gs/\Ow w5 (w.heap.size+1) (slice a2 8 b2) S0.os/\Ow w5 (w.heap.size+1) (slice a3 2 b3) S0.gold/\dA w5 (w.heap.size+1) (slice a4 0 b4) S0.us/\bY w5 (w.heap.size+1) (slice a5 0 b5) S0.qs):=⟨o1.mono R4'.out.lt,o2.mono R4'.out.lt,o3.mono R4'.out.lt,o4.mono R4'.out.lt,o5.mono R4'.out.lt⟩;clear hr hb o1 o2 o3 o4 o5 K4' X4' F4' R4' B4' ZQ ZL;refine⟨_,rfl,X5.out,?_⟩;go_simp;refine ay rfl (.tuple #[.agg #[int i64 0,int i64 1,int i64 4,int i64 2,slice a1 8 b1,slice a2 8 b2,slice a3 2 b3,slice a4 0 b4,slice a5 0 b5],.nilIface]) (by go_simp) (λV hV=>by go_simp) ?_;go_simp;generalize w5=w6 at *;have X6:=X5;have R6:=R5;have B6:=B5;have O6:=O5;have Z6:=Z5;clear X5 R5 B5 O5 Z5;refine ay rfl (.agg #[int i64 0,int i64 1,int i64 4,int i64 2,slice a1 8 b1,slice a2 8 b2,slice a3 2 b3,slice a4 0 b4,slice a5 0 b5]) (by go_simp) (λV hV=>by go_simp) ?_;go_simp;refine ay rfl .nilIface (by go_simp) (λV hV=>by go_simp) ?_;go_simp;have KW:Hid (Kp z w6 (((((((((w6.setCell ⟨z,0,none⟩ (int i64 0)).setCell ⟨z,1,none⟩ (int i64 1)).setCell ⟨z,2,none⟩ (int i64 4)).setCell ⟨z,3,none⟩ (int i64 2)).setCell ⟨z,4,none⟩ (slice a1 8 b1)).setCell ⟨z,5,none⟩ (slice a2 8 b2)).setCell ⟨z,6,none⟩ (slice a3 2 b3)).setCell ⟨z,7,none⟩ (slice a4 0 b4)).setCell ⟨z,8,none⟩ (slice a5 0 b5))):=aN _ _ _ _ _ _ _ _ _ _ _;have FIN:Hid (Vw w S0 (.pointer (some ⟨z,0,none⟩)) (((((((((w6.setCell ⟨z,0,none⟩ (int i64 0)).setCell ⟨z,1,none⟩ (int i64 1)).setCell ⟨z,2,none⟩ (int i64 4)).setCell ⟨z,3,none⟩ (int i64 2)).setCell ⟨z,4,none⟩ (slice a1 8 b1)).setCell ⟨z,5,none⟩ (slice a2 8 b2)).setCell ⟨z,6,none⟩ (slice a3 2 b3)).setCell ⟨z,7,none⟩ (slice a4 0 b4)).setCell ⟨z,8,none⟩ (slice a5 0 b5))):=uQ HZ.out B6.out R6.out Z6.out O6.out NZ.out;obtain⟨x0,x1,x2,x3,x4,x5,x6,x7,x8⟩:=Z6.out.cells;obtain⟨t0,t1,t2,t3,t4,t5,t6,t7,t8⟩:=Z6.out.bF;refine gV rfl (((((((((w6.setCell ⟨z,0,none⟩ (int i64 0)).setCell ⟨z,1,none⟩ (int i64 1)).setCell ⟨z,2,none⟩ (int i64 4)).setCell ⟨z,3,none⟩ (int i64 2)).setCell ⟨z,4,none⟩ (slice a1 8 b1)).setCell ⟨z,5,none⟩ (slice a2 8 b2)).setCell ⟨z,6,none⟩ (slice a3 2 b3)).setCell ⟨z,7,none⟩ (slice a4 0 b4)).setCell ⟨z,8,none⟩ (slice a5 0 b5)) (by go_simp) (by go_simp) (Lj X6.out KW.out XZ.out) ?_;go_simp;clear x0 x1 x2 x3 x4 x5 x6 x7 x8 t0 t1 t2 t3 t4 t5 t6 t7 t8;generalize (((((((((w6.setCell ⟨z,0,none⟩ (int i64 0)).setCell ⟨z,1,none⟩ (int i64 1)).setCell ⟨z,2,none⟩ (int i64 4)).setCell ⟨z,3,none⟩ (int i64 2)).setCell ⟨z,4,none⟩ (slice a1 8 b1)).setCell ⟨z,5,none⟩ (slice a2 8 b2)).setCell ⟨z,6,none⟩ (slice a3 2 b3)).setCell ⟨z,7,none⟩ (slice a4 0 b4)).setCell ⟨z,8,none⟩ (slice a5 0 b5))=w7 at *;unfold aX;refine aF rfl .nilIface w7 (by go_simp) (by go_simp) trivial ?_;go_simp;unfold aJ;go_wp2_with fail
    go_meet
    case rel=>exact⟨rfl,FIN.out⟩
  ·
   have BQ:Hid (Below w3.heap.size w3 (w3.alloc (.cells #[int i64 0,int i64 0,int i64 0,int i64 0,slice none 0 0,slice none 0 0,slice none 0 0,slice none 0 0,slice none 0 0] 29))):=(Below.refl _ _).alloc (Nat.le_refl _) _;have ZQ:Hid (Wx (w3.alloc (.cells #[int i64 0,int i64 0,int i64 0,int i64 0,slice none 0 0,slice none 0 0,slice none 0 0,slice none 0 0,slice none 0 0] 29)) w3.heap.size (int i64 0) (int i64 0) (int i64 0) (int i64 0) (slice none 0 0) (slice none 0 0) (slice none 0 0) (slice none 0 0) (slice none 0 0)):=Wx.new _ _ _ _ _ _ _ _ _ rfl;obtain⟨z,hz⟩:∃z,w3.heap.size=z:=⟨_,rfl⟩;have HZ:Hid (w.heap.size<z):=by rw[<-hz];exact R3.out.lt
   have XZ:Hid (w1.heap.size≠z):=by have:=X3.out.lt;unfold Hid;omega
   rw[hz] at ZQ ⊢;go_simp;generalize (w3.alloc (.cells #[int i64 0,int i64 0,int i64 0,int i64 0,slice none 0 0,slice none 0 0,slice none 0 0,slice none 0 0,slice none 0 0] 29))=w3' at *;have X3':Hid (Bx w3' w1.heap.size 4 2 (slice p1 8 q1) (slice p2 8 q2)):=X3.out.below BQ.out X3.out.lt;have F3':Hid (Fl w3' (.agg #[int i64 4,int i64 2,slice p1 8 q1,slice p2 8 q2]) 4 2 SG SO):=F3.out.below BQ.out;have R3':Hid (Wx w3' w.heap.size (int i64 0) (int i64 0) (int i64 0) (int i64 0) (slice none 0 0) (slice none 0 0) (slice none 0 0) (slice none 0 0) (slice none 0 0)):=R3.out.below BQ.out R3.out.lt;have B3':Hid (Below w.heap.size w w3'):=B3.out.trans (BQ.out.mono B3.out.size);clear X3 F3 R3 B3 BQ hz;refine aQ rfl 22 #[] (by go_simp) (by go_simp) ?_;refine(fA w3').mono ?_;rintro e w4' ⟨ku,rfl,hk,hb⟩;have K4':Hid (Kl w4' ku SK):=hk;have X4':Hid (Bx w4' w1.heap.size 4 2 (slice p1 8 q1) (slice p2 8 q2)):=X3'.out.below hb X3'.out.lt;have F4':Hid (Fl w4' (.agg #[int i64 4,int i64 2,slice p1 8 q1,slice p2 8 q2]) 4 2 SG SO):=F3'.out.below hb;have R4':Hid (Wx w4' w.heap.size (int i64 0) (int i64 0) (int i64 0) (int i64 0) (slice none 0 0) (slice none 0 0) (slice none 0 0) (slice none 0 0) (slice none 0 0)):=R3'.out.below hb R3'.out.lt;have B4':Hid (Below w.heap.size w w4'):=B3'.out.trans (hb.mono B3'.out.size);have Yx:Hid (Wx w4' z (int i64 0) (int i64 0) (int i64 0) (int i64 0) (slice none 0 0) (slice none 0 0) (slice none 0 0) (slice none 0 0) (slice none 0 0)):=ZQ.out.below hb ZQ.out.lt;clear hk hb X3' F3' R3' B3' ZQ;have ZQ:=Yx;clear Yx;refine⟨_,rfl,X4'.out,?_⟩;go_simp;refine aQ rfl 57 #[ku,.agg #[int i64 4,int i64 2,slice p1 8 q1,slice p2 8 q2],int i64 2,int i64 100] (by go_simp) (by go_simp) ?_;refine(new_any ku _ SK 4 2 SG SO 2 100 w4' K4'.out dU F4'.out).mono ?_;rintro e w5 ⟨u,r,rfl,hr,ho,hb⟩;rw[BM] at hr;rw[RY] at ho;obtain rfl:=jI hr;have X5:Hid (Bx w5 w1.heap.size 4 2 (slice p1 8 q1) (slice p2 8 q2)):=X4'.out.below hb X4'.out.lt;have R5:Hid (Wx w5 w.heap.size (int i64 0) (int i64 0) (int i64 0) (int i64 0) (slice none 0 0) (slice none 0 0) (slice none 0 0) (slice none 0 0) (slice none 0 0)):=R4'.out.below hb R4'.out.lt;have B5:Hid (Below w.heap.size w w5):=B4'.out.trans (hb.mono B4'.out.size);have Z5:Hid (Wx w5 z (int i64 0) (int i64 0) (int i64 0) (int i64 0) (slice none 0 0) (slice none 0 0) (slice none 0 0) (slice none 0 0) (slice none 0 0)):=ZQ.out.below hb ZQ.out.lt;have ZL:Hid (z<w4'.heap.size):=ZQ.out.lt;obtain⟨v1,v2,v3,v4,v5,rfl,o1,o2,o3,o4,o5⟩:=ho;obtain⟨a1,b1,rfl⟩:=o1.len;obtain⟨a2,b2,rfl⟩:=o2.len;obtain⟨a3,b3,rfl⟩:=o3.len;obtain⟨a4,b4,rfl⟩:=o4.len;obtain⟨a5,b5,rfl⟩:=o5.len;obtain⟨g1,g2,g3,g4,g5,g6,g7,g8,g9⟩:=zQ;simp only[g5] at o1;simp only[g6] at o2;simp only[g7] at o3;simp only[g8] at o4;simp only[g9] at o5;simp only[g1,g2,g3,g4,g5,g6,g7,g8,g9];clear g1 g2 g3 g4 g5 g6 g7 g8 g9;have NZ:Hid (Nz z (slice a1 8 b1)/\Nz z (slice a2 8 b2)/\Nz z (slice a3 2 b3)/\Nz z (slice a4 0 b4)/\Nz z (slice a5 0 b5)):=⟨λb hb=>by have:=(o1.block b hb).1;have:=ZL.out;omega,λb hb=>by have:=(o2.block b hb).1;have:=ZL.out;omega,λb hb=>by have:=(o3.block b hb).1;have:=ZL.out;omega,λb hb=>by have:=(o4.block b hb).1;have:=ZL.out;omega,λb hb=>by have:=(o5.block b hb).1;have:=ZL.out;omega⟩;have O5:Hid (Ow w5 (w.heap.size+1) (slice a1 8 b1) S0.gs/\Ow w5 (w.heap.size+1) (slice a2 8 b2) S0.os/\Ow w5 (w.heap.size+1) (slice a3 2 b3) S0.gold/\dA w5 (w.heap.size+1) (slice a4 0 b4) S0.us/\bY w5 (w.heap.size+1) (slice a5 0 b5) S0.qs):=⟨o1.mono R4'.out.lt,o2.mono R4'.out.lt,o3.mono R4'.out.lt,o4.mono R4'.out.lt,o5.mono R4'.out.lt⟩;clear hr hb o1 o2 o3 o4 o5 K4' X4' F4' R4' B4' ZQ ZL;refine⟨_,rfl,X5.out,?_⟩;go_simp;refine ay rfl (.tuple #[.agg #[int i64 0,int i64 1,int i64 4,int i64 2,slice a1 8 b1,slice a2 8 b2,slice a3 2 b3,slice a4 0 b4,slice a5 0 b5],.nilIface]) (by go_simp) (λV hV=>by go_simp) ?_;go_simp;generalize w5=w6 at *;have X6:=X5;have R6:=R5;have B6:=B5;have O6:=O5;have Z6:=Z5;clear X5 R5 B5 O5 Z5;refine ay rfl (.agg #[int i64 0,int i64 1,int i64 4,int i64 2,slice a1 8 b1,slice a2 8 b2,slice a3 2 b3,slice a4 0 b4,slice a5 0 b5]) (by go_simp) (λV hV=>by go_simp) ?_;go_simp;refine ay rfl .nilIface (by go_simp) (λV hV=>by go_simp) ?_;go_simp;have KW:Hid (Kp z w6 (((((((((w6.setCell ⟨z,0,none⟩ (int i64 0)).setCell ⟨z,1,none⟩ (int i64 1)).setCell ⟨z,2,none⟩ (int i64 4)).setCell ⟨z,3,none⟩ (int i64 2)).setCell ⟨z,4,none⟩ (slice a1 8 b1)).setCell ⟨z,5,none⟩ (slice a2 8 b2)).setCell ⟨z,6,none⟩ (slice a3 2 b3)).setCell ⟨z,7,none⟩ (slice a4 0 b4)).setCell ⟨z,8,none⟩ (slice a5 0 b5))):=aN _ _ _ _ _ _ _ _ _ _ _;have FIN:Hid (Vw w S0 (.pointer (some ⟨z,0,none⟩)) (((((((((w6.setCell ⟨z,0,none⟩ (int i64 0)).setCell ⟨z,1,none⟩ (int i64 1)).setCell ⟨z,2,none⟩ (int i64 4)).setCell ⟨z,3,none⟩ (int i64 2)).setCell ⟨z,4,none⟩ (slice a1 8 b1)).setCell ⟨z,5,none⟩ (slice a2 8 b2)).setCell ⟨z,6,none⟩ (slice a3 2 b3)).setCell ⟨z,7,none⟩ (slice a4 0 b4)).setCell ⟨z,8,none⟩ (slice a5 0 b5))):=uQ HZ.out B6.out R6.out Z6.out O6.out NZ.out;obtain⟨x0,x1,x2,x3,x4,x5,x6,x7,x8⟩:=Z6.out.cells;obtain⟨t0,t1,t2,t3,t4,t5,t6,t7,t8⟩:=Z6.out.bF;refine gV rfl (((((((((w6.setCell ⟨z,0,none⟩ (int i64 0)).setCell ⟨z,1,none⟩ (int i64 1)).setCell ⟨z,2,none⟩ (int i64 4)).setCell ⟨z,3,none⟩ (int i64 2)).setCell ⟨z,4,none⟩ (slice a1 8 b1)).setCell ⟨z,5,none⟩ (slice a2 8 b2)).setCell ⟨z,6,none⟩ (slice a3 2 b3)).setCell ⟨z,7,none⟩ (slice a4 0 b4)).setCell ⟨z,8,none⟩ (slice a5 0 b5)) (by go_simp) (by go_simp) (Lj X6.out KW.out XZ.out) ?_;go_simp;clear x0 x1 x2 x3 x4 x5 x6 x7 x8 t0 t1 t2 t3 t4 t5 t6 t7 t8;generalize (((((((((w6.setCell ⟨z,0,none⟩ (int i64 0)).setCell ⟨z,1,none⟩ (int i64 1)).setCell ⟨z,2,none⟩ (int i64 4)).setCell ⟨z,3,none⟩ (int i64 2)).setCell ⟨z,4,none⟩ (slice a1 8 b1)).setCell ⟨z,5,none⟩ (slice a2 8 b2)).setCell ⟨z,6,none⟩ (slice a3 2 b3)).setCell ⟨z,7,none⟩ (slice a4 0 b4)).setCell ⟨z,8,none⟩ (slice a5 0 b5))=w7 at *;unfold aX;refine aF rfl .nilIface w7 (by go_simp) (by go_simp) trivial ?_;go_simp;unfold aJ;go_wp2_with fail
   go_meet
   case rel=>exact⟨rfl,FIN.out⟩
 case rest=>
  obtain⟨rfl,hS⟩:=hcut;obtain⟨z,c1,c2,c3,c4,c5,rfl,hz,hB,hR,hX,hO,hN⟩:=hS;have HZ:Hid (w.heap.size<z):=hz;have BA0:Hid (Below w.heap.size w wc):=hB;have RA0:Hid (Wx wc w.heap.size (int i64 0) (int i64 0) (int i64 0) (int i64 0) (slice none 0 0) (slice none 0 0) (slice none 0 0) (slice none 0 0) (slice none 0 0)):=hR;have XA0:Hid (Wx wc z (int i64 S0.turn) (int i64 S0.next) (int i64 S0.wide) (int i64 S0.high) c1 c2 c3 c4 c5):=hX;have OA0:Hid (Ow wc (w.heap.size+1) c1 S0.gs/\Ow wc (w.heap.size+1) c2 S0.os/\Ow wc (w.heap.size+1) c3 S0.gold/\dA wc (w.heap.size+1) c4 S0.us/\bY wc (w.heap.size+1) c5 S0.qs):=hO;clear hz hB hR hX hO hN X2 FL R2 B2 N2;generalize wc=s0 at *;go_upto_region 3 with fail
  refine aI [(true,1),(false,0),(false,2),(true,3)] [(true,4),(true,5),(false,6),(false,7)] (λV=>Wx V z (int i64 S0.turn) (int i64 S0.next) (int i64 S0.wide) (int i64 S0.high) c1 c2 c3 c4 c5) (by kernel_rfl) (by kernel_rfl) (by kernel_rfl) (by decide+kernel) (by decide+kernel) XA0.out.drew ?_;have X1:Hid (Wx {s0 with drawn:=s0.drawn+1} z (int i64 S0.turn) (int i64 S0.next) (int i64 S0.wide) (int i64 S0.high) c1 c2 c3 c4 c5):=XA0.out;have R1:Hid (Wx {s0 with drawn:=s0.drawn+1} w.heap.size (int i64 0) (int i64 0) (int i64 0) (int i64 0) (slice none 0 0) (slice none 0 0) (slice none 0 0) (slice none 0 0) (slice none 0 0)):=RA0.out;have B1:Hid (Below w.heap.size w {s0 with drawn:=s0.drawn+1}):=BA0.out.drew;have D1:Hid (Below s0.heap.size s0 {s0 with drawn:=s0.drawn+1}):=(Below.refl _ _).drew;generalize ({s0 with drawn:=s0.drawn+1}:World)=v3 at *;have L1:Hid (Wl v3 (.agg #[int i64 S0.turn,int i64 S0.next,int i64 S0.wide,int i64 S0.high,c1,c2,c3,c4,c5]) S0):=⟨_,_,_,_,_,rfl,(OA0.out.1.below D1.out).ro,(OA0.out.2.1.below D1.out).ro,(OA0.out.2.2.1.below D1.out).ro,(OA0.out.2.2.2.1.below D1.out).l,(OA0.out.2.2.2.2.below D1.out).l⟩;clear XA0 RA0 BA0 OA0 D1;refine ay rfl (.agg #[int i64 S0.turn,int i64 S0.next,int i64 S0.wide,int i64 S0.high,c1,c2,c3,c4,c5]) (by go_simp) (λV hV=>by obtain⟨x0,x1,x2,x3,x4,x5,x6,x7,x8⟩:=hV.cells;go_simp) ?_;go_simp;refine aQ rfl 22 #[] (by go_simp) (by go_simp) ?_;refine(fA v3).mono ?_;rintro e v4 ⟨ku,rfl,hk,hb⟩;have K4:Hid (Kl v4 ku SK):=hk;have X4:Hid (Wx v4 z (int i64 S0.turn) (int i64 S0.next) (int i64 S0.wide) (int i64 S0.high) c1 c2 c3 c4 c5):=X1.out.below hb X1.out.lt;have R4:Hid (Wx v4 w.heap.size (int i64 0) (int i64 0) (int i64 0) (int i64 0) (slice none 0 0) (slice none 0 0) (slice none 0 0) (slice none 0 0) (slice none 0 0)):=R1.out.below hb R1.out.lt;have B4:Hid (Below w.heap.size w v4):=B1.out.trans (hb.mono B1.out.size);have L4:Hid (Wl v4 (.agg #[int i64 S0.turn,int i64 S0.next,int i64 S0.wide,int i64 S0.high,c1,c2,c3,c4,c5]) S0):=L1.out.below hb;clear hk hb X1 R1 B1 L1;refine⟨_,rfl,X4.out,?_⟩;go_simp;refine aQ rfl 58 #[ku,.agg #[int i64 S0.turn,int i64 S0.next,int i64 S0.wide,int i64 S0.high,c1,c2,c3,c4,c5],int i64 0,int i64 0,int i64 0] (by go_simp) (by go_simp) ?_;refine(kP ku _ SK S0 0 0 0 v4 K4.out dU L4.out).mono ?_;rintro e v5 ⟨u,r,rfl,hr,ho,hb⟩;rw[Qh] at hr;rw[Xx] at ho;obtain rfl:=jI hr;have X5:Hid (Wx v5 z (int i64 S0.turn) (int i64 S0.next) (int i64 S0.wide) (int i64 S0.high) c1 c2 c3 c4 c5):=X4.out.below hb X4.out.lt;have R5:Hid (Wx v5 w.heap.size (int i64 0) (int i64 0) (int i64 0) (int i64 0) (slice none 0 0) (slice none 0 0) (slice none 0 0) (slice none 0 0) (slice none 0 0)):=R4.out.below hb R4.out.lt;have B5:Hid (Below w.heap.size w v5):=B4.out.trans (hb.mono B4.out.size);have ZL:Hid (z<v4.heap.size):=X4.out.lt;obtain⟨y1,y2,y3,y4,y5,rfl,o1,o2,o3,o4,o5⟩:=ho;obtain⟨m11,n11,rfl⟩:=o1.len;obtain⟨m12,n12,rfl⟩:=o2.len;obtain⟨m13,n13,rfl⟩:=o3.len;obtain⟨m14,n14,rfl⟩:=o4.len;obtain⟨m15,n15,rfl⟩:=o5.len;obtain⟨g1,g2,g3,g4,g5,g6,g7,g8,g9⟩:=SC;simp only[g5] at o1;simp only[g6] at o2;simp only[g7] at o3;simp only[g8] at o4;simp only[g9] at o5;simp only[g1,g2,g3,g4,g5,g6,g7,g8,g9];clear g1 g2 g3 g4 g5 g6 g7 g8 g9;have NZ:Hid (Nz z (slice m11 8 n11)/\Nz z (slice m12 8 n12)/\Nz z (slice m13 2 n13)/\Nz z (slice m14 1 n14)/\Nz z (slice m15 0 n15)):=⟨λb hb=>by have:=(o1.block b hb).1;have:=ZL.out;omega,λb hb=>by have:=(o2.block b hb).1;have:=ZL.out;omega,λb hb=>by have:=(o3.block b hb).1;have:=ZL.out;omega,λb hb=>by have:=(o4.block b hb).1;have:=ZL.out;omega,λb hb=>by have:=(o5.block b hb).1;have:=ZL.out;omega⟩;have O5:Hid (Ow v5 (w.heap.size+1) (slice m11 8 n11) S1.gs/\Ow v5 (w.heap.size+1) (slice m12 8 n12) S1.os/\Ow v5 (w.heap.size+1) (slice m13 2 n13) S1.gold/\dA v5 (w.heap.size+1) (slice m14 1 n14) S1.us/\bY v5 (w.heap.size+1) (slice m15 0 n15) S1.qs):=⟨o1.mono R4.out.lt,o2.mono R4.out.lt,o3.mono R4.out.lt,o4.mono R4.out.lt,o5.mono R4.out.lt⟩;clear hr hb o1 o2 o3 o4 o5 K4 X4 R4 B4 L4 ZL;refine⟨_,rfl,X5.out,?_⟩;go_simp;refine ay rfl (.tuple #[.agg #[int i64 0,int i64 2,int i64 4,int i64 2,slice m11 8 n11,slice m12 8 n12,slice m13 2 n13,slice m14 1 n14,slice m15 0 n15],.nilIface]) (by go_simp) (λV hV=>by go_simp) ?_;go_simp;unfold aX;have KW:Hid (Kp z v5 (((((((((v5.setCell ⟨z,0,none⟩ (int i64 0)).setCell ⟨z,1,none⟩ (int i64 2)).setCell ⟨z,2,none⟩ (int i64 4)).setCell ⟨z,3,none⟩ (int i64 2)).setCell ⟨z,4,none⟩ (slice m11 8 n11)).setCell ⟨z,5,none⟩ (slice m12 8 n12)).setCell ⟨z,6,none⟩ (slice m13 2 n13)).setCell ⟨z,7,none⟩ (slice m14 1 n14)).setCell ⟨z,8,none⟩ (slice m15 0 n15))):=aN _ _ _ _ _ _ _ _ _ _ _;have XA1:Hid (Wx (((((((((v5.setCell ⟨z,0,none⟩ (int i64 0)).setCell ⟨z,1,none⟩ (int i64 2)).setCell ⟨z,2,none⟩ (int i64 4)).setCell ⟨z,3,none⟩ (int i64 2)).setCell ⟨z,4,none⟩ (slice m11 8 n11)).setCell ⟨z,5,none⟩ (slice m12 8 n12)).setCell ⟨z,6,none⟩ (slice m13 2 n13)).setCell ⟨z,7,none⟩ (slice m14 1 n14)).setCell ⟨z,8,none⟩ (slice m15 0 n15)) z (int i64 0) (int i64 2) (int i64 4) (int i64 2) (slice m11 8 n11) (slice m12 8 n12) (slice m13 2 n13) (slice m14 1 n14) (slice m15 0 n15)):=X5.out.put (int i64 0) (int i64 2) (int i64 4) (int i64 2) (slice m11 8 n11) (slice m12 8 n12) (slice m13 2 n13) (slice m14 1 n14) (slice m15 0 n15);obtain⟨x0,x1,x2,x3,x4,x5,x6,x7,x8⟩:=X5.out.cells;obtain⟨t0,t1,t2,t3,t4,t5,t6,t7,t8⟩:=X5.out.bF;refine bG rfl (.agg #[int i64 0,int i64 2,int i64 4,int i64 2,slice m11 8 n11,slice m12 8 n12,slice m13 2 n13,slice m14 1 n14,slice m15 0 n15]) (by go_simp) (λV hV=>by go_simp) ?_;go_simp;refine bG rfl .nilIface (by go_simp) (λV hV=>by go_simp) ?_;go_simp;refine fG rfl (((((((((v5.setCell ⟨z,0,none⟩ (int i64 0)).setCell ⟨z,1,none⟩ (int i64 2)).setCell ⟨z,2,none⟩ (int i64 4)).setCell ⟨z,3,none⟩ (int i64 2)).setCell ⟨z,4,none⟩ (slice m11 8 n11)).setCell ⟨z,5,none⟩ (slice m12 8 n12)).setCell ⟨z,6,none⟩ (slice m13 2 n13)).setCell ⟨z,7,none⟩ (slice m14 1 n14)).setCell ⟨z,8,none⟩ (slice m15 0 n15)) (by go_simp) (by go_simp) trivial ?_;go_simp;clear x0 x1 x2 x3 x4 x5 x6 x7 x8 t0 t1 t2 t3 t4 t5 t6 t7 t8;generalize (((((((((v5.setCell ⟨z,0,none⟩ (int i64 0)).setCell ⟨z,1,none⟩ (int i64 2)).setCell ⟨z,2,none⟩ (int i64 4)).setCell ⟨z,3,none⟩ (int i64 2)).setCell ⟨z,4,none⟩ (slice m11 8 n11)).setCell ⟨z,5,none⟩ (slice m12 8 n12)).setCell ⟨z,6,none⟩ (slice m13 2 n13)).setCell ⟨z,7,none⟩ (slice m14 1 n14)).setCell ⟨z,8,none⟩ (slice m15 0 n15))=s1 at *;have BA1:Hid (Below w.heap.size w s1):=KW.out.below B5.out B5.out.size (Nat.le_of_lt HZ.out);have RA1:Hid (Wx s1 w.heap.size (int i64 0) (int i64 0) (int i64 0) (int i64 0) (slice none 0 0) (slice none 0 0) (slice none 0 0) (slice none 0 0) (slice none 0 0)):=R5.out.kp KW.out (Nat.ne_of_lt HZ.out);have OA1:Hid (Ow s1 (w.heap.size+1) (slice m11 8 n11) S1.gs/\Ow s1 (w.heap.size+1) (slice m12 8 n12) S1.os/\Ow s1 (w.heap.size+1) (slice m13 2 n13) S1.gold/\dA s1 (w.heap.size+1) (slice m14 1 n14) S1.us/\bY s1 (w.heap.size+1) (slice m15 0 n15) S1.qs):=⟨dF O5.out.1 KW.out NZ.out.1,dF O5.out.2.1 KW.out NZ.out.2.1,dF O5.out.2.2.1 KW.out NZ.out.2.2.1,dF O5.out.2.2.2.1 KW.out NZ.out.2.2.2.1,dF O5.out.2.2.2.2 KW.out NZ.out.2.2.2.2⟩;clear X5 R5 B5 O5 NZ KW;refine aF rfl .nilIface s1 (by go_simp) (by go_simp) trivial ?_;go_simp;unfold aJ;go_upto_region 4 with fail
  refine aI [(true,1),(false,0),(false,2),(true,3)] [(true,4),(true,5),(false,6),(false,7)] (λV=>Wx V z (int i64 S1.turn) (int i64 S1.next) (int i64 S1.wide) (int i64 S1.high) (slice m11 8 n11) (slice m12 8 n12) (slice m13 2 n13) (slice m14 1 n14) (slice m15 0 n15)) (by kernel_rfl) (by kernel_rfl) (by kernel_rfl) (by decide+kernel) (by decide+kernel) XA1.out.drew ?_;have X1:Hid (Wx {s1 with drawn:=s1.drawn+1} z (int i64 S1.turn) (int i64 S1.next) (int i64 S1.wide) (int i64 S1.high) (slice m11 8 n11) (slice m12 8 n12) (slice m13 2 n13) (slice m14 1 n14) (slice m15 0 n15)):=XA1.out;have R1:Hid (Wx {s1 with drawn:=s1.drawn+1} w.heap.size (int i64 0) (int i64 0) (int i64 0) (int i64 0) (slice none 0 0) (slice none 0 0) (slice none 0 0) (slice none 0 0) (slice none 0 0)):=RA1.out;have B1:Hid (Below w.heap.size w {s1 with drawn:=s1.drawn+1}):=BA1.out.drew;have D1:Hid (Below s1.heap.size s1 {s1 with drawn:=s1.drawn+1}):=(Below.refl _ _).drew;generalize ({s1 with drawn:=s1.drawn+1}:World)=v3 at *;have L1:Hid (Wl v3 (.agg #[int i64 S1.turn,int i64 S1.next,int i64 S1.wide,int i64 S1.high,slice m11 8 n11,slice m12 8 n12,slice m13 2 n13,slice m14 1 n14,slice m15 0 n15]) S1):=⟨_,_,_,_,_,rfl,(OA1.out.1.below D1.out).ro,(OA1.out.2.1.below D1.out).ro,(OA1.out.2.2.1.below D1.out).ro,(OA1.out.2.2.2.1.below D1.out).l,(OA1.out.2.2.2.2.below D1.out).l⟩;clear XA1 RA1 BA1 OA1 D1;refine ay rfl (.agg #[int i64 S1.turn,int i64 S1.next,int i64 S1.wide,int i64 S1.high,slice m11 8 n11,slice m12 8 n12,slice m13 2 n13,slice m14 1 n14,slice m15 0 n15]) (by go_simp) (λV hV=>by obtain⟨x0,x1,x2,x3,x4,x5,x6,x7,x8⟩:=hV.cells;go_simp) ?_;go_simp;refine aQ rfl 22 #[] (by go_simp) (by go_simp) ?_;refine(fA v3).mono ?_;rintro e v4 ⟨ku,rfl,hk,hb⟩;have K4:Hid (Kl v4 ku SK):=hk;have X4:Hid (Wx v4 z (int i64 S1.turn) (int i64 S1.next) (int i64 S1.wide) (int i64 S1.high) (slice m11 8 n11) (slice m12 8 n12) (slice m13 2 n13) (slice m14 1 n14) (slice m15 0 n15)):=X1.out.below hb X1.out.lt;have R4:Hid (Wx v4 w.heap.size (int i64 0) (int i64 0) (int i64 0) (int i64 0) (slice none 0 0) (slice none 0 0) (slice none 0 0) (slice none 0 0) (slice none 0 0)):=R1.out.below hb R1.out.lt;have B4:Hid (Below w.heap.size w v4):=B1.out.trans (hb.mono B1.out.size);have L4:Hid (Wl v4 (.agg #[int i64 S1.turn,int i64 S1.next,int i64 S1.wide,int i64 S1.high,slice m11 8 n11,slice m12 8 n12,slice m13 2 n13,slice m14 1 n14,slice m15 0 n15]) S1):=L1.out.below hb;clear hk hb X1 R1 B1 L1;refine⟨_,rfl,X4.out,?_⟩;go_simp;refine aQ rfl 58 #[ku,.agg #[int i64 S1.turn,int i64 S1.next,int i64 S1.wide,int i64 S1.high,slice m11 8 n11,slice m12 8 n12,slice m13 2 n13,slice m14 1 n14,slice m15 0 n15],int i64 0,int i64 1,int i64 1] (by go_simp) (by go_simp) ?_;refine(kP ku _ SK S1 0 1 1 v4 K4.out dU L4.out).mono ?_;rintro e v5 ⟨u,r,rfl,hr,ho,hb⟩;rw[Qi] at hr;rw[Xy] at ho;obtain rfl:=jI hr;have X5:Hid (Wx v5 z (int i64 S1.turn) (int i64 S1.next) (int i64 S1.wide) (int i64 S1.high) (slice m11 8 n11) (slice m12 8 n12) (slice m13 2 n13) (slice m14 1 n14) (slice m15 0 n15)):=X4.out.below hb X4.out.lt;have R5:Hid (Wx v5 w.heap.size (int i64 0) (int i64 0) (int i64 0) (int i64 0) (slice none 0 0) (slice none 0 0) (slice none 0 0) (slice none 0 0) (slice none 0 0)):=R4.out.below hb R4.out.lt;have B5:Hid (Below w.heap.size w v5):=B4.out.trans (hb.mono B4.out.size);have ZL:Hid (z<v4.heap.size):=X4.out.lt;obtain⟨y1,y2,y3,y4,y5,rfl,o1,o2,o3,o4,o5⟩:=ho;obtain⟨m21,n21,rfl⟩:=o1.len;obtain⟨m22,n22,rfl⟩:=o2.len;obtain⟨m23,n23,rfl⟩:=o3.len;obtain⟨m24,n24,rfl⟩:=o4.len;obtain⟨m25,n25,rfl⟩:=o5.len;obtain⟨g1,g2,g3,g4,g5,g6,g7,g8,g9⟩:=SE;simp only[g5] at o1;simp only[g6] at o2;simp only[g7] at o3;simp only[g8] at o4;simp only[g9] at o5;simp only[g1,g2,g3,g4,g5,g6,g7,g8,g9];clear g1 g2 g3 g4 g5 g6 g7 g8 g9;have NZ:Hid (Nz z (slice m21 8 n21)/\Nz z (slice m22 8 n22)/\Nz z (slice m23 2 n23)/\Nz z (slice m24 2 n24)/\Nz z (slice m25 0 n25)):=⟨λb hb=>by have:=(o1.block b hb).1;have:=ZL.out;omega,λb hb=>by have:=(o2.block b hb).1;have:=ZL.out;omega,λb hb=>by have:=(o3.block b hb).1;have:=ZL.out;omega,λb hb=>by have:=(o4.block b hb).1;have:=ZL.out;omega,λb hb=>by have:=(o5.block b hb).1;have:=ZL.out;omega⟩;have O5:Hid (Ow v5 (w.heap.size+1) (slice m21 8 n21) S2.gs/\Ow v5 (w.heap.size+1) (slice m22 8 n22) S2.os/\Ow v5 (w.heap.size+1) (slice m23 2 n23) S2.gold/\dA v5 (w.heap.size+1) (slice m24 2 n24) S2.us/\bY v5 (w.heap.size+1) (slice m25 0 n25) S2.qs):=⟨o1.mono R4.out.lt,o2.mono R4.out.lt,o3.mono R4.out.lt,o4.mono R4.out.lt,o5.mono R4.out.lt⟩;clear hr hb o1 o2 o3 o4 o5 K4 X4 R4 B4 L4 ZL;refine⟨_,rfl,X5.out,?_⟩;go_simp;refine ay rfl (.tuple #[.agg #[int i64 0,int i64 3,int i64 4,int i64 2,slice m21 8 n21,slice m22 8 n22,slice m23 2 n23,slice m24 2 n24,slice m25 0 n25],.nilIface]) (by go_simp) (λV hV=>by go_simp) ?_;go_simp;unfold aX;have KW:Hid (Kp z v5 (((((((((v5.setCell ⟨z,0,none⟩ (int i64 0)).setCell ⟨z,1,none⟩ (int i64 3)).setCell ⟨z,2,none⟩ (int i64 4)).setCell ⟨z,3,none⟩ (int i64 2)).setCell ⟨z,4,none⟩ (slice m21 8 n21)).setCell ⟨z,5,none⟩ (slice m22 8 n22)).setCell ⟨z,6,none⟩ (slice m23 2 n23)).setCell ⟨z,7,none⟩ (slice m24 2 n24)).setCell ⟨z,8,none⟩ (slice m25 0 n25))):=aN _ _ _ _ _ _ _ _ _ _ _;have XA2:Hid (Wx (((((((((v5.setCell ⟨z,0,none⟩ (int i64 0)).setCell ⟨z,1,none⟩ (int i64 3)).setCell ⟨z,2,none⟩ (int i64 4)).setCell ⟨z,3,none⟩ (int i64 2)).setCell ⟨z,4,none⟩ (slice m21 8 n21)).setCell ⟨z,5,none⟩ (slice m22 8 n22)).setCell ⟨z,6,none⟩ (slice m23 2 n23)).setCell ⟨z,7,none⟩ (slice m24 2 n24)).setCell ⟨z,8,none⟩ (slice m25 0 n25)) z (int i64 0) (int i64 3) (int i64 4) (int i64 2) (slice m21 8 n21) (slice m22 8 n22) (slice m23 2 n23) (slice m24 2 n24) (slice m25 0 n25)):=X5.out.put (int i64 0) (int i64 3) (int i64 4) (int i64 2) (slice m21 8 n21) (slice m22 8 n22) (slice m23 2 n23) (slice m24 2 n24) (slice m25 0 n25);obtain⟨x0,x1,x2,x3,x4,x5,x6,x7,x8⟩:=X5.out.cells;obtain⟨t0,t1,t2,t3,t4,t5,t6,t7,t8⟩:=X5.out.bF;refine bG rfl (.agg #[int i64 0,int i64 3,int i64 4,int i64 2,slice m21 8 n21,slice m22 8 n22,slice m23 2 n23,slice m24 2 n24,slice m25 0 n25]) (by go_simp) (λV hV=>by go_simp) ?_;go_simp;refine bG rfl .nilIface (by go_simp) (λV hV=>by go_simp) ?_;go_simp;refine fG rfl (((((((((v5.setCell ⟨z,0,none⟩ (int i64 0)).setCell ⟨z,1,none⟩ (int i64 3)).setCell ⟨z,2,none⟩ (int i64 4)).setCell ⟨z,3,none⟩ (int i64 2)).setCell ⟨z,4,none⟩ (slice m21 8 n21)).setCell ⟨z,5,none⟩ (slice m22 8 n22)).setCell ⟨z,6,none⟩ (slice m23 2 n23)).setCell ⟨z,7,none⟩ (slice m24 2 n24)).setCell ⟨z,8,none⟩ (slice m25 0 n25)) (by go_simp) (by go_simp) trivial ?_;go_simp;clear x0 x1 x2 x3 x4 x5 x6 x7 x8 t0 t1 t2 t3 t4 t5 t6 t7 t8;generalize (((((((((v5.setCell ⟨z,0,none⟩ (int i64 0)).setCell ⟨z,1,none⟩ (int i64 3)).setCell ⟨z,2,none⟩ (int i64 4)).setCell ⟨z,3,none⟩ (int i64 2)).setCell ⟨z,4,none⟩ (slice m21 8 n21)).setCell ⟨z,5,none⟩ (slice m22 8 n22)).setCell ⟨z,6,none⟩ (slice m23 2 n23)).setCell ⟨z,7,none⟩ (slice m24 2 n24)).setCell ⟨z,8,none⟩ (slice m25 0 n25))=s2 at *;have BA2:Hid (Below w.heap.size w s2):=KW.out.below B5.out B5.out.size (Nat.le_of_lt HZ.out);have RA2:Hid (Wx s2 w.heap.size (int i64 0) (int i64 0) (int i64 0) (int i64 0) (slice none 0 0) (slice none 0 0) (slice none 0 0) (slice none 0 0) (slice none 0 0)):=R5.out.kp KW.out (Nat.ne_of_lt HZ.out);have OA2:Hid (Ow s2 (w.heap.size+1) (slice m21 8 n21) S2.gs/\Ow s2 (w.heap.size+1) (slice m22 8 n22) S2.os/\Ow s2 (w.heap.size+1) (slice m23 2 n23) S2.gold/\dA s2 (w.heap.size+1) (slice m24 2 n24) S2.us/\bY s2 (w.heap.size+1) (slice m25 0 n25) S2.qs):=⟨dF O5.out.1 KW.out NZ.out.1,dF O5.out.2.1 KW.out NZ.out.2.1,dF O5.out.2.2.1 KW.out NZ.out.2.2.1,dF O5.out.2.2.2.1 KW.out NZ.out.2.2.2.1,dF O5.out.2.2.2.2 KW.out NZ.out.2.2.2.2⟩;clear X5 R5 B5 O5 NZ KW;refine aF rfl .nilIface s2 (by go_simp) (by go_simp) trivial ?_;go_simp;unfold aJ;go_upto_region 5 with fail
  refine aI [(true,1),(false,0),(false,2),(true,3)] [(true,4),(true,5),(false,6),(false,7)] (λV=>Wx V z (int i64 S2.turn) (int i64 S2.next) (int i64 S2.wide) (int i64 S2.high) (slice m21 8 n21) (slice m22 8 n22) (slice m23 2 n23) (slice m24 2 n24) (slice m25 0 n25)) (by kernel_rfl) (by kernel_rfl) (by kernel_rfl) (by decide+kernel) (by decide+kernel) XA2.out.drew ?_;have X1:Hid (Wx {s2 with drawn:=s2.drawn+1} z (int i64 S2.turn) (int i64 S2.next) (int i64 S2.wide) (int i64 S2.high) (slice m21 8 n21) (slice m22 8 n22) (slice m23 2 n23) (slice m24 2 n24) (slice m25 0 n25)):=XA2.out;have R1:Hid (Wx {s2 with drawn:=s2.drawn+1} w.heap.size (int i64 0) (int i64 0) (int i64 0) (int i64 0) (slice none 0 0) (slice none 0 0) (slice none 0 0) (slice none 0 0) (slice none 0 0)):=RA2.out;have B1:Hid (Below w.heap.size w {s2 with drawn:=s2.drawn+1}):=BA2.out.drew;have D1:Hid (Below s2.heap.size s2 {s2 with drawn:=s2.drawn+1}):=(Below.refl _ _).drew;generalize ({s2 with drawn:=s2.drawn+1}:World)=v3 at *;have L1:Hid (Wl v3 (.agg #[int i64 S2.turn,int i64 S2.next,int i64 S2.wide,int i64 S2.high,slice m21 8 n21,slice m22 8 n22,slice m23 2 n23,slice m24 2 n24,slice m25 0 n25]) S2):=⟨_,_,_,_,_,rfl,(OA2.out.1.below D1.out).ro,(OA2.out.2.1.below D1.out).ro,(OA2.out.2.2.1.below D1.out).ro,(OA2.out.2.2.2.1.below D1.out).l,(OA2.out.2.2.2.2.below D1.out).l⟩;clear XA2 RA2 BA2 OA2 D1;refine ay rfl (.agg #[int i64 S2.turn,int i64 S2.next,int i64 S2.wide,int i64 S2.high,slice m21 8 n21,slice m22 8 n22,slice m23 2 n23,slice m24 2 n24,slice m25 0 n25]) (by go_simp) (λV hV=>by obtain⟨x0,x1,x2,x3,x4,x5,x6,x7,x8⟩:=hV.cells;go_simp) ?_;go_simp;refine aQ rfl 22 #[] (by go_simp) (by go_simp) ?_;refine(fA v3).mono ?_;rintro e v4 ⟨ku,rfl,hk,hb⟩;have K4:Hid (Kl v4 ku SK):=hk;have X4:Hid (Wx v4 z (int i64 S2.turn) (int i64 S2.next) (int i64 S2.wide) (int i64 S2.high) (slice m21 8 n21) (slice m22 8 n22) (slice m23 2 n23) (slice m24 2 n24) (slice m25 0 n25)):=X1.out.below hb X1.out.lt;have R4:Hid (Wx v4 w.heap.size (int i64 0) (int i64 0) (int i64 0) (int i64 0) (slice none 0 0) (slice none 0 0) (slice none 0 0) (slice none 0 0) (slice none 0 0)):=R1.out.below hb R1.out.lt;have B4:Hid (Below w.heap.size w v4):=B1.out.trans (hb.mono B1.out.size);have L4:Hid (Wl v4 (.agg #[int i64 S2.turn,int i64 S2.next,int i64 S2.wide,int i64 S2.high,slice m21 8 n21,slice m22 8 n22,slice m23 2 n23,slice m24 2 n24,slice m25 0 n25]) S2):=L1.out.below hb;clear hk hb X1 R1 B1 L1;refine⟨_,rfl,X4.out,?_⟩;go_simp;refine aQ rfl 58 #[ku,.agg #[int i64 S2.turn,int i64 S2.next,int i64 S2.wide,int i64 S2.high,slice m21 8 n21,slice m22 8 n22,slice m23 2 n23,slice m24 2 n24,slice m25 0 n25],int i64 1,int i64 2,int i64 3] (by go_simp) (by go_simp) ?_;refine(kP ku _ SK S2 1 2 3 v4 K4.out dU L4.out).mono ?_;rintro e v5 ⟨u,r,rfl,hr,ho,hb⟩;rw[Qj] at hr;rw[Xz] at ho;obtain rfl:=jI hr;have X5:Hid (Wx v5 z (int i64 S2.turn) (int i64 S2.next) (int i64 S2.wide) (int i64 S2.high) (slice m21 8 n21) (slice m22 8 n22) (slice m23 2 n23) (slice m24 2 n24) (slice m25 0 n25)):=X4.out.below hb X4.out.lt;have R5:Hid (Wx v5 w.heap.size (int i64 0) (int i64 0) (int i64 0) (int i64 0) (slice none 0 0) (slice none 0 0) (slice none 0 0) (slice none 0 0) (slice none 0 0)):=R4.out.below hb R4.out.lt;have B5:Hid (Below w.heap.size w v5):=B4.out.trans (hb.mono B4.out.size);have ZL:Hid (z<v4.heap.size):=X4.out.lt;obtain⟨y1,y2,y3,y4,y5,rfl,o1,o2,o3,o4,o5⟩:=ho;obtain⟨m31,n31,rfl⟩:=o1.len;obtain⟨m32,n32,rfl⟩:=o2.len;obtain⟨m33,n33,rfl⟩:=o3.len;obtain⟨m34,n34,rfl⟩:=o4.len;obtain⟨m35,n35,rfl⟩:=o5.len;obtain⟨g1,g2,g3,g4,g5,g6,g7,g8,g9⟩:=Lh;simp only[g5] at o1;simp only[g6] at o2;simp only[g7] at o3;simp only[g8] at o4;simp only[g9] at o5;simp only[g1,g2,g3,g4,g5,g6,g7,g8,g9];clear g1 g2 g3 g4 g5 g6 g7 g8 g9;have NZ:Hid (Nz z (slice m31 8 n31)/\Nz z (slice m32 8 n32)/\Nz z (slice m33 2 n33)/\Nz z (slice m34 3 n34)/\Nz z (slice m35 0 n35)):=⟨λb hb=>by have:=(o1.block b hb).1;have:=ZL.out;omega,λb hb=>by have:=(o2.block b hb).1;have:=ZL.out;omega,λb hb=>by have:=(o3.block b hb).1;have:=ZL.out;omega,λb hb=>by have:=(o4.block b hb).1;have:=ZL.out;omega,λb hb=>by have:=(o5.block b hb).1;have:=ZL.out;omega⟩;have O5:Hid (Ow v5 (w.heap.size+1) (slice m31 8 n31) S3.gs/\Ow v5 (w.heap.size+1) (slice m32 8 n32) S3.os/\Ow v5 (w.heap.size+1) (slice m33 2 n33) S3.gold/\dA v5 (w.heap.size+1) (slice m34 3 n34) S3.us/\bY v5 (w.heap.size+1) (slice m35 0 n35) S3.qs):=⟨o1.mono R4.out.lt,o2.mono R4.out.lt,o3.mono R4.out.lt,o4.mono R4.out.lt,o5.mono R4.out.lt⟩;clear hr hb o1 o2 o3 o4 o5 K4 X4 R4 B4 L4 ZL;refine⟨_,rfl,X5.out,?_⟩;go_simp;refine ay rfl (.tuple #[.agg #[int i64 0,int i64 4,int i64 4,int i64 2,slice m31 8 n31,slice m32 8 n32,slice m33 2 n33,slice m34 3 n34,slice m35 0 n35],.nilIface]) (by go_simp) (λV hV=>by go_simp) ?_;go_simp;unfold aX;have KW:Hid (Kp z v5 (((((((((v5.setCell ⟨z,0,none⟩ (int i64 0)).setCell ⟨z,1,none⟩ (int i64 4)).setCell ⟨z,2,none⟩ (int i64 4)).setCell ⟨z,3,none⟩ (int i64 2)).setCell ⟨z,4,none⟩ (slice m31 8 n31)).setCell ⟨z,5,none⟩ (slice m32 8 n32)).setCell ⟨z,6,none⟩ (slice m33 2 n33)).setCell ⟨z,7,none⟩ (slice m34 3 n34)).setCell ⟨z,8,none⟩ (slice m35 0 n35))):=aN _ _ _ _ _ _ _ _ _ _ _;have XA3:Hid (Wx (((((((((v5.setCell ⟨z,0,none⟩ (int i64 0)).setCell ⟨z,1,none⟩ (int i64 4)).setCell ⟨z,2,none⟩ (int i64 4)).setCell ⟨z,3,none⟩ (int i64 2)).setCell ⟨z,4,none⟩ (slice m31 8 n31)).setCell ⟨z,5,none⟩ (slice m32 8 n32)).setCell ⟨z,6,none⟩ (slice m33 2 n33)).setCell ⟨z,7,none⟩ (slice m34 3 n34)).setCell ⟨z,8,none⟩ (slice m35 0 n35)) z (int i64 0) (int i64 4) (int i64 4) (int i64 2) (slice m31 8 n31) (slice m32 8 n32) (slice m33 2 n33) (slice m34 3 n34) (slice m35 0 n35)):=X5.out.put (int i64 0) (int i64 4) (int i64 4) (int i64 2) (slice m31 8 n31) (slice m32 8 n32) (slice m33 2 n33) (slice m34 3 n34) (slice m35 0 n35);obtain⟨x0,x1,x2,x3,x4,x5,x6,x7,x8⟩:=X5.out.cells;obtain⟨t0,t1,t2,t3,t4,t5,t6,t7,t8⟩:=X5.out.bF;refine bG rfl (.agg #[int i64 0,int i64 4,int i64 4,int i64 2,slice m31 8 n31,slice m32 8 n32,slice m33 2 n33,slice m34 3 n34,slice m35 0 n35]) (by go_simp) (λV hV=>by go_simp) ?_;go_simp;refine bG rfl .nilIface (by go_simp) (λV hV=>by go_simp) ?_;go_simp;refine fG rfl (((((((((v5.setCell ⟨z,0,none⟩ (int i64 0)).setCell ⟨z,1,none⟩ (int i64 4)).setCell ⟨z,2,none⟩ (int i64 4)).setCell ⟨z,3,none⟩ (int i64 2)).setCell ⟨z,4,none⟩ (slice m31 8 n31)).setCell ⟨z,5,none⟩ (slice m32 8 n32)).setCell ⟨z,6,none⟩ (slice m33 2 n33)).setCell ⟨z,7,none⟩ (slice m34 3 n34)).setCell ⟨z,8,none⟩ (slice m35 0 n35)) (by go_simp) (by go_simp) trivial ?_;go_simp;clear x0 x1 x2 x3 x4 x5 x6 x7 x8 t0 t1 t2 t3 t4 t5 t6 t7 t8;generalize (((((((((v5.setCell ⟨z,0,none⟩ (int i64 0)).setCell ⟨z,1,none⟩ (int i64 4)).setCell ⟨z,2,none⟩ (int i64 4)).setCell ⟨z,3,none⟩ (int i64 2)).setCell ⟨z,4,none⟩ (slice m31 8 n31)).setCell ⟨z,5,none⟩ (slice m32 8 n32)).setCell ⟨z,6,none⟩ (slice m33 2 n33)).setCell ⟨z,7,none⟩ (slice m34 3 n34)).setCell ⟨z,8,none⟩ (slice m35 0 n35))=s3 at *;have BA3:Hid (Below w.heap.size w s3):=KW.out.below B5.out B5.out.size (Nat.le_of_lt HZ.out);have RA3:Hid (Wx s3 w.heap.size (int i64 0) (int i64 0) (int i64 0) (int i64 0) (slice none 0 0) (slice none 0 0) (slice none 0 0) (slice none 0 0) (slice none 0 0)):=R5.out.kp KW.out (Nat.ne_of_lt HZ.out);have OA3:Hid (Ow s3 (w.heap.size+1) (slice m31 8 n31) S3.gs/\Ow s3 (w.heap.size+1) (slice m32 8 n32) S3.os/\Ow s3 (w.heap.size+1) (slice m33 2 n33) S3.gold/\dA s3 (w.heap.size+1) (slice m34 3 n34) S3.us/\bY s3 (w.heap.size+1) (slice m35 0 n35) S3.qs):=⟨dF O5.out.1 KW.out NZ.out.1,dF O5.out.2.1 KW.out NZ.out.2.1,dF O5.out.2.2.1 KW.out NZ.out.2.2.1,dF O5.out.2.2.2.1 KW.out NZ.out.2.2.2.1,dF O5.out.2.2.2.2 KW.out NZ.out.2.2.2.2⟩;clear X5 R5 B5 O5 NZ KW;refine aF rfl .nilIface s3 (by go_simp) (by go_simp) trivial ?_;go_simp;unfold aJ;go_upto_region 6 with fail
  refine aI [(true,0),(true,1),(true,2),(true,3),(true,4),(true,5),(true,6),(true,7),(true,8),(true,9),(true,10),(true,11),(true,12),(true,13),(true,14),(true,15),(true,16),(true,17),(true,18),(true,19),(true,20),(true,21),(true,22),(true,23),(true,24),(true,25),(true,26),(true,27),(true,28),(true,29),(true,30),(false,31)] [(false,32)] (λV=>Wx V z (int i64 0) (int i64 4) (int i64 4) (int i64 2) (slice m31 8 n31) (slice m32 8 n32) (slice m33 2 n33) (slice m34 3 n34) (slice m35 0 n35)) (by kernel_rfl) (by kernel_rfl) (by kernel_rfl) (by decide+kernel) (by decide+kernel) XA3.out.drew ?_;have X1:Hid (Wx {s3 with drawn:=s3.drawn+1} z (int i64 0) (int i64 4) (int i64 4) (int i64 2) (slice m31 8 n31) (slice m32 8 n32) (slice m33 2 n33) (slice m34 3 n34) (slice m35 0 n35)):=XA3.out;have R1:Hid (Wx {s3 with drawn:=s3.drawn+1} w.heap.size (int i64 0) (int i64 0) (int i64 0) (int i64 0) (slice none 0 0) (slice none 0 0) (slice none 0 0) (slice none 0 0) (slice none 0 0)):=RA3.out;have B1:Hid (Below w.heap.size w {s3 with drawn:=s3.drawn+1}):=BA3.out.drew;have D1:Hid (Below s3.heap.size s3 {s3 with drawn:=s3.drawn+1}):=(Below.refl _ _).drew;generalize ({s3 with drawn:=s3.drawn+1}:World)=v3 at *;have O1:Hid (Ow v3 (w.heap.size+1) (slice m31 8 n31) S3.gs/\Ow v3 (w.heap.size+1) (slice m32 8 n32) S3.os/\Ow v3 (w.heap.size+1) (slice m33 2 n33) S3.gold/\dA v3 (w.heap.size+1) (slice m34 3 n34) S3.us/\bY v3 (w.heap.size+1) (slice m35 0 n35) S3.qs):=⟨OA3.out.1.below D1.out,OA3.out.2.1.below D1.out,OA3.out.2.2.1.below D1.out,OA3.out.2.2.2.1.below D1.out,OA3.out.2.2.2.2.below D1.out⟩;clear XA3 RA3 BA3 OA3 D1;refine ay rfl (.agg #[int i64 0,int i64 4,int i64 4,int i64 2,slice m31 8 n31,slice m32 8 n32,slice m33 2 n33,slice m34 3 n34,slice m35 0 n35]) (by go_simp) (λV hV=>by obtain⟨x0,x1,x2,x3,x4,x5,x6,x7,x8⟩:=hV.cells;go_simp) ?_;go_simp;refine ay rfl (.nilIface) (by go_simp) (λV hV=>by go_simp) ?_;go_simp;refine ay rfl (.bool true) (by go_simp) (λV hV=>by go_simp) ?_;go_simp;refine ay rfl (.bool true) (by go_simp) (λV hV=>by go_simp) ?_;go_simp;refine ay rfl (.nilIface) (by go_simp) (λV hV=>by go_simp) ?_;go_simp;refine ay rfl (.bool true) (by go_simp) (λV hV=>by go_simp) ?_;go_simp;refine ay rfl (.bool true) (by go_simp) (λV hV=>by go_simp) ?_;go_simp;refine ay rfl (.bool true) (by go_simp) (λV hV=>by go_simp) ?_;go_simp;refine ay rfl (.nilIface) (by go_simp) (λV hV=>by go_simp) ?_;go_simp;refine ay rfl (.bool true) (by go_simp) (λV hV=>by go_simp) ?_;go_simp;refine ay rfl (.bool true) (by go_simp) (λV hV=>by go_simp) ?_;go_simp;refine ay rfl (.bool true) (by go_simp) (λV hV=>by go_simp) ?_;go_simp;refine ay rfl (.nilIface) (by go_simp) (λV hV=>by go_simp) ?_;go_simp;refine ay rfl (.bool true) (by go_simp) (λV hV=>by go_simp) ?_;go_simp;refine ay rfl (.bool true) (by go_simp) (λV hV=>by go_simp) ?_;go_simp;refine ay rfl (.bool true) (by go_simp) (λV hV=>by go_simp) ?_;go_simp;refine ay rfl (.nilIface) (by go_simp) (λV hV=>by go_simp) ?_;go_simp;refine ay rfl (.bool true) (by go_simp) (λV hV=>by go_simp) ?_;go_simp;refine ay rfl (.bool true) (by go_simp) (λV hV=>by go_simp) ?_;go_simp;refine ay rfl (.bool true) (by go_simp) (λV hV=>by go_simp) ?_;go_simp;refine ay rfl (.pointer (some ⟨z,7,none⟩)) (by go_simp) (λV hV=>by go_simp) ?_;go_simp;refine ay rfl (slice m34 3 n34) (by go_simp) (λV hV=>by obtain⟨x0,x1,x2,x3,x4,x5,x6,x7,x8⟩:=hV.cells;go_simp) ?_;go_simp;refine ay rfl (int i64 3) (by go_simp) (λV hV=>by go_simp) ?_;go_simp;refine ay rfl (.bool true) (by go_simp) (λV hV=>by go_simp) ?_;go_simp;refine ay rfl (.bool true) (by go_simp) (λV hV=>by go_simp) ?_;go_simp;refine ay rfl (.bool true) (by go_simp) (λV hV=>by go_simp) ?_;go_simp;refine ay rfl (.pointer (some ⟨z,6,none⟩)) (by go_simp) (λV hV=>by go_simp) ?_;go_simp;refine ay rfl (slice m33 2 n33) (by go_simp) (λV hV=>by obtain⟨x0,x1,x2,x3,x4,x5,x6,x7,x8⟩:=hV.cells;go_simp) ?_;go_simp;refine ay rfl (int i64 2) (by go_simp) (λV hV=>by go_simp) ?_;go_simp;refine ay rfl (.bool true) (by go_simp) (λV hV=>by go_simp) ?_;go_simp;refine ay rfl (.bool true) (by go_simp) (λV hV=>by go_simp) ?_;go_simp;have KW:Hid (Kp w.heap.size v3 (((((((((v3.setCell ⟨w.heap.size,0,none⟩ (int i64 0)).setCell ⟨w.heap.size,1,none⟩ (int i64 4)).setCell ⟨w.heap.size,2,none⟩ (int i64 4)).setCell ⟨w.heap.size,3,none⟩ (int i64 2)).setCell ⟨w.heap.size,4,none⟩ (slice m31 8 n31)).setCell ⟨w.heap.size,5,none⟩ (slice m32 8 n32)).setCell ⟨w.heap.size,6,none⟩ (slice m33 2 n33)).setCell ⟨w.heap.size,7,none⟩ (slice m34 3 n34)).setCell ⟨w.heap.size,8,none⟩ (slice m35 0 n35))):=aN _ _ _ _ _ _ _ _ _ _ _;have XF:Hid (Wx (((((((((v3.setCell ⟨w.heap.size,0,none⟩ (int i64 0)).setCell ⟨w.heap.size,1,none⟩ (int i64 4)).setCell ⟨w.heap.size,2,none⟩ (int i64 4)).setCell ⟨w.heap.size,3,none⟩ (int i64 2)).setCell ⟨w.heap.size,4,none⟩ (slice m31 8 n31)).setCell ⟨w.heap.size,5,none⟩ (slice m32 8 n32)).setCell ⟨w.heap.size,6,none⟩ (slice m33 2 n33)).setCell ⟨w.heap.size,7,none⟩ (slice m34 3 n34)).setCell ⟨w.heap.size,8,none⟩ (slice m35 0 n35)) w.heap.size (int i64 0) (int i64 4) (int i64 4) (int i64 2) (slice m31 8 n31) (slice m32 8 n32) (slice m33 2 n33) (slice m34 3 n34) (slice m35 0 n35)):=R1.out.put (int i64 0) (int i64 4) (int i64 4) (int i64 2) (slice m31 8 n31) (slice m32 8 n32) (slice m33 2 n33) (slice m34 3 n34) (slice m35 0 n35);obtain⟨x0,x1,x2,x3,x4,x5,x6,x7,x8⟩:=R1.out.cells;obtain⟨t0,t1,t2,t3,t4,t5,t6,t7,t8⟩:=R1.out.bF;refine gV rfl (((((((((v3.setCell ⟨w.heap.size,0,none⟩ (int i64 0)).setCell ⟨w.heap.size,1,none⟩ (int i64 4)).setCell ⟨w.heap.size,2,none⟩ (int i64 4)).setCell ⟨w.heap.size,3,none⟩ (int i64 2)).setCell ⟨w.heap.size,4,none⟩ (slice m31 8 n31)).setCell ⟨w.heap.size,5,none⟩ (slice m32 8 n32)).setCell ⟨w.heap.size,6,none⟩ (slice m33 2 n33)).setCell ⟨w.heap.size,7,none⟩ (slice m34 3 n34)).setCell ⟨w.heap.size,8,none⟩ (slice m35 0 n35)) (by go_simp) (by go_simp) (X1.out.kp KW.out (Nat.ne_of_gt HZ.out)) ?_;go_simp;clear x0 x1 x2 x3 x4 x5 x6 x7 x8 t0 t1 t2 t3 t4 t5 t6 t7 t8;generalize (((((((((v3.setCell ⟨w.heap.size,0,none⟩ (int i64 0)).setCell ⟨w.heap.size,1,none⟩ (int i64 4)).setCell ⟨w.heap.size,2,none⟩ (int i64 4)).setCell ⟨w.heap.size,3,none⟩ (int i64 2)).setCell ⟨w.heap.size,4,none⟩ (slice m31 8 n31)).setCell ⟨w.heap.size,5,none⟩ (slice m32 8 n32)).setCell ⟨w.heap.size,6,none⟩ (slice m33 2 n33)).setCell ⟨w.heap.size,7,none⟩ (slice m34 3 n34)).setCell ⟨w.heap.size,8,none⟩ (slice m35 0 n35))=v4 at *;unfold aX;refine aF rfl (.bool true) v4 (by go_simp) (by go_simp) trivial ?_;go_simp;unfold aJ;obtain⟨y0,y1,y2,y3,y4,y5,y6,y7,y8⟩:=XF.out.cells;go_wp2;refine bodyPost_ret (v:=.tuple #[.agg #[int i64 0,int i64 4,int i64 4,int i64 2,slice m31 8 n31,slice m32 8 n32,slice m33 2 n33,slice m34 3 n34,slice m35 0 n35],.bool true]) (by simp[results,Tryz.results21,go_sem,y0,y1,y2,y3,y4,y5,y6,y7,y8]) rfl ⟨_,rfl,⟨_,_,_,_,_,rfl,Ow.mono (gZ O1.out.1 KW.out (by omega)) (by omega),Ow.mono (gZ O1.out.2.1 KW.out (by omega)) (by omega),Ow.mono (gZ O1.out.2.2.1 KW.out (by omega)) (by omega),dA.mono (gZ O1.out.2.2.2.1 KW.out (by omega)) (by omega),bY.mono (gZ O1.out.2.2.2.2 KW.out (by omega)) (by omega)⟩,KW.out.below B1.out B1.out.size (Nat.le_refl _)⟩
theorem Lm(vk vw:Value)(ks:List KV)(X:WV)(w:World)(hk:Kl w vk ks)(hb:∀k∈ks,k.b.size<=9223372036854775807)(hw:Wl w vw X)(h0:Wd.aG ks X=0):
 Calls Tryz.prog 23 #[vk,vw] w λe w'=>e=.returned (.bool true)/\Below w.heap.size w w':=by
 have H:Hid (Wl w vw X/\Kl w vk ks/\(∀k∈ks,k.b.size<=9223372036854775807)/\Wd.aG ks X=0):=⟨hw,hk,hb,h0⟩;obtain⟨p1,q1,p2,q2,p3,q3,p4,q4,p5,q5,rfl⟩:=aP hw;clear hk hb hw h0;go_enter Tryz.func23,Tryz.ntmps23;go_upto_region 1 with fail
 have B0:Hid (Below w.heap.size w (w.alloc (Obj.cells #[int i64 X.turn,int i64 X.next,int i64 X.wide,int i64 X.high,slice p1 X.gs.length q1,slice p2 X.os.length q2,slice p3 X.gold.length q3,slice p4 X.us.length q4,slice p5 X.qs.length q5] 29))):=(Below.refl _ _).alloc (Nat.le_refl _) _;have X0:Hid (Bw (w.alloc (Obj.cells #[int i64 X.turn,int i64 X.next,int i64 X.wide,int i64 X.high,slice p1 X.gs.length q1,slice p2 X.os.length q2,slice p3 X.gold.length q3,slice p4 X.us.length q4,slice p5 X.qs.length q5] 29)) w.heap.size X (slice p1 X.gs.length q1) (slice p2 X.os.length q2) (slice p3 X.gold.length q3) (slice p4 X.us.length q4) (slice p5 X.qs.length q5)):=Bw.mk' X _ _ _ _ _ rfl;generalize (w.alloc (Obj.cells #[int i64 X.turn,int i64 X.next,int i64 X.wide,int i64 X.high,slice p1 X.gs.length q1,slice p2 X.os.length q2,slice p3 X.gold.length q3,slice p4 X.us.length q4,slice p5 X.qs.length q5] 29))=w0 at *;obtain⟨x0,x1,x2,x3,x4,x5,x6,x7,x8⟩:=X0.out;go_wp2_with fail
 refine(fE _ _ ks X w0 (H.out.2.1.below B0.out) H.out.2.2.1 (H.out.1.below B0.out)).mono ?_;rintro e w1 ⟨r,rfl,hr,hb⟩;rw[H.out.2.2.2] at hr;obtain rfl:=jI hr;have B1:Hid (Below w.heap.size w w1):=B0.out.trans (hb.mono B0.out.size);clear hb hr x0 x1 x2 x3 x4 x5 x6 x7 x8;go_wp2;go_ret;exact⟨rfl,B1.out⟩
def SF:WV:=⟨0,4,4,2,SG,SO,[100,100],[⟨1,0,0,0,50,0,0,0⟩,⟨2,0,1,1,10,0,0,0⟩,⟨3,1,2,2,20,0,0,0⟩],[]⟩
open Go.ChangeAt Go.ChangeShapes Go.WideShapes
theorem Lp{H:Type}:∀d:DataW H,1<=Rows.uptoBulk d
 | .lit (.string bytes)=>by simp[Rows.uptoBulk]
 | .lit (.int _ _)=>by simp[Rows.uptoBulk]
 | .lit (.bool _)=>by simp[Rows.uptoBulk]
 | .lit (.float .f32 _)=>by simp[Rows.uptoBulk]
 | .lit (.float .f64 _)=>by simp[Rows.uptoBulk]
 | .lit .nil=>by simp[Rows.uptoBulk]
 | .nil=>by simp[Rows.uptoBulk]
 | .ptr d=>by simp[Rows.uptoBulk]
 | .slice _ _=>by simp[Rows.uptoBulk]
 | .agg _=>by simp[Rows.uptoBulk]
 | .iface _ _=>by simp[Rows.uptoBulk]
 | .map _=>by simp[Rows.uptoBulk]
 | .held _=>by simp[Rows.uptoBulk]
theorem xH{H:Type}:∀ds:List (DataW H),ds.length<=Rows.uptoBulkAll ds
 |[]=>by simp
 |d::ds=>by
  have h1:=Lp d;have h2:=xH ds;simp only[Rows.uptoBulkAll,List.length_cons];omega
theorem lQ{H:Type}(es sp:List (DataW H)):es.length<=Rows.uptoBulk (.slice es sp):=by
 have:=xH es;simp only[Rows.uptoBulk];omega
theorem in64_of_wf{n:Int}(h:(Lit.int i64 n).wf=true):Wd.In64 n:=by
 unfold Wd.In64;simp only[Lit.wf,Bool.and_eq_true,decide_eq_true_eq] at h;have h1:IntKind.i64.min= -9223372036854775808:=by decide
 have h2:IntKind.i64.max=9223372036854775807:=by decide
 omega
theorem lS{H:Type}{enc:TypeId×Value->H}{W:World}{base:Nat}{held:Bool}{fuel:Nat}{v:Value}{y:DataW H×List MemPlace}(h:DataW.trod enc Tryz.prog W base (λ_=>true) held fuel 23 [v]=some y):
 ∃zs,Ro W v zs/\(∀n∈zs,Wd.In64 n)/\zs.length<=Rows.uptoBulk y.1:=by
 rcases open_ints Tryz.underlying23 Tryz.underlying3 (by kernel_rfl) h with⟨hcs,rfl⟩|⟨x,l,c,zs,hcs,_,hl,hm,hz,rfl,hcell,hwz⟩
 ·simp at hcs
  subst hcs;exact⟨_,zZ.ro (.inl ⟨rfl,rfl,rfl,rfl⟩),by simp,by simp⟩
 ·simp at hcs
  subst hcs;refine⟨_,zZ.ro (zs:=zs) (.inr ⟨_,rfl,hl,hm,by simpa using hz,hcell,hwz⟩),λn hn=>in64_of_wf (hwz n (List.mem_of_mem_take hn)),?_⟩;have:=lQ (H:=H) (lits .i64 (zs.take l)) (lits .i64 (zs.drop l));simpa[lits] using this
theorem PE:∃f0 f1 f2 f3 f4 f5 f6 f7:Field,Tryz.prog.underlying 60=some (.struct #[f0,f1,f2,f3,f4,f5,f6,f7])/\f0.offset=0/\f0.type=3/\f1.offset=1/\f1.type=3/\f2.offset=2/\f2.type=3/\f3.offset=3/\f3.type=3/\f4.offset=4/\f4.type=3/\f5.offset=5/\f5.type=3/\f6.offset=6/\f6.type=3/\f7.offset=7/\f7.type=3:=⟨_,_,_,_,_,_,_,_,Tryz.underlying60,rfl,rfl,rfl,rfl,rfl,rfl,rfl,rfl,rfl,rfl,rfl,rfl,rfl,rfl,rfl,rfl⟩
theorem Fv{H:Type}{enc:TypeId×Value->H}{W:World}{base:Nat}{held:Bool}{fuel:Nat}{cs:List Value}{y:DataW H×List MemPlace}(h:DataW.trod enc Tryz.prog W base (λ_=>true) held fuel 60 cs=some y):
 ∃k:aC,cs=[.int .i64 k.id,.int .i64 k.aA,.int .i64 k.kind,.int .i64 k.at_,.int .i64 k.life,.int .i64 k.load,.int .i64 k.task,.int .i64 k.goal]/\∀n∈Wd.uY k,Wd.In64 n:=by
 obtain⟨f0,f1,f2,f3,f4,f5,f6,f7,he,o0,t0,o1,t1,o2,t2,o3,t3,o4,t4,o5,t5,o6,t6,o7,t7⟩:=PE;obtain⟨xs,m,-,-,hlen,hxl,hf⟩:=DataW.trod_struct he h;have qR:Tryz.prog.cellsOf 3=1:=by kernel_rfl
 have xI:Tryz.prog.cellsOf 60=8:=by kernel_rfl
 rw[xI] at hlen
 match cs,hlen with
 |[v0,v1,v2,v3,v4,v5,v6,v7],_=>
  have hx:xs.length=8:=hxl
  match xs,hx with
  |[x0,x1,x2,x3,x4,x5,x6,x7],_=>
   have g0:=hf 0 f0 rfl;rw[o0,t0,qR] at g0;have g1:=hf 1 f1 rfl;rw[o1,t1,qR] at g1;have g2:=hf 2 f2 rfl;rw[o2,t2,qR] at g2;have g3:=hf 3 f3 rfl;rw[o3,t3,qR] at g3;have g4:=hf 4 f4 rfl;rw[o4,t4,qR] at g4;have g5:=hf 5 f5 rfl;rw[o5,t5,qR] at g5;have g6:=hf 6 f6 rfl;rw[o6,t6,qR] at g6;have g7:=hf 7 f7 rfl;rw[o7,t7,qR] at g7;obtain⟨m0,e0,-,w0⟩:=DataW.trod_int Tryz.underlying3 g0;obtain⟨m1,e1,-,w1⟩:=DataW.trod_int Tryz.underlying3 g1;obtain⟨m2,e2,-,w2⟩:=DataW.trod_int Tryz.underlying3 g2;obtain⟨m3,e3,-,w3⟩:=DataW.trod_int Tryz.underlying3 g3;obtain⟨m4,e4,-,w4⟩:=DataW.trod_int Tryz.underlying3 g4;obtain⟨m5,e5,-,w5⟩:=DataW.trod_int Tryz.underlying3 g5;obtain⟨m6,e6,-,w6⟩:=DataW.trod_int Tryz.underlying3 g6;obtain⟨m7,e7,-,w7⟩:=DataW.trod_int Tryz.underlying3 g7;simp at e0 e1 e2 e3 e4 e5 e6 e7;subst e0 e1 e2 e3 e4 e5 e6 e7;refine⟨⟨m0,m1,m2,m3,m4,m5,m6,m7⟩,rfl,?_⟩;intro n hn;simp only[Wd.uY,List.mem_cons,List.not_mem_nil,or_false] at hn;rcases hn with rfl|rfl|rfl|rfl|rfl|rfl|rfl|rfl
   ·exact in64_of_wf w0
   ·exact in64_of_wf w1
   ·exact in64_of_wf w2
   ·exact in64_of_wf w3
   ·exact in64_of_wf w4
   ·exact in64_of_wf w5
   ·exact in64_of_wf w6
   ·exact in64_of_wf w7
theorem zS{H:Type}{enc:TypeId×Value->H}{W:World}{base:Nat}{held:Bool}{fuel:Nat}{v:Value}{y:DataW H×List MemPlace}(h:DataW.trod enc Tryz.prog W base (λ_=>true) held fuel 26 [v]=some y):
 ∃ks:List aC,jK W v ks/\(∀k∈ks,∀n∈Wd.uY k,Wd.In64 n)/\ks.length<=Rows.uptoBulk y.1:=by
 have xI:Tryz.prog.cellsOf 60=8:=by kernel_rfl
 rcases Go.Deep.open_slice Tryz.underlying26 h with⟨hcs,-⟩|⟨a,len,cap,m,q,D,Pl,hcs,hb,hl,hm,hmm,rfl,hx⟩
 ·simp at hcs
  subst hcs;exact⟨[],⟨none,0,rfl,Nat.le_refl _,by omega,λh=>absurd rfl h⟩,by simp,by simp⟩
 ·simp at hcs
  subst hcs;have hlm:len<=m:=by rw[hmm];simp;exact hl
  have each:∀i,i<len->∃k:aC,dO W (a.add (i*8)) k/\(∀n∈Wd.uY k,Wd.In64 n):=by
   intro i hi;obtain⟨cs',h1,h2⟩:=hx i (by omega);obtain⟨k,rfl,hk⟩:=Fv h2;rw[xI] at h1;obtain⟨-,-,hcell⟩:=World.cells?_some h1;refine⟨k,?_,hk⟩;generalize a.add (i*8)=y at *;exact⟨hcell 0 (by decide),hcell 1 (by decide),hcell 2 (by decide),hcell 3 (by decide),hcell 4 (by decide),hcell 5 (by decide),hcell 6 (by decide),hcell 7 (by decide)⟩
  have inh:Inhabited aC:=⟨⟨0,0,0,0,0,0,0,0⟩⟩;obtain⟨q,hq⟩:=Go.Deep.choose_lt each;refine⟨(List.range len).map q,⟨some a,cap,by simp,by simpa using hl,by unfold maxLen at hm;omega,λhn=>⟨a,rfl,?_,λi k hk=>?_⟩⟩,?_,?_⟩
  ·have h0:0<len:=by
    rcases Nat.eq_zero_or_pos len with h|h
    ·subst h;simp at hn
    ·exact h
   have:=(hq 0 h0).1.lt;rwa[add_block] at this
  ·have hi:i<len:=by
    have:=(List.getElem?_eq_some_iff.1 hk).1;simpa using this
   rw[List.getElem?_map,List.getElem?_range hi] at hk;injection hk with hk
   subst hk;exact(hq i hi).1
  ·intro k hk
   obtain⟨i,hi,rfl⟩:=List.mem_map.1 hk;exact(hq i (List.mem_range.1 hi)).2
  ·have:=lQ ((List.range len).map D) ((List.range (m-len)).map λj=>D (len+j))
   simpa using this
theorem PG:∃f0 f1 f2 f3:Field,Tryz.prog.underlying 87=some (.struct #[f0,f1,f2,f3])/\f0.offset=0/\f0.type=3/\f1.offset=1/\f1.type=3/\f2.offset=2/\f2.type=3/\f3.offset=3/\f3.type=3:=⟨_,_,_,_,Tryz.underlying87,rfl,rfl,rfl,rfl,rfl,rfl,rfl,rfl⟩
theorem Fz{H:Type}{enc:TypeId×Value->H}{W:World}{base:Nat}{held:Bool}{fuel:Nat}{cs:List Value}{y:DataW H×List MemPlace}(h:DataW.trod enc Tryz.prog W base (λ_=>true) held fuel 87 cs=some y):
 ∃k:aV,cs=[.int .i64 k.aA,.int .i64 k.unit,.int .i64 k.kind,.int .i64 k.left]/\∀n∈Wd.uZ k,Wd.In64 n:=by
 obtain⟨f0,f1,f2,f3,he,o0,t0,o1,t1,o2,t2,o3,t3⟩:=PG;obtain⟨xs,m,-,-,hlen,hxl,hf⟩:=DataW.trod_struct he h;have qR:Tryz.prog.cellsOf 3=1:=by kernel_rfl
 have xI:Tryz.prog.cellsOf 87=4:=by kernel_rfl
 rw[xI] at hlen
 match cs,hlen with
 |[v0,v1,v2,v3],_=>
  have hx:xs.length=4:=hxl
  match xs,hx with
  |[x0,x1,x2,x3],_=>
   have g0:=hf 0 f0 rfl;rw[o0,t0,qR] at g0;have g1:=hf 1 f1 rfl;rw[o1,t1,qR] at g1;have g2:=hf 2 f2 rfl;rw[o2,t2,qR] at g2;have g3:=hf 3 f3 rfl;rw[o3,t3,qR] at g3;obtain⟨m0,e0,-,w0⟩:=DataW.trod_int Tryz.underlying3 g0;obtain⟨m1,e1,-,w1⟩:=DataW.trod_int Tryz.underlying3 g1;obtain⟨m2,e2,-,w2⟩:=DataW.trod_int Tryz.underlying3 g2;obtain⟨m3,e3,-,w3⟩:=DataW.trod_int Tryz.underlying3 g3;simp at e0 e1 e2 e3;subst e0 e1 e2 e3;refine⟨⟨m0,m1,m2,m3⟩,rfl,?_⟩;intro n hn;simp only[Wd.uZ,List.mem_cons,List.not_mem_nil,or_false] at hn;rcases hn with rfl|rfl|rfl|rfl
   ·exact in64_of_wf w0
   ·exact in64_of_wf w1
   ·exact in64_of_wf w2
   ·exact in64_of_wf w3
theorem zT{H:Type}{enc:TypeId×Value->H}{W:World}{base:Nat}{held:Bool}{fuel:Nat}{v:Value}{y:DataW H×List MemPlace}(h:DataW.trod enc Tryz.prog W base (λ_=>true) held fuel 27 [v]=some y):
 ∃ks:List aV,FP W v ks/\(∀k∈ks,∀n∈Wd.uZ k,Wd.In64 n)/\ks.length<=Rows.uptoBulk y.1:=by
 have xI:Tryz.prog.cellsOf 87=4:=by kernel_rfl
 rcases Go.Deep.open_slice Tryz.underlying27 h with⟨hcs,-⟩|⟨a,len,cap,m,q,D,Pl,hcs,hb,hl,hm,hmm,rfl,hx⟩
 ·simp at hcs
  subst hcs;exact⟨[],⟨none,0,rfl,Nat.le_refl _,by omega,λh=>absurd rfl h⟩,by simp,by simp⟩
 ·simp at hcs
  subst hcs;have hlm:len<=m:=by rw[hmm];simp;exact hl
  have each:∀i,i<len->∃k:aV,jP W (a.add (i*4)) k/\(∀n∈Wd.uZ k,Wd.In64 n):=by
   intro i hi;obtain⟨cs',h1,h2⟩:=hx i (by omega);obtain⟨k,rfl,hk⟩:=Fz h2;rw[xI] at h1;obtain⟨-,-,hcell⟩:=World.cells?_some h1;refine⟨k,?_,hk⟩;generalize a.add (i*4)=y at *;exact⟨hcell 0 (by decide),hcell 1 (by decide),hcell 2 (by decide),hcell 3 (by decide)⟩
  have inh:Inhabited aV:=⟨⟨0,0,0,0⟩⟩;obtain⟨q,hq⟩:=Go.Deep.choose_lt each;refine⟨(List.range len).map q,⟨some a,cap,by simp,by simpa using hl,by unfold maxLen at hm;omega,λhn=>⟨a,rfl,?_,λi k hk=>?_⟩⟩,?_,?_⟩
  ·have h0:0<len:=by
    rcases Nat.eq_zero_or_pos len with h|h
    ·subst h;simp at hn
    ·exact h
   have:=(hq 0 h0).1.lt;rwa[add_block] at this
  ·have hi:i<len:=by
    have:=(List.getElem?_eq_some_iff.1 hk).1;simpa using this
   rw[List.getElem?_map,List.getElem?_range hi] at hk;injection hk with hk
   subst hk;exact(hq i hi).1
  ·intro k hk
   obtain⟨i,hi,rfl⟩:=List.mem_map.1 hk;exact(hq i (List.mem_range.1 hi)).2
  ·have:=lQ ((List.range len).map D) ((List.range (m-len)).map λj=>D (len+j))
   simpa using this
theorem zU:∃f0 f1 f2 f3 f4 f5:Field,Tryz.prog.underlying 29=some (.struct #[f0,f1,f2,f3,f4,f5])/\f0.offset=0/\f0.type=3/\f1.offset=1/\f1.type=3/\f2.offset=2/\f2.type=25/\f3.offset=6/\f3.type=23/\f4.offset=7/\f4.type=26/\f5.offset=8/\f5.type=27:=⟨_,_,_,_,_,_,Tryz.underlying29,rfl,rfl,rfl,rfl,rfl,rfl,rfl,rfl,rfl,rfl,rfl,rfl⟩
theorem zV:∃f0 f1 f2 f3:Field,Tryz.prog.underlying 25=some (.struct #[f0,f1,f2,f3])/\f0.offset=0/\f0.type=3/\f1.offset=1/\f1.type=3/\f2.offset=2/\f2.type=23/\f3.offset=3/\f3.type=23:=⟨_,_,_,_,Tryz.underlying25,rfl,rfl,rfl,rfl,rfl,rfl,rfl,rfl⟩
theorem zW{w:World}{v:Value}{xs:List Int}(h:Ro w v xs):Wd.In64 (xs.length:Int):=by
 obtain⟨a,c,-,h1,h2,-⟩:=h;unfold Wd.In64;omega
theorem uS{H:Type}{enc:TypeId×Value->H}{W:World}{base:Nat}{held:Bool}{fuel:Nat}{cs:List Value}{y:DataW H×List MemPlace}(h:DataW.trod enc Tryz.prog W base (λ_=>true) held fuel 29 cs=some y):
 ∃X:WV,Wl W (.agg cs.toArray) X/\(∀n∈Wd.nums X,Wd.In64 n)/\(Rows.uptoBulk y.1<=1048576->Gf X):=by
 obtain⟨f0,f1,f2,f3,f4,f5,he,o0,t0,o1,t1,o2,t2,o3,t3,o4,t4,o5,t5⟩:=zU;obtain⟨xs,m,-,rfl,hlen,hxl,hf⟩:=DataW.trod_struct he h;have qR:Tryz.prog.cellsOf 3=1:=by kernel_rfl
 have ZT:Tryz.prog.cellsOf 25=4:=by kernel_rfl
 have XI:Tryz.prog.cellsOf 23=1:=by kernel_rfl
 have ZV:Tryz.prog.cellsOf 26=1:=by kernel_rfl
 have ZX:Tryz.prog.cellsOf 27=1:=by kernel_rfl
 have xI:Tryz.prog.cellsOf 29=9:=by kernel_rfl
 rw[xI] at hlen
 match cs,hlen with
 |[v0,v1,v2,v3,v4,v5,v6,v7,v8],_=>
  have hx:xs.length=6:=hxl
  match xs,hx with
  |[x0,x1,x2,x3,x4,x5],_=>
   have g0:=hf 0 f0 rfl;rw[o0,t0,qR] at g0;have g1:=hf 1 f1 rfl;rw[o1,t1,qR] at g1;have g2:=hf 2 f2 rfl;rw[o2,t2,ZT] at g2;have g3:=hf 3 f3 rfl;rw[o3,t3,XI] at g3;have g4:=hf 4 f4 rfl;rw[o4,t4,ZV] at g4;have g5:=hf 5 f5 rfl;rw[o5,t5,ZX] at g5;obtain⟨m0,e0,-,w0⟩:=DataW.trod_int Tryz.underlying3 g0;obtain⟨m1,e1,-,w1⟩:=DataW.trod_int Tryz.underlying3 g1;obtain⟨r0,r1,r2,r3,he',p0,s0,p1,s1,p2,s2,p3,s3⟩:=zV;obtain⟨ys,m',-,rfl,hlen',hyl,hg⟩:=DataW.trod_struct he' g2;have hy:ys.length=4:=hyl
   match ys,hy with
   |[y0,y1,y2,y3],_=>
    have k0:=hg 0 r0 rfl;rw[p0,s0,qR] at k0;have k1:=hg 1 r1 rfl;rw[p1,s1,qR] at k1;have k2:=hg 2 r2 rfl;rw[p2,s2,XI] at k2;have k3:=hg 3 r3 rfl;rw[p3,s3,XI] at k3;obtain⟨m2,e2,-,w2⟩:=DataW.trod_int Tryz.underlying3 k0;obtain⟨m3,e3,-,w3⟩:=DataW.trod_int Tryz.underlying3 k1;simp at e0 e1 e2 e3;subst e0 e1 e2 e3;obtain⟨gs,hgs,igs,bgs⟩:=lS k2;obtain⟨os,hos,ZY,bos⟩:=lS k3;obtain⟨gold,Qm,Vx,Yy⟩:=lS g3;obtain⟨us,hus,Z_,bus⟩:=zS g4;obtain⟨qs,PO,iqs,bqs⟩:=zT g5;have lu:Wd.In64 (us.length:Int):=by
     obtain⟨a,c,-,h1,h2,-⟩:=hus;unfold Wd.In64;omega
    have lq:Wd.In64 (qs.length:Int):=by
     obtain⟨a,c,-,h1,h2,-⟩:=PO;unfold Wd.In64;omega
    refine⟨⟨m0,m1,m2,m3,gs,os,gold,us,qs⟩,⟨_,_,_,_,_,rfl,hgs,hos,Qm,hus,PO⟩,?_,?_⟩
    ·intro n hn
     simp only[Wd.nums,List.mem_append,List.mem_cons,List.not_mem_nil,or_false,List.mem_flatMap] at hn;rcases hn with(((((rfl|rfl|rfl|rfl)|(rfl|hn))|(rfl|hn))|(rfl|hn))|(rfl|⟨u,hu,hn⟩))|(rfl|⟨u,hu,hn⟩)
     ·exact in64_of_wf w0
     ·exact in64_of_wf w1
     ·exact in64_of_wf w2
     ·exact in64_of_wf w3
     ·exact zW hgs
     ·exact igs _ hn
     ·exact zW hos
     ·exact ZY _ hn
     ·exact zW Qm
     ·exact Vx _ hn
     ·exact lu
     ·exact Z_ u hu n hn
     ·exact lq
     ·exact iqs u hu n hn
    ·intro hb
     simp only[Rows.uptoBulk,Rows.uptoBulkAll,List.map_cons,List.map_nil] at hb;exact⟨by simp only;omega,by simp only;omega,by simp only;omega,by simp only;omega,by simp only;omega⟩
theorem Ls{H:Type}{enc:TypeId×Value->H}{W:World}{base b0:Nat}{held:Bool}{v:Value}{d:DataW H}{p:List MemPlace}(hv:Value.okWide Tryz.prog W .any b0 29 v)(h:DataW.Trod enc Tryz.prog W base (λ_=>true) held 29 v d p):
 ∃X:WV,Wl W v X/\(∀n∈Wd.nums X,Wd.In64 n)/\(Rows.uptoBulk d<=1048576->Gf X):=by
 obtain⟨cs,rfl,hsz⟩:=okWide_struct Tryz.underlying29 hv;obtain⟨fuel,hf⟩:=h;have:=uS hf;simpa[Value.cells] using this
theorem xJ:∃f0 f1 f2 f3 f4 f5 f6 f7 f8 f9 f10:Field,Tryz.prog.underlying 68=some (.struct #[f0,f1,f2,f3,f4,f5,f6,f7,f8,f9,f10])/\
 f0.offset=0/\f0.type=9/\f1.offset=1/\f1.type=3/\f2.offset=2/\f2.type=3/\f3.offset=3/\f3.type=3/\f4.offset=4/\f4.type=3/\f5.offset=5/\f5.type=3/\f6.offset=6/\f6.type=3/\f7.offset=7/\f7.type=3/\f8.offset=8/\f8.type=3/\f9.offset=9/\f9.type=4/\f10.offset=10/\f10.type=4:=⟨_,_,_,_,_,_,_,_,_,_,_,Tryz.underlying68,rfl,rfl,rfl,rfl,rfl,rfl,rfl,rfl,rfl,rfl,rfl,rfl,rfl,rfl,rfl,rfl,rfl,rfl,rfl,rfl,rfl,rfl⟩
theorem FD{H:Type}{enc:TypeId×Value->H}{W:World}{base:Nat}{held:Bool}{fuel:Nat}{cs:List Value}{y:DataW H×List MemPlace}(h:DataW.trod enc Tryz.prog W base (λ_=>true) held fuel 68 cs=some y):
 ∃k:KV,cs=[.string k.b,.int .i64 k.n0,.int .i64 k.n1,.int .i64 k.n2,.int .i64 k.n3,.int .i64 k.n4,.int .i64 k.n5,.int .i64 k.n6,.int .i64 k.n7,.bool k.f,.bool k.t]/\k.b.size<=maxLen:=by
 obtain⟨f0,f1,f2,f3,f4,f5,f6,f7,f8,f9,f10,he,o0,t0,o1,t1,o2,t2,o3,t3,o4,t4,o5,t5,o6,t6,o7,t7,o8,t8,o9,t9,o10,t10⟩:=xJ;obtain⟨xs,n,-,-,hlen,hxl,hf⟩:=DataW.trod_struct he h;have cs9:Tryz.prog.cellsOf 9=1:=by kernel_rfl
 have cs3:Tryz.prog.cellsOf 3=1:=by kernel_rfl
 have cs4:Tryz.prog.cellsOf 4=1:=by kernel_rfl
 have xI:Tryz.prog.cellsOf 68=11:=by kernel_rfl
 rw[xI] at hlen
 match cs,hlen with
 |[v0,v1,v2,v3,v4,v5,v6,v7,v8,v9,v10],_=>
  have hx11:xs.length=11:=hxl
  match xs,hx11 with
  |[x0,x1,x2,x3,x4,x5,x6,x7,x8,x9,x10],_=>
   have g0:=hf 0 f0 rfl;rw[o0,t0,cs9] at g0;have g1:=hf 1 f1 rfl;rw[o1,t1,cs3] at g1;have g2:=hf 2 f2 rfl;rw[o2,t2,cs3] at g2;have g3:=hf 3 f3 rfl;rw[o3,t3,cs3] at g3;have g4:=hf 4 f4 rfl;rw[o4,t4,cs3] at g4;have g5:=hf 5 f5 rfl;rw[o5,t5,cs3] at g5;have g6:=hf 6 f6 rfl;rw[o6,t6,cs3] at g6;have g7:=hf 7 f7 rfl;rw[o7,t7,cs3] at g7;have g8:=hf 8 f8 rfl;rw[o8,t8,cs3] at g8;have g9:=hf 9 f9 rfl;rw[o9,t9,cs4] at g9;have g10:=hf 10 f10 rfl;rw[o10,t10,cs4] at g10;obtain⟨b,e0,-,hb⟩:=DataW.trod_string Tryz.underlying9 g0;obtain⟨m1,e1,-,-⟩:=DataW.trod_int Tryz.underlying3 g1;obtain⟨m2,e2,-,-⟩:=DataW.trod_int Tryz.underlying3 g2;obtain⟨m3,e3,-,-⟩:=DataW.trod_int Tryz.underlying3 g3;obtain⟨m4,e4,-,-⟩:=DataW.trod_int Tryz.underlying3 g4;obtain⟨m5,e5,-,-⟩:=DataW.trod_int Tryz.underlying3 g5;obtain⟨m6,e6,-,-⟩:=DataW.trod_int Tryz.underlying3 g6;obtain⟨m7,e7,-,-⟩:=DataW.trod_int Tryz.underlying3 g7;obtain⟨m8,e8,-,-⟩:=DataW.trod_int Tryz.underlying3 g8;obtain⟨bf,e9,-⟩:=DataW.trod_bool Tryz.underlying4 g9;obtain⟨bt,e10,-⟩:=DataW.trod_bool Tryz.underlying4 g10;simp at e0 e1 e2 e3 e4 e5 e6 e7 e8 e9 e10;subst e0 e1 e2 e3 e4 e5 e6 e7 e8 e9 e10;exact⟨⟨b,m1,m2,m3,m4,m5,m6,m7,m8,bf,bt⟩,rfl,hb⟩
theorem zX{H:Type}{enc:TypeId×Value->H}{W:World}{base:Nat}{held:Bool}{fuel:Nat}{v:Value}{y:DataW H×List MemPlace}(h:DataW.trod enc Tryz.prog W base (λ_=>true) held fuel 22 [v]=some y):
 ∃ks:List KV,Kl W v ks/\∀k∈ks,k.b.size<=maxLen:=by
 have xI:Tryz.prog.cellsOf 68=11:=by kernel_rfl
 rcases Go.Deep.open_slice Tryz.underlying22 h with⟨hcs,-⟩|⟨a,len,cap,m,n,D,Pl,hcs,hb,hl,hm,hmm,-,hx⟩
 ·simp at hcs
  subst hcs;exact⟨[],⟨none,0,rfl,Nat.le_refl _,by omega,λh=>absurd rfl h⟩,by simp⟩
 ·simp at hcs
  subst hcs;have hlm:len<=m:=by rw[hmm];simp;exact hl
  have each:∀i,i<len->∃k:KV,Kc W (a.add (i*11)) k/\k.b.size<=maxLen:=by
   intro i hi;obtain⟨cs',h1,h2⟩:=hx i (by omega);obtain⟨k,rfl,hk⟩:=FD h2;rw[xI] at h1;obtain⟨-,-,hcell⟩:=World.cells?_some h1;refine⟨k,?_,hk⟩;generalize a.add (i*11)=y at *;exact⟨hcell 0 (by decide),hcell 1 (by decide),hcell 2 (by decide),hcell 3 (by decide),hcell 4 (by decide),hcell 5 (by decide),hcell 6 (by decide),hcell 7 (by decide),hcell 8 (by decide),hcell 9 (by decide),hcell 10 (by decide)⟩
  have inh:Inhabited KV:=⟨⟨ByteArray.empty,0,0,0,0,0,0,0,0,false,false⟩⟩;obtain⟨q,hq⟩:=Go.Deep.choose_lt each;refine⟨(List.range len).map q,⟨some a,cap,by simp,by simpa using hl,by unfold maxLen at hm;omega,λhn=>⟨a,rfl,?_,λi k hk=>?_⟩⟩,?_⟩
  ·have h0:0<len:=by
    rcases Nat.eq_zero_or_pos len with h|h
    ·subst h;simp at hn
    ·exact h
   have:=(hq 0 h0).1.lt;rwa[add_block] at this
  ·have hi:i<len:=by
    have:=(List.getElem?_eq_some_iff.1 hk).1;simpa using this
   rw[List.getElem?_map,List.getElem?_range hi] at hk;injection hk with hk
   subst hk;exact(hq i hi).1
  ·intro k hk
   obtain⟨i,hi,rfl⟩:=List.mem_map.1 hk;exact(hq i (List.mem_range.1 hi)).2
theorem Lu{H:Type}{enc:TypeId×Value->H}{W:World}{base b0:Nat}{held:Bool}{v:Value}{d:DataW H}{p:List MemPlace}(hv:Value.okWide Tryz.prog W .any b0 22 v)(h:DataW.Trod enc Tryz.prog W base (λ_=>true) held 22 v d p):
 ∃ks:List KV,Kl W v ks/\∀k∈ks,k.b.size<=maxLen:=by
 obtain⟨a,len,cap,rfl⟩:=okWide_slice Tryz.underlying22 hv;obtain⟨fuel,hf⟩:=h;exact zX hf
theorem FH:∃f0 f1 f2 f3:Field,Tryz.prog.underlying 58=some (.struct #[f0,f1,f2,f3])/\
 f0.offset=0/\f0.type=3/\f1.offset=1/\f1.type=3/\f2.offset=2/\f2.type=3/\f3.offset=3/\f3.type=3:=⟨_,_,_,_,Tryz.underlying58,rfl,rfl,rfl,rfl,rfl,rfl,rfl,rfl⟩
theorem PI{H:Type}{enc:TypeId×Value->H}{W:World}{base:Nat}{held:Bool}{fuel:Nat}{cs:List Value}{y:DataW H×List MemPlace}(h:DataW.trod enc Tryz.prog W base (λ_=>true) held fuel 58 cs=some y):
 ∃k:aK,cs=[.int .i64 k.aA,.int .i64 k.unit,.int .i64 k.what,.int .i64 k.arg]/\True:=by
 obtain⟨f0,f1,f2,f3,he,o0,t0,o1,t1,o2,t2,o3,t3⟩:=FH;obtain⟨xs,m,-,-,hlen,hxl,hf⟩:=DataW.trod_struct he h;have qR:Tryz.prog.cellsOf 3=1:=by kernel_rfl
 have xI:Tryz.prog.cellsOf 58=4:=by kernel_rfl
 rw[xI] at hlen
 match cs,hlen with
 |[v0,v1,v2,v3],_=>
  have hx:xs.length=4:=hxl
  match xs,hx with
  |[x0,x1,x2,x3],_=>
   have g0:=hf 0 f0 rfl;rw[o0,t0,qR] at g0;have g1:=hf 1 f1 rfl;rw[o1,t1,qR] at g1;have g2:=hf 2 f2 rfl;rw[o2,t2,qR] at g2;have g3:=hf 3 f3 rfl;rw[o3,t3,qR] at g3;obtain⟨m0,e0,-,-⟩:=DataW.trod_int Tryz.underlying3 g0;obtain⟨m1,e1,-,-⟩:=DataW.trod_int Tryz.underlying3 g1;obtain⟨m2,e2,-,-⟩:=DataW.trod_int Tryz.underlying3 g2;obtain⟨m3,e3,-,-⟩:=DataW.trod_int Tryz.underlying3 g3;simp at e0 e1 e2 e3;subst e0 e1 e2 e3;exact⟨⟨m0,m1,m2,m3⟩,rfl,trivial⟩
theorem LC{H:Type}{enc:TypeId×Value->H}{W:World}{base:Nat}{held:Bool}{fuel:Nat}{v:Value}{y:DataW H×List MemPlace}(h:DataW.trod enc Tryz.prog W base (λ_=>true) held fuel 30 [v]=some y):
 ∃ks:List aK,nN W v ks/\∀k∈ks,True:=by
 have xI:Tryz.prog.cellsOf 58=4:=by kernel_rfl
 rcases Go.Deep.open_slice Tryz.underlying30 h with⟨hcs,-⟩|⟨a,len,cap,m,q,D,Pl,hcs,hb,hl,hm,hmm,-,hx⟩
 ·simp at hcs
  subst hcs;exact⟨[],⟨none,0,rfl,Nat.le_refl _,by omega,λh=>absurd rfl h⟩,by simp⟩
 ·simp at hcs
  subst hcs;have hlm:len<=m:=by rw[hmm];simp;exact hl
  have each:∀i,i<len->∃k:aK,jT W (a.add (i*4)) k/\(True):=by
   intro i hi;obtain⟨cs',h1,h2⟩:=hx i (by omega);obtain⟨k,rfl,hk⟩:=PI h2;rw[xI] at h1;obtain⟨-,-,hcell⟩:=World.cells?_some h1;refine⟨k,?_,hk⟩;generalize a.add (i*4)=y at *;exact⟨hcell 0 (by decide),hcell 1 (by decide),hcell 2 (by decide),hcell 3 (by decide)⟩
  have inh:Inhabited aK:=⟨⟨0,0,0,0⟩⟩;obtain⟨q,hq⟩:=Go.Deep.choose_lt each;refine⟨(List.range len).map q,⟨some a,cap,by simp,by simpa using hl,by unfold maxLen at hm;omega,λhn=>⟨a,rfl,?_,λi k hk=>?_⟩⟩,?_⟩
  ·have h0:0<len:=by
    rcases Nat.eq_zero_or_pos len with h|h
    ·subst h;simp at hn
    ·exact h
   have:=(hq 0 h0).1.lt;rwa[add_block] at this
  ·have hi:i<len:=by
    have:=(List.getElem?_eq_some_iff.1 hk).1;simpa using this
   rw[List.getElem?_map,List.getElem?_range hi] at hk;injection hk with hk
   subst hk;exact(hq i hi).1
  ·intro k hk
   obtain⟨i,hi,rfl⟩:=List.mem_map.1 hk;exact(hq i (List.mem_range.1 hi)).2
theorem SH{H:Type}{enc:TypeId×Value->H}{W:World}{base b0:Nat}{held:Bool}{v:Value}{d:DataW H}{p:List MemPlace}(hv:Value.okWide Tryz.prog W .any b0 30 v)(h:DataW.Trod enc Tryz.prog W base (λ_=>true) held 30 v d p):
 ∃ks:List aK,nN W v ks/\∀k∈ks,True:=by
 obtain⟨a,len,cap,rfl⟩:=okWide_slice Tryz.underlying30 hv;obtain⟨fuel,hf⟩:=h;exact LC hf
end Go.Proofs.YtojhiiiebnlipaaGreatDoor
