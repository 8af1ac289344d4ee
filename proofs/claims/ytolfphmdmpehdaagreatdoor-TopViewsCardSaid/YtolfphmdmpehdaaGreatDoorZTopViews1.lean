/- What is hidden from the walk: of a fact the same fact, whose words the fact itself tells; facts in a row. And more. -/
import Derived.Test.YtolfphmdmpehdaaGreatDoorRows
import Derived.WalkSpells
import Derived.WalkLawsBesides
import Derived.ProofKit
import Derived.BigQuiet
import Derived.Deep.AppendLies
import Derived.Laws.AppendOwnNone
import Derived.StillTail
import Derived.Deep.DeepCutAuto
set_option linter.unusedVariables false
set_option linter.unusedSimpArgs false
set_option maxHeartbeats 16000000
set_option maxRecDepth 100000
open Go.Value (int slice)
open Go.IntKind (i64)
open Go.Obj (cells)
open Go.Proofs.Tryz
namespace Go.Proofs.YtolfphmdmpehdaaGreatDoor
section
open Go.RowKit
variable {n:Nat} {p0 p1 p2 p3 p4 p5 p6:Prop} {w:World}
theorem aA{o:Obj}:Below w.heap.size w (w.alloc o):=(Below.refl _ _).alloc (Nat.le_refl _) _
theorem aN:n<=n:=Nat.le_refl n
theorem aB:Below n w w:=Below.refl _ _
theorem aG{a b c:World}(h:Hid (Below a.heap.size a b))(k:Below b.heap.size b c):Hid (Below a.heap.size a c):=h.out.trans (k.mono h.out.size)
theorem aH:type_of% @List.getElem?_eq_getElem:=@List.getElem?_eq_getElem
theorem aK:type_of% @List.getElem?_eq_some_iff:=@List.getElem?_eq_some_iff
theorem aC:type_of% @List.length_append:=@List.length_append
theorem aS:type_of% @List.length_nil:=@List.length_nil
theorem dI:type_of% @List.length_cons:=@List.length_cons
theorem aT:type_of% @List.mem_of_getElem?:=@List.mem_of_getElem?
theorem aJ:type_of% @Nat.le_trans:=@Nat.le_trans
theorem fE:type_of% @Nat.lt_of_lt_of_le:=@Nat.lt_of_lt_of_le
theorem aO:type_of% @Nat.zero_add:=@Nat.zero_add
theorem bF:type_of% @Int.toNat_natCast:=@Int.toNat_natCast
theorem dM:type_of% @List.take_succ_eq_append_getElem:=@List.take_succ_eq_append_getElem
theorem dD:type_of% @List.getD_eq_getElem?_getD:=@List.getD_eq_getElem?_getD
theorem dP:type_of% @List.length_take:=@List.length_take
theorem jR:type_of% @List.length_drop:=@List.length_drop
theorem iV:type_of% @List.getElem?_append_left:=@List.getElem?_append_left
theorem jy:type_of% @List.getElem?_append_right:=@List.getElem?_append_right
theorem iK:type_of% @List.append_nil:=@List.append_nil
theorem rG:type_of% @List.take_length:=@List.take_length
theorem bT:type_of% @List.append_assoc:=@List.append_assoc
theorem gJ:type_of% @List.mem_append:=@List.mem_append
theorem kG:type_of% @List.getElem_mem:=@List.getElem_mem
theorem kH:type_of% @List.map_append:=@List.map_append
theorem fM:type_of% @List.flatMap_append:=@List.flatMap_append
theorem bP:type_of% @List.mem_cons:=@List.mem_cons
theorem lG:type_of% @List.length_map:=@List.length_map
theorem fG:type_of% @List.getElem?_map:=@List.getElem?_map
theorem jA:type_of% @List.length_set:=@List.length_set
theorem kJ:type_of% @List.getElem?_set:=@List.getElem?_set
theorem aZ:type_of% @Nat.zero_le:=@Nat.zero_le
theorem dQ:type_of% @Option.some.inj:=@Option.some.inj
theorem jB:type_of% @List.length_replicate:=@List.length_replicate
theorem oZ:type_of% @List.getElem?_replicate:=@List.getElem?_replicate
theorem jg:type_of% @List.mem_map:=@List.mem_map
theorem eP:type_of% @List.getElem?_take:=@List.getElem?_take
theorem mF:type_of% @List.getElem?_drop:=@List.getElem?_drop
theorem bK:type_of% @List.any_eq_false:=@List.any_eq_false
theorem gK:type_of% @List.any_eq_true:=@List.any_eq_true
theorem lH:type_of% @List.all_eq_true:=@List.all_eq_true
theorem fC:type_of% @Nat.lt_succ_self:=@Nat.lt_succ_self
theorem aU:type_of% @Nat.le_refl:=@Nat.le_refl
theorem dU:type_of% @Below.refl:=@Below.refl
theorem o_:type_of% @Nat.mul_le_mul:=@Nat.mul_le_mul
theorem aj{p:Prop}(h:p):Go.RowKit.Hid p:=h
theorem dJ(h0:p0)(h1:p1):p0/\p1:=⟨h0,h1⟩
theorem fQ(h0:p0)(h1:p1)(h2:p2):p0/\p1/\p2:=⟨h0,h1,h2⟩
theorem lM(h0:p0)(h1:p1)(h2:p2)(h3:p3):p0/\p1/\p2/\p3:=⟨h0,h1,h2,h3⟩
theorem iJ(h0:p0)(h1:p1)(h2:p2)(h3:p3)(h4:p4):p0/\p1/\p2/\p3/\p4:=⟨h0,h1,h2,h3,h4⟩
theorem w_(h0:p0)(h1:p1)(h2:p2)(h3:p3)(h4:p4)(h5:p5):p0/\p1/\p2/\p3/\p4/\p5:=⟨h0,h1,h2,h3,h4,h5⟩
theorem Pz(h0:p0)(h1:p1)(h2:p2)(h3:p3)(h4:p4)(h5:p5)(h6:p6):p0/\p1/\p2/\p3/\p4/\p5/\p6:=⟨h0,h1,h2,h3,h4,h5,h6⟩
theorem YK{p7:Prop}(h0:p0)(h1:p1)(h2:p2)(h3:p3)(h4:p4)(h5:p5)(h6:p6)(h7:p7):p0/\p1/\p2/\p3/\p4/\p5/\p6/\p7:=⟨h0,h1,h2,h3,h4,h5,h6,h7⟩
end
section
variable {a a' a'' n x z:Nat} {b:List UInt8} {f f' f'':Bool} {v:Int} {w w':World} {α β:Type}
namespace Wd
def zz(n:Int):Nat:=if n<0 then((-(n+1)).toNat)*2+1 else n.toNat*2
def yN(x:Nat):Int:=if x%2=1 then -((x/2:Nat):Int)-1 else((x/2:Nat):Int)
theorem Zo(n:Int):yN (zz n)=n:=by
 unfold yN zz;by_cases h:n<0
 ·rw[if_pos h,if_pos (by omega)];omega
 ·rw[if_neg h,if_neg (by omega)];omega
theorem Zp(x:Nat):zz (yN x)=x:=by
 unfold yN zz;by_cases h:x%2=1
 ·rw[if_pos h,if_pos (by omega)];omega
 ·rw[if_neg h,if_neg (by omega)];omega
def In64(n:Int):Prop:= -9223372036854775808<=n/\n<=9223372036854775807
theorem PG{n:Int}(h:In64 n):zz n<18446744073709551616:=by
 unfold In64 at h;unfold zz;split<;>omega
theorem Zq(h:x<18446744073709551616):In64 (yN x):=by
 unfold In64 yN;split<;>omega
def vl(x:Nat):List UInt8:=if h:x<128 then[UInt8.ofNat x] else UInt8.ofNat (x%128+128)::vl (x/128)
termination_by x
theorem kK(h:x<128):vl x=[UInt8.ofNat x]:=by rw[vl,dif_pos h]
theorem lN(h:128<=x):vl x=UInt8.ofNat (x%128+128)::vl (x/128):=by rw[vl,dif_neg (by omega)]
def num(n:Int):List UInt8:=vl (zz n)
def rd(i x:Nat):List UInt8->Option (Nat×Nat)
 |[]=>none
 |c::t=>if i=9/\1<c.toNat then none else if 128<=c.toNat then rd (i+1) (x+c.toNat%128*128^i) t else if c.toNat=0/\0<i then none else some (x+c.toNat*128^i,i+1)
theorem VN:(128:Nat)^9=9223372036854775808:=by decide
theorem Ar:∀(l:List UInt8) (i x y n:Nat),i<=9->x<128^i->rd i x l=some (y,n)->i<n/\n<=i+l.length/\n<=10/\y<18446744073709551616
 |[],i,x,y,n,hi,hx,h=>by simp[rd] at h
 |c::t,i,x,y,n,hi,hx,h=>by
  have hc:c.toNat<256:=c.toNat_lt;have hs:128^(i+1)=128^i*128:=Nat.pow_succ ..;unfold rd at h;split at h
  ·cases h
  ·rename_i h9
   split at h
   ·rename_i hm
    have:i≠9:=λe=>h9 ⟨e,by omega⟩
    have hm2:c.toNat%128*128^i<=127*128^i:=Nat.mul_le_mul_right _ (by omega);obtain⟨h1,h2,h3,h4⟩:=Ar t (i+1) _ y n (by omega) (by omega) h;simp only[dI];exact⟨by omega,by omega,h3,h4⟩
   ·split at h
    ·cases h
    ·injection h with h
     injection h with h1 h2
     subst h1 h2;refine⟨by omega,by simp only[dI];omega,by omega,?_⟩;by_cases e:i=9
     ·subst e
      have:c.toNat<=1:=by
       rcases Nat.lt_or_ge 1 c.toNat with h|h
       ·exact absurd ⟨rfl,h⟩ h9
       ·exact h
      have:c.toNat*128^9<=1*128^9:=Nat.mul_le_mul_right _ this;rw[VN] at this hx ⊢;omega
     ·have h8:128^i<=128^8:=Nat.pow_le_pow_right (by decide) (by omega)
      have h82:(128:Nat)^8=72057594037927936:=by decide
      have:c.toNat*128^i<=127*128^i:=Nat.mul_le_mul_right _ (by omega);omega
theorem PI:∀(f x i a:Nat) (t:List UInt8),x<=f->i<=9->x*128^i<18446744073709551616->(i=0\/0<x)->rd i a (vl x++t)=some (a+x*128^i,i+(vl x).length)
 |f,x,i,a,t,hf,hi,hx,hz=>by
  by_cases h:x<128
  ·have e:(UInt8.ofNat x).toNat=x:=by rw[UInt8.toNat_ofNat'];omega
   rw[kK h];show rd i a (UInt8.ofNat x::t)=_;unfold rd;rw[e,if_neg,if_neg (by omega),if_neg (by omega)]
   ·rfl
   ·rintro⟨e9,h1⟩
    subst e9;have:2*128^9<=x*128^9:=Nat.mul_le_mul_right _ h1;rw[VN] at this hx;omega
  ·have e:(UInt8.ofNat (x%128+128)).toNat=x%128+128:=by rw[UInt8.toNat_ofNat'];omega
   have hs:128^(i+1)=128^i*128:=Nat.pow_succ ..;have i9:i≠9:=λe9=>by
    subst e9;have:128*128^9<=x*128^9:=Nat.mul_le_mul_right _ (by omega);rw[VN] at this hx;omega
   rw[lN (by omega)];show rd i a (UInt8.ofNat (x%128+128)::(vl (x/128)++t))=_;unfold rd;have hsum:x=x/128*128+x%128:=by omega
   have hmul:x*128^i=x/128*128^(i+1)+x%128*128^i:=by
    conv=>lhs;rw[hsum]
    rw[Nat.add_mul,hs,Nat.mul_comm (128^i) 128,Nat.mul_assoc]
   rw[e,if_neg (λh=>i9 h.1),if_pos (by omega)]
   match f,hf with
   |0,hf=>omega
   |f+1,hf=>
    rw[PI f (x/128) (i+1) _ t (by omega) (by omega) (by omega) (.inr (by omega))];simp only[dI];have e3:(x%128+128)%128=x%128:=by omega
    rw[e3,hmul]
    congr 2
    ·omega
    ·omega
termination_by f=>f
theorem Jm:∀(l:List UInt8) (i a y n:Nat),i<=9->rd i a l=some (y,n)->∃x t,y=a+x*128^i/\l=vl x++t/\n=i+(vl x).length/\(i=0\/0<x)
 |[],i,a,y,n,hi,h=>by simp[rd] at h
 |c::t,i,a,y,n,hi,h=>by
  have hc:c.toNat<256:=c.toNat_lt;have hs:128^(i+1)=128^i*128:=Nat.pow_succ ..;unfold rd at h;split at h
  ·cases h
  ·rename_i h9
   split at h
   ·rename_i hm
    have i9:i≠9:=λe=>h9 ⟨e,by omega⟩
    obtain⟨x,t',h1,h2,h3,h4⟩:=Jm t (i+1) _ y n (by omega) h;have x0:0<x:=by omega
    have e1:(x*128+c.toNat%128)%128+128=c.toNat:=by omega
    have e2:(x*128+c.toNat%128)/128=x:=by omega
    have ev:vl (x*128+c.toNat%128)=c::vl x:=by
     rw[lN (by omega),e1,e2,UInt8.ofNat_toNat]
    refine⟨x*128+c.toNat%128,t',?_,?_,?_,.inr (by omega)⟩
    ·rw[h1,hs,Nat.add_mul,Nat.mul_comm (128^i) 128,<-Nat.mul_assoc];omega
    ·rw[ev,h2];rfl
    ·rw[ev,h3];simp only[dI];omega
   ·rename_i hm
    split at h
    ·cases h
    ·rename_i hz
     injection h with h
     injection h with h1 h2
     have ev:vl c.toNat=[c]:=by rw[kK (by omega),UInt8.ofNat_toNat]
     refine⟨c.toNat,t,h1.symm,by rw[ev];rfl,by rw[ev,<-h2];rfl,?_⟩;omega
def dN(b:List UInt8)(a:Nat):Option (Int×Nat):=match rd 0 0 (b.drop a) with
 |none=>none
 |some (x,n)=>some (yN x,a+n)
theorem VP(h:dN b a=some (v,a')):a<a'/\a'<=b.length/\a'<=a+10/\In64 v:=by
 unfold dN at h;split at h
 ·cases h
 ·rename_i x n hr
  injection h with h
  injection h with h1 h2
  obtain⟨e1,e2,e3,e4⟩:=Ar _ 0 0 x n (by omega) (by simp) hr;rw[jR] at e2;refine⟨by omega,by omega,by omega,by rw[<-h1];exact Zq e4⟩
theorem lQ{n:Int}{t:List UInt8}(h:In64 n)(hb:b.drop a=num n++t):dN b a=some (n,a+(num n).length):=by
 unfold dN;rw[hb];unfold num;rw[PI _ (zz n) 0 0 t aN (by omega) (by simpa using PG h) (.inl rfl)];simp[Zo]
theorem ou(h:dN b a=some (v,a')):b.drop a=num v++b.drop a'/\a'=a+(num v).length:=by
 unfold dN at h;split at h
 ·cases h
 ·rename_i x n hr
  injection h with h
  injection h with h1 h2
  obtain⟨x',t,e1,e2,e3,-⟩:=Jm _ 0 0 x n (by omega) hr;have ex:x=x':=by omega
  subst ex;have en:num v=vl x:=by unfold num;rw[<-h1,Zp]
  have el:a'=a+(num v).length:=by rw[en];omega
  refine⟨?_,el⟩;rw[en,el,<-List.drop_drop,e2,en,List.drop_left]
abbrev Pr (α:Type):=Nat->Option (α×Nat)
def jh{α:Type}(p:Pr α):Nat->Pr (List α)
 |0,a=>some ([],a)
 |n+1,a=>match p a with
  |none=>none
  |some (v,a')=>match jh p n a' with
   |none=>none
   |some (l,a'')=>some (v::l,a'')
theorem xA{α:Type}(p:Pr α):∀(n a:Nat),jh p (n+1) a=match jh p n a with
  |none=>none
  |some (l,a')=>match p a' with
   |none=>none
   |some (v,a'')=>some (l++[v],a'')
 |0,a=>by
  simp only[jh];cases p a with
  |none=>rfl
  |some x=>rfl
 |n+1,a=>by
  rw[jh];rw[show jh p (n+1) a=(match p a with|none=>none|some (v,a')=>match jh p n a' with|none=>none|some (l,a'')=>some (v::l,a'')) from rfl];cases p a with
  |none=>rfl
  |some x=>
   obtain⟨v,a'⟩:=x;simp only;rw[xA p n a'];cases jh p n a' with
   |none=>rfl
   |some y=>
    obtain⟨l,a''⟩:=y;simp only;cases p a'' with
    |none=>rfl
    |some z=>rfl
def kT(b:List UInt8)(a:Nat):Option (Nat×Nat):=match dN b a with
 |none=>none
 |some (n,a')=>if 0<=n/\n<=200 then some (n.toNat,a') else none
def pbind(p:Pr α)(f:α->Pr β):Pr β:=λa=>match p a with
 |none=>none
 |some (v,a')=>f v a'
def nG(b:List UInt8)(p:Pr α):Pr (List α):=pbind (kT b) (λn=>jh p n)
def KT(v:α):Pr α:=λa=>some (v,a)
end Wd
namespace Wd
def Rd(p:Pr α)(a:Nat)(f:Bool)(v:α)(a':Nat)(f':Bool):Prop:=(f=true->f'=true)/\(f=false->(p a=some (v,a')/\f'=false)\/(p a=none/\f'=true))
theorem Rd.ret(v:α)(a:Nat)(f:Bool):Rd (KT v) a f v a f:=⟨λh=>h,λh=>.inl ⟨rfl,h⟩⟩
theorem Rd.bind{p:Pr α}{q:α->Pr β}{v:α}{u:β}(h1:Rd p a f v a' f')(h2:Rd (q v) a' f' u a'' f''):Rd (pbind p q) a f u a'' f'':=by
 refine⟨λh=>h2.1 (h1.1 h),λh=>?_⟩;rcases h1.2 h with⟨e1,e2⟩|⟨e1,e2⟩
 ·unfold pbind
  rw[e1];exact h2.2 e2
 ·refine .inr ⟨?_,h2.1 e2⟩
  unfold pbind;rw[e1]
theorem Rd.snoc{p:Pr α}{l:List α}{v:α}(h1:Rd (jh p n) a f l a' f')(h2:Rd p a' f' v a'' f''):Rd (jh p (n+1)) a f (l++[v]) a'' f'':=by
 refine⟨λh=>h2.1 (h1.1 h),λh=>?_⟩;rw[xA];rcases h1.2 h with⟨e1,e2⟩|⟨e1,e2⟩
 ·rw[e1]
  rcases h2.2 e2 with⟨e3,e4⟩|⟨e3,e4⟩
  ·exact .inl ⟨by simp only[e3],e4⟩
  ·exact .inr ⟨by simp only[e3],e4⟩
 ·exact .inr ⟨by rw[e1],h2.1 e2⟩
theorem Rd.nil(p:Pr α)(a:Nat)(f:Bool):Rd (jh p 0) a f [] a f:=⟨λh=>h,λh=>.inl ⟨rfl,h⟩⟩
theorem Rd.bad{p:Pr α}{v:α}:Rd p a true v a' true:=⟨λh=>h,λh=>by cases h⟩
theorem Rd.list{p:Pr α}{l:List α}(h1:Rd (kT b) a f n a' f')(h2:Rd (jh p n) a' f' l a'' f''):Rd (nG b p) a f l a'' f'':=Rd.bind (q:=λn=>jh p n) h1 h2
theorem PK(b:List UInt8)(p:Pr α):nG b p=pbind (kT b) (λn=>jh p n):=rfl
def wr(l:List Int):List UInt8:=l.flatMap num
structure Reads{α:Type}(b:List UInt8)(p:Pr α)(e:α->List Int)(ok:α->Prop):Prop where
 fwd:∀{a:Nat} {v:α} {t:List UInt8},ok v->b.drop a=wr (e v)++t->p a=some (v,a+(wr (e v)).length)
 back:∀{a:Nat} {v:α} {a':Nat},p a=some (v,a')->ok v/\b.drop a=wr (e v)++b.drop a'/\a'=a+(wr (e v)).length
theorem iZ(l m:List Int):wr (l++m)=wr l++wr m:=by unfold wr;rw[fM]
theorem tZ(n:Int):wr [n]=num n:=by simp[wr]
theorem oz(b:List UInt8):Reads b (dN b) (λn=>[n]) In64 where
 fwd:=λ{a v t} h hb=>by
  rw[tZ] at hb ⊢;exact lQ h hb
 back:=λ{a v a'} h=>by
  rw[tZ];exact⟨(VP h).2.2.2,(ou h).1,(ou h).2⟩
theorem rH(b:List UInt8)(v:α):Reads b (KT v) (λ_=>[]) (λu=>u=v) where
 fwd:=λ{a u t} h hb=>by subst h;rfl
 back:=λ{a u a'} h=>by
  unfold KT at h;injection h with h
  injection h with h1 h2
  exact⟨h1.symm,by rw[h2];rfl,by rw[h2];rfl⟩
theorem Reads.bind{p:Pr α}{q:α->Pr β}{e:α->List Int}{e':β->List Int}{ok:α->Prop}{ok':α->β->Prop}(f:β->α)(h1:Reads b p e ok)(h2:∀v,Reads b (q v) e' (ok' v))(hf:∀v u,ok' v u->f u=v):Reads b (pbind p q) (λu=>e (f u)++e' u) (λu=>ok (f u)/\ok' (f u) u) where
 fwd:=λ{a u t} h hb=>by
  rw[iZ,bT] at hb;unfold pbind;rw[h1.fwd h.1 hb];simp only;rw[iZ,aC,<-Nat.add_assoc];refine(h2 _).fwd (t:=t) h.2 ?_;rw[<-List.drop_drop,hb,List.drop_left]
 back:=λ{a u a'} h=>by
  unfold pbind at h;split at h
  ·cases h
  ·rename_i v a1 hp
   obtain⟨k1,k2,k3⟩:=h1.back hp;obtain⟨m1,m2,m3⟩:=(h2 v).back h;have ev:=hf v u m1;rw[ev];refine⟨⟨k1,m1⟩,?_,?_⟩
   ·rw[iZ,bT,k2,m2]
   ·rw[iZ,aC,m3,k3];omega
theorem Reads.rep{α:Type}{b:List UInt8}{p:Pr α}{e:α->List Int}{ok:α->Prop}(h:Reads b p e ok):∀n,Reads b (jh p n) (λl=>l.flatMap e) (λl=>l.length=n/\∀v∈l,ok v)
 |0=>{
  fwd:=λ{a l t} hl hb=>by
   obtain rfl:=List.length_eq_zero_iff.1 hl.1;rfl
  back:=λ{a l a'} hl=>by
   simp only[jh,Option.some.injEq,Prod.mk.injEq] at hl;obtain⟨rfl,rfl⟩:=hl;exact⟨⟨rfl,by simp⟩,rfl,rfl⟩}
 |n+1=>{
  fwd:=λ{a l t} hl hb=>by
   match l,hl with
   |v::l,hl=>
    rw[List.flatMap_cons,iZ] at hb ⊢;rw[bT] at hb;rw[jh,h.fwd (hl.2 v (by simp)) hb];simp only;rw[(Reads.rep h n).fwd (v:=l) (t:=t) ⟨by simpa using hl.1,λu hu=>hl.2 u (by simp[hu])⟩ (by rw[<-List.drop_drop,hb,List.drop_left])];simp only[aC];rw[Nat.add_assoc]
  back:=λ{a l a'} hl=>by
   rw[jh] at hl;split at hl
   ·cases hl
   ·rename_i v a1 hp
    split at hl
    ·cases hl
    ·rename_i l' a2 hq
     injection hl with hl
     injection hl with e1 e2
     subst e1 e2;obtain⟨k1,k2,k3⟩:=h.back hp;obtain⟨m1,m2,m3⟩:=(Reads.rep h n).back hq;refine⟨⟨by rw[dI,m1.1],?_⟩,?_,?_⟩
     ·intro u hu
      rcases bP.1 hu with rfl|hu
      ·exact k1
      ·exact m1.2 u hu
     ·rw[List.flatMap_cons,iZ,bT,k2,m2]
     ·rw[List.flatMap_cons,iZ,aC,m3,k3];omega}
theorem rJ(h:n<=200):In64 (n:Int):=by unfold In64;omega
theorem EI(b:List UInt8):Reads b (kT b) (λn=>[(n:Int)]) (λn=>n<=200) where
 fwd:=λ{a v t} h hb=>by
  rw[tZ] at hb ⊢;unfold kT;rw[lQ (rJ h) hb];simp only;rw[if_pos (by omega)];rfl
 back:=λ{a v a'} h=>by
  unfold kT at h;split at h
  ·cases h
  ·rename_i n a1 hp
   split at h
   ·rename_i hn
    injection h with h
    injection h with e1 e2
    subst e1 e2;rw[tZ];have:((n.toNat:Nat):Int)=n:=by omega
    rw[this];exact⟨by omega,(ou hp).1,(ou hp).2⟩
   ·cases h
theorem Reads.list{p:Pr α}{e:α->List Int}{ok:α->Prop}(h:Reads b p e ok):Reads b (nG b p) (λl=>(l.length:Int)::l.flatMap e) (λl=>l.length<=200/\∀v∈l,ok v):=by
 have:=Reads.bind (q:=λn=>jh p n) List.length (EI b) (λn=>h.rep n) (λn l hl=>hl.1);rw[PK];exact{fwd:=λ{a v t} hv hb=>this.fwd ⟨hv.1,rfl,hv.2⟩ hb,back:=λ{a v a'} hh=>by obtain⟨⟨h1,h2,h3⟩,h4,h5⟩:=this.back hh;exact⟨⟨h1,h3⟩,h4,h5⟩}
theorem Reads.as{p:Pr α}{e e':α->List Int}{ok ok':α->Prop}(h:Reads b p e ok)(he:∀v,e' v=e v)(ho:∀v,ok' v↔ok v):Reads b p e' ok':=by
 obtain rfl:e'=e:=funext he;obtain rfl:ok'=ok:=funext λv=>propext (ho v)
 exact h
end Wd
open Go.RowKit
structure Kp(z:Nat)(w w':World):Prop where
 os:w'.os=w.os
 tape:w'.tape=w.tape
 output:w'.output=w.output
 size:w.heap.size<=w'.heap.size
 block:∀k,k<w.heap.size->k≠z->w'.heap[k]? =w.heap[k]?
theorem Kp.of(h:Below w.heap.size w w'):Kp z w w':=⟨h.os,h.tape,h.output,h.size,λk hk _=>h.block k hk⟩
theorem Kp.refl(z:Nat)(w:World):Kp z w w:=Kp.of aB
theorem Kp.trans{a b c:World}(h:Kp z a b)(k:Kp z b c):Kp z a c:=
 ⟨k.os.trans h.os,k.tape.trans h.tape,k.output.trans h.output,aJ h.size k.size,λi hi hz=>(k.block i (fE hi h.size) hz).trans (h.block i hi hz)⟩
theorem Kp.set(w:World)(i:Nat)(u:Value):Kp z w (w.setCell ⟨z,i,none⟩ u):=
 ⟨rfl,rfl,rfl,by simp[World.setCell],λk _ hz=>Below.heap_setCell _ _ _ _ hz⟩
theorem Kp.below{B:Nat}{a:World}(h:Below B a w)(k:Kp z w w')(hB:B<=w.heap.size)(hz:B<=z):Below B a w':=
 h.trans ⟨k.os,k.tape,k.output,k.size,λi hi=>k.block i (by omega) (by omega)⟩
theorem Kp.drewN{W:World}(h:Kp z w W)(n:Nat):Kp z w (W.drewN n):=⟨h.os,h.tape,h.output,h.size,h.block⟩
theorem lt_of_block{b:Nat}{o:Obj}(h:w.heap[b]? =some o):b<w.heap.size:=by
 rcases Nat.lt_or_ge b w.heap.size with h1|h1
 ·exact h1
 ·rw[Array.getElem?_eq_none h1] at h;cases h
end
section
variable {B z:Nat} {a:Option Addr} {v:Value} {w w':World} {xs:List Int} {y:Addr}
def Jo(k:IntKind)(w:World)(a:Option Addr)(len cap:Nat)(zs:List Int):Prop:=
 (a=none/\len=0/\cap=0/\zs=[])\/
 ∃x,a=some x/\len<=cap/\cap<=maxLen/\zs.length=cap/\(∀i,i<zs.length->w.cell? (x.add i)=some (.int k (zs.getD i 0)))/\∀n∈zs,(Lit.int k n).wf=true
open Go.RowKit
def Cells(w:World)(a:Option Addr)(xs:List Int):Prop:=xs≠[]->∃x,a=some x/\x.block<w.heap.size/\∀i d,xs[i]? =some d->w.cell? (x.add i)=some (int i64 d)
def Ro(w:World)(v:Value)(xs:List Int):Prop:=∃(a:Option Addr) (c:Nat),v=slice a xs.length c/\xs.length<=c/\c<=9223372036854775807/\Cells w a xs
theorem cell_lt{x:Addr}(h:w.cell? x=some v):x.block<w.heap.size:=by
 rcases Nat.lt_or_ge x.block w.heap.size with h1|h1
 ·exact h1
 ·simp[World.cell?,Array.getElem?_eq_none h1] at h
theorem add_block(x:Addr)(i:Nat):(x.add i).block=x.block:=by unfold Addr.add;split<;>rfl
theorem Cells.below(h:Cells w a xs)(hb:Below w.heap.size w w'):Cells w' a xs:=λhx=>by
 obtain⟨x,ha,hl,hc⟩:=h hx;refine⟨x,ha,fE hl hb.size,λi d hd=>?_⟩;rw[hb.cell (p:=x.add i) (by rw[add_block];exact hl)];exact hc i d hd
theorem Ro.below(h:Ro w v xs)(hb:Below w.heap.size w w'):Ro w' v xs:=by
 obtain⟨a,c,h1,h2,h3,h4⟩:=h;exact⟨a,c,h1,h2,h3,h4.below hb⟩
theorem Ro.drewN(h:Ro w v xs)(n:Nat):Ro (w.drewN n) v xs:=h.below (_root_.Go.below_drewN aB n)
theorem Jo.ro{len cap:Nat}{zs:List Int}(h:Jo .i64 w a len cap zs):Ro w (slice a len cap) (zs.take len):=by
 rcases h with⟨rfl,rfl,rfl,rfl⟩|⟨x,rfl,h1,h2,h3,h4,h5⟩
 ·exact⟨none,0,rfl,aU _,by omega,λh=>absurd rfl h⟩
 ·have hl:(zs.take len).length=len:=by rw[dP];omega
  refine⟨some x,cap,by rw[hl],by omega,by unfold maxLen at h2;omega,λhx=>⟨x,rfl,?_,λi d hd=>?_⟩⟩
  ·have h0:0<zs.length:=by
    rcases Nat.eq_zero_or_pos zs.length with h|h
    ·exact absurd (by rw[List.length_eq_zero_iff.1 h];simp) hx
    ·exact h
   have:=cell_lt (x:=x.add 0) (h4 0 h0);rwa[add_block] at this
  ·rw[eP] at hd
   split at hd
   ·obtain⟨hi,he⟩:=aK.1 hd
    rw[h4 i hi,dD,hd];rfl
   ·cases hd
structure aI where
 id:Int
 ay:Int
 kind:Int
 at_:Int
 life:Int
 load:Int
 task:Int
 goal:Int
def aI.val(k:aI):Value:=.agg #[int i64 k.id,int i64 k.ay,int i64 k.kind,int i64 k.at_,int i64 k.life,int i64 k.load,int i64 k.task,int i64 k.goal]
structure fA(w:World)(y:Addr)(k:aI):Prop where
 c0:w.cell? y=some (int i64 k.id)
 c1:w.cell? ⟨y.block,y.off+1,none⟩=some (int i64 k.ay)
 c2:w.cell? ⟨y.block,y.off+2,none⟩=some (int i64 k.kind)
 c3:w.cell? ⟨y.block,y.off+3,none⟩=some (int i64 k.at_)
 c4:w.cell? ⟨y.block,y.off+4,none⟩=some (int i64 k.life)
 c5:w.cell? ⟨y.block,y.off+5,none⟩=some (int i64 k.load)
 c6:w.cell? ⟨y.block,y.off+6,none⟩=some (int i64 k.task)
 c7:w.cell? ⟨y.block,y.off+7,none⟩=some (int i64 k.goal)
theorem fA.lt{k:aI}(h:fA w y k):y.block<w.heap.size:=cell_lt h.c0
theorem fA.below{k:aI}(h:fA w y k)(hb:Below B w w')(hy:y.block<B):fA w' y k:=
 ⟨by rw[hb.cell (p:=y) hy];exact h.c0,by rw[hb.cell (p:=⟨y.block,y.off+1,none⟩) hy];exact h.c1,by rw[hb.cell (p:=⟨y.block,y.off+2,none⟩) hy];exact h.c2,by rw[hb.cell (p:=⟨y.block,y.off+3,none⟩) hy];exact h.c3,by rw[hb.cell (p:=⟨y.block,y.off+4,none⟩) hy];exact h.c4,by rw[hb.cell (p:=⟨y.block,y.off+5,none⟩) hy];exact h.c5,by rw[hb.cell (p:=⟨y.block,y.off+6,none⟩) hy];exact h.c6,by rw[hb.cell (p:=⟨y.block,y.off+7,none⟩) hy];exact h.c7⟩
def oP(w:World)(v:Value)(ks:List aI):Prop:=∃a c,v=slice a ks.length c/\ks.length<=c/\c<=9223372036854775807/\(ks≠[]->∃x,a=some x/\x.block<w.heap.size/\∀(i:Nat) k,ks[i]? =some k->fA w (x.add (i*8)) k)
theorem oP.below{ks:List aI}(h:oP w v ks)(hb:Below w.heap.size w w'):oP w' v ks:=by
 obtain⟨a,c,h1,h2,h3,h4⟩:=h;refine⟨a,c,h1,h2,h3,λhn=>?_⟩;obtain⟨x,e,hx,hk⟩:=h4 hn;exact⟨x,e,fE hx hb.size,λi k hi=>(hk i k hi).below hb (by rw[add_block];exact hx)⟩
theorem fA.mk'(k:aI)(hz:w.heap.size=z):fA (w.alloc (.cells #[int i64 k.id,int i64 k.ay,int i64 k.kind,int i64 k.at_,int i64 k.life,int i64 k.load,int i64 k.task,int i64 k.goal] 74)) ⟨z,0,none⟩ k:=by
 subst hz;constructor<;>simp
structure bM where
 ay:Int
 unit:Int
 kind:Int
 left:Int
def bM.val(k:bM):Value:=.agg #[int i64 k.ay,int i64 k.unit,int i64 k.kind,int i64 k.left]
structure nI(w:World)(y:Addr)(k:bM):Prop where
 c0:w.cell? y=some (int i64 k.ay)
 c1:w.cell? ⟨y.block,y.off+1,none⟩=some (int i64 k.unit)
 c2:w.cell? ⟨y.block,y.off+2,none⟩=some (int i64 k.kind)
 c3:w.cell? ⟨y.block,y.off+3,none⟩=some (int i64 k.left)
theorem nI.lt{k:bM}(h:nI w y k):y.block<w.heap.size:=cell_lt h.c0
theorem nI.below{k:bM}(h:nI w y k)(hb:Below B w w')(hy:y.block<B):nI w' y k:=
 ⟨by rw[hb.cell (p:=y) hy];exact h.c0,by rw[hb.cell (p:=⟨y.block,y.off+1,none⟩) hy];exact h.c1,by rw[hb.cell (p:=⟨y.block,y.off+2,none⟩) hy];exact h.c2,by rw[hb.cell (p:=⟨y.block,y.off+3,none⟩) hy];exact h.c3⟩
def VF(w:World)(v:Value)(ks:List bM):Prop:=∃a c,v=slice a ks.length c/\ks.length<=c/\c<=9223372036854775807/\(ks≠[]->∃x,a=some x/\x.block<w.heap.size/\∀(i:Nat) k,ks[i]? =some k->nI w (x.add (i*4)) k)
theorem VF.below{ks:List bM}(h:VF w v ks)(hb:Below w.heap.size w w'):VF w' v ks:=by
 obtain⟨a,c,h1,h2,h3,h4⟩:=h;refine⟨a,c,h1,h2,h3,λhn=>?_⟩;obtain⟨x,e,hx,hk⟩:=h4 hn;exact⟨x,e,fE hx hb.size,λi k hi=>(hk i k hi).below hb (by rw[add_block];exact hx)⟩
theorem nI.mk'(k:bM)(hz:w.heap.size=z):nI (w.alloc (.cells #[int i64 k.ay,int i64 k.unit,int i64 k.kind,int i64 k.left] 93)) ⟨z,0,none⟩ k:=by
 subst hz;constructor<;>simp
end
section
structure WV where
 turn:Int
 next:Int
 wide:Int
 high:Int
 gs:List Int
 os:List Int
 gold:List Int
 us:List aI
 qs:List bM
namespace Wd
def punit(b:List UInt8):Pr aI:=pbind (dN b) λv0=>pbind (dN b) λv1=>pbind (dN b) λv2=>pbind (dN b) λv3=>pbind (dN b) λv4=>pbind (dN b) λv5=>pbind (dN b) λv6=>pbind (dN b) λv7=>KT ⟨v0,v1,v2,v3,v4,v5,v6,v7⟩
def Au(b:List UInt8):Pr bM:=pbind (dN b) λv0=>pbind (dN b) λv1=>pbind (dN b) λv2=>pbind (dN b) λv3=>KT ⟨v0,v1,v2,v3⟩
def pz(b:List UInt8):Pr WV:=pbind (dN b) λt=>pbind (dN b) λx=>pbind (dN b) λwd=>pbind (dN b) λhg=>pbind (nG b (dN b)) λgs=>pbind (nG b (dN b)) λos=>pbind (nG b (dN b)) λgold=>pbind (nG b (punit b)) λus=>pbind (nG b (Au b)) λqs=>KT ⟨t,x,wd,hg,gs,os,gold,us,qs⟩
def iM(u:aI):List Int:=[u.id,u.ay,u.kind,u.at_,u.life,u.load,u.task,u.goal]
def iO(j:bM):List Int:=[j.ay,j.unit,j.kind,j.left]
def nums(W:WV):List Int:=[W.turn,W.next,W.wide,W.high]++((W.gs.length:Int)::W.gs)++((W.os.length:Int)::W.os)++((W.gold.length:Int)::W.gold)++((W.us.length:Int)::W.us.flatMap iM)++((W.qs.length:Int)::W.qs.flatMap iO)
def enc(W:WV):List UInt8:=wr (nums W)
structure VQ(W:WV):Prop where
 in_:∀n∈nums W,In64 n
 g:W.gs.length<=200
 o:W.os.length<=200
 p:W.gold.length<=200
 u:W.us.length<=200
 q:W.qs.length<=200
theorem EJ(b:List UInt8):Reads b (punit b) iM (λu=>∀n∈iM u,In64 n):=by
 have h:=oz b;have:=Reads.bind aI.id h (λv0=>Reads.bind aI.ay h (λv1=>Reads.bind aI.kind h (λv2=>Reads.bind aI.at_ h (λv3=>Reads.bind aI.life h (λv4=>Reads.bind aI.load h (λv5=>Reads.bind aI.task h (λv6=>Reads.bind aI.goal h (λv7=>rH b (⟨v0,v1,v2,v3,v4,v5,v6,v7⟩:aI)) (by intro v u hu;subst hu;rfl)) (by intro v u hu;rw[hu.2])) (by intro v u hu;rw[hu.2.2])) (by intro v u hu;rw[hu.2.2.2])) (by intro v u hu;rw[hu.2.2.2.2])) (by intro v u hu;rw[hu.2.2.2.2.2])) (by intro v u hu;rw[hu.2.2.2.2.2.2])) (by intro v u hu;rw[hu.2.2.2.2.2.2.2]);refine this.as (λv=>rfl) λv=>?_
 simp[iM]
theorem KY(b:List UInt8):Reads b (Au b) iO (λu=>∀n∈iO u,In64 n):=by
 have h:=oz b;have:=Reads.bind bM.ay h (λv0=>Reads.bind bM.unit h (λv1=>Reads.bind bM.kind h (λv2=>Reads.bind bM.left h (λv3=>rH b (⟨v0,v1,v2,v3⟩:bM)) (by intro v u hu;subst hu;rfl)) (by intro v u hu;rw[hu.2])) (by intro v u hu;rw[hu.2.2])) (by intro v u hu;rw[hu.2.2.2]);refine this.as (λv=>rfl) λv=>?_
 simp[iO]
theorem PO:∀l:List Int,l.flatMap (λn=>[n])=l
 |[]=>rfl
 |x::l=>by rw[List.flatMap_cons,PO l];rfl
theorem EM(b:List UInt8):Reads b (nG b (dN b)) (λl=>(l.length:Int)::l) (λl=>l.length<=200/\∀v∈l,In64 v):=(oz b).list.as (λv=>by rw[PO]) (λv=>Iff.rfl)
theorem Aw(b:List UInt8):Reads b (pz b) nums VQ:=by
 have h:=oz b;have hi:=EM b;have:=Reads.bind WV.turn h (λv0=>Reads.bind WV.next h (λv1=>Reads.bind WV.wide h (λv2=>Reads.bind WV.high h (λv3=>Reads.bind WV.gs hi (λv4=>Reads.bind WV.os hi (λv5=>Reads.bind WV.gold hi (λv6=>Reads.bind WV.us (EJ b).list (λv7=>Reads.bind WV.qs (KY b).list (λv8=>rH b (⟨v0,v1,v2,v3,v4,v5,v6,v7,v8⟩:WV)) (by intro v u hu;subst hu;rfl)) (by intro v u hu;rw[hu.2])) (by intro v u hu;rw[hu.2.2])) (by intro v u hu;rw[hu.2.2.2])) (by intro v u hu;rw[hu.2.2.2.2])) (by intro v u hu;rw[hu.2.2.2.2.2])) (by intro v u hu;rw[hu.2.2.2.2.2.2])) (by intro v u hu;rw[hu.2.2.2.2.2.2.2])) (by intro v u hu;rw[hu.2.2.2.2.2.2.2.2]);refine this.as (λv=>by simp[nums]) λv=>?_
 constructor
 ·intro k
  have i:=k.in_;have mem:∀{n:Int},n∈nums v↔n=v.turn\/n=v.next\/n=v.wide\/n=v.high\/n=v.gs.length\/n∈v.gs\/n=v.os.length\/n∈v.os\/n=v.gold.length\/n∈v.gold\/n=v.us.length\/n∈v.us.flatMap iM\/n=v.qs.length\/n∈v.qs.flatMap iO:=by
   intro n;simp[nums]
  refine⟨i _ (mem.2 (by simp)),i _ (mem.2 (by simp)),i _ (mem.2 (by simp)),i _ (mem.2 (by simp)),⟨k.g,λn hn=>i _ (mem.2 (by simp[hn]))⟩,⟨k.o,λn hn=>i _ (mem.2 (by simp[hn]))⟩,⟨k.p,λn hn=>i _ (mem.2 (by simp[hn]))⟩,⟨k.u,λu hu n hn=>i _ (mem.2 ?_)⟩,⟨k.q,λu hu n hn=>i _ (mem.2 ?_)⟩,rfl⟩
  ·have:n∈v.us.flatMap iM:=List.mem_flatMap.2 ⟨u,hu,hn⟩
   simp only[this,true_or,or_true]
  ·have:n∈v.qs.flatMap iO:=List.mem_flatMap.2 ⟨u,hu,hn⟩
   simp only[this,or_true]
 ·rintro⟨h0,h1,h2,h3,⟨h4,h5⟩,⟨h6,h7⟩,⟨h8,h9⟩,⟨h10,h11⟩,⟨h12,h13⟩,-⟩
  refine⟨?_,h4,h6,h8,h10,h12⟩;intro n hn;simp only[nums,gJ,bP,List.not_mem_nil,or_false,List.mem_flatMap] at hn;rcases hn with(((((rfl|rfl|rfl|rfl)|(rfl|hn))|(rfl|hn))|(rfl|hn))|(rfl|⟨u,hu,hn⟩))|(rfl|⟨u,hu,hn⟩)
  ·exact h0
  ·exact h1
  ·exact h2
  ·exact h3
  ·exact rJ h4
  ·exact h5 _ hn
  ·exact rJ h6
  ·exact h7 _ hn
  ·exact rJ h8
  ·exact h9 _ hn
  ·exact rJ h10
  ·exact h11 u hu n hn
  ·exact rJ h12
  ·exact h13 u hu n hn
theorem VR{W:WV}(h:VQ W)(t:List UInt8):pz (enc W++t) 0=some (W,(enc W).length):=by
 have:=(Aw (enc W++t)).fwd (a:=0) (v:=W) (t:=t) h rfl;rw[aO] at this;exact this
end Wd
end
namespace Fd
variable {H W:Nat} {g o:Int} {gs os:List Int}
def dX(g o:Int):Int:=if g<0\/3<g\/o<0\/1000000<o then 1 else if 0<o/\g≠0 then 7 else 0
def d_:List Int->List Int->Int
 |g::gs,o::os=>if dX g o=0 then d_ gs os else dX g o
 |_,_=>0
def fault(W H:Int)(gs os:List Int):Int:=
 if W<1\/12<W\/H<1\/12<H then 1 else if(gs.length:Int)≠W*H\/(os.length:Int)≠W*H then 3 else d_ gs os
structure Good(W H:Nat)(gs os:List Int):Prop where
 w1:1<=W
 w2:W<=12
 h1:1<=H
 h2:H<=12
 gl:gs.length=W*H
 ol:os.length=W*H
 cell:∀(i:Nat) g o,gs[i]? =some g->os[i]? =some o->0<=g/\g<=3/\0<=o/\o<=1000000/\(0<o->g=0)
theorem t_(h:dX g o=0):0<=g/\g<=3/\0<=o/\o<=1000000/\(0<o->g=0):=by
 unfold dX at h;split at h
 ·omega
 ·split at h
  ·omega
  ·omega
theorem nH:∀(gs os:List Int),d_ gs os=0->∀(i:Nat) g o,gs[i]? =some g->os[i]? =some o->dX g o=0
 |[],_,_,i,g,o,h1,_=>by simp at h1
 |_::_,[],_,i,g,o,_,h2=>by simp at h2
 |g0::gs,o0::os,h,i,g,o,h1,h2=>by
  unfold d_ at h;split at h
  ·rename_i hc
   cases i with
   |zero=>simp at h1 h2;subst h1;subst h2;exact hc
   |succ i=>exact nH gs os h i g o (by simpa using h1) (by simpa using h2)
  ·rename_i hc
   exact absurd h hc
theorem pF{W H:Int}(h:fault W H gs os=0):∃W' H':Nat,W=W'/\H=H'/\Good W' H' gs os:=by
 unfold fault at h;split at h
 ·omega
 ·split at h
  ·omega
  ·rename_i h1 h2
   refine⟨W.toNat,H.toNat,by omega,by omega,by omega,by omega,by omega,by omega,?_,?_,λi g o hg ho=>t_ (nH gs os h i g o hg ho)⟩
   ·have e:((W.toNat*H.toNat:Nat):Int)=W*H:=by rw[Int.natCast_mul,Int.toNat_of_nonneg (by omega),Int.toNat_of_nonneg (by omega)]
    omega
   ·have e:((W.toNat*H.toNat:Nat):Int)=W*H:=by rw[Int.natCast_mul,Int.toNat_of_nonneg (by omega),Int.toNat_of_nonneg (by omega)]
    omega
theorem yO(h:0<=g/\g<=3/\0<=o/\o<=1000000/\(0<o->g=0)):dX g o=0:=by
 unfold dX;rw[if_neg (by omega),if_neg (by omega)]
theorem oU:∀(gs os:List Int),(∀(i:Nat) g o,gs[i]? =some g->os[i]? =some o->dX g o=0)->d_ gs os=0
 |[],_,_=>by unfold d_;rfl
 |_::_,[],_=>by unfold d_;rfl
 |g::gs,o::os,h=>by
  unfold d_;rw[if_pos (h 0 g o rfl rfl)];exact oU gs os λi g' o' h1 h2=>h (i+1) g' o' (by simpa using h1) (by simpa using h2)
theorem eU(h:Good W H gs os):fault W H gs os=0:=by
 have e:((W*H:Nat):Int)=(W:Int)*H:=Int.natCast_mul _ _;have:=h.gl;have:=h.ol;have:=h.w1;have:=h.w2;have:=h.h1;have:=h.h2
 unfold fault;rw[if_neg (by omega),if_neg (by omega)];exact oU gs os λi g o h1 h2=>yO (h.cell i g o h1 h2)
theorem Good.pos(h:Good W H gs os):1<=W*H/\W*H<=144:=by
 have h1:=o_ h.w1 h.h1;have h2:=o_ h.w2 h.h2;omega
theorem sZ(gs os:List Int)(k:Nat)(g o:Int)(hg:gs[k]? =some g)(ho:os[k]? =some o):
  d_ (gs.drop k) (os.drop k)=if dX g o=0 then d_ (gs.drop (k+1)) (os.drop (k+1)) else dX g o:=by
 obtain⟨h1,e1⟩:=aK.1 hg;obtain⟨h2,e2⟩:=aK.1 ho;rw[List.drop_eq_getElem_cons h1,List.drop_eq_getElem_cons h2,e1,e2];rfl
def fU(F:Int)(n:Nat)(xs:List Int):Int:=if F≠0 then F else if xs.all (λx=>decide (0<=x/\x<n)) then 0 else 6
def near(W H a:Nat):List Int:=
 (if 0<a/W then[(a:Int)-W] else[])++((if 0<a%W then[(a:Int)-1] else[])++((if a%W+1<W then[(a:Int)+1] else[])++(if a/W+1<H then[(a:Int)+W] else[])))
def onto(g:Int)(Jp:Bool):Int:=if g=1 then 0 else if g=2 then(if Jp then 1 else 0) else if g=3 then(if Jp then 1 else 2) else 1
end Fd
namespace Tx
def cut(c:UInt8):List UInt8->List (List UInt8)
 |[]=>[[]]
 |b::r=>if b=c then[]::cut c r else match cut c r with
  |[]=>[[b]]
  |w::ws=>(b::w)::ws
def aaW(b:UInt8):Bool:=decide (48<=b.toNat)&&decide (b.toNat<=57)
def dig(n:Nat):List UInt8:=if n<10 then[(48+n).toUInt8] else dig (n/10)++[(48+n%10).toUInt8]
termination_by n
def val(l:List UInt8):Nat:=l.foldl (λn b=>n*10+(b.toNat-48)) 0
def whole(most:Nat)(l:List UInt8):Option Nat:=if l=[]\/most<l.length\/(l.head? =some 48/\1<l.length) then none else if l.all aaW then some (val l) else none
end Tx
namespace Kd
open Tx
structure K where
 name:List UInt8
 nums:List Int
 Jp:Bool
 PU:Bool
def iF(b:UInt8):Bool:=decide (97<=b.toNat)&&decide (b.toNat<=122)
def nN(l:List UInt8):Bool:= !l.isEmpty&&(decide (l.length<=8)&&l.all iF)
def eu(ns:List Int):Int:=if ns.any (λx=>decide (x<0\/1000<x)) then 1 else if ns.getD 0 0<1\/4<ns.getD 4 0\/12<ns.getD 2 0\/12<ns.getD 3 0 then 1 else 0
def eG(ahead:List K)(k:K):Int:=if nN k.name then(if ahead.any (λa=>a.name==k.name) then 8 else eu k.nums) else 2
def ji(ahead:List K):List K->Int
 |[]=>0
 |k::r=>if eG ahead k=0 then ji (ahead++[k]) r else eG ahead k
def bg(l:List K):Int:=if 8<l.length then 4 else ji [] l
def flag(b:Bool)(c:UInt8):List UInt8:=if b then[c] else[45]
def words(k:K):List (List UInt8):=k.name::((k.nums.map λn=>dig n.toNat)++[flag k.Jp 102,flag k.PU 116])
def PV(c:UInt8)(w:List UInt8):Option Bool:=if w=[c] then some true else if w=[45] then some false else none
def PZ:List (List UInt8)->Option (List Int)
 |[]=>some []
 |w::r=>match whole 4 w,PZ r with
  |some n,some ns=>some ((n:Int)::ns)
  |_,_=>none
def Zr(ws:List (List UInt8)):Option K:=if ws.length=11 then
  match PZ ((ws.drop 1).take 8),PV 102 (ws.getD 9 []),PV 116 (ws.getD 10 []) with
  |some ns,some f,some t=>some ⟨ws.getD 0 [],ns,f,t⟩
  |_,_,_=>none
 else none
def P_(acc:List K):List (List UInt8)->(Nat×Int) ⊕ List K
 |[]=>.inr acc
 |[w]=>if w=[] then .inr acc else .inl (acc.length,2)
 |w::v::r=>match Zr (cut 32 w) with
  |none=>.inl (acc.length,2)
  |some k=>if acc.length=8 then .inl (acc.length,4) else if eG acc k=0 then P_ (acc++[k]) (v::r) else .inl (acc.length,eG acc k)
def parse(s:List UInt8):(Nat×Int) ⊕ List K:=P_ [] (cut 10 s)
structure Fit(k:K):Prop where
 len:k.nums.length=8
 low:∀n∈k.nums,0<=n/\n<10000
end Kd
section
open Go.RowKit
variable {w w':World} {y:Addr}
structure KV where
 b:ByteArray
 n0:Int
 n1:Int
 n2:Int
 n3:Int
 n4:Int
 n5:Int
 n6:Int
 n7:Int
 f:Bool
 t:Bool
def KV.k(k:KV):Kd.K:=⟨k.b.data.toList,[k.n0,k.n1,k.n2,k.n3,k.n4,k.n5,k.n6,k.n7],k.f,k.t⟩
def KV.val(k:KV):Value:=.agg #[.string k.b,int i64 k.n0,int i64 k.n1,int i64 k.n2,int i64 k.n3,int i64 k.n4,int i64 k.n5,int i64 k.n6,int i64 k.n7,.bool k.f,.bool k.t]
structure Kc(w:World)(y:Addr)(k:KV):Prop where
 c0:w.cell? y=some (.string k.b)
 c1:w.cell? ⟨y.block,y.off+1,none⟩=some (int i64 k.n0)
 c2:w.cell? ⟨y.block,y.off+2,none⟩=some (int i64 k.n1)
 c3:w.cell? ⟨y.block,y.off+3,none⟩=some (int i64 k.n2)
 c4:w.cell? ⟨y.block,y.off+4,none⟩=some (int i64 k.n3)
 c5:w.cell? ⟨y.block,y.off+5,none⟩=some (int i64 k.n4)
 c6:w.cell? ⟨y.block,y.off+6,none⟩=some (int i64 k.n5)
 c7:w.cell? ⟨y.block,y.off+7,none⟩=some (int i64 k.n6)
 c8:w.cell? ⟨y.block,y.off+8,none⟩=some (int i64 k.n7)
 c9:w.cell? ⟨y.block,y.off+9,none⟩=some (.bool k.f)
 c10:w.cell? ⟨y.block,y.off+10,none⟩=some (.bool k.t)
theorem Kc.lt{k:KV}(h:Kc w y k):y.block<w.heap.size:=cell_lt h.c0
theorem Kc.below{k:KV}{B:Nat}(h:Kc w y k)(hb:Below B w w')(hy:y.block<B):Kc w' y k:=
 ⟨by rw[hb.cell (p:=y) hy];exact h.c0,by rw[hb.cell (p:=⟨y.block,y.off+1,none⟩) hy];exact h.c1,by rw[hb.cell (p:=⟨y.block,y.off+2,none⟩) hy];exact h.c2,by rw[hb.cell (p:=⟨y.block,y.off+3,none⟩) hy];exact h.c3,by rw[hb.cell (p:=⟨y.block,y.off+4,none⟩) hy];exact h.c4,by rw[hb.cell (p:=⟨y.block,y.off+5,none⟩) hy];exact h.c5,by rw[hb.cell (p:=⟨y.block,y.off+6,none⟩) hy];exact h.c6,by rw[hb.cell (p:=⟨y.block,y.off+7,none⟩) hy];exact h.c7,by rw[hb.cell (p:=⟨y.block,y.off+8,none⟩) hy];exact h.c8,by rw[hb.cell (p:=⟨y.block,y.off+9,none⟩) hy];exact h.c9,by rw[hb.cell (p:=⟨y.block,y.off+10,none⟩) hy];exact h.c10⟩
def Kl(w:World)(v:Value)(ks:List KV):Prop:=∃a c,v=slice a ks.length c/\ks.length<=c/\c<=9223372036854775807/\(ks≠[]->∃x,a=some x/\x.block<w.heap.size/\∀(i:Nat) k,ks[i]? =some k->Kc w (x.add (i*11)) k)
theorem Kl.below{v:Value}{ks:List KV}(h:Kl w v ks)(hb:Below w.heap.size w w'):Kl w' v ks:=by
 obtain⟨a,c,h1,h2,h3,h4⟩:=h;refine⟨a,c,h1,h2,h3,λhn=>?_⟩;obtain⟨x,e,hx,hk⟩:=h4 hn;exact⟨x,e,fE hx hb.size,λi k hi=>(hk i k hi).below hb (by rw[add_block];exact hx)⟩
theorem Kc.mk'{z:Nat}(k:KV)(hz:w.heap.size=z):Kc (w.alloc (.cells #[.string k.b,int i64 k.n0,int i64 k.n1,int i64 k.n2,int i64 k.n3,int i64 k.n4,int i64 k.n5,int i64 k.n6,int i64 k.n7,.bool k.f,.bool k.t] 77)) ⟨z,0,none⟩ k:=by
 subst hz;constructor<;>simp
end
section
variable {W:WV} {a:Act} {base i k n z:Nat} {ks:List KV} {o:Oper} {ops:Array Oper} {r:Int} {rest:List Oper} {row:Option Nat} {u:aI} {u1 u2 u3 u4 u5 v:Value} {w w':World} {xs:List Int}
namespace Wd
def off(least n:Int):Bool:= !decide (least<=n/\n<=1000000)
def b_(W:WV):Bool:=off 0 W.turn||(off 1 W.next||(!decide (1<=(W.gold.length:Int)/\(W.gold.length:Int)<=4)||W.gold.any (off 0)))
def has(n:Nat)(i:Int):Bool:=decide (0<=i/\i<(n:Int))
def open_(gs:List Int)(ahead:List aI)(at_:Int)(fl:Bool):Bool:=decide (0<Fd.onto (gs.getD at_.toNat 0) fl)&& !ahead.any (λu=>u.at_==at_)
def gQ(W:WV)(ahead:List aI)(u:aI)(k:KV):Int:=
 if !decide (1<=u.life/\u.life<=k.n0)||(!decide (0<=u.load/\u.load<=k.n7)|| !decide (0<=u.task/\u.task<=2)) then 1
 else if !has W.gs.length u.at_|| !has W.gs.length u.goal then 6
 else if !open_ W.gs ahead u.at_ k.f||(u.goal != 0&&u.task==0) then 7 else 0
def dF(us:List aI)(i:Nat)(u:aI):Bool:=match i with
 |0=>false
 |j+1=>match us[j]? with
  |none=>false
  |some x=>decide (u.id<=x.id)
def bG(ks:List KV)(W:WV)(i:Nat)(u:aI):Int:=
 if !decide (1<=u.id/\u.id<=W.next-1) then 1
 else if dF W.us i u then 5
 else if !has W.gold.length u.ay|| !has ks.length u.kind then 1
 else match ks[u.kind.toNat]? with
  |none=>1
  |some k=>gQ W (W.us.take i) u k
def dY(ks:List KV)(W:WV)(i:Nat):List aI->Int
 |[]=>0
 |u::r=>if bG ks W i u=0 then dY ks W (i+1) r else bG ks W i u
def aY(ks:List KV)(W:WV)(j:bM):Int:=match W.us.find? (λu=>u.id==j.unit) with
 |none=>6
 |some u=>match ks[u.kind.toNat]? with
  |none=>7
  |some k=>if u.ay != j.ay|| !k.t then 7 else if !has ks.length j.kind|| !decide (1<=j.left/\j.left<=1000) then 1 else 0
def iW(ks:List KV)(W:WV):List bM->Int
 |[]=>0
 |j::r=>if aY ks W j=0 then iW ks W r else aY ks W j
def ground(ks:List KV)(W:WV):Int:=if Kd.bg (ks.map KV.k)=0 then Fd.fault W.wide W.high W.gs W.os else Kd.bg (ks.map KV.k)
def aP(ks:List KV)(W:WV):Int:=
 if ground ks W≠0 then ground ks W
 else if b_ W then 1
 else if 40<W.us.length then 4
 else if dY ks W 0 W.us≠0 then dY ks W 0 W.us
 else if 12<W.qs.length then 4
 else iW ks W W.qs
theorem EP(h:W.us[i]? =some u):dY ks W i (W.us.drop i)=if bG ks W i u=0 then dY ks W (i+1) (W.us.drop (i+1)) else bG ks W i u:=by
 obtain⟨hi,e⟩:=aK.1 h;rw[List.drop_eq_getElem_cons hi,e];rfl
theorem K_{j:bM}(h:W.qs[i]? =some j):iW ks W (W.qs.drop i)=if aY ks W j=0 then iW ks W (W.qs.drop (i+1)) else aY ks W j:=by
 obtain⟨hi,e⟩:=aK.1 h;rw[List.drop_eq_getElem_cons hi,e];rfl
end Wd
open Go.RowKit
def Wl(w:World)(v:Value)(W:WV):Prop:=∃u1 u2 u3 u4 u5,v=.agg #[int i64 W.turn,int i64 W.next,int i64 W.wide,int i64 W.high,u1,u2,u3,u4,u5]/\Ro w u1 W.gs/\Ro w u2 W.os/\Ro w u3 W.gold/\oP w u4 W.us/\VF w u5 W.qs
theorem Wl.below(h:Wl w v W)(hb:Below w.heap.size w w'):Wl w' v W:=by
 obtain⟨u1,u2,u3,u4,u5,h1,h2,h3,h4,h5,h6⟩:=h;exact⟨u1,u2,u3,u4,u5,h1,h2.below hb,h3.below hb,h4.below hb,h5.below hb,h6.below hb⟩
structure Bw(w:World)(z:Nat)(W:WV)(u1 u2 u3 u4 u5:Value):Prop where
 c0:w.cell? ⟨z,0,none⟩=some (int i64 W.turn)
 c1:w.cell? ⟨z,1,none⟩=some (int i64 W.next)
 c2:w.cell? ⟨z,2,none⟩=some (int i64 W.wide)
 c3:w.cell? ⟨z,3,none⟩=some (int i64 W.high)
 c4:w.cell? ⟨z,4,none⟩=some u1
 c5:w.cell? ⟨z,5,none⟩=some u2
 c6:w.cell? ⟨z,6,none⟩=some u3
 c7:w.cell? ⟨z,7,none⟩=some u4
 c8:w.cell? ⟨z,8,none⟩=some u5
theorem Bw.lt(h:Bw w z W u1 u2 u3 u4 u5):z<w.heap.size:=cell_lt h.c0
theorem Bw.below(h:Bw w z W u1 u2 u3 u4 u5)(hb:Below n w w')(hn:z<n):Bw w' z W u1 u2 u3 u4 u5:=
 ⟨by rw[hb.cell (p:=⟨z,0,none⟩) hn];exact h.c0,by rw[hb.cell (p:=⟨z,1,none⟩) hn];exact h.c1,by rw[hb.cell (p:=⟨z,2,none⟩) hn];exact h.c2,by rw[hb.cell (p:=⟨z,3,none⟩) hn];exact h.c3,by rw[hb.cell (p:=⟨z,4,none⟩) hn];exact h.c4,by rw[hb.cell (p:=⟨z,5,none⟩) hn];exact h.c5,by rw[hb.cell (p:=⟨z,6,none⟩) hn];exact h.c6,by rw[hb.cell (p:=⟨z,7,none⟩) hn];exact h.c7,by rw[hb.cell (p:=⟨z,8,none⟩) hn];exact h.c8⟩
theorem Bw.mk'(W:WV)(u1 u2 u3 u4 u5:Value)(hz:w.heap.size=z):Bw (w.alloc (.cells #[int i64 W.turn,int i64 W.next,int i64 W.wide,int i64 W.high,u1,u2,u3,u4,u5] 29)) z W u1 u2 u3 u4 u5:=by
 subst hz;constructor<;>simp
def WV.zero:WV:=⟨0,0,0,0,[],[],[],[],[]⟩
theorem lS:(prog.info? 3).map (λi=>(i.zero,i.size,i.bytes))=some (some (int i64 0),1,8):=by kernel_rfl
def Ow(w:World)(base:Nat)(v:Value)(xs:List Int):Prop:=w.ownsRow base 3 1 v xs.length (xs.map (int i64))
theorem Ow.nil(w:World)(base:Nat):Ow w base (slice none 0 0) []:=World.ownsRow_nil _ _ _ _
theorem Ow.ro(h:Ow w base v xs):Ro w v xs:=by
 rcases h.2 with⟨hv,h0⟩|⟨g,cap,cur,hv,hb,hg,h1,h2,h3,h4⟩
 ·obtain rfl:=List.length_eq_zero_iff.1 h0
  exact⟨none,0,hv,aU _,by omega,λh=>absurd rfl h⟩
 ·refine⟨_,cap,hv,h1,by unfold maxLen at h2;omega,λ_=>⟨_,rfl,lt_of_block hg,λi d hd=>?_⟩⟩
  have hi:=(aK.1 hd).1;rw[Addr.add_lit,aO];have h5:w.ownsRow base 3 1 (slice (some ⟨g,0,none⟩) xs.length cap) xs.length (xs.map (int i64)):=by rw[<-hv];exact h
  rw[h5.cellAt i (by omega),fG,hd];rfl
theorem Ow.kept(h:Ow w base v xs)(hg:w.grownBy w' row)(hne:v.ownBlock=none\/v.ownBlock≠row):Ow w' base v xs:=World.ownsRow.kept h hg hne
theorem Ow.alloc(h:Ow w base v xs)(o:Obj):Ow (w.alloc o) base v xs:=World.ownsRow.alloc h o
theorem Ow.drewN(h:Ow w base v xs)(n:Nat):Ow (w.drewN n) base v xs:=h
theorem Ow.block(h:Ow w base v xs):∀k,v.ownBlock=some k->base<=k/\k<w.heap.size:=World.ownsRow.lt h
theorem Ow.below(h:Ow w base v xs)(hb:Below w.heap.size w w'):Ow w' base v xs:=
 h.kept (row:=none) ⟨hb.os,hb.tape,hb.output,hb.size,λk hk _=>hb.block k hk⟩ (by cases v.ownBlock<;>simp)
theorem Ow.mono{base':Nat}(h:Ow w base v xs)(hb:base'<=base):Ow w base' v xs:=by
 refine⟨h.1,?_⟩;rcases h.2 with h1|⟨g,cap,cur,h1,h2,h3⟩
 ·exact .inl h1
 ·exact .inr ⟨g,cap,cur,h1,aJ hb h2,h3⟩
theorem Ow.len(h:Ow w base v xs):∃a c,v=slice a xs.length c:=by
 obtain⟨a,c,h1,-⟩:=h.ro;exact⟨a,c,h1⟩
theorem gG{Q:Exit->Act->World->Prop}(w:World)(hgd:o.guard=none)(s x:Operand)
  (ho:o.op=.call {callee:=.builtin .append,args:= #[s,x],argTypes:= #[23,23]}) (base:Nat) (v:Value) (xs:List Int) (hs:a.eval s=v) (hown:Ow w base v xs)
  (ad:Addr) (d:Int) (hx:a.eval x=slice (some ad) 1 1) (hd:w.cell? ad=some (int i64 d)) (hl:xs.length<=1000000000) (hbase:base<=w.heap.size)
  (h:∀g cap w',Ow w' base (slice (some ⟨g,0,none⟩) (xs.length+1) cap) (xs++[d])->w.grownBy w' v.ownBlock->(v.ownBlock=some g\/g=w.heap.size)->g<w'.heap.size->wpList prog ops Q rest (a.put o.dst (slice (some ⟨g,0,none⟩) (xs.length+1) cap)) w'):
  wpList prog ops Q (o::rest) a w:=by
 obtain⟨i0,hi,hz0,hz1,hz2⟩:=info_parts lS;refine wpList_append_lies w hgd s x 23 ho _ 3 i0 _ 1 8 underlying23 hi hz0 hz1 hz2 rfl (by decide) v _ _ hs hown ad 1 1 [int i64 d] hx rfl ?_ ?_ (by decide) (by unfold maxLen;omega) (by omega) hbase _ rfl ?_
 ·intro j u hj
  match j,hj with
  |0,hj=>simp at hj;subst hj;exact hd
 ·intro u hu
  simp at hu;subst hu;rfl
 ·intro g cap w' h1 h2 h3 h4
  refine h g _ w' ?_ h2 h3 h4;unfold Ow;rw[aC,kH];exact h1
theorem Ow.one{w:World}{base z:Nat}(d:Int)(hb:base<=w.heap.size)(hz:w.heap.size=z):Ow (w.alloc (.cells #[int i64 d] 3)) base (slice (some ⟨z,0,none⟩) 1 1) [d]:=by
 subst hz;exact⟨rfl,.inr ⟨_,_,_,rfl,hb,heap_alloc_new w _,aU _,by unfold maxLen;decide,rfl,rfl⟩⟩
theorem jI{P:Program}(base:Nat)(t ty e:TypeId)(i:TypeInfo)(size:Nat)(ht:P.underlying t=some (.slice e))(hi:P.info? e=some i)
  (v:Value) (n:Nat) (xs:List Value) (hown:w.ownsRow base e size v n xs) (a:Option Addr) (c:Nat):
  (Builtin.append_ #[t,t] ty #[v,slice a 0 c]).run P w=.ok v w:=by
 rcases hown.2 with⟨rfl,rfl⟩|⟨g,cap,cur,rfl,_,_,hnc,_⟩
 ·cases a<;>simp[Builtin.append_,run_underlying ht,sizeOf,typeInfo,hi,Builtin.lenOf,Builtin.firstCells,loadCells,loadCellsFrom]
 ·cases a<;>simp[Builtin.append_,run_underlying ht,sizeOf,typeInfo,hi,Builtin.lenOf,Builtin.firstCells,hnc,storeCells,loadCells,loadCellsFrom]
theorem mG{Q:Exit->Act->World->Prop}(w:World)(hgd:o.guard=none)(s x:Operand)
  (ho:o.op=.call {callee:=.builtin .append,args:= #[s,x],argTypes:= #[23,23]}) (base:Nat) (v:Value) (xs:List Int) (hs:a.eval s=v) (hown:Ow w base v xs)
  (u:Value) (ys:List Int) (hx:a.eval x=u) (hu:Ro w u ys) (hl:xs.length+ys.length<=1000000000) (hbase:base<=w.heap.size)
  (h:∀v' w',Ow w' base v' (xs++ys)->w.grownBy w' v.ownBlock->(v'.ownBlock=v.ownBlock\/v'.ownBlock=some w.heap.size)->wpList prog ops Q rest (a.put o.dst v') w'):
  wpList prog ops Q (o::rest) a w:=by
 obtain⟨i0,hi,hz0,hz1,hz2⟩:=info_parts lS;obtain⟨ad,c,rfl,h1,h2,h3⟩:=hu;by_cases hn:ys=[]
 ·subst hn
  refine wpList_plain hgd λK hK=>?_
  have hrun:=jI (P:=prog) (w:=w) base 23 o.type 3 i0 1 underlying23 hi v xs.length _ hown ad c;have hx':a.eval x=slice ad 0 c:=hx;unfold Oper.wp;simp[execOp,ho,resolve,invoke,builtin,hs,hx',hrun,Result.andThen];exact hK _ _ (h v w (by simpa using hown) (World.grownBy.refl _ _) (.inl rfl))
 ·obtain⟨y,rfl,hy,hc⟩:=h3 hn
  refine wpList_append_lies w hgd s x 23 ho _ 3 i0 _ 1 8 underlying23 hi hz0 hz1 hz2 rfl (by decide) v _ _ hs hown y _ c (ys.map (int i64)) hx (by simp) ?_ ?_ (List.length_pos_iff.2 hn) (by unfold maxLen;omega) (by omega) hbase _ rfl ?_
  ·intro j u hj
   rw[fG] at hj;cases hd:ys[j]? with
   |none=>rw[hd] at hj;cases hj
   |some d=>rw[hd] at hj;cases hj;exact hc j d hd
  ·exact ints_oneCell _ _
  ·intro g cap w' k1 k2 k3 _
   refine h _ w' ?_ k2 ?_
   ·unfold Ow
    rw[aC,kH];exact k1
   ·rcases k3 with k3|k3
    ·exact .inl k3.symm
    ·exact .inr (by rw[k3];rfl)
theorem Ro.lit(xs:List Int)(cs:Array Value)(hc:cs.toList=xs.map (int i64))(hl:xs.length<=1000)(hz:w.heap.size=z):Ro (w.alloc (.cells cs 3)) (slice (some ⟨z,0,none⟩) xs.length xs.length) xs:=by
 subst hz;refine⟨_,xs.length,rfl,aU _,by omega,λ_=>⟨_,rfl,by simp,λi d hd=>?_⟩⟩;rw[Addr.add_lit,aO];have hh:=heap_alloc_new w (.cells cs 3);simp only[World.cell?,hh];rw[<-Array.getElem?_toList,hc,fG,hd];rfl
def iP(W:WV):Nat->List Int
 |0=>[W.turn,W.next,W.wide,W.high]
 |1=>[W.turn,W.next,W.wide,W.high]++((W.gs.length:Int)::W.gs)
 |2=>[W.turn,W.next,W.wide,W.high]++((W.gs.length:Int)::W.gs)++((W.os.length:Int)::W.os)
 |_=>[W.turn,W.next,W.wide,W.high]++((W.gs.length:Int)::W.gs)++((W.os.length:Int)::W.os)++((W.gold.length:Int)::W.gold)
def nO(W:WV)(k:Nat):List Int:=iP W 3++((W.us.length:Int)::(W.us.take k).flatMap Wd.iM)
def oV(W:WV)(k:Nat):List Int:=nO W W.us.length++((W.qs.length:Int)::(W.qs.take k).flatMap Wd.iO)
theorem xB(W:WV):oV W W.qs.length=Wd.nums W:=by
 simp[oV,nO,iP,Wd.nums]
structure mJ(W:WV):Prop where
 g:W.gs.length<=1048576
 o:W.os.length<=1048576
 p:W.gold.length<=1048576
 u:W.us.length<=1048576
 q:W.qs.length<=1048576
theorem jc(h:mJ W)(k:Nat):(iP W k).length<=4000000:=by
 obtain⟨h1,h2,h3,h4,h5⟩:=h
 match k with
 |0=>simp[iP]
 |1=>simp[iP];omega
 |2=>simp[iP];omega
 |_+3=>simp[iP];omega
theorem ug{α:Type}{f:α->List Int}{n:Nat}(hf:∀x,(f x).length=n):∀l:List α,(l.flatMap f).length=n*l.length
 |[]=>by simp
 |x::l=>by rw[List.flatMap_cons,aC,ug hf l,hf,dI,Nat.mul_add];omega
theorem rM(h:mJ W)(k:Nat):(nO W k).length<=13000000:=by
 have h1:=jc h 3;have h2:=h.u;unfold nO;rw[aC,dI,ug (n:=8) (λx=>rfl),dP];omega
theorem xC(h:mJ W)(k:Nat):(oV W k).length<=18000000:=by
 have h1:=rM h W.us.length;have h2:=h.q;unfold oV;rw[aC,dI,ug (n:=4) (λx=>rfl),dP];omega
theorem ES(h:W.us[k]? =some u):nO W (k+1)=nO W k++Wd.iM u:=by
 obtain⟨hi,e⟩:=aK.1 h;unfold nO;rw[dM hi,fM,e];simp
theorem ET{u:bM}(h:W.qs[k]? =some u):oV W (k+1)=oV W k++Wd.iO u:=by
 obtain⟨hi,e⟩:=aK.1 h;unfold oV;rw[dM hi,fM,e];simp
theorem Bw.grown(h:Bw w z W u1 u2 u3 u4 u5)(hg:w.grownBy w' row)(hr:∀k,row=some k->z<k):Bw w' z W u1 u2 u3 u4 u5:=
 h.below (n:=z+1) (aB.grown hg h.lt (λk hk=>hr k hk)) (fC _)
theorem bD{cs:Array Value}{T:TypeId}(hz:w.heap.size=z)(hv:cs[i]? =some v):(w.alloc (.cells cs T)).cell? ⟨z,i,none⟩=some v:=by
 subst hz;simp only[World.cell?,heap_alloc_new];simpa using hv
structure Nm1(w:World)(W:WV)(u1 u2 u3 u4 u5:Value)(zl:Nat)(lv:Value)(l:List Int)(W':World):Prop where
 o:Ow W' (w.heap.size+2) lv l
 ne:lv.ownBlock≠some zl
 b:Bw W' w.heap.size W u1 u2 u3 u4 u5
 c0:W'.cell? ⟨zl,0,none⟩=some u1
 c1:W'.cell? ⟨zl,1,none⟩=some u2
 c2:W'.cell? ⟨zl,2,none⟩=some u3
 bl:Below w.heap.size w W'
theorem Nm1.step{w:World}{W:WV}{u1 u2 u3 u4 u5:Value}{zl:Nat}{lv lv':Value}{l l':List Int}{W' W'' X:World}(h:Nm1 w W u1 u2 u3 u4 u5 zl lv l W')(hX1:Below W'.heap.size W' X)(hg:X.grownBy W'' lv.ownBlock)(ho:Ow W'' (w.heap.size+2) lv' l')(hb:lv'.ownBlock=lv.ownBlock\/lv'.ownBlock=some X.heap.size):Nm1 w W u1 u2 u3 u4 u5 zl lv' l' W'':=by
 have hzl:zl<W'.heap.size:=cell_lt h.c0;have hXs:=hX1.size;have hob:∀k,lv.ownBlock=some k->w.heap.size+2<=k:=λk hk=>(h.o.block k hk).1
 have far:∀p:Addr,p.block<W'.heap.size->some p.block≠lv.ownBlock->W''.cell? p=W'.cell? p:=λp hp hne=>by
  rw[hg.cell_far p (by omega) hne,hX1.cell hp]
 have lz:=h.b.lt;have bw:=(h.bl.trans (hX1.mono (by omega))).grown hg (by omega) (λk hk=>by have:=hob k hk;omega);refine⟨ho,?_,(h.b.below hX1 h.b.lt).grown hg (λk hk=>by have:=hob k hk;omega),?_,?_,?_,bw⟩
 ·rcases hb with hb|hb
  ·rw[hb];exact h.ne
  ·rw[hb];intro e;injection e with e;omega
 ·rw[far ⟨zl,0,none⟩ hzl (λe=>h.ne e.symm)];exact h.c0
 ·rw[far ⟨zl,1,none⟩ hzl (λe=>h.ne e.symm)];exact h.c1
 ·rw[far ⟨zl,2,none⟩ hzl (λe=>h.ne e.symm)];exact h.c2
theorem uh{g cap:Nat}(h:v.ownBlock=some g\/g=z):(slice (some ⟨g,0,none⟩) n cap).ownBlock=v.ownBlock\/(slice (some ⟨g,0,none⟩) n cap).ownBlock=some z:=by
 rcases h with h|h
 ·exact .inl (by rw[h];rfl)
 ·exact .inr (by rw[h];rfl)
theorem Wl.slices(h:Wl w (.agg #[int i64 W.turn,int i64 W.next,int i64 W.wide,int i64 W.high,u1,u2,u3,u4,u5]) W):Ro w u1 W.gs/\Ro w u2 W.os/\Ro w u3 W.gold/\oP w u4 W.us/\VF w u5 W.qs:=by
 obtain⟨v1,v2,v3,v4,v5,ev,r⟩:=h;simp only[Value.agg.injEq,Array.mk.injEq,List.cons.injEq,and_true,true_and] at ev;obtain⟨rfl,rfl,rfl,rfl,rfl⟩:=ev;exact r
def mM(p:aI->Bool)(ks:List aI)(r:Int):Prop:=(r= -1/\ks.any p=false)\/∃(k:Nat) (x:aI),r=k/\ks[k]? =some x/\p x=true/\(ks.take k).any p=false
theorem xE{p:aI->Bool}{ks:List aI}{x:aI}(h:ks[k]? =some x):(ks.take (k+1)).any p=((ks.take k).any p||p x):=by
 obtain⟨hi,e⟩:=aK.1 h;rw[dM hi,List.any_append,e];simp
theorem uj(K:Nat)(eK:∀args w,(callFunc K args).run prog w=.ok (.enter K args) w)(u:Value)(cs:Array Value)(ks:List aI)(p:aI->Bool)(w:World)(hu:oP w u ks)
  (hp:∀W,Below w.heap.size w W->∀k:aI,Calls prog K (#[k.val]++cs) W λe w'=>e=.returned (.bool (p k))/\Below W.heap.size W w'):
  Calls prog 97 #[u,.func (Fn.func K) #[] cs] w λe w'=>∃r:Int,e=.returned (int i64 r)/\mM p ks r/\Below w.heap.size w w':=by
 obtain⟨a,c,rfl,c1,c2,ca⟩:=hu;have Ca:=aj (ca);have Hp:=aj (hp);clear ca hp;go_enter func97,ntmps97;go_wp2;go_loopw [8] (λi W'=>∃k:Nat,k<=ks.length/\i=int i64 (k:Nat)/\(ks.take k).any p=false/\Below w.heap.size w W') (λi _=>ks.length-(intOf i).toNat)
 case atStart=>exact⟨0,aZ _,rfl,by simp,dU _ _⟩
 case round=>
  obtain⟨k,hk,rfl,ht,hb⟩:=hrel;have Ht:=aj (ht);have B:=aj (hb);clear ht hb;by_cases h0:k=ks.length
  ·subst h0
   go_wp2;go_ret;refine⟨_,rfl,.inl ⟨rfl,?_⟩,B⟩;have:=Ht.out;rw[List.take_of_length_le aN] at this;exact this
  ·have hkx:k<ks.length:=by omega
   obtain⟨x,rfl,hx1,hx⟩:=Ca (by intro h;rw[h] at hkx;simp at hkx);obtain⟨y,hy⟩:∃y,ks[k]? =some y:=⟨_,aH hkx⟩;have Yc:=(hx k y hy).below B (by rw[add_block];exact hx1);obtain⟨q0,q1,q2,q3,q4,q5,q6,q7⟩:=Yc;have hc:=Hp wr B y;have Hs:Hid _:=xE (p:=p) hy;have Hm:=aj (hy);clear hx hx1 hy;cases hy:p y with
   |true=>
    rw[hy] at hc;have Hc:=aj (hc);have Hy:=aj (hy);clear hc hy;go_wp2_with fail
    refine Calls.mono Hc ?_;rintro e w1 ⟨rfl,b1⟩;have B1:=aG B b1;clear b1;go_wp2;go_ret;exact⟨_,rfl,.inr ⟨k,y,rfl,Hm,Hy,Ht⟩,B1⟩
   |false=>
    rw[hy] at hc;have Hc:=aj (hc);have Hy:=aj (hy);clear hc hy;go_wp2_with fail
    refine Calls.mono Hc ?_;rintro e w1 ⟨rfl,b1⟩;have B1:=aG B b1;clear b1;go_wp2;go_round
    case rel=>exact⟨k+1,by omega,by go_num,by have:=Hs.out;rw[Ht.out,Hy.out] at this;exact this,B1⟩
    case measure=>simp[intOf];omega
theorem mM.has{p:aI->Bool}{xs:List aI}(h:mM p xs r):decide (0<=r)=xs.any p:=by
 rcases h with⟨rfl,h⟩|⟨k,x,rfl,h1,h2,_⟩
 ·rw[h];decide
 ·rw[decide_eq_true (by omega)]
  exact(gK.2 ⟨x,aT h1,h2⟩).symm
theorem um(K:Nat)(eK:∀args w,(callFunc K args).run prog w=.ok (.enter K args) w)(u:Value)(cs:Array Value)(ks:List aI)(p:aI->Bool)(w:World)(hu:oP w u ks)
  (hp:∀W,Below w.heap.size w W->∀k:aI,Calls prog K (#[k.val]++cs) W λe w'=>e=.returned (.bool (p k))/\Below W.heap.size W w'):
  Calls prog 129 #[u,.func (Fn.func K) #[] cs] w λe w'=>e=.returned (.bool (ks.any p))/\Below w.heap.size w w':=by
 have H':=aj (uj K eK u cs ks p w hu hp);clear hp;go_enter func129,ntmps129;go_wp2_with fail
 refine Calls.mono H' ?_;rintro e w1 ⟨r,rfl,hr,q⟩;have Hr:=aj (hr.has);have Q:=aj (q);clear hr q;go_wp2;go_ret;exact⟨by show Ending.returned (.bool (decide (0<=r)))=_;rw[Hr.out],Q⟩
theorem dh(x lo hi:Int)(w:World):Calls prog 74 #[int i64 x,int i64 lo,int i64 hi] w λe w'=>e=.returned (.bool (decide (lo<=x/\x<=hi)))/\w'=w:=by
 by_cases h1:lo<=x
 ·by_cases h2:x<=hi
  ·go_enter func74,ntmps74
   go_wp2;go_ret;refine⟨?_,rfl⟩;rw[decide_eq_true ⟨h1,h2⟩];rfl
  ·go_enter func74,ntmps74
   go_wp2;go_ret;refine⟨?_,rfl⟩;rw[decide_eq_false (by omega)];rfl
 ·go_enter func74,ntmps74
  go_wp2;go_ret;refine⟨?_,rfl⟩;rw[decide_eq_false (by omega)];rfl
theorem qx{p:Int->Bool}(h:k<xs.length):(xs.take (k+1)).any p=((xs.take k).any p||p xs[k]):=by
 rw[dM h,List.any_append];simp
def VG(p:Int->Bool)(xs:List Int)(r:Int):Prop:=(r= -1/\xs.any p=false)\/∃(k:Nat) (x:Int),r=k/\xs[k]? =some x/\p x=true/\(xs.take k).any p=false
theorem Az(K:Nat)(eK:∀args w,(callFunc K args).run prog w=.ok (.enter K args) w)(u:Value)(cs:Array Value)(xs:List Int)(p:Int->Bool)(w:World)(hu:Ro w u xs)
  (hp:∀m,∀x∈xs,Calls prog K (#[int i64 x]++cs) (w.drewN m) λe w'=>e=.returned (.bool (p x))/\∃q,w'=w.drewN q):
  Calls prog 165 #[u,.func (Fn.func K) #[] cs] w λe w'=>∃r:Int,e=.returned (int i64 r)/\VG p xs r/\∃q,w'=w.drewN q:=by
 obtain⟨a,c,rfl,c1,c2,ca⟩:=hu;have Ca:=aj (ca);have Hp:=aj (hp);clear ca hp;go_enter func165,ntmps165;go_wp2;go_loopw [8] (λi W'=>∃k q:Nat,k<=xs.length/\i=int i64 (k:Nat)/\(xs.take k).any p=false/\W'=w.drewN q) (λi _=>xs.length-(intOf i).toNat)
 case atStart=>exact⟨0,0,aZ _,rfl,by simp,rfl⟩
 case round=>
  obtain⟨k,q,hk,rfl,ht,rfl⟩:=hrel;have Ht:=aj (ht);clear ht;by_cases h0:k=xs.length
  ·subst h0
   go_wp2;go_ret;refine⟨_,rfl,.inl ⟨rfl,?_⟩,_,rfl⟩;have:=Ht.out;rw[List.take_of_length_le aN] at this;exact this
  ·have hkx:k<xs.length:=by omega
   obtain⟨x,rfl,-,hx⟩:=Ca (by intro h;rw[h] at hkx;simp at hkx);have cx:(w.drewN q).cell? _=some _:=hx k _ (aH hkx);have hc:=Hp q xs[k] (kG hkx);have Hs:Hid _:=qx (p:=p) hkx;have Hm:=aj (aH hkx);generalize xs[k]=y at *;generalize w.drewN q=w1 at *;clear hx;cases hy:p y with
   |true=>
    rw[hy] at hc;have Hc:=aj (hc);have Hy:=aj (hy);clear hc hy;go_wp2_with fail
    refine Calls.mono Hc ?_;rintro e w1 ⟨rfl,q1,rfl⟩;go_wp2;go_ret;exact⟨_,rfl,.inr ⟨k,y,rfl,Hm,Hy,Ht⟩,q1,rfl⟩
   |false=>
    rw[hy] at hc;have Hc:=aj (hc);have Hy:=aj (hy);clear hc hy;go_wp2_with fail
    refine Calls.mono Hc ?_;rintro e w1 ⟨rfl,q1,rfl⟩;go_wp2;go_round
    case rel=>exact⟨k+1,q1,by omega,by go_num,by have:=Hs.out;rw[Ht.out,Hy.out] at this;exact this,rfl⟩
    case measure=>simp[intOf];omega
theorem VG.has{p:Int->Bool}(h:VG p xs r):decide (0<=r)=xs.any p:=by
 rcases h with⟨rfl,h⟩|⟨k,x,rfl,h1,h2,_⟩
 ·rw[h];decide
 ·rw[decide_eq_true (by omega)]
  exact(gK.2 ⟨x,aT h1,h2⟩).symm
theorem AA(K:Nat)(eK:∀args w,(callFunc K args).run prog w=.ok (.enter K args) w)(u:Value)(cs:Array Value)(xs:List Int)(p:Int->Bool)(w:World)(hu:Ro w u xs)
  (hp:∀m,∀x∈xs,Calls prog K (#[int i64 x]++cs) (w.drewN m) λe w'=>e=.returned (.bool (p x))/\∃q,w'=w.drewN q):
  Calls prog 123 #[u,.func (Fn.func K) #[] cs] w λe w'=>e=.returned (.bool (xs.any p))/\∃q,w'=w.drewN q:=by
 have H:=Az K eK u cs xs p w hu hp;have H':=aj (H);clear H hp;go_enter func123,ntmps123;go_wp2_with fail
 refine Calls.mono H' ?_;rintro e w1 ⟨r,rfl,hr,q,rfl⟩;have Hr:=aj (hr.has);clear hr;go_wp2;go_ret;exact⟨by show Ending.returned (.bool (decide (0<=r)))=_;rw[Hr.out],q,rfl⟩
theorem mM.one{p:aI->Bool}{us:List aI}{r r':Int}(h:mM p us r)(h':mM p us r'):r=r':=by
 rcases h with⟨rfl,h1⟩|⟨k,x,rfl,h1,h2,h3⟩
 ·rcases h' with⟨rfl,_⟩|⟨k,x,rfl,g1,g2,g3⟩
  ·rfl
  ·have:us.any p=true:=gK.2 ⟨x,aT g1,g2⟩
   rw[h1] at this;cases this
 ·rcases h' with⟨rfl,g⟩|⟨k',x',rfl,g1,g2,g3⟩
  ·have:us.any p=true:=gK.2 ⟨x,aT h1,h2⟩
   rw[g] at this;cases this
  ·rcases Nat.lt_trichotomy k k' with hl|hl|hl
   ·have:(us.take k').any p=true:=gK.2 ⟨x,aT (by rw[eP,if_pos hl];exact h1),h2⟩
    rw[g3] at this;cases this
   ·rw[hl]
   ·have:(us.take k).any p=true:=gK.2 ⟨x',aT (by rw[eP,if_pos hl];exact g1),g2⟩
    rw[h3] at this;cases this
theorem Jq(u:aI)(id:Int)(b:Nat)(w:World)(hc:w.cell? ⟨b,0,none⟩=some (int i64 id)):
  Calls prog 161 #[u.val,.pointer (some ⟨b,0,none⟩)] w λe w'=>e=.returned (.bool (u.id==id))/\Below w.heap.size w w':=by
 have hb:b<w.heap.size:=cell_lt hc;have hne:b≠w.heap.size:=by omega
 unfold aI.val;go_enter func161,ntmps161;go_wp2;go_ret;exact⟨rfl,aA⟩
theorem rO(v:Value)(W:WV)(id:Int)(w:World)(h:Wl w v W):
  Calls prog 113 #[v,int i64 id] w λe w'=>∃r:Int,e=.returned (int i64 r)/\mM (λu=>u.id==id) W.us r/\Below w.heap.size w w':=by
 have H:=aj (h);obtain⟨u1,u2,u3,u4,u5,rfl,-,-,-,h4,-⟩:=h;have U:=aj (h4);clear h4;go_enter func113,ntmps113;go_wp2_with fail
 have B0:Hid (Below _ w ((w.alloc (cells #[int i64 W.turn,int i64 W.next,int i64 W.wide,int i64 W.high,u1,u2,u3,u4,u5] 29)).alloc (cells #[int i64 id] 3))):=aA.alloc (by simp) _;have C0:Hid (((w.alloc (cells #[int i64 W.turn,int i64 W.next,int i64 W.wide,int i64 W.high,u1,u2,u3,u4,u5] 29)).alloc (cells #[int i64 id] 3)).cell? ⟨w.heap.size+1,0,none⟩=some (int i64 id)):=bD (by simp) rfl;generalize ((w.alloc _).alloc _)=w0 at *;refine(uj 161 (by intro args w;go_simp) u4 #[.pointer (some ⟨w.heap.size+1,0,none⟩)] W.us (λu=>u.id==id) w0 (U.below B0) (λV hV k=>Jq k id (w.heap.size+1) V (by rw[hV.cell (p:=⟨w.heap.size+1,0,none⟩) (cell_lt C0.out)];exact C0))).mono ?_;rintro e w1 ⟨r,rfl,hf,hb⟩;have F:Hid (mM (λu=>u.id==id) W.us r/\Below w.heap.size w w1):=⟨hf,B0.trans (hb.mono B0.size)⟩;clear hf hb;go_wp2;go_ret;exact⟨r,rfl,F.1,F.2⟩
theorem gX(a:Option Addr)(n c:Nat)(i:Int)(w:World)(hn:n<=9223372036854775807):
  Calls prog 124 #[slice a n c,int i64 i] w λe w'=>e=.returned (.bool (decide (0<=i/\i<(n:Int))))/\w'=w:=by
 have hw:IntKind.i64.wrap ((n:Int)-1)=(n:Int)-1:=by rw[IntKind.wrap_i64];omega
 go_enter func124,ntmps124;go_wp2_with fail
 refine(dh i 0 _ w).mono ?_;rintro e w1 ⟨rfl,rfl⟩;have E:decide (0<=i/\i<=(n:Int)-1)=decide (0<=i/\i<(n:Int)):=decide_eq_decide.2 ⟨λh=>by omega,λh=>by omega⟩;rw[E];obtain⟨b,hb⟩:∃b,decide (0<=i/\i<(n:Int))=b:=⟨_,rfl⟩;rw[hb];have HB:=aj (hb);clear hb E;go_wp2;go_ret;exact⟨by rw[HB.out];rfl,rfl⟩
theorem kU(a:Option Addr)(n c:Nat)(i:Int)(w:World)(hn:n<=9223372036854775807):
  Calls prog 125 #[slice a n c,int i64 i] w λe w'=>e=.returned (.bool (decide (0<=i/\i<(n:Int))))/\w'=w:=by
 have hw:IntKind.i64.wrap ((n:Int)-1)=(n:Int)-1:=by rw[IntKind.wrap_i64];omega
 go_enter func125,ntmps125;go_wp2_with fail
 refine(dh i 0 _ w).mono ?_;rintro e w1 ⟨rfl,rfl⟩;have E:decide (0<=i/\i<=(n:Int)-1)=decide (0<=i/\i<(n:Int)):=decide_eq_decide.2 ⟨λh=>by omega,λh=>by omega⟩;rw[E];obtain⟨b,hb⟩:∃b,decide (0<=i/\i<(n:Int))=b:=⟨_,rfl⟩;rw[hb];have HB:=aj (hb);clear hb E;go_wp2;go_ret;exact⟨by rw[HB.out];rfl,rfl⟩
end
section
variable {H W:Int} {P:Program} {a:Act} {gs os:List Int} {i n z:Nat} {o oi:Oper} {ops:Array Oper} {rest:List Oper} {u1 u2 v:Value} {w w':World}
def Er(v:Value)(n:Int):Prop:=(n=0/\v=.nilIface)\/(n≠0/\v=.iface 85 (int i64 n))
theorem Er.nil:Er .nilIface 0:=.inl ⟨rfl,rfl⟩
theorem Er.no{n:Int}(h:n≠0):Er (.iface 85 (int i64 n)) n:=.inr ⟨h,rfl⟩
open Go.RowKit
theorem yP(x a b:Int)(w:World):
  Calls prog 163 #[int i64 x,int i64 a,int i64 b] w λe w'=>e=.returned (.bool (decide (a<=x/\x<=b)))/\w'=w:=by
 by_cases h1:a<=x
 ·by_cases h2:x<=b
  ·go_enter func163,ntmps163
   go_wp2;go_ret;exact⟨by simp[h1,h2],rfl⟩
  ·go_enter func163,ntmps163
   go_wp2;go_ret;exact⟨by simp;omega,rfl⟩
 ·go_enter func163,ntmps163
  go_wp2;go_ret;exact⟨by simp;omega,rfl⟩
theorem iQ(x a b:Int)(w:World)(h1:a<=x)(h2:x<=b):
  Calls prog 163 #[int i64 x,int i64 a,int i64 b] w λe w'=>e=.returned (.bool true)/\w'=w:=
 (yP x a b w).mono λe w' ⟨h,hw⟩=>⟨by rw[h,decide_eq_true ⟨h1,h2⟩],hw⟩
theorem rP(x a b:Int)(w:World)(h:x<a\/b<x):
  Calls prog 163 #[int i64 x,int i64 a,int i64 b] w λe w'=>e=.returned (.bool false)/\w'=w:=
 (yP x a b w).mono λe w' ⟨h',hw⟩=>⟨by rw[h',decide_eq_false (by omega)],hw⟩
theorem AO(g o:Int)(w:World):
  Calls prog 164 #[int i64 g,int i64 o] w λe w'=>∃v,e=.returned v/\Er v (Fd.dX g o)/\w'=w:=by
 unfold Fd.dX;by_cases h1:0<=g/\g<=3
 ·obtain⟨h1a,h1b⟩:=h1
  by_cases h2:0<=o/\o<=1000000
  ·obtain⟨h2a,h2b⟩:=h2
   rw[if_neg (by omega)];by_cases h3:0<o
   ·by_cases h4:g=0
    ·subst h4
     rw[if_neg (by omega)];go_enter func164,ntmps164;go_wp2_with (go_at_call 163;refine(iQ _ _ _ _ (by omega) (by omega)).mono ?_;rintro e w' ⟨rfl,rfl⟩);go_ret;exact⟨_,rfl,Er.nil,rfl⟩
    ·rw[if_pos ⟨h3,h4⟩]
     go_enter func164,ntmps164;go_wp2_with (go_at_call 163;refine(iQ _ _ _ _ (by omega) (by omega)).mono ?_;rintro e w' ⟨rfl,rfl⟩);go_ret;exact⟨_,rfl,Er.no (by decide),rfl⟩
   ·rw[if_neg (by omega)]
    go_enter func164,ntmps164;go_wp2_with (go_at_call 163;refine(iQ _ _ _ _ (by omega) (by omega)).mono ?_;rintro e w' ⟨rfl,rfl⟩);go_ret;exact⟨_,rfl,Er.nil,rfl⟩
  ·rw[if_pos (by omega)]
   have h2':o<0\/1000000<o:=by omega
   clear h2;go_enter func164,ntmps164;go_wp2_with fail
   refine(iQ _ _ _ _ (by omega) (by omega)).mono ?_;rintro e w' ⟨rfl,rfl⟩;go_wp2_with fail
   refine(rP _ _ _ _ h2').mono ?_;rintro e w' ⟨rfl,rfl⟩;go_wp2;go_ret;exact⟨_,rfl,Er.no (by decide),rfl⟩
 ·rw[if_pos (by omega)]
  have h1':g<0\/3<g:=by omega
  clear h1;go_enter func164,ntmps164;go_wp2_with fail
  refine(rP _ _ _ _ h1').mono ?_;rintro e w' ⟨rfl,rfl⟩;go_wp2;go_ret;exact⟨_,rfl,Er.no (by decide),rfl⟩
theorem VT(g o:Int)(w:World)(h:Fd.dX g o=0):
  Calls prog 164 #[int i64 g,int i64 o] w λe w'=>e=.returned .nilIface/\w'=w:=by
 refine(AO g o w).mono ?_;rintro e w' ⟨v,rfl,hv,rfl⟩;rcases hv with⟨_,rfl⟩|⟨hn,_⟩
 ·exact⟨rfl,rfl⟩
 ·exact absurd h hn
theorem Qa(g o f:Int)(w:World)(h:Fd.dX g o=f)(hf:f≠0):
  Calls prog 164 #[int i64 g,int i64 o] w λe w'=>e=.returned (.iface 85 (int i64 f))/\w'=w:=by
 refine(AO g o w).mono ?_;rintro e w' ⟨v,rfl,hv,rfl⟩;rw[h] at hv;rcases hv with⟨hn,_⟩|⟨_,rfl⟩
 ·exact absurd hn hf
 ·exact⟨rfl,rfl⟩
def Fl(w:World)(v:Value)(W H:Int)(gs os:List Int):Prop:=∃u1 u2,v=.agg #[int i64 W,int i64 H,u1,u2]/\Ro w u1 gs/\Ro w u2 os
theorem Fl.below(h:Fl w v W H gs os)(hb:Below w.heap.size w w'):Fl w' v W H gs os:=by
 obtain⟨u1,u2,h1,h2,h3⟩:=h;exact⟨u1,u2,h1,h2.below hb,h3.below hb⟩
structure Bf(w:World)(z:Nat)(W H:Int)(u1 u2:Value):Prop where
 c0:w.cell? ⟨z,0,none⟩=some (int i64 W)
 c1:w.cell? ⟨z,1,none⟩=some (int i64 H)
 c2:w.cell? ⟨z,2,none⟩=some u1
 c3:w.cell? ⟨z,3,none⟩=some u2
theorem Bf.lt(h:Bf w z W H u1 u2):z<w.heap.size:=cell_lt h.c0
theorem Bf.below(h:Bf w z W H u1 u2)(hb:Below n w w')(hn:z<n):Bf w' z W H u1 u2:=
 ⟨by rw[hb.cell (p:=⟨z,0,none⟩) hn];exact h.c0,by rw[hb.cell (p:=⟨z,1,none⟩) hn];exact h.c1,by rw[hb.cell (p:=⟨z,2,none⟩) hn];exact h.c2,by rw[hb.cell (p:=⟨z,3,none⟩) hn];exact h.c3⟩
theorem Bf.drewN(h:Bf w z W H u1 u2)(n:Nat):Bf (w.drewN n) z W H u1 u2:=h.below (_root_.Go.below_drewN aB n) h.lt
theorem Bf.mk'(W H:Int)(u1 u2:Value)(hz:w.heap.size=z):Bf (w.alloc (.cells #[int i64 W,int i64 H,u1,u2] 25)) z W H u1 u2:=by
 subst hz;exact⟨by simp,by simp,by simp,by simp⟩
theorem AQ(a b:Option Addr)(c d:Nat)(W H:Int)(gs os:List Int)(w:World)(w1:1<=W)(w2:W<=12)(h1:1<=H)(h2:H<=12)(hg:(gs.length:Int)=W*H)(ho:(os.length:Int)=W*H)
  (c1:gs.length<=c) (c2:c<=9223372036854775807) (d1:os.length<=d) (d2:d<=9223372036854775807) (ha:Cells w a gs) (hb:Cells w b os):
  Calls prog 121 #[.agg #[int i64 W,int i64 H,slice a gs.length c,slice b os.length d]] w λe w'=>∃v,e=.returned v/\Er v (Fd.d_ gs os)/\Below w.heap.size w w':=by
 have Ha:=aj (ha);have Hb:=aj (hb);have hn:W*H<=144:=by
  have:=Int.mul_le_mul w2 h2 (by omega) (by omega);omega
 have Ho:Hid (os.length=gs.length):=aj (by omega);have e1:W*H=(gs.length:Int):=by omega
 have e2:=Ho.out;clear ha hb;rw[e2] at d1 ⊢;clear hg ho e2;generalize hw0:w.alloc (cells #[int i64 W,int i64 H,slice a gs.length c,slice b gs.length d] 25)=w0;have B0:Hid (Below w.heap.size w w0):=by rw[<-hw0];exact aA
 have f0:w0.cell? ⟨w.heap.size,2,none⟩=some (slice a gs.length c):=by rw[<-hw0];simp
 have f1:w0.cell? ⟨w.heap.size,3,none⟩=some (slice b gs.length d):=by rw[<-hw0];simp
 have Hw:=aj (hw0);clear hw0;have Ca:=aj (Ha.below B0);have Cb:=aj (Hb.below B0);clear Ha Hb;go_enter func121,ntmps121;go_wp2_with (go_at_call 163;refine(iQ _ _ _ _ (by omega) (by omega)).mono ?_;rintro e w' ⟨rfl,rfl⟩);rw[Hw.out];go_loopw [36] (λi W'=>∃(k q:Nat),k<=gs.length/\i=int i64 (k:Nat)/\Fd.d_ (gs.drop k) (os.drop k)=Fd.d_ gs os/\W'=w0.drewN q) (λi _=>gs.length-(intOf i).toNat)
 case atStart=>exact⟨0,0,aZ _,rfl,by simp,rfl⟩
 case round=>
  obtain⟨k,q,hk,rfl,hf,rfl⟩:=hrel;have Hf:=aj (hf);clear hf;by_cases h0:k=gs.length
  ·subst h0
   go_wp2;go_ret;refine⟨_,rfl,?_,_root_.Go.below_drewN B0 q⟩;rw[<-Hf.out,List.drop_of_length_le aN];exact Er.nil
  ·have hkx:k<gs.length:=by omega
   have hky:k<os.length:=by rw[Ho.out];exact hkx
   obtain⟨x,rfl,-,hx⟩:=Ca (by intro h;rw[h] at hkx;simp at hkx);obtain⟨y,rfl,-,hy⟩:=Cb (by intro h;rw[h] at hky;simp at hky);have cx:=hx k gs[k] (aH hkx);have cy:=hy k os[k] (aH hky);have Te:=Fd.sZ gs os k gs[k] os[k] (aH hkx) (aH hky);rw[Hf.out] at Te;have HT:Hid _:=Te;generalize gs[k]=p at *;generalize os[k]=r at *;clear hx hy Te;have f0q:(w0.drewN q).cell? _=some _:=f0;have f1q:(w0.drewN q).cell? _=some _:=f1;have cxq:(w0.drewN q).cell? _=some _:=cx;have cyq:(w0.drewN q).cell? _=some _:=cy;have Bq:Hid (∀n,Below w.heap.size w ((w0.drewN q).drewN n)):=λn=>_root_.Go.below_drewN (_root_.Go.below_drewN B0 q) n
   have Eq:Hid (∀n,(w0.drewN q).drewN n=w0.drewN (q+n)):=λn=>by rw[World.drewN_drewN]
   clear cx cy;generalize w0.drewN q=wq at *;by_cases hc:Fd.dX p r=0
   ·have Hc:=aj (hc)
    clear hc;go_wp2;go_quiet ((go_at_call 164;exact Calls.quiet_of_same (VT _ _ _ Hc)));go_wp2;go_round
    case rel=>exact⟨k+1,q+nq,by omega,by go_num,by have:=HT.out;rw[if_pos Hc.out] at this;exact this.symm,Eq _⟩
    case measure=>simp[intOf];omega
   ·generalize VU:Fd.dX p r=ff at *
    have Hc:=aj (VU);have Hn:Hid (ff≠0):=hc;clear hc VU;go_wp2;go_quiet ((go_at_call 164;exact Calls.quiet_of_same (Qa _ _ _ _ Hc Hn)));go_wp2;go_ret;refine⟨_,rfl,?_,Bq _⟩;rw[HT.out,if_neg Hn.out];exact Er.no Hn
theorem AU(u1 u2:Value)(W H:Int)(w:World)(h:W<1\/12<W\/H<1\/12<H):
  Calls prog 121 #[.agg #[int i64 W,int i64 H,u1,u2]] w λe w'=>e=.returned (.iface 85 (int i64 1))/\Below w.heap.size w w':=by
 by_cases h1:1<=W/\W<=12
 ·obtain⟨h1a,h1b⟩:=h1
  have h2:H<1\/12<H:=by omega
  clear h;go_enter func121,ntmps121;go_wp2_with fail
  refine(iQ _ _ _ _ (by omega) (by omega)).mono ?_;rintro e w' ⟨rfl,rfl⟩;go_wp2_with fail
  refine(rP _ _ _ _ h2).mono ?_;rintro e w' ⟨rfl,rfl⟩;go_wp2;go_ret;exact⟨rfl,aA⟩
 ·have h2:W<1\/12<W:=by omega
  clear h h1;go_enter func121,ntmps121;go_wp2_with fail
  refine(rP _ _ _ _ h2).mono ?_;rintro e w' ⟨rfl,rfl⟩;go_wp2;go_ret;exact⟨rfl,aA⟩
theorem AV(a b:Option Addr)(n m c d:Nat)(W H:Int)(w:World)(w1:1<=W)(w2:W<=12)(h1:1<=H)(h2:H<=12)(h:(n:Int)≠W*H\/(m:Int)≠W*H):
  Calls prog 121 #[.agg #[int i64 W,int i64 H,slice a n c,slice b m d]] w λe w'=>e=.returned (.iface 85 (int i64 3))/\Below w.heap.size w w':=by
 have hn:W*H<=144:=by
  have:=Int.mul_le_mul w2 h2 (by omega) (by omega);omega
 have hp:0<=W*H:=Int.mul_nonneg (by omega) (by omega);by_cases e:(n:Int)=W*H
 ·have e2:¬(m:Int)=W*H:=by omega
  have e':=e.symm;rw[e'] at e2;clear h e;go_enter func121,ntmps121;go_wp2_with (go_at_call 163;refine(iQ _ _ _ _ (by omega) (by omega)).mono ?_;rintro e w' ⟨rfl,rfl⟩);go_ret;exact⟨rfl,aA⟩
 ·clear h
  go_enter func121,ntmps121;go_wp2_with (go_at_call 163;refine(iQ _ _ _ _ (by omega) (by omega)).mono ?_;rintro e w' ⟨rfl,rfl⟩);go_ret;exact⟨rfl,aA⟩
theorem check_any(v:Value)(W H:Int)(gs os:List Int)(w:World)(h:Fl w v W H gs os):
  Calls prog 121 #[v] w λe w'=>∃u,e=.returned u/\Er u (Fd.fault W H gs os)/\Below w.heap.size w w':=by
 obtain⟨u1,u2,rfl,⟨a,c,rfl,c1,c2,ca⟩,⟨b,d,rfl,d1,d2,cb⟩⟩:=h;unfold Fd.fault;by_cases h1:W<1\/12<W\/H<1\/12<H
 ·rw[if_pos h1]
  exact(AU _ _ W H w h1).mono λe w' ⟨he,hb⟩=>⟨_,he,Er.no (by decide),hb⟩
 ·rw[if_neg h1]
  by_cases h2:(gs.length:Int)≠W*H\/(os.length:Int)≠W*H
  ·rw[if_pos h2]
   exact(AV _ _ _ _ _ _ W H w (by omega) (by omega) (by omega) (by omega) h2).mono λe w' ⟨he,hb⟩=>⟨_,he,Er.no (by decide),hb⟩
  ·rw[if_neg h2]
   exact AQ a b c d W H gs os w (by omega) (by omega) (by omega) (by omega) (by omega) (by omega) c1 c2 d1 d2 ca cb
theorem AY{p:Int->Bool}{xs:List Int}{k:Nat}(h:k<xs.length):(xs.take (k+1)).any p=((xs.take k).any p||p xs[k]):=by
 rw[dM h,List.any_append];simp
theorem La(u q:Value)(xs:List Int)(p:Int->Bool)(w:World)(hu:Ro w u xs)
  (hp:∀x∈xs,Calls prog 232 #[int i64 x,q] w λe w'=>e=.returned (.bool (p x))/\w'=w):
  Calls prog 165 #[u,.func (Fn.func 232) #[] #[q]] w λe w'=>∃r:Int,e=.returned (int i64 r)/\decide (0<=r)=xs.any p/\w'=w:=by
 obtain⟨a,c,rfl,c1,c2,ca⟩:=hu;have Ca:=aj (ca);have Hp:=aj (hp);clear ca hp;go_enter func165,ntmps165;go_wp2;go_loop [8] (λi=>∃k:Nat,k<=xs.length/\i=int i64 (k:Nat)/\(xs.take k).any p=false) (λi=>xs.length-(intOf i).toNat)
 case atStart=>exact⟨0,aZ _,rfl,by simp⟩
 case round=>
  obtain⟨k,hk,rfl,ht⟩:=hrel;have Ht:=aj (ht);clear ht;by_cases h0:k=xs.length
  ·subst h0
   go_wp2;go_ret;refine⟨_,rfl,?_,rfl⟩;have:=Ht.out;rw[List.take_of_length_le aN] at this;rw[this];decide
  ·have hkx:k<xs.length:=by omega
   obtain⟨x,rfl,-,hx⟩:=Ca (by intro h;rw[h] at hkx;simp at hkx);have cx:=hx k xs[k] (aH hkx);have hc:=Hp xs[k] (kG hkx);have Hs:Hid _:=AY (p:=p) hkx;have Hm:Hid (p xs[k]=true->xs.any p=true):=λh=>gK.2 ⟨_,kG hkx,h⟩
   generalize xs[k]=y at *;clear hx;cases hy:p y with
   |true=>
    rw[hy] at hc;have Hc:=aj (hc);have Hy:=aj (hy);clear hc hy;go_wp2_with fail
    refine Calls.mono Hc ?_;rintro e w1 ⟨rfl,rfl⟩;go_wp2;go_ret;exact⟨_,rfl,by rw[Hm.out Hy.out,decide_eq_true (by omega)],rfl⟩
   |false=>
    rw[hy] at hc;have Hc:=aj (hc);have Hy:=aj (hy);clear hc hy;go_wp2_with fail
    refine Calls.mono Hc ?_;rintro e w1 ⟨rfl,rfl⟩;go_wp2;go_round
    case rel=>exact⟨k+1,by omega,by go_num,by have:=Hs.out;rw[Ht.out,Hy.out] at this;exact this⟩
    case measure=>simp[intOf];omega
theorem Qb(u q:Value)(xs:List Int)(p:Int->Bool)(w:World)(hu:Ro w u xs)
  (hp:∀x∈xs,Calls prog 232 #[int i64 x,q] w λe w'=>e=.returned (.bool (p x))/\w'=w):
  Calls prog 123 #[u,.func (Fn.func 232) #[] #[q]] w λe w'=>e=.returned (.bool (xs.any p))/\w'=w:=by
 have H:=La u q xs p w hu hp;have H':=aj (H);clear H hp;go_enter func123,ntmps123;go_wp2_with fail
 refine Calls.mono H' ?_;rintro e w1 ⟨r,rfl,hr,rfl⟩;have Hr:=aj (hr);clear hr;go_wp2;go_ret;exact⟨by show Ending.returned (.bool (decide (0<=r)))=_;rw[Hr.out],rfl⟩
theorem Qc(x:Int)(b:Nat)(a:Option Addr)(n c:Nat)(w:World)(hb:w.cell? ⟨b,2,none⟩=some (slice a n c))(hn:n<=9223372036854775807):
  Calls prog 232 #[int i64 x,.pointer (some ⟨b,0,none⟩)] w λe w'=>e=.returned (.bool (!decide (0<=x/\x<n)))/\w'=w:=by
 go_enter func232,ntmps232;go_wp2_with (go_at_call 163;refine(yP _ _ _ _).mono ?_;rintro e w' ⟨rfl,rfl⟩);go_ret;exact⟨by show Ending.returned (.bool (!decide (0<=x)|| !decide (x<=(n:Int)-1)))=_;rw[show(!decide (0<=x)|| !decide (x<=(n:Int)-1))= !decide (0<=x/\x<n) by rw[<-Bool.not_and,<-Bool.decide_and];congr 1;rw[decide_eq_decide];omega],rfl⟩
theorem tJ(v u:Value)(W H:Int)(gs os xs:List Int)(w:World)(h:Fl w v W H gs os)(hu:Ro w u xs):
  Calls prog 190 #[v,u] w λe w'=>∃u,e=.returned u/\Er u (Fd.fU (Fd.fault W H gs os) gs.length xs)/\Below w.heap.size w w':=by
 have F0:=aj (h);have U0:=aj (hu);obtain⟨u1,u2,rfl,⟨a,c,rfl,c1,c2,ca⟩,⟨b,d,rfl,d1,d2,cb⟩⟩:=h;clear hu ca cb d1 d2;generalize hw0:w.alloc (cells #[int i64 W,int i64 H,slice a gs.length c,slice b os.length d] 25)=w0;have B0:Hid (Below w.heap.size w w0):=by rw[<-hw0];exact aA
 have f0:Hid (w0.cell? ⟨w.heap.size,2,none⟩=some (slice a gs.length c)):=by rw[<-hw0];unfold Hid;simp
 have Z0:Hid (w.heap.size<w0.heap.size):=by rw[<-hw0];unfold Hid;simp
 have Hw:=aj (hw0);clear hw0;go_enter func190,ntmps190;go_wp2_with fail
 rw[Hw.out];refine(check_any _ W H gs os _ (F0.below B0)).mono ?_;rintro e w1 ⟨v1,rfl,hv,hb⟩;have B1:=aG B0 hb;have f1:Hid (w1.cell? ⟨w.heap.size,2,none⟩=some (slice a gs.length c)):=by
  unfold Hid;rw[hb.cell (p:=⟨w.heap.size,2,none⟩) Z0.out];exact f0
 have U1:=aj (U0.below B1);clear hb;rcases hv with⟨hz,rfl⟩|⟨hz,rfl⟩
 ·have Hz:=aj (hz)
  clear hz;have hh:=Qb u (.pointer (some ⟨w.heap.size,0,none⟩)) xs (λx=> !decide (0<=x/\x<gs.length)) w1 U1 (λx _=>Qc x _ a gs.length c w1 f1 (by omega));have Ea:Hid (Fd.fU (Fd.fault W H gs os) gs.length xs=if xs.any (λx=> !decide (0<=x/\x<gs.length)) then 6 else 0):=by
   unfold Hid Fd.fU;rw[if_neg (by rw[Hz.out];decide)];cases hx:xs.all (λx=>decide (0<=x/\x<gs.length)) with
   |true=>
    rw[if_pos rfl,if_neg];rw[lH] at hx;simp only[gK,Bool.not_eq_true',not_exists,not_and];intro x hm;rw[hx x hm];decide
   |false=>
    rw[if_neg (by decide),if_pos];rw[List.all_eq_false] at hx;obtain⟨x,hm,hx⟩:=hx;exact gK.2 ⟨x,hm,by rw[Bool.not_eq_true] at hx;rw[hx];rfl⟩
  generalize xs.any _=y at *;have Hh:=aj (hh);clear hh;cases y with
  |true=>
   go_wp2_with fail
   refine Calls.mono Hh ?_;rintro e w2 ⟨rfl,rfl⟩;go_wp2;go_ret;exact⟨_,rfl,by rw[Ea.out];exact Er.no (by decide),B1⟩
  |false=>
   go_wp2_with fail
   refine Calls.mono Hh ?_;rintro e w2 ⟨rfl,rfl⟩;go_wp2;go_ret;exact⟨_,rfl,by rw[Ea.out];exact Er.nil,B1⟩
 ·have Hz:=aj (hz)
  clear hz;have Ea:Hid (Fd.fU (Fd.fault W H gs os) gs.length xs=Fd.fault W H gs os):=by
   unfold Hid Fd.fU;rw[if_pos Hz.out]
  go_wp2;go_ret;exact⟨_,rfl,by rw[Ea.out];exact Er.no Hz,B1⟩
theorem Ro.EX(a:Int)(hz:w.heap.size=z):Ro (w.alloc (.cells #[int i64 a] 3)) (slice (some ⟨z,0,none⟩) 1 1) [a]:=by
 subst hz;refine⟨_,1,rfl,aU _,by omega,λ_=>⟨_,rfl,by simp,λi d hd=>?_⟩⟩;rw[Addr.add_lit,aO]
 match i,hd with
 |0,hd=>simp at hd;subst hd;simp
theorem Ro.aaX(a b:Int)(hz:w.heap.size=z):Ro (w.alloc (.cells #[int i64 a,int i64 b] 3)) (slice (some ⟨z,0,none⟩) 2 2) [a,b]:=by
 subst hz;refine⟨_,2,rfl,aU _,by omega,λ_=>⟨_,rfl,by simp,λi d hd=>?_⟩⟩;rw[Addr.add_lit,aO]
 match i,hd with
 |0,hd=>simp at hd;subst hd;simp
 |1,hd=>simp at hd;subst hd;simp
theorem Lc{F:Int}{a:Int}(h:Fd.fU F n [a]=0):F=0/\0<=a/\a<n:=by
 unfold Fd.fU at h;split at h
 ·omega
 ·rename_i hF
  have hF:F=0:=by omega
  split at h
  ·rename_i hx
   simp at hx;omega
  ·omega
theorem xG{W H:Nat}{a:Nat}(G:Fd.Good W H gs os)(ha:a<W*H):Fd.fU (Fd.fault W H gs os) gs.length [(a:Int)]=0:=by
 unfold Fd.fU;rw[Fd.eU G,if_neg (by decide),if_pos];rw[G.gl];simp;omega
theorem AZ(g:Int)(fl:Bool)(w:World):
  Calls prog 191 #[int i64 g,.bool fl] w λe w'=>e=.returned (int i64 (Fd.onto g fl))/\w'=w:=by
 have O:Hid (∀u,u=Fd.onto g fl->Ending.returned (int i64 u)=.returned (int i64 (Fd.onto g fl))):=λu h=>by rw[h]
 unfold Fd.onto at O;by_cases h1:g=1
 ·subst h1
  go_enter func191,ntmps191;go_wp2;go_ret;exact⟨O 0 rfl,rfl⟩
 ·by_cases h2:g=2
  ·subst h2
   cases fl
   ·go_enter func191,ntmps191
    go_wp2;go_ret;exact⟨O 0 rfl,rfl⟩
   ·go_enter func191,ntmps191
    go_wp2;go_ret;exact⟨O 1 rfl,rfl⟩
  ·by_cases h3:g=3
   ·subst h3
    cases fl
    ·go_enter func191,ntmps191
     go_wp2;go_ret;exact⟨O 2 rfl,rfl⟩
    ·go_enter func191,ntmps191
     go_wp2;go_ret;exact⟨O 1 rfl,rfl⟩
   ·go_enter func191,ntmps191
    go_wp2;go_ret;exact⟨O 1 (by rw[if_neg h1,if_neg h2,if_neg h3]),rfl⟩
theorem yQ(v:Value)(W H:Nat)(gs os:List Int)(a:Nat)(g:Int)(fl:Bool)(w:World)(h:Fl w v W H gs os)(G:Fd.Good W H gs os)(ha:a<W*H)(hg:gs[a]? =some g):
  Calls prog 152 #[v,int i64 (a:Nat),.bool fl] w λe w'=>e=.returned (.tuple #[int i64 (Fd.onto g fl),.nilIface])/\Below w.heap.size w w':=by
 have F0:=aj (h);have HF:=aj (xG G ha);obtain⟨u1,u2,rfl,⟨a1,c,rfl,c1,c2,ca⟩,⟨b1,d,rfl,d1,d2,cb⟩⟩:=h;have gl:=G.gl;have hal:a<gs.length:=by omega
 have gp:=G.pos.2;obtain⟨x,rfl,xl,hx⟩:=ca (by intro e;rw[e] at hal;simp at hal);have cx:=aj (hx a g hg);have Xl:=aj (xl);have gl2:gs.length<=144:=by omega
 clear cb hx xl G hg gl gp ha;go_enter func152,ntmps152;go_wp2_with fail
 refine(tJ _ _ W H gs os _ _ (F0.below (aA.alloc (by simp) _)) (Ro.EX a (by simp))).mono ?_;rintro e w1 ⟨v1,rfl,hv,hb⟩;have B1:=aj ((aA.alloc (by simp) _).trans (hb.mono (by simp;omega)));have X1:=((Bf.mk' (w:=w) W H (slice (some x) gs.length c) (slice b1 os.length d) rfl).below (aB.alloc aN (cells #[Value.int IntKind.i64 a] 3)) (by simp)).below hb (by simp;omega);have c2:=X1.c2;have cg:w1.cell? (x.add a)=some (int i64 g):=by rw[B1.out.cell (p:=x.add a) (by rw[add_block];exact Xl.out)];exact cx
 rw[HF.out] at hv;clear hb X1;rcases hv with⟨hz,rfl⟩|⟨hz,rfl⟩
 ·clear hz
  go_wp2_with fail
  refine(AZ _ _ _).mono ?_;rintro e w2 ⟨rfl,rfl⟩;go_wp2;go_ret2;exact⟨rfl,B1⟩
 ·exact absurd rfl hz
theorem VW(u:aI)(at_:Int)(b:Nat)(w:World)(hc:w.cell? ⟨b,0,none⟩=some (int i64 at_)):
  Calls prog 166 #[u.val,.pointer (some ⟨b,0,none⟩)] w λe w'=>e=.returned (.bool (u.at_==at_))/\Below w.heap.size w w':=by
 have hb:b<w.heap.size:=cell_lt hc;have hne:b≠w.heap.size:=by omega
 unfold aI.val;go_enter func166,ntmps166;go_wp2;go_ret;exact⟨rfl,aA⟩
theorem VX(g:Int)(fl:Bool):Fd.onto g fl=0\/0<Fd.onto g fl:=by
 unfold Fd.onto;cases fl<;>(repeat' split)<;>omega
theorem uo(f us:Value)(Zt H:Nat)(gs os:List Int)(ahead:List aI)(a:Nat)(g:Int)(fl:Bool)(w:World)(hf:Fl w f Zt H gs os)(G:Fd.Good Zt H gs os)(hu:oP w us ahead)(ha:a<Zt*H)(hg:gs[a]? =some g):
  Calls prog 126 #[f,us,int i64 (a:Nat),.bool fl] w λe w'=>e=.returned (.bool (Wd.open_ gs ahead (a:Nat) fl))/\Below w.heap.size w w':=by
 have F:=aj (hf);have U:=aj (hu);have HG:=aj (G);have AT:Hid (a<Zt*H/\gs[a]? =some g):=⟨ha,hg⟩;have OP:Hid (Wd.open_ gs ahead (a:Nat) fl=(decide (0<Fd.onto g fl)&& !ahead.any (λu=>u.at_==(a:Int)))):=by
  unfold Hid Wd.open_;rw[bF,dD,hg];rfl
 obtain⟨u1,u2,rfl,h1,h2⟩:=hf;clear h1 h2 G ha hg hu;go_enter func126,ntmps126;go_wp2_with fail
 have B0:Hid (Below _ w ((w.alloc (cells #[int i64 (Zt:Int),int i64 (H:Int),u1,u2] 25)).alloc (cells #[int i64 (a:Int)] 3))):=aA.alloc (by simp) _;have C0:Hid (((w.alloc (cells #[int i64 (Zt:Int),int i64 (H:Int),u1,u2] 25)).alloc (cells #[int i64 _] 3)).cell? ⟨w.heap.size+1,0,none⟩=some (int i64 (a:Int))):=bD (by simp) rfl;generalize ((w.alloc _).alloc _)=w0 at *;refine(yQ _ Zt H gs os a g fl w0 (F.below B0) HG AT.1 AT.2).mono ?_;rintro e w1 ⟨rfl,hb1⟩;have B1:=aG B0 hb1;have C1:Hid (w1.cell? ⟨w.heap.size+1,0,none⟩=some (int i64 (a:Int))):=by unfold Hid;rw[hb1.cell (p:=⟨w.heap.size+1,0,none⟩) (cell_lt C0.out)];exact C0
 clear hb1 C0;obtain⟨o,ho⟩:∃o,Fd.onto g fl=o:=⟨_,rfl⟩;have OR:=VX g fl;rw[ho] at OP OR ⊢;clear ho;rcases OR with rfl|hpos
 ·have E:Hid (Wd.open_ gs ahead (a:Nat) fl=false):=by unfold Hid;rw[OP.out];rfl
  go_wp2;go_ret;exact⟨by rw[E.out];rfl,B1⟩
 ·have E:Hid (Wd.open_ gs ahead (a:Nat) fl= !ahead.any (λu=>u.at_==(a:Int))):=by unfold Hid;rw[OP.out,decide_eq_true hpos];rfl
  go_wp2_with fail
  refine(um 166 (by intro args w;go_simp) us #[.pointer (some ⟨w.heap.size+1,0,none⟩)] ahead (λu=>u.at_==(a:Int)) w1 (U.below B1) (λV hV k=>VW k (a:Int) (w.heap.size+1) V (by rw[hV.cell (p:=⟨w.heap.size+1,0,none⟩) (cell_lt C1.out)];exact C1))).mono ?_;rintro e w2 ⟨rfl,hb2⟩;have B2:=aG B1 hb2;obtain⟨m,hm⟩:∃m,ahead.any (λu=>u.at_==(a:Int))=m:=⟨_,rfl⟩;rw[hm] at E ⊢;clear hb2 hm;go_wp2;go_ret;exact⟨by rw[E.out];rfl,B2⟩
open Go
section
variable {P:Program} {ops:Array Oper} {md:Region.Mode} {C:World->Prop}
def jJ(P:Program)(ops:Array Oper)(C:World->Prop)(o:Oper)(v:Value)(a:Act):Prop:=
 (Region.wanted o (yielded ops a.tmps)=true/\∀W,C W->((execOp a.eval o).run P W=.ok (.value v) W\/((execOp a.eval o).run P W=.ok .skip W/\v=undef)\/
  ∃f args,(execOp a.eval o).run P W=.ok (.enter f args) W/\Calls P f args W (λe w'=>e=.returned v/\C w')))\/
 (Region.wanted o (yielded ops a.tmps)=false/\v=undef)
def Qd(P:Program)(ops:Array Oper)(C:World->Prop)(i:Nat)(K:Act->Prop)(a:Act):Prop:=
 match ops[i]? with
 |none=>K a
 |some o=>∃v,jJ P ops C o v a/\K (a.put o.dst v)
theorem Qe{K K':Act->Prop}(h:∀a,K a->K' a)(hh:Qd P ops C i K a):Qd P ops C i K' a:=by
 unfold Qd at *;split
 ·rename_i ho
  simp only[ho] at hh;exact h _ hh
 ·rename_i o ho
  simp only[ho] at hh;obtain⟨v,h1,h2⟩:=hh;exact⟨v,h1,h _ h2⟩
theorem jJ.of_same{a':Act}(hy:jJ P ops C o v a)(he:execOp a'.eval o=execOp a.eval o)
  (hw:Region.wanted o (yielded ops a'.tmps)=Region.wanted o (yielded ops a.tmps)):jJ P ops C o v a':=by
 unfold jJ at *;rw[he,hw];exact hy
theorem VY{j:Nat}{oj:Oper}(hj:ops[j]? =some oj)(hap:oi.apart ops oj=true)
  (hsi:∀cs b,oi.op≠ .select cs b) (hsj:∀cs b,oj.op≠ .select cs b) {K:Act->Prop}
  (hy:jJ P ops C oi v a) (h:Qd P ops C j K (a.put oi.dst v)):
  Qd P ops C j (λa'=>jJ P ops C oi v a'/\K (a'.put oi.dst v)) a:=by
 obtain⟨h1,h2,h3⟩:=Oper.apart_spec hap;unfold Qd at *;simp only[hj] at *;obtain⟨u,hu,hk⟩:=h;refine⟨u,hu.of_same (execOp_put oj hsj a _ v h1).symm (wanted_put oj a _ v h1).symm,hy.of_same (execOp_put oi hsi a _ u h3) (wanted_put oi a _ u h3),?_⟩;rw[<-Act.put_comm a v u h2];exact hk
theorem A_{W:World}{K:Act->Prop}{K':Act->World->Prop}{Q':Exit->Act->World->Prop}(h:∀a W,K a->C W->K' a W)(hh:Qd P ops C i K a)(hW:C W):wpOp P ops Q' i K' a W:=by
 unfold Qd at hh;unfold wpOp;split
 ·rename_i ho
  simp only[ho] at hh;exact h _ _ hh hW
 ·rename_i o ho
  simp only[ho] at hh;obtain⟨v,hy,hk⟩:=hh;rcases hy with⟨hw,hr⟩|⟨hw,rfl⟩
  ·simp only[hw,if_true]
   refine .inl ?_;unfold Oper.wp;rcases hr W hW with e|⟨e,rfl⟩|⟨f,args,e,hc⟩
   ·rw[e]
    exact h _ _ hk hW
   ·rw[e]
    exact h _ _ hk hW
   ·rw[e]
    exact hc.mono λe w' ⟨he,hw'⟩=>by subst he;exact h _ _ hk hw'
  ·simp only[hw]
   exact h _ _ hk hW
def uq(P:Program)(md:Region.Mode)(ops:Array Oper)(C:World->Prop)(n:Nat)(L:Array Bool->Act->Prop):Nat->Array Bool->Act->Prop
 |0,listed,a=>L listed a
 |f+1,listed,a=>
  Region.ready md ops listed≠[]/\∀i∈Region.ready md ops listed,i<n/\Qd P ops C i (uq P md ops C n L f (listed.setIfInBounds i true)) a
theorem nP{n g:Nat}{L:Array Bool->Act->Prop}{Q':Exit->Act->World->Prop}(hL:∀listed a W,L listed a->C W->wpAny P md ops Q' g listed a W):
  ∀(f:Nat) (listed:Array Bool) (a:Act) (W:World),uq P md ops C n L f listed a->C W->wpAny P md ops Q' (f+g) listed a W
 |0,listed,a,W,h,hW=>by rw[aO];exact hL _ _ _ h hW
 |f+1,listed,a,W,h,hW=>by
  rw[show f+1+g=(f+g)+1 by omega];exact⟨λh0=>absurd h0 h.1,λi hi=>A_ (λa' W' h' hW'=>nP hL f _ a' W' h' hW') (h.2 i hi).2 hW⟩
theorem yR{L:Array Bool->Act->Prop}(hi:ops[i]? =some oi)(hsel:∀(j:Nat) (o:Oper) cs b,ops[j]? =some o->o.op≠ .select cs b)
  (hs:Region.sinkB md ops n=true) (hc:Region.chainB md ops n=true) (hn:n<ops.size) (hin:i<n)
  (hdone:∀listed a,L listed a->∀j∈Region.ready md ops listed,n<=j):
  ∀(f:Nat) (listed:Array Bool) (a:Act),HeadInv md ops n listed->
   (∀j oj,ops[j]? =some oj->j≠i->listed.getD j true=false->(∀e∈oj.after,Region.binds md e=true->e.on≠i)->oi.apart ops oj=true)->
   i∈Region.ready md ops listed->jJ P ops C oi v a->
   uq P md ops C n L f (listed.setIfInBounds i true) (a.put oi.dst v)->uq P md ops C n L (f+1) listed a:=by
 have hit:∀{K:Act->Prop} {a:Act},jJ P ops C oi v a->K (a.put oi.dst v)->Qd P ops C i K a:=λhy hk=>by
  unfold Qd;simp only[hi];exact⟨v,hy,hk⟩
 intro f
 induction f with
 |zero=>
  intro listed a inv _ hr hy H;have hun:=(mem_ready.1 hr).1;refine⟨λh=>(by rw[h] at hr;cases hr),λj hj=>?_⟩;have hjn:j<n:=by
   rcases Nat.lt_or_ge j n with h|h
   ·exact h
   ·exact absurd hj (tail_waits hs hc hn inv _ i rfl hin hun j h)
  refine⟨hjn,?_⟩;by_cases hji:j=i
  ·subst hji;exact hit hy H
  ·have:=hdone _ _ H j (ready_mono hj hji)
   omega
 |succ f ih=>
  intro listed a inv hfree hr hy H;have hun:=(mem_ready.1 hr).1;refine⟨λh=>(by rw[h] at hr;cases hr),λj hj=>?_⟩;have hjn:j<n:=by
   rcases Nat.lt_or_ge j n with h|h
   ·exact h
   ·exact absurd hj (tail_waits hs hc hn inv _ i rfl hin hun j h)
  refine⟨hjn,?_⟩;by_cases hji:j=i
  ·subst hji;exact hit hy H
  ·have h1:=(H.2 j (ready_mono hj hji)).2
   obtain⟨hjun,oj,hoj,hall⟩:=mem_ready.1 hj;have hnot:∀e∈oj.after,Region.binds md e=true->e.on≠i:=λe he hb heq=>by
    have h1:=hall e he hb;rw[heq,getD_both hun] at h1;cases h1
   have h2:=VY hoj (hfree j oj hoj hji hjun hnot) (λcs b=>hsel i oi cs b hi) (λcs b=>hsel j oj cs b hoj) hy h1;have hfree':∀k ok,ops[k]? =some ok->k≠i->(listed.setIfInBounds j true).getD k true=false->
     (∀e∈ok.after,Region.binds md e=true->e.on≠i)->oi.apart ops ok=true:=λk ok hk hki hun hno=>by
    refine hfree k ok hk hki ?_ hno;by_cases hjk:j=k
    ·subst hjk;exact hjun
    ·rw[getD_set_ne true hjk] at hun;exact hun
   refine Qe (λa' h3=>ih _ a' (inv.set hj hjn) hfree' (ready_mono hr (Ne.symm hji)) h3.1 ?_) h2;rw[Array.setIfInBounds_comm _ _ hji];exact h3.2
def pG(P:Program)(ops:Array Oper)(C:World->Prop)(Q:Act->Prop):List Oper->Act->Prop
 |[],a=>Q a
 |o::rest,a=>∃v,jJ P ops C o v a/\pG P ops C Q rest (a.put o.dst v)
theorem uw{n g:Nat}{Lq:Act->Prop}(hsel:Region.noSelect ops=true)(hs:Region.sinkB md ops n=true)(hc:Region.chainB md ops n=true)(hn:n<ops.size):
  ∀(l:List Oper) (k:Nat) (listed:Array Bool) (a:Act),(∀j,j<l.length->l[j]? =ops[k+j]?)->k+l.length=n->HeadInv md ops n listed->
  Region.lexHead md ops g l.length k listed=true->pG P ops C Lq l a->
  uq P md ops C n (λlisted' a'=>Region.seqB md ops g n listed'=true/\Lq a') l.length listed a
 |[],k,listed,a,_,hk,_,hB,h=>by
  have:k=n:=by simpa using hk
  subst this;exact⟨by simpa[Region.lexHead] using hB,h⟩
 |o::l,k,listed,a,hl,hk,inv,hB,h=>by
  have h0:ops[k]? =some o:=by simpa using(hl 0 (by simp)).symm
  simp only[dI,Region.lexHead,Bool.and_eq_true] at hB;obtain⟨⟨hr,hf⟩,hB'⟩:=hB;have hkn:k<n:=by simp only[dI] at hk;omega
  have hr':k∈Region.ready md ops listed:=by simpa using hr
  obtain⟨v,hy,hK⟩:=h;exact yR h0 (Region.noSelect_spec hsel) hs hc hn hkn (λlisted' a' hL=>seqB_ready hL.1) _ _ a inv (Region.free_spec h0 hf) hr' hy
   (uw hsel hs hc hn l _ _ _ (λj hj=>by have:=hl (j+1) (by simp;omega);simpa[Nat.add_assoc,Nat.add_comm 1 j] using this) (by simp only[dI] at hk;omega) (inv.set hr' hkn) hB' hK)
theorem eY{id:Nat}{Q:Exit->Act->World->Prop}{l:List Oper}(n:Nat)(C:World->Prop)(hm:P.follows .mixedOrders=true)(hB:Region.lexTailB .any l.toArray n=true)
  (hC:C {w with drawn:=w.drawn+1}) (h:pG P l.toArray C (λa'=>∀W,C W->wpList P l.toArray Q (l.drop n) a' W) (l.take n) a):(Code.region id l.toArray true).wp P Q a w:=by
 simp only[Region.lexTailB,Bool.and_eq_true,decide_eq_true_eq] at hB;obtain⟨⟨⟨⟨hsel,hn⟩,hs⟩,hc⟩,hlex⟩:=hB;have hn':n<l.length:=by simpa using hn
 have htl:(l.take n).length=n:=by simp;omega
 have hdl:(l.drop n).length=l.toArray.size-n:=by simp
 have inv0:HeadInv .any l.toArray n (Array.replicate l.toArray.size false):=
  ⟨by simp,λj oj _ hl=>(by rw[getD_replicate_false] at hl;cases hl),λt _ ht=>getD_in (by simpa using ht) (getD_replicate_false _ _)⟩
 have H:=uw (md:=.any) (g:=l.toArray.size-n) hsel hs hc hn (l.take n) 0 _ a (λj hj=>by
  have hj':j<n:=by rw[htl] at hj;exact hj
  simp[hj']) (by simpa using htl) inv0 (by rw[htl];exact hlex) h
 refine wp_region_any hm ?_;have:=nP (Q':=Q) (g:=l.toArray.size-n) (λlisted a' W hL hW=>by
  have:=wpAny_of_seq (md:=.any) (Q':=Q) (l.drop n) n listed a' W (λj=>by simp[mF]) (by rw[hdl];exact hL.1) (hL.2 W hW);rwa[hdl] at this) _ _ _ _ H hC
 rw[htl,show n+(l.toArray.size-n)=l.toArray.size by omega] at this;exact this
end
theorem aF{C:World->Prop}{Q:Act->Prop}(v:Value)(hw:Region.wanted o (yielded ops a.tmps)=true)(hr:∀W,C W->(execOp a.eval o).run P W=.ok (.value v) W)(h:pG P ops C Q rest (a.put o.dst v)):pG P ops C Q (o::rest) a:=
 ⟨v,.inl ⟨hw,λW hW=>.inl (hr W hW)⟩,h⟩
theorem gU{C:World->Prop}{Q:Act->Prop}(v:Value)(f:FuncId)(args:Array Value)(hw:Region.wanted o (yielded ops a.tmps)=true)(hr:∀W,C W->(execOp a.eval o).run P W=.ok (.enter f args) W)
  (hc:∀W,C W->Calls P f args W (λe w'=>e=.returned v/\C w')) (h:pG P ops C Q rest (a.put o.dst v)):pG P ops C Q (o::rest) a:=
 ⟨v,.inl ⟨hw,λW hW=>.inr (.inr ⟨f,args,hr W hW,hc W hW⟩)⟩,h⟩
end
section
open Go.RowKit
variable {W:WV} {i:Nat} {j:bM} {k:KV} {ks:List KV} {u:aI} {us:List aI}
theorem uf1(h:decide (1<=u.id/\u.id<=W.next-1)=false):Wd.bG ks W i u=1:=by unfold Wd.bG;rw[h];rfl
theorem uf2(h:decide (1<=u.id/\u.id<=W.next-1)=true)(h2:Wd.dF W.us i u=true):Wd.bG ks W i u=5:=by unfold Wd.bG;rw[h,h2];rfl
theorem uf3(h:decide (1<=u.id/\u.id<=W.next-1)=true)(h2:Wd.dF W.us i u=false)(h3:Wd.has W.gold.length u.ay=false):Wd.bG ks W i u=1:=by unfold Wd.bG;rw[h,h2,h3];rfl
theorem uf4(h:decide (1<=u.id/\u.id<=W.next-1)=true)(h2:Wd.dF W.us i u=false)(h3:Wd.has W.gold.length u.ay=true)(h4:Wd.has ks.length u.kind=false):Wd.bG ks W i u=1:=by unfold Wd.bG;rw[h,h2,h3,h4];rfl
theorem uf5(h:decide (1<=u.id/\u.id<=W.next-1)=true)(h2:Wd.dF W.us i u=false)(h3:Wd.has W.gold.length u.ay=true)(h4:Wd.has ks.length u.kind=true)(h5:ks[u.kind.toNat]? =some k):Wd.bG ks W i u=Wd.gQ W (W.us.take i) u k:=by unfold Wd.bG;rw[h,h2,h3,h4,h5];rfl
theorem nR(x lo hi:Int)(w:World)(h:lo<=x/\x<=hi):Calls prog 74 #[int i64 x,int i64 lo,int i64 hi] w λe w'=>e=.returned (.bool true)/\w'=w:=(dh x lo hi w).mono λe w' ⟨h1,h2⟩=>⟨by rw[h1,decide_eq_true h],h2⟩
theorem pI(x lo hi:Int)(w:World)(h:¬(lo<=x/\x<=hi)):Calls prog 74 #[int i64 x,int i64 lo,int i64 hi] w λe w'=>e=.returned (.bool false)/\w'=w:=(dh x lo hi w).mono λe w' ⟨h1,h2⟩=>⟨by rw[h1,decide_eq_false h],h2⟩
section
variable {W:WV} {ah:List aI} {u:aI} {k:KV}
theorem kp1(h:¬(1<=u.life/\u.life<=k.n0)\/¬(0<=u.load/\u.load<=k.n7)\/¬(0<=u.task/\u.task<=2)):Wd.gQ W ah u k=1:=by
 unfold Wd.gQ;rw[if_pos];rcases h with h|h|h<;>simp only[decide_eq_false h,Bool.not_false,Bool.true_or,Bool.or_true]
theorem kp6(h5:1<=u.life/\u.life<=k.n0)(h6:0<=u.load/\u.load<=k.n7)(h7:0<=u.task/\u.task<=2)(h:¬(0<=u.at_/\u.at_<(W.gs.length:Int))\/¬(0<=u.goal/\u.goal<(W.gs.length:Int))):Wd.gQ W ah u k=6:=by
 unfold Wd.gQ Wd.has;rw[decide_eq_true h5,decide_eq_true h6,decide_eq_true h7,if_neg (by decide),if_pos];rcases h with h|h<;>simp only[decide_eq_false h,Bool.not_false,Bool.true_or,Bool.or_true]
theorem kp7(h5:1<=u.life/\u.life<=k.n0)(h6:0<=u.load/\u.load<=k.n7)(h7:0<=u.task/\u.task<=2)(h8:0<=u.at_/\u.at_<(W.gs.length:Int))(h9:0<=u.goal/\u.goal<(W.gs.length:Int))(h:Wd.open_ W.gs ah u.at_ k.f=false\/(u.goal≠0/\u.task=0)):Wd.gQ W ah u k=7:=by
 unfold Wd.gQ Wd.has;rw[decide_eq_true h5,decide_eq_true h6,decide_eq_true h7,decide_eq_true h8,decide_eq_true h9,if_neg (by decide),if_neg (by decide),if_pos];rcases h with h|⟨h,h'⟩
 ·rw[h];rfl
 ·simp[h,h']
theorem kp0(h5:1<=u.life/\u.life<=k.n0)(h6:0<=u.load/\u.load<=k.n7)(h7:0<=u.task/\u.task<=2)(h8:0<=u.at_/\u.at_<(W.gs.length:Int))(h9:0<=u.goal/\u.goal<(W.gs.length:Int))(h:Wd.open_ W.gs ah u.at_ k.f=true)(h':u.goal=0\/u.task≠0):Wd.gQ W ah u k=0:=by
 unfold Wd.gQ Wd.has;rw[decide_eq_true h5,decide_eq_true h6,decide_eq_true h7,decide_eq_true h8,decide_eq_true h9,h,if_neg (by decide),if_neg (by decide),if_neg];rcases h' with h'|h'<;>simp[h']
end
theorem oP.aaY{w:World}{a:Option Addr}{n c:Nat}(h:oP w (slice a n c) us){q:Nat}(hq:q<=us.length):oP w (slice a q c) (us.take q):=by
 obtain⟨a',c',e,h1,h2,h3⟩:=h;injection e with e1 e2 e3
 subst e1 e3;have hl:(us.take q).length=q:=by rw[dP];omega
 refine⟨a,c,by rw[hl],by omega,h2,λhn=>?_⟩;obtain⟨x,e,hx,hc⟩:=h3 (by intro e;rw[e] at hn;simp at hn);refine⟨x,e,hx,λi k hk=>hc i k ?_⟩;rw[eP] at hk;split at hk
 ·exact hk
 ·cases hk
theorem Qg(vk vw:Value)(ks:List KV)(W:WV)(Wn Hn:Nat)(i:Nat)(u:aI)(w:World)(hk:Kl w vk ks)(hw:Wl w vw W)(hW:W.wide=Wn)(hH:W.high=Hn)(G:Fd.Good Wn Hn W.gs W.os)(hu:W.us[i]? =some u)(hn:Wd.off 1 W.next=false)(Jr:W.us.length<=40)(hkl:ks.length<=8)(hgl:W.gold.length<=4):
  Calls prog 78 #[vk,vw,int i64 (i:Nat)] w λe w'=>∃r,e=.returned r/\Er r (Wd.bG ks W i u)/\Below w.heap.size w w':=by
 have K:=aj (hk);have H:=aj (hw);have HG:Hid (Fd.Good Wn Hn W.gs W.os/\W.wide=Wn/\W.high=Hn):=⟨G,hW,hH⟩;have HU:=aj (hu);have gl144:W.gs.length<=144:=by have:=G.gl;have:=G.pos;have:=G.pos.2;omega
 obtain⟨u1,u2,u3,u4,u5,rfl,r1,r2,r3,r4,r5⟩:=hw;obtain⟨p1,q1,rfl,-⟩:=r1;obtain⟨p2,q2,rfl,-⟩:=r2;obtain⟨p3,q3,rfl,-⟩:=r3;obtain⟨p4,q4,rfl,k41,k42,k43⟩:=r4;obtain⟨p5,q5,rfl,-⟩:=r5;obtain⟨pk,qk,rfl,kk1,kk2,kk3⟩:=hk;have hil:=(aK.1 hu).1;have acK:(i:Int)<(W.us.length:Int):=by omega
 obtain⟨x,rfl,hx,hcell⟩:=k43 (by intro e;rw[e] at hil;simp at hil);have UC:Hid (x.block<w.heap.size/\∀(i:Nat) k,W.us[i]? =some k->fA w (x.add (i*8)) k):=⟨hx,hcell⟩;obtain⟨d0,d1,d2,d3,d4,d5,d6,d7⟩:=hcell i u hu;have nx:1<=W.next/\W.next<=1000000:=by
  unfold Wd.off at hn;have:decide (1<=W.next/\W.next<=1000000)=true:=by cases h:decide (1<=W.next/\W.next<=1000000) with|true=>rfl|false=>rw[h] at hn;cases hn
  exact of_decide_eq_true this
 obtain⟨n1,hn1⟩:∃n1:Int,W.next-1=n1:=⟨_,rfl⟩;have wn1:IntKind.i64.wrap n1=n1:=by rw[IntKind.wrap_i64];omega
 obtain⟨b1,hb1⟩:∃b,decide (1<=u.id/\u.id<=n1)=b:=⟨_,rfl⟩;have HB1:Hid (decide (1<=u.id/\u.id<=W.next-1)=b1):=by unfold Hid;rw[hn1];exact hb1
 clear hcell hx k43 hn nx hu hW hH G;go_enter func78,ntmps78;go_upto_region 1 with fail
 have Y0:Hid (Bw _ w.heap.size W (slice p1 W.gs.length q1) (slice p2 W.os.length q2) (slice p3 W.gold.length q3) (slice (some x) W.us.length q4) (slice p5 W.qs.length q5)):=Bw.mk' W _ _ _ _ _ rfl;have BY:Hid (Below _ w (w.alloc (cells #[int i64 W.turn,int i64 W.next,int i64 W.wide,int i64 W.high,slice p1 W.gs.length q1,slice p2 W.os.length q2,slice p3 W.gold.length q3,slice (some x) W.us.length q4,slice p5 W.qs.length q5] 29))):=aA;have SY:Hid ((w.alloc (cells #[int i64 W.turn,int i64 W.next,int i64 W.wide,int i64 W.high,slice p1 W.gs.length q1,slice p2 W.os.length q2,slice p3 W.gold.length q3,slice (some x) W.us.length q4,slice p5 W.qs.length q5] 29)).heap.size=w.heap.size+1):=by unfold Hid;simp
 generalize (w.alloc _)=wy at *;clear d0 d1 d2 d3 d4 d5 d6 d7;obtain⟨d0,d1,d2,d3,d4,d5,d6,d7⟩:=(UC.2 i u HU).below BY (by rw[add_block];exact UC.1);have x7:=Y0.c7;go_upto_region 2 with fail
 have X0:Hid (Bw (wy.alloc (cells #[int i64 u.id,int i64 u.ay,int i64 u.kind,int i64 u.at_,int i64 u.life,int i64 u.load,int i64 u.task,int i64 u.goal] 74)) _ W _ _ _ _ _):=Y0.below aA Y0.lt;have U0:Hid (fA _ ⟨wy.heap.size,0,none⟩ u):=fA.mk' u rfl;have B0:Hid (Below _ w (wy.alloc (cells #[int i64 u.id,int i64 u.ay,int i64 u.kind,int i64 u.at_,int i64 u.life,int i64 u.load,int i64 u.task,int i64 u.goal] 74))):=BY.alloc BY.size _;generalize (wy.alloc _)=w0 at *;generalize wy.heap.size=zu at *;clear d0 d1 d2 d3 d4 d5 d6 d7 x7 Y0 BY SY;obtain⟨x0,x1,x2,x3,x4,x5,x6,x7,x8⟩:=X0.out;obtain⟨y0,y1,y2,y3,y4,y5,y6,y7⟩:=U0.out;go_wp2_with fail
 refine(dh _ 1 n1 w0).mono ?_;rintro e ww ⟨rfl,rfl⟩;rw[hb1];clear hb1 hn1 wn1;cases b1 with
 |false=>
  go_wp2;go_ret;exact⟨_,rfl,by rw[uf1 HB1.out];exact Er.no (by decide),B0⟩
 |true=>
  obtain⟨b2,hb2⟩:∃b,Wd.dF W.us i u=b:=⟨_,rfl⟩;have HB2:=aj (hb2);go_upto_region 4 with fail
  go_cut [2,22] from 23 to 36 (λv2 v22 V=>v2=int i64 (i:Nat)/\v22=.bool b2/\Below ww.heap.size ww V)
  case first=>
   rcases Nat.eq_zero_or_pos i with hi0|hi0
   ·have g0:¬(0:Int)<(i:Int):=by omega
    have hbf:b2=false:=by rw[<-hb2,hi0];rfl
    subst hbf;clear hb2;have HI0:=aj (hi0);have hnp:¬0<i:=by omega
    clear hi0;go_quiet (fail);go_wp2;go_meet
    case rel=>exact⟨by first|rfl|rw[HI0.out],rfl,_root_.Go.below_drewN aB _⟩
   ·obtain⟨j,hj⟩:∃j,i=j+1:=⟨i-1,by omega⟩
    obtain⟨v,hv⟩:∃v,W.us[j]? =some v:=⟨_,aH (by omega)⟩;have e0:(i:Int)-1=(j:Nat):=by omega
    have g0:(0:Int)<(i:Int):=by omega
    have wj:IntKind.i64.wrap ((j:Nat):Int)=(j:Nat):=by rw[IntKind.wrap_i64];omega
    have jl:(j:Int)<(W.us.length:Int):=by omega
    obtain⟨d0,-,-,-,-,-,-,-⟩:=(UC.2 j v hv).below B0 (by rw[add_block];exact UC.1);have hb:decide (u.id<=v.id)=b2:=by rw[<-hb2,hj];unfold Wd.dF;simp only[hv]
    clear hj hb2 hv;cases b2
    ·have hgt:=of_decide_eq_false hb
     clear hb;go_quiet (fail);go_wp2;go_meet
     case rel=>exact⟨by first|rfl|rw[HI0.out],rfl,_root_.Go.below_drewN aB _⟩
    ·have hle:=of_decide_eq_true hb
     clear hb;go_quiet (fail);go_wp2;go_meet
     case rel=>exact⟨by first|rfl|rw[HI0.out],rfl,_root_.Go.below_drewN aB _⟩
  case rest=>
   obtain⟨rfl,rfl,hbc⟩:=hcut;have BC:=aG B0 hbc;have XC:=aj (X0.below hbc X0.lt);have VC:=aj (U0.below hbc U0.lt);clear hbc hb2 x0 x1 x2 x3 x4 x5 x6 x7 x8 y0 y1 y2 y3 y4 y5 y6 y7 X0 U0 B0;obtain⟨x0,x1,x2,x3,x4,x5,x6,x7,x8⟩:=XC.out;obtain⟨y0,y1,y2,y3,y4,y5,y6,y7⟩:=VC.out;cases b2 with
   |true=>
    go_wp2;go_ret;exact⟨_,rfl,by rw[uf2 HB1.out HB2.out];exact Er.no (by decide),BC⟩
   |false=>
    obtain⟨b3,hb3⟩:∃b,decide (0<=u.ay/\u.ay<(W.gold.length:Int))=b:=⟨_,rfl⟩;have HB3:Hid (Wd.has _ _=b3):=hb3;go_wp2_with fail
    refine(gX _ _ _ _ _ (by omega)).mono ?_;rintro e w5 ⟨rfl,jS⟩;obtain rfl:=jS.symm;rw[hb3];clear hb3;cases b3 with
    |false=>
     go_wp2;go_ret;exact⟨_,rfl,by rw[uf3 HB1.out HB2.out HB3.out];exact Er.no (by decide),BC⟩
    |true=>
     obtain⟨b4,hb4⟩:∃b,decide (0<=u.kind/\u.kind<(ks.length:Int))=b:=⟨_,rfl⟩;have HB4:Hid (Wd.has _ _=b4):=hb4;go_wp2_with fail
     refine(kU _ _ _ _ _ (by omega)).mono ?_;rintro e w6 ⟨rfl,jS⟩;obtain rfl:=jS.symm;rw[hb4];cases b4 with
     |false=>
      clear hb4;go_wp2;go_ret;exact⟨_,rfl,by rw[uf4 HB1.out HB2.out HB3.out HB4.out];exact Er.no (by decide),BC⟩
     |true=>
      have hkr:=of_decide_eq_true hb4;obtain⟨kn,ek⟩:∃kn:Nat,u.kind=kn:=⟨u.kind.toNat,by omega⟩;have hkn:kn<ks.length:=by omega
      obtain⟨k,hkk⟩:∃k,ks[kn]? =some k:=⟨_,aH hkn⟩;have UF:=aj (uf5 HB1 HB2 HB3 HB4 (by rw[ek,bF];exact hkk));obtain⟨xk,rfl,hxk,hkc⟩:=kk3 (by intro e;rw[e] at hkn;simp at hkn);have aaZ:(kn:Int)<(ks.length:Int):=by omega
      have KC:Hid (Kc _ (xk.add (kn*11)) k):=(hkc kn k hkk).below BC (by rw[add_block];exact hxk);rw[ek] at y2;obtain⟨l0,l1,l2,l3,l4,l5,l6,l7,l8,l9,l10⟩:=KC.out;clear hkr hb4 hkc hxk hkk kk3;go_upto_region 9 with fail
      by_cases h5:1<=u.life/\u.life<=k.n0
      ·go_quiet ((go_at_call 74;exact Calls.quiet_of_same (nR _ _ _ _ h5)))
       have Qh:=aj (_root_.Go.below_drewN BC nq);have Qi:=aj (XC.below (_root_.Go.below_drewN aB nq) XC.lt);have Qj:=aj (VC.below (_root_.Go.below_drewN aB nq) VC.lt);have Qk:=aj (KC.below (_root_.Go.below_drewN aB nq) KC.lt);generalize wc.drewN nq=wd at *;clear BC XC VC KC x0 x1 x2 x3 x4 x5 x6 x7 x8 y0 y1 y2 y3 y4 y5 y6 y7 l0 l1 l2 l3 l4 l5 l6 l7 l8 l9 l10;obtain⟨wc,hwc⟩:∃wc,wc=wd:=⟨_,rfl⟩;subst hwc;have BC:=Qh;have XC:=Qi;have VC:=Qj;have KC:=Qk;clear Qh Qi Qj Qk;obtain⟨x0,x1,x2,x3,x4,x5,x6,x7,x8⟩:=XC.out;obtain⟨y0,y1,y2,y3,y4,y5,y6,y7⟩:=VC.out;rw[ek] at y2;obtain⟨l0,l1,l2,l3,l4,l5,l6,l7,l8,l9,l10⟩:=KC.out;go_upto_region 10 with fail
       by_cases h6:0<=u.load/\u.load<=k.n7
       ·go_quiet ((go_at_call 74;exact Calls.quiet_of_same (nR _ _ _ _ h6)))
        have Qh:=aj (_root_.Go.below_drewN BC nq);have Qi:=aj (XC.below (_root_.Go.below_drewN aB nq) XC.lt);have Qj:=aj (VC.below (_root_.Go.below_drewN aB nq) VC.lt);have Qk:=aj (KC.below (_root_.Go.below_drewN aB nq) KC.lt);generalize wc.drewN nq=wd at *;clear BC XC VC KC x0 x1 x2 x3 x4 x5 x6 x7 x8 y0 y1 y2 y3 y4 y5 y6 y7 l0 l1 l2 l3 l4 l5 l6 l7 l8 l9 l10;obtain⟨wc,hwc⟩:∃wc,wc=wd:=⟨_,rfl⟩;subst hwc;have BC:=Qh;have XC:=Qi;have VC:=Qj;have KC:=Qk;clear Qh Qi Qj Qk;obtain⟨x0,x1,x2,x3,x4,x5,x6,x7,x8⟩:=XC.out;obtain⟨y0,y1,y2,y3,y4,y5,y6,y7⟩:=VC.out;rw[ek] at y2;obtain⟨l0,l1,l2,l3,l4,l5,l6,l7,l8,l9,l10⟩:=KC.out;by_cases h7:0<=u.task/\u.task<=2
        ·go_wp2_with fail
         refine(nR _ _ _ _ h7).mono ?_;rintro e w8 ⟨rfl,jS⟩;obtain rfl:=jS.symm;by_cases h8:0<=u.at_/\u.at_<(W.gs.length:Int)
         ·have t8:=decide_eq_true h8
          go_wp2_with fail
          refine(gX _ _ _ _ _ (by omega)).mono ?_;rintro e w9 ⟨rfl,jS⟩;obtain rfl:=jS.symm;rw[t8];by_cases h9:0<=u.goal/\u.goal<(W.gs.length:Int)
          ·have t9:=decide_eq_true h9
           go_wp2_with fail
           refine(gX _ _ _ _ _ (by omega)).mono ?_;rintro e w10 ⟨rfl,jS⟩;obtain rfl:=jS.symm;rw[t9];clear t8 t9;obtain⟨an,ea⟩:∃an:Nat,u.at_=an:=⟨u.at_.toNat,by omega⟩;obtain⟨g,hg0⟩:∃g,W.gs[an]? =some g:=⟨_,aH (by omega)⟩;have Zu:=aj (hg0);clear hg0;have FC:Hid (∀V,Below wc.heap.size wc V->V.cell? ⟨w.heap.size,2,none⟩=some (int i64 W.wide)/\V.cell? ⟨w.heap.size,3,none⟩=some (int i64 W.high)/\V.cell? ⟨w.heap.size,4,none⟩=some (slice p1 W.gs.length q1)/\V.cell? ⟨w.heap.size,5,none⟩=some (slice p2 W.os.length q2)/\V.cell? ⟨w.heap.size,7,none⟩=some (slice (some x) W.us.length q4)/\V.cell? ⟨zu,3,none⟩=some (int i64 (an:Nat))/\V.cell? ⟨zu,2,none⟩=some (int i64 (kn:Nat))/\V.cell? ⟨(xk.add (kn*11)).block,(xk.add (kn*11)).off+9,none⟩=some (.bool k.f)):=λV hV=>by
            obtain⟨-,-,z2,z3,z4,z5,-,z7,-⟩:=XC.below hV XC.lt;obtain⟨-,-,g2,g3,-,-,-,-⟩:=VC.below hV VC.lt;obtain⟨-,-,-,-,-,-,-,-,-,m9,-⟩:=KC.below hV KC.lt;rw[ek] at g2;rw[ea] at g3;exact⟨z2,z3,z4,z5,z7,g3,g2,m9⟩
           have OPN:Hid (∀V,Below wc.heap.size wc V->Calls prog 126 #[.agg #[int i64 W.wide,int i64 W.high,slice p1 W.gs.length q1,slice p2 W.os.length q2],slice (some x) i q4,int i64 (an:Nat),.bool k.f] V λe w'=>e=.returned (.bool (Wd.open_ W.gs (W.us.take i) (an:Nat) k.f))/\Below wc.heap.size wc w'):=λV hV=>by
            have BV:=BC.trans (hV.mono BC.size);obtain⟨r1,r2,-,r4,-⟩:=(H.below BV).slices;obtain⟨Bc,VZ,hHn⟩:=HG.out;rw[VZ,hHn];exact(uo _ _ Wn Hn _ _ _ an g _ V ⟨_,_,rfl,r1,r2⟩ Bc (r4.aaY (by omega)) (by have:=Bc.gl;omega) Zu).mono λe w' ⟨h1,h2⟩=>⟨h1,hV.trans (h2.mono hV.size)⟩
           have eo:∀args w,(callFunc 126 args).run prog w=.ok (.enter 126 args) w:=by intro args w;go_simp
           have hin:(i:Int)<=(q4:Int):=by omega
           go_upto_region 16 with fail
           refine eY 15 (λV=>Below wc.heap.size wc V) (by kernel_rfl) (by kernel_rfl) aB.drew ?_;simp only[List.take_succ_cons,List.take_zero,List.drop_succ_cons,List.drop_zero];refine aF (.pointer (some ⟨w.heap.size,2,none⟩)) (by go_simp) (λV hV=>by go_simp) ?_;go_simp;refine aF (.agg #[int i64 W.wide,int i64 W.high,slice p1 W.gs.length q1,slice p2 W.os.length q2]) (by go_simp) (λV hV=>by obtain⟨f2,f3,f4,f5,-⟩:=FC V hV;go_simp) ?_;go_simp;refine aF (.pointer (some ⟨w.heap.size,7,none⟩)) (by go_simp) (λV hV=>by go_simp) ?_;go_simp;refine aF (slice (some x) W.us.length q4) (by go_simp) (λV hV=>by obtain⟨-,-,-,-,f7,-⟩:=FC V hV;go_simp) ?_;go_simp;refine aF (int i64 (i:Nat)) (by go_simp) (λV hV=>by go_simp) ?_;go_simp;refine aF (slice (some x) i q4) (by go_simp) (λV hV=>by go_simp) ?_;go_simp;refine aF (.pointer (some ⟨zu,3,none⟩)) (by go_simp) (λV hV=>by go_simp) ?_;go_simp;refine aF (int i64 (an:Nat)) (by go_simp) (λV hV=>by obtain⟨-,-,-,-,-,f8,-⟩:=FC V hV;go_simp) ?_;go_simp;refine aF (slice (some xk) ks.length qk) (by go_simp) (λV hV=>by go_simp) ?_;go_simp;refine aF (.pointer (some ⟨zu,2,none⟩)) (by go_simp) (λV hV=>by go_simp) ?_;go_simp;refine aF (int i64 (kn:Nat)) (by go_simp) (λV hV=>by obtain⟨-,-,-,-,-,-,f9,-⟩:=FC V hV;go_simp) ?_;go_simp;refine aF (.pointer (some (xk.add (kn*11)))) (by go_simp) (λV hV=>by go_simp) ?_;go_simp;refine aF (.pointer (some ⟨(xk.add (kn*11)).block,(xk.add (kn*11)).off+9,none⟩)) (by go_simp) (λV hV=>by go_simp) ?_;go_simp;refine aF (.bool k.f) (by go_simp) (λV hV=>by obtain⟨-,-,-,-,-,-,-,f10⟩:=FC V hV;go_simp) ?_;go_simp;refine gU _ _ _ (by go_simp) (λV hV=>by go_simp) (λV hV=>OPN V hV) ?_;go_simp;intro V hV;have BV:=aG BC hV;have VV:=aj (VC.below hV VC.lt);obtain⟨b9,hb9⟩:∃b,Wd.open_ W.gs (W.us.take i) (an:Nat) k.f=b:=⟨_,rfl⟩;have HB9:=aj (hb9);rw[hb9];clear hV FC OPN hb9 x0 x1 x2 x3 x4 x5 x6 x7 x8 y0 y1 y2 y3 y4 y5 y6 y7 l0 l1 l2 l3 l4 l5 l6 l7 l8 l9 l10;cases b9 with
           |false=>
            go_wp2;go_ret;exact⟨_,rfl,by rw[UF.out,kp7 h5 h6 h7 h8 h9 (.inl (by rw[ea];exact HB9.out))];exact Er.no (by decide),BV⟩
           |true=>
            obtain⟨y0,y1,y2,y3,y4,y5,y6,y7⟩:=VV.out;by_cases hgo:u.goal=0
            ·have Zv:Hid (Wd.bG ks W i u=0):=by unfold Hid;rw[UF.out,kp0 h5 h6 h7 h8 h9 (by rw[ea];exact HB9.out) (.inl hgo)]
             go_wp2;go_ret;exact⟨_,rfl,by rw[Zv.out];exact Er.nil,BV⟩
            ·by_cases hta:u.task=0
             ·have abQ:Hid (Wd.bG ks W i u=7):=by unfold Hid;rw[UF.out,kp7 h5 h6 h7 h8 h9 (.inr ⟨hgo,hta⟩)]
              go_wp2;go_ret;exact⟨_,rfl,by rw[abQ.out];exact Er.no (by decide),BV⟩
             ·have Zv:Hid (Wd.bG ks W i u=0):=by unfold Hid;rw[UF.out,kp0 h5 h6 h7 h8 h9 (by rw[ea];exact HB9.out) (.inr hta)]
              have tb:(u.task==0)=false:=by simpa using hta
              clear hta;go_wp2;go_ret;exact⟨_,rfl,by rw[Zv.out];exact Er.nil,BV⟩
          ·have t9:=decide_eq_false h9
           go_wp2_with fail
           refine(gX _ _ _ _ _ (by omega)).mono ?_;rintro e w10 ⟨rfl,jS⟩;obtain rfl:=jS.symm;rw[t9];clear t9 t8;go_wp2;go_ret;exact⟨_,rfl,by rw[UF.out,kp6 h5 h6 h7 (.inr h9)];exact Er.no (by decide),BC⟩
         ·have t8:=decide_eq_false h8
          go_wp2_with fail
          refine(gX _ _ _ _ _ (by omega)).mono ?_;rintro e w9 ⟨rfl,jS⟩;obtain rfl:=jS.symm;rw[t8];clear t8;go_wp2;go_ret;exact⟨_,rfl,by rw[UF.out,kp6 h5 h6 h7 (.inl h8)];exact Er.no (by decide),BC⟩
        ·go_wp2_with fail
         refine(pI _ _ _ _ h7).mono ?_;rintro e w8 ⟨rfl,jS⟩;obtain rfl:=jS.symm;go_wp2;go_ret;exact⟨_,rfl,by rw[UF.out,kp1 (.inr (.inr h7))];exact Er.no (by decide),BC⟩
       ·go_quiet ((go_at_call 74;exact Calls.quiet_of_same (pI _ _ _ _ h6)))
        have Qh:=aj (_root_.Go.below_drewN BC nq);have Qi:=aj (XC.below (_root_.Go.below_drewN aB nq) XC.lt);have Qj:=aj (VC.below (_root_.Go.below_drewN aB nq) VC.lt);have Qk:=aj (KC.below (_root_.Go.below_drewN aB nq) KC.lt);generalize wc.drewN nq=wd at *;clear BC XC VC KC x0 x1 x2 x3 x4 x5 x6 x7 x8 y0 y1 y2 y3 y4 y5 y6 y7 l0 l1 l2 l3 l4 l5 l6 l7 l8 l9 l10;obtain⟨wc,hwc⟩:∃wc,wc=wd:=⟨_,rfl⟩;subst hwc;have BC:=Qh;have XC:=Qi;have VC:=Qj;have KC:=Qk;clear Qh Qi Qj Qk;obtain⟨x0,x1,x2,x3,x4,x5,x6,x7,x8⟩:=XC.out;obtain⟨y0,y1,y2,y3,y4,y5,y6,y7⟩:=VC.out;rw[ek] at y2;obtain⟨l0,l1,l2,l3,l4,l5,l6,l7,l8,l9,l10⟩:=KC.out;go_wp2;go_ret;exact⟨_,rfl,by rw[UF.out,kp1 (.inr (.inl h6))];exact Er.no (by decide),BC⟩
      ·go_quiet ((go_at_call 74;exact Calls.quiet_of_same (pI _ _ _ _ h5)))
       have Qh:=aj (_root_.Go.below_drewN BC nq);have Qi:=aj (XC.below (_root_.Go.below_drewN aB nq) XC.lt);have Qj:=aj (VC.below (_root_.Go.below_drewN aB nq) VC.lt);have Qk:=aj (KC.below (_root_.Go.below_drewN aB nq) KC.lt);generalize wc.drewN nq=wd at *;clear BC XC VC KC x0 x1 x2 x3 x4 x5 x6 x7 x8 y0 y1 y2 y3 y4 y5 y6 y7 l0 l1 l2 l3 l4 l5 l6 l7 l8 l9 l10;obtain⟨wc,hwc⟩:∃wc,wc=wd:=⟨_,rfl⟩;subst hwc;have BC:=Qh;have XC:=Qi;have VC:=Qj;have KC:=Qk;clear Qh Qi Qj Qk;obtain⟨x0,x1,x2,x3,x4,x5,x6,x7,x8⟩:=XC.out;obtain⟨y0,y1,y2,y3,y4,y5,y6,y7⟩:=VC.out;rw[ek] at y2;obtain⟨l0,l1,l2,l3,l4,l5,l6,l7,l8,l9,l10⟩:=KC.out;go_wp2;go_ret;exact⟨_,rfl,by rw[UF.out,kp1 (.inl h5)];exact Er.no (by decide),BC⟩
theorem Ql{id:Int}:∀{r:Int},mM (λu=>u.id==id) us r->(r= -1/\us.find? (λu=>u.id==id)=none)\/∃(n:Nat) (x:aI),r=n/\us[n]? =some x/\us.find? (λu=>u.id==id)=some x
 |r,.inl ⟨h,h1⟩=>.inl ⟨h,by
  rw[List.find?_eq_none];intro x hx hp;have:us.any (λu=>u.id==id)=true:=gK.2 ⟨x,hx,hp⟩;rw[h1] at this;cases this⟩
 |r,.inr ⟨n,x,h,h1,h2,h3⟩=>.inr ⟨n,x,h,h1,by
  have hn:=(aK.1 h1).1;have e:us=us.take n++x::us.drop (n+1):=by
   obtain⟨hi,e⟩:=aK.1 h1;rw[<-e,<-List.drop_eq_getElem_cons hi,List.take_append_drop]
  have h4:(us.take n).find? (λu=>u.id==id)=none:=by
   rw[List.find?_eq_none];intro y hy hp;have:(us.take n).any (λu=>u.id==id)=true:=gK.2 ⟨y,hy,hp⟩;rw[h3] at this;cases this
  rw[e,List.find?_append,h4];simp only[Option.none_or];have h2':(x.id==id)=true:=h2;simp only[List.find?_cons,h2']⟩
theorem jf6(h:W.us.find? (λu=>u.id==j.unit)=none):Wd.aY ks W j=6:=by unfold Wd.aY;rw[h]
theorem jf7(h:W.us.find? (λu=>u.id==j.unit)=some u)(hk:ks[u.kind.toNat]? =some k)(h7:u.ay≠j.ay\/k.t=false):Wd.aY ks W j=7:=by
 unfold Wd.aY;rw[h];simp only[hk];rw[if_pos];rcases h7 with h7|h7<;>simp[h7]
theorem jf1(h:W.us.find? (λu=>u.id==j.unit)=some u)(hk:ks[u.kind.toNat]? =some k)(hp:u.ay=j.ay)(ht:k.t=true)(h1:decide (0<=j.kind/\j.kind<(ks.length:Int))=false\/decide (1<=j.left/\j.left<=1000)=false):Wd.aY ks W j=1:=by
 unfold Wd.aY Wd.has;rw[h];simp only[hk];rw[hp,ht,if_neg (by simp),if_pos];rcases h1 with h1|h1<;>rw[h1]<;>simp
theorem jf0(h:W.us.find? (λu=>u.id==j.unit)=some u)(hk:ks[u.kind.toNat]? =some k)(hp:u.ay=j.ay)(ht:k.t=true)(h1:decide (0<=j.kind/\j.kind<(ks.length:Int))=true)(h2:decide (1<=j.left/\j.left<=1000)=true):Wd.aY ks W j=0:=by
 unfold Wd.aY Wd.has;rw[h];simp only[hk];rw[hp,ht,h1,h2,if_neg (by simp),if_neg (by simp)]
theorem V_(vk vw:Value)(ks:List KV)(W:WV)(j:bM)(w:World)(hk:Kl w vk ks)(hw:Wl w vw W)(Jr:W.us.length<=40)(hkl:ks.length<=8)(hall:∀u∈W.us,0<=u.kind/\u.kind<(ks.length:Int)):
  Calls prog 79 #[vk,vw,j.val] w λe w'=>∃r,e=.returned r/\Er r (Wd.aY ks W j)/\Below w.heap.size w w':=by
 have K:=aj (hk);have H:=aj (hw);have HA:=aj (hall);obtain⟨u1,u2,u3,u4,u5,rfl,r1,r2,r3,r4,r5⟩:=hw;obtain⟨p4,q4,rfl,k41,k42,k43⟩:=r4;obtain⟨pk,qk,rfl,kk1,kk2,kk3⟩:=hk;have UC:=aj (k43);have KK:=aj (kk3);clear r1 r2 r3 r5 k43 kk3 hall;unfold bM.val;go_enter func79,ntmps79;go_wp2_with fail
 have B0:Hid (Below w.heap.size w ((w.alloc (cells #[int i64 W.turn,int i64 W.next,int i64 W.wide,int i64 W.high,u1,u2,u3,slice p4 W.us.length q4,u5] 29)).alloc (cells #[int i64 j.ay,int i64 j.unit,int i64 j.kind,int i64 j.left] 93))):=aA.alloc (by simp) _;have X0:Hid (Bw ((w.alloc (cells #[int i64 W.turn,int i64 W.next,int i64 W.wide,int i64 W.high,u1,u2,u3,slice p4 W.us.length q4,u5] 29)).alloc (cells #[int i64 j.ay,int i64 j.unit,int i64 j.kind,int i64 j.left] 93)) w.heap.size W u1 u2 u3 (slice p4 W.us.length q4) u5):=(Bw.mk' W _ _ _ _ _ rfl).below (n:=w.heap.size+1) (aB.alloc (by simp) _) (fC _);have J0:Hid (nI ((w.alloc (cells #[int i64 W.turn,int i64 W.next,int i64 W.wide,int i64 W.high,u1,u2,u3,slice p4 W.us.length q4,u5] 29)).alloc (cells #[int i64 j.ay,int i64 j.unit,int i64 j.kind,int i64 j.left] 93)) ⟨w.heap.size+1,0,none⟩ j):=nI.mk' j (by simp);generalize ((w.alloc _).alloc _)=w0 at *;generalize w.heap.size+1=zj at *;refine(rO _ W _ w0 (H.below B0)).mono ?_;rintro e w1 ⟨r,rfl,hf,hb1⟩;have B1:=aG B0 hb1;have X1:=aj (X0.below hb1 X0.lt);have J1:=aj (J0.below hb1 J0.lt);clear hb1 X0 J0 B0;rcases Ql hf with⟨rfl,hfn⟩|⟨n,u,rfl,hn,hfs⟩
 ·have F6:Hid (Wd.aY ks W j=6):=jf6 hfn
  clear hf hfn;go_wp2;go_ret;exact⟨_,rfl,by rw[F6.out];exact Er.no (by decide),B1⟩
 ·have hnl:=(aK.1 hn).1
  have hni:(n:Int)<(W.us.length:Int):=by omega
  have hn0:¬(n:Int)<0:=by omega
  have HF:=aj (hfs);obtain⟨x,rfl,hx,hcell⟩:=UC (by intro e;rw[e] at hnl;simp at hnl);obtain⟨d0,d1,d2,d3,d4,d5,d6,d7⟩:=(hcell n u hn).below B1 (by rw[add_block];exact hx);have hku:=HA u (aT hn);obtain⟨kn,ek⟩:∃kn:Nat,u.kind=kn:=⟨u.kind.toNat,by omega⟩;have hkn:kn<ks.length:=by omega
  have aaZ:(kn:Int)<(ks.length:Int):=by omega
  obtain⟨k,hkk⟩:∃k,ks[kn]? =some k:=⟨_,aH hkn⟩;have HK:Hid (ks[u.kind.toNat]? =some k):=by unfold Hid;rw[ek,bF];exact hkk
  obtain⟨xk,rfl,hxk,hkc⟩:=KK (by intro e;rw[e] at hkn;simp at hkn);have KC1:=aj ((hkc kn k hkk).below B1 (by rw[add_block];exact hxk));have x7:=X1.c7;have EK:=aj (ek);clear hf hfs hcell hx hn hku hkc hxk hkk ek;go_upto_region 5 with fail
  have U2:Hid (fA _ ⟨w1.heap.size,0,none⟩ u):=fA.mk' u rfl;have BA:Hid (Below _ w1 (w1.alloc (cells #[int i64 u.id,int i64 u.ay,int i64 u.kind,int i64 u.at_,int i64 u.life,int i64 u.load,int i64 u.task,int i64 u.goal] 74))):=aA;generalize (w1.alloc _)=w2 at *;have B2:=aG B1 BA;have J2:=aj (J1.below BA J1.lt);have KC2:=aj (KC1.below BA KC1.lt);clear d0 d1 d2 d3 d4 d5 d6 d7 x7 X1 J1 KC1 BA B1;generalize w1.heap.size=zu at *;obtain⟨y0,y1,y2,y3,y4,y5,y6,y7⟩:=U2.out;rw[EK.out] at y2;obtain⟨j0,j1,j2,j3⟩:=J2.out;obtain⟨l0,l1,l2,l3,l4,l5,l6,l7,l8,l9,l10⟩:=KC2.out;simp only[aO] at y1 y2 y3 y4 y5 y6 y7 j1 j2 j3;by_cases hp:u.ay=j.ay
  ·cases ht:k.t with
   |false=>
    have F7:=aj (jf7 HF HK (.inr ht));rw[ht] at l10;rw[hp] at y1;clear ht;go_wp2;go_ret;exact⟨_,rfl,by rw[F7.out];exact Er.no (by decide),B2⟩
   |true=>
    obtain⟨b4,hb4⟩:∃b,decide (0<=j.kind/\j.kind<(ks.length:Int))=b:=⟨_,rfl⟩;obtain⟨b5,hb5⟩:∃b,decide (1<=j.left/\j.left<=1000)=b:=⟨_,rfl⟩;have HB:=aj (dJ hb4 hb5);have HPT:Hid (u.ay=j.ay/\k.t=true):=⟨hp,ht⟩;rw[ht] at l10;rw[hp] at y1;clear ht;go_wp2_with fail
    refine(kU _ _ _ _ _ (by omega)).mono ?_;rintro e w3 ⟨rfl,jS⟩;obtain rfl:=jS.symm;rw[hb4];clear hb4;cases b4 with
    |false=>
     have F1:=aj (jf1 HF HK HPT.1 HPT.2 (.inl HB.1));clear hb5;go_wp2;go_ret;exact⟨_,rfl,by rw[F1.out];exact Er.no (by decide),B2⟩
    |true=>
     go_wp2_with fail
     refine(dh _ 1 _ _).mono ?_;rintro e w4 ⟨rfl,jS⟩;obtain rfl:=jS.symm;rw[hb5];clear hb5;cases b5 with
     |false=>
      have F1:=aj (jf1 HF HK HPT.1 HPT.2 (.inr HB.2));go_wp2;go_ret;exact⟨_,rfl,by rw[F1.out];exact Er.no (by decide),B2⟩
     |true=>
      have F0:=aj (jf0 HF HK HPT.1 HPT.2 HB.1 HB.2);go_wp2;go_ret;exact⟨_,rfl,by rw[F0.out];exact Er.nil,B2⟩
  ·have F7:=aj (jf7 HF HK (.inl hp))
   go_wp2;go_ret;exact⟨_,rfl,by rw[F7.out];exact Er.no (by decide),B2⟩
theorem Bd(x a b:Int)(w:World):
  Calls prog 128 #[int i64 x,int i64 a,int i64 b] w λe w'=>e=.returned (.bool (decide (a<=x/\x<=b)))/\w'=w:=by
 by_cases h1:a<=x
 ·by_cases h2:x<=b
  ·go_enter func128,ntmps128
   go_wp2;go_ret;exact⟨by simp[h1,h2],rfl⟩
  ·go_enter func128,ntmps128
   go_wp2;go_ret;exact⟨by simp;omega,rfl⟩
 ·go_enter func128,ntmps128
  go_wp2;go_ret;exact⟨by simp;omega,rfl⟩
theorem Bg(x a b:Int)(w:World)(h1:a<=x)(h2:x<=b):
  Calls prog 128 #[int i64 x,int i64 a,int i64 b] w λe w'=>e=.returned (.bool true)/\w'=w:=
 (Bd x a b w).mono λe w' ⟨h,hw⟩=>⟨by rw[h,decide_eq_true ⟨h1,h2⟩],hw⟩
theorem Js(x a b:Int)(w:World)(h:x<a\/b<x):
  Calls prog 128 #[int i64 x,int i64 a,int i64 b] w λe w'=>e=.returned (.bool false)/\w'=w:=
 (Bd x a b w).mono λe w' ⟨h',hw⟩=>⟨by rw[h',decide_eq_false (by omega)],hw⟩
def Wh(p:KV->Bool)(ks:List KV)(r:Int):Prop:=(r= -1/\ks.any p=false)\/∃(k:Nat) (x:KV),r=k/\ks[k]? =some x/\p x=true/\(ks.take k).any p=false
theorem Le{p:KV->Bool}{k:Nat}{x:KV}(h:ks[k]? =some x):(ks.take (k+1)).any p=((ks.take k).any p||p x):=by
 obtain⟨hi,e⟩:=aK.1 h;rw[dM hi,List.any_append,e];simp
theorem Qm(K:Nat)(eK:∀args w,(callFunc K args).run prog w=.ok (.enter K args) w)(u:Value)(cs:Array Value)(ks:List KV)(p:KV->Bool)(w:World)(hu:Kl w u ks)
  (hp:∀W,Below w.heap.size w W->∀k:KV,Calls prog K (#[k.val]++cs) W λe w'=>e=.returned (.bool (p k))/\Below W.heap.size W w'):
  Calls prog 241 #[u,.func (Fn.func K) #[] cs] w λe w'=>∃r:Int,e=.returned (int i64 r)/\Wh p ks r/\Below w.heap.size w w':=by
 obtain⟨a,c,rfl,c1,c2,ca⟩:=hu;have Ca:=aj (ca);have Hp:=aj (hp);clear ca hp;go_enter func241,ntmps241;go_wp2;go_loopw [8] (λi W'=>∃k:Nat,k<=ks.length/\i=int i64 (k:Nat)/\(ks.take k).any p=false/\Below w.heap.size w W') (λi _=>ks.length-(intOf i).toNat)
 case atStart=>exact⟨0,aZ _,rfl,by simp,dU _ _⟩
 case round=>
  obtain⟨k,hk,rfl,ht,hb⟩:=hrel;have Ht:=aj (ht);have B:=aj (hb);clear ht hb;by_cases h0:k=ks.length
  ·subst h0
   go_wp2;go_ret;refine⟨_,rfl,.inl ⟨rfl,?_⟩,B⟩;have:=Ht.out;rw[List.take_of_length_le aN] at this;exact this
  ·have hkx:k<ks.length:=by omega
   obtain⟨x,rfl,hx1,hx⟩:=Ca (by intro h;rw[h] at hkx;simp at hkx);obtain⟨y,hy⟩:∃y,ks[k]? =some y:=⟨_,aH hkx⟩;have Yc:=(hx k y hy).below B (by rw[add_block];exact hx1);obtain⟨q0,q1,q2,q3,q4,q5,q6,q7,q8,q9,q10⟩:=Yc;have hc:=Hp wr B y;have Hs:Hid _:=Le (p:=p) hy;have Hm:=aj (hy);clear hx hx1 hy;cases hy:p y with
   |true=>
    rw[hy] at hc;have Hc:=aj (hc);have Hy:=aj (hy);clear hc hy;go_wp2_with fail
    refine Calls.mono Hc ?_;rintro e w1 ⟨rfl,b1⟩;have B1:=aG B b1;clear b1;go_wp2;go_ret;exact⟨_,rfl,.inr ⟨k,y,rfl,Hm,Hy,Ht⟩,B1⟩
   |false=>
    rw[hy] at hc;have Hc:=aj (hc);have Hy:=aj (hy);clear hc hy;go_wp2_with fail
    refine Calls.mono Hc ?_;rintro e w1 ⟨rfl,b1⟩;have B1:=aG B b1;clear b1;go_wp2;go_round
    case rel=>exact⟨k+1,by omega,by go_num,by have:=Hs.out;rw[Ht.out,Hy.out] at this;exact this,B1⟩
    case measure=>simp[intOf];omega
theorem Lh(k:KV)(s:ByteArray)(b:Nat)(w:World)(hc:w.cell? ⟨b,0,none⟩=some (.string s)):
  Calls prog 242 #[k.val,.pointer (some ⟨b,0,none⟩)] w λe w'=>e=.returned (.bool (k.k.name==s.data.toList))/\Below w.heap.size w w':=by
 obtain⟨kb,n0,n1,n2,n3,n4,n5,n6,n7,kf,kt⟩:=k;have hl:=cell_lt hc;unfold KV.val;go_enter func242,ntmps242;go_wp2;go_ret;refine⟨?_,aA⟩;show Ending.returned (.bool (kb.toList==s.toList))=_;rw[ByteArray.toList_eq,ByteArray.toList_eq];rfl
theorem Zw:∀args w,(callFunc 242 args).run prog w=.ok (.enter 242 args) w:=by
 intro args w;go_simp
theorem Qn(v:Value)(ks:List KV)(s:ByteArray)(w:World)(h:Kl w v ks):
  Calls prog 208 #[v,.string s] w λe w'=>∃r:Int,e=.returned (int i64 r)/\Wh (λk=>k.k.name==s.data.toList) ks r/\Below w.heap.size w w':=by
 have K0:=aj (h);obtain⟨a,c,rfl,c1,c2,-⟩:=h;go_enter func208,ntmps208;go_wp2_with fail
 have B1:Below _ w (w.alloc (cells #[.string s] 9)):=aA;have hc:(w.alloc (cells #[.string s] 9)).cell? ⟨w.heap.size,0,none⟩=some (.string s):=by simp
 have hz:(w.alloc (cells #[.string s] 9)).heap.size=w.heap.size+1:=by simp
 refine(Qm 242 Zw _ _ ks (λk=>k.k.name==s.data.toList) _ (K0.below B1) ?_).mono ?_
 ·intro W hW k
  exact Lh k s _ W (by rw[hW.cell (p:=⟨w.heap.size,0,none⟩) (by rw[hz];exact fC _)];exact hc)
 ·rintro e w1 ⟨r,rfl,hr,b1⟩
  have B2:=aG B1 b1;have Hr:=aj (hr);clear hr b1 B1 hc hz;go_wp2;go_ret;exact⟨r,rfl,Hr,B2⟩
def KV.arr(k:KV):Value:=.agg #[int i64 k.n0,int i64 k.n1,int i64 k.n2,int i64 k.n3,int i64 k.n4,int i64 k.n5,int i64 k.n6,int i64 k.n7]
theorem Qo(k:KV)(w:World):
  Calls prog 178 #[k.val] w λe w'=>e=.returned k.arr/\Below w.heap.size w w':=by
 obtain⟨kb,n0,n1,n2,n3,n4,n5,n6,n7,kf,kt⟩:=k;unfold KV.val KV.arr;go_enter func178,ntmps178;go_wp2;refine bodyPost_ret (by simp[results,results178,go_sem]) rfl ⟨rfl,?_⟩;exact aA.alloc (by simp) _
theorem abR(cs:Array Value)(p:Nat)(x:Int)(hp:p<8)(h:cs[p]? =some (int i64 x))(W:World):(Instr.index 240 (.agg cs) (int i64 (p:Int))).run prog W=.ok (int i64 x) W:=by
 have h1:(0:Int)<=p/\(p:Int)<8:=by omega
 have hs:=(Array.getElem?_eq_some_iff.1 h).1;unfold Instr.index;simp[go_sem,h1];rw[if_pos hp,h];simp[go_sem]
def KV.ns(k:KV):List Int:=[k.n0,k.n1,k.n2,k.n3,k.n4,k.n5,k.n6,k.n7]
theorem Wj(k:KV)(w:World):
  Calls prog 209 #[k.val] w λe w'=>e=.returned (.bool (decide (Kd.eu k.ns=0)))/\Below w.heap.size w w':=by
 have NA:=Qo k;obtain⟨kb,n0,n1,n2,n3,n4,n5,n6,n7,kf,kt⟩:=k;have R:Hid (Kd.eu (KV.ns ⟨kb,n0,n1,n2,n3,n4,n5,n6,n7,kf,kt⟩)=if[n0,n1,n2,n3,n4,n5,n6,n7].any _ then 1 else if n0<1\/4<n4\/12<n2\/12<n3 then 1 else 0):=rfl;generalize Kd.eu _=r at *;unfold KV.val KV.arr at *;simp only at NA;have NA':=aj (NA);clear NA;go_enter func209,ntmps209;have B1:Hid (Below _ w (w.alloc (cells #[.string kb,int i64 n0,int i64 n1,int i64 n2,int i64 n3,int i64 n4,int i64 n5,int i64 n6,int i64 n7,.bool kf,.bool kt] 77))):=aA;have X1:Hid (Kc (w.alloc (cells #[.string kb,.int _ n0,.int _ n1,.int _ n2,.int _ n3,.int _ n4,.int _ n5,.int _ n6,.int _ n7,.bool kf,.bool kt] 77)) _ _):=Kc.mk' ⟨kb,n0,n1,n2,n3,n4,n5,n6,n7,kf,kt⟩ rfl;go_wp2_with fail
 refine(NA' _).mono ?_;rintro e w2 ⟨rfl,b2⟩;have X2:=aj (X1.below b2 X1.lt);have B2:=aG B1 b2;clear b2 B1 X1 NA';obtain⟨ns,hns⟩:∃ns,[n0,n1,n2,n3,n4,n5,n6,n7]=ns:=⟨_,rfl⟩;have Hns:=aj (hns);have nl:Hid (ns.length=8):=by rw[<-hns];rfl
 rw[hns] at R;clear hns;go_wp2_with fail
 go_loop [7] (λj=>∃p:Nat,p<=8/\j=int i64 (p:Nat)/\(ns.take p).any (λx=>decide (x<0\/1000<x))=false) (λj=>8-(intOf j).toNat)
 case atStart=>exact⟨0,aZ _,rfl,by simp⟩
 case round=>
  obtain⟨p,hp,rfl,hany⟩:=hrel;have An:=aj (hany);clear hany;by_cases hp8:p=8
  ·have R2:Hid (r=if n0<1\/4<n4\/12<n2\/12<n3 then 1 else 0):=by
    have h9:=An.out;rw[List.take_of_length_le (by rw[nl.out,hp8];exact aU _)] at h9;unfold Hid;rw[R.out,if_neg (by rw[h9];decide)]
   have z1:w2.cell? ⟨w.heap.size,1,none⟩=some (.int _ n0):=X2.c1;have z3:w2.cell? ⟨w.heap.size,3,none⟩=some (.int _ n2):=X2.c3;have z4:w2.cell? ⟨w.heap.size,4,none⟩=some (.int _ n3):=X2.c4;have z5:w2.cell? ⟨w.heap.size,5,none⟩=some (.int _ n4):=X2.c5;subst hp8;clear R An X2;by_cases t1:0<n0
   ·by_cases t2:n4<=4
    ·by_cases t3:n2<=12
     ·by_cases t4:n3<=12
      ·have E:Hid (decide (r=0)=true):=by unfold Hid;rw[R2.out,if_neg (by omega)];rfl
       go_wp2;go_ret;exact⟨by rw[E.out];rfl,B2⟩
      ·have E:Hid (decide (r=0)=false):=by unfold Hid;rw[R2.out,if_pos (by omega)];rfl
       go_wp2;go_ret;exact⟨by rw[E.out];rfl,B2⟩
     ·have E:Hid (decide (r=0)=false):=by unfold Hid;rw[R2.out,if_pos (by omega)];rfl
      go_wp2;go_ret;exact⟨by rw[E.out];rfl,B2⟩
    ·have E:Hid (decide (r=0)=false):=by unfold Hid;rw[R2.out,if_pos (by omega)];rfl
     go_wp2;go_ret;exact⟨by rw[E.out];rfl,B2⟩
   ·have E:Hid (decide (r=0)=false):=by unfold Hid;rw[R2.out,if_pos (by omega)];rfl
    go_wp2;go_ret;exact⟨by rw[E.out];rfl,B2⟩
  ·have hp9:p<8:=by omega
   obtain⟨x,hx⟩:∃x,ns[p]? =some x:=⟨_,aH (by rw[nl.out];exact hp9)⟩;have As:Hid ((ns.take (p+1)).any (λx=>decide (x<0\/1000<x))=decide (x<0\/1000<x)):=by
    obtain⟨hi,e⟩:=aK.1 hx;unfold Hid;rw[dM hi,List.any_append,An.out,e];simp
   have ax:(#[int i64 n0,int i64 n1,int i64 n2,int i64 n3,int i64 n4,int i64 n5,int i64 n6,int i64 n7]:Array Value)[p]? =some (int i64 x):=by
    have h9:(ns.map (int i64)).toArray[p]? =some (int i64 x):=by simp[hx]
    rw[<-Hns.out] at h9;exact h9
   have hix:=abR _ p x hp9 ax;clear ax;have Mx:=aj (aT hx);clear hx;by_cases t:x<0\/1000<x
   ·have E:Hid (decide (r=0)=false):=by
     unfold Hid;rw[R.out,if_pos (gK.2 ⟨x,Mx.out,by simpa using t⟩)];rfl
    go_wp2_with (go_at_call 128;refine(Js _ _ _ _ t).mono ?_;rintro e w' ⟨rfl,rfl⟩);go_ret;exact⟨by rw[E.out];rfl,B2⟩
   ·have A2:Hid ((ns.take (p+1)).any (λx=>decide (x<0\/1000<x))=false):=by unfold Hid;rw[As.out,decide_eq_false t]
    go_wp2_with (go_at_call 128;refine(Bg _ _ _ _ (by omega) (by omega)).mono ?_;rintro e w' ⟨rfl,rfl⟩);go_round
    case rel=>exact⟨p+1,by omega,by go_num,A2⟩
    case measure=>simp[intOf];omega
end
end Go.Proofs.YtolfphmdmpehdaaGreatDoor
