/- slices.Repeat, of a list of one. And more. -/
import Derived.Test.YtolfphmdmpehdaaGreatDoorZTopQuiet2
set_option linter.unusedVariables false
set_option maxHeartbeats 16000000
set_option maxRecDepth 100000
open Go.Value (int slice)
open Go.IntKind (i64)
namespace Go.Proofs.YtolfphmdmpehdaaGreatDoor
open Go.RowKit
theorem Mc(n:Nat)(h:n<=144):n&&& 4294967295=n:=by
 have:=Nat.and_two_pow_sub_one_eq_mod n 32;rw[show 2^32-1=4294967295 from rfl] at this;rw[this];exact Nat.mod_eq_of_lt (by omega)
theorem Ce(n:Nat)(w:World)(h:n<=144):
  Calls Tryz.prog 168 #[.int .u64 1,.int .u64 (n:Nat)] w λe w'=>e=.returned (.tuple #[.int .u64 0,.int .u64 (n:Nat)])/\w'=w:=by
 have e1:bits BinOp.and IntKind.u64 1 4294967295=1:=bits_and_u64_nat 1 4294967295 (by omega) (by omega);have e2:bits BinOp.and IntKind.u64 (n:Int) 4294967295=(n:Int):=by
  have:=bits_and_u64_nat n 4294967295 (by omega) (by omega);rw[Mc n h] at this;exact this
 have e3:(n:Int)/4294967296=0:=by omega
 have e4:bits BinOp.and IntKind.u64 0 4294967295=0:=bits_and_u64_nat 0 4294967295 (by omega) (by omega);go_enter Tryz.func168,Tryz.ntmps168;go_wp2;go_ret2;exact⟨rfl,rfl⟩
theorem mul_one(n:Nat)(w:World)(h:n<=144):
  Calls Tryz.prog 132 #[.int .u64 1,.int .u64 (n:Nat)] w λe w'=>e=.returned (.tuple #[.int .u64 0,.int .u64 (n:Nat)])/\w'=w:=by
 go_enter Tryz.func132,Tryz.ntmps132;go_wp2_with (go_at_call 168;refine(Ce _ _ h).mono ?_;rintro e w' ⟨rfl,rfl⟩);go_ret2;exact⟨rfl,rfl⟩
def fV(vv:Int)(n m:Nat):Array Value:=(List.replicate m (int i64 vv)++List.replicate (n-m) (int i64 0)).toArray
def Rp(vv:Int)(w:World)(b n m:Nat):Prop:=w.heap[b]? =some (.cells (fV vv n m) 3 (0,0))
theorem Rp.bk{vv:Int}{w:World}{b n:Nat}(h:Rp vv w b n n):Bk w b (List.replicate n vv) #[]:=by
 unfold Rp at h;unfold Bk;rw[h];simp[intCells,fV]
theorem Rp.cell{vv:Int}{w:World}{b n m:Nat}(h:Rp vv w b n m){i:Nat}(hi:i<m):w.cell? ⟨b,i,none⟩=some (int i64 vv):=by
 unfold Rp at h;simp only[World.cell?,h];simp[fV,List.getElem?_append,hi]
theorem Rp.lt{vv:Int}{w:World}{b n m:Nat}(h:Rp vv w b n m):b<w.heap.size:=lt_of_block h
theorem Rp.drewN{vv:Int}{w:World}{b n m:Nat}(h:Rp vv w b n m)(k:Nat):Rp vv (w.drewN k) b n m:=h
theorem Ci:(Tryz.prog.info? 3).map (·.size)=some 1:=by kernel_rfl
theorem GK(a z:Value)(n m k:Nat)(h:m+k<=n):(List.replicate m a++List.replicate (n-m) z).take m++List.replicate k a++(List.replicate m a++List.replicate (n-m) z).drop (m+k)=List.replicate (m+k) a++List.replicate (n-(m+k)) z:=by
 rw[List.take_left' (by simp),List.drop_append,List.length_replicate,List.drop_eq_nil_of_le (by simp),List.nil_append,List.drop_replicate,List.replicate_append_replicate]
 congr 2
 omega
theorem zY(vv:Int)(w:World)(b n m k:Nat)(dLen dCap sLen sCap:Nat)(x:Addr)(h:Rp vv w b n m)(hn:k=Nat.min sLen dLen)(hk:m+k<=n)(hs:∀j,j<k->w.cell? (x.add j)=some (int i64 vv)):
  (Builtin.copy_ #[23,23] 3 #[slice (some ⟨b,m,none⟩) dLen dCap,slice (some x) sLen sCap]).run Tryz.prog w=.ok (int i64 (k:Nat)) (w.setRow b (fV vv n (m+k)))/\Rp vv (w.setRow b (fV vv n (m+k))) b n (m+k)/\Kp b w (w.setRow b (fV vv n (m+k))):=by
 unfold Rp at h;have r:=run_copy_row (P:=Tryz.prog) w 23 23 3 3 b m dLen dCap x sLen sCap _ 3 (List.replicate k (int i64 vv)) Tryz.underlying23 Ci h (by simp[hn]) (λj v hv=>by
  rw[List.getElem?_replicate] at hv;split at hv
  ·injection hv with hv
   rw[<-hv];exact hs j (by assumption)
  ·cases hv) (by simp[fV];omega) (λv hv=>by rw[List.eq_of_mem_replicate hv];rfl)
 rw[List.length_replicate,show(fV vv n m).toList=List.replicate m (int i64 vv)++List.replicate (n-m) (int i64 0) from rfl,GK _ _ n m k hk] at r;exact⟨r,setRow_heap w b _ _ _ _ h,⟨rfl,rfl,rfl,by simp,λi _ hi=>setRow_other w b i _ hi⟩⟩
theorem qU(vv:Int)(u:Value)(n:Nat)(w:World)(hu:Ro w u [vv])(n0:0<n)(n1:n<=144):
  Calls Tryz.prog 82 #[u,int i64 (n:Nat)] w λe w'=>∃b,e=.returned (slice (some ⟨b,0,none⟩) n n)/\w.heap.size<=b/\Bk w' b (List.replicate n vv) #[]/\Below w.heap.size w w':=by
 obtain⟨a,c,rfl,c1,c2,ca⟩:=hu;obtain⟨x,rfl,xl,hx⟩:=ca (by simp);have cx:Hid (w.cell? (x.add 0)=some (int i64 vv)/\x.block<w.heap.size):=⟨hx 0 _ rfl,xl⟩;clear ca hx xl;simp only[List.length_cons,List.length_nil,Nat.zero_add] at c1 ⊢;go_enter Tryz.func82,Tryz.ntmps82;go_wp2_with fail
 refine(mul_one _ _ n1).mono ?_;rintro e w' ⟨rfl,rfl⟩;have h9:¬(9223372036854775807:Int)<(n:Int):=by omega
 go_wp2_with (at_make;obtain⟨i0,hi,hz0,hz1,hz2⟩:=info_parts iW;refine wpList_make_full _ rfl _ _ 23 rfl _ 3 i0 _ 1 Tryz.underlying23 hi hz0 hz1 _ _ _ _ n rfl rfl rfl rfl (by rw[hz2];omega) (by unfold maxLen;omega) (Nat.le_refl _) ?_);intro w1 o1 g1;clear hi hz0 hz1 hz2 h9;have P1:Hid (Rp vv w1 w'.heap.size n 0):=by
  rcases o1.2 with⟨h,_⟩|⟨g,cap,cur,hv,hb,hg,h1,h2,h3,h4⟩
  ·cases h
  ·cases hv
   unfold Hid Rp fV;rw[hg]
   congr 1
   have e:cur.toList=List.replicate n (int i64 0):=by
    have:=toList_madeCells_one (int i64 0) n;rw[List.take_of_length_le (by simp;omega)] at h4;rw[h4];exact this
   simp only[List.replicate_zero,List.nil_append,Nat.sub_zero];rw[<-e]
 have B1:=aj ((Below.refl _ _).grown g1 (Nat.le_refl _) (λk hk=>by cases hk));clear o1 g1;obtain⟨r2,p2,k2⟩:=zY vv w1 w'.heap.size n 0 1 n n 1 c x P1.out (by show 1=min 1 n;omega) (by omega) (λj hj=>by
  rw[show j=0 by omega,B1.out.cell (p:=x.add 0) (by rw[add_block];exact cx.out.2)];exact cx.out.1)
 simp only[Nat.zero_add] at r2 p2 k2;generalize w1.setRow _ _=w2 at *;have P2:=aj (p2);have B2:=aj (k2.below B1.out B1.out.size (Nat.le_refl _));clear p2 k2 P1 B1;go_wp2;clear r2;obtain⟨z,hz⟩:∃z,w'.heap.size=z:=⟨_,rfl⟩;rw[hz] at P2 B2;simp only[hz];have Hz:=aj (hz);clear hz;go_loopw [8] (λi W'=>∃m:Nat,1<=m/\m<=n/\i=int i64 (m:Nat)/\Rp vv W' z n m/\Below z w' W') (λi _=>n-(intOf i).toNat)
 case atStart=>exact⟨1,Nat.le_refl _,n0,rfl,P2,B2⟩
 case round=>
  obtain⟨m,m1,m2,rfl,hp,hb⟩:=hrel;have P:=aj (hp);have B:=aj (hb);clear hp hb P2 B2;by_cases h0:m=n
  ·subst h0
   go_wp2;go_ret;exact⟨z,rfl,by rw[Hz.out];exact Nat.le_refl _,P.out.bk,by rw[Hz.out];exact B⟩
  ·have hm:m<n:=by omega
   obtain⟨k,hk⟩:∃k,k=Nat.min m (n-m):=⟨_,rfl⟩;have hk':k<=m/\k<=n-m/\0<k:=by
    have:k=min m (n-m):=hk;omega
   have rr:(Builtin.copy_ #[23,23] 3 #[slice (some ⟨z,m,none⟩) (n-m) (n-m),slice (some ⟨z,0,none⟩) m n]).run Tryz.prog wr.drew=.ok (int i64 (k:Nat)) (wr.drew.setRow z (fV vv n (m+k)))/\_:=
    zY vv wr.drew z n m k (n-m) (n-m) m n ⟨z,0,none⟩ P.out hk (by omega) (λj hj=>by
     rw[Addr.add_lit,Nat.zero_add];exact Rp.cell P.out (by omega))
   obtain⟨r1,p1,q1⟩:=rr;have P1:=aj (p1);have B1:=aj (q1.below B.out.drew (by have:=P.out.lt;show z<=wr.heap.size;omega) (Nat.le_refl _));obtain⟨k1,k2,k3⟩:=hk';clear hk p1 q1;generalize wr.drew.setRow z _=w3 at *;go_wp2;go_region;clear r1;go_wp2;go_round
   case rel=>exact⟨m+k,by omega,by omega,by go_num,P1,B1⟩
   case measure=>simp[intOf];omega
end Go.Proofs.YtolfphmdmpehdaaGreatDoor
namespace Go.Proofs.YtolfphmdmpehdaaGreatDoor.Fd
theorem iZ{W H a:Nat}{x:Int}:x∈near W H a↔(0<a/W/\x=(a:Int)-W)\/(0<a%W/\x=(a:Int)-1)\/(a%W+1<W/\x=(a:Int)+1)\/(a/W+1<H/\x=(a:Int)+W):=by
 unfold near;simp only[List.mem_append];constructor
 ·rintro(h|h|h|h)
  ·split at h
   ·simp at h;left;exact⟨by assumption,h⟩
   ·simp at h
  ·split at h
   ·simp at h;right;left;exact⟨by assumption,h⟩
   ·simp at h
  ·split at h
   ·simp at h;right;right;left;exact⟨by assumption,h⟩
   ·simp at h
  ·split at h
   ·simp at h;right;right;right;exact⟨by assumption,h⟩
   ·simp at h
 ·rintro(⟨h,e⟩|⟨h,e⟩|⟨h,e⟩|⟨h,e⟩)
  ·left;rw[if_pos h,e];simp
  ·right;left;rw[if_pos h,e];simp
  ·right;right;left;rw[if_pos h,e];simp
  ·right;right;right;rw[if_pos h,e];simp
theorem oD(W H a:Nat):(near W H a).length<=4:=by
 unfold near;simp only[List.length_append];have h:∀(c:Prop) [Decidable c] (x:Int),(if c then[x] else[]).length<=1:=by
  intro c _ x;split<;>simp
 have h1:=h (0<a/W) ((a:Int)-W);have h2:=h (0<a%W) ((a:Int)-1);have h3:=h (a%W+1<W) ((a:Int)+1);have h4:=h (a/W+1<H) ((a:Int)+W);omega
theorem mQ{W H a:Nat}{x:Int}(hW:0<W)(ha:a<W*H)(h:x∈near W H a):∃t:Nat,x=t/\t<W*H/\(a:Int)∈near W H t:=by
 have e:=Nat.div_add_mod a W;have hr:=Nat.div_lt_of_lt_mul ha;have hc:=Nat.mod_lt a hW;have key:∀r c:Nat,c<W->(W*r+c)/W=r/\(W*r+c)%W=c:=by
  intro r c h;constructor
  ·rw[Nat.mul_add_div hW,Nat.div_eq_of_lt h];omega
  ·rw[Nat.mul_add_mod,Nat.mod_eq_of_lt h]
 have bd:∀r c:Nat,r<H->c<W->W*r+c<W*H:=by
  intro r c h1 h2;have:=Nat.mul_le_mul_left W (show r+1<=H by omega);rw[Nat.mul_add,Nat.mul_one] at this;omega
 generalize a/W=r at *;generalize a%W=c at *;have ei:(a:Int)=(W:Int)*r+c:=by rw[<-e];simp
 have hh:=iZ.1 h;have e1:=(key r c hc).1;have e2:=(key r c hc).2;rw[e] at e1 e2;rw[e1,e2] at hh;rcases hh with⟨h1,hx⟩|⟨h1,hx⟩|⟨h1,hx⟩|⟨h1,hx⟩
 ·obtain⟨r',rfl⟩:∃r',r=r'+1:=⟨r-1,by omega⟩
  have k:=key r' c hc;refine⟨W*r'+c,?_,bd r' c (by omega) hc,iZ.2 ?_⟩
  ·rw[hx,ei];simp[Int.mul_add];omega
  ·rw[k.1,k.2]
   right;right;right;refine⟨hr,?_⟩;rw[ei];simp[Int.mul_add];omega
 ·obtain⟨c',rfl⟩:∃c',c=c'+1:=⟨c-1,by omega⟩
  have k:=key r c' (by omega);refine⟨W*r+c',?_,bd r c' hr (by omega),iZ.2 ?_⟩
  ·rw[hx,ei];simp;omega
  ·rw[k.1,k.2]
   right;right;left;refine⟨hc,?_⟩;rw[ei];simp;omega
 ·have k:=key r (c+1) h1
  refine⟨W*r+(c+1),?_,bd r _ hr h1,iZ.2 ?_⟩
  ·rw[hx,ei];simp;omega
  ·rw[k.1,k.2]
   right;left;refine⟨by omega,?_⟩;rw[ei];simp;omega
 ·have k:=key (r+1) c hc
  refine⟨W*(r+1)+c,?_,bd _ c h1 hc,iZ.2 ?_⟩
  ·rw[hx,ei];simp[Int.mul_add];omega
  ·rw[k.1,k.2]
   left;refine⟨by omega,?_⟩;rw[ei];simp[Int.mul_add];omega
end Go.Proofs.YtolfphmdmpehdaaGreatDoor.Fd
namespace Go.Proofs.YtolfphmdmpehdaaGreatDoor.Wy
inductive Way (nb:Nat->List Int) (st:Nat->Nat->Int) (t:Nat):Nat->Int->Prop
 |here:Way nb st t t 0
 |step {i j:Nat} {d:Int}:(j:Int)∈nb i->0<st i j->Way nb st t j d->Way nb st t i (st i j+d)
section
variable {nb:Nat->List Int} {st:Nat->Nat->Int} {t:Nat}
theorem Way.nonneg{i:Nat}{d:Int}(h:Way nb st t i d):0<=d:=by
 induction h with
 |here=>omega
 |step _ h1 _ ih=>omega
def Least(nb:Nat->List Int)(st:Nat->Nat->Int)(t i:Nat)(x:Int):Prop:=
 (x= -1/\∀d,¬Way nb st t i d)\/(Way nb st t i x/\∀d,Way nb st t i d->x<=d)
theorem Least.uniq{i:Nat}{x y:Int}(hx:Least nb st t i x)(hy:Least nb st t i y):x=y:=by
 rcases hx with⟨rfl,hx⟩|⟨h1,h2⟩
 ·rcases hy with⟨rfl,_⟩|⟨h3,_⟩
  ·rfl
  ·exact absurd h3 (hx _)
 ·rcases hy with⟨rfl,hy⟩|⟨h3,h4⟩
  ·exact absurd h1 (hy _)
  ·have:=h2 _ h3
   have:=h4 _ h1;omega
theorem Least.ge{i:Nat}{x:Int}(h:Least nb st t i x): -1<=x:=by
 rcases h with⟨rfl,_⟩|⟨h,_⟩
 ·omega
 ·have:=h.nonneg;omega
def bD(nb:Nat->List Int)(st:Nat->Nat->Int)(t n:Nat)(l:List Int):Prop:=l.length=n/\∀(i:Nat) x,l[i]? =some x->Least nb st t i x
theorem bD.uniq{n:Nat}{l m:List Int}(hl:bD nb st t n l)(hm:bD nb st t n m):l=m:=by
 apply List.ext_getElem?;intro i;by_cases h:i<n
 ·have h1:i<l.length:=by rw[hl.1];exact h
  have h2:i<m.length:=by rw[hm.1];exact h
  rw[List.getElem?_eq_getElem h1,List.getElem?_eq_getElem h2,(hl.2 i _ (List.getElem?_eq_getElem h1)).uniq (hm.2 i _ (List.getElem?_eq_getElem h2))]
 ·rw[List.getElem?_eq_none (by rw[hl.1];omega),List.getElem?_eq_none (by rw[hm.1];omega)]
def Sound(nb:Nat->List Int)(st:Nat->Nat->Int)(t:Nat)(l:List Int):Prop:=∀(i:Nat) x,l[i]? =some x->x= -1\/Way nb st t i x
def Shut(nb:Nat->List Int)(st:Nat->Nat->Int)(l:List Int)(i:Nat):Prop:=∀(j:Nat) x y,l[i]? =some x->l[j]? =some y->(j:Int)∈nb i->0<st i j->0<=y->0<=x/\x<=st i j+y
theorem wY{n:Nat}{l:List Int}(hn:l.length=n)(hnb:∀(i j:Nat),i<n->(j:Int)∈nb i->j<n)(ht:l[t]? =some 0)(hs:Sound nb st t l)(hc:∀i,i<n->Shut nb st l i):bD nb st t n l:=by
 have key:∀i d,Way nb st t i d->i<n->∃x,l[i]? =some x/\0<=x/\x<=d:=by
  intro i d h
  induction h with
  |here=>intro _;exact⟨0,ht,by omega,by omega⟩
  | @step i j d h1 h2 h3 ih=>
   intro hi;obtain⟨y,hy,y0,yd⟩:=ih (hnb i j hi h1);have hx:i<l.length:=by rw[hn];exact hi
   have:=hc i hi j _ y (List.getElem?_eq_getElem hx) hy h1 h2 y0;exact⟨_,List.getElem?_eq_getElem hx,this.1,by omega⟩
 refine⟨hn,λi x hx=>?_⟩;have hi:i<n:=by rw[<-hn];exact(List.getElem?_eq_some_iff.1 hx).1
 rcases hs i x hx with rfl|hw
 ·refine .inl ⟨rfl,λd hd=>?_⟩
  obtain⟨x,h1,h2,-⟩:=key i d hd hi;rw[hx] at h1;injection h1 with h1
  omega
 ·refine .inr ⟨hw,λd hd=>?_⟩
  obtain⟨y,h1,h2,h3⟩:=key i d hd hi;rw[hx] at h1;injection h1 with h1
  omega
theorem bD.sound{n:Nat}{l:List Int}(h:bD nb st t n l):Sound nb st t l:=λi x hx=>by
 rcases h.2 i x hx with⟨rfl,_⟩|⟨h,_⟩
 ·exact .inl rfl
 ·exact .inr h
theorem bD.shut{n:Nat}{l:List Int}(h:bD nb st t n l)(i:Nat):Shut nb st l i:=by
 intro j x y hx hy hj hs y0;rcases h.2 j y hy with⟨rfl,_⟩|⟨hy1,_⟩
 ·omega
 ·have hw:=Way.step hj hs hy1
  rcases h.2 i x hx with⟨rfl,hx1⟩|⟨hx1,hx2⟩
  ·exact absurd hw (hx1 _)
  ·exact⟨hx1.nonneg,hx2 _ hw⟩
theorem bD.here{n:Nat}{l:List Int}(h:bD nb st t n l)(ht:t<n):l[t]? =some 0:=by
 have hl:t<l.length:=by rw[h.1];exact ht
 have h1:=List.getElem?_eq_getElem hl;rcases h.2 t _ h1 with⟨_,h2⟩|⟨h2,h3⟩
 ·exact absurd Way.here (h2 0)
 ·have:=h3 0 .here
  have:=h2.nonneg;rw[h1,show l[t]=0 by omega]
theorem bD.next{n:Nat}{l:List Int}(h:bD nb st t n l)(hnb:∀(i j:Nat),i<n->(j:Int)∈nb i->j<n){i:Nat}{x:Int}(hx:l[i]? =some x)(x0:0<=x)(hi:i≠t):
  ∃(j:Nat) (y:Int),(j:Int)∈nb i/\l[j]? =some y/\0<st i j/\0<=y/\x=st i j+y:=by
 have hin:i<n:=by rw[<-h.1];exact(List.getElem?_eq_some_iff.1 hx).1
 rcases h.2 i x hx with⟨rfl,_⟩|⟨hw,hl⟩
 ·omega
 ·cases hw with
  |here=>exact absurd rfl hi
  | @step _ j d h1 h2 h3=>
   have hj:j<l.length:=by rw[h.1];exact hnb i j hin h1
   have hy:=List.getElem?_eq_getElem hj;refine⟨j,_,h1,hy,h2,?_,?_⟩
   ·rcases h.2 j _ hy with⟨_,h4⟩|⟨h4,_⟩
    ·exact absurd h3 (h4 _)
    ·exact h4.nonneg
   ·rcases h.2 j _ hy with⟨_,h4⟩|⟨h4,h5⟩
    ·exact absurd h3 (h4 _)
    ·have a1:=h5 _ h3
     have a2:=hl _ (Way.step h1 h2 h4);omega
theorem Sound.set{l:List Int}{i j:Nat}{y:Int}(h:Sound nb st t l)(hy:l[j]? =some y)(hj:(j:Int)∈nb i)(hs:0<st i j)(y0:0<=y):Sound nb st t (l.set i (st i j+y)):=by
 intro k x hk;rw[List.getElem?_set] at hk;by_cases e:i=k
 ·subst e
  by_cases hl:i<l.length
  ·simp only[hl,if_true] at hk
   injection hk with hk
   subst hk;rcases h j y hy with rfl|hw
   ·omega
   ·exact .inr (.step hj hs hw)
  ·simp[hl] at hk
 ·rw[if_neg e] at hk
  exact h k x hk
end
def left(M:Nat)(l:List Int):Nat:=(l.map λx=>if x<0 then M else x.toNat).sum
def told(l:List Int):Nat:=(l.map λx=>if x<0 then 0 else 1).sum
theorem sJ(f:Int->Nat)(l:List Int)(i:Nat)(x v:Int)(h:l[i]? =some x):((l.set i v).map f).sum+f x=(l.map f).sum+f v:=by
 induction l generalizing i with
 |nil=>simp at h
 |cons a l ih=>
  cases i with
  |zero=>
   simp at h;subst h;simp;omega
  |succ i=>
   simp at h;have:=ih i h;simp only[List.set_cons_succ,List.map_cons,List.sum_cons];omega
theorem left_le(M:Nat)(l:List Int)(h:∀x∈l,x<=M):left M l<=l.length*M:=by
 unfold left
 induction l with
 |nil=>simp
 |cons a l ih=>
  have h1:=ih (λx hx=>h x (List.mem_cons_of_mem _ hx));have h2:=h a (List.mem_cons_self ..);simp only[List.map_cons,List.sum_cons,List.length_cons,Nat.add_mul,Nat.one_mul];split<;>omega
theorem sK(l:List Int):told l<=l.length:=by
 unfold told
 induction l with
 |nil=>simp
 |cons a l ih=>
  simp only[List.map_cons,List.sum_cons,List.length_cons];split<;>omega
def Flat(l:List Int):Prop:=∀(i:Nat) x,l[i]? =some x->x<0\/x+2<=2*told l
theorem Flat.set{l:List Int}{i j:Nat}{x y s:Int}(h:Flat l)(hx:l[i]? =some x)(hy:l[j]? =some y)(y0:0<=y)(s0:0<s)(s2:s<=2)(hn:x<0\/s+y<x):Flat (l.set i (s+y)):=by
 have e:=sJ (λx=>if x<0 then 0 else 1) l i x (s+y) hx;have ht:told (l.set i (s+y))+(if x<0 then 0 else 1)=told l+1:=by
  unfold told;rw[e,if_neg (show ¬s+y<0 by omega)]
 have hyl:=h j y hy;have hxl:=h i x hx;intro k z hk;rw[List.getElem?_set] at hk;by_cases ek:i=k
 ·subst ek
  have hl:=(List.getElem?_eq_some_iff.1 hx).1;simp only[hl,if_true] at hk;injection hk with hk
  subst hk;right;by_cases q:x<0
  ·rw[if_pos q] at ht;omega
  ·rw[if_neg q] at ht;omega
 ·rw[if_neg ek] at hk
  have hz:=h k z hk;by_cases q:x<0
  ·rw[if_pos q] at ht;omega
  ·rw[if_neg q] at ht;omega
theorem GR{l:List Int}{i j n:Nat}{x y s:Int}(h:Flat l)(hl:l.length=n)(hx:l[i]? =some x)(hy:l[j]? =some y)(y0:0<=y)(s0:0<s)(s2:s<=2)(hn:x<0\/s+y<x):left (2*n+1) (l.set i (s+y))<left (2*n+1) l:=by
 have e:=sJ (λx=>if x<0 then 2*n+1 else x.toNat) l i x (s+y) hx;have hyl:=h j y hy;have ht:=sK l;unfold left;rw[if_neg (show ¬s+y<0 by omega)] at e;by_cases q:x<0
 ·rw[if_pos q] at e;omega
 ·rw[if_neg q] at e;omega
section
variable {nb:Nat->List Int} {st:Nat->Nat->Int} {t n:Nat}
def Pr(nb:Nat->List Int)(st:Nat->Nat->Int)(l:List Int)(i j:Nat):Prop:=∀x y,l[i]? =some x->l[j]? =some y->(j:Int)∈nb i->0<st i j->0<=y->0<=x/\x<=st i j+y
structure Even(nb:Nat->List Int)(st:Nat->Nat->Int)(n:Nat):Prop where
 cell:∀(i:Nat) x,i<n->x∈nb i->∃j:Nat,x=j/\j<n/\(i:Int)∈nb j
 other:∀(i:Nat),i<n->(i:Int)∉nb i
 two:∀i j,st i j<=2
theorem Even.lt(h:Even nb st n):∀(i j:Nat),i<n->(j:Int)∈nb i->j<n:=λi j hi hj=>by
 obtain⟨k,e,hk,-⟩:=h.cell i j hi hj;have:j=k:=by omega
 omega
theorem Even.back(h:Even nb st n){i j:Nat}(hi:i<n)(hj:(j:Int)∈nb i):(i:Int)∈nb j:=by
 obtain⟨k,e,hk,hb⟩:=h.cell i j hi hj;have:j=k:=by omega
 rw[this];exact hb
structure Wk(nb:Nat->List Int)(st:Nat->Nat->Int)(t n:Nat)(l:List Int)(td:List Nat):Prop where
 len:l.length=n
 here:l[t]? =some 0
 sound:Sound nb st t l
 flat:Flat l
 todo:∀j∈td,∃y,l[j]? =some y/\0<=y
 shut:∀i j,j∉td->Pr nb st l i j
structure qE(nb:Nat->List Int)(st:Nat->Nat->Int)(t n:Nat)(l:List Int)(a:Nat)(rest:List Nat)(k:Nat):Prop where
 wk:Wk nb st t n l (a::rest)
 mid:∀(q i:Nat),q<k->(nb a)[q]? =some (i:Int)->Pr nb st l i a
theorem Wk.start(ht:t<n):Wk nb st t n ((List.replicate n (-1)).set t 0) [t]:=by
 have get:∀(i:Nat) x,((List.replicate n (-1:Int)).set t 0)[i]? =some x->(i=t/\x=0)\/(i≠t/\x= -1):=by
  intro i x hx;rw[List.getElem?_set] at hx;by_cases e:t=i
  ·subst e
   rw[if_pos rfl,List.length_replicate,if_pos ht] at hx;injection hx with hx
   exact .inl ⟨rfl,hx.symm⟩
  ·rw[if_neg e,List.getElem?_replicate] at hx
   split at hx
   ·injection hx with hx
    exact .inr ⟨λh=>e h.symm,hx.symm⟩
   ·cases hx
 have h0:((List.replicate n (-1:Int)).set t 0)[t]? =some 0:=by
  rw[List.getElem?_set,if_pos rfl,List.length_replicate,if_pos ht]
 refine⟨by simp,h0,λi x hx=>?_,λi x hx=>?_,λj hj=>?_,λi j hj x y hx hy=>?_⟩
 ·rcases get i x hx with⟨rfl,rfl⟩|⟨_,rfl⟩
  ·exact .inr .here
  ·exact .inl rfl
 ·rcases get i x hx with⟨rfl,rfl⟩|⟨_,rfl⟩
  ·right
   have e:=sJ (λx=>if x<0 then 0 else 1) (List.replicate n (-1)) i (-1) 0 (by rw[List.getElem?_replicate,if_pos ht]);have:told ((List.replicate n (-1)).set i 0)=((List.replicate n (-1:Int)).map λx=>if x<0 then 0 else 1).sum+1:=by
    unfold told;simpa using e
   omega
  ·left;omega
 ·simp at hj
  subst hj;exact⟨0,h0,by omega⟩
 ·intro _ _ y0
  rcases get j y hy with⟨rfl,rfl⟩|⟨_,rfl⟩
  ·simp at hj
  ·omega
theorem wZ(ht:t<n)(hn:n<=144):left (2*n+1) ((List.replicate n (-1)).set t 0)<=41616:=by
 refine Nat.le_trans (left_le _ _ λx hx=>?_) ?_
 ·rcases List.mem_or_eq_of_mem_set hx with h|h
  ·rw[List.eq_of_mem_replicate h];omega
  ·omega
 ·rw[List.length_set,List.length_replicate]
  exact Nat.mul_le_mul hn (show 2*n+1<=289 by omega)
theorem qE.skip{l:List Int}{a b k:Nat}{rest:List Nat}{x y:Int}(h:qE nb st t n l a rest k)(hb:(nb a)[k]? =some (b:Int))(hx:l[b]? =some x)(hy:l[a]? =some y)(hs:0<st b a->0<=x/\x<=st b a+y):qE nb st t n l a rest (k+1):=by
 refine⟨h.wk,λq i hq hi=>?_⟩;by_cases e:q=k
 ·subst e
  rw[hb] at hi;injection hi with hi
  have:b=i:=by omega
  subst this;intro x' y' hx' hy' _ h0 _;rw[hx] at hx';rw[hy] at hy';injection hx' with hx'
  injection hy' with hy'
  subst hx';subst hy';exact hs h0
 ·exact h.mid q i (by omega) hi
theorem qE.set{l:List Int}{a b k:Nat}{rest:List Nat}{x y:Int}(E:Even nb st n)(h:qE nb st t n l a rest k)(hb:(nb a)[k]? =some (b:Int))(hx:l[b]? =some x)(hy:l[a]? =some y)(h0:0<st b a)(hn:x<0\/st b a+y<x):
  qE nb st t n (l.set b (st b a+y)) a (rest++[b]) (k+1)/\left (2*n+1) (l.set b (st b a+y))<left (2*n+1) l:=by
 have an:a<n:=by rw[<-h.wk.len];exact(List.getElem?_eq_some_iff.1 hy).1
 have bn:=(List.getElem?_eq_some_iff.1 hx).1;have hm:=List.mem_of_getElem? hb;have hm':=E.back an hm;have hab:b≠a:=by
  rintro rfl;exact E.other b an hm
 obtain⟨y1,hy1,y0⟩:=h.wk.todo a (List.mem_cons_self ..);rw[hy] at hy1;injection hy1 with hy1
 subst hy1;have hbt:b≠t:=by
  rintro rfl;rw[h.wk.here] at hx;injection hx with hx
  omega
 have get:∀(i:Nat) z,(l.set b (st b a+y))[i]? =some z->(i=b/\z=st b a+y)\/(i≠b/\l[i]? =some z):=by
  intro i z hz;rw[List.getElem?_set] at hz;by_cases e:b=i
  ·subst e
   rw[if_pos rfl,if_pos bn] at hz;injection hz with hz
   exact .inl ⟨rfl,hz.symm⟩
  ·rw[if_neg e] at hz
   exact .inr ⟨λh=>e h.symm,hz⟩
 have keep:∀(i:Nat),i≠b->(l.set b (st b a+y))[i]? =l[i]? :=by
  intro i hi;rw[List.getElem?_set,if_neg (λh=>hi h.symm)]
 refine⟨⟨⟨by simp[h.wk.len],?_,h.wk.sound.set hy hm' h0 y0,h.wk.flat.set hx hy y0 h0 (E.two _ _) hn,λj hj=>?_,λi j hj=>?_⟩,λq i hq hi=>?_⟩,GR h.wk.flat h.wk.len hx hy y0 h0 (E.two _ _) hn⟩
 ·rw[keep t (λh=>hbt h.symm)]
  exact h.wk.here
 ·by_cases e:j=b
  ·subst e
   exact⟨st j a+y,by rw[List.getElem?_set,if_pos rfl,if_pos bn],by omega⟩
  ·rw[keep j e]
   refine h.wk.todo j ?_;simp only[List.mem_cons,List.mem_append,List.not_mem_nil,or_false] at hj ⊢;rcases hj with hj|hj|hj
   ·exact .inl hj
   ·exact .inr hj
   ·exact absurd hj e
 ·have hj1:j∉a::rest:=by
   simp only[List.mem_cons,List.mem_append,List.not_mem_nil,or_false,not_or] at hj ⊢;exact⟨hj.1,hj.2.1⟩
  have hj2:j≠b:=by
   simp only[List.mem_cons,List.mem_append,List.not_mem_nil,or_false,not_or] at hj;exact hj.2.2
  have P:=h.wk.shut i j hj1;intro x' y' hx' hy' hn' h0' y0';rw[keep j hj2] at hy';rcases get i x' hx' with⟨rfl,rfl⟩|⟨_,hx1⟩
  ·have:=P x y' hx hy' hn' h0' y0'
   omega
  ·exact P x' y' hx1 hy' hn' h0' y0'
 ·intro x' y' hx' hy' hn' h0' y0'
  rw[keep a (λh=>hab h.symm),hy] at hy';injection hy' with hy'
  subst hy';rcases get i x' hx' with⟨rfl,rfl⟩|⟨ib,hx1⟩
  ·omega
  ·have hq':q<k:=by
    rcases Nat.lt_or_ge q k with h|h
    ·exact h
    ·have:q=k:=by omega
     subst this;rw[hb] at hi;injection hi with hi
     exact absurd (by omega) ib
   exact h.mid q i hq' hi x' y hx1 hy hn' h0' y0'
theorem qE.done{l:List Int}{a:Nat}{rest:List Nat}(E:Even nb st n)(h:qE nb st t n l a rest (nb a).length):Wk nb st t n l rest:=by
 refine⟨h.wk.len,h.wk.here,h.wk.sound,h.wk.flat,λj hj=>h.wk.todo j (List.mem_cons_of_mem _ hj),λi j hj=>?_⟩;by_cases e:j=a
 ·subst e
  intro x y hx hy hn h0 y0;have hi:i<n:=by rw[<-h.wk.len];exact(List.getElem?_eq_some_iff.1 hx).1
  obtain⟨q,hq⟩:=List.mem_iff_getElem?.1 (E.back hi hn);exact h.mid q i (List.getElem?_eq_some_iff.1 hq).1 hq x y hx hy hn h0 y0
 ·exact h.wk.shut i j (by simp[e,hj])
theorem Wk.far{l:List Int}(E:Even nb st n)(h:Wk nb st t n l []):bD nb st t n l:=wY h.len E.lt h.here h.sound λi hi j=>h.shut i j (by simp)
end
theorem Way.snoc{nb:Nat->List Int}{s:Nat->Int}{a i j:Nat}{d:Int}(h:Way nb (λ_ j=>s j) j a d)(hi:(i:Int)∈nb j)(h0:0<s i):Way nb (λ_ j=>s j) i a (d+s i):=by
 induction h with
 |here=>
  have:=Way.step (st:=λ_ j=>s j) hi h0 .here;rwa[show s i+0=0+s i by omega] at this
 | @step p q d h1 h2 h3 ih=>
  have:=Way.step (st:=λ_ j=>s j) h1 h2 ih;rwa[show s q+(d+s i)=s q+d+s i by omega] at this
theorem Way.Tj{nb:Nat->List Int}{s:Nat->Int}{a i j:Nat}{d:Int}(h:Way nb (λi _=>s i) j a d)(hi:(i:Int)∈nb j)(h0:0<s j):Way nb (λi _=>s i) i a (d+s j):=by
 induction h with
 |here=>
  have:=Way.step (st:=λi _=>s i) hi h0 .here;rwa[show s j+0=0+s j by omega] at this
 | @step p q d h1 h2 h3 ih=>
  have:=Way.step (st:=λi _=>s i) h1 h2 ih;rwa[show s p+(d+s j)=s p+d+s j by omega] at this
theorem Way.turn{nb:Nat->List Int}{s:Nat->Int}{n:Nat}(E:Even nb (λ_ j=>s j) n){t i:Nat}{d:Int}(h:Way nb (λi _=>s i) t i d)(hi:i<n):Way nb (λ_ j=>s j) i t d:=by
 induction h with
 |here=>exact .here
 | @step i j d h1 h2 h3 ih=>
  have:=(ih (E.lt _ _ hi h1)).snoc (E.back hi h1) h2;rwa[show d+s i=s i+d by omega] at this
theorem Way.turn'{nb:Nat->List Int}{s:Nat->Int}{n:Nat}(E:Even nb (λ_ j=>s j) n){t i:Nat}{d:Int}(h:Way nb (λ_ j=>s j) t i d)(hi:i<n):Way nb (λi _=>s i) i t d:=by
 induction h with
 |here=>exact .here
 | @step i j d h1 h2 h3 ih=>
  have:=(ih (E.lt _ _ hi h1)).Tj (E.back hi h1) h2;rwa[show d+s j=s j+d by omega] at this
theorem Least.turn{nb:Nat->List Int}{s:Nat->Int}{n:Nat}(E:Even nb (λ_ j=>s j) n){t i:Nat}{x:Int}(h:Least nb (λi _=>s i) t i x)(hi:i<n)(ht:t<n):Least nb (λ_ j=>s j) i t x:=by
 rcases h with⟨rfl,h⟩|⟨h1,h2⟩
 ·exact .inl ⟨rfl,λd hd=>h d (hd.turn' E ht)⟩
 ·exact .inr ⟨h1.turn E hi,λd hd=>h2 d (hd.turn' E ht)⟩
theorem qV{W H:Nat}(hW:0<W){st:Nat->Nat->Int}(h2:∀i j,st i j<=2):Even (Fd.near W H) st (W*H):=by
 refine⟨λi x hi hx=>?_,λi hi hx=>?_,h2⟩
 ·obtain⟨t,h1,h3,h4⟩:=Fd.mQ hW hi hx
  exact⟨t,h1,h3,h4⟩
 ·have:=Fd.iZ.1 hx
  omega
end Go.Proofs.YtolfphmdmpehdaaGreatDoor.Wy
namespace Go.Proofs.YtolfphmdmpehdaaGreatDoor
open Go.RowKit Wy
def zZ(w:World)(b M:Nat):Nat:=match w.heap[b]? with
 |some (.cells cs _ _)=>left M (cs.toList.map intOf)
 |_=>0
theorem Bk.left{w:World}{b:Nat}{l:List Int}(h:Bk w b l #[])(M:Nat):zZ w b M=Wy.left M l:=by
 unfold Bk at h;unfold zZ;rw[h];simp[intCells,intOf,Function.comp_def]
def w_:Value->Nat
 |slice _ n _=>n
 |_=>0
theorem Qu.w_{w:World}{base:Nat}{v:Value}{xs:List Int}(h:Qu w base v xs):w_ v=xs.length:=by
 obtain⟨g,off,cap,cur,h1,-⟩:=h;rw[h1];rfl
theorem vg{w:World}{z:Nat}(d:Value)(hz:w.heap.size=z):(w.alloc (Obj.cells #[d] 3)).cell? ⟨z,0,none⟩=some d:=by
 subst hz;simp
def ints(td:List Nat):List Int:=td.map Int.ofNat
theorem jK(td:List Nat):(ints td).length=td.length:=by simp[ints]
theorem qW(K:Nat)(eK:∀args w,(callFunc K args).run Tryz.prog w=.ok (.enter K args) w)(q v:Value)(n t:Nat)(nb:Nat->List Int)(ss:List Int)(st:Nat->Nat->Int)(w:World)(h:Ld w v n nb ss)(E:Even nb st n)(ht:t<n)(hn:n<=144)(h4:∀i,(nb i).length<=4)
  (hon:∀w' (i j:Nat),i<n->j<n->Below w.heap.size w w'->Calls Tryz.prog K #[int i64 (i:Nat),int i64 (j:Nat),q] w' λe w''=>e=.returned (int i64 (st j i))/\w''=w'):
  Calls Tryz.prog 275 #[v,int i64 (t:Nat),.func (Fn.func K) #[] #[q]] w λe w'=>∃b l,e=.returned (slice (some ⟨b,0,none⟩) n n)/\w.heap.size<=b/\Bk w' b l #[]/\(bD nb st t n l/\Flat l)/\Below w.heap.size w w':=by
 obtain⟨u1,u2,rfl,⟨x,c,rfl,c1,c2,hx⟩,⟨a2,d,rfl,d1,d2,ca⟩,hl⟩:=h;rw[hl] at d1 ⊢;have Hx:=aj (hx);have Ho:=aj (hon);have H4:=aj (h4);have E0:=aj (E);clear hx ca hon h4 E hl;go_enter Tryz.func275,Tryz.ntmps275;go_wp2_with fail
 refine(qU _ _ n _ (Ro.wL _ (by simp)) (by omega) hn).mono ?_;rintro e w1 ⟨b,rfl,hbz,hbk,hbel⟩;have bz:Hid (w.heap.size+2<=b):=by unfold Hid;simpa using hbz
 have B1:=aj ((((Below.refl _ _).alloc (Nat.le_refl _) _).alloc (by simp) _).trans (hbel.mono (by simp;omega)));have X1:=aj (((Bl.mk' (w:=w) (slice (some x) n c) (slice a2 n d) rfl).below ((Below.refl _ _).alloc (Nat.le_refl _) (Obj.cells #[Value.int IntKind.i64 (-1)] 3)) (by simp)).below hbel (by simp;omega));have K1:=aj (hbk);have ct:=hbk.cell (i:=t) (d:= -1) (by rw[List.getElem?_replicate,if_pos ht]);have ft:=hbk.thaw t;clear hbz hbk hbel;have k12:=Kp.set (z:=b) w1 t (int i64 0);have K2:=aj (K1.out.set t 0 (by simp;exact ht));have X2:=aj (X1.out.kp k12 (by have:=bz.out;omega));have B2:=aj (k12.below B1.out B1.out.size (by have:=bz.out;omega));have Z2:Hid ((w1.setCell ⟨b,t,none⟩ (int i64 0)).heap.size=w1.heap.size):=by unfold Hid;simp
 have bB:=aj (K1.out.lt);clear k12 K1 X1 B1;go_wp2_with fail
 generalize w1.setCell _ _=w2 at *;clear ct ft;obtain⟨B,hB⟩:∃B,w1.heap.size=B:=⟨_,rfl⟩;rw[hB] at bB Z2 ⊢;have Q3:Hid (Qu (w2.alloc (Obj.cells #[int i64 (t:Nat)] 3)) B (slice (some ⟨B,0,none⟩) 1 1) (ints [t])):=Qu.one (w:=w2) (t:Nat) (by rw[Z2.out];exact Nat.le_refl _) Z2.out;have b23:Below _ w2 (w2.alloc (Obj.cells #[int i64 (t:Nat)] 3)):=(Below.refl _ _).alloc (Nat.le_refl _) _;have K3:=aj (K2.out.below b23);have X3:=aj (X2.out.below b23 X2.out.lt);have B3:=aj (B2.out.trans (b23.mono B2.out.size));have S3:Hid (B<=(w2.alloc (Obj.cells #[int i64 (t:Nat)] 3)).heap.size):=by
  have:=b23.size;rw[Z2.out] at this;exact this
 generalize w2.alloc _=w3 at *;clear K2 X2 B2 Z2 b23 hB;go_loopw [8] (λv W'=>∃l td,Qu W' B v (ints td)/\Bk W' b l #[]/\Wk nb st t n l td/\Bl W' w.heap.size (slice (some x) n c) (slice a2 n d)/\Below w.heap.size w W'/\B<=W'.heap.size/\2*left (2*n+1) l+td.length<=100000) (λv W'=>2*zZ W' b (2*n+1)+w_ v)
 case atStart=>exact⟨_,[t],Q3,K3,Wk.start ht,X3,B3,S3,by have:=wZ ht hn;simp only[List.length_cons,List.length_nil];omega⟩
 case round=>
  obtain⟨l,td,hq,hk,hw,hxx,hb,hsz,hmx⟩:=hrel;clear Q3 K3 X3 B3 S3;have Kb:=aj (hk);have Ww:=aj (hw);have X:=aj (hxx);have Bw:=aj (hb);have Sz:=aj (hsz);clear hk hw hxx hb hsz;cases td with
  |nil=>
   obtain⟨g,off,cap,cur,rfl,-,-,-⟩:=hq;go_wp2;go_ret;exact⟨b,l,rfl,by have:=bz.out;omega,Kb,⟨Ww.out.far E0.out,Ww.out.flat⟩,Bw⟩
  |cons a rest=>
   have Q:=aj (hq);have an:a<n:=by
    obtain⟨y,hy,-⟩:=Ww.out.todo a (List.mem_cons_self ..);have:=(List.getElem?_eq_some_iff.1 hy).1;rw[Ww.out.len] at this;exact this
   obtain⟨m0,hm0⟩:∃m0,2*zZ wr b (2*n+1)+w_ u8=m0:=⟨_,rfl⟩;have M0:=aj (hm0);have ML:Hid (2*left (2*n+1) l+rest.length+1<=m0):=by
    unfold Hid;rw[<-hm0,Kb.out.left,hq.w_,jK];simp only[List.length_cons];omega
   have m9:m0<=100000:=by
    rw[<-hm0,Kb.out.left,hq.w_,jK];exact hmx
   clear hm0 hmx;obtain⟨g,off,cap,hu8,o1,o2,hc⟩:=Qu.first (x:=(a:Int)) (xs:=ints rest) hq;subst hu8;clear hq;obtain⟨u,hu,hr⟩:=Hx.out a an;have hu':wr.cell? (x.add a)=some u:=by rw[Bw.out.cell (p:=x.add a) (by have:=cell_lt hu;rw[add_block] at this ⊢;exact this)];exact hu
   have Hr0:=aj (hr);obtain⟨a3,c3,rfl,e1,e2,-⟩:=hr;have L4:=H4.out a;have x0:=X.out.c0;clear hu;go_wp2_with fail
   clear hc x0 hu' o1 o2 ht;go_loopw [8,37] (λv i W'=>∃l rest k,i=int i64 (k:Nat)/\k<=(nb a).length/\Qu W' B v (ints (a::rest))/\Bk W' b l #[]/\qE nb st t n l a rest k/\Bl W' w.heap.size (slice (some x) n c) (slice a2 n d)/\Below w.heap.size w W'/\B<=W'.heap.size/\2*left (2*n+1) l+rest.length+1<=m0) (λ_ i _=>(nb a).length-(intOf i).toNat)
   case atStart=>exact⟨l,rest,0,rfl,Nat.zero_le _,Q,Kb,⟨Ww,λq i hq=>absurd hq (Nat.not_lt_zero _)⟩,X,Bw,Sz,ML⟩
   case round=>
    clear Q Kb Ww X ML;obtain⟨l,rest,k,rfl,hk,hq,hkb,hwi,hx,hb,hsz,hml⟩:=hrel;have Q:=aj (hq);have Kb:=aj (hkb);have qE:=aj (hwi);have X:=aj (hx);have xA:=aj (hb);have Md:=aj (hsz);have ML:=aj (hml);clear hkb hwi hx hb hsz hml;by_cases h0:k=(nb a).length
    ·have oC:Hid (Wk nb st t n l rest):=by
      have:=qE.out;rw[h0] at this;exact this.done E0.out
     subst h0;obtain⟨v',qv,sv⟩:=Qu.rest (x:=(a:Int)) (xs:=ints rest) Q.out;have Q':=aj (qv);clear qv hq Q qE;go_wp2;go_round
     case rel=>exact⟨l,rest,Q',Kb,oC,X,xA,Md,by have:=ML.out;omega⟩
     case measure=>
      rw[Kb.out.left,Q'.out.w_,jK];have:=ML.out;have:=M0.out;omega
    ·have hkl:k<(nb a).length:=by omega
     obtain⟨j,hj,jn,-⟩:=E0.out.cell a _ an (List.getElem_mem hkl);have Hj:Hid ((nb a)[k]? =some (j:Int)):=by unfold Hid;rw[List.getElem?_eq_getElem hkl,hj]
     clear hj;obtain⟨a4,c4,e4,-,-,ca⟩:=Hr0.out.below xA.out;injection e4 with e5 e6 e7
     subst e5;obtain⟨y,rfl,-,hy⟩:=ca (by intro h;rw[h] at hkl;simp at hkl);have cj:=hy k _ Hj.out;clear hy e6 e7 ca hq;have l2:=E0.out.two j a;obtain⟨yv,hyv,y0⟩:=qE.out.wk.todo a (List.mem_cons_self ..);have ll:=qE.out.wk.len;obtain⟨xv,hxv⟩:∃xv,l[j]? =some xv:=⟨l[j]'(by rw[ll];exact jn),List.getElem?_eq_getElem _⟩;have tl:=sK l;have fx:=qE.out.wk.flat j xv hxv;have fy:=qE.out.wk.flat a yv hyv;have xb:xv<=288:=by omega
     have yb:yv<=288:=by omega
     have xm: -1<=xv:=by
      rcases qE.out.wk.sound j xv hxv with h|h
      ·omega
      ·have:=h.nonneg;omega
     have cx:=Kb.out.cell hxv;have cy:=Kb.out.cell hyv;have fz:=Kb.out.thaw j;clear tl fx fy ll;go_wp2_with fail
     refine(Ho.out wr a j an jn xA.out).mono ?_;rintro e w' ⟨rfl,rfl⟩;obtain⟨m,hm⟩:∃m,st j a=m:=⟨_,rfl⟩;have HD:=aj (hm);rw[hm] at l2 ⊢;clear hm;by_cases h1:0<m
     ·by_cases h2:xv<0
      ·have HS:=qE.out.set E0.out Hj.out hxv hyv (by rw[HD.out];exact h1) (.inl h2)
       rw[HD.out,Int.add_comm m yv] at HS;have HT:=aj (HS);clear HS HD;go_wp2;go_quiet (fail);have kq:Below w'.heap.size w' (w'.drewN nq):=_root_.Go.below_drewN (Below.refl _ _) _;have K5:=aj (Kb.out.below kq);have Q5:=aj (Q.out.below kq);have X5:=aj (X.out.below kq X.out.lt);have B5:=aj (xA.out.trans (kq.mono xA.out.size));have S5:=aj (Nat.le_trans Md.out kq.size);generalize w'.drewN nq=w5 at *;clear Kb Q X xA Md kq cx cy fz cj;have cx:=K5.out.cell hxv;have cy:=K5.out.cell hyv;have fz:=K5.out.thaw j;have k6:=Kp.set (z:=b) w5 j (int i64 (yv+m));have K6:=aj (K5.out.set j (yv+m) (List.getElem?_eq_some_iff.1 hxv).1);have Q6:=aj (Q5.out.kp k6 bB.out);have X6:=aj (X5.out.kp k6 (by have:=bz.out;omega));have B6:=aj (k6.below B5.out B5.out.size (by have:=bz.out;omega));have S6:=aj (Nat.le_trans S5.out k6.size);clear k6 K5 Q5 X5 B5 S5 hxv hyv;have RL:Hid ((ints (a::rest)).length<=1000000):=by
        unfold Hid;rw[jK];simp only[List.length_cons];have:=ML.out;omega
       have Sb:Hid (b<B/\w.heap.size<B):=by
        have:=bz.out;have:=bB.out;exact⟨by omega,by omega⟩
       have Ba:Hid (Below _ _ ((w5.setCell ⟨b,j,none⟩ (int i64 (yv+m))).alloc (Obj.cells #[int i64 (j:Nat)] 3))):=(Below.refl _ _).alloc (Nat.le_refl _) _;have Cd:Hid (((w5.setCell _ _).alloc _).cell? _=some (int i64 (j:Nat))):=vg (w:=w5.setCell ⟨b,j,none⟩ (int i64 (yv+m))) _ (World.size_setCell _ _ _);go_wp2_with (at_builtin;refine OM _ rfl _ _ rfl B _ (ints (a::rest)) rfl (Q6.out.below Ba.out) ⟨w5.heap.size,0,none⟩ (j:Nat) rfl Cd.out RL.out (Nat.le_trans S6.out Ba.out.size) ?_);intro v7 w7 q7 b7;have ba:=Ba.out;have Q7:Hid (Qu w7 B v7 (ints (a::(rest++[j])))):=by
        have e:ints (a::(rest++[j]))=ints (a::rest)++[(j:Int)]:=by simp[ints]
        unfold Hid;rw[e];exact q7
       have K7:=aj ((K6.out.below ba).low b7 Sb.out.1);have X7:=aj ((X6.out.below ba X6.out.lt).below b7 Sb.out.2);have B7:=aj ((B6.out.trans (ba.mono B6.out.size)).trans (b7.mono (Nat.le_of_lt Sb.out.2)));have S7:=aj (Nat.le_trans (Nat.le_trans S6.out ba.size) b7.size);clear q7 b7 ba Ba Cd K6 Q6 X6 B6 S6 cx cy fz;go_wp2;go_round
       case rel=>exact⟨l.set j _,rest++[j],k+1,by go_num,by omega,Q7,K7,HT.out.1,X7,B7,S7,by have:=HT.out.2;have:=ML.out;simp only[List.length_append,List.length_cons,List.length_nil];omega⟩
       case measure=>simp[intOf];omega
      ·have h2':=decide_eq_false h2
       by_cases h3:yv+m<xv
       ·have HS:=qE.out.set E0.out Hj.out hxv hyv (by rw[HD.out];exact h1) (.inr (by rw[HD.out];omega))
        rw[HD.out,Int.add_comm m yv] at HS;have HT:=aj (HS);clear HS HD;go_wp2;go_quiet (fail);have kq:Below w'.heap.size w' (w'.drewN nq):=_root_.Go.below_drewN (Below.refl _ _) _;have K5:=aj (Kb.out.below kq);have Q5:=aj (Q.out.below kq);have X5:=aj (X.out.below kq X.out.lt);have B5:=aj (xA.out.trans (kq.mono xA.out.size));have S5:=aj (Nat.le_trans Md.out kq.size);generalize w'.drewN nq=w5 at *;clear Kb Q X xA Md kq cx cy fz cj;have cx:=K5.out.cell hxv;have cy:=K5.out.cell hyv;have fz:=K5.out.thaw j;have k6:=Kp.set (z:=b) w5 j (int i64 (yv+m));have K6:=aj (K5.out.set j (yv+m) (List.getElem?_eq_some_iff.1 hxv).1);have Q6:=aj (Q5.out.kp k6 bB.out);have X6:=aj (X5.out.kp k6 (by have:=bz.out;omega));have B6:=aj (k6.below B5.out B5.out.size (by have:=bz.out;omega));have S6:=aj (Nat.le_trans S5.out k6.size);clear k6 K5 Q5 X5 B5 S5 hxv hyv;have RL:Hid ((ints (a::rest)).length<=1000000):=by
         unfold Hid;rw[jK];simp only[List.length_cons];have:=ML.out;omega
        have Sb:Hid (b<B/\w.heap.size<B):=by
         have:=bz.out;have:=bB.out;exact⟨by omega,by omega⟩
        have Ba:Hid (Below _ _ ((w5.setCell ⟨b,j,none⟩ (int i64 (yv+m))).alloc (Obj.cells #[int i64 (j:Nat)] 3))):=(Below.refl _ _).alloc (Nat.le_refl _) _;have Cd:Hid (((w5.setCell _ _).alloc _).cell? _=some (int i64 (j:Nat))):=vg (w:=w5.setCell ⟨b,j,none⟩ (int i64 (yv+m))) _ (World.size_setCell _ _ _);go_wp2_with (at_builtin;refine OM _ rfl _ _ rfl B _ (ints (a::rest)) rfl (Q6.out.below Ba.out) ⟨w5.heap.size,0,none⟩ (j:Nat) rfl Cd.out RL.out (Nat.le_trans S6.out Ba.out.size) ?_);intro v7 w7 q7 b7;have ba:=Ba.out;have Q7:Hid (Qu w7 B v7 (ints (a::(rest++[j])))):=by
         have e:ints (a::(rest++[j]))=ints (a::rest)++[(j:Int)]:=by simp[ints]
         unfold Hid;rw[e];exact q7
        have K7:=aj ((K6.out.below ba).low b7 Sb.out.1);have X7:=aj ((X6.out.below ba X6.out.lt).below b7 Sb.out.2);have B7:=aj ((B6.out.trans (ba.mono B6.out.size)).trans (b7.mono (Nat.le_of_lt Sb.out.2)));have S7:=aj (Nat.le_trans (Nat.le_trans S6.out ba.size) b7.size);clear q7 b7 ba Ba Cd K6 Q6 X6 B6 S6 cx cy fz;go_wp2;go_round
        case rel=>exact⟨l.set j _,rest++[j],k+1,by go_num,by omega,Q7,K7,HT.out.1,X7,B7,S7,by have:=HT.out.2;have:=ML.out;simp only[List.length_append,List.length_cons,List.length_nil];omega⟩
        case measure=>simp[intOf];omega
       ·have h3':=decide_eq_false h3
        have HS:=aj (qE.out.skip Hj.out hxv hyv (λh=>by rw[HD.out];omega));clear HD;go_wp2;go_quiet (fail);have kq:Below w'.heap.size w' (w'.drewN nq):=_root_.Go.below_drewN (Below.refl _ _) _;have Q5:=aj (Q.out.below kq);have K5:=aj (Kb.out.below kq);have X5:=aj (X.out.below kq X.out.lt);have B5:=aj (xA.out.trans (kq.mono xA.out.size));have S5:=aj (Nat.le_trans Md.out kq.size);generalize w'.drewN nq=w5 at *;clear Kb Q X xA Md kq cx cy fz cj;go_wp2;go_round
        case rel=>exact⟨l,rest,k+1,by go_num,by omega,Q5,K5,HS,X5,B5,S5,ML⟩
        case measure=>simp[intOf];omega
     ·have h1':=decide_eq_false h1
      have HS:=aj (qE.out.skip Hj.out hxv hyv (λh=>absurd (by rw[HD.out] at h;exact h) h1));clear HD;go_wp2;go_quiet (fail);have kq:Below w'.heap.size w' (w'.drewN nq):=_root_.Go.below_drewN (Below.refl _ _) _;have Q5:=aj (Q.out.below kq);have K5:=aj (Kb.out.below kq);have X5:=aj (X.out.below kq X.out.lt);have B5:=aj (xA.out.trans (kq.mono xA.out.size));have S5:=aj (Nat.le_trans Md.out kq.size);generalize w'.drewN nq=w5 at *;clear Kb Q X xA Md kq cx cy fz cj;go_wp2;go_round
      case rel=>exact⟨l,rest,k+1,by go_num,by omega,Q5,K5,HS,X5,B5,S5,ML⟩
      case measure=>simp[intOf];omega
theorem xB:∀args w,(callFunc 276 args).run Tryz.prog w=.ok (.enter 276 args) w:=by
 intro args w;go_simp
theorem Me(z n:Nat)(u1 u2:Value)(ss:List Int)(i j:Nat)(w:World)(X:Bl w z u1 u2)(hu:Ro w u2 ss)(hl:ss.length=n)(hi:j<n):
  Calls Tryz.prog 276 #[int i64 (i:Nat),int i64 (j:Nat),.pointer (some ⟨z,0,none⟩)] w λe w'=>e=.returned (int i64 (ss.getD j 0))/\w'=w:=by
 obtain⟨a,c,rfl,c1,c2,ca⟩:=hu;obtain⟨x,rfl,-,hx⟩:=ca (by intro e;rw[e] at hl;simp at hl;omega);have e:ss[j]? =some (ss.getD j 0):=by rw[List.getD_eq_getElem?_getD,List.getElem?_eq_getElem (by omega)];rfl
 have cx:=hx j _ e;have x1:=X.c1;generalize ss.getD j 0=s at *;rw[hl] at *;clear hx ca e X;go_enter Tryz.func276,Tryz.ntmps276;go_wp2;go_ret;exact⟨rfl,rfl⟩
theorem oG(v:Value)(n t:Nat)(nb:Nat->List Int)(ss:List Int)(w:World)(h:Ld w v n nb ss)(E:Even nb (λi _=>ss.getD i 0) n)(ht:t<n)(hn:n<=144)(h4:∀i,(nb i).length<=4):
  Calls Tryz.prog 257 #[v,int i64 (t:Nat)] w λe w'=>∃b l,e=.returned (slice (some ⟨b,0,none⟩) n n)/\w.heap.size<=b/\Bk w' b l #[]/\(bD nb (λi _=>ss.getD i 0) t n l/\Flat l)/\Below w.heap.size w w':=by
 have L0:=aj (h);have E0:=aj (E);have T0:Hid (t<n/\n<=144/\∀i,(nb i).length<=4):=⟨ht,hn,h4⟩;obtain⟨u1,u2,rfl,hb1,hr2,hl⟩:=h;have R2:Hid (Ro w u2 ss/\ss.length=n):=⟨hr2,hl⟩;obtain⟨x1,c1,e1,-⟩:=hb1;obtain⟨x2,c2,e2,-⟩:=hr2;clear ht hn h4 E hl;have b0:Below _ w (w.alloc (Obj.cells #[u1,u2] 296)):=(Below.refl _ _).alloc (Nat.le_refl _) _;have X0:Hid (Bl _ w.heap.size u1 u2):=Bl.mk' u1 u2 rfl;have B0:=aj (b0);clear b0;have hon:∀w' (i j:Nat),i<n->j<n->Below (w.alloc (Obj.cells #[u1,u2] 296)).heap.size (w.alloc (Obj.cells #[u1,u2] 296)) w'->Calls Tryz.prog 276 #[int i64 (i:Nat),int i64 (j:Nat),.pointer (some ⟨w.heap.size,0,none⟩)] w' λe w''=>e=.returned (int i64 ((λi _=>ss.getD i 0) j i))/\w''=w':=λw' i j hi hj hb=>
  Me _ n u1 u2 ss i j w' (X0.out.below hb X0.out.lt) ((R2.out.1.below B0.out).below hb) R2.out.2 hj
 have Ho:=aj (hon);clear hon;subst e1;subst e2;go_enter Tryz.func257,Tryz.ntmps257;go_wp2_with fail
 refine(qW _ xB _ _ n t nb ss _ _ (L0.out.below B0.out) E0.out T0.out.1 T0.out.2.1 T0.out.2.2 Ho.out).mono ?_;rintro e w1 ⟨b,l,rfl,hbz,hbk,hf,hb⟩;have P:=aj (jD (Nat.le_trans B0.out.size hbz) hbk hf (B0.out.trans (hb.mono B0.out.size)));clear hbz hbk hf hb Ho;go_wp2;go_ret;exact⟨b,l,rfl,P.out.1,P.out.2.1,P.out.2.2.1,P.out.2.2.2⟩
end Go.Proofs.YtolfphmdmpehdaaGreatDoor
namespace Go.Proofs.YtolfphmdmpehdaaGreatDoor.Wy
theorem vC{p:Int->Bool}{xs:List Int}{k m:Nat}{x:Int}(h:(xs.take k).any p=false)(hm:m<k)(hx:xs[m]? =some x):p x=false:=by
 rw[List.any_eq_false] at h;have:=h x (by
  rw[List.mem_iff_getElem?];exact⟨m,by rw[List.getElem?_take,if_pos hm];exact hx⟩)
 cases hp:p x with
 |false=>rfl
 |true=>exact absurd hp this
theorem GV{p:Int->Bool}{xs:List Int}{r r':Int}(h:KY p xs r)(h':KY p xs r'):r=r':=by
 rcases h with⟨rfl,h⟩|⟨k,x,rfl,h1,h2,h3⟩
 ·rcases h' with⟨rfl,h'⟩|⟨k',x',rfl,h1',h2',h3'⟩
  ·rfl
  ·rw[List.any_eq_false] at h
   exact absurd h2' (h x' (List.mem_of_getElem? h1'))
 ·rcases h' with⟨rfl,h'⟩|⟨k',x',rfl,h1',h2',h3'⟩
  ·rw[List.any_eq_false] at h'
   exact absurd h2 (h' x (List.mem_of_getElem? h1))
  ·rcases Nat.lt_trichotomy k k' with hk|hk|hk
   ·have:=vC h3' hk h1
    rw[h2] at this;cases this
   ·rw[hk]
   ·have:=vC h3 hk h1'
    rw[h2'] at this;cases this
theorem Qj(p:Int->Bool)(xs:List Int):∃r,KY p xs r:=by
 have key:∀k,k<=xs.length->(∃r,KY p xs r)\/(xs.take k).any p=false:=by
  intro k
  induction k with
  |zero=>intro _;exact .inr (by simp)
  |succ k ih=>
   intro hk;rcases ih (by omega) with h|h
   ·exact .inl h
   ·cases hp:p xs[k] with
    |true=>exact .inl ⟨k,.inr ⟨k,xs[k],rfl,List.getElem?_eq_getElem _,hp,h⟩⟩
    |false=>exact .inr (by rw[kY (by omega),h,hp];rfl)
 rcases key xs.length (Nat.le_refl _) with h|h
 ·exact h
 ·rw[List.take_of_length_le (Nat.le_refl _)] at h
  exact⟨-1,.inl ⟨rfl,h⟩⟩
def pn(ss l:List Int)(i:Nat)(x:Int):Bool:=decide (0<ss.getD x.toNat 0)&&(decide (0<=l.getD x.toNat 0)&&decide (ss.getD x.toNat 0+l.getD x.toNat 0=l.getD i 0))
def Nx(nb:Nat->List Int)(ss l:List Int)(i j:Nat):Prop:=∃k:Nat,(nb i)[k]? =some (j:Int)/\pn ss l i j=true/\((nb i).take k).any (pn ss l i)=false
theorem take_any{p:Int->Bool}{xs:List Int}{k m:Nat}{x:Int}(h:(xs.take k).any p=false)(hm:m<k)(hx:xs[m]? =some x):p x=false:=by
 rw[List.any_eq_false] at h;have:=h x (by
  rw[List.mem_iff_getElem?];exact⟨m,by rw[List.getElem?_take,if_pos hm];exact hx⟩)
 cases hp:p x with
 |false=>rfl
 |true=>exact absurd hp this
theorem Nx.uniq{nb:Nat->List Int}{ss l:List Int}{i j j':Nat}(h:Nx nb ss l i j)(h':Nx nb ss l i j'):j=j':=by
 obtain⟨k,h1,h2,h3⟩:=h;obtain⟨k',h1',h2',h3'⟩:=h';rcases Nat.lt_trichotomy k k' with hk|hk|hk
 ·have:=take_any h3' hk h1
  rw[h2] at this;cases this
 ·subst hk
  rw[h1] at h1';injection h1' with h1'
  omega
 ·have:=take_any h3 hk h1'
  rw[h2'] at this;cases this
theorem MC{ss l:List Int}{i:Nat}{x:Int}(h:pn ss l i x=true):0<ss.getD x.toNat 0/\0<=l.getD x.toNat 0/\ss.getD x.toNat 0+l.getD x.toNat 0=l.getD i 0:=by
 unfold pn at h;simp only[Bool.and_eq_true,decide_eq_true_eq] at h;exact h
theorem Nx.is{nb:Nat->List Int}{ss l:List Int}{i j:Nat}(h:Nx nb ss l i j):(j:Int)∈nb i/\0<ss.getD j 0/\0<=l.getD j 0/\ss.getD j 0+l.getD j 0=l.getD i 0:=by
 obtain⟨k,h1,h2,-⟩:=h;have:=MC h2;rw[Int.toNat_natCast] at this;exact⟨List.mem_of_getElem? h1,this⟩
theorem Qk{nb:Nat->List Int}{ss l:List Int}{i n:Nat}{r:Int}(E:∀x,x∈nb i->∃j:Nat,x=j/\j<n)(h:KY (pn ss l i) (nb i) r)(hx:∃x∈nb i,pn ss l i x=true):∃k j:Nat,r=k/\j<n/\(nb i)[k]? =some (j:Int)/\Nx nb ss l i j:=by
 rcases h with⟨_,h⟩|⟨k,x,h1,h2,h3,h4⟩
 ·obtain⟨x,hm,hp⟩:=hx
  rw[List.any_eq_false] at h;exact absurd hp (h x hm)
 ·obtain⟨j,rfl,hj⟩:=E x (List.mem_of_getElem? h2)
  exact⟨k,j,h1,hj,h2,k,h2,h3,h4⟩
theorem lH{l:List Int}{i:Nat}{x:Int}(h:l[i]? =some x):l.getD i 0=x:=by rw[List.getD_eq_getElem?_getD,h];rfl
theorem GX{nb:Nat->List Int}{ss l:List Int}{t n i:Nat}(E:Even nb (λ_ j=>ss.getD j 0) n)(h:bD nb (λ_ j=>ss.getD j 0) t n l)(hi:i<n)(h0:0<=l.getD i 0)(ht:i≠t):∃x∈nb i,pn ss l i x=true:=by
 have hl:i<l.length:=by rw[h.1];exact hi
 have e:=List.getElem?_eq_getElem hl;rw[lH e] at h0;obtain⟨j,y,h1,h2,h3,h4,h5⟩:=h.next E.lt e h0 ht;refine⟨j,h1,?_⟩;unfold pn;rw[Int.toNat_natCast,lH h2,lH e,decide_eq_true h3,decide_eq_true h4,decide_eq_true h5.symm];rfl
def OU(nb:Nat->List Int)(ss l:List Int)(t i j:Nat):Prop:=(i=t/\j=i)\/(i≠t/\Nx nb ss l i j)
theorem OU.uniq{nb:Nat->List Int}{ss l:List Int}{t i j j':Nat}(h:OU nb ss l t i j)(h':OU nb ss l t i j'):j=j':=by
 rcases h with⟨h1,h2⟩|⟨h1,h2⟩
 ·rcases h' with⟨_,h4⟩|⟨h3,_⟩
  ·rw[h2,h4]
  ·exact absurd h1 h3
 ·rcases h' with⟨h3,_⟩|⟨_,h4⟩
  ·exact absurd h3 h1
  ·exact h2.uniq h4
inductive oH (nb:Nat->List Int) (ss l:List Int) (t:Nat):Nat->List Int->Prop
 |here:oH nb ss l t t [(t:Int)]
 |step {i j:Nat} {p:List Int}:i≠t->Nx nb ss l i j->oH nb ss l t j p->oH nb ss l t i ((i:Int)::p)
theorem oH.uniq{nb:Nat->List Int}{ss l:List Int}{t i:Nat}{p p':List Int}(h:oH nb ss l t i p)(h':oH nb ss l t i p'):p=p':=by
 induction h generalizing p' with
 |here=>
  cases h' with
  |here=>rfl
  |step h1 _ _=>exact absurd rfl h1
 |step h1 h2 h3 ih=>
  cases h' with
  |here=>exact absurd rfl h1
  |step h1' h2' h3'=>
   have:=h2.uniq h2';subst this;rw[ih h3']
theorem oH.head{nb:Nat->List Int}{ss l:List Int}{t i:Nat}{p:List Int}(h:oH nb ss l t i p):p[0]? =some (i:Int):=by
 cases h<;>rfl
theorem oH.last{nb:Nat->List Int}{ss l:List Int}{t i:Nat}{p:List Int}(h:oH nb ss l t i p):p.getLast? =some (t:Int):=by
 induction h with
 |here=>rfl
 |step h1 h2 h3 ih=>
  rename_i i j p;cases p with
  |nil=>simp at ih
  |cons a p=>rw[List.getLast?_cons_cons];exact ih
theorem oH.second{nb:Nat->List Int}{ss l:List Int}{t i:Nat}{p:List Int}(h:oH nb ss l t i p)(hi:i≠t):∃j:Nat,p[1]? =some (j:Int)/\Nx nb ss l i j:=by
 cases h with
 |here=>exact absurd rfl hi
 |step h1 h2 h3=>exact⟨_,by simpa using h3.head,h2⟩
def rch(l:List Int)(most:Int)(k:Nat):List Int:=((List.range k).filter λi=>decide (0<=l.getD i 0/\l.getD i 0<=most)).map Int.ofNat
theorem GZ(l:List Int)(most:Int)(k:Nat):rch l most (k+1)=rch l most k++(if 0<=l.getD k 0/\l.getD k 0<=most then[(k:Int)] else[]):=by
 unfold rch;rw[List.range_succ,List.filter_append,List.map_append]
 congr 1
 by_cases h:0<=l.getD k 0/\l.getD k 0<=most
 ·rw[if_pos h,List.filter_cons_of_pos (by simpa using h)]
  rfl
 ·rw[if_neg h,List.filter_cons_of_neg (by simpa using h)]
  rfl
theorem MH(l:List Int)(most:Int)(k:Nat):(rch l most k).length<=k:=by
 unfold rch;rw[List.length_map];exact Nat.le_trans (List.length_filter_le _ _) (by simp)
theorem get_some{l:List Int}{i n:Nat}(hl:l.length=n)(h:i<n):l[i]? =some (l.getD i 0):=by rw[List.getD_eq_getElem?_getD,List.getElem?_eq_getElem (by omega)];rfl
end Go.Proofs.YtolfphmdmpehdaaGreatDoor.Wy
namespace Go.Proofs.YtolfphmdmpehdaaGreatDoor
open Go.RowKit Wy
theorem G_(g:Int)(fl:Bool):Fd.onto g fl<=2:=by
 unfold Fd.onto
 repeat' split
 all_goals omega
theorem xC(gs:List Int)(fl:Bool)(j:Nat):(gs.map λg=>Fd.onto g fl).getD j 0<=2:=by
 rw[List.getD_eq_getElem?_getD,List.getElem?_map];cases gs[j]? with
 |none=>exact(by decide:(0:Int)<=2)
 |some g=>exact G_ g fl
theorem z_{W H:Nat}(hW:0<W)(gs:List Int)(fl:Bool):Even (Fd.near W H) (λ_ j=>(gs.map λg=>Fd.onto g fl).getD j 0) (W*H):=qV hW λ_ j=>xC gs fl j
theorem qX{W H:Nat}(hW:0<W)(gs:List Int)(fl:Bool):Even (Fd.near W H) (λi _=>(gs.map λg=>Fd.onto g fl).getD i 0) (W*H):=qV hW λi _=>xC gs fl i
theorem Aa{n:Nat}{l:List Int}(h:Flat l)(hl:l.length=n)(hn:n<=144)(j:Nat):l.getD j 0<=288:=by
 rw[List.getD_eq_getElem?_getD];cases hx:l[j]? with
 |none=>decide
 |some x=>
  have h1:=h j x hx;have h2:=sK l;show x<=288;omega
theorem He(v:Value)(W H:Nat)(gs os:List Int)(a:Nat)(m:Int)(fl:Bool)(w:World)(h:Fl w v W H gs os)(hs:Sd w)(G:Fd.Good W H gs os)(ha:a<W*H)(m0:0<=m)(m1:m<=1000000):
  Calls Tryz.prog 233 #[v,int i64 (a:Nat),int i64 m,.bool fl] w λe w'=>∃u l,e=.returned (.tuple #[u,.nilIface])/\bD (Fd.near W H) (λi _=>(gs.map λg=>Fd.onto g fl).getD i 0) a (W*H) l/\Ro w' u (rch l m (W*H))/\Below w.heap.size w w':=by
 have F0:=aj (h);have S0:=aj (hs);have G0:=aj (G);have A0:=aj (ha);obtain⟨u1,u2,rfl,⟨a1,c,rfl,c1,c2,ca⟩,⟨b1,d,rfl,d1,d2,cb⟩⟩:=h;obtain⟨ss,hss⟩:∃ss,(gs.map λg=>Fd.onto g fl)=ss:=⟨_,rfl⟩;have Fb:=aj (hss);have E0:Hid (Even (Fd.near W H) (λi _=>ss.getD i 0) (W*H)):=by rw[<-hss];exact qX G.w1 gs fl
 rw[hss];obtain⟨n,hn⟩:∃n,W*H=n:=⟨_,rfl⟩;have Hn:=aj (hn);rw[hn] at E0 ⊢;clear ca cb hs G ha hss hn;go_enter Tryz.func233,Tryz.ntmps233;go_wp2_with fail
 have b0:Below w.heap.size w ((w.alloc (Obj.cells #[int i64 W,int i64 H,slice a1 gs.length c,slice b1 os.length d] 25)).alloc (Obj.cells #[int i64 (a:Nat)] 3)):=((Below.refl _ _).alloc (Nat.le_refl _) _).alloc (by simp) _;refine(look_ok _ _ W H gs os _ fl _ (F0.out.below b0) G0.out (S0.out.below b0) (Ro.wL _ (by simp)) (by have:=A0.out;simp;omega)).mono ?_;rintro e w1 ⟨⟨v1,rfl,hL⟩,hb⟩;rw[Fb.out,Hn.out] at hL;have B1:=aj (b0.trans (hb.mono (by simp;omega)));have L1:=aj (hL);obtain⟨p1,p2,rfl,⟨x1,k1,rfl,-⟩,⟨x2,k2,rfl,-⟩,-⟩:=hL;clear hb b0;have n0:¬m<0:=by omega
 have n1:¬1000000<m:=by omega
 go_wp2_with fail
 have b2:Below _ w1 (w1.alloc (Obj.cells #[slice (some x1) (n) k1,slice x2 ss.length k2] 296)):=(Below.refl _ _).alloc (Nat.le_refl _) _;refine(oG _ _ a _ ss _ (L1.out.below b2) E0.out (by rw[<-Hn.out];exact A0.out) (by rw[<-Hn.out];exact G0.out.pos.2) (Fd.oD W H)).mono ?_;rintro e w2 ⟨g,l,rfl,hbz,hbk,⟨hf,hfl⟩,hb⟩;have K2:=aj (hbk);have HF:=aj (hf);have B2:=aj ((B1.out.trans (b2.mono B1.out.size)).trans (hb.mono (Nat.le_trans B1.out.size b2.size)));have N0:n<=144:=by rw[<-Hn.out];exact G0.out.pos.2
 clear hbz hbk hb b2 L1 B1 hf hfl n0 n1;go_wp2_with fail
 go_loopw [12,37] (λv i W'=>∃k:Nat,k<=n/\i=int i64 (k:Nat)/\Ow W' w2.heap.size v (rch l m k)/\Below w2.heap.size w2 W') (λ_ i _=>n-(intOf i).toNat)
 case atStart=>exact⟨0,Nat.zero_le _,rfl,Ow.nil _ _,Below.refl _ _⟩
 case round=>
  obtain⟨k,hk,rfl,ho,hb⟩:=hrel;have O:=aj (ho);have B:=aj (hb);clear ho hb;by_cases h0:k=n
  ·subst h0
   go_wp2;go_ret2;exact⟨_,l,rfl,HF,O.out.ro,B2.out.trans (B.out.mono B2.out.size)⟩
  ·have hkn:k<n:=by omega
   have Er:=aj (GZ l m k);have ck:=(K2.out.below B.out).cell (get_some HF.out.1 hkn);have Lr:Hid ((rch l m k).length<=1000000000):=Nat.le_trans (MH l m k) (by omega);generalize l.getD k 0=y at *;generalize rch l m k=rs at *;by_cases h1:0<=y
   ·by_cases h2:y<=m
    ·have Tm:Hid (rch l m (k+1)=rs++[(k:Int)]):=by
      have:=Er.out;rw[if_pos ⟨h1,h2⟩] at this;exact this
     have ba:Below _ wr (wr.alloc (Obj.cells #[int i64 (k:Nat)] 3)):=(Below.refl _ _).alloc (Nat.le_refl _) _;have O5:=aj (O.out.below ba);have B5:=aj (B.out.trans (ba.mono B.out.size));have Cd:Hid ((wr.alloc (Obj.cells #[int i64 (k:Nat)] 3)).cell? ⟨wr.heap.size,0,none⟩=some (int i64 (k:Nat))):=by unfold Hid;simp
     clear ba Er O B;go_wp2_with (at_builtin;refine gJ _ rfl _ _ rfl _ _ rs rfl O5.out _ _ rfl Cd.out Lr.out B5.out.size ?_);intro g6 cap6 w6 o6 gr6 at6 lt6;have O6:=aj (o6);have B6:=aj (B5.out.trans ((Below.refl _ _).grown gr6 B5.out.size (λk hk=>(O5.out.block k hk).1)));clear o6 gr6 at6 lt6 O5 B5 Cd;go_wp2;go_round
     case rel=>exact⟨k+1,by omega,by go_num,by rw[Tm.out];exact O6,B6⟩
     case measure=>simp[intOf];omega
    ·have Tm:Hid (rch l m (k+1)=rs):=by
      have:=Er.out;rw[if_neg (λh=>h2 h.2),List.append_nil] at this;exact this
     clear Er;go_wp2;go_round
     case rel=>exact⟨k+1,by omega,by go_num,by rw[Tm.out];exact O,B⟩
     case measure=>simp[intOf];omega
   ·have Tm:Hid (rch l m (k+1)=rs):=by
     have:=Er.out;rw[if_neg (λh=>h1 h.1),List.append_nil] at this;exact this
    clear Er;go_wp2;go_round
    case rel=>exact⟨k+1,by omega,by go_num,by rw[Tm.out];exact O,B⟩
    case measure=>simp[intOf];omega
theorem Hq(K:Nat)(eK:∀args w,(callFunc K args).run Tryz.prog w=.ok (.enter K args) w)(u:Value)(cs:Array Value)(xs:List Int)(p:Int->Bool)(w:World)(hu:Ro w u xs)
  (hp:∀W,Below w.heap.size w W->∀x:Int,Calls Tryz.prog K (#[int i64 x]++cs) W λe w'=>e=.returned (.bool (p x))/\Below W.heap.size W w'):
  Calls Tryz.prog 165 #[u,.func (Fn.func K) #[] cs] w λe w'=>∃r:Int,e=.returned (int i64 r)/\KY p xs r/\Below w.heap.size w w':=by
 have R0:=aj (hu);obtain⟨a,c,rfl,c1,c2,ca⟩:=hu;have Hp:=aj (hp);clear ca hp;go_enter Tryz.func165,Tryz.ntmps165;go_wp2;go_loopw [8] (λi W'=>∃k:Nat,k<=xs.length/\i=int i64 (k:Nat)/\(xs.take k).any p=false/\Below w.heap.size w W') (λi _=>xs.length-(intOf i).toNat)
 case atStart=>exact⟨0,Nat.zero_le _,rfl,by simp,Below.refl _ _⟩
 case round=>
  obtain⟨k,hk,rfl,ht,hb⟩:=hrel;have Ht:=aj (ht);have B:=aj (hb);clear ht hb;by_cases h0:k=xs.length
  ·subst h0
   go_wp2;go_ret;refine⟨_,rfl,.inl ⟨rfl,?_⟩,B⟩;have:=Ht.out;rw[List.take_of_length_le (Nat.le_refl _)] at this;exact this
  ·have hkx:k<xs.length:=by omega
   obtain⟨a',c',he,-,-,hca⟩:=R0.out.below B.out;injection he with he1 he2 he3
   subst he1;obtain⟨x,rfl,-,hx⟩:=hca (by intro h;rw[h] at hkx;simp at hkx);obtain⟨y,hy⟩:∃y,xs[k]? =some y:=⟨_,List.getElem?_eq_getElem hkx⟩;have cx:=hx k y hy;have hc:=Hp.out wr B.out y;have Hs:Hid ((xs.take (k+1)).any p=((xs.take k).any p||p y)):=by
    unfold Hid;rw[kY hkx];obtain⟨hi,e⟩:=List.getElem?_eq_some_iff.1 hy;rw[e]
   have Hm:=aj (hy);clear hx hca hy he2 he3;cases hy:p y with
   |true=>
    rw[hy] at hc;have Hc:=aj (hc);have Hy:=aj (hy);clear hc hy;go_wp2_with fail
    refine Calls.mono Hc.out ?_;rintro e w1 ⟨rfl,b1⟩;have B1:=aj (B.out.trans (b1.mono B.out.size));clear b1;go_wp2;go_ret;exact⟨_,rfl,.inr ⟨k,y,rfl,Hm,Hy,Ht⟩,B1⟩
   |false=>
    rw[hy] at hc;have Hc:=aj (hc);have Hy:=aj (hy);clear hc hy;go_wp2_with fail
    refine Calls.mono Hc.out ?_;rintro e w1 ⟨rfl,b1⟩;have B1:=aj (B.out.trans (b1.mono B.out.size));clear b1;go_wp2;go_round
    case rel=>exact⟨k+1,by omega,by go_num,by have:=Hs.out;rw[Ht.out,Hy.out] at this;exact this,B1⟩
    case measure=>simp[intOf];omega
def jL(l:List Int)(n:Nat)(p:Int->Bool)(c F:Int):Prop:=
 (F=6/\c=0/\∀m:Nat,m<=3->(rch l m n).any p=false)\/(F=0/\∃m k:Nat,m<=3/\(rch l m n)[k]? =some c/\p c=true/\((rch l m n).take k).any p=false/\∀j:Nat,j<m->(rch l j n).any p=false)
theorem xE(K:Nat)(eK:∀args w,(callFunc K args).run Tryz.prog w=.ok (.enter K args) w)(cs:Array Value)(p:Int->Bool)(v:Value)(W H:Nat)(gs os:List Int)(a:Nat)(fl:Bool)(w:World)(h:Fl w v W H gs os)(hs:Sd w)(G:Fd.Good W H gs os)(ha:a<W*H)
  (hp:∀V,Below w.heap.size w V->∀x:Int,Calls Tryz.prog K (#[int i64 x]++cs) V λe w'=>e=.returned (.bool (p x))/\Below V.heap.size V w'):
  Calls Tryz.prog 194 #[v,int i64 (a:Nat),.bool fl,.func (Fn.func K) #[] cs] w λe w'=>∃l c r F,e=.returned (.tuple #[int i64 c,r])/\bD (Fd.near W H) (λi _=>(gs.map λg=>Fd.onto g fl).getD i 0) a (W*H) l/\Er r F/\jL l (W*H) p c F/\Below w.heap.size w w':=by
 have F0:=aj (h);have S0:=aj (hs);have G0:Hid (Fd.Good W H gs os/\a<W*H):=⟨G,ha⟩;have Hp:=aj (hp);obtain⟨u1,u2,rfl,-,-⟩:=h;clear hs G ha hp;go_enter Tryz.func194,Tryz.ntmps194;go_upto_region 1 with fail
 have B0:Hid (Below _ w (w.alloc (.cells #[int i64 (W:Int),int i64 (H:Int),u1,u2] 25))):=(Below.refl _ _).alloc (Nat.le_refl _) _;have X0:Hid (Bf _ w.heap.size W H u1 u2):=Bf.mk' W H u1 u2 rfl;generalize (w.alloc _)=w0 at *;go_wp2;go_loopw [14] (λi V=>∃k:Nat,k<=4/\i=int i64 (k:Nat)/\(∀l,bD (Fd.near W H) (λi _=>(gs.map λg=>Fd.onto g fl).getD i 0) a (W*H) l->∀j:Nat,j<k->(rch l j (W*H)).any p=false)/\(0<k->∃l,bD (Fd.near W H) (λi _=>(gs.map λg=>Fd.onto g fl).getD i 0) a (W*H) l)/\Bf V w.heap.size W H u1 u2/\Below w.heap.size w V) (λi _=>4-(intOf i).toNat)
 case atStart=>exact⟨0,by omega,rfl,λl _ j hj=>by omega,λh=>by omega,X0.out,B0.out⟩
 case round=>
  obtain⟨k,hk,rfl,hN,hL,hX,hB⟩:=hrel;have N:=aj (hN);have L:=aj (hL);have X:=aj (hX);have B:=aj (hB);clear hN hL hX hB X0 B0;by_cases h0:k=4
  ·subst h0
   go_wp2;go_ret2;obtain⟨l,hl⟩:=L.out (by omega);exact⟨l,0,_,6,rfl,hl,Er.no (by decide),.inl ⟨rfl,rfl,λm hm=>N.out l hl m (by omega)⟩,B.out⟩
  ·have hk4:k<4:=by omega
   have hki:((k:Nat):Int)<4:=by omega
   obtain⟨x0,x1,x2,x3⟩:=X.out;go_wp2_with fail
   refine(He _ W H gs os a _ fl wr (F0.out.below B.out) (S0.out.below B.out) G0.out.1 G0.out.2 (by omega) (by omega)).mono ?_;rintro e w1 ⟨u,l,rfl,hl,hr,hb⟩;have B1:=aj (B.out.trans (hb.mono B.out.size));have X1:=aj (X.out.below hb X.out.lt);have HL:=aj (hl);have RO:=aj (hr);clear hb hl hr x0 x1 x2 x3 X B;go_wp2_with fail
   refine(Hq K eK _ cs _ p w1 RO.out (λV hV x=>Hp.out V (B1.out.trans (hV.mono B1.out.size)) x)).mono ?_;rintro e w2 ⟨r,rfl,hf,hb⟩;have B2:=aj (B1.out.trans (hb.mono B1.out.size));have X2:=aj (X1.out.below hb X1.out.lt);have RO2:=aj (RO.out.below hb);clear hb X1 B1 RO;rcases hf with⟨rfl,hno⟩|⟨j,c,rfl,hj,hpc,htk⟩
   ·have NO:=aj (hno)
    clear hno;go_wp2;go_round
    case rel=>exact⟨k+1,by omega,by go_num,λl' hl' j hj=>by
     by_cases hjk:j<k
     ·exact N.out l' hl' j hjk
     ·have:j=k:=by omega
      subst this;rw[hl'.uniq HL.out];exact NO.out,λ_=>⟨l,HL.out⟩,X2.out,B2.out⟩
    case measure=>simp[intOf];omega
   ·have FJ:=aj (iG hj hpc htk)
    have hjl:=(List.getElem?_eq_some_iff.1 hj).1;obtain⟨ad,cp,rfl,-,-,hca⟩:=RO2.out;obtain⟨x,rfl,-,hx⟩:=hca (by intro h;rw[h] at hjl;simp at hjl);have cx:=hx j c hj;clear hj hpc htk hx hca;go_wp2;go_ret2;exact⟨l,c,_,0,rfl,HL.out,Er.nil,.inr ⟨rfl,k,j,by omega,FJ.out.1,FJ.out.2.1,FJ.out.2.2,λi hi=>N.out l HL.out i hi⟩,B2.out⟩
theorem MJ(u:aC)(at_:Int)(b:Nat)(w:World)(hc:w.cell? ⟨b,0,none⟩=some (int i64 at_)):
  Calls Tryz.prog 193 #[u.val,.pointer (some ⟨b,0,none⟩)] w λe w'=>e=.returned (.bool (u.at_==at_))/\Below w.heap.size w w':=by
 have hb:b<w.heap.size:=cell_lt hc;have hne:b≠w.heap.size:=by omega
 unfold aC.val;go_enter Tryz.func193,Tryz.ntmps193;go_wp2;go_ret;exact⟨rfl,(Below.refl _ _).alloc (Nat.le_refl _) _⟩
theorem H_(us:List aC)(at_:Int)(b:Nat)(u:Value)(w:World)(hc:w.cell? ⟨b,7,none⟩=some u)(hu:jF w u us):
  Calls Tryz.prog 192 #[int i64 at_,.pointer (some ⟨b,0,none⟩)] w λe w'=>e=.returned (.bool (!us.any (λu=>u.at_==at_)))/\Below w.heap.size w w':=by
 have U:=aj (hu);have hb:b<w.heap.size:=cell_lt hc;have hne:b≠w.heap.size:=by omega
 clear hu;go_enter Tryz.func192,Tryz.ntmps192;go_upto_region 1 with fail
 have B0:Hid (Below _ w (w.alloc (Obj.cells #[int i64 at_] 3))):=(Below.refl _ _).alloc (Nat.le_refl _) _;have C0:Hid ((w.alloc (Obj.cells #[int i64 at_] 3)).cell? ⟨w.heap.size,0,none⟩=some (int i64 at_)):=dh (by simp) rfl;have c7:(w.alloc (Obj.cells #[int i64 at_] 3)).cell? ⟨b,7,none⟩=some u:=by rw[B0.out.cell (p:=⟨b,7,none⟩) hb];exact hc
 generalize (w.alloc _)=w0 at *;go_wp2_with fail
 refine(kX 193 (by intro args w;go_simp) u #[.pointer (some ⟨w.heap.size,0,none⟩)] us (λu=>u.at_==at_) w0 (U.out.below B0.out) (λV hV k=>MJ k at_ w.heap.size V (by rw[hV.cell (p:=⟨w.heap.size,0,none⟩) (cell_lt C0.out)];exact C0.out))).mono ?_;rintro e w1 ⟨rfl,hb1⟩;have B1:=aj (B0.out.trans (hb1.mono B0.out.size));obtain⟨m,hm⟩:∃m,us.any (λu=>u.at_==at_)=m:=⟨_,rfl⟩;have HM:=aj (hm);rw[hm];clear hb1 hm c7 hc;go_wp2;go_ret;exact⟨by rw[HM.out];rfl,B1.out⟩
end Go.Proofs.YtolfphmdmpehdaaGreatDoor
namespace Go.Proofs.YtolfphmdmpehdaaGreatDoor
open Go Go.RowKit
section
variable {P:Program} {ops:Array Oper} {md:Region.Mode} {C:World->Prop} {Q:Exit->Act->World->Prop}
def fH(P:Program)(ops:Array Oper)(C:World->Prop)(o:Oper)(v:Value)(a:Act):Prop:=
 Region.wanted o (yielded ops a.tmps)=true/\∀W,C W->(execOp a.eval o).run P W=.ok (.value v) W
def fZ(P:Program)(ops:Array Oper)(C:World->Prop)(o:Oper)(K:Act->World->Prop)(a:Act)(W:World):Prop:=
 Region.wanted o (yielded ops a.tmps)=true/\
  ((∃v W',(execOp a.eval o).run P W=.ok (.value v) W'/\C W'/\K (a.put o.dst v) W')\/(∃W',(execOp a.eval o).run P W=.ok .skip W'/\C W'/\K (a.put o.dst undef) W')\/
   ∃f args,(execOp a.eval o).run P W=.ok (.enter f args) W/\Calls P f args W (λe w'=>∃v,e=.returned v/\C w'/\K (a.put o.dst v) w'))
theorem fZ.mono{o:Oper}{K K':Act->World->Prop}{a:Act}{W:World}(h:∀a W,C W->K a W->K' a W)(hh:fZ P ops C o K a W):fZ P ops C o K' a W:=by
 obtain⟨h1,h2⟩:=hh;refine⟨h1,?_⟩;rcases h2 with⟨v,W',e,hc,hk⟩|⟨W',e,hc,hk⟩|⟨f,args,e,hc⟩
 ·exact .inl ⟨v,W',e,hc,h _ _ hc hk⟩
 ·exact .inr (.inl ⟨W',e,hc,h _ _ hc hk⟩)
 ·exact .inr (.inr ⟨f,args,e,hc.mono λe w' ⟨v,he,hw,hk⟩=>⟨v,he,hw,h _ _ hw hk⟩⟩)
theorem fH.step{o:Oper}{v:Value}{K:Act->World->Prop}{a:Act}{W:World}(hy:fH P ops C o v a)(hC:C W)(h:K (a.put o.dst v) W):fZ P ops C o K a W:=
 ⟨hy.1,.inl ⟨v,W,hy.2 W hC,hC,h⟩⟩
theorem fZ.put{oi oj:Oper}{v:Value}(hap:oi.apart ops oj=true)
  (hsi:∀cs b,oi.op≠ .select cs b) (hsj:∀cs b,oj.op≠ .select cs b) {K:Act->World->Prop} {a:Act} {W:World}
  (hy:fH P ops C oi v a) (h:fZ P ops C oj K (a.put oi.dst v) W):
  fZ P ops C oj (λa' w'=>fH P ops C oi v a'/\K (a'.put oi.dst v) w') a W:=by
 obtain⟨h1,h2,h3⟩:=Oper.apart_spec hap;have keep:∀u,fH P ops C oi v (a.put oj.dst u):=λu=>by
  unfold fH at *;rw[execOp_put oi hsi a oj.dst u h3,wanted_put oi a oj.dst u h3];exact hy
 unfold fZ at *;rw[wanted_put oj a oi.dst v h1,execOp_put oj hsj a oi.dst v h1] at h;obtain⟨hw,h⟩:=h;refine⟨hw,?_⟩;rcases h with⟨u,W',e,hc,hk⟩|⟨W',e,hc,hk⟩|⟨f,args,e,hc⟩
 ·exact .inl ⟨u,W',e,hc,keep u,by rw[<-Act.put_comm a v u h2];exact hk⟩
 ·exact .inr (.inl ⟨W',e,hc,keep _,by rw[<-Act.put_comm a v _ h2];exact hk⟩)
 ·exact .inr (.inr ⟨f,args,e,hc.mono λe w' ⟨u,he,hw,hk⟩=>⟨u,he,hw,keep u,by rw[<-Act.put_comm a v u h2];exact hk⟩⟩)
def wpAnyS(P:Program)(md:Region.Mode)(ops:Array Oper)(C:World->Prop)(Q:Exit->Act->World->Prop):Nat->Array Bool->Act->World->Prop
 |0,listed,a,W=>Region.ready md ops listed=[]/\Q .normal a W
 |f+1,listed,a,W=>Region.ready md ops listed≠[]/\∀i∈Region.ready md ops listed,∃o,ops[i]? =some o/\fZ P ops C o (wpAnyS P md ops C Q f (listed.setIfInBounds i true)) a W
theorem gZ:∀(f:Nat) (listed:Array Bool) (a:Act) (W:World),wpAnyS P md ops C Q f listed a W->wpAny P md ops Q f listed a W
 |0,listed,a,W,h=>h
 |f+1,listed,a,W,h=>by
  refine⟨λh0=>absurd h0 h.1,λi hi=>?_⟩;obtain⟨o,ho,hs⟩:=h.2 i hi;unfold wpOp;simp only[ho];obtain⟨hw,hs⟩:=hs;rw[if_pos hw];refine .inl ?_;unfold Oper.wp;rcases hs with⟨v,W',e,-,hk⟩|⟨W',e,-,hk⟩|⟨g,args,e,hc⟩
  ·rw[e];exact gZ f _ _ _ hk
  ·rw[e];exact gZ f _ _ _ hk
  ·rw[e]
   exact hc.mono λe w' ⟨v,he,_,hk⟩=>by subst he;exact gZ f _ _ _ hk
theorem wpAnyS_first{i:Nat}{oi:Oper}{v:Value}(hi:ops[i]? =some oi)(hsel:∀(j:Nat) (o:Oper) cs b,ops[j]? =some o->o.op≠ .select cs b):
  ∀(f:Nat) (listed:Array Bool) (a:Act) (W:World),
   (∀j oj,ops[j]? =some oj->j≠i->listed.getD j true=false->(∀e∈oj.after,Region.binds md e=true->e.on≠i)->oi.apart ops oj=true)->
   i∈Region.ready md ops listed->fH P ops C oi v a->C W->
   wpAnyS P md ops C Q f (listed.setIfInBounds i true) (a.put oi.dst v) W->wpAnyS P md ops C Q (f+1) listed a W:=by
 intro f
 induction f with
 |zero=>
  intro listed a W _ hr hy hC H;refine⟨λh=>(by rw[h] at hr;cases hr),λj hj=>?_⟩;by_cases hji:j=i
  ·subst hji;exact⟨oi,hi,hy.step hC H⟩
  ·have:=ready_mono hj hji
   rw[H.1] at this;cases this
 |succ f ih=>
  intro listed a W hfree hr hy hC H;refine⟨λh=>(by rw[h] at hr;cases hr),λj hj=>?_⟩;by_cases hji:j=i
  ·subst hji;exact⟨oi,hi,hy.step hC H⟩
  ·obtain⟨o',ho',h1⟩:=H.2 j (ready_mono hj hji)
   obtain⟨hjun,oj,hoj,hall⟩:=mem_ready.1 hj;obtain rfl:o'=oj:=Option.some.inj (ho'.symm.trans hoj);have hnot:∀e∈o'.after,Region.binds md e=true->e.on≠i:=λe he hb heq=>by
    have h1:=hall e he hb;have h0:=(mem_ready.1 hr).1;rw[heq,getD_both h0] at h1;cases h1
   have h2:=fZ.put (hfree j o' hoj hji hjun hnot) (λcs b=>hsel i oi cs b hi) (λcs b=>hsel j o' cs b hoj) hy h1;have hfree':∀k ok,ops[k]? =some ok->k≠i->(listed.setIfInBounds j true).getD k true=false->
     (∀e∈ok.after,Region.binds md e=true->e.on≠i)->oi.apart ops ok=true:=λk ok hk hki hun hno=>by
    refine hfree k ok hk hki ?_ hno;by_cases hjk:j=k
    ·subst hjk;exact hjun
    ·rw[getD_set_ne true hjk] at hun;exact hun
   refine⟨o',hoj,h2.mono λa' W' hC' h3=>ih _ a' W' hfree' (ready_mono hr (Ne.symm hji)) h3.1 hC' ?_⟩;rw[Array.setIfInBounds_comm _ _ hji];exact h3.2
def aP(P:Program)(ops:Array Oper)(C:World->Prop)(Q:Exit->Act->World->Prop):List (Bool×Nat)->Act->World->Prop
 |[],a,W=>Q .normal a W
 |(true,i)::r,a,W=>∃o v,ops[i]? =some o/\fH P ops C o v a/\aP P ops C Q r (a.put o.dst v) W
 |(false,i)::r,a,W=>∃o,ops[i]? =some o/\fZ P ops C o (aP P ops C Q r) a W
def jM(md:Region.Mode)(ops:Array Oper):List (Bool×Nat)->Array Bool->Bool
 |[],listed=>(Region.ready md ops listed).isEmpty
 |(true,i)::r,listed=>(Region.ready md ops listed).contains i&&(Region.free md ops listed i&&jM md ops r (listed.setIfInBounds i true))
 |(false,i)::r,listed=>decide (Region.ready md ops listed=[i])&&jM md ops r (listed.setIfInBounds i true)
theorem fA(hsel:Region.noSelect ops=true):∀(s:List (Bool×Nat)) (listed:Array Bool) (a:Act) (W:World),jM md ops s listed=true->C W->aP P ops C Q s a W->wpAnyS P md ops C Q s.length listed a W
 |[],listed,a,W,hB,hC,h=>⟨by simpa[jM] using hB,h⟩
 |(true,i)::r,listed,a,W,hB,hC,h=>by
  simp only[jM,Bool.and_eq_true] at hB;obtain⟨hr,hf,hB⟩:=hB;obtain⟨o,v,ho,hy,hk⟩:=h;have hr':i∈Region.ready md ops listed:=by simpa using hr
  exact wpAnyS_first ho (Region.noSelect_spec hsel) _ _ a W (Region.free_spec ho hf) hr' hy hC (fA hsel r _ _ _ hB hC hk)
 |(false,i)::r,listed,a,W,hB,hC,h=>by
  simp only[jM,Bool.and_eq_true,decide_eq_true_eq] at hB;obtain⟨hr,hB⟩:=hB;obtain⟨o,ho,hs⟩:=h;refine⟨λh=>(by rw[hr] at h;cases h),λj hj=>?_⟩;rw[hr] at hj;obtain rfl:j=i:=by simpa using hj
  exact⟨o,ho,hs.mono λa' W' hC' hk=>fA hsel r _ _ _ hB hC' hk⟩
theorem bY{i:Nat}{r:List (Bool×Nat)}{o:Oper}{a:Act}{W:World}(ho:ops[i]? =some o)(v:Value)(hw:Region.wanted o (yielded ops a.tmps)=true)(hr:∀W,C W->(execOp a.eval o).run P W=.ok (.value v) W)(h:aP P ops C Q r (a.put o.dst v) W):aP P ops C Q ((true,i)::r) a W:=
 ⟨o,v,ho,⟨hw,hr⟩,h⟩
theorem oI{i:Nat}{r:List (Bool×Nat)}{o:Oper}{a:Act}{W:World}(ho:ops[i]? =some o)(f:FuncId)(args:Array Value)(hw:Region.wanted o (yielded ops a.tmps)=true)(hr:(execOp a.eval o).run P W=.ok (.enter f args) W)
  (hc:Calls P f args W (λe w'=>∃v,e=.returned v/\C w'/\aP P ops C Q r (a.put o.dst v) w')):aP P ops C Q ((false,i)::r) a W:=
 ⟨o,ho,hw,.inr (.inr ⟨f,args,hr,hc⟩)⟩
theorem aN{i:Nat}{r:List (Bool×Nat)}{o:Oper}{a:Act}{W:World}(ho:ops[i]? =some o)(v:Value)(W':World)(hw:Region.wanted o (yielded ops a.tmps)=true)(hr:(execOp a.eval o).run P W=.ok (.value v) W')(hC:C W')(h:aP P ops C Q r (a.put o.dst v) W'):aP P ops C Q ((false,i)::r) a W:=
 ⟨o,ho,hw,.inl ⟨v,W',hr,hC,h⟩⟩
theorem g_{i:Nat}{r:List (Bool×Nat)}{o:Oper}{a:Act}{W:World}(ho:ops[i]? =some o)(W':World)(hw:Region.wanted o (yielded ops a.tmps)=true)(hr:(execOp a.eval o).run P W=.ok .skip W')(hC:C W')(h:aP P ops C Q r (a.put o.dst undef) W'):aP P ops C Q ((false,i)::r) a W:=
 ⟨o,ho,hw,.inr (.inl ⟨W',hr,hC,h⟩)⟩
end
section
variable {P:Program} {ops:Array Oper} {md:Region.Mode} {C:World->Prop} {Q:Exit->Act->World->Prop} {L:Array Bool->Act->World->Prop}
def mV(P:Program)(md:Region.Mode)(ops:Array Oper)(C:World->Prop)(L:Array Bool->Act->World->Prop):Nat->Array Bool->Act->World->Prop
 |0,listed,a,W=>L listed a W
 |f+1,listed,a,W=>Region.ready md ops listed≠[]/\∀i∈Region.ready md ops listed,∃o,ops[i]? =some o/\fZ P ops C o (mV P md ops C L f (listed.setIfInBounds i true)) a W
theorem h_{g:Nat}(hL:∀listed a W,L listed a W->wpAny P md ops Q g listed a W):∀(f:Nat) (listed:Array Bool) (a:Act) (W:World),mV P md ops C L f listed a W->wpAny P md ops Q (f+g) listed a W
 |0,listed,a,W,h=>by rw[Nat.zero_add];exact hL _ _ _ h
 |f+1,listed,a,W,h=>by
  rw[show f+1+g=(f+g)+1 by omega];refine⟨λh0=>absurd h0 h.1,λi hi=>?_⟩;obtain⟨o,ho,hs⟩:=h.2 i hi;unfold wpOp;simp only[ho];obtain⟨hw,hs⟩:=hs;rw[if_pos hw];refine .inl ?_;unfold Oper.wp;rcases hs with⟨v,W',e,-,hk⟩|⟨W',e,-,hk⟩|⟨k,args,e,hc⟩
  ·rw[e];exact h_ hL f _ _ _ hk
  ·rw[e];exact h_ hL f _ _ _ hk
  ·rw[e]
   exact hc.mono λe w' ⟨v,he,_,hk⟩=>by subst he;exact h_ hL f _ _ _ hk
theorem Ia{l H:Array Bool}{i:Nat}(h0:l.getD i true=false)(e:l.setIfInBounds i true=H):l=H.setIfInBounds i false:=by
 subst e;apply Array.ext_getElem?;intro k;by_cases hk:i=k
 ·subst hk
  rcases Nat.lt_or_ge i l.size with hl|hl
  ·simp[Array.getD,hl] at h0
   simp[hl,h0]
  ·simp[Array.getD,Nat.not_lt.2 hl] at h0
 ·simp[hk]
def Cj(md:Region.Mode)(ops:Array Oper)(listed:Array Bool):Prop:=∀(j:Nat) (oj:Oper),ops[j]? =some oj->listed.getD j false=true->∀e∈oj.after,Region.binds md e=true->listed.getD e.on false=true
theorem Cj.set{i:Nat}{listed:Array Bool}(inv:Cj md ops listed)(hi:i∈Region.ready md ops listed):Cj md ops (listed.setIfInBounds i true):=by
 obtain⟨_,oi,hoi,hall⟩:=mem_ready.1 hi;intro j oj hj hl e he hb;by_cases hij:i=j
 ·subst hij
  have:oj=oi:=Option.some.inj (hj.symm.trans hoi);subst this;exact getD_set_true (hall e he hb)
 ·rw[getD_set_ne false hij] at hl
  exact getD_set_true (inv j oj hj hl e he hb)
def waits(md:Region.Mode)(ops:Array Oper)(H0:Array Bool)(i:Nat):Bool:=(List.range ops.size).any λj=>H0.getD j false&&(decide (j≠i)&&match ops[j]? with|some o=>o.after.any λe=>Region.binds md e&&decide (e.on=i)|none=>false)
theorem xG{H0:Array Bool}{i:Nat}(h:waits md ops H0 i=true):∃j o,ops[j]? =some o/\j≠i/\H0.getD j false=true/\∃e∈o.after,Region.binds md e=true/\e.on=i:=by
 unfold waits at h;obtain⟨j,-,hj⟩:=List.any_eq_true.1 h;simp only[Bool.and_eq_true,decide_eq_true_eq] at hj;obtain⟨h1,h2,h3⟩:=hj;cases ho:ops[j]? with
 |none=>rw[ho] at h3;cases h3
 |some o=>
  rw[ho] at h3;obtain⟨k,hk,he⟩:=Array.any_eq_true.1 h3;simp only[Bool.and_eq_true,decide_eq_true_eq] at he;exact⟨j,o,ho,h2,h1,o.after[k],Array.getElem_mem hk,he.1,he.2⟩
theorem lI{i:Nat}{oi:Oper}{v:Value}{H0:Array Bool}(hi:ops[i]? =some oi)(hsel:∀(j:Nat) (o:Oper) cs b,ops[j]? =some o->o.op≠ .select cs b)
  (hH:waits md ops H0 i=true\/Region.ready md ops (H0.setIfInBounds i false)=[i]) (X_:∀listed a W,L listed a W->listed=H0):
  ∀(f:Nat) (listed:Array Bool) (a:Act) (W:World),Cj md ops listed->
   (∀j oj,ops[j]? =some oj->j≠i->listed.getD j true=false->(∀e∈oj.after,Region.binds md e=true->e.on≠i)->oi.apart ops oj=true)->
   i∈Region.ready md ops listed->fH P ops C oi v a->C W->
   mV P md ops C L f (listed.setIfInBounds i true) (a.put oi.dst v) W->mV P md ops C L (f+1) listed a W:=by
 intro f
 induction f with
 |zero=>
  intro listed a W inv _ hr hy hC H;refine⟨λh=>(by rw[h] at hr;cases hr),λj hj=>?_⟩;by_cases hji:j=i
  ·subst hji;exact⟨oi,hi,hy.step hC H⟩
  ·rcases hH with hH|hH
   ·obtain⟨k,ok,hk,hki,hkl,e,he,hb,heq⟩:=xG hH
    rw[<-X_ _ _ _ H,getD_set_ne false (Ne.symm hki)] at hkl;have h1:=inv k ok hk hkl e he hb;rw[heq,getD_both (mem_ready.1 hr).1] at h1;cases h1
   ·have e:=Ia (mem_ready.1 hr).1 (X_ _ _ _ H)
    rw[e,hH] at hj;exact absurd (by simpa using hj) hji
 |succ f ih=>
  intro listed a W inv hfree hr hy hC H;refine⟨λh=>(by rw[h] at hr;cases hr),λj hj=>?_⟩;by_cases hji:j=i
  ·subst hji;exact⟨oi,hi,hy.step hC H⟩
  ·obtain⟨o',ho',h1⟩:=H.2 j (ready_mono hj hji)
   obtain⟨hjun,oj,hoj,hall⟩:=mem_ready.1 hj;obtain rfl:o'=oj:=Option.some.inj (ho'.symm.trans hoj);have hnot:∀e∈o'.after,Region.binds md e=true->e.on≠i:=λe he hb heq=>by
    have h1:=hall e he hb;have h0:=(mem_ready.1 hr).1;rw[heq,getD_both h0] at h1;cases h1
   have h2:=fZ.put (hfree j o' hoj hji hjun hnot) (λcs b=>hsel i oi cs b hi) (λcs b=>hsel j o' cs b hoj) hy h1;have hfree':∀k ok,ops[k]? =some ok->k≠i->(listed.setIfInBounds j true).getD k true=false->
     (∀e∈ok.after,Region.binds md e=true->e.on≠i)->oi.apart ops ok=true:=λk ok hk hki hun hno=>by
    refine hfree k ok hk hki ?_ hno;by_cases hjk:j=k
    ·subst hjk;exact hjun
    ·rw[getD_set_ne true hjk] at hun;exact hun
   refine⟨o',hoj,h2.mono λa' W' hC' h3=>ih _ a' W' (inv.set hj) hfree' (ready_mono hr (Ne.symm hji)) h3.1 hC' ?_⟩;rw[Array.setIfInBounds_comm _ _ hji];exact h3.2
def aW(P:Program)(ops:Array Oper)(C:World->Prop)(K:Act->World->Prop):List (Bool×Nat)->Act->World->Prop
 |[],a,W=>K a W
 |(true,i)::r,a,W=>∃o v,ops[i]? =some o/\fH P ops C o v a/\aW P ops C K r (a.put o.dst v) W
 |(false,i)::r,a,W=>∃o,ops[i]? =some o/\fZ P ops C o (aW P ops C K r) a W
def headB(md:Region.Mode)(ops:Array Oper)(H0:Array Bool):List (Bool×Nat)->Array Bool->Bool
 |[],listed=>decide (listed=H0)
 |(true,i)::r,listed=>(Region.ready md ops listed).contains i&&(Region.free md ops listed i&&((waits md ops H0 i||decide (Region.ready md ops (H0.setIfInBounds i false)=[i]))&&headB md ops H0 r (listed.setIfInBounds i true)))
 |(false,i)::r,listed=>decide (Region.ready md ops listed=[i])&&headB md ops H0 r (listed.setIfInBounds i true)
theorem eP{K:Act->World->Prop}{H0:Array Bool}(hsel:Region.noSelect ops=true):∀(s:List (Bool×Nat)) (listed:Array Bool) (a:Act) (W:World),Cj md ops listed->headB md ops H0 s listed=true->C W->aW P ops C K s a W->mV P md ops C (λl a W=>l=H0/\K a W) s.length listed a W
 |[],listed,a,W,inv,hB,hC,h=>⟨of_decide_eq_true hB,h⟩
 |(true,i)::r,listed,a,W,inv,hB,hC,h=>by
  simp only[headB,Bool.and_eq_true,Bool.or_eq_true,decide_eq_true_eq] at hB;obtain⟨hr,hf,hH,hB⟩:=hB;obtain⟨o,v,ho,hy,hk⟩:=h;have hr':i∈Region.ready md ops listed:=by simpa using hr
  exact lI ho (Region.noSelect_spec hsel) hH (λ_ _ _ h=>h.1) _ _ a W inv (Region.free_spec ho hf) hr' hy hC (eP hsel r _ _ _ (inv.set hr') hB hC hk)
 |(false,i)::r,listed,a,W,inv,hB,hC,h=>by
  simp only[headB,Bool.and_eq_true,decide_eq_true_eq] at hB;obtain⟨hr,hB⟩:=hB;obtain⟨o,ho,hs⟩:=h;refine⟨λh=>(by rw[hr] at h;cases h),λj hj=>?_⟩;have hr':i∈Region.ready md ops listed:=by rw[hr];simp
  rw[hr] at hj;obtain rfl:j=i:=by simpa using hj
  exact⟨o,ho,hs.mono λa' W' hC' hk=>eP hsel r _ _ _ (inv.set hr') hB hC' hk⟩
def lJ(n:Nat)(s:List (Bool×Nat)):Array Bool:=s.foldl (λl p=>l.setIfInBounds p.2 true) (Array.replicate n false)
theorem aH{id:Nat}{a:Act}{w:World}(s t:List (Bool×Nat))(C:World->Prop)(hm:P.follows .mixedOrders=true)(hs:Region.noSelect ops=true)(hl:s.length+t.length=ops.size)(hB:headB .any ops (lJ ops.size s) s (Array.replicate ops.size false)=true)
  (hT:jM .any ops t (lJ ops.size s)=true)
  (hC:C {w with drawn:=w.drawn+1}) (h:aW P ops C (aP P ops (λ_=>True) Q t) s a {w with drawn:=w.drawn+1}):(Code.region id ops true).wp P Q a w:=by
 refine wp_region_any hm ?_;rw[<-hl];refine h_ (λlisted a W hh=>?_) _ _ _ _ (eP hs s _ a _ (λj oj _ hj=>by rw[getD_replicate_false] at hj;cases hj) (by rw[hl];exact hB) hC h);obtain⟨rfl,hk⟩:=hh;exact gZ _ _ _ _ (fA hs t _ a W hT trivial hk)
theorem ay{K:Act->World->Prop}{i:Nat}{r:List (Bool×Nat)}{o:Oper}{a:Act}{W:World}(ho:ops[i]? =some o)(v:Value)(hw:Region.wanted o (yielded ops a.tmps)=true)(hr:∀W,C W->(execOp a.eval o).run P W=.ok (.value v) W)(h:aW P ops C K r (a.put o.dst v) W):aW P ops C K ((true,i)::r) a W:=
 ⟨o,v,ho,⟨hw,hr⟩,h⟩
theorem bF{K:Act->World->Prop}{i:Nat}{r:List (Bool×Nat)}{o:Oper}{a:Act}{W:World}(ho:ops[i]? =some o)(f:FuncId)(args:Array Value)(hw:Region.wanted o (yielded ops a.tmps)=true)(hr:(execOp a.eval o).run P W=.ok (.enter f args) W)
  (hc:Calls P f args W (λe w'=>∃v,e=.returned v/\C w'/\aW P ops C K r (a.put o.dst v) w')):aW P ops C K ((false,i)::r) a W:=
 ⟨o,ho,hw,.inr (.inr ⟨f,args,hr,hc⟩)⟩
theorem f_{o:Oper}{a:Act}{w w':World}{v':Value}(s x:Operand)(t tx:TypeId)(ho:o.op=.call {callee:=.builtin .append,args:= #[s,x],argTypes:= #[t,tx]})(v xv:Value)(hs:a.eval s=v)(hx:a.eval x=xv)
  (hr:(Builtin.append_ #[t,tx] o.type #[v,xv]).run P w=.ok v' w'):(execOp a.eval o).run P w=.ok (.value v') w':=by
 unfold execOp;simp only[ho,resolve,invoke,builtin,Sem.run_bind,Sem.run_pure,Result.andThen_ok,List.map_toArray,List.map_cons,List.map_nil,hs,hx,hr]
theorem dw{K:Act->World->Prop}{i:Nat}{r:List (Bool×Nat)}{o:Oper}{a:Act}{W:World}(ho:ops[i]? =some o)(v:Value)(W':World)(hw:Region.wanted o (yielded ops a.tmps)=true)(hr:(execOp a.eval o).run P W=.ok (.value v) W')(hC:C W')(h:aW P ops C K r (a.put o.dst v) W'):aW P ops C K ((false,i)::r) a W:=
 ⟨o,ho,hw,.inl ⟨v,W',hr,hC,h⟩⟩
end
end Go.Proofs.YtolfphmdmpehdaaGreatDoor
namespace Go.Proofs.YtolfphmdmpehdaaGreatDoor
open Go.RowKit
theorem aV{w:World}{v:Value}{X:WV}(h:Wl w v X):∃p1 q1 p2 q2 p3 q3 p4 q4 p5 q5,v=.agg #[int i64 X.turn,int i64 X.next,int i64 X.wide,int i64 X.high,slice p1 X.gs.length q1,slice p2 X.os.length q2,slice p3 X.gold.length q3,slice p4 X.us.length q4,slice p5 X.qs.length q5]:=by
 obtain⟨u1,u2,u3,u4,u5,rfl,⟨p1,q1,rfl,-⟩,⟨p2,q2,rfl,-⟩,⟨p3,q3,rfl,-⟩,⟨p4,q4,rfl,-⟩,⟨p5,q5,rfl,-⟩⟩:=h;exact⟨_,_,_,_,_,_,_,_,_,_,rfl⟩
theorem oJ{w:World}{X:WV}{u1 u2 u3 u4 u5:Value}(h:Wl w (.agg #[int i64 X.turn,int i64 X.next,int i64 X.wide,int i64 X.high,u1,u2,u3,u4,u5]) X):Fl w (.agg #[int i64 X.wide,int i64 X.high,u1,u2]) X.wide X.high X.gs X.os:=
 ⟨u1,u2,rfl,h.slices.1,h.slices.2.1⟩
open Wy
def xH(us:List aC)(x:Int):Bool:= !us.any (λu=>u.at_==x)
def jO(ks:List KV)(X:WV)(unit kind c F:Int):Prop:=
 (Wd.aF ks X≠0/\F=Wd.aF ks X/\c=0)\/(Wd.aF ks X=0/\X.us.any (λu=>u.id==unit)=false/\F=6/\c=0)
 \/(Wd.aF ks X=0/\X.us.any (λu=>u.id==unit)=true/\¬(0<=kind/\kind<(ks.length:Int))/\F=1/\c=0)
 \/(Wd.aF ks X=0/\∃(i kn Wn Hn an:Nat) (u:aC) (k:KV) (l:List Int),jg (λu=>u.id==unit) X.us (i:Nat)/\X.us[i]? =some u/\kind=(kn:Nat)/\ks[kn]? =some k/\X.wide=(Wn:Nat)/\X.high=(Hn:Nat)/\Fd.Good Wn Hn X.gs X.os/\u.at_=(an:Nat)/\an<Wn*Hn
  /\bD (Fd.near Wn Hn) (λi _=>(X.gs.map λg=>Fd.onto g k.f).getD i 0) an (Wn*Hn) l/\jL l (Wn*Hn) (xH X.us) c F)
theorem Ib(vk vw:Value)(ks:List KV)(X:WV)(unit kind:Int)(w:World)(hk:Kl w vk ks)(hb:∀k∈ks,k.b.size<=9223372036854775807)(hw:Wl w vw X)(hs:Sd w):
  Calls Tryz.prog 155 #[vk,vw,int i64 unit,int i64 kind] w λe w'=>∃c r F,e=.returned (.tuple #[int i64 c,r])/\Er r F/\jO ks X unit kind c F/\Below w.heap.size w w':=by
 have K:Hid (Kl w vk ks/\∀k∈ks,k.b.size<=9223372036854775807):=⟨hk,hb⟩;have H:=aj (hw);have S:=aj (hs);obtain⟨p1,q1,p2,q2,p3,q3,p4,q4,p5,q5,rfl⟩:=aV hw;obtain⟨pk,qk,rfl,ck1,ck2,kc⟩:=hk;have KC:=aj (kc);clear hb hw hs kc;go_enter Tryz.func155,Tryz.ntmps155;go_upto_region 1 with fail
 have B0:Hid (Below _ w (w.alloc (Obj.cells #[int i64 X.turn,int i64 X.next,int i64 X.wide,int i64 X.high,slice p1 X.gs.length q1,slice p2 X.os.length q2,slice p3 X.gold.length q3,slice p4 X.us.length q4,slice p5 X.qs.length q5] 29))):=(Below.refl _ _).alloc (Nat.le_refl _) _;have X0:Hid (Bw _ w.heap.size X (slice p1 X.gs.length q1) (slice p2 X.os.length q2) (slice p3 X.gold.length q3) (slice p4 X.us.length q4) (slice p5 X.qs.length q5)):=Bw.mk' X _ _ _ _ _ rfl;generalize (w.alloc _)=w0 at *;obtain⟨x0,x1,x2,x3,x4,x5,x6,x7,x8⟩:=X0.out;go_wp2_with fail
 refine(dI _ _ ks X w0 (K.out.1.below B0.out) K.out.2 (H.out.below B0.out)).mono ?_;rintro e w1 ⟨r,rfl,hr,hb⟩;obtain⟨fw,hfw⟩:∃f,Wd.aF ks X=f:=⟨_,rfl⟩;have FW:=aj (hfw);rw[hfw] at hr;have B1:=aj (B0.out.trans (hb.mono B0.out.size));have X1:=aj (X0.out.below hb X0.out.lt);clear hb hfw x0 x1 x2 x3 x4 x5 x6 x7 x8 X0 B0;rcases hr with⟨rfl,rfl⟩|⟨hf,rfl⟩
 case inr=>
  have HF:=aj (hf);clear hf;go_wp2;go_ret2;exact⟨0,_,fw,rfl,Er.no HF.out,.inl (by rw[FW.out];exact⟨HF.out,rfl,rfl⟩),B1.out⟩
 obtain⟨x0,x1,x2,x3,x4,x5,x6,x7,x8⟩:=X1.out;go_wp2_with fail
 refine(mM _ X unit w1 (H.out.below B1.out)).mono ?_;rintro e w2 ⟨r,rfl,hf,hb⟩;have B2:=aj (B1.out.trans (hb.mono B1.out.size));have X2:=aj (X1.out.below hb X1.out.lt);have FI:=aj (hf);clear hb x0 x1 x2 x3 x4 x5 x6 x7 x8 X1 B1;rcases hf with⟨rfl,hno⟩|⟨i,u,rfl,hi,hid,-⟩
 ·have NO:=aj (hno)
  clear hno;go_wp2;go_ret2;exact⟨0,_,6,rfl,Er.no (by decide),.inr (.inl ⟨FW.out,NO.out,rfl,rfl⟩),B2.out⟩
 have AN:Hid (X.us.any (λu=>u.id==unit)=true):=List.any_eq_true.2 ⟨u,List.mem_of_getElem? hi,hid⟩;have UI:=aj (hi);have hil:=(List.getElem?_eq_some_iff.1 hi).1;clear hi hid;by_cases hk0:kind<0
 ·go_wp2
  go_ret2;exact⟨0,_,1,rfl,Er.no (by decide),.inr (.inr (.inl ⟨FW.out,AN.out,by omega,rfl,rfl⟩)),B2.out⟩
 by_cases hk1:(ks.length:Int)<=kind
 ·go_wp2
  go_ret2;exact⟨0,_,1,rfl,Er.no (by decide),.inr (.inr (.inl ⟨FW.out,AN.out,by omega,rfl,rfl⟩)),B2.out⟩
 obtain⟨kn,rfl⟩:∃n:Nat,kind=n:=⟨kind.toNat,by omega⟩;have hkl:kn<ks.length:=by omega
 obtain⟨k,hkk⟩:∃k,ks[kn]? =some k:=⟨_,List.getElem?_eq_getElem hkl⟩;have WR:=aj (aY FW.out);obtain⟨Wn,Hn,e1,e2,G⟩:=WR.out.good;obtain⟨k0,fu⟩:=WR.out.fine UI.out;have hat:=fu.at_;obtain⟨an,han⟩:∃n:Nat,u.at_=n:=⟨u.at_.toNat,by omega⟩;have GD:Hid (X.wide=(Wn:Nat)/\X.high=(Hn:Nat)/\Fd.Good Wn Hn X.gs X.os/\u.at_=(an:Nat)/\an<Wn*Hn/\ks[kn]? =some k):=⟨e1,e2,G,han,by have:=G.gl;omega,hkk⟩;obtain⟨pa,pc,he,-,-,hu⟩:=H.out.slices.2.2.2.1;obtain⟨xu,hxu,Tn,Tq⟩:=hu (by intro h;rw[h] at hil;simp at hil);injection he with he1 he2 he3
 subst he1;subst hxu;obtain⟨xk,hxk,hxl,hxc⟩:=KC.out (by intro h;subst h;simp at hkl);subst hxk;have UK:Hid (dB w (xu.add (i*8)) u/\(xu.add (i*8)).block<w.heap.size/\Kc w (xk.add (kn*11)) k/\(xk.add (kn*11)).block<w.heap.size):=⟨Tq i u UI.out,by rw[add_block];exact Tn,hxc kn k hkk,by rw[add_block];exact hxl⟩;clear hu he2 he3 Tn Tq hxl hxc e1 e2 G fu hat hkk KC han;go_upto_region 10 with fail
 refine aH [(true,0),(true,1),(true,2),(true,3),(true,4),(true,5),(true,6),(true,7),(true,8),(true,9),(true,10),(true,11),(true,12),(true,13),(false,14)] [(true,15),(true,16),(true,17),(false,18)] (λV=>Bw V w.heap.size X (slice p1 X.gs.length q1) (slice p2 X.os.length q2) (slice p3 X.gold.length q3) (slice (some xu) X.us.length q4) (slice p5 X.qs.length q5)/\V.cell? ⟨(xu.add (i*8)).block,(xu.add (i*8)).off+3,none⟩=some (int i64 u.at_)/\V.cell? ⟨(xk.add (kn*11)).block,(xk.add (kn*11)).off+9,none⟩=some (.bool k.f)) (by kernel_rfl) (by kernel_rfl) (by kernel_rfl) (by decide+kernel) (by decide+kernel) ?_ ?_
 ·exact⟨X2.out.below ((Below.refl _ _).drew) X2.out.lt,(UK.out.1.below B2.out UK.out.2.1).c3,(UK.out.2.2.1.below B2.out UK.out.2.2.2).c9⟩
 have X3:Hid (Bw {w2 with drawn:=w2.drawn+1} _ X _ _ _ _ _):=X2.out.below ((Below.refl _ _).drew) X2.out.lt;have B3:Hid (Below _ w {w2 with drawn:=w2.drawn+1}):=B2.out.drew;generalize ({w2 with drawn:=w2.drawn+1}:World)=w3 at *;clear X2 B2;refine ay rfl (.pointer (some ⟨w.heap.size,2,none⟩)) (by go_simp) (λV hV=>by go_simp) ?_;go_simp;refine ay rfl (.agg #[int i64 X.wide,int i64 X.high,slice p1 X.gs.length q1,slice p2 X.os.length q2]) (by go_simp) (λV hV=>by obtain⟨⟨x0,x1,x2,x3,x4,x5,x6,x7,x8⟩,cu,ck⟩:=hV;go_simp) ?_;go_simp;refine ay rfl (.pointer (some ⟨w.heap.size,7,none⟩)) (by go_simp) (λV hV=>by go_simp) ?_;go_simp;refine ay rfl (slice (some xu) X.us.length q4) (by go_simp) (λV hV=>by obtain⟨⟨x0,x1,x2,x3,x4,x5,x6,x7,x8⟩,cu,ck⟩:=hV;go_simp) ?_;go_simp;refine ay rfl (int i64 (i:Nat)) (by go_simp) (λV hV=>by go_simp) ?_;go_simp;refine ay rfl (.pointer (some (xu.add (i*8)))) (by go_simp) (λV hV=>by go_simp) ?_;go_simp;refine ay rfl (.pointer (some ⟨(xu.add (i*8)).block,(xu.add (i*8)).off+3,none⟩)) (by go_simp) (λV hV=>by go_simp) ?_;go_simp;refine ay rfl (int i64 u.at_) (by go_simp) (λV hV=>by obtain⟨⟨x0,x1,x2,x3,x4,x5,x6,x7,x8⟩,cu,ck⟩:=hV;go_simp) ?_;go_simp;refine ay rfl (slice (some xk) ks.length qk) (by go_simp) (λV hV=>by go_simp) ?_;go_simp;refine ay rfl (int i64 (kn:Nat)) (by go_simp) (λV hV=>by go_simp) ?_;go_simp;refine ay rfl (.pointer (some (xk.add (kn*11)))) (by go_simp) (λV hV=>by go_simp) ?_;go_simp;refine ay rfl (.pointer (some ⟨(xk.add (kn*11)).block,(xk.add (kn*11)).off+9,none⟩)) (by go_simp) (λV hV=>by go_simp) ?_;go_simp;refine ay rfl (.bool k.f) (by go_simp) (λV hV=>by obtain⟨⟨x0,x1,x2,x3,x4,x5,x6,x7,x8⟩,cu,ck⟩:=hV;go_simp) ?_;go_simp;refine ay rfl (.func (Fn.func 192) #[] #[.pointer (some ⟨w.heap.size,0,none⟩)]) (by go_simp) (λV hV=>by go_simp) ?_;go_simp;refine bF rfl 194 #[.agg #[int i64 X.wide,int i64 X.high,slice p1 X.gs.length q1,slice p2 X.os.length q2],int i64 u.at_,.bool k.f,.func (Fn.func 192) #[] #[.pointer (some ⟨w.heap.size,0,none⟩)]] (by go_simp) (by go_simp) ?_;have FL:Hid (Fl w3 (.agg #[int i64 X.wide,int i64 X.high,slice p1 X.gs.length q1,slice p2 X.os.length q2]) (Wn:Nat) (Hn:Nat) X.gs X.os):=by
  have:=oJ (H.out.below B3.out);rw[GD.out.1,GD.out.2.1] at this;rw[GD.out.1,GD.out.2.1];exact this
 have UL:=aj (H.out.slices.2.2.2.1);rw[GD.out.2.2.2.1];refine(xE 192 (by intro args w;go_simp) #[.pointer (some ⟨w.heap.size,0,none⟩)] (xH X.us) _ Wn Hn X.gs X.os an k.f w3 FL.out (S.out.below B3.out) GD.out.2.2.1 GD.out.2.2.2.2.1
  (λV hV x=>H_ X.us x w.heap.size _ V (X3.out.below hV X3.out.lt).c7 ((UL.out.below B3.out).below hV))).mono ?_
 rintro e w4 ⟨l,c,r,F,rfl,hl,hr,hn,hb⟩;have B4:=aj (B3.out.trans (hb.mono B3.out.size));have X4:=aj (X3.out.below hb X3.out.lt);have NS:=aj (iG hl hr hn);refine⟨_,rfl,⟨X4.out,(by have:=(UK.out.1.below B4.out UK.out.2.1).c3;rw[GD.out.2.2.2.1] at this;exact this),(UK.out.2.2.1.below B4.out UK.out.2.2.2).c9⟩,?_⟩;clear hb hl hr hn X3 B3 FL;go_simp;refine bY rfl (int i64 c) (by go_simp) (λV hV=>by go_simp) ?_;go_simp;refine bY rfl r (by go_simp) (λV hV=>by go_simp) ?_;go_simp;refine bY rfl (int i64 c) (by go_simp) (λV hV=>by go_simp) ?_;go_simp;refine aN rfl r w4 (by go_simp) (by go_simp) trivial ?_;go_simp;unfold aP;go_wp2;go_ret2;exact⟨c,r,F,rfl,NS.out.2.1,.inr (.inr (.inr ⟨FW.out,i,kn,Wn,Hn,an,u,k,l,FI.out,UI.out,rfl,GD.out.2.2.2.2.2,GD.out.1,GD.out.2.1,GD.out.2.2.1,GD.out.2.2.2.1,GD.out.2.2.2.2.1,NS.out.1,NS.out.2.2⟩)),B4.out⟩
end Go.Proofs.YtolfphmdmpehdaaGreatDoor
namespace Go.Proofs.YtolfphmdmpehdaaGreatDoor
open Go.RowKit
structure bM where
 what:Int
 unit:Int
 arg:Int
def bM.val(k:bM):Value:=.agg #[int i64 k.what,int i64 k.unit,int i64 k.arg]
structure oK(w:World)(y:Addr)(k:bM):Prop where
 c0:w.cell? y=some (int i64 k.what)
 c1:w.cell? ⟨y.block,y.off+1,none⟩=some (int i64 k.unit)
 c2:w.cell? ⟨y.block,y.off+2,none⟩=some (int i64 k.arg)
theorem oK.lt{w:World}{y:Addr}{k:bM}(h:oK w y k):y.block<w.heap.size:=cell_lt h.c0
theorem oK.below{w w':World}{y:Addr}{k:bM}{B:Nat}(h:oK w y k)(hb:Below B w w')(hy:y.block<B):oK w' y k:=
 ⟨by rw[hb.cell (p:=y) hy];exact h.c0,by rw[hb.cell (p:=⟨y.block,y.off+1,none⟩) hy];exact h.c1,by rw[hb.cell (p:=⟨y.block,y.off+2,none⟩) hy];exact h.c2⟩
def RY(w:World)(v:Value)(ks:List bM):Prop:=∃a c,v=slice a ks.length c/\ks.length<=c/\c<=9223372036854775807/\(ks≠[]->∃x,a=some x/\x.block<w.heap.size/\∀(i:Nat) k,ks[i]? =some k->oK w (x.add (i*3)) k)
theorem RY.below{w w':World}{v:Value}{ks:List bM}(h:RY w v ks)(hb:Below w.heap.size w w'):RY w' v ks:=by
 obtain⟨a,c,h1,h2,h3,h4⟩:=h;refine⟨a,c,h1,h2,h3,λhn=>?_⟩;obtain⟨x,e,hx,hk⟩:=h4 hn;exact⟨x,e,Nat.lt_of_lt_of_le hx hb.size,λi k hi=>(hk i k hi).below hb (by rw[add_block];exact hx)⟩
theorem oK.mk'{w:World}{z:Nat}(k:bM)(hz:w.heap.size=z):oK (w.alloc (.cells #[int i64 k.what,int i64 k.unit,int i64 k.arg] 169)) ⟨z,0,none⟩ k:=by
 subst hz;constructor<;>simp
end Go.Proofs.YtolfphmdmpehdaaGreatDoor
namespace Go.Proofs.YtolfphmdmpehdaaGreatDoor
def mW(l:List aO)(u:Int):Nat:=l.countP (λj=>decide (j.unit=u))
theorem Cm{l:List aO}{q:Nat}{j:aO}(h:l[q]? =some j)(u:Int):mW (l.take (q+1)) u=mW (l.take q) u+if j.unit=u then 1 else 0:=by
 unfold mW;rw[List.take_add_one,h,List.countP_append];simp[List.countP_cons]
def kN(l:List aO)(j:aO):aO:=if mW l j.unit=0 then{j with left:=j.left-1} else j
def one1(j:aO):aO:={j with left:=1}
def Comes(ks:List KV)(Y:WV)(j:aO)(c:Int):Prop:=jO ks Y j.unit j.kind c 0/\Wd.aT ks Y j.aA j.kind c=0
def kP(ks:List KV)(Y:WV)(j:aO):Prop:=∃c F,jO ks Y j.unit j.kind c F/\(F≠0\/Wd.aT ks Y j.aA j.kind c≠0)
inductive Tr (ks:List KV) (X:WV):Nat->WV->List bM->List aO->Prop
 |zero:Tr ks X 0 X [] []
 |wait {q:Nat} {Y:WV} {es:List bM} {qs:List aO} {j:aO}:Tr ks X q Y es qs->X.qs[q]? =some j->(kN (X.qs.take q) j).left≠0->Tr ks X (q+1) Y es (qs++[kN (X.qs.take q) j])
 |come {q:Nat} {Y:WV} {es:List bM} {qs:List aO} {j:aO} {c:Int}:Tr ks X q Y es qs->X.qs[q]? =some j->(kN (X.qs.take q) j).left=0->Comes ks Y j c->Tr ks X (q+1) (Wd.put ks Y j.aA j.kind c) (es++[⟨6,Y.next,c⟩]) qs
 |stay {q:Nat} {Y:WV} {es:List bM} {qs:List aO} {j:aO}:Tr ks X q Y es qs->X.qs[q]? =some j->(kN (X.qs.take q) j).left=0->kP ks Y j->Tr ks X (q+1) Y es (qs++[one1 j])
theorem Tr.keep{ks:List KV}{X:WV}(h:aQ ks X){q:Nat}{Y:WV}{es:List bM}{qs:List aO}(t:Tr ks X q Y es qs):aQ ks Y/\Y.qs=X.qs/\es.length<=q/\qs.length<=q/\Y.turn=X.turn/\Y.wide=X.wide/\Y.high=X.high/\Y.gs=X.gs/\Y.os=X.os/\Y.gold=X.gold:=by
 induction t with
 |zero=>exact⟨h,rfl,by simp,by simp,rfl,rfl,rfl,rfl,rfl,rfl⟩
 |wait _ _ _ ih=>
  obtain⟨i1,i2,i3,i4,i5⟩:=ih;exact⟨i1,i2,by omega,by simp;omega,i5⟩
 |come _ _ _ hc ih=>
  obtain⟨i1,i2,i3,i4,i5⟩:=ih;exact⟨aY (B_ i1 hc.2),i2,by simp;omega,by omega,i5⟩
 |stay _ _ _ _ ih=>
  obtain⟨i1,i2,i3,i4,i5⟩:=ih;exact⟨i1,i2,by omega,by simp;omega,i5⟩
theorem Tr.count{ks:List KV}{X:WV}{q:Nat}{Y:WV}{es:List bM}{qs:List aO}(t:Tr ks X q Y es qs):Y.us.length=X.us.length+es.length/\Y.next=X.next+(es.length:Int)/\qs.length+es.length=q:=by
 induction t with
 |zero=>simp
 |wait _ _ _ ih=>obtain⟨i1,i2,i3⟩:=ih;exact⟨i1,i2,by simp;omega⟩
 |come _ _ _ _ ih=>
  obtain⟨i1,i2,i3⟩:=ih;refine⟨?_,?_,by simp;omega⟩
  ·simp only[Wd.put,List.length_append,List.length_cons,List.length_nil]
   omega
  ·simp only[Wd.put,List.length_append,List.length_cons,List.length_nil,i2]
   omega
 |stay _ _ _ _ ih=>obtain⟨i1,i2,i3⟩:=ih;exact⟨i1,i2,by simp;omega⟩
def Tt(X:WV)(j:aO):Prop:=∃o∈X.qs,j.aA=o.aA/\j.unit=o.unit/\j.kind=o.kind/\j.left≠0/\(j.left=1\/j.left=o.left\/j.left=o.left-1)
theorem Tr.from{ks:List KV}{X:WV}{q:Nat}{Y:WV}{es:List bM}{qs:List aO}(t:Tr ks X q Y es qs):∀j∈qs,Tt X j:=by
 induction t with
 |zero=>intro j hj;cases hj
 | @wait q Y es qs o _ ho hl ih=>
  intro j hj;rcases List.mem_append.1 hj with hj|hj
  ·exact ih j hj
  ·simp only[List.mem_singleton] at hj
   subst hj;refine⟨o,List.mem_of_getElem? ho,?_⟩;unfold kN at hl ⊢;split
   ·rename_i h
    rw[if_pos h] at hl;exact⟨rfl,rfl,rfl,hl,.inr (.inr rfl)⟩
   ·rename_i h
    rw[if_neg h] at hl;exact⟨rfl,rfl,rfl,hl,.inr (.inl rfl)⟩
 |come _ _ _ _ ih=>exact ih
 | @stay q Y es qs o _ ho _ _ ih=>
  intro j hj;rcases List.mem_append.1 hj with hj|hj
  ·exact ih j hj
  ·simp only[List.mem_singleton] at hj
   subst hj;exact⟨o,List.mem_of_getElem? ho,rfl,rfl,rfl,(by show(1:Int)≠0;decide),.inl rfl⟩
theorem Ic{ks:List KV}{X:WV}(h:aQ ks X){Y:WV}{es:List bM}{qs:List aO}(t:Tr ks X X.qs.length Y es qs):Wd.aF ks {Y with qs:=qs}=0:=by
 obtain⟨R,eq,-,hq,-⟩:=t.keep h;have hf:=t.from;obtain⟨Wn,Hn,e1,e2,G⟩:=R.good;refine Wd.dR R.kinds (by show Fd.fault Y.wide Y.high Y.gs Y.os=0;rw[e1,e2];exact Fd.dH G) R.nums R.ul (λi u hu=>?_) (by show qs.length<=12;have:=h.ql;omega) (λj hj=>?_)
 ·obtain⟨k,F⟩:=R.fine hu
  exact⟨k,F.id1,F.id2,F.up,F.p,F.k0,F.kk,F.life,F.load,F.task,F.at_,F.goal,F.opn,F.rest⟩
 ·obtain⟨o,ho,p1,p2,p3,p4,p5⟩:=hf j hj
  have h1:=R.job (j:=o) (by rw[eq];exact ho);unfold Wd.aJ at h1 ⊢;show(match Y.us.find? (λu=>u.id==j.unit) with|none=>6|some u=>_)=(0:Int);rw[p2];cases hu:Y.us.find? (λu=>u.id==o.unit) with
  |none=>rw[hu] at h1;exact h1
  |some u=>
   rw[hu] at h1;simp only at h1 ⊢;cases hk:ks[u.kind.toNat]? with
   |none=>rw[hk] at h1;exact h1
   |some k=>
    rw[hk] at h1;simp only at h1 ⊢;rw[p1,p3];split at h1
    ·cases h1
    ·rename_i c1
     rw[if_neg c1];split at h1
     ·cases h1
     ·rename_i c2
      rw[if_neg];simp only[Bool.or_eq_true,Bool.not_eq_true',decide_eq_false_iff_not,not_or,Classical.not_not,Bool.not_eq_false] at c2 ⊢;refine⟨c2.1,?_⟩;have:=c2.2;rcases p5 with e|e|e<;>omega
def Ac(ks:List KV)(u:aC):Int:=match ks[u.kind.toNat]? with|some k=>k.n7|none=>0
def bI(ks:List KV)(Y:WV)(u:aC):Int:=if u.task=2/\u.at_=u.goal then min (min (Ac ks u-u.load) (Y.os.getD u.at_.toNat 0)) 10 else 0
def jc(u:aC)(n:Int):aC:={u with load:=n}
def fD(Y:WV)(i:Nat)(u:aC)(n:Int):WV:={Y with us:=Y.us.set i (jc u (u.load+n)),os:=Y.os.set u.at_.toNat (Y.os.getD u.at_.toNat 0-n)}
def tk(ks:List KV)(Y:WV):Nat->WV×List bM
 |0=>(Y,[])
 |q+1=>match (tk ks Y q).1.us[q]? with
  |none=>tk ks Y q
  |some u=>if 0<bI ks (tk ks Y q).1 u then(fD (tk ks Y q).1 q u (bI ks (tk ks Y q).1 u),(tk ks Y q).2++[⟨4,u.id,bI ks (tk ks Y q).1 u⟩]) else tk ks Y q
theorem oL{ks:List KV}{Y:WV}{q:Nat}{u:aC}(hu:(tk ks Y q).1.us[q]? =some u)(h:0<bI ks (tk ks Y q).1 u):tk ks Y (q+1)=(fD (tk ks Y q).1 q u (bI ks (tk ks Y q).1 u),(tk ks Y q).2++[⟨4,u.id,bI ks (tk ks Y q).1 u⟩]):=by
 rw[tk];simp only[hu];rw[if_pos h]
theorem vF{ks:List KV}{Y:WV}{q:Nat}{u:aC}(hu:(tk ks Y q).1.us[q]? =some u)(h:¬0<bI ks (tk ks Y q).1 u):tk ks Y (q+1)=tk ks Y q:=by
 rw[tk];simp only[hu];rw[if_neg h]
structure ji(ks:List KV)(Y:WV):Prop where
 wide:∃Wn Hn:Nat,Y.wide=Wn/\Y.high=Hn/\Fd.Good Wn Hn Y.gs Y.os
 units:∀u∈Y.us,(∃kn:Nat,∃k,u.kind=kn/\ks[kn]? =some k/\0<=u.load/\u.load<=k.n7/\k.n7<=1000)/\(∃an:Nat,u.at_=an/\an<Y.os.length)/\∃pn:Nat,u.aA=pn/\pn<Y.gold.length
 gold:∀g∈Y.gold,0<=g/\g<=1000000
 ul:Y.us.length<=40
theorem ji.sN{ks:List KV}{Y:WV}(h:ji ks Y){i:Nat}{x:Int}(hx:Y.os[i]? =some x):0<=x/\x<=1000000:=by
 obtain⟨Wn,Hn,-,-,G⟩:=h.wide;have hi:=(List.getElem?_eq_some_iff.1 hx).1;have hg:=List.getElem?_eq_getElem (l:=Y.gs) (i:=i) (by rw[G.gl,<-G.ol];exact hi);have:=G.cell i _ x hg hx;omega
theorem vG{ks:List KV}(h:Kd.aG (ks.map KV.k)=0):∀k∈ks,0<=k.n7/\k.n7<=1000:=by
 intro k hk;unfold Kd.aG at h;split at h
 ·omega
 ·have h2:=gY h k.k (List.mem_map.2 ⟨k,hk,rfl⟩)
  unfold Kd.b_ at h2;split at h2
  ·omega
  ·rename_i h3
   rw[Bool.not_eq_true,List.any_eq_false] at h3;have:=h3 k.n7 (by simp[KV.k]);simp only[decide_eq_true_eq] at this;omega
theorem Ie{Y:WV}(h:Wd.aU Y=false):∀g∈Y.gold,0<=g/\g<=1000000:=by
 unfold Wd.aU at h;simp only[Bool.or_eq_false_iff] at h;obtain⟨-,-,h3,h4⟩:=h;intro g hg;rw[List.any_eq_false] at h4;have:=h4 g hg;unfold Wd.off at this;simp at this;exact this
theorem aQ.Tv{ks:List KV}{Y:WV}(h:aQ ks Y):ji ks Y:=by
 have kc:=vG h.kinds;obtain⟨Wn,Hn,e1,e2,G⟩:=h.good;refine⟨⟨Wn,Hn,e1,e2,G⟩,λu hu=>?_,Ie h.nums,h.ul⟩;obtain⟨i,hi⟩:=List.mem_iff_getElem?.1 hu;obtain⟨k,F⟩:=h.fine hi;have hl:Y.os.length=Y.gs.length:=by rw[G.gl,G.ol]
 exact⟨⟨u.kind.toNat,k,by have:=F.k0;omega,F.kk,F.load.1,F.load.2,(kc k (List.mem_of_getElem? F.kk)).2⟩,⟨u.at_.toNat,by have:=F.at_;omega,by have:=F.at_;omega⟩,⟨u.aA.toNat,by have:=F.p;omega,by have:=F.p;omega⟩⟩
theorem oM{ks:List KV}{Y:WV}{u:aC}{kn an:Nat}{k:KV}{x:Int}(hk:u.kind=kn)(hkk:ks[kn]? =some k)(ha:u.at_=an)(hx:Y.os[an]? =some x):bI ks Y u=(if u.task=2/\u.at_=u.goal then min (min (k.n7-u.load) x) 10 else 0):=by
 unfold bI Ac;rw[hk,ha,Int.toNat_natCast,Int.toNat_natCast];simp only[hkk,List.getD_eq_getElem?_getD,hx,Option.getD_some]
theorem ji.take{ks:List KV}{Y:WV}(h:ji ks Y){i:Nat}{u:aC}(hu:Y.us[i]? =some u)(hn:0<bI ks Y u):ji ks (fD Y i u (bI ks Y u)):=by
 obtain⟨⟨kn,k,e1,e2,l1,l2,l3⟩,⟨an,e3,hal⟩,pn,e4,hpl⟩:=h.units u (List.mem_of_getElem? hu);obtain⟨x,hx⟩:∃x,Y.os[an]? =some x:=⟨_,List.getElem?_eq_getElem hal⟩;have ey:=oM (ks:=ks) (Y:=Y) e1 e2 e3 hx;have hox:=h.sN hx;have hy:bI ks Y u<=k.n7-u.load/\bI ks Y u<=x:=by
  rw[ey] at hn ⊢;split
  ·omega
  ·rename_i hh;rw[if_neg hh] at hn;omega
 have eg:Y.os.getD u.at_.toNat 0=x:=by rw[e3,Int.toNat_natCast,List.getD_eq_getElem?_getD,hx,Option.getD_some]
 refine⟨?_,λv hv=>?_,h.gold,by simpa[fD] using h.ul⟩
 ·obtain⟨Wn,Hn,a1,a2,G⟩:=h.wide
  refine⟨Wn,Hn,a1,a2,⟨G.w1,G.w2,G.h1,G.h2,G.gl,by simpa[fD] using G.ol,λj g o hg ho=>?_⟩⟩;unfold fD at ho;simp only at ho;rw[eg,e3,Int.toNat_natCast,List.getElem?_set] at ho;split at ho
  ·rename_i ej
   subst ej;injection ho with ho
   have c:=G.cell an g x hg hx;refine⟨c.1,c.2.1,by omega,by omega,λh9=>c.2.2.2.2 (by omega)⟩
  ·exact G.cell j g o hg ho
 ·have hlen:(fD Y i u (bI ks Y u)).os.length=Y.os.length:=by simp[fD]
  rw[hlen];rcases List.mem_or_eq_of_mem_set hv with hv|rfl
  ·exact h.units v hv
  ·exact⟨⟨kn,k,e1,e2,by show 0<=u.load+_;omega,by show u.load+_<=_;omega,l3⟩,⟨an,e3,hal⟩,pn,e4,hpl⟩
def VJ(Y Z:WV):Prop:=Z.turn=Y.turn/\Z.next=Y.next/\Z.wide=Y.wide/\Z.high=Y.high/\Z.gs=Y.gs/\Z.gold=Y.gold/\Z.qs=Y.qs/\Z.us.length=Y.us.length/\Z.os.length=Y.os.length
theorem sO{ks:List KV}{Y:WV}:∀q,VJ Y (tk ks Y q).1
 |0=>⟨rfl,rfl,rfl,rfl,rfl,rfl,rfl,rfl,rfl⟩
 |q+1=>by
  have ih:=sO (ks:=ks) (Y:=Y) q;cases hu:(tk ks Y q).1.us[q]? with
  |none=>rw[tk];simp only[hu];exact ih
  |some u=>
   by_cases h:0<bI ks (tk ks Y q).1 u
   ·rw[oL hu h]
    obtain⟨a1,a2,a3,a4,a5,a6,a7,a8,a9⟩:=ih;exact⟨a1,a2,a3,a4,a5,a6,a7,by simpa[fD] using a8,by simpa[fD] using a9⟩
   ·rw[vF hu h];exact ih
theorem Ig{ks:List KV}{Y:WV}(h:ji ks Y):∀q,ji ks (tk ks Y q).1
 |0=>h
 |q+1=>by
  have ih:=Ig h q;cases hu:(tk ks Y q).1.us[q]? with
  |none=>rw[tk];simp only[hu];exact ih
  |some u=>
   by_cases hh:0<bI ks (tk ks Y q).1 u
   ·rw[oL hu hh];exact ih.take hu hh
   ·rw[vF hu hh];exact ih
theorem sQ{ks:List KV}{Y:WV}:∀q,(tk ks Y q).2.length<=q
 |0=>by simp[tk]
 |q+1=>by
  have ih:=sQ (ks:=ks) (Y:=Y) q;cases hu:(tk ks Y q).1.us[q]? with
  |none=>rw[tk];simp only[hu];omega
  |some u=>
   by_cases h:0<bI ks (tk ks Y q).1 u
   ·rw[oL hu h];simp;omega
   ·rw[vF hu h];omega
open Go.RowKit
theorem fM(ks:List aC):(ks.flatMap aC.cs).length=ks.length*8:=by
 induction ks with
 |nil=>rfl
 |cons x l ih=>rw[List.flatMap_cons,List.length_append,ih,List.length_cons,Nat.succ_mul,Nat.add_comm];rfl
theorem MP{w:World}{y:Addr}{ks:List aC}(hc:∀(i:Nat) k,ks[i]? =some k->dB w (y.add (i*8)) k)(j:Nat)(u:Value)(hj:(ks.flatMap aC.cs)[j]? =some u):w.cell? (y.add j)=some u:=by
 have hjl:j<ks.length*8:=by rw[<-fM];exact(List.getElem?_eq_some_iff.1 hj).1
 obtain⟨i,r,hr,rfl⟩:∃i r,r<8/\j=i*8+r:=⟨j/8,j%8,Nat.mod_lt _ (by decide),by omega⟩;have hi:i<ks.length:=by omega
 obtain⟨k,hk⟩:∃k,ks[i]? =some k:=⟨_,List.getElem?_eq_getElem hi⟩;rw[lC ks i r k hk hr] at hj;have h:=hc i k hk;rcases Nat.eq_zero_or_pos r with rfl|hr0
 ·simp[aC.cs] at hj
  subst hj;exact h.c0
 ·have ea:y.add (i*8+r)=⟨(y.add (i*8)).block,(y.add (i*8)).off+r,none⟩:=by
   unfold Addr.add;rw[if_neg (by omega)];split<;>simp<;>omega
  rw[ea]
  match r,hr,hr0,hj with
  |1,_,_,hj=>simp[aC.cs] at hj;subst hj;exact h.c1
  |2,_,_,hj=>simp[aC.cs] at hj;subst hj;exact h.c2
  |3,_,_,hj=>simp[aC.cs] at hj;subst hj;exact h.c3
  |4,_,_,hj=>simp[aC.cs] at hj;subst hj;exact h.c4
  |5,_,_,hj=>simp[aC.cs] at hj;subst hj;exact h.c5
  |6,_,_,hj=>simp[aC.cs] at hj;subst hj;exact h.c6
  |7,_,_,hj=>simp[aC.cs] at hj;subst hj;exact h.c7
theorem Ad{ops:Array Oper}{rest:List Oper}{o:Oper}{a:Act}{Q:Exit->Act->World->Prop}(w:World)(hgd:o.guard=none)(s x:Operand)
  (ho:o.op=.call {callee:=.builtin .append,args:= #[s,x],argTypes:= #[26,26]}) (base:Nat) (v:Value) (ks:List aC) (hs:a.eval s=v) (hown:dQ w base v ks)
  (u:Value) (ys:List aC) (hx:a.eval x=u) (hu:jF w u ys) (hl:ks.length+ys.length<=100000000) (hbase:base<=w.heap.size)
  (h:∀v' w',dQ w' base v' (ks++ys)->w.grownBy w' v.ownBlock->(v'.ownBlock=v.ownBlock\/v'.ownBlock=some w.heap.size)->wpList Tryz.prog ops Q rest (a.put o.dst v') w'):
  wpList Tryz.prog ops Q (o::rest) a w:=by
 obtain⟨i0,hi,hz0,hz1,hz2⟩:=info_parts zS;obtain⟨ad,c,rfl,h1,h2,h3⟩:=hu;by_cases hn:ys=[]
 ·subst hn
  refine wpList_plain hgd λK hK=>?_
  have hrun:=fP (P:=Tryz.prog) (w:=w) base 26 o.type 74 i0 8 Tryz.underlying26 hi v ks.length _ hown ad c;have hx':a.eval x=slice ad 0 c:=hx;unfold Oper.wp;simp[execOp,ho,resolve,invoke,builtin,hs,hx',hrun,Result.andThen];exact hK _ _ (h v w (by simpa using hown) (World.grownBy.refl _ _) (.inl rfl))
 ·obtain⟨y,rfl,hy,hc⟩:=h3 hn
  refine wpList_append_lies w hgd s x 26 ho _ 74 i0 _ 8 64 Tryz.underlying26 hi hz0 hz1 hz2 rfl (by decide) v _ _ hs hown y _ c _ hx (fM ys) (MP hc) ?_ (List.length_pos_iff.2 hn) (by unfold maxLen;omega) (by omega) hbase _ rfl ?_
  ·intro u hu
   obtain⟨k,-,hk⟩:=List.mem_flatMap.1 hu;simp[aC.cs] at hk;rcases hk with rfl|rfl|rfl|rfl|rfl|rfl|rfl|rfl<;>rfl
  ·intro g cap w' k1 k2 k3 _
   refine h _ w' ?_ k2 ?_
   ·unfold dQ
    rw[List.length_append,List.flatMap_append];exact k1
   ·rcases k3 with k3|k3
    ·exact .inl k3.symm
    ·exact .inr (by rw[k3];rfl)
def Ub(w:World)(g:Nat)(ks:List aC)(rest:List Value):Prop:=w.heap[g]? =some (.cells (ks.flatMap aC.cs++rest).toArray 74 (0,0))
theorem Ub.lt{w:World}{g:Nat}{ks:List aC}{rest:List Value}(h:Ub w g ks rest):g<w.heap.size:=lt_of_block h
theorem Ub.thaw{w:World}{g:Nat}{ks:List aC}{rest:List Value}(h:Ub w g ks rest)(i:Nat):w.frozen? ⟨g,i,none⟩=false:=by
 unfold Ub at h;simp[World.frozen?,h]
theorem Ub.below{w w':World}{g B:Nat}{ks:List aC}{rest:List Value}(h:Ub w g ks rest)(hb:Below B w w')(hB:g<B):Ub w' g ks rest:=by
 unfold Ub at *;rw[hb.block g hB];exact h
theorem Ub.at_{w:World}{g:Nat}{ks:List aC}{rest:List Value}(h:Ub w g ks rest){i:Nat}{o:aC}(ho:ks[i]? =some o){j:Nat}(hj:j<8):w.cell? ⟨g,i*8+j,none⟩=o.cs[j]? :=by
 unfold Ub at h;have hi:=(List.getElem?_eq_some_iff.1 ho).1;simp only[World.cell?,h];have e:(ks.flatMap aC.cs++rest).toArray[i*8+j]? =o.cs[j]? :=by
  rw[List.getElem?_toArray,List.getElem?_append_left (by rw[fM];omega),lC ks i j o ho hj]
 simp only[e];simp
theorem Ub.kQ{w:World}{g:Nat}{ks:List aC}{rest:List Value}(h:Ub w g ks rest){i:Nat}{o:aC}(ho:ks[i]? =some o):dB w ⟨g,i*8,none⟩ o:=
 ⟨h.at_ ho (j:=0) (by decide),h.at_ ho (j:=1) (by decide),h.at_ ho (j:=2) (by decide),h.at_ ho (j:=3) (by decide),h.at_ ho (j:=4) (by decide),h.at_ ho (j:=5) (by decide),h.at_ ho (j:=6) (by decide),h.at_ ho (j:=7) (by decide)⟩
theorem qY:∀(ks:List aC) (i:Nat) (o:aC) (rest:List Value),i<ks.length->
  (ks.set i o).flatMap aC.cs++rest=((((((((ks.flatMap aC.cs++rest).set (i*8) (int i64 o.id)).set (i*8+1) (int i64 o.aA)).set (i*8+2) (int i64 o.kind)).set (i*8+3) (int i64 o.at_)).set (i*8+4) (int i64 o.life)).set (i*8+5) (int i64 o.load)).set (i*8+6) (int i64 o.task)).set (i*8+7) (int i64 o.goal)
 |[],i,o,rest,h=>by simp at h
 |k::ks,0,o,rest,_=>by
  simp[aC.cs]
 |k::ks,i+1,o,rest,h=>by
  have ih:=qY ks i o rest (by simpa using h);rw[show(i+1)*8=i*8+8 by omega,show i*8+8+1=i*8+1+8 by omega,show i*8+8+2=i*8+2+8 by omega,show i*8+8+3=i*8+3+8 by omega,show i*8+8+4=i*8+4+8 by omega,show i*8+8+5=i*8+5+8 by omega,show i*8+8+6=i*8+6+8 by omega,show i*8+8+7=i*8+7+8 by omega,List.set_cons_succ,List.flatMap_cons,List.append_assoc,ih,List.flatMap_cons];simp[aC.cs]
theorem Ub.put{w:World}{g:Nat}{ks:List aC}{rest:List Value}(h:Ub w g ks rest){i:Nat}(hi:i<ks.length)(o:aC):
  Ub ((((((((w.setCell ⟨g,i*8,none⟩ (int i64 o.id)).setCell ⟨g,i*8+1,none⟩ (int i64 o.aA)).setCell ⟨g,i*8+2,none⟩ (int i64 o.kind)).setCell ⟨g,i*8+3,none⟩ (int i64 o.at_)).setCell ⟨g,i*8+4,none⟩ (int i64 o.life)).setCell ⟨g,i*8+5,none⟩ (int i64 o.load)).setCell ⟨g,i*8+6,none⟩ (int i64 o.task)).setCell ⟨g,i*8+7,none⟩ (int i64 o.goal)) g (ks.set i o) rest:=by
 unfold Ub at *;have h0:=heap_setCell_same w g (i*8) _ _ (int i64 o.id) h;have h1:=heap_setCell_same _ g (i*8+1) _ _ (int i64 o.aA) h0;have h2:=heap_setCell_same _ g (i*8+2) _ _ (int i64 o.kind) h1;have h3:=heap_setCell_same _ g (i*8+3) _ _ (int i64 o.at_) h2;have h4:=heap_setCell_same _ g (i*8+4) _ _ (int i64 o.life) h3;have h5:=heap_setCell_same _ g (i*8+5) _ _ (int i64 o.load) h4;have h6:=heap_setCell_same _ g (i*8+6) _ _ (int i64 o.task) h5;have h7:=heap_setCell_same _ g (i*8+7) _ _ (int i64 o.goal) h6;rw[h7,qY ks i o rest hi];simp
theorem oN{B g:Nat}{w W:World}{i:Nat}(o:aC)(h:Below B w W)(hb:B<=g):Below B w ((((((((W.setCell ⟨g,i*8,none⟩ (int i64 o.id)).setCell ⟨g,i*8+1,none⟩ (int i64 o.aA)).setCell ⟨g,i*8+2,none⟩ (int i64 o.kind)).setCell ⟨g,i*8+3,none⟩ (int i64 o.at_)).setCell ⟨g,i*8+4,none⟩ (int i64 o.life)).setCell ⟨g,i*8+5,none⟩ (int i64 o.load)).setCell ⟨g,i*8+6,none⟩ (int i64 o.task)).setCell ⟨g,i*8+7,none⟩ (int i64 o.goal)):=
 (((((((h.setCell (p:=⟨g,i*8,none⟩) hb _).setCell (p:=⟨g,i*8+1,none⟩) hb _).setCell (p:=⟨g,i*8+2,none⟩) hb _).setCell (p:=⟨g,i*8+3,none⟩) hb _).setCell (p:=⟨g,i*8+4,none⟩) hb _).setCell (p:=⟨g,i*8+5,none⟩) hb _).setCell (p:=⟨g,i*8+6,none⟩) hb _).setCell (p:=⟨g,i*8+7,none⟩) hb _
theorem oO:∀(ks:List aC) (i:Nat) (o:aC) (a:Int) (rest:List Value),ks[i]? =some o->(ks.set i {o with at_:=a}).flatMap aC.cs++rest=(ks.flatMap aC.cs++rest).set (i*8+3) (int i64 a)
 |[],i,o,a,rest,h=>by simp at h
 |k::ks,0,o,a,rest,h=>by
  simp at h;subst h;simp[aC.cs]
 |k::ks,i+1,o,a,rest,h=>by
  have ih:=oO ks i o a rest (by simpa using h);rw[show(i+1)*8+3=i*8+3+8 by omega,List.set_cons_succ,List.flatMap_cons,List.append_assoc,ih,List.flatMap_cons];simp[aC.cs]
theorem Ub.BI{w:World}{g:Nat}{ks:List aC}{rest:List Value}(h:Ub w g ks rest){i:Nat}{o:aC}(ho:ks[i]? =some o)(a:Int):Ub (w.setCell ⟨g,i*8+3,none⟩ (int i64 a)) g (ks.set i {o with at_:=a}) rest:=by
 unfold Ub at *;have h0:=heap_setCell_same w g (i*8+3) _ _ (int i64 a) h;rw[h0,oO ks i o a rest ho];simp
theorem oP:∀(ks:List aC) (i:Nat) (o:aC) (a:Int) (rest:List Value),ks[i]? =some o->(ks.set i {o with life:=a}).flatMap aC.cs++rest=(ks.flatMap aC.cs++rest).set (i*8+4) (int i64 a)
 |[],i,o,a,rest,h=>by simp at h
 |k::ks,0,o,a,rest,h=>by
  simp at h;subst h;simp[aC.cs]
 |k::ks,i+1,o,a,rest,h=>by
  have ih:=oP ks i o a rest (by simpa using h);rw[show(i+1)*8+4=i*8+4+8 by omega,List.set_cons_succ,List.flatMap_cons,List.append_assoc,ih,List.flatMap_cons];simp[aC.cs]
theorem Ub.LH{w:World}{g:Nat}{ks:List aC}{rest:List Value}(h:Ub w g ks rest){i:Nat}{o:aC}(ho:ks[i]? =some o)(a:Int):Ub (w.setCell ⟨g,i*8+4,none⟩ (int i64 a)) g (ks.set i {o with life:=a}) rest:=by
 unfold Ub at *;have h0:=heap_setCell_same w g (i*8+4) _ _ (int i64 a) h;rw[h0,oP ks i o a rest ho];simp
theorem oQ:∀(ks:List aC) (i:Nat) (o:aC) (a:Int) (rest:List Value),ks[i]? =some o->(ks.set i {o with load:=a}).flatMap aC.cs++rest=(ks.flatMap aC.cs++rest).set (i*8+5) (int i64 a)
 |[],i,o,a,rest,h=>by simp at h
 |k::ks,0,o,a,rest,h=>by
  simp at h;subst h;simp[aC.cs]
 |k::ks,i+1,o,a,rest,h=>by
  have ih:=oQ ks i o a rest (by simpa using h);rw[show(i+1)*8+5=i*8+5+8 by omega,List.set_cons_succ,List.flatMap_cons,List.append_assoc,ih,List.flatMap_cons];simp[aC.cs]
theorem Ub.Gj{w:World}{g:Nat}{ks:List aC}{rest:List Value}(h:Ub w g ks rest){i:Nat}{o:aC}(ho:ks[i]? =some o)(a:Int):Ub (w.setCell ⟨g,i*8+5,none⟩ (int i64 a)) g (ks.set i {o with load:=a}) rest:=by
 unfold Ub at *;have h0:=heap_setCell_same w g (i*8+5) _ _ (int i64 a) h;rw[h0,oQ ks i o a rest ho];simp
theorem oU:∀(ks:List aC) (i:Nat) (o:aC) (a:Int) (rest:List Value),ks[i]? =some o->(ks.set i {o with task:=a}).flatMap aC.cs++rest=(ks.flatMap aC.cs++rest).set (i*8+6) (int i64 a)
 |[],i,o,a,rest,h=>by simp at h
 |k::ks,0,o,a,rest,h=>by
  simp at h;subst h;simp[aC.cs]
 |k::ks,i+1,o,a,rest,h=>by
  have ih:=oU ks i o a rest (by simpa using h);rw[show(i+1)*8+6=i*8+6+8 by omega,List.set_cons_succ,List.flatMap_cons,List.append_assoc,ih,List.flatMap_cons];simp[aC.cs]
theorem Ub.Gm{w:World}{g:Nat}{ks:List aC}{rest:List Value}(h:Ub w g ks rest){i:Nat}{o:aC}(ho:ks[i]? =some o)(a:Int):Ub (w.setCell ⟨g,i*8+6,none⟩ (int i64 a)) g (ks.set i {o with task:=a}) rest:=by
 unfold Ub at *;have h0:=heap_setCell_same w g (i*8+6) _ _ (int i64 a) h;rw[h0,oU ks i o a rest ho];simp
theorem oV:∀(ks:List aC) (i:Nat) (o:aC) (a:Int) (rest:List Value),ks[i]? =some o->(ks.set i {o with goal:=a}).flatMap aC.cs++rest=(ks.flatMap aC.cs++rest).set (i*8+7) (int i64 a)
 |[],i,o,a,rest,h=>by simp at h
 |k::ks,0,o,a,rest,h=>by
  simp at h;subst h;simp[aC.cs]
 |k::ks,i+1,o,a,rest,h=>by
  have ih:=oV ks i o a rest (by simpa using h);rw[show(i+1)*8+7=i*8+7+8 by omega,List.set_cons_succ,List.flatMap_cons,List.append_assoc,ih,List.flatMap_cons];simp[aC.cs]
theorem Ub.wS{w:World}{g:Nat}{ks:List aC}{rest:List Value}(h:Ub w g ks rest){i:Nat}{o:aC}(ho:ks[i]? =some o)(a:Int):Ub (w.setCell ⟨g,i*8+7,none⟩ (int i64 a)) g (ks.set i {o with goal:=a}) rest:=by
 unfold Ub at *;have h0:=heap_setCell_same w g (i*8+7) _ _ (int i64 a) h;rw[h0,oV ks i o a rest ho];simp
theorem dQ.ub{w:World}{base:Nat}{v:Value}{ks:List aC}(h:dQ w base v ks):(v=slice none 0 0/\ks=[])\/∃g cap rest,v=slice (some ⟨g,0,none⟩) ks.length cap/\base<=g/\ks.length<=cap/\cap<=maxLen/\ks.length*8+rest.length=cap*8/\Ub w g ks rest:=by
 rcases h.2 with⟨h1,h2⟩|⟨g,cap,cur,h1,h2,h3,h4,h5,h6,h7⟩
 ·exact .inl ⟨h1,List.length_eq_zero_iff.1 h2⟩
 ·refine .inr ⟨g,cap,cur.toList.drop (ks.length*8),h1,h2,h4,h5,?_,?_⟩
  ·have e6:cur.toList.length=cap*8:=by simpa using h6
   rw[List.length_drop,e6];have:ks.length*8<=cap*8:=Nat.mul_le_mul_right _ h4;omega
  ·unfold Ub
   rw[<-h7,List.take_append_drop,Array.toArray_toList];exact h3
theorem Ub.Ql{w:World}{base g cap:Nat}{ks:List aC}{rest:List Value}(h:Ub w g ks rest)(hb:base<=g)(h1:ks.length<=cap)(h2:cap<=maxLen)(h3:ks.length*8+rest.length=cap*8):dQ w base (slice (some ⟨g,0,none⟩) ks.length cap) ks:=by
 refine⟨fM ks,.inr ⟨g,cap,_,rfl,hb,h,h1,h2,?_,?_⟩⟩
 ·simp only[List.size_toArray,List.length_append,fM];omega
 ·show(ks.flatMap aC.cs++rest).take (ks.length*8)=_
  rw[List.take_append_of_le_length (by rw[fM];exact Nat.le_refl _),List.take_of_length_le (by rw[fM];exact Nat.le_refl _)]
theorem Ub.take{w:World}{g:Nat}{ks:List aC}{rest:List Value}(h:Ub w g ks rest)(m:Nat):Ub w g (ks.take m) ((ks.drop m).flatMap aC.cs++rest):=by
 unfold Ub at *;rw[<-List.append_assoc,<-List.flatMap_append,List.take_append_drop];exact h
theorem oW{w:World}{z:Nat}(y:aC)(hz:w.heap.size=z):Ub (w.alloc (Obj.cells #[int i64 y.id,int i64 y.aA,int i64 y.kind,int i64 y.at_,int i64 y.life,int i64 y.load,int i64 y.task,int i64 y.goal] 74)) z [y] []:=by
 subst hz;exact heap_alloc_new _ _
theorem Ih{a b:Int}(h:a=b):Ending.returned (int i64 a)=Ending.returned (int i64 b):=by rw[h]
theorem CG(vk vw:Value)(ks:List KV)(Y:WV)(u:aC)(kn an:Nat)(k:KV)(x:Int)(w:World)(hk:Kl w vk ks)(hw:Wl w vw Y)(hkn:u.kind=kn)(hkk:ks[kn]? =some k)(han:u.at_=an)(hx:Y.os[an]? =some x)
  (l1:0<=u.load) (l2:u.load<=1000) (l3:0<=k.n7) (l4:k.n7<=1000) (l5:0<=x/\x<=1000000):
  Calls Tryz.prog 158 #[vk,vw,u.val] w λe w'=>e=.returned (int i64 (bI ks Y u))/\Below w.heap.size w w':=by
 have K:=aj (hk);have H:=aj (hw);have NN:=aj (jD hkn hkk han hx);have EY:=aj (oM hkn hkk han hx);have hkl:=(List.getElem?_eq_some_iff.1 hkk).1;have hal:=(List.getElem?_eq_some_iff.1 hx).1;have hki:((kn:Nat):Int)<(ks.length:Nat):=by omega
 have hai:((an:Nat):Int)<(Y.os.length:Nat):=by omega
 obtain⟨p1,q1,p2,q2,p3,q3,p4,q4,p5,q5,rfl⟩:=aV hw;obtain⟨pk,qk,rfl,ck1,ck2,kc⟩:=hk;obtain⟨xk,rfl,vH,hxk⟩:=kc (by rintro hn;rw[hn] at hkl;simp at hkl);have KC:Hid (xk.block<w.heap.size/\Kc w (xk.add (kn*11)) k):=⟨vH,hxk kn k hkk⟩;obtain⟨xo,rfl,hxo⟩:∃xo,p2=some xo/\xo.block<w.heap.size/\w.cell? (xo.add an)=some (int i64 x):=by
  obtain⟨k1,k2,k3,k4,k5,ev,r1,r2,r3,hu,r5⟩:=hw;have e9:k2=slice p2 Y.os.length q2:=by simp only[Value.agg.injEq,Array.mk.injEq,List.cons.injEq] at ev;exact ev.2.2.2.2.2.1.symm
  subst e9;obtain⟨a',c',e',-,-,hz⟩:=r2;injection e' with e1' e2' e3'
  subst e1';obtain⟨y,e,h1,h2⟩:=hz (by rintro hn;rw[hn] at hal;simp at hal);exact⟨y,e,h1,h2 an x hx⟩
 have XO:=aj (hxo);clear hw hxo hkn hkk han hx kc hxk vH;unfold aC.val;go_enter Tryz.func158,Tryz.ntmps158;go_upto_region 1 with fail
 have BA:Hid (Below _ w (w.alloc (Obj.cells #[int i64 Y.turn,int i64 Y.next,int i64 Y.wide,int i64 Y.high,slice p1 Y.gs.length q1,slice (some xo) Y.os.length q2,slice p3 Y.gold.length q3,slice p4 Y.us.length q4,slice p5 Y.qs.length q5] 29))):=(Below.refl _ _).alloc (Nat.le_refl _) _;have X0:Hid (Bw _ w.heap.size Y (slice p1 Y.gs.length q1) (slice (some xo) Y.os.length q2) (slice p3 Y.gold.length q3) (slice p4 Y.us.length q4) (slice p5 Y.qs.length q5)):=Bw.mk' Y _ _ _ _ _ rfl;have U0:Hid (Ub ((w.alloc (Obj.cells #[int i64 Y.turn,int i64 Y.next,int i64 Y.wide,int i64 Y.high,slice p1 Y.gs.length q1,slice (some xo) Y.os.length q2,slice p3 Y.gold.length q3,slice p4 Y.us.length q4,slice p5 Y.qs.length q5] 29)).alloc (Obj.cells #[int i64 u.id,int i64 u.aA,int i64 u.kind,int i64 u.at_,int i64 u.life,int i64 u.load,int i64 u.task,int i64 u.goal] 74)) (w.heap.size+1) [u] []):=oW u (by simp);have B1:Hid (Below w.heap.size w ((w.alloc (Obj.cells #[int i64 Y.turn,int i64 Y.next,int i64 Y.wide,int i64 Y.high,slice p1 Y.gs.length q1,slice (some xo) Y.os.length q2,slice p3 Y.gold.length q3,slice p4 Y.us.length q4,slice p5 Y.qs.length q5] 29)).alloc (Obj.cells #[int i64 u.id,int i64 u.aA,int i64 u.kind,int i64 u.at_,int i64 u.life,int i64 u.load,int i64 u.task,int i64 u.goal] 74))):=BA.out.alloc (by simp) _;have X1:Hid (Bw ((w.alloc _).alloc (Obj.cells #[int i64 u.id,int i64 u.aA,int i64 u.kind,int i64 u.at_,int i64 u.life,int i64 u.load,int i64 u.task,int i64 u.goal] 74)) _ Y _ _ _ _ _):=X0.out.below ((Below.refl _ _).alloc (Nat.le_refl _) _) X0.out.lt;generalize ((w.alloc _).alloc _)=w1 at *;clear BA X0;have kc1:=KC.out.2.below B1.out (by rw[add_block];exact KC.out.1);have k8:=kc1.c8;have co:w1.cell? (xo.add an)=some (int i64 x):=by rw[B1.out.cell (by rw[add_block];exact XO.out.1)];exact XO.out.2
 obtain⟨x0,x1,x2,x3,x4,x5,x6,x7,x8⟩:=X1.out;obtain⟨y0,y1,y2,y3,y4,y5,y6,y7⟩:=U0.out.kQ (i:=0) (o:=u) rfl;simp only[Nat.zero_mul,Nat.zero_add] at y0 y1 y2 y3 y4 y5 y6 y7;rw[NN.out.1] at y2;by_cases h2:u.task=2
 ·rw[h2] at y6
  by_cases hg:u.at_=u.goal
  ·have E:Hid (bI ks Y u=min (min (k.n7-u.load) x) 10):=by unfold Hid;rw[EY.out,if_pos ⟨h2,hg⟩]
   rw[<-hg,NN.out.2.2.1] at y7;rw[NN.out.2.2.1] at y3;have wr:IntKind.i64.wrap (k.n7-u.load)=k.n7-u.load:=by rw[IntKind.wrap_i64];omega
   clear h2 hg;go_upto_region 3 with fail
   go_region
   all_goals (try go_wp2)
   all_goals go_ret
   all_goals refine⟨?_,⟨B1.out.os,B1.out.tape,B1.out.output,B1.out.size,B1.out.block⟩⟩
   all_goals (rw[E.out];exact Ih (by omega))
  ·have E:Hid (bI ks Y u=0):=by unfold Hid;rw[EY.out,if_neg (λh=>hg h.2)]
   clear h2;go_wp2;go_ret;exact⟨by rw[E.out];rfl,⟨B1.out.os,B1.out.tape,B1.out.output,B1.out.size,B1.out.block⟩⟩
 ·have E:Hid (bI ks Y u=0):=by unfold Hid;rw[EY.out,if_neg (λh=>h2 h.1)]
  go_wp2;go_ret;exact⟨by rw[E.out];rfl,⟨B1.out.os,B1.out.tape,B1.out.output,B1.out.size,B1.out.block⟩⟩
structure Fr(S:Nat->Prop)(w w':World):Prop where
 os:w'.os=w.os
 tape:w'.tape=w.tape
 output:w'.output=w.output
 size:w.heap.size<=w'.heap.size
 block:∀k,k<w.heap.size->¬S k->w'.heap[k]? =w.heap[k]?
theorem Fr.below{S:Nat->Prop}{w w':World}(h:Below w.heap.size w w'):Fr S w w':=⟨h.os,h.tape,h.output,h.size,λk hk _=>h.block k hk⟩
theorem Fr.kp{S:Nat->Prop}{w w':World}{z:Nat}(h:Kp z w w')(hz:S z):Fr S w w':=⟨h.os,h.tape,h.output,h.size,λk hk hn=>h.block k hk (λe=>hn (e▸hz))⟩
theorem Fr.gb{S:Nat->Prop}{w w':World}{r:Option Nat}(h:w.grownBy w' r)(hr:∀k,r=some k->S k):Fr S w w':=⟨h.os,h.tape,h.output,h.size,λk hk hn=>h.block k hk (λe=>hn (hr k e.symm))⟩
theorem Fr.trans{S:Nat->Prop}{a b c:World}(h:Fr S a b)(k:Fr S b c):Fr S a c:=
 ⟨k.os.trans h.os,k.tape.trans h.tape,k.output.trans h.output,Nat.le_trans h.size k.size,λi hi hn=>(k.block i (Nat.lt_of_lt_of_le hi h.size) hn).trans (h.block i hi hn)⟩
theorem Fr.mono{S T:Nat->Prop}{a b:World}(h:Fr S a b)(hs:∀k,S k->T k):Fr T a b:=⟨h.os,h.tape,h.output,h.size,λk hk hn=>h.block k hk (λe=>hn (hs k e))⟩
theorem Fr.low{S:Nat->Prop}{w w':World}{n:Nat}(h:Fr S w w')(hn:n<=w.heap.size)(hs:∀k,S k->n<=k):Below n w w':=⟨h.os,h.tape,h.output,h.size,λk hk=>h.block k (by omega) (λe=>by have:=hs k e;omega)⟩
theorem Fr.own{S:Nat->Prop}{w w':World}{base:Nat}{T:TypeId}{size:Nat}{u:Value}{n:Nat}{cs:List Value}(f:Fr S w w')(h:w.ownsRow base T size u n cs)(hn:∀b,u.ownBlock=some b->¬S b):w'.ownsRow base T size u n cs:=by
 refine⟨h.1,?_⟩;rcases h.2 with h1|⟨g,cap,cur,h1,h2,h3,h4⟩
 ·exact .inl h1
 ·exact .inr ⟨g,cap,cur,h1,h2,(f.block g (lt_of_block h3) (hn g (by rw[h1];rfl))).trans h3,h4⟩
theorem Fr.cell{S:Nat->Prop}{w w':World}{p:Addr}{u:Value}(f:Fr S w w')(h:w.cell? p=some u)(hn:¬S p.block):w'.cell? p=some u:=by
 have hl:=cell_lt h;have e:=f.block p.block hl hn;unfold World.cell? at h ⊢;rw[e];exact h
theorem dL{w:World}{b1 b2:Nat}{T S:TypeId}{s1 s2:Nat}{u v:Value}{n m:Nat}{cs ds:List Value}(h:w.ownsRow b1 T s1 u n cs)(k:w.ownsRow b2 S s2 v m ds)(hT:T≠S):∀b,u.ownBlock=some b->¬v.ownBlock=some b:=by
 intro b hb hv;rcases h.2 with⟨h1,-⟩|⟨g,cap,cur,h1,-,h3,-⟩
 ·rw[h1] at hb;cases hb
 ·rcases k.2 with⟨k1,-⟩|⟨g',cap',cur',k1,-,k3,-⟩
  ·rw[k1] at hv;cases hv
  ·rw[h1] at hb
   rw[k1] at hv;simp[Value.ownBlock] at hb hv;subst hb;subst hv;rw[h3] at k3;injection k3 with k3
   injection k3 with _ k4
   exact hT k4
theorem Ii{a b:World}{r:Option Nat}(h:Below a.heap.size a b):a.grownBy b r:=⟨h.os,h.tape,h.output,h.size,λk hk _=>h.block k hk⟩
theorem ny{a b:World}{z:Nat}(h:Kp z a b):a.grownBy b (some z):=⟨h.os,h.tape,h.output,h.size,λk hk hn=>h.block k hk (λe=>hn (by rw[e]))⟩
theorem Ae{z:Nat}{a b c:World}{r:Option Nat}(h:Kp z a b)(g:b.grownBy c r)(hr:∀k,r=some k->a.heap.size<=k):Kp z a c:=
 ⟨g.os.trans h.os,g.tape.trans h.tape,g.output.trans h.output,Nat.le_trans h.size g.size,λi hi hz=>(g.block i (Nat.lt_of_lt_of_le hi h.size) (λe=>by have:=hr i e.symm;omega)).trans (h.block i hi hz)⟩
theorem aS{w w':World}{z:Nat}{p:Addr}{u:Value}(h:w.cell? p=some u)(k:Kp z w w')(hz:p.block≠z):w'.cell? p=some u:=by
 rw[World.cell?_of_block (k.block p.block (cell_lt h) hz)];exact h
theorem Bw.kp9{w w':World}{z y:Nat}{W:WV}{u1 u2 u3 u4 u5:Value}(h:Bw w z W u1 u2 u3 u4 u5)(k:Kp y w w')(hn:z≠y):Bw w' z W u1 u2 u3 u4 u5:=
 ⟨aS h.c0 k hn,aS h.c1 k hn,aS h.c2 k hn,aS h.c3 k hn,aS h.c4 k hn,aS h.c5 k hn,aS h.c6 k hn,aS h.c7 k hn,aS h.c8 k hn⟩
theorem dB.kp9{w w':World}{z:Nat}{y:Addr}{u:aC}(h:dB w y u)(k:Kp z w w')(hn:y.block≠z):dB w' y u:=
 ⟨aS h.c0 k hn,aS h.c1 k hn,aS h.c2 k hn,aS h.c3 k hn,aS h.c4 k hn,aS h.c5 k hn,aS h.c6 k hn,aS h.c7 k hn⟩
theorem iK{w w':World}{r:Option Nat}{p:Addr}{u:Value}(h:w.cell? p=some u)(k:w.grownBy w' r)(hz:r≠some p.block):w'.cell? p=some u:=by
 rw[World.cell?_of_block (k.block p.block (cell_lt h) (λe=>hz e.symm))];exact h
theorem dB.gb{w w':World}{r:Option Nat}{y:Addr}{u:aC}(h:dB w y u)(k:w.grownBy w' r)(hn:r≠some y.block):dB w' y u:=
 ⟨iK h.c0 k hn,iK h.c1 k hn,iK h.c2 k hn,iK h.c3 k hn,iK h.c4 k hn,iK h.c5 k hn,iK h.c6 k hn,iK h.c7 k hn⟩
theorem Tz{w:World}{z:Nat}{X:WV}{u1 u2 u3 u4 u5:Value}(h:Wx w z (int i64 X.turn) (int i64 X.next) (int i64 X.wide) (int i64 X.high) u1 u2 u3 u4 u5):Bw w z X u1 u2 u3 u4 u5:=by
 obtain⟨h0,h1,h2,h3,h4,h5,h6,h7,h8⟩:=h.cells;exact⟨h0,h1,h2,h3,h4,h5,h6,h7,h8⟩
theorem jZ{w w':World}{B base:Nat}{T:TypeId}{size:Nat}{u:Value}{n:Nat}{cs:List Value}(h:w.ownsRow base T size u n cs)(k:Below B w w')(hz:∀b,u.ownBlock=some b->b<B):w'.ownsRow base T size u n cs:=by
 refine⟨h.1,?_⟩;rcases h.2 with h1|⟨g,cap,cur,h1,h2,h3,h4⟩
 ·exact .inl h1
 ·exact .inr ⟨g,cap,cur,h1,h2,(k.block g (hz g (by rw[h1];rfl))).trans h3,h4⟩
theorem bK{w w':World}{base:Nat}{T:TypeId}{size:Nat}{u:Value}{n:Nat}{cs:List Value}{r:Option Nat}(h:w.ownsRow base T size u n cs)(k:w.grownBy w' r)(hz:∀b,u.ownBlock=some b->r≠some b):w'.ownsRow base T size u n cs:=by
 refine⟨h.1,?_⟩;rcases h.2 with h1|⟨g,cap,cur,h1,h2,h3,h4⟩
 ·exact .inl h1
 ·exact .inr ⟨g,cap,cur,h1,h2,(k.block g (lt_of_block h3) (λe=>hz g (by rw[h1];rfl) e.symm)).trans h3,h4⟩
theorem lK{w:World}{z:Nat}(k:KV)(hz:w.heap.size=z):Kc (w.alloc (Obj.cells #[.string k.b,int i64 k.n0,int i64 k.n1,int i64 k.n2,int i64 k.n3,int i64 k.n4,int i64 k.n5,int i64 k.n6,int i64 k.n7,.bool k.f,.bool k.t] 77)) ⟨z,0,none⟩ k:=by
 subst hz;exact⟨by simp,by simp,by simp,by simp,by simp,by simp,by simp,by simp,by simp,by simp,by simp⟩
theorem Kc.kp9{w w':World}{z:Nat}{y:Addr}{k:KV}(h:Kc w y k)(q:Kp z w w')(hn:y.block≠z):Kc w' y k:=
 ⟨aS h.c0 q hn,aS h.c1 q hn,aS h.c2 q hn,aS h.c3 q hn,aS h.c4 q hn,aS h.c5 q hn,aS h.c6 q hn,aS h.c7 q hn,aS h.c8 q hn,aS h.c9 q hn,aS h.c10 q hn⟩
theorem Fr.wx{S:Nat->Prop}{w w':World}{z:Nat}{c0 c1 c2 c3 c4 c5 c6 c7 c8:Value}(f:Fr S w w')(h:Wx w z c0 c1 c2 c3 c4 c5 c6 c7 c8)(hn:¬S z):Wx w' z c0 c1 c2 c3 c4 c5 c6 c7 c8:=(f.block z h.lt hn).trans h
theorem Ow.bk{w:World}{base:Nat}{v:Value}{xs:List Int}(h:Ow w base v xs):(v=slice none 0 0/\xs=[])\/∃g cap rest,v=slice (some ⟨g,0,none⟩) xs.length cap/\base<=g/\xs.length<=cap/\cap<=maxLen/\xs.length+rest.size=cap/\Bk w g xs rest:=by
 rcases h.2 with⟨h1,h2⟩|⟨g,cap,cur,h1,h2,h3,h4,h5,h6,h7⟩
 ·exact .inl ⟨h1,List.length_eq_zero_iff.1 h2⟩
 ·have e6:cur.toList.length=cap:=by simpa using h6
  refine .inr ⟨g,cap,(cur.toList.drop xs.length).toArray,h1,h2,h4,h5,?_,?_⟩
  ·simp only[List.size_toArray,List.length_drop,e6];omega
  ·have e:cur=(intCells xs).toArray++(cur.toList.drop xs.length).toArray:=by
    apply Array.ext';rw[Nat.mul_one] at h7;have h8:cur.toList.take _=intCells xs:=h7;rw[Array.toList_append];show cur.toList=intCells xs++cur.toList.drop xs.length;rw[<-h8,List.take_append_drop]
   unfold Bk;rw[h3,<-e]
theorem Bk.ow{w:World}{base g cap:Nat}{xs:List Int}{rest:Array Value}(h:Bk w g xs rest)(hb:base<=g)(h1:xs.length<=cap)(h2:cap<=maxLen)(h3:xs.length+rest.size=cap):Ow w base (slice (some ⟨g,0,none⟩) xs.length cap) xs:=by
 refine⟨by simp,.inr ⟨g,cap,_,rfl,hb,h,h1,h2,?_,?_⟩⟩
 ·simp[intCells];omega
 ·simp[intCells]
theorem sS:(Tryz.prog.info? 169).map (λi=>(i.zero,i.size,i.bytes))=some (some (.agg #[int i64 0,int i64 0,int i64 0]),3,24):=by kernel_rfl
def bM.cs(k:bM):List Value:=[int i64 k.what,int i64 k.unit,int i64 k.arg]
theorem sU:∀(ks:List bM) (i j:Nat) (k:bM),ks[i]? =some k->j<3->(ks.flatMap bM.cs)[i*3+j]? =k.cs[j]?
 |[],i,j,k,h,_=>by simp at h
 |x::ks,0,j,k,h,hj=>by
  simp at h;subst h;rw[List.flatMap_cons,List.getElem?_append_left (by simp[bM.cs];omega)];simp
 |x::ks,i+1,j,k,h,hj=>by
  rw[List.flatMap_cons,List.getElem?_append_right (by simp[bM.cs];omega)];have:(i+1)*3+j-(bM.cs x).length=i*3+j:=by simp[bM.cs];omega
  rw[this];exact sU ks i j k (by simpa using h) hj
def dY(w:World)(base:Nat)(v:Value)(ks:List bM):Prop:=w.ownsRow base 169 3 v ks.length (ks.flatMap bM.cs)
theorem dY.nil(w:World)(base:Nat):dY w base (slice none 0 0) []:=World.ownsRow_nil _ _ _ _
theorem dY.below{w w':World}{base:Nat}{v:Value}{ks:List bM}(h:dY w base v ks)(hb:Below w.heap.size w w'):dY w' base v ks:=
 World.ownsRow.kept h (row:=none) ⟨hb.os,hb.tape,hb.output,hb.size,λk hk _=>hb.block k hk⟩ (by cases v.ownBlock<;>simp)
theorem dY.kept{w w':World}{base:Nat}{v:Value}{ks:List bM}{row:Option Nat}(h:dY w base v ks)(hg:w.grownBy w' row)(hne:v.ownBlock=none\/v.ownBlock≠row):dY w' base v ks:=World.ownsRow.kept h hg hne
theorem dY.alloc{w:World}{base:Nat}{v:Value}{ks:List bM}(h:dY w base v ks)(o:Obj):dY (w.alloc o) base v ks:=World.ownsRow.alloc h o
theorem dY.block{w:World}{base:Nat}{v:Value}{ks:List bM}(h:dY w base v ks):∀k,v.ownBlock=some k->base<=k/\k<w.heap.size:=World.ownsRow.lt h
theorem dY.mono{w:World}{base base':Nat}{v:Value}{ks:List bM}(h:dY w base v ks)(hb:base'<=base):dY w base' v ks:=by
 refine⟨h.1,?_⟩;rcases h.2 with h1|⟨g,cap,cur,h1,h2,h3⟩
 ·exact .inl h1
 ·exact .inr ⟨g,cap,cur,h1,Nat.le_trans hb h2,h3⟩
theorem dY.l{w:World}{base:Nat}{v:Value}{ks:List bM}(h:dY w base v ks):RY w v ks:=by
 rcases h.2 with⟨hv,h0⟩|⟨g,cap,cur,hv,hb,hg,h1,h2,h3,h4⟩
 ·exact⟨none,0,by rw[hv,h0],by omega,by omega,λhn=>absurd (List.length_eq_zero_iff.1 h0) hn⟩
 ·refine⟨_,cap,hv,h1,by unfold maxLen at h2;omega,λ_=>⟨_,rfl,lt_of_block hg,λi k hi=>?_⟩⟩
  have hil:=(List.getElem?_eq_some_iff.1 hi).1;have h5:w.ownsRow base 169 3 (slice (some ⟨g,0,none⟩) ks.length cap) ks.length (ks.flatMap bM.cs):=by rw[<-hv];exact h
  have hc:∀j u,j<3->k.cs[j]? =some u->w.cell? ⟨g,i*3+j,none⟩=some u:=λj u hj hu=>by
   rw[h5.cellAt (i*3+j) (by omega),sU ks i j k hi hj,hu]
  rw[Addr.add_lit,Nat.zero_add];exact⟨hc 0 _ (by decide) rfl,hc 1 _ (by decide) rfl,hc 2 _ (by decide) rfl⟩
theorem dY.len{w:World}{base:Nat}{v:Value}{ks:List bM}(h:dY w base v ks):∃a c,v=slice a ks.length c:=by
 obtain⟨a,c,h1,-⟩:=h.l;exact⟨a,c,h1⟩
theorem sV{ops:Array Oper}{rest:List Oper}{o:Oper}{a:Act}{Q:Exit->Act->World->Prop}(w:World)(hgd:o.guard=none)(s x:Operand)
  (ho:o.op=.call {callee:=.builtin .append,args:= #[s,x],argTypes:= #[58,58]}) (base:Nat) (v:Value) (ks:List bM) (hs:a.eval s=v) (hown:dY w base v ks)
  (b:Nat) (d:bM) (hx:a.eval x=slice (some ⟨b,0,none⟩) 1 1) (hd:oK w ⟨b,0,none⟩ d) (hl:ks.length<=1000000) (hbase:base<=w.heap.size)
  (h:∀g cap w',dY w' base (slice (some ⟨g,0,none⟩) (ks.length+1) cap) (ks++[d])->w.grownBy w' v.ownBlock->(v.ownBlock=some g\/g=w.heap.size)->g<w'.heap.size->wpList Tryz.prog ops Q rest (a.put o.dst (slice (some ⟨g,0,none⟩) (ks.length+1) cap)) w'):
  wpList Tryz.prog ops Q (o::rest) a w:=by
 obtain⟨i0,hi,hz0,hz1,hz2⟩:=info_parts sS;refine wpList_append_lies w hgd s x 58 ho _ 169 i0 _ 3 24 Tryz.underlying58 hi hz0 hz1 hz2 rfl (by decide) v _ _ hs hown _ 1 1 d.cs hx rfl ?_ ?_ (by decide) (by unfold maxLen;omega) (by omega) hbase _ rfl ?_
 ·intro j u hj
  have hjn:j<3:=(List.getElem?_eq_some_iff.1 hj).1;rw[Addr.add_lit,Nat.zero_add]
  match j,hjn,hj with
  |0,_,hj=>simp[bM.cs] at hj;subst hj;exact hd.c0
  |1,_,hj=>simp[bM.cs] at hj;subst hj;exact hd.c1
  |2,_,hj=>simp[bM.cs] at hj;subst hj;exact hd.c2
 ·intro u hu
  simp[bM.cs] at hu;rcases hu with rfl|rfl|rfl<;>rfl
 ·intro g cap w' h1 h2 h3 h4
  refine h g _ w' ?_ h2 h3 h4;unfold dY;rw[List.length_append,List.flatMap_append];simpa using h1
structure xI(ks:List KV)(Y Z:WV)(es:List bM)(b1 b:Nat)(w:World)(u1 u2 u3 u4 u5 ev:Value)(V:World):Prop where
 o1:Ow V b1 u1 Z.gs
 o2:Ow V b1 u2 Z.os
 o3:Ow V b1 u3 Z.gold
 o4:dQ V b1 u4 Z.us
 o5:dK V b1 u5 Z.qs
 e:dY V b ev es
 d:[u1,u2,u3,u4,u5].Pairwise dP
 fr:Fr (λq=>u2.ownBlock=some q\/u4.ownBlock=some q) w V
 k:VJ Y Z
 f:ji ks Z
section
variable {ks:List KV} {Y Z:WV} {es:List bM} {b1 b:Nat} {w:World} {u1 u2 u3 u4 u5 ev:Value} {V V':World}
theorem xI.below(h:xI ks Y Z es b1 b w u1 u2 u3 u4 u5 ev V)(hb:Below V.heap.size V V'):xI ks Y Z es b1 b w u1 u2 u3 u4 u5 ev V':=
 ⟨h.o1.below hb,h.o2.below hb,h.o3.below hb,h.o4.below hb,h.o5.below hb,h.e.below hb,h.d,h.fr.trans (Fr.below hb),h.k,h.f⟩
theorem xI.wl(h:xI ks Y Z es b1 b w u1 u2 u3 u4 u5 ev V):Wl V (.agg #[int i64 Y.turn,int i64 Y.next,int i64 Y.wide,int i64 Y.high,u1,u2,u3,u4,u5]) Z:=by
 obtain⟨a1,a2,a3,a4,-⟩:=h.k;exact⟨u1,u2,u3,u4,u5,by rw[a1,a2,a3,a4],h.o1.ro,h.o2.ro,h.o3.ro,h.o4.l,h.o5.l⟩
theorem xI.qF(h:xI ks Y Z es b1 b w u1 u2 u3 u4 u5 ev V):(dP u1 u2/\dP u1 u3/\dP u1 u4/\dP u1 u5)/\(dP u2 u3/\dP u2 u4/\dP u2 u5)/\(dP u3 u4/\dP u3 u5)/\dP u4 u5:=by
 have:=h.d;simp only[List.pairwise_cons,List.mem_cons,List.not_mem_nil,or_false,forall_eq_or_imp,forall_eq] at this;obtain⟨⟨a1,a2,a3,a4⟩,⟨b1,b2,b3⟩,⟨c1,c2⟩,d1,-⟩:=this;exact⟨⟨a1,a2,a3,a4⟩,⟨b1,b2,b3⟩,⟨c1,c2⟩,d1⟩
theorem xI.take{gu gs cu co i:Nat}{ur:List Value}{sr:Array Value}{u:aC}{ev':Value}(h:xI ks Y Z es b1 b w u1 (slice (some ⟨gs,0,none⟩) Y.os.length co) u3 (slice (some ⟨gu,0,none⟩) Y.us.length cu) u5 ev V)(hwb:w.heap.size=b)
  (hl:∀x∈[u1,u3,u5],∀k,x.ownBlock=some k->k<b) (hgu:b1<=gu) (c1:Y.us.length<=cu) (c2:cu<=maxLen) (c3:Y.us.length*8+ur.length=cu*8) (hgs:b1<=gs) (d1:Y.os.length<=co) (d2:co<=maxLen) (d3:Y.os.length+sr.size=co)
  (hu:Z.us[i]? =some u) (hy:0<bI ks Z u) (hub:Ub V' gu (fD Z i u (bI ks Z u)).us ur) (hbk:Bk V' gs (fD Z i u (bI ks Z u)).os sr) (he:dY V' b ev' (es++[⟨4,u.id,bI ks Z u⟩])) (hf:Fr (λq=>q=gu\/q=gs\/ev.ownBlock=some q) V V'):
  xI ks Y (fD Z i u (bI ks Z u)) (es++[⟨4,u.id,bI ks Z u⟩]) b1 b w u1 (slice (some ⟨gs,0,none⟩) Y.os.length co) u3 (slice (some ⟨gu,0,none⟩) Y.us.length cu) u5 ev' V':=by
 obtain⟨⟨d12,d13,d14,d15⟩,⟨d23,d24,d25⟩,⟨d34,d35⟩,d45⟩:=h.qF;have TB:(slice (some ⟨gu,0,none⟩) Y.us.length cu).ownBlock=some gu:=rfl;have ows:(slice (some ⟨gs,0,none⟩) Y.os.length co).ownBlock=some gs:=rfl;have no:∀x∈[u1,u3,u5],dP x (slice (some ⟨gs,0,none⟩) Y.os.length co)->dP x (slice (some ⟨gu,0,none⟩) Y.us.length cu)->∀q,x.ownBlock=some q->¬(q=gu\/q=gs\/ev.ownBlock=some q):=λx hx e2 e4 q hq hs=>by
  rcases hs with e|e|e
  ·exact e4 q hq (by rw[TB,e])
  ·exact e2 q hq (by rw[ows,e])
  ·have h8:=(h.e.block q e).1;have h9:=hl x hx q hq;omega
 have k':VJ Y (fD Z i u (bI ks Z u)):=by
  obtain⟨a1,a2,a3,a4,a5,a6,a7,a8,a9⟩:=h.k;exact⟨a1,a2,a3,a4,a5,a6,a7,by simpa[fD] using a8,by simpa[fD] using a9⟩
 refine⟨hf.own h.o1 (no u1 (by simp) d12 d14),?_,hf.own h.o3 (no u3 (by simp) d23.symm d34),?_,hf.own h.o5 (no u5 (by simp) d25.symm d45.symm),he,h.d,?_,k',h.f.take hu hy⟩
 ·have:=hbk.ow (base:=b1) (cap:=co) hgs (by rw[k'.2.2.2.2.2.2.2.2];exact d1) d2 (by rw[k'.2.2.2.2.2.2.2.2];exact d3)
  rw[k'.2.2.2.2.2.2.2.2] at this;exact this
 ·have:=hub.Ql (base:=b1) (cap:=cu) hgu (by rw[k'.2.2.2.2.2.2.2.1];exact c1) c2 (by rw[k'.2.2.2.2.2.2.2.1];exact c3)
  rw[k'.2.2.2.2.2.2.2.1] at this;exact this
 ·refine⟨hf.os.trans h.fr.os,hf.tape.trans h.fr.tape,hf.output.trans h.fr.output,Nat.le_trans h.fr.size hf.size,λq hq hn=>(hf.block q (Nat.lt_of_lt_of_le hq h.fr.size) (λe=>?_)).trans (h.fr.block q hq hn)⟩
  rcases e with e|e|e
  ·exact hn (.inr (by rw[TB,e]))
  ·exact hn (.inl (by rw[ows,e]))
  ·have:=(h.e.block q e).1;omega
end
end Go.Proofs.YtolfphmdmpehdaaGreatDoor
