/- slices.insertionSortCmpFunc of orders by compare. And more. -/
import Derived.Test.YtolfphmdmpehdaaGreatDoorZTopViews6
set_option linter.unusedVariables false
set_option linter.unusedSimpArgs false
set_option maxHeartbeats 64000000
set_option maxRecDepth 100000
open Go.Value (int slice)
open Go.IntKind (i64)
open Go.Obj (cells)
open Go.Proofs.Tryz
namespace Go.Proofs.YtolfphmdmpehdaaGreatDoor
section
open Go.RowKit Go.Proofs.YtolfphmdmpehdaaGreatDoor.So
abbrev fs (l:List T):List bU:=l.map Prod.fst
theorem XP:∀args w,(callFunc 151 args).run prog w=.ok (.enter 151 args) w:=enters_of func151 (by kernel_rfl) rfl
theorem acv(A S1:List T)(x:T)(R:List T):(fs (A++S1++x::R))[A.length+S1.length]? =some x.1:=by
 simp[fs]
theorem acw(A S1:List T)(y:T)(R:List T):(fs (A++(S1++[y])++R))[A.length+S1.length]? =some y.1:=by
 simp[fs]
theorem vT{α:Type}:∀(P:List α) (y x:α) (R:List α),((P++y::x::R).set (P.length+1) y).set P.length x=P++x::y::R
 |[],y,x,R=>rfl
 |p::P,y,x,R=>by
  have:=vT P y x R;simp only[List.cons_append,dI,List.set_cons_succ];rw[this]
def acy(A UU B:List T)(g:Nat)(rest:List Value)(w:World)(m a:Nat)(iv:Value)(W:World):Prop:=∃(S V:List T),S.Pairwise lt/\S≠[]/\S.Perm (UU.take S.length)/\V=UU.drop S.length/\S.length<=m/\iv=int i64 ((a+S.length:Nat):Int)/\Rb W g (fs (A++S++(V++B))) rest/\Kp g w W
def acz(A S:List T)(x:T)(VB:List T)(g:Nat)(rest:List Value)(w:World)(a:Nat)(jv:Value)(W:World):Prop:=∃(S1 S2:List T),jv=int i64 ((a+S1.length:Nat):Int)/\S1++S2=S/\(∀y∈S2,lt x y)/\Rb W g (fs (A++S1++x::(S2++VB))) rest/\Kp g w W
def Dl(A U B:List T)(g:Nat)(rest:List Value)(w:World)(e:Ending)(w':World):Prop:=e=.returned (.tuple #[])/\∃S,S.Perm U/\S.Pairwise lt/\Rb w' g (fs (A++S++B)) rest/\Kp g w w'
theorem Nw(A U B:List T)(g cap:Nat)(rest:List Value)(w:World)(hU:U.Pairwise (λx y=>x.2<y.2))(hr:Rb w g (fs (A++U++B)) rest)(hn:(A++U++B).length<=1000):
  Calls prog 229 #[slice (some ⟨g,0,none⟩) (A++U++B).length cap,int i64 (A.length:Nat),int i64 ((A.length+U.length:Nat):Int),.func (.func 151) #[] #[]] w
   (Dl A U B g rest w):=by
 obtain⟨L,hL⟩:∃L,(A++U++B).length=L:=⟨_,rfl⟩;have HL:=aj (hL);have HL2:Hid (A.length+U.length+B.length=L):=by unfold Hid;rw[<-hL];simp;omega
 obtain⟨a,ha⟩:∃a,A.length=a:=⟨_,rfl⟩;obtain⟨m,hm⟩:∃m,U.length=m:=⟨_,rfl⟩;have Ha:=aj (ha);have Hm:=aj (hm);have hle:a+m<=L:=by have:=HL2.out;omega
 have R0:=aj (hr);have HU:=aj (hU);rw[hL,ha,hm];obtain⟨q,hq⟩:∃q,a+m=q:=⟨_,rfl⟩;rw[hq];rw[hL] at hn;clear hL ha hm hr hU;go_enter func229,ntmps229;go_wp2;cases U with
 |nil=>
  have hm0:m=0:=by have:=Hm.out;simpa using this.symm
  have hqa:¬((a:Nat):Int)+1<(q:Int):=by omega
  refine wp_loop_rounds 1 ?_;rw[rounds_succ];go_wp2;go_end0;exact⟨rfl,[],List.Perm.refl _,List.Pairwise.nil,R0,Kp.refl _ _⟩
 |cons u U'=>
  have hm1:1<=m:=by have:=Hm.out;simp at this;omega
  go_loopw [8] (λiv W=>acy A (u::U') B g rest w m a iv W) (λiv _=>q-(intOf iv).toNat)
  case atStart=>
   refine⟨[u],U',by simp,by simp,by simp,by simp,hm1,by simp,?_,Kp.refl _ _⟩;have:=R0.out;simpa using this
  case round=>
   obtain⟨S,V,hS,hne,hp,hV,hle2,rfl,hrb,hk⟩:=hrel;have RB:=aj (hrb);have KK:=aj (hk);have HS:Hid (S.Pairwise lt/\S.Perm ((u::U').take S.length)):=⟨hS,hp⟩;clear hrb hk hS hp;obtain⟨i,hi⟩:∃i,a+S.length=i:=⟨_,rfl⟩;rw[hi];by_cases he:S.length=m
   ·have hlt:¬((i:Nat):Int)<((q:Nat):Int):=by omega
    have FIN:Hid (∃S',S'.Perm (u::U')/\S'.Pairwise lt/\Rb wr g (fs (A++S'++B)) rest/\Kp g w wr):=by
     have h1:=Hm.out;have h2:V=[]:=by rw[hV];exact List.drop_eq_nil_of_le (by omega)
     have h3:=HS.out.2;rw[List.take_of_length_le (by omega)] at h3;have h4:=RB.out;rw[h2] at h4;exact⟨S,h3,HS.1,by simpa using h4,KK.out⟩
    clear hV;go_wp2;go_end0;exact⟨rfl,FIN⟩
   ·have hlt:((i:Nat):Int)<((q:Nat):Int):=by omega
    have hUl:=Hm.out;obtain⟨x,V',hVx⟩:∃x V',V=x::V':=by
     cases hv:V with
     |nil=>
      rw[hV] at hv;have:=List.drop_eq_nil_iff.1 hv;omega
     |cons x V'=>exact⟨x,V',rfl⟩
    have HX:Hid (∀y∈S,y.2<x.2):=λy hy=>by
     have hy2:=HS.2.mem_iff.1 hy;have hsp:(u::U')=(u::U').take S.length++x::V':=by rw[<-hVx,hV,List.take_append_drop]
     have h2:=HU.out;rw[hsp,List.pairwise_append] at h2;exact h2.2.2 y hy2 x (List.mem_cons_self ..)
    have HV:Hid ((u::U').take (S.length+1)=(u::U').take S.length++[x]/\(u::U').drop (S.length+1)=V'):=by
     have hsp:(u::U').drop S.length=x::V':=by rw[<-hV,hVx]
     refine⟨?_,?_⟩
     ·rw[List.take_add_one,<-List.head?_drop,hsp];rfl
     ·rw[<-List.drop_drop,hsp];rfl
    have RX:Hid (Rb wr g (fs (A++S++x::(V'++B))) rest):=by
     have:=RB.out;rw[hVx] at this;exact this
    clear hV RB hVx;go_wp2_with fail
    go_loopw [9] (λjv W=>acz A S x (V'++B) g rest w a jv W) (λjv _=>(intOf jv).toNat)
    case atStart=>exact⟨S,[],by rw[hi],by simp,by simp,RX,KK⟩
    case round=>
     obtain⟨S1,S2,rfl,h12,h2x,hrb,hk⟩:=hrel;have RB:=aj (hrb);have K1:=aj (hk);have H2:=aj (h2x);have H12:=aj (h12);have hj:a+S1.length<L:=by
      have h1:=congrArg List.length h12;simp at h1;omega
     have hji:((a+S1.length:Nat):Int)<(L:Int):=by omega
     clear hrb hk h2x h12;rcases List.eq_nil_or_concat S1 with h0|⟨S1',y,h0⟩
     ·subst h0
      have hgt:¬((a:Nat):Int)<((a+([]:List T).length:Nat):Int):=by simp
      have NEXT:Hid (∃(S' V2:List T),S'.Pairwise lt/\S'≠[]/\S'.Perm ((u::U').take S'.length)/\V2=(u::U').drop S'.length/\S'.length<=m/\S'.length=S.length+1/\Rb wr g (fs (A++S'++(V2++B))) rest/\Kp g w wr):=by
       have e:=H12.out;simp only[List.nil_append] at e;have hl:(x::S2).length=S.length+1:=by rw[e];rfl
       refine⟨x::S2,V',?_,by simp,?_,?_,by omega,hl,?_,K1⟩
       ·exact List.pairwise_cons.2 ⟨H2,by rw[e];exact HS.1⟩
       ·rw[hl,HV.out.1,e]
        exact((HS.2.cons x).trans (List.perm_append_singleton x _).symm)
       ·rw[hl,HV.out.2]
       ·have:=RB.out
        simpa using this
      simp only[aS,Nat.add_zero];go_upto_region 4 with fail
      go_quiet (fail);go_wp2;go_round
      case rel=>
       obtain⟨S',V2,q1,q2,q3,q4,q5,q6,q7,q8⟩:=NEXT;exact⟨S',V2,q1,q2,q3,q4,q5,by rw[q6,<-Nat.add_assoc,hi];go_num,q7,q8.drewN _⟩
      case measure=>simp[intOf];omega
     ·subst h0
      obtain⟨k,hk⟩:∃k,a+S1'.length=k:=⟨_,rfl⟩;have hk1:a+(S1'.concat y).length=k+1:=by rw[<-hk];simp;omega
      have hkL:k+1<L:=by omega
      have Hx:Hid ((fs (A++S1'.concat y++x::(S2++(V'++B))))[k+1]? =some x.1):=by
       unfold Hid;rw[<-hk1,<-Ha.out];exact acv A _ x _
      have Hy:Hid ((fs (A++S1'.concat y++x::(S2++(V'++B))))[k]? =some y.1):=by
       unfold Hid;rw[<-hk,<-Ha.out,List.concat_eq_append];exact acw A _ y _
      have FC:Hid (∀W,Below wr.heap.size wr W->W.cell? ⟨g,(k+1)*4,none⟩=some (int i64 x.1.ay)/\W.cell? ⟨g,(k+1)*4+1,none⟩=some (int i64 x.1.unit)/\W.cell? ⟨g,(k+1)*4+2,none⟩=some (int i64 x.1.what)/\W.cell? ⟨g,(k+1)*4+3,none⟩=some (int i64 x.1.arg)/\W.cell? ⟨g,k*4,none⟩=some (int i64 y.1.ay)/\W.cell? ⟨g,k*4+1,none⟩=some (int i64 y.1.unit)/\W.cell? ⟨g,k*4+2,none⟩=some (int i64 y.1.what)/\W.cell? ⟨g,k*4+3,none⟩=some (int i64 y.1.arg)):=λW hW=>by
       have r:=RB.below hW RB.lt;obtain⟨x0,x1,x2,x3⟩:=r.cells Hx;obtain⟨y0,y1,y2,y3⟩:=r.cells Hy;exact⟨x0,x1,x2,x3,y0,y1,y2,y3⟩
      have CC:Hid (∀W,Below wr.heap.size wr W->Calls prog 151 #[.agg #[int i64 x.1.ay,int i64 x.1.unit,int i64 x.1.what,int i64 x.1.arg],.agg #[int i64 y.1.ay,int i64 y.1.unit,int i64 y.1.what,int i64 y.1.arg]] W λe w'=>e=.returned (int i64 (rX x.1 y.1))/\Below wr.heap.size wr w'):=λW hW=>(lC x.1 y.1 W).mono λe w' ⟨h1,h2⟩=>⟨h1,hW.trans (h2.mono hW.size)⟩
      have ec:=XP;have hgt:((a:Nat):Int)<((k:Nat):Int)+1:=by omega
      have kpos:¬((k:Nat):Int)+1<0:=by omega
      have hki:((k:Nat):Int)+1<(L:Int):=by omega
      have abu:((k:Nat):Int)<(L:Int):=by omega
      have kk1:((k:Nat):Int)+1-1=k:=by omega
      have kw:IntKind.i64.wrap ((k:Nat):Int)=k:=by rw[IntKind.wrap_i64];omega
      have e1:((a+(S1'.concat y).length:Nat):Int)=(k:Int)+1:=by rw[hk1];rfl
      rw[e1];clear hji hj;go_upto_region 4 with fail
      refine eY 16 (λW=>Below wr.heap.size wr W) (by kernel_rfl) (by kernel_rfl) aB.drew ?_;simp only[List.take_succ_cons,List.take_zero,List.drop_succ_cons,List.drop_zero];refine aF (int i64 ((k:Int)+1)) (by go_simp) (λW hW=>by go_simp) ?_;go_simp;refine aF (int i64 (a:Int)) (by go_simp) (λW hW=>by go_simp) ?_;go_simp;refine aF (.bool true) (by go_simp) (λW hW=>by go_simp) ?_;go_simp;refine aF (.bool true) (by go_simp) (λW hW=>by go_simp) ?_;go_simp;refine aF (.func (.func 151) #[] #[]) (by go_simp) (λW hW=>by go_simp) ?_;go_simp;refine aF (slice (some ⟨g,0,none⟩) L cap) (by go_simp) (λW hW=>by go_simp) ?_;go_simp;refine aF (int i64 ((k:Int)+1)) (by go_simp) (λW hW=>by go_simp) ?_;go_simp;refine aF (.pointer (some ⟨g,(k+1)*4,none⟩)) (by go_simp) (λW hW=>by go_simp) ?_;go_simp;refine aF (.agg #[int i64 x.1.ay,int i64 x.1.unit,int i64 x.1.what,int i64 x.1.arg]) (by go_simp) (λW hW=>by obtain⟨x0,x1,x2,x3,-⟩:=FC W hW;go_simp) ?_;go_simp;refine aF (slice (some ⟨g,0,none⟩) L cap) (by go_simp) (λW hW=>by go_simp) ?_;go_simp;refine aF (int i64 ((k:Int)+1)) (by go_simp) (λW hW=>by go_simp) ?_;go_simp;refine aF (int i64 (k:Int)) (by go_simp) (λW hW=>by go_simp) ?_;go_simp;refine aF (.pointer (some ⟨g,k*4,none⟩)) (by go_simp) (λW hW=>by go_simp) ?_;go_simp;refine aF (.agg #[int i64 y.1.ay,int i64 y.1.unit,int i64 y.1.what,int i64 y.1.arg]) (by go_simp) (λW hW=>by obtain⟨-,-,-,-,y0,y1,y2,y3⟩:=FC W hW;go_simp) ?_;go_simp;refine gU _ _ _ (by go_simp) (λW hW=>by go_simp) (λW hW=>CC W hW) ?_;go_simp;refine aF (.bool (decide (rX x.1 y.1<0))) (by go_simp) (λW hW=>by go_simp) ?_;go_simp;intro W hW;have RW:=aj (RB.below hW RB.lt);have KW:=aj (K1.trans (Kp.of hW));have IX:Hid (∀z∈S1'.concat y,z.2<x.2):=λz hz=>HX z (by rw[<-H12.out];exact List.mem_append_left _ hz)
      have PW:Hid ((S1'.concat y++S2).Pairwise lt):=by unfold Hid;rw[H12.out];exact HS.1
      by_cases hc:rX x.1 y.1<0
      ·have LX:=aj ((zM (IX y (by simp))).1 ((kY _ _).1 hc))
       obtain⟨x0,x1,x2,x3,y0,y1,y2,y3⟩:=FC W hW;have f0:=RW.thaw ((k+1)*4);have f1:=RW.thaw ((k+1)*4+1);have f2:=RW.thaw ((k+1)*4+2);have f3:=RW.thaw ((k+1)*4+3);have f4:=RW.thaw (k*4);have f5:=RW.thaw (k*4+1);have f6:=RW.thaw (k*4+2);have f7:=RW.thaw (k*4+3);clear hW FC CC;go_wp2_with fail
       go_region;have hlen:(fs (A++S1'.concat y++x::(S2++(V'++B)))).length=L:=by
        have h1:=HL2.out;have h2:=congrArg List.length H12;have h3:=congrArg List.length HV.2;simp[fs] at h2 h3 ⊢;have h4:=Hm.out;have h5:=Ha.out;simp at h4 h1;omega
       have rr:=(RW.put (i:=k+1) (by rw[hlen];exact hkL) y.1).put (i:=k) (by rw[jA,hlen];omega) x.1;have el:((fs (A++S1'.concat y++x::(S2++(V'++B)))).set (k+1) y.1).set k x.1=fs (A++S1'++x::(y::S2++(V'++B))):=by
        have hP:(fs (A++S1')).length=k:=by simp[fs,<-hk,Ha.out]
        have h1:=vT (fs (A++S1')) y.1 x.1 (fs (S2++(V'++B)));rw[hP] at h1;have e1:fs (A++S1'.concat y++x::(S2++(V'++B)))=fs (A++S1')++y.1::x.1::fs (S2++(V'++B)):=by simp[fs]
        have e2:fs (A++S1'++x::(y::S2++(V'++B)))=fs (A++S1')++x.1::y.1::fs (S2++(V'++B)):=by simp[fs]
        rw[e1,e2];exact h1
       rw[el] at rr;have RR:Hid (Rb _ g (fs (A++S1'++x::(y::S2++(V'++B)))) rest):=rr;have KR:Hid (Kp g w _):=(((((((KW.trans (Kp.set W ((k+1)*4) (int i64 y.1.ay))).trans (Kp.set _ ((k+1)*4+1) (int i64 y.1.unit))).trans (Kp.set _ ((k+1)*4+2) (int i64 y.1.what))).trans (Kp.set _ ((k+1)*4+3) (int i64 y.1.arg))).trans (Kp.set _ (k*4) (int i64 x.1.ay))).trans (Kp.set _ (k*4+1) (int i64 x.1.unit))).trans (Kp.set _ (k*4+2) (int i64 x.1.what))).trans (Kp.set _ (k*4+3) (int i64 x.1.arg));clear rr;go_wp2;go_roundw
       case rel=>
        refine⟨S1',y::S2,by rw[hk],by rw[<-H12.out];simp,λz hz=>?_,RR.below aB.drew RR.lt,KR.trans (Kp.of aB.drew)⟩;rcases bP.1 hz with rfl|hz
        ·exact LX
        ·exact H2 z hz
       case measure=>simp[intOf]
      ·have LX:=aj ((zN (IX y (by simp))).1 (λh=>hc ((kY _ _).2 h)))
       have NEXT:Hid (∃(S' V2:List T),S'.Pairwise lt/\S'≠[]/\S'.Perm ((u::U').take S'.length)/\V2=(u::U').drop S'.length/\S'.length<=m/\S'.length=S.length+1/\Rb W g (fs (A++S'++(V2++B))) rest/\Kp g w W):=by
        have hl:(S1'.concat y++x::S2).length=S.length+1:=by
         rw[<-H12.out];simp;omega
        refine⟨S1'.concat y++x::S2,V',?_,by simp,?_,?_,by omega,hl,?_,KW⟩
        ·refine vN PW (λz hz=>?_) H2
         rw[List.concat_eq_append] at hz;rcases gJ.1 hz with hz|hz
         ·have h1:=PW.out
          rw[List.concat_eq_append,bT,List.pairwise_append] at h1;exact lt_trans (h1.2.2 z hz y (by simp)) LX
         ·simp at hz
          subst hz;exact LX
        ·rw[hl,HV.out.1]
         refine List.Perm.trans List.perm_middle ?_;rw[H12.out];exact((HS.2.cons x).trans (List.perm_append_singleton x _).symm)
        ·rw[hl,HV.out.2]
        ·have:=RW.out
         simpa using this
       clear hW FC CC;go_wp2;go_round
       case rel=>
        obtain⟨S',V2,q1,q2,q3,q4,q5,q6,q7,q8⟩:=NEXT;exact⟨S',V2,q1,q2,q3,q4,q5,by rw[q6,<-Nat.add_assoc,hi];go_num,q7,q8⟩
       case measure=>simp[intOf];omega
theorem vU{α:Type}:∀(U V Z:List α) (x y:α),((U++x::(V++y::Z)).set U.length y).set (U.length+1+V.length) x=U++y::(V++x::Z)
 |[],V,Z,x,y=>by
  have:∀(V:List α),(V++y::Z).set V.length x=V++x::Z:=λV=>by simp
  simp only[List.nil_append,aS,List.set_cons_zero,aO];rw[Nat.add_comm,List.set_cons_succ,this]
 |u::U,V,Z,x,y=>by
  have h:=vU U V Z x y;have e:(u::U).length+1+V.length=(U.length+1+V.length)+1:=by simp;omega
  rw[e];simp only[List.cons_append,dI,List.set_cons_succ];rw[h]
theorem Ik{α:Type}(U V Z:List α)(x y:α):(U++x::(V++y::Z))[U.length]? =some x/\(U++x::(V++y::Z))[U.length+1+V.length]? =some y:=by
 refine⟨by simp,?_⟩;rw[jy (by omega)];have:U.length+1+V.length-U.length=V.length+1:=by omega
 rw[this];simp
def SwI(P X M Y Q:List bU)(g:Nat)(rest:List Value)(w:World)(n:Nat)(iv:Value)(W:World):Prop:=∃(X1 X2 Y1 Y2:List bU),iv=int i64 (X1.length:Nat)/\X1++X2=X/\Y1++Y2=Y/\X1.length=Y1.length/\X1.length<=n/\Rb W g (P++Y1++(X2++(M++X1)++(Y2++Q))) rest/\Kp g w W
theorem rY(P X M Y Q:List bU)(fv:Value)(g cap L a b n:Nat)(rest:List Value)(w:World)(hr:Rb w g (P++X++M++Y++Q) rest)(hL:(P++X++M++Y++Q).length=L)(hn:L<=1000)(hX:X.length=n)(hY:Y.length=n)(ha:P.length=a)(hb:(P++X++M).length=b):
  Calls prog 272 #[slice (some ⟨g,0,none⟩) L cap,int i64 (a:Nat),int i64 (b:Nat),int i64 (n:Nat),fv] w
   (λe w'=>e=.returned (.tuple #[])/\Rb w' g (P++Y++M++X++Q) rest/\Kp g w w'):=by
 have R0:=aj (hr);have HL:=aj (hL);have HX:=aj (hX);have HY:=aj (hY);have Ha:=aj (ha);have Hb:Hid (a+n+M.length=b):=by unfold Hid;rw[<-hb,<-ha,<-hX];simp;omega
 have HL2:Hid (b+n<=L):=by unfold Hid;rw[<-hL,<-hb,<-hY];simp;omega
 clear hr hL hX hY ha hb;have HA2:Hid (a+n<=b):=by unfold Hid;have:=Hb.out;omega
 go_enter func272,ntmps272;go_wp2;go_loopw [10] (λiv W=>SwI P X M Y Q g rest w n iv W) (λiv _=>n-(intOf iv).toNat)
 case atStart=>
  refine⟨[],X,[],Y,rfl,rfl,rfl,rfl,by simp,?_,Kp.refl _ _⟩;have:=R0.out;simpa using this
 case round=>
  obtain⟨X1,X2,Y1,Y2,rfl,hx,hy,hxy,hle,hrb,hk⟩:=hrel;have RB:=aj (hrb);have K1:=aj (hk);have H1:Hid (X1++X2=X/\Y1++Y2=Y/\X1.length=Y1.length):=⟨hx,hy,hxy⟩;have l1:X1.length+X2.length=n:=by have:=congrArg List.length hx;simp at this;rw[this];exact HX
  have l2:Y1.length+Y2.length=n:=by have:=congrArg List.length hy;simp at this;rw[this];exact HY
  obtain⟨i,hi⟩:∃i,X1.length=i:=⟨_,rfl⟩;have Hi:=aj (hi);rw[hi] at l1 hxy hle;rw[hi];clear hrb hk hx hy hi;by_cases he:i=n
  ·have hlt:¬((i:Nat):Int)<((n:Nat):Int):=by omega
   have FIN:Hid (Rb wr g (P++(Y++(M++(X++Q)))) rest):=by
    unfold Hid;have e1:X2=[]:=List.length_eq_zero_iff.1 (by omega);have e2:Y2=[]:=List.length_eq_zero_iff.1 (by omega);obtain⟨q1,q2,q3⟩:=H1.out;have:=RB.out;rw[e1] at q1 this;rw[e2] at q2 this;simp only[iK] at q1 q2;rw[q1,q2] at this;simpa using this
   clear l1 l2 hxy he;go_wp2;go_end0;exact⟨rfl,FIN,K1⟩
  ·have hlt:((i:Nat):Int)<((n:Nat):Int):=by omega
   obtain⟨x,X3,hx3⟩:∃x X3,X2=x::X3:=by
    cases X2 with
    |nil=>simp at l1;omega
    |cons x X3=>exact⟨x,X3,rfl⟩
   obtain⟨y,Y3,hy3⟩:∃y Y3,Y2=y::Y3:=by
    cases Y2 with
    |nil=>simp at l2;omega
    |cons y Y3=>exact⟨y,Y3,rfl⟩
   subst hx3 hy3;have l3:i+X3.length+1=n:=by simp at l1;omega
   obtain⟨p,hp⟩:∃p,a+i=p:=⟨_,rfl⟩;obtain⟨r,hr⟩:∃r,b+i=r:=⟨_,rfl⟩;have hpr:p<r:=by have:=HA2.out;omega
   have hrL:r<L:=by have:=HL2.out;omega
   have ep:(P++Y1).length=p:=by rw[<-hp,aC,Ha.out,hxy]
   have er:(P++Y1).length+1+(X3++(M++X1)).length=r:=by
    have h1:=Hb.out;have h2:=Hi.out;rw[ep];simp;omega
   have EL:Hid (P++Y1++(x::X3++(M++X1)++(y::Y3++Q))=(P++Y1)++x::((X3++(M++X1))++y::(Y3++Q))):=by unfold Hid;simp
   have RC:Hid (Rb wr g ((P++Y1)++x::((X3++(M++X1))++y::(Y3++Q))) rest):=by unfold Hid;rw[<-EL.out];exact RB
   have AF:=Ik (P++Y1) (X3++(M++X1)) (Y3++Q) x y;rw[er,ep] at AF;obtain⟨x0,x1,x2,x3⟩:=RC.cells AF.1;obtain⟨y0,y1,y2,y3⟩:=RC.cells AF.2;have SW:=vU (P++Y1) (X3++(M++X1)) (Y3++Q) x y;rw[er,ep] at SW;have HSW:Hid (_=_):=SW;have f0:=RC.thaw (p*4);have f1:=RC.thaw (p*4+1);have f2:=RC.thaw (p*4+2);have f3:=RC.thaw (p*4+3);have f4:=RC.thaw (r*4);have f5:=RC.thaw (r*4+1);have f6:=RC.thaw (r*4+2);have f7:=RC.thaw (r*4+3);have sp:((a:Nat):Int)+(i:Int)=p:=by omega
   have sr:((b:Nat):Int)+(i:Int)=r:=by omega
   have pw:IntKind.i64.wrap ((p:Nat):Int)=p:=by rw[IntKind.wrap_i64];omega
   have rw':IntKind.i64.wrap ((r:Nat):Int)=r:=by rw[IntKind.wrap_i64];omega
   have hpL:((p:Nat):Int)<(L:Int):=by omega
   have acP:((r:Nat):Int)<(L:Int):=by omega
   have n1:¬p*4=r*4:=by omega
   have LL:Hid (((P++Y1)++x::((X3++(M++X1))++y::(Y3++Q))).length=L):=by
    have h1:=HL.out;have h2:=congrArg List.length H1.1;have h3:=congrArg List.length H1.2.1;unfold Hid;simp at h1 h2 h3 ⊢;omega
   have HP:Hid (p<r/\r<L):=⟨hpr,hrL⟩;have HM:Hid (i+1<=n/\i<n/\i=Y1.length):=⟨by omega,by omega,hxy⟩;clear SW AF EL ep er l1 l2 l3 hxy RB hp hr;go_wp2_with fail
   go_region;have rr:=(RC.put (i:=p) (by rw[LL.out];have:=HP.out;omega) y).put (i:=r) (by rw[jA,LL.out];exact HP.2) x;rw[HSW.out] at rr;have RR:Hid (Rb _ g ((P++Y1)++y::((X3++(M++X1))++x::(Y3++Q))) rest):=rr;have KR:Hid (Kp g w _):=(((((((K1.trans (Kp.set wr (p*4) (int i64 y.ay))).trans (Kp.set _ (p*4+1) (int i64 y.unit))).trans (Kp.set _ (p*4+2) (int i64 y.what))).trans (Kp.set _ (p*4+3) (int i64 y.arg))).trans (Kp.set _ (r*4) (int i64 x.ay))).trans (Kp.set _ (r*4+1) (int i64 x.unit))).trans (Kp.set _ (r*4+2) (int i64 x.what))).trans (Kp.set _ (r*4+3) (int i64 x.arg));clear rr;go_wp2;go_roundw
   case rel=>
    have h1:=H1.out;have h2:=Hi.out;have h3:=HM.out;refine⟨X1++[x],X3,Y1++[y],Y3,by simp[h2],by rw[<-h1.1];simp,by rw[<-h1.2.1];simp,by simp;omega,by simp;omega,?_,KR.trans (Kp.of aB.drew)⟩;have h4:=RR.below aB.drew RR.lt;have e:P++(Y1++[y])++(X3++(M++(X1++[x]))++(Y3++Q))=(P++Y1)++y::((X3++(M++X1))++x::(Y3++Q)):=by simp
    rw[e];exact h4
   case measure=>have:=HM.out;simp[intOf];omega
def RoI(P u v Q:List bU)(g:Nat)(rest:List Value)(w:World)(iv jv:Value)(W:World):Prop:=∃(F u' v' E:List bU),iv=int i64 (u'.length:Nat)/\jv=int i64 (v'.length:Nat)/\u'≠[]/\v'≠[]/\F++(v'++u')++E=v++u/\F.length+u'.length=u.length/\Rb W g (P++F++u'++v'++(E++Q)) rest/\Kp g w W
theorem ng(P u v Q:List bU)(fv:Value)(g cap L a m b:Nat)(rest:List Value)(w:World)(hr:Rb w g (P++u++v++Q) rest)(hL:(P++u++v++Q).length=L)(hn:L<=1000)(hu:u≠[])(hv:v≠[])(ha:P.length=a)(hm:a+u.length=m)(hb:m+v.length=b):
  Calls prog 255 #[slice (some ⟨g,0,none⟩) L cap,int i64 (a:Nat),int i64 (m:Nat),int i64 (b:Nat),fv] w
   (λe w'=>e=.returned (.tuple #[])/\Rb w' g (P++v++u++Q) rest/\Kp g w w'):=by
 have R0:=aj (hr);have HL:Hid (a+u.length+v.length+Q.length=L):=by unfold Hid;rw[<-hL,<-ha];simp;omega
 have Ha:=aj (ha);have Hm:=aj (hm);have Hb:=aj (hb);have Hne:Hid (u≠[]/\v≠[]):=⟨hu,hv⟩;have hbL:b<=L:=by have:=HL.out;omega
 have smi:((m:Nat):Int)-(a:Int)=(u.length:Nat):=by omega
 have sbm:((b:Nat):Int)-(m:Int)=(v.length:Nat):=by omega
 have wmi:IntKind.i64.wrap ((u.length:Nat):Int)=(u.length:Nat):=by rw[IntKind.wrap_i64];omega
 have wbm:IntKind.i64.wrap ((v.length:Nat):Int)=(v.length:Nat):=by rw[IntKind.wrap_i64];omega
 clear hr hL hu hv ha hm hb;go_enter func255,ntmps255;go_wp2;go_loopw [10,11] (λiv jv W=>RoI P u v Q g rest w iv jv W) (λiv jv _=>(intOf iv).toNat+(intOf jv).toNat)
 case atStart=>
  refine⟨[],u,v,[],rfl,rfl,Hne.1,Hne.2,by simp,by simp,?_,Kp.refl _ _⟩;have:=R0.out;simpa using this
 case round=>
  obtain⟨F,u',v',E,rfl,rfl,hu,hv,hF,hlen,hrb,hk⟩:=hrel;have RB:=aj (hrb);have K1:=aj (hk);have HF:=aj (hF);have HFl:=aj (hlen);have hlF:F.length+v'.length+u'.length+E.length=v.length+u.length:=by have:=congrArg List.length hF;simp at this;omega
  obtain⟨i,hi⟩:∃i,u'.length=i:=⟨_,rfl⟩;obtain⟨j,hj⟩:∃j,v'.length=j:=⟨_,rfl⟩;have Hi:=aj (hi);have Hj:=aj (hj);have i1:1<=i:=by rw[<-hi];exact List.length_pos_iff.2 hu
  have j1:1<=j:=by rw[<-hj];exact List.length_pos_iff.2 hv
  obtain⟨c,hc⟩:∃c,a+F.length=c:=⟨_,rfl⟩;have Hc:Hid ((P++F).length=c):=by unfold Hid;rw[<-hc,aC,Ha.out]
  have hci:c+i=m:=by have:=Hm.out;omega
  have hjb:m+j<=b:=by have:=Hm.out;have:=Hb.out;omega
  have HLL:Hid ((P++F++u'++v'++(E++Q)).length=L):=by
   have h1:=HL.out;have h2:=Ha.out;unfold Hid;simp;omega
  rw[hi,hj];have smc:((m:Nat):Int)-(i:Int)=(c:Nat):=by omega
  have wc:IntKind.i64.wrap ((c:Nat):Int)=(c:Nat):=by rw[IntKind.wrap_i64];omega
  clear hrb hk hF hlen hlF hu hv hc smi sbm wmi wbm;by_cases he:i=j
  ·subst he
   have CL:=rY (P++F) u' [] v' (E++Q) fv g cap L c m i rest wr (by simpa using RB.out) (by simpa using HLL.out) hn Hi.out Hj.out Hc.out (by have:=Hc.out;have:=Hi.out;simp at *;omega);have hne:¬((i:Nat):Int)≠(i:Int):=by simp
   clear hi hj;go_wp2_with fail
   refine Calls.mono CL ?_;rintro e w1 ⟨rfl,hr1,hk1⟩;have R1:=aj (hr1);have K2:=aj (hk1);clear hr1 hk1;go_wp2;go_end0;refine⟨rfl,?_,K1.trans K2⟩;have h:=R1.out;have e:P++F++v'++[]++u'++(E++Q)=P++(v++u)++Q:=by rw[<-HF.out];simp
   rw[e] at h;simpa using h
  ·by_cases hgt:j<i
   ·obtain⟨x,y,hxy,hx⟩:∃x y,u'=x++y/\x.length=j:=⟨u'.take j,u'.drop j,(List.take_append_drop _ _).symm,by rw[dP];omega⟩
    have hy:y.length=i-j:=by have:=congrArg List.length hxy;simp at this;omega
    subst hxy;have CL:=rY (P++F) x y v' (E++Q) fv g cap L c m j rest wr (by simpa using RB.out) (by have:=HLL.out;simp at this ⊢;omega) hn hx Hj Hc (by have:=Hc.out;have:=Hi.out;simp at *;omega);have oQ:Hid (x.length=j/\y.length=i-j):=⟨hx,hy⟩;have hne:¬((i:Nat):Int)=(j:Int):=by omega
    have hgi:((j:Nat):Int)<(i:Int):=by omega
    obtain⟨d,hd⟩:∃d,i-j=d:=⟨_,rfl⟩;have Hd:Hid (1<=d/\d+j=i/\y.length=d):=⟨by omega,by omega,by omega⟩;have sij:((i:Nat):Int)-(j:Int)=(d:Nat):=by omega
    have wd:IntKind.i64.wrap ((d:Nat):Int)=(d:Nat):=by rw[IntKind.wrap_i64];omega
    clear hi hj hx hy hd;go_wp2_with fail
    refine Calls.mono CL ?_;rintro e w1 ⟨rfl,hr1,hk1⟩;have R1:=aj (hr1);have K2:=aj (hk1);clear hr1 hk1;go_wp2;go_roundw
    case rel=>
     obtain⟨d1,d2,d3⟩:=Hd.out;obtain⟨e1,e2⟩:=oQ.out;have e3:=Hj.out;have e4:=HFl.out;refine⟨F++v',y,x,E,by rw[d3],by rw[e1],by intro h;rw[h] at d3;simp at d3;omega,by intro h;rw[h] at e1;simp at e1;omega,by rw[<-HF.out];simp,?_,?_,K1.trans K2⟩
     ·simp at e4 ⊢;omega
     ·have h:=R1.out
      simpa using h
    case measure=>have:=Hd.out;simp[intOf];omega
   ·obtain⟨x,y,hxy,hx⟩:∃x y,v'=x++y/\x.length=j-i:=⟨v'.take (j-i),v'.drop (j-i),(List.take_append_drop _ _).symm,by rw[dP];omega⟩
    have hy:y.length=i:=by have:=congrArg List.length hxy;simp at this;omega
    subst hxy;obtain⟨d,hd⟩:∃d,j-i=d:=⟨_,rfl⟩;obtain⟨t,ht⟩:∃t,m+d=t:=⟨_,rfl⟩;have CL:=rY (P++F) u' x y (E++Q) fv g cap L c t i rest wr (by simpa using RB.out) (by have:=HLL.out;simp at this ⊢;omega) hn Hi hy Hc (by have:=Hc.out;have:=Hi.out;simp at *;omega);have oQ:Hid (x.length=d/\y.length=i):=⟨by omega,hy⟩;have hne:¬((i:Nat):Int)=(j:Int):=by omega
    have hgi:¬((j:Nat):Int)<(i:Int):=by omega
    have Hd:Hid (1<=d/\d+i=j/\1<=i):=⟨by omega,by omega,i1⟩;obtain⟨mj,hmj⟩:∃mj,m+j=mj:=⟨_,rfl⟩;have smj:((m:Nat):Int)+(j:Int)=(mj:Nat):=by omega
    have wmj:IntKind.i64.wrap ((mj:Nat):Int)=(mj:Nat):=by rw[IntKind.wrap_i64];omega
    have smt:((mj:Nat):Int)-(i:Int)=(t:Nat):=by omega
    have wt:IntKind.i64.wrap ((t:Nat):Int)=(t:Nat):=by rw[IntKind.wrap_i64];omega
    have sij:((j:Nat):Int)-(i:Int)=(d:Nat):=by omega
    have wd:IntKind.i64.wrap ((d:Nat):Int)=(d:Nat):=by rw[IntKind.wrap_i64];omega
    clear hi hj hx hy hd ht hmj;go_wp2_with fail
    refine Calls.mono CL ?_;rintro e w1 ⟨rfl,hr1,hk1⟩;have R1:=aj (hr1);have K2:=aj (hk1);clear hr1 hk1;go_wp2;go_roundw
    case rel=>
     obtain⟨d1,d2,d3⟩:=Hd.out;obtain⟨e1,e2⟩:=oQ.out;have e3:=Hi.out;have e4:=HFl.out;refine⟨F,y,x,u'++E,by rw[e2],by rw[e1],by intro h;rw[h] at e2;simp at e2;omega,by intro h;rw[h] at e1;simp at e1;omega,by rw[<-HF.out];simp,?_,?_,K1.trans K2⟩
     ·omega
     ·have h:=R1.out
      simpa using h
    case measure=>have:=Hd.out;simp[intOf];omega
def BsX(A:List T)(x:T)(Y B:List T)(g:Nat)(rest:List Value)(w:World)(m:Nat)(iv jv:Value)(W:World):Prop:=∃(Y1 Y2 Y3:List T),iv=int i64 ((m+Y1.length:Nat):Int)/\jv=int i64 ((m+Y1.length+Y2.length:Nat):Int)/\Y1++Y2++Y3=Y/\(∀z∈Y1,lt z x)/\(∀z∈Y3,lt x z)/\Rb W g (fs (A++x::(Y++B))) rest/\Kp g w W
def UpX(A:List T)(x:T)(Y1 YB:List T)(g:Nat)(rest:List Value)(w:World)(a:Nat)(kv:Value)(W:World):Prop:=∃(U V:List T),kv=int i64 ((a+U.length:Nat):Int)/\U++V=Y1/\Rb W g (fs (A++U)++x.1::(fs V++fs YB)) rest/\Kp g w W
def kF(A XY B:List T)(g:Nat)(rest:List Value)(w:World)(e:Ending)(w':World):Prop:=e=.returned (.tuple #[])/\∃Z:List T,Z.Perm XY/\Z.Pairwise lt/\Rb w' g (fs (A++Z++B)) rest/\Kp g w w'
theorem XT{α:Type}(P:List α)(x y:α)(R:List α):((P++x::y::R).set P.length y).set (P.length+1) x=P++y::x::R:=vU P [] R x y
theorem XW(A:List T)(x:T)(Y B:List T)(g cap L a m b:Nat)(rest:List Value)(w:World)(hY:Y.Pairwise lt)(hpl:∀y∈Y,x.2<y.2)(hr:Rb w g (fs (A++x::(Y++B))) rest)(hL:A.length+1+Y.length+B.length=L)(hn:L<=1000)(ha:A.length=a)(hm:a+1=m)(hb:m+Y.length=b):
  Calls prog 230 #[slice (some ⟨g,0,none⟩) L cap,int i64 (a:Nat),int i64 (m:Nat),int i64 (b:Nat),.func (.func 151) #[] #[]] w
   (kF A (x::Y) B g rest w):=by
 have R0:=aj (hr);have HL:=aj (hL);have Ha:=aj (ha);have Hm:=aj (hm);have Hb:=aj (hb);have HY:Hid (Y.Pairwise lt/\∀y∈Y,x.2<y.2):=⟨hY,hpl⟩;have hbL:b<=L:=by omega
 have smi:((m:Nat):Int)-(a:Int)=1:=by omega
 have haL:((a:Nat):Int)<(L:Int):=by omega
 clear hr hL hY hpl ha hm hb;go_enter func230,ntmps230;go_wp2;go_loopw [10,11] (λiv jv W=>BsX A x Y B g rest w m iv jv W) (λiv jv _=>(intOf jv).toNat-(intOf iv).toNat)
 case atStart=>
  refine⟨[],Y,[],by simp,by have:=Hb.out;simp;omega,by simp,by simp,by simp,R0,Kp.refl _ _⟩
 case round=>
  obtain⟨Y1,Y2,Y3,rfl,rfl,h12,hlo,hhi,hrb,hk⟩:=hrel;have RB:=aj (hrb);have K1:=aj (hk);have H12:=aj (h12);have HLO:=aj (hlo);have HHI:=aj (hhi);have hlY:Y1.length+Y2.length+Y3.length=Y.length:=by have:=congrArg List.length h12;simp at this;omega
  obtain⟨i,hi⟩:∃i,m+Y1.length=i:=⟨_,rfl⟩;obtain⟨j,hj⟩:∃j,i+Y2.length=j:=⟨_,rfl⟩;rw[hi,hj];have hjb:j<=b:=by have:=Hb.out;omega
  clear hrb hk h12 hlo hhi;by_cases he:i=j
  ·have hlt:¬((i:Nat):Int)<(j:Int):=by omega
   have e2:Y2=[]:=List.length_eq_zero_iff.1 (by omega);subst e2;have HI:Hid (a+Y1.length+1=i):=by unfold Hid;have:=Hm.out;omega
   have SI:Hid (((i:Nat):Int)-1=((a+Y1.length:Nat):Int)):=by unfold Hid;have:=HI.out;omega
   have hib:i<=b:=by omega
   clear hlY hj he;have si:=SI.out;obtain⟨t,ht⟩:∃t,a+Y1.length=t:=⟨_,rfl⟩;have Ht:=aj (ht);have htL:t<L:=by have:=HI.out;omega
   rw[ht] at si;have wt:IntKind.i64.wrap ((t:Nat):Int)=(t:Nat):=by rw[IntKind.wrap_i64];omega
   have e12:Y1++[]++Y3=Y1++Y3:=by simp
   have H13:Hid (Y1++Y3=Y):=by unfold Hid;rw[<-e12];exact H12
   clear ht e12 hi SI;go_wp2_with fail
   go_loopw [13] (λkv W=>UpX A x Y1 (Y3++B) g rest w a kv W) (λkv _=>t-(intOf kv).toNat)
   case atStart=>
    refine⟨[],Y1,by simp,by simp,?_,K1⟩;have h:=RB.out;rw[<-H13.out] at h;simpa[fs] using h
   case round=>
    obtain⟨U,V,rfl,hUV,hrb,hk⟩:=hrel;have R1:=aj (hrb);have K2:=aj (hk);have HUV:=aj (hUV);have hl:U.length+V.length=Y1.length:=by have:=congrArg List.length hUV;simpa using this
    obtain⟨k,hk'⟩:∃k,a+U.length=k:=⟨_,rfl⟩;have Hk:=aj (hk');rw[hk'];clear hrb hk hUV;cases V with
    |nil=>
     have hnk:¬((k:Nat):Int)<(t:Int):=by have:=Ht.out;simp at hl;omega
     clear hk' hl;go_wp2;go_end0;refine⟨rfl,Y1++x::Y3,?_,?_,?_,K2⟩
     ·rw[<-H13.out];exact List.perm_middle
     ·exact vN (by rw[H13.out];exact HY.1) HLO HHI
     ·have h:=R1.out
      have e:=HUV.out;simp only[iK] at e;rw[e] at h;simpa[fs] using h
    |cons y V'=>
     have hnk:((k:Nat):Int)<(t:Int):=by have:=Ht.out;simp at hl;omega
     have hkt:k<t:=by omega
     have HKT:Hid (k<t/\t<L):=⟨hkt,htL⟩;have hP:(fs (A++U)).length=k:=by have:=Ha.out;simp[fs];omega
     have RC:Hid (Rb wr g (fs (A++U)++x.1::y.1::(fs V'++fs (Y3++B))) rest):=by have:=R1.out;simpa[fs,Hid] using this
     have AF:=Ik (fs (A++U)) [] (fs V'++fs (Y3++B)) x.1 y.1;simp only[List.nil_append,aS,Nat.add_zero] at AF;have SW:Hid (_=_):=XT (fs (A++U)) x.1 y.1 (fs V'++fs (Y3++B));rw[hP] at AF SW;have LL:Hid ((fs (A++U)++x.1::y.1::(fs V'++fs (Y3++B))).length=L):=by
      have h1:=HL.out;have h2:=congrArg List.length H13;have h3:=Ha.out;have h4:=hP;unfold Hid;simp at h2 hl ⊢;simp at h4;omega
     obtain⟨x0,x1,x2,x3⟩:=RC.cells AF.1;obtain⟨y0,y1,y2,y3⟩:=RC.cells AF.2;have f0:=RC.thaw (k*4);have f1:=RC.thaw (k*4+1);have f2:=RC.thaw (k*4+2);have f3:=RC.thaw (k*4+3);have f4:=RC.thaw ((k+1)*4);have f5:=RC.thaw ((k+1)*4+1);have f6:=RC.thaw ((k+1)*4+2);have f7:=RC.thaw ((k+1)*4+3);have kpos:¬((k:Nat):Int)+1<0:=by omega
     have hki:((k:Nat):Int)+1<(L:Int):=by omega
     have abu:((k:Nat):Int)<(L:Int):=by omega
     clear AF hP hl hk' R1;go_wp2_with fail
     go_region;have rr:=(RC.put (i:=k) (by rw[LL.out];have:=HKT.out;omega) y.1).put (i:=k+1) (by rw[jA,LL.out];have:=HKT.out;omega) x.1;rw[SW.out] at rr;have RR:Hid (Rb _ g (fs (A++U)++y.1::x.1::(fs V'++fs (Y3++B))) rest):=rr;have KR:Hid (Kp g w _):=(((((((K2.trans (Kp.set wr (k*4) (int i64 y.1.ay))).trans (Kp.set _ (k*4+1) (int i64 y.1.unit))).trans (Kp.set _ (k*4+2) (int i64 y.1.what))).trans (Kp.set _ (k*4+3) (int i64 y.1.arg))).trans (Kp.set _ ((k+1)*4) (int i64 x.1.ay))).trans (Kp.set _ ((k+1)*4+1) (int i64 x.1.unit))).trans (Kp.set _ ((k+1)*4+2) (int i64 x.1.what))).trans (Kp.set _ ((k+1)*4+3) (int i64 x.1.arg));clear rr;go_wp2;go_roundw
     case rel=>
      have h1:=Hk.out;refine⟨U++[y],V',by rw[<-h1];simp;omega,by rw[<-HUV.out];simp,?_,KR.trans (Kp.of aB.drew)⟩;have h4:=RR.below aB.drew RR.lt;have e:fs (A++(U++[y]))++x.1::(fs V'++fs (Y3++B))=fs (A++U)++y.1::x.1::(fs V'++fs (Y3++B)):=by simp[fs]
      rw[e];exact h4
     case measure=>have:=HKT.out;simp[intOf];omega
  ·have hlt:((i:Nat):Int)<(j:Int):=by omega
   obtain⟨s,hs⟩:∃s,i+j=s:=⟨_,rfl⟩;obtain⟨h,hh⟩:∃h,s/2=h:=⟨_,rfl⟩;have ss:((i:Nat):Int)+(j:Int)=(s:Nat):=by omega
   have ws:IntKind.i64.wrap ((s:Nat):Int)=(s:Nat):=by rw[IntKind.wrap_i64];omega
   have sh:((s:Nat):Int)/2=(h:Nat):=by omega
   have hih:i<=h/\h<j:=by omega
   obtain⟨P,y,R,hY2,hPl⟩:∃P y R,Y2=P++y::R/\P.length=h-i:=by
    have h1:h-i<Y2.length:=by omega
    exact⟨Y2.take _,Y2[h-i],Y2.drop _,by rw[List.getElem_cons_drop,List.take_append_drop],by rw[dP];omega⟩
   subst hY2;have hhL:h<L:=by omega
   have Hy:Hid ((fs (A++x::(Y++B)))[h]? =some y.1):=by
    have e:A++x::(Y++B)=(A++x::(Y1++P))++y::(R++Y3++B):=by rw[<-H12.out];simp
    have e2:h=(fs (A++x::(Y1++P))).length:=by have:=Ha.out;have:=Hm.out;simp[fs];omega
    unfold Hid;rw[e,e2];simp[fs]
   have Hx:Hid ((fs (A++x::(Y++B)))[a]? =some x.1):=by
    have e2:a=(fs A).length:=by have:=Ha.out;simp[fs];omega
    unfold Hid;rw[e2];simp[fs]
   have FC:Hid (∀W,Below wr.heap.size wr W->W.cell? ⟨g,a*4,none⟩=some (int i64 x.1.ay)/\W.cell? ⟨g,a*4+1,none⟩=some (int i64 x.1.unit)/\W.cell? ⟨g,a*4+2,none⟩=some (int i64 x.1.what)/\W.cell? ⟨g,a*4+3,none⟩=some (int i64 x.1.arg)/\W.cell? ⟨g,h*4,none⟩=some (int i64 y.1.ay)/\W.cell? ⟨g,h*4+1,none⟩=some (int i64 y.1.unit)/\W.cell? ⟨g,h*4+2,none⟩=some (int i64 y.1.what)/\W.cell? ⟨g,h*4+3,none⟩=some (int i64 y.1.arg)):=λW hW=>by
    have r:=RB.below hW RB.lt;obtain⟨x0,x1,x2,x3⟩:=r.cells Hx;obtain⟨y0,y1,y2,y3⟩:=r.cells Hy;exact⟨x0,x1,x2,x3,y0,y1,y2,y3⟩
   have CC:Hid (∀W,Below wr.heap.size wr W->Calls prog 151 #[.agg #[int i64 y.1.ay,int i64 y.1.unit,int i64 y.1.what,int i64 y.1.arg],.agg #[int i64 x.1.ay,int i64 x.1.unit,int i64 x.1.what,int i64 x.1.arg]] W λe w'=>e=.returned (int i64 (rX y.1 x.1))/\Below wr.heap.size wr w'):=λW hW=>(lC y.1 x.1 W).mono λe w' ⟨h1,h2⟩=>⟨h1,hW.trans (h2.mono hW.size)⟩
   have ec:=XP;have hhi:((h:Nat):Int)<(L:Int):=by omega
   have IX:=aj (HY.2 y (by rw[<-H12.out];simp));have PW:Hid ((Y1++(P++y::R)++Y3).Pairwise lt):=by unfold Hid;rw[H12.out];exact HY.1
   have HN:Hid (m+Y1.length=i/\i+P.length=h/\h+1+R.length=j):=⟨hi,by omega,by simp at hj;omega⟩;clear hi hj hh hs hih hPl hlY;go_upto_region 5 with fail
   refine eY 10 (λW=>Below wr.heap.size wr W) (by kernel_rfl) (by kernel_rfl) aB.drew ?_;simp only[List.take_succ_cons,List.take_zero,List.drop_succ_cons,List.drop_zero];refine aF (.func (.func 151) #[] #[]) (by go_simp) (λW hW=>by go_simp) ?_;go_simp;refine aF (slice (some ⟨g,0,none⟩) L cap) (by go_simp) (λW hW=>by go_simp) ?_;go_simp;refine aF (int i64 (h:Int)) (by go_simp) (λW hW=>by go_simp) ?_;go_simp;refine aF (.pointer (some ⟨g,h*4,none⟩)) (by go_simp) (λW hW=>by go_simp) ?_;go_simp;refine aF (.agg #[int i64 y.1.ay,int i64 y.1.unit,int i64 y.1.what,int i64 y.1.arg]) (by go_simp) (λW hW=>by obtain⟨-,-,-,-,y0,y1,y2,y3⟩:=FC W hW;go_simp) ?_;go_simp;refine aF (slice (some ⟨g,0,none⟩) L cap) (by go_simp) (λW hW=>by go_simp) ?_;go_simp;refine aF (int i64 (a:Int)) (by go_simp) (λW hW=>by go_simp) ?_;go_simp;refine aF (.pointer (some ⟨g,a*4,none⟩)) (by go_simp) (λW hW=>by go_simp) ?_;go_simp;refine aF (.agg #[int i64 x.1.ay,int i64 x.1.unit,int i64 x.1.what,int i64 x.1.arg]) (by go_simp) (λW hW=>by obtain⟨x0,x1,x2,x3,-⟩:=FC W hW;go_simp) ?_;go_simp;refine gU _ _ _ (by go_simp) (λW hW=>by go_simp) (λW hW=>CC W hW) ?_;go_simp;intro W hW;have RW:=aj (RB.below hW RB.lt);have KW:=aj (K1.trans (Kp.of hW));by_cases hc:rX y.1 x.1<0
   ·have LX:=aj ((zM IX).1 ((kY _ _).1 hc))
    clear hW FC CC;go_wp2;go_roundw
    case rel=>
     obtain⟨n1,n2,n3⟩:=HN;refine⟨Y1++(P++[y]),R,Y3,?_,?_,by rw[<-H12.out];simp,λz hz=>?_,HHI,RW,KW⟩
     ·congr 1;simp;omega
     ·congr 1;simp;omega
     ·rcases gJ.1 hz with hz|hz
      ·exact HLO z hz
      ·rcases gJ.1 hz with hz|hz
       ·have h1:=PW.out
        rw[bT,List.pairwise_append] at h1;have h2:=h1.2.1;rw[bT,List.pairwise_append] at h2;exact lt_trans (h2.2.2 z hz y (by simp)) LX
       ·simp at hz
        subst hz;exact LX
    case measure=>have:=HN.out;simp[intOf];omega
   ·have LX:=aj ((zN IX).1 (λh=>hc ((kY _ _).2 h)))
    clear hW FC CC;go_wp2;go_roundw
    case rel=>
     obtain⟨n1,n2,n3⟩:=HN;refine⟨Y1,P,y::(R++Y3),?_,?_,by rw[<-H12.out];simp,HLO,λz hz=>?_,RW,KW⟩
     ·congr 1;omega
     ·congr 1;omega
     ·rcases bP.1 hz with rfl|hz
      ·exact LX
      ·have h1:=PW.out
       have e:Y1++(P++y::R)++Y3=(Y1++P)++y::(R++Y3):=by simp
       rw[e,List.pairwise_append] at h1;exact lt_trans LX ((List.pairwise_cons.1 h1.2.1).1 z hz)
    case measure=>have:=HN.out;simp[intOf];omega
def BsY(A X:List T)(y:T)(B:List T)(g:Nat)(rest:List Value)(w:World)(a:Nat)(iv jv:Value)(W:World):Prop:=∃(X1 X2 X3:List T),iv=int i64 ((a+X1.length:Nat):Int)/\jv=int i64 ((a+X1.length+X2.length:Nat):Int)/\X1++X2++X3=X/\(∀z∈X1,lt z y)/\(∀z∈X3,lt y z)/\Rb W g (fs (A++X++y::B)) rest/\Kp g w W
def DnY(AX:List T)(y:T)(X3 B:List T)(g:Nat)(rest:List Value)(w:World)(i:Nat)(kv:Value)(W:World):Prop:=∃(U V:List T),kv=int i64 ((i+U.length:Nat):Int)/\U++V=X3/\Rb W g (fs (AX++U)++y.1::(fs V++fs B)) rest/\Kp g w W
theorem TD(A X:List T)(y:T)(B:List T)(g cap L a m b:Nat)(rest:List Value)(w:World)(hX:X.Pairwise lt)(hpl:∀x∈X,x.2<y.2)(hX1:X.length≠1)(hr:Rb w g (fs (A++X++y::B)) rest)(hL:A.length+X.length+1+B.length=L)(hn:L<=1000)(ha:A.length=a)(hm:a+X.length=m)(hb:m+1=b):
  Calls prog 230 #[slice (some ⟨g,0,none⟩) L cap,int i64 (a:Nat),int i64 (m:Nat),int i64 (b:Nat),.func (.func 151) #[] #[]] w
   (kF A (X++[y]) B g rest w):=by
 have R0:=aj (hr);have HL:=aj (hL);have Ha:=aj (ha);have Hm:=aj (hm);have Hb:=aj (hb);have HX:Hid (X.Pairwise lt/\∀x∈X,x.2<y.2):=⟨hX,hpl⟩;have hbL:b<=L:=by omega
 obtain⟨d,hd⟩:∃d,X.length=d:=⟨_,rfl⟩;have smi:((m:Nat):Int)-(a:Int)=(d:Nat):=by omega
 have wd:IntKind.i64.wrap ((d:Nat):Int)=(d:Nat):=by rw[IntKind.wrap_i64];omega
 have d1:(((d:Nat):Int)==1)=false:=by have:¬((d:Nat):Int)=1:=by omega
                                      simpa using this
 have sbm:((b:Nat):Int)-(m:Int)=1:=by omega
 have hmL:((m:Nat):Int)<(L:Int):=by omega
 clear hr hL hX hpl ha hm hb hd hX1;go_enter func230,ntmps230;go_wp2;go_loopw [14,15] (λiv jv W=>BsY A X y B g rest w a iv jv W) (λiv jv _=>(intOf jv).toNat-(intOf iv).toNat)
 case atStart=>
  refine⟨[],X,[],by simp,by have:=Hm.out;simp;omega,by simp,by simp,by simp,R0,Kp.refl _ _⟩
 case round=>
  obtain⟨X1,X2,X3,rfl,rfl,h12,hlo,hhi,hrb,hk⟩:=hrel;have RB:=aj (hrb);have K1:=aj (hk);have H12:=aj (h12);have HLO:=aj (hlo);have HHI:=aj (hhi);have hlY:X1.length+X2.length+X3.length=X.length:=by have:=congrArg List.length h12;simp at this;omega
  obtain⟨i,hi⟩:∃i,a+X1.length=i:=⟨_,rfl⟩;obtain⟨j,hj⟩:∃j,i+X2.length=j:=⟨_,rfl⟩;rw[hi,hj];have hjb:j<=m:=by have:=Hm.out;omega
  have acA:m<L:=by have:=Hb.out;omega
  clear hrb hk h12 hlo hhi;by_cases he:i=j
  ·have hlt:¬((i:Nat):Int)<(j:Int):=by omega
   have e2:X2=[]:=List.length_eq_zero_iff.1 (by omega);subst e2;have HI:=aj (hi);have e12:X1++[]++X3=X1++X3:=by simp
   have H13:Hid (X1++X3=X):=by unfold Hid;rw[<-e12];exact H12
   have HM2:Hid (i+X3.length=m):=by unfold Hid;have:=Hm.out;simp at hlY;omega
   clear hlY hj he e12 hi;go_wp2_with fail
   go_loopw [17] (λkv W=>DnY (A++X1) y X3 B g rest w i kv W) (λkv _=>(intOf kv).toNat)
   case atStart=>
    refine⟨X3,[],by rw[HM2.out],by simp,?_,K1⟩;have h:=RB.out;rw[<-H13.out] at h;simpa[fs] using h
   case round=>
    obtain⟨U,V,rfl,hUV,hrb,hk⟩:=hrel;have R1:=aj (hrb);have K2:=aj (hk);have HUV:=aj (hUV);have hl:U.length+V.length=X3.length:=by have:=congrArg List.length hUV;simpa using this
    clear hrb hk hUV;rcases List.eq_nil_or_concat U with h0|⟨U',z,h0⟩
    ·subst h0
     have hnk:¬((i:Nat):Int)<(i:Int):=by omega
     simp only[aS,Nat.add_zero];clear hl;go_wp2;go_end0;refine⟨rfl,X1++y::X3,?_,?_,?_,K2⟩
     ·rw[<-H13.out]
      exact List.perm_middle.trans (List.perm_append_singleton y _).symm
     ·exact vN (by rw[H13.out];exact HX.1) HLO HHI
     ·have h:=R1.out
      have e:=HUV.out;simp only[List.nil_append] at e;rw[e] at h;simpa[fs] using h
    ·subst h0
     obtain⟨k,hk⟩:∃k,i+U'.length=k:=⟨_,rfl⟩;have hk1:i+(U'.concat z).length=k+1:=by rw[<-hk];simp;omega
     have HK:=aj (hk);have hkm:k+1<=m:=by have:=HM2.out;omega
     have e1:((i+(U'.concat z).length:Nat):Int)=(k:Int)+1:=by rw[hk1];rfl
     rw[e1];have hnk:((i:Nat):Int)<(k:Int)+1:=by omega
     have HKT:Hid (k+1<=m/\m<L):=⟨hkm,acA⟩;have hP:(fs ((A++X1)++U')).length=k:=by have:=Ha.out;have:=HI.out;simp[fs];omega
     have RC:Hid (Rb wr g (fs ((A++X1)++U')++z.1::y.1::(fs V++fs B)) rest):=by have:=R1.out;simpa[fs,Hid] using this
     have AF:=Ik (fs ((A++X1)++U')) [] (fs V++fs B) z.1 y.1;simp only[List.nil_append,aS,Nat.add_zero] at AF;have SW:Hid (_=_):=vT (fs ((A++X1)++U')) z.1 y.1 (fs V++fs B);rw[hP] at AF SW;have LL:Hid ((fs ((A++X1)++U')++z.1::y.1::(fs V++fs B)).length=L):=by
      have h1:=HL.out;have h2:=congrArg List.length H13;have h3:=Ha.out;have h4:=hP;unfold Hid;simp at h2 hl ⊢;simp at h4;omega
     obtain⟨x0,x1,x2,x3⟩:=RC.cells AF.1;obtain⟨y0,y1,y2,y3⟩:=RC.cells AF.2;have f0:=RC.thaw (k*4);have f1:=RC.thaw (k*4+1);have f2:=RC.thaw (k*4+2);have f3:=RC.thaw (k*4+3);have f4:=RC.thaw ((k+1)*4);have f5:=RC.thaw ((k+1)*4+1);have f6:=RC.thaw ((k+1)*4+2);have f7:=RC.thaw ((k+1)*4+3);have kpos:¬((k:Nat):Int)+1<0:=by omega
     have hki:((k:Nat):Int)+1<(L:Int):=by omega
     have abu:((k:Nat):Int)<(L:Int):=by omega
     have kk1:((k:Nat):Int)+1-1=k:=by omega
     have kw:IntKind.i64.wrap ((k:Nat):Int)=k:=by rw[IntKind.wrap_i64];omega
     clear AF hP hl hk hk1 R1 e1;go_wp2_with fail
     go_region;have rr:=(RC.put (i:=k+1) (by rw[LL.out];have:=HKT.out;omega) z.1).put (i:=k) (by rw[jA,LL.out];have:=HKT.out;omega) y.1;rw[SW.out] at rr;have RR:Hid (Rb _ g (fs ((A++X1)++U')++y.1::z.1::(fs V++fs B)) rest):=rr;have KR:Hid (Kp g w _):=(((((((K2.trans (Kp.set wr ((k+1)*4) (int i64 z.1.ay))).trans (Kp.set _ ((k+1)*4+1) (int i64 z.1.unit))).trans (Kp.set _ ((k+1)*4+2) (int i64 z.1.what))).trans (Kp.set _ ((k+1)*4+3) (int i64 z.1.arg))).trans (Kp.set _ (k*4) (int i64 y.1.ay))).trans (Kp.set _ (k*4+1) (int i64 y.1.unit))).trans (Kp.set _ (k*4+2) (int i64 y.1.what))).trans (Kp.set _ (k*4+3) (int i64 y.1.arg));clear rr;go_wp2;go_roundw
     case rel=>
      have h1:=HK.out;refine⟨U',z::V,by rw[h1],by rw[<-HUV.out];simp,?_,KR.trans (Kp.of aB.drew)⟩;have h4:=RR.below aB.drew RR.lt;exact h4
     case measure=>simp[intOf]
  ·have hlt:((i:Nat):Int)<(j:Int):=by omega
   obtain⟨s,hs⟩:∃s,i+j=s:=⟨_,rfl⟩;obtain⟨h,hh⟩:∃h,s/2=h:=⟨_,rfl⟩;have ss:((i:Nat):Int)+(j:Int)=(s:Nat):=by omega
   have ws:IntKind.i64.wrap ((s:Nat):Int)=(s:Nat):=by rw[IntKind.wrap_i64];omega
   have sh:((s:Nat):Int)/2=(h:Nat):=by omega
   have hih:i<=h/\h<j:=by omega
   obtain⟨P,x,R,hY2,hPl⟩:∃P x R,X2=P++x::R/\P.length=h-i:=by
    have h1:h-i<X2.length:=by omega
    exact⟨X2.take _,X2[h-i],X2.drop _,by rw[List.getElem_cons_drop,List.take_append_drop],by rw[dP];omega⟩
   subst hY2;have hhL:h<L:=by omega
   have Hx:Hid ((fs (A++X++y::B))[h]? =some x.1):=by
    have e:A++X++y::B=(A++(X1++P))++x::(R++X3++y::B):=by rw[<-H12.out];simp
    have e2:h=(fs (A++(X1++P))).length:=by have:=Ha.out;simp[fs];omega
    unfold Hid;rw[e,e2];simp[fs]
   have Hy:Hid ((fs (A++X++y::B))[m]? =some y.1):=by
    have e2:m=(fs (A++X)).length:=by have:=Ha.out;have:=Hm.out;simp[fs];omega
    unfold Hid;rw[e2];simp[fs]
   have FC:Hid (∀W,Below wr.heap.size wr W->W.cell? ⟨g,h*4,none⟩=some (int i64 x.1.ay)/\W.cell? ⟨g,h*4+1,none⟩=some (int i64 x.1.unit)/\W.cell? ⟨g,h*4+2,none⟩=some (int i64 x.1.what)/\W.cell? ⟨g,h*4+3,none⟩=some (int i64 x.1.arg)/\W.cell? ⟨g,m*4,none⟩=some (int i64 y.1.ay)/\W.cell? ⟨g,m*4+1,none⟩=some (int i64 y.1.unit)/\W.cell? ⟨g,m*4+2,none⟩=some (int i64 y.1.what)/\W.cell? ⟨g,m*4+3,none⟩=some (int i64 y.1.arg)):=λW hW=>by
    have r:=RB.below hW RB.lt;obtain⟨x0,x1,x2,x3⟩:=r.cells Hx;obtain⟨y0,y1,y2,y3⟩:=r.cells Hy;exact⟨x0,x1,x2,x3,y0,y1,y2,y3⟩
   have CC:Hid (∀W,Below wr.heap.size wr W->Calls prog 151 #[.agg #[int i64 y.1.ay,int i64 y.1.unit,int i64 y.1.what,int i64 y.1.arg],.agg #[int i64 x.1.ay,int i64 x.1.unit,int i64 x.1.what,int i64 x.1.arg]] W λe w'=>e=.returned (int i64 (rX y.1 x.1))/\Below wr.heap.size wr w'):=λW hW=>(lC y.1 x.1 W).mono λe w' ⟨h1,h2⟩=>⟨h1,hW.trans (h2.mono hW.size)⟩
   have ec:=XP;have hhi:((h:Nat):Int)<(L:Int):=by omega
   have IX:=aj (HX.2 x (by rw[<-H12.out];simp));have PW:Hid ((X1++(P++x::R)++X3).Pairwise lt):=by unfold Hid;rw[H12.out];exact HX.1
   have HN:Hid (a+X1.length=i/\i+P.length=h/\h+1+R.length=j):=⟨hi,by omega,by simp at hj;omega⟩;clear hi hj hh hs hih hPl hlY;go_upto_region 17 with fail
   refine eY 10 (λW=>Below wr.heap.size wr W) (by kernel_rfl) (by kernel_rfl) aB.drew ?_;simp only[List.take_succ_cons,List.take_zero,List.drop_succ_cons,List.drop_zero];refine aF (.func (.func 151) #[] #[]) (by go_simp) (λW hW=>by go_simp) ?_;go_simp;refine aF (slice (some ⟨g,0,none⟩) L cap) (by go_simp) (λW hW=>by go_simp) ?_;go_simp;refine aF (int i64 (m:Int)) (by go_simp) (λW hW=>by go_simp) ?_;go_simp;refine aF (.pointer (some ⟨g,m*4,none⟩)) (by go_simp) (λW hW=>by go_simp) ?_;go_simp;refine aF (.agg #[int i64 y.1.ay,int i64 y.1.unit,int i64 y.1.what,int i64 y.1.arg]) (by go_simp) (λW hW=>by obtain⟨-,-,-,-,y0,y1,y2,y3⟩:=FC W hW;go_simp) ?_;go_simp;refine aF (slice (some ⟨g,0,none⟩) L cap) (by go_simp) (λW hW=>by go_simp) ?_;go_simp;refine aF (int i64 (h:Int)) (by go_simp) (λW hW=>by go_simp) ?_;go_simp;refine aF (.pointer (some ⟨g,h*4,none⟩)) (by go_simp) (λW hW=>by go_simp) ?_;go_simp;refine aF (.agg #[int i64 x.1.ay,int i64 x.1.unit,int i64 x.1.what,int i64 x.1.arg]) (by go_simp) (λW hW=>by obtain⟨x0,x1,x2,x3,-⟩:=FC W hW;go_simp) ?_;go_simp;refine gU _ _ _ (by go_simp) (λW hW=>by go_simp) (λW hW=>CC W hW) ?_;go_simp;intro W hW;have RW:=aj (RB.below hW RB.lt);have KW:=aj (K1.trans (Kp.of hW));by_cases hc:rX y.1 x.1<0
   ·have LX:=aj ((zM IX).1 ((kY _ _).1 hc))
    clear hW FC CC;go_wp2;go_roundw
    case rel=>
     obtain⟨n1,n2,n3⟩:=HN;refine⟨X1,P,x::(R++X3),?_,?_,by rw[<-H12.out];simp,HLO,λz hz=>?_,RW,KW⟩
     ·congr 1;omega
     ·congr 1;omega
     ·rcases bP.1 hz with rfl|hz
      ·exact LX
      ·have h1:=PW.out
       have e:X1++(P++x::R)++X3=(X1++P)++x::(R++X3):=by simp
       rw[e,List.pairwise_append] at h1;exact lt_trans LX ((List.pairwise_cons.1 h1.2.1).1 z hz)
    case measure=>have:=HN.out;simp[intOf];omega
   ·have LX:=aj ((zN IX).1 (λh=>hc ((kY _ _).2 h)))
    clear hW FC CC;go_wp2;go_roundw
    case rel=>
     obtain⟨n1,n2,n3⟩:=HN;refine⟨X1++(P++[x]),R,X3,?_,?_,by rw[<-H12.out];simp,λz hz=>?_,HHI,RW,KW⟩
     ·congr 1;simp;omega
     ·congr 1;simp;omega
     ·rcases gJ.1 hz with hz|hz
      ·exact HLO z hz
      ·rcases gJ.1 hz with hz|hz
       ·have h1:=PW.out
        rw[bT,List.pairwise_append] at h1;have h2:=h1.2.1;rw[bT,List.pairwise_append] at h2;exact lt_trans (h2.2.2 z hz x (by simp)) LX
       ·simp at hz
        subst hz;exact LX
    case measure=>have:=HN.out;simp[intOf];omega
end
section
variable {a base i j m:Nat} {ks:List bU} {w:World}
namespace So
theorem JZ{X:List T}(h:X.Pairwise lt)(hij:i<j)(hj:j<X.length):lt (X[i]'(by omega)) X[j]:=List.pairwise_iff_getElem.1 h i j (by omega) hj hij
theorem J_{X:List T}(h:X.Pairwise lt)(hij:i<=j)(hj:j<X.length){z:T}(hz:lt X[j] z):lt (X[i]'(by omega)) z:=by
 rcases Nat.lt_or_ge i j with h1|h1
 ·exact lt_trans (JZ h h1 hj) hz
 ·have:i=j:=by omega
  subst this;exact hz
theorem Ko{X:List T}(h:X.Pairwise lt)(hij:i<=j)(hj:j<X.length){z:T}(hz:lt z (X[i]'(by omega))):lt z X[j]:=by
 rcases Nat.lt_or_ge i j with h1|h1
 ·exact lt_trans hz (JZ h h1 hj)
 ·have:i=j:=by omega
  subst this;exact hz
theorem TI{X Y:List T}(hX:X.Pairwise lt)(hY:Y.Pairwise lt){k l:Nat}(hk:k<=X.length)(hl:l<=Y.length)
  (h1:0<k->l<Y.length->∃x y,X[k-1]? =some x/\Y[l]? =some y/\lt x y) (h2:k<X.length->0<l->∃x y,X[k]? =some x/\Y[l-1]? =some y/\lt y x):
  ∀p∈X.take k++Y.take l,∀q∈X.drop k++Y.drop l,lt p q:=by
 intro p hp q hq;rcases gJ.1 hp with hp|hp<;>rcases gJ.1 hq with hq|hq
 ·have:=hX
  rw[<-List.take_append_drop k X,List.pairwise_append] at this;exact this.2.2 p hp q hq
 ·obtain⟨i,hi,rfl⟩:=List.mem_iff_getElem.1 hp
  obtain⟨j,hj,rfl⟩:=List.mem_iff_getElem.1 hq;simp at hi hj;obtain⟨x,y,e1,e2,h⟩:=h1 (by omega) (by omega);obtain⟨g1,rfl⟩:=aK.1 e1;obtain⟨g2,rfl⟩:=aK.1 e2;simp only[List.getElem_take,List.getElem_drop];exact Ko hY (by omega) _ (J_ hX (by omega) g1 h)
 ·obtain⟨i,hi,rfl⟩:=List.mem_iff_getElem.1 hp
  obtain⟨j,hj,rfl⟩:=List.mem_iff_getElem.1 hq;simp at hi hj;obtain⟨x,y,e1,e2,h⟩:=h2 (by omega) (by omega);obtain⟨g1,rfl⟩:=aK.1 e1;obtain⟨g2,rfl⟩:=aK.1 e2;simp only[List.getElem_take,List.getElem_drop];exact Ko hX (by omega) _ (J_ hY (by omega) g2 h)
 ·have:=hY
  rw[<-List.take_append_drop l Y,List.pairwise_append] at this;exact this.2.2 p hp q hq
theorem aav(A X Y B:List T)(ha:A.length=a)(h0:a<=i)(h1:i<a+X.length):(A++X++Y++B)[i]? =X[i-a]? :=by
 subst ha;rw[bT,bT,jy h0,iV (by omega)]
theorem aaw(A X Y B:List T)(hm:A.length+X.length=m)(h0:m<=i)(h1:i<m+Y.length):(A++X++Y++B)[i]? =Y[i-m]? :=by
 subst hm;rw[bT,jy (by simpa using h0),iV (by simp;omega)];simp
end So
namespace So
theorem TJ(A X Y B:List T){b n mid lo hi S:Nat}(hX:X.Pairwise lt)(hY:Y.Pairwise lt)(ha:A.length=a)(hm:a+X.length=m)(hb:m+Y.length=b)(hn:mid+m=n)(h1:a<=lo)(h2:lo<=S)(h3:S<=hi)(h4:hi<=m)(h5:hi<=mid)(h6:lo=a\/lo+b=n)(h7:hi=m\/hi=mid)(h8:n<=lo+b)
  (F1:lo<S->∃x y,(A++X++Y++B)[S-1]? =some x/\(A++X++Y++B)[n-S]? =some y/\lt x y) (F2:S<hi->∃x y,(A++X++Y++B)[S]? =some x/\(A++X++Y++B)[n-1-S]? =some y/\lt y x):
  ∃X1 X2 Y1 Y2,X=X1++X2/\Y=Y1++Y2/\a+X1.length=S/\S+X2.length=m/\S+Y1.length=mid/\(m+Y1.length)+Y2.length=b/\∀p∈X1++Y1,∀q∈X2++Y2,lt p q:=by
 refine⟨X.take _,X.drop (S-a),Y.take _,Y.drop (mid-S),(List.take_append_drop _ _).symm,(List.take_append_drop _ _).symm,?_,?_,?_,?_,?_⟩
 ·rw[dP];omega
 ·rw[jR];omega
 ·rw[dP];omega
 ·rw[dP,jR];omega
 ·refine TI hX hY (by omega) (by omega) (λk0 l0=>?_) (λk0 l0=>?_)
  ·obtain⟨x,y,e1,e2,h⟩:=F1 (by omega)
   rw[aav A X Y B ha (by omega) (by omega)] at e1;rw[aaw A X Y B (m:=m) (by omega) (by omega) (by omega)] at e2;exact⟨x,y,by rw[<-e1];congr 1;omega,by rw[<-e2];congr 1;omega,h⟩
  ·obtain⟨x,y,e1,e2,h⟩:=F2 (by omega)
   rw[aav A X Y B ha (by omega) (by omega)] at e1;rw[aaw A X Y B (m:=m) (by omega) (by omega) (by omega)] at e2;exact⟨x,y,e1,by rw[<-e2];congr 1;omega,h⟩
theorem iq{X1 X2:List T}(h:(X1++X2).Pairwise lt):X1.Pairwise lt:=(List.pairwise_append.1 h).1
theorem gB{X1 X2:List T}(h:(X1++X2).Pairwise lt):X2.Pairwise lt:=(List.pairwise_append.1 h).2.1
theorem kQ{X1 X2 Y1 Y2 Z1 Z2:List T}(p1:Z1.Perm (X1++Y1))(p2:Z2.Perm (X2++Y2))(r1:Z1.Pairwise lt)(r2:Z2.Pairwise lt)(h:∀p∈X1++Y1,∀q∈X2++Y2,lt p q):
  (Z1++Z2).Perm ((X1++X2)++(Y1++Y2))/\(Z1++Z2).Pairwise lt:=by
 refine⟨?_,Tf r1 r2 λx hx y hy=>h x (p1.mem_iff.1 hx) y (p2.mem_iff.1 hy)⟩;refine(p1.append p2).trans ?_;have e:(X1++Y1++(X2++Y2)).Perm (X1++(Y1++X2)++Y2):=by simp
 refine e.trans ?_;have e2:(X1++(Y1++X2)++Y2).Perm _:=((List.perm_append_comm).append_left X1).append_right Y2;refine e2.trans ?_;simp
end So
open Go.Proofs.YtolfphmdmpehdaaGreatDoor.So Go.RowKit
def SyI(D:List T)(g:Nat)(rest:List Value)(w:World)(n lo hi:Nat)(sv rv:Value)(W:World):Prop:=∃(st r:Nat),sv=int i64 (st:Nat)/\rv=int i64 (r:Nat)/\lo<=st/\st<=r/\r<=hi/\(lo<st->∃x y,D[st-1]? =some x/\D[n-st]? =some y/\lt x y)/\(r<hi->∃x y,D[r]? =some x/\D[n-1-r]? =some y/\lt y x)/\Rb W g (fs D) rest/\Kp g w W
theorem YZ{D:List T}{x:T}(h:D[i]? =some x):(fs D)[i]? =some x.1:=by simp[fs,h]
theorem aax(X1 X2 Y1 Y2:List T)(h1:0<X1.length+X2.length)(h2:0<Y1.length+Y2.length)(h3:0<X1.length+Y1.length)(h4:0<X2.length+Y2.length):
  (X1≠[]/\X2≠[]/\Y1≠[]/\Y2≠[])\/(X1=[]/\X2≠[]/\Y1≠[]/\Y2≠[])\/(X1≠[]/\X2=[]/\Y1≠[]/\Y2≠[])\/(X1≠[]/\X2≠[]/\Y1=[]/\Y2≠[])\/(X1≠[]/\X2≠[]/\Y1≠[]/\Y2=[])\/(X1=[]/\X2≠[]/\Y1≠[]/\Y2=[])\/(X1≠[]/\X2=[]/\Y1=[]/\Y2≠[]):=by
 rcases X1 with _|⟨_,_⟩<;>rcases X2 with _|⟨_,_⟩<;>rcases Y1 with _|⟨_,_⟩<;>rcases Y2 with _|⟨_,_⟩<;>simp at *
def Y_(N g cap L:Nat)(rest:List Value):Prop:=∀(A X Y B:List T) (a m b:Nat) (w:World),X.length+Y.length<=N->X≠[]->Y≠[]->X.Pairwise lt->Y.Pairwise lt->(∀x∈X,∀y∈Y,x.2<y.2)->Rb w g (fs (A++X++Y++B)) rest->A.length+X.length+Y.length+B.length=L->A.length=a->a+X.length=m->m+Y.length=b->
 Calls prog 230 #[slice (some ⟨g,0,none⟩) L cap,int i64 (a:Nat),int i64 (m:Nat),int i64 (b:Nat),.func (.func 151) #[] #[]] w (kF A (X++Y) B g rest w)
theorem dB{l:List T}(h:l≠[]):0<l.length:=List.length_pos_iff.2 h
theorem X_(N:Nat)(A X Y B:List T)(g cap L a m b:Nat)(rest:List Value)(w:World)(ih:Y_ N g cap L rest)(hN:X.length+Y.length<=N+1)(lx:2<=X.length)(ly:2<=Y.length)(hX:X.Pairwise lt)(hY:Y.Pairwise lt)(hpl:∀x∈X,∀y∈Y,x.2<y.2)(hr:Rb w g (fs (A++X++Y++B)) rest)(hL:A.length+X.length+Y.length+B.length=L)(hn:L<=1000)(ha:A.length=a)(hm:a+X.length=m)(hb:m+Y.length=b):
  Calls prog 230 #[slice (some ⟨g,0,none⟩) L cap,int i64 (a:Nat),int i64 (m:Nat),int i64 (b:Nat),.func (.func 151) #[] #[]] w (kF A (X++Y) B g rest w):=by
 have IH:=aj (ih);have R0:=aj (hr);have HN:=aj (hN);have HL:=aj (hL);have HM:=aj (fQ (ha) (hm) (hb));have oQ:=aj (fQ (hX) (hY) (hpl));have HXL:=aj (dJ (lx) (ly));have hbL:b<=L:=by omega
 have ham:a+2<=m:=by omega
 have hmb:m+2<=b:=by omega
 obtain⟨dx,hdx⟩:∃d,m-a=d:=⟨_,rfl⟩;obtain⟨dy,hdy⟩:∃d,b-m=d:=⟨_,rfl⟩;obtain⟨s,hs⟩:∃s,a+b=s:=⟨_,rfl⟩;obtain⟨mid,hmid⟩:∃d,s/2=d:=⟨_,rfl⟩;obtain⟨n,hnn⟩:∃n,mid+m=n:=⟨_,rfl⟩;have smi:((m:Nat):Int)-(a:Int)=(dx:Nat):=by omega
 have wdx:IntKind.i64.wrap ((dx:Nat):Int)=(dx:Nat):=by rw[IntKind.wrap_i64];omega
 have dx1:(((dx:Nat):Int)==1)=false:=by
  have:¬((dx:Nat):Int)=1:=by omega
  simpa using this
 have sbm:((b:Nat):Int)-(m:Int)=(dy:Nat):=by omega
 have wdy:IntKind.i64.wrap ((dy:Nat):Int)=(dy:Nat):=by rw[IntKind.wrap_i64];omega
 have dy1:(((dy:Nat):Int)==1)=false:=by
  have:¬((dy:Nat):Int)=1:=by omega
  simpa using this
 have ss:((a:Nat):Int)+(b:Int)=(s:Nat):=by omega
 have ws:IntKind.i64.wrap ((s:Nat):Int)=(s:Nat):=by rw[IntKind.wrap_i64];omega
 have sm:((s:Nat):Int)/2=(mid:Nat):=by omega
 have sn:((mid:Nat):Int)+(m:Int)=(n:Nat):=by omega
 have wn:IntKind.i64.wrap ((n:Nat):Int)=(n:Nat):=by rw[IntKind.wrap_i64];omega
 have HS:Hid (a<mid/\mid<b/\mid+m=n/\mid+mid<=a+b/\a+b<=mid+mid+1/\a+2<=m/\m+2<=b/\b<=L):=⟨by omega,by omega,by omega,by omega,by omega,ham,hmb,hbL⟩;obtain⟨p,hp⟩:∃p,n-1=p:=⟨_,rfl⟩;have sp:((n:Nat):Int)-1=(p:Nat):=by omega
 have wp':IntKind.i64.wrap ((p:Nat):Int)=(p:Nat):=by rw[IntKind.wrap_i64];omega
 have HP:Hid (p+1=n):=aj (by omega);clear hr hN hL hX hY hpl ha hm hb lx ly;clear hdx hdy hs hmid hnn hp;go_enter func230,ntmps230;go_upto_if 140 with fail
 go_cut [20,21] (λsv rv V=>V=w/\∃lo hi:Nat,sv=int i64 (lo:Nat)/\rv=int i64 (hi:Nat)/\a<=lo/\lo<=hi/\hi<=m/\hi<=mid/\(lo=a\/lo+b=n)/\(hi=m\/hi=mid)/\n<=lo+b)
 case first=>
  have h:=HS.out;by_cases hgt:((mid:Nat):Int)<(m:Int)
  ·obtain⟨lo,hlo⟩:∃lo,n-b=lo:=⟨_,rfl⟩
   have slo:((n:Nat):Int)-(b:Int)=(lo:Nat):=by omega
   have wlo:IntKind.i64.wrap ((lo:Nat):Int)=(lo:Nat):=by rw[IntKind.wrap_i64];omega
   go_wp2;go_meet
   case rel=>exact⟨rfl,lo,mid,rfl,rfl,by omega,by omega,by omega,by omega,by omega,.inr rfl,by omega⟩
  ·go_wp2
   go_meet
   case rel=>exact⟨rfl,a,m,rfl,rfl,by omega,by omega,by omega,by omega,.inl rfl,.inl rfl,by omega⟩
 case rest=>
 obtain⟨hV,lo,hi,rfl,rfl,hlh⟩:=hcut;obtain rfl:=hV.symm;have HLH:=aj (hlh);go_wp2;clear smi wdx dx1 sbm wdy dy1 ss ws sm sn wn sp wp' hlh hV;go_loopw [20,21] (λsv rv W=>SyI (A++X++Y++B) g rest w n lo hi sv rv W) (λsv rv _=>(intOf rv).toNat-(intOf sv).toNat)
 case atStart=>
  have h:=HLH.out;exact⟨lo,hi,rfl,rfl,aU _,h.2.1,aU _,λh=>absurd h (Nat.lt_irrefl _),λh=>absurd h (Nat.lt_irrefl _),R0,Kp.refl _ _⟩
 case round=>
  obtain⟨st,r,rfl,rfl,hst,hsr,hrh,hF1,hF2,hrb,hk⟩:=hrel;have RB:=aj (hrb);have K1:=aj (hk);have F1:=aj (hF1);have F2:=aj (hF2);have HSR:=aj (fQ (hst) (hsr) (hrh));clear hrb hk hF1 hF2;by_cases he:st=r
  ·subst he
   have hb1:=HLH.out;have hb2:=HS.out;have hb4:=HM.out;have hb5:=HSR.out;have hb6:=HN.out;have hb7:=HL.out;obtain⟨X1,X2,Y1,Y2,hX12,hY12,l1,l2,l3,l4,hcut⟩:=TJ A X Y B oQ.1 oQ.2.1 hb4.1 hb4.2.1 hb4.2.2 hb2.2.2.1 hb1.1 hb5.1 hb5.2.2 hb1.2.2.1 hb1.2.2.2.1 (by omega) (by omega) hb1.2.2.2.2.2.2 F1 F2;subst hX12;subst hY12;simp only[aC] at hb4 hb6 hb7;obtain⟨e,hee⟩:∃e,m+Y1.length=e:=⟨_,rfl⟩;have sne:((n:Nat):Int)-(st:Int)=(e:Nat):=by omega
   have wne:IntKind.i64.wrap ((e:Nat):Int)=(e:Nat):=by rw[IntKind.wrap_i64];omega
   have hlt:¬((st:Nat):Int)<(st:Int):=by omega
   have CUT:=aj (hcut);have kR:Hid (A.length=a/\a+X1.length=st/\st+X2.length=m/\st+Y1.length=mid/\m+Y1.length=e/\e+Y2.length=b/\mid+X2.length=e/\A.length+X1.length+X2.length+Y1.length+Y2.length+B.length=L/\X1.length+X2.length+Y1.length+Y2.length<=N+1/\L<=1000):=by refine⟨hb4.1,l1,l2,l3,hee,by omega,by omega,by omega,by omega,hn⟩
   have CB:=aax X1 X2 Y1 Y2 (by have:=HXL.out;simp only[aC] at this;omega) (by have:=HXL.out;simp only[aC] at this;omega) (by omega) (by omega);have RX:=aj (RB.out);have hnum:=kR.out;clear hb1 hb2 hb4 hb5 hb6 hb7 hcut l1 l2 l3 l4 hee hst hsr hrh F1 F2;rcases CB with⟨x1,x2,y1,y2⟩|⟨x1,x2,y1,y2⟩|⟨x1,x2,y1,y2⟩|⟨x1,x2,y1,y2⟩|⟨x1,x2,y1,y2⟩|⟨x1,x2,y1,y2⟩|⟨x1,x2,y1,y2⟩
   ·have px1:=dB x1
    have px2:=dB x2;have py1:=dB y1;have py2:=dB y2;have d1:((st:Nat):Int)<(m:Int):=by omega
    have d2:((m:Nat):Int)<(e:Int):=by omega
    have d3:((a:Nat):Int)<(st:Int):=by omega
    have d4:((st:Nat):Int)<(mid:Int):=by omega
    have d5:((mid:Nat):Int)<(e:Int):=by omega
    have d6:((e:Nat):Int)<(b:Int):=by omega
    clear hnum;have CR:=ng (fs (A++X1)) (fs X2) (fs Y1) (fs (Y2++B)) (.func (.func 151) #[] #[]) g cap L st m e rest wr (by have:=RX.out;simpa[fs] using this) (by have:=kR.out;simp[fs] at this ⊢;omega) hn (by simpa[fs] using x2) (by simpa[fs] using y1) (by have:=kR.out;simp[fs] at this ⊢;omega) (by have:=kR.out;simp[fs] at this ⊢;omega) (by have:=kR.out;simp[fs] at this ⊢;omega);go_wp2_with fail
    refine Calls.mono CR ?_;rintro er w1 ⟨rfl,hr1,hk1⟩;have R1:Hid (Rb w1 g (fs (A++X1++Y1++(X2++Y2++B))) rest):=by unfold Hid;simpa[fs] using hr1
    have K2:=aj (K1.trans hk1);clear hr1 hk1 CR;have C1:=IH A X1 Y1 (X2++Y2++B) a st mid w1 (by have:=kR.out;simp at this ⊢;have:=px1;have:=py1;have:=px2;have:=py2;omega) x1 y1 (iq oQ.1) (iq oQ.2.1) (λx hx y hy=>oQ.2.2 x (by simp[hx]) y (by simp[hy])) R1 (by have:=kR.out;simp at this ⊢;omega) kR.1 kR.2.1 kR.2.2.2.1;go_wp2_with fail
    refine Calls.mono C1 ?_;rintro er w2 ⟨rfl,Z1,Za,Zb,hr1,hk1⟩;have R2:=aj (hr1);have K3:=aj (K2.trans hk1);have P1:=aj (dJ (Za) (Zb));clear hr1 hk1 C1 Za Zb;have hz1:=P1.1.length_eq;have C2:=IH (A++Z1) X2 Y2 B mid e b w2 (by have:=kR.out;simp at this ⊢;have:=px1;have:=py1;have:=px2;have:=py2;omega) x2 y2 (gB oQ.1) (gB oQ.2.1) (λx hx y hy=>oQ.2.2 x (by simp[hx]) y (by simp[hy])) (by have:=R2.out;simpa[fs] using this) (by have:=kR.out;simp at this hz1 ⊢;omega) (by have:=kR.out;simp at this hz1 ⊢;omega) kR.2.2.2.2.2.2.1 kR.2.2.2.2.2.1;go_wp2_with fail
    refine Calls.mono C2 ?_;rintro er w3 ⟨rfl,Z2,Zc,Zd,hr1,hk1⟩;have R3:Hid (Rb w3 g (fs (A++Z1++Z2++B)) rest):=by unfold Hid;simpa[fs] using hr1
    have K4:=aj (K3.trans hk1);have P2:=aj (dJ (Zc) (Zd));clear hr1 hk1 C2 Zc Zd hz1;go_wp2;go_end0;have ER:=kQ P1.out.1 P2.out.1 P1.out.2 P2.out.2 CUT.out;exact⟨rfl,Z1++Z2,by simpa using ER.1,ER.2,by have:=R3.out;simpa[fs] using this,K4.out⟩
   ·subst x1
    have px2:=dB x2;have py1:=dB y1;have py2:=dB y2;simp only[aS] at hnum;have d1:((st:Nat):Int)<(m:Int):=by omega
    have d2:((m:Nat):Int)<(e:Int):=by omega
    have d3:¬((a:Nat):Int)<(st:Int):=by omega
    have d4:((st:Nat):Int)<(mid:Int):=by omega
    have d5:((mid:Nat):Int)<(e:Int):=by omega
    have d6:((e:Nat):Int)<(b:Int):=by omega
    clear hnum;have CR:=ng (fs (A++[])) (fs X2) (fs Y1) (fs (Y2++B)) (.func (.func 151) #[] #[]) g cap L st m e rest wr (by have:=RX.out;simpa[fs] using this) (by have:=kR.out;simp[fs] at this ⊢;omega) hn (by simpa[fs] using x2) (by simpa[fs] using y1) (by have:=kR.out;simp[fs] at this ⊢;omega) (by have:=kR.out;simp[fs] at this ⊢;omega) (by have:=kR.out;simp[fs] at this ⊢;omega);go_wp2_with fail
    refine Calls.mono CR ?_;rintro er w1 ⟨rfl,hr1,hk1⟩;have R1:Hid (Rb w1 g (fs (A++[]++Y1++(X2++Y2++B))) rest):=by unfold Hid;simpa[fs] using hr1
    have K2:=aj (K1.trans hk1);clear hr1 hk1 CR;obtain⟨Z1,hZ1⟩:∃Z,Y1=Z:=⟨_,rfl⟩;have R2:Hid (Rb w1 g (fs (A++Z1++(X2++Y2++B))) rest):=by have:=R1.out;unfold Hid;rw[<-hZ1];simpa[fs] using this
    have K3:=aj (K2);have P1:Hid (Z1.Perm ([]++Y1)/\Z1.Pairwise lt):=by rw[<-hZ1];exact⟨by simp,iq oQ.2.1⟩
    clear hZ1;have hz1:=P1.1.length_eq;have C2:=IH (A++Z1) X2 Y2 B mid e b w1 (by have:=kR.out;simp at this ⊢;have:=py1;have:=px2;have:=py2;omega) x2 y2 (gB oQ.1) (gB oQ.2.1) (λx hx y hy=>oQ.2.2 x (by simp[hx]) y (by simp[hy])) (by have:=R2.out;simpa[fs] using this) (by have:=kR.out;simp at this hz1 ⊢;omega) (by have:=kR.out;simp at this hz1 ⊢;omega) kR.2.2.2.2.2.2.1 kR.2.2.2.2.2.1;go_wp2_with fail
    refine Calls.mono C2 ?_;rintro er w3 ⟨rfl,Z2,Zc,Zd,hr1,hk1⟩;have R3:Hid (Rb w3 g (fs (A++Z1++Z2++B)) rest):=by unfold Hid;simpa[fs] using hr1
    have K4:=aj (K3.trans hk1);have P2:=aj (dJ (Zc) (Zd));clear hr1 hk1 C2 Zc Zd hz1;go_wp2;go_end0;have ER:=kQ P1.out.1 P2.out.1 P1.out.2 P2.out.2 CUT.out;exact⟨rfl,Z1++Z2,by simpa using ER.1,ER.2,by have:=R3.out;simpa[fs] using this,K4.out⟩
   ·have px1:=dB x1
    subst x2;have py1:=dB y1;have py2:=dB y2;simp only[aS] at hnum;have d1:¬((st:Nat):Int)<(m:Int):=by omega
    have d2:((m:Nat):Int)<(e:Int):=by omega
    have d3:((a:Nat):Int)<(st:Int):=by omega
    have d4:((st:Nat):Int)<(mid:Int):=by omega
    have d5:¬((mid:Nat):Int)<(e:Int):=by omega
    have d6:((e:Nat):Int)<(b:Int):=by omega
    clear hnum;have R1:Hid (Rb wr g (fs (A++X1++Y1++([]++Y2++B))) rest):=by have:=RX.out;unfold Hid;simpa[fs] using this
    have K2:=aj (K1);have C1:=IH A X1 Y1 ([]++Y2++B) a st mid wr (by have:=kR.out;simp at this ⊢;have:=px1;have:=py1;have:=py2;omega) x1 y1 (iq oQ.1) (iq oQ.2.1) (λx hx y hy=>oQ.2.2 x (by simp[hx]) y (by simp[hy])) R1 (by have:=kR.out;simp at this ⊢;omega) kR.1 kR.2.1 kR.2.2.2.1;go_wp2_with fail
    refine Calls.mono C1 ?_;rintro er w2 ⟨rfl,Z1,Za,Zb,hr1,hk1⟩;have R2:=aj (hr1);have K3:=aj (K2.trans hk1);have P1:=aj (dJ (Za) (Zb));clear hr1 hk1 C1 Za Zb;obtain⟨Z2,hZ2⟩:∃Z,Y2=Z:=⟨_,rfl⟩;have R3:Hid (Rb w2 g (fs (A++Z1++Z2++B)) rest):=by have:=R2.out;unfold Hid;rw[<-hZ2];simpa[fs] using this
    have K4:=aj (K3);have P2:Hid (Z2.Perm ([]++Y2)/\Z2.Pairwise lt):=by rw[<-hZ2];exact⟨by simp,gB oQ.2.1⟩
    clear hZ2;go_wp2;go_end0;have ER:=kQ P1.out.1 P2.out.1 P1.out.2 P2.out.2 CUT.out;exact⟨rfl,Z1++Z2,by simpa using ER.1,ER.2,by have:=R3.out;simpa[fs] using this,K4.out⟩
   ·have px1:=dB x1
    have px2:=dB x2;subst y1;have py2:=dB y2;simp only[aS] at hnum;have d1:((st:Nat):Int)<(m:Int):=by omega
    have d2:¬((m:Nat):Int)<(e:Int):=by omega
    have d3:((a:Nat):Int)<(st:Int):=by omega
    have d4:¬((st:Nat):Int)<(mid:Int):=by omega
    have d5:((mid:Nat):Int)<(e:Int):=by omega
    have d6:((e:Nat):Int)<(b:Int):=by omega
    clear hnum;have R1:Hid (Rb wr g (fs (A++X1++[]++(X2++Y2++B))) rest):=by have:=RX.out;unfold Hid;simpa[fs] using this
    have K2:=aj (K1);obtain⟨Z1,hZ1⟩:∃Z,X1=Z:=⟨_,rfl⟩;have R2:Hid (Rb wr g (fs (A++Z1++(X2++Y2++B))) rest):=by have:=R1.out;unfold Hid;rw[<-hZ1];simpa[fs] using this
    have K3:=aj (K2);have P1:Hid (Z1.Perm (X1++[])/\Z1.Pairwise lt):=by rw[<-hZ1];exact⟨by simp,iq oQ.1⟩
    clear hZ1;have hz1:=P1.1.length_eq;have C2:=IH (A++Z1) X2 Y2 B mid e b wr (by have:=kR.out;simp at this ⊢;have:=px1;have:=px2;have:=py2;omega) x2 y2 (gB oQ.1) (gB oQ.2.1) (λx hx y hy=>oQ.2.2 x (by simp[hx]) y (by simp[hy])) (by have:=R2.out;simpa[fs] using this) (by have:=kR.out;simp at this hz1 ⊢;omega) (by have:=kR.out;simp at this hz1 ⊢;omega) kR.2.2.2.2.2.2.1 kR.2.2.2.2.2.1;go_wp2_with fail
    refine Calls.mono C2 ?_;rintro er w3 ⟨rfl,Z2,Zc,Zd,hr1,hk1⟩;have R3:Hid (Rb w3 g (fs (A++Z1++Z2++B)) rest):=by unfold Hid;simpa[fs] using hr1
    have K4:=aj (K3.trans hk1);have P2:=aj (dJ (Zc) (Zd));clear hr1 hk1 C2 Zc Zd hz1;go_wp2;go_end0;have ER:=kQ P1.out.1 P2.out.1 P1.out.2 P2.out.2 CUT.out;exact⟨rfl,Z1++Z2,by simpa using ER.1,ER.2,by have:=R3.out;simpa[fs] using this,K4.out⟩
   ·have px1:=dB x1
    have px2:=dB x2;have py1:=dB y1;subst y2;simp only[aS] at hnum;have d1:((st:Nat):Int)<(m:Int):=by omega
    have d2:((m:Nat):Int)<(e:Int):=by omega
    have d3:((a:Nat):Int)<(st:Int):=by omega
    have d4:((st:Nat):Int)<(mid:Int):=by omega
    have d5:((mid:Nat):Int)<(e:Int):=by omega
    have d6:¬((e:Nat):Int)<(b:Int):=by omega
    clear hnum;have CR:=ng (fs (A++X1)) (fs X2) (fs Y1) (fs ([]++B)) (.func (.func 151) #[] #[]) g cap L st m e rest wr (by have:=RX.out;simpa[fs] using this) (by have:=kR.out;simp[fs] at this ⊢;omega) hn (by simpa[fs] using x2) (by simpa[fs] using y1) (by have:=kR.out;simp[fs] at this ⊢;omega) (by have:=kR.out;simp[fs] at this ⊢;omega) (by have:=kR.out;simp[fs] at this ⊢;omega);go_wp2_with fail
    refine Calls.mono CR ?_;rintro er w1 ⟨rfl,hr1,hk1⟩;have R1:Hid (Rb w1 g (fs (A++X1++Y1++(X2++[]++B))) rest):=by unfold Hid;simpa[fs] using hr1
    have K2:=aj (K1.trans hk1);clear hr1 hk1 CR;have C1:=IH A X1 Y1 (X2++[]++B) a st mid w1 (by have:=kR.out;simp at this ⊢;have:=px1;have:=py1;have:=px2;omega) x1 y1 (iq oQ.1) (iq oQ.2.1) (λx hx y hy=>oQ.2.2 x (by simp[hx]) y (by simp[hy])) R1 (by have:=kR.out;simp at this ⊢;omega) kR.1 kR.2.1 kR.2.2.2.1;go_wp2_with fail
    refine Calls.mono C1 ?_;rintro er w2 ⟨rfl,Z1,Za,Zb,hr1,hk1⟩;have R2:=aj (hr1);have K3:=aj (K2.trans hk1);have P1:=aj (dJ (Za) (Zb));clear hr1 hk1 C1 Za Zb;obtain⟨Z2,hZ2⟩:∃Z,X2=Z:=⟨_,rfl⟩;have R3:Hid (Rb w2 g (fs (A++Z1++Z2++B)) rest):=by have:=R2.out;unfold Hid;rw[<-hZ2];simpa[fs] using this
    have K4:=aj (K3);have P2:Hid (Z2.Perm (X2++[])/\Z2.Pairwise lt):=by rw[<-hZ2];exact⟨by simp,gB oQ.1⟩
    clear hZ2;go_wp2;go_end0;have ER:=kQ P1.out.1 P2.out.1 P1.out.2 P2.out.2 CUT.out;exact⟨rfl,Z1++Z2,by simpa using ER.1,ER.2,by have:=R3.out;simpa[fs] using this,K4.out⟩
   ·subst x1
    have px2:=dB x2;have py1:=dB y1;subst y2;simp only[aS] at hnum;have d1:((st:Nat):Int)<(m:Int):=by omega
    have d2:((m:Nat):Int)<(e:Int):=by omega
    have d3:¬((a:Nat):Int)<(st:Int):=by omega
    have d4:((st:Nat):Int)<(mid:Int):=by omega
    have d5:((mid:Nat):Int)<(e:Int):=by omega
    have d6:¬((e:Nat):Int)<(b:Int):=by omega
    clear hnum;have CR:=ng (fs (A++[])) (fs X2) (fs Y1) (fs ([]++B)) (.func (.func 151) #[] #[]) g cap L st m e rest wr (by have:=RX.out;simpa[fs] using this) (by have:=kR.out;simp[fs] at this ⊢;omega) hn (by simpa[fs] using x2) (by simpa[fs] using y1) (by have:=kR.out;simp[fs] at this ⊢;omega) (by have:=kR.out;simp[fs] at this ⊢;omega) (by have:=kR.out;simp[fs] at this ⊢;omega);go_wp2_with fail
    refine Calls.mono CR ?_;rintro er w1 ⟨rfl,hr1,hk1⟩;have R1:Hid (Rb w1 g (fs (A++[]++Y1++(X2++[]++B))) rest):=by unfold Hid;simpa[fs] using hr1
    have K2:=aj (K1.trans hk1);clear hr1 hk1 CR;obtain⟨Z1,hZ1⟩:∃Z,Y1=Z:=⟨_,rfl⟩;have R2:Hid (Rb w1 g (fs (A++Z1++(X2++[]++B))) rest):=by have:=R1.out;unfold Hid;rw[<-hZ1];simpa[fs] using this
    have K3:=aj (K2);have P1:Hid (Z1.Perm ([]++Y1)/\Z1.Pairwise lt):=by rw[<-hZ1];exact⟨by simp,iq oQ.2.1⟩
    clear hZ1;obtain⟨Z2,hZ2⟩:∃Z,X2=Z:=⟨_,rfl⟩;have R3:Hid (Rb w1 g (fs (A++Z1++Z2++B)) rest):=by have:=R2.out;unfold Hid;rw[<-hZ2];simpa[fs] using this
    have K4:=aj (K3);have P2:Hid (Z2.Perm (X2++[])/\Z2.Pairwise lt):=by rw[<-hZ2];exact⟨by simp,gB oQ.1⟩
    clear hZ2;go_wp2;go_end0;have ER:=kQ P1.out.1 P2.out.1 P1.out.2 P2.out.2 CUT.out;exact⟨rfl,Z1++Z2,by simpa using ER.1,ER.2,by have:=R3.out;simpa[fs] using this,K4.out⟩
   ·have px1:=dB x1
    subst x2;subst y1;have py2:=dB y2;simp only[aS] at hnum;have d1:¬((st:Nat):Int)<(m:Int):=by omega
    have d2:¬((m:Nat):Int)<(e:Int):=by omega
    have d3:((a:Nat):Int)<(st:Int):=by omega
    have d4:¬((st:Nat):Int)<(mid:Int):=by omega
    have d5:¬((mid:Nat):Int)<(e:Int):=by omega
    have d6:((e:Nat):Int)<(b:Int):=by omega
    clear hnum;have R1:Hid (Rb wr g (fs (A++X1++[]++([]++Y2++B))) rest):=by have:=RX.out;unfold Hid;simpa[fs] using this
    have K2:=aj (K1);obtain⟨Z1,hZ1⟩:∃Z,X1=Z:=⟨_,rfl⟩;have R2:Hid (Rb wr g (fs (A++Z1++([]++Y2++B))) rest):=by have:=R1.out;unfold Hid;rw[<-hZ1];simpa[fs] using this
    have K3:=aj (K2);have P1:Hid (Z1.Perm (X1++[])/\Z1.Pairwise lt):=by rw[<-hZ1];exact⟨by simp,iq oQ.1⟩
    clear hZ1;obtain⟨Z2,hZ2⟩:∃Z,Y2=Z:=⟨_,rfl⟩;have R3:Hid (Rb wr g (fs (A++Z1++Z2++B)) rest):=by have:=R2.out;unfold Hid;rw[<-hZ2];simpa[fs] using this
    have K4:=aj (K3);have P2:Hid (Z2.Perm ([]++Y2)/\Z2.Pairwise lt):=by rw[<-hZ2];exact⟨by simp,gB oQ.2.1⟩
    clear hZ2;go_wp2;go_end0;have ER:=kQ P1.1 P2.1 P1.2 P2.2 CUT;exact⟨rfl,Z1++Z2,by simpa using ER.1,ER.2,by have:=R3.out;simpa[fs] using this,K4.out⟩
  ·have hlt:((st:Nat):Int)<(r:Int):=by omega
   obtain⟨t,ht⟩:∃t,st+r=t:=⟨_,rfl⟩;obtain⟨c,hc⟩:∃c,t/2=c:=⟨_,rfl⟩;obtain⟨q,hq⟩:∃q,p-c=q:=⟨_,rfl⟩;have hb1:=HLH.out;have hb2:=HS.out;have hb3:=HP.out;have hb4:=HM.out;have hcs:st<=c/\c<r:=by omega
   have tt:((st:Nat):Int)+(r:Int)=(t:Nat):=by omega
   have wt:IntKind.i64.wrap ((t:Nat):Int)=(t:Nat):=by rw[IntKind.wrap_i64];omega
   have tc:((t:Nat):Int)/2=(c:Nat):=by omega
   have pq:((p:Nat):Int)-(c:Int)=(q:Nat):=by omega
   have wq:IntKind.i64.wrap ((q:Nat):Int)=(q:Nat):=by rw[IntKind.wrap_i64];omega
   have hqm:m<=q/\q<b:=by omega
   have hcm:a<=c/\c<m:=by omega
   obtain⟨x,hx⟩:∃x,X[c-a]? =some x:=⟨_,aH (by omega)⟩;obtain⟨y,hy⟩:∃y,Y[q-m]? =some y:=⟨_,aH (by omega)⟩;have Hx:Hid ((A++X++Y++B)[c]? =some x):=by unfold Hid;rw[aav A X Y B hb4.1 hcm.1 (by omega)];exact hx
   have Hy:Hid ((A++X++Y++B)[q]? =some y):=by unfold Hid;rw[aaw A X Y B (m:=m) (by omega) hqm.1 (by omega)];exact hy
   have IX:=aj (oQ.2.2 x (aT hx) y (aT hy));have FC:Hid (∀W,Below _ wr W->W.cell? _=some _/\W.cell? _=some _/\W.cell? _=some _/\W.cell? _=some _/\W.cell? _=some _/\W.cell? _=some _/\W.cell? _=some _/\W.cell? _=some _):=λW hW=>by
    have r:=RB.below hW RB.lt;obtain⟨x0,x1,x2,x3⟩:=r.cells (YZ Hx);obtain⟨y0,y1,y2,y3⟩:=r.cells (YZ Hy);exact⟨x0,x1,x2,x3,y0,y1,y2,y3⟩
   have CC:Hid (∀W,Below _ wr W->Calls _ 151 #[.agg _,.agg _] W λe w'=>e=.returned _/\Below _ wr w'):=λW hW=>(lC y.1 x.1 W).mono λe w' ⟨h1,h2⟩=>⟨h1,hW.trans (h2.mono hW.size)⟩
   have ec:=XP;have hcL:((c:Nat):Int)<(L:Int):=by omega
   have hqL:((q:Nat):Int)<(L:Int):=by omega
   have HC:Hid (st<=c/\c<r/\q+c=p):=⟨hcs.1,hcs.2,by omega⟩;clear hb1 hb2 hb3 hb4 ht hc hq hcs hqm hcm hx hy hst hsr hrh;go_upto_region 35 with fail
   refine eY 12 (λW=>Below wr.heap.size wr W) (by kernel_rfl) (by kernel_rfl) aB.drew ?_;simp only[List.take_succ_cons,List.take_zero,List.drop_succ_cons,List.drop_zero];refine aF (.func (.func 151) #[] #[]) (by go_simp) (λW hW=>by go_simp) ?_;go_simp;refine aF (slice (some ⟨g,0,none⟩) L cap) (by go_simp) (λW hW=>by go_simp) ?_;go_simp;refine aF (int i64 (p:Int)) (by go_simp) (λW hW=>by go_simp) ?_;go_simp;refine aF (int i64 (c:Int)) (by go_simp) (λW hW=>by go_simp) ?_;go_simp;refine aF (int i64 (q:Int)) (by go_simp) (λW hW=>by go_simp) ?_;go_simp;refine aF (.pointer (some ⟨g,q*4,none⟩)) (by go_simp) (λW hW=>by go_simp) ?_;go_simp;refine aF (.agg #[int i64 y.1.ay,int i64 y.1.unit,int i64 y.1.what,int i64 y.1.arg]) (by go_simp) (λW hW=>by obtain⟨-,-,-,-,y0,y1,y2,y3⟩:=FC W hW;go_simp) ?_;go_simp;refine aF (slice (some ⟨g,0,none⟩) L cap) (by go_simp) (λW hW=>by go_simp) ?_;go_simp;refine aF (int i64 (c:Int)) (by go_simp) (λW hW=>by go_simp) ?_;go_simp;refine aF (.pointer (some ⟨g,c*4,none⟩)) (by go_simp) (λW hW=>by go_simp) ?_;go_simp;refine aF (.agg #[int i64 x.1.ay,int i64 x.1.unit,int i64 x.1.what,int i64 x.1.arg]) (by go_simp) (λW hW=>by obtain⟨x0,x1,x2,x3,-⟩:=FC W hW;go_simp) ?_;go_simp;refine gU _ 151 _ (by go_simp) (λW hW=>by go_simp) (λW hW=>CC W hW) ?_;go_simp;intro W hW;have RW:=aj (RB.below hW RB.lt);have KW:=aj (K1.trans (Kp.of hW));by_cases hcm:rX y.1 x.1<0
   ·have LX:=aj ((zM IX).1 ((kY _ _).1 hcm))
    clear hW FC CC;go_wp2;go_roundw
    case rel=>
     obtain⟨c1,c2,c3⟩:=HC;obtain⟨s1,s2,s3⟩:=HSR;have hp:=HP.out;have eq:n-1-c=q:=by omega
     exact⟨st,c,rfl,rfl,s1,c1,by omega,F1,λ_=>⟨x,y,Hx,by rw[eq];exact Hy,LX⟩,RW,KW⟩
    case measure=>have:=HC.out;simp[intOf];omega
   ·have LX:=aj ((zN IX).1 (λh=>hcm ((kY _ _).2 h)))
    clear hW FC CC;go_wp2;go_roundw
    case rel=>
     obtain⟨c1,c2,c3⟩:=HC;obtain⟨s1,s2,s3⟩:=HSR;have hp:=HP.out;have eq:n-(c+1)=q:=by omega
     exact⟨c+1,r,rfl,rfl,by omega,by omega,s3,λ_=>⟨x,y,by rw[Nat.add_sub_cancel];exact Hx,by rw[eq];exact Hy,LX⟩,F2,RW,KW⟩
    case measure=>have:=HC.out;simp[intOf];omega
theorem Kr:∀(N:Nat) (A X Y B:List T) (g cap L a m b:Nat) (rest:List Value) (w:World),X.length+Y.length<=N->X≠[]->Y≠[]->X.Pairwise lt->Y.Pairwise lt->(∀x∈X,∀y∈Y,x.2<y.2)->Rb w g (fs (A++X++Y++B)) rest->A.length+X.length+Y.length+B.length=L->L<=1000->A.length=a->a+X.length=m->m+Y.length=b->
  Calls prog 230 #[slice (some ⟨g,0,none⟩) L cap,int i64 (a:Nat),int i64 (m:Nat),int i64 (b:Nat),.func (.func 151) #[] #[]] w (kF A (X++Y) B g rest w)
 |0,A,X,Y,B,g,cap,L,a,m,b,rest,w,hN,hX0,hY0,hX,hY,hpl,hr,hL,hn,ha,hm,hb=>by
  have:X.length=0:=by omega
  exact absurd (List.length_eq_zero_iff.1 this) hX0
 |N+1,A,X,Y,B,g,cap,L,a,m,b,rest,w,hN,hX0,hY0,hX,hY,hpl,hr,hL,hn,ha,hm,hb=>by
  by_cases hx1:X.length=1
  ·obtain⟨x,rfl⟩:=List.length_eq_one_iff.1 hx1
   refine XW A x Y B g cap L a m b rest w hY (λy hy=>hpl x (by simp) y hy) (by simpa using hr) (by simpa using hL) hn ha (by simpa using hm) hb
  by_cases hy1:Y.length=1
  ·obtain⟨y,rfl⟩:=List.length_eq_one_iff.1 hy1
   refine TD A X y B g cap L a m b rest w hX (λx hx=>hpl x hx y (by simp)) hx1 (by simpa using hr) (by simpa using hL) hn ha hm (by simpa using hb)
  have lx:2<=X.length:=by have:=List.length_pos_iff.2 hX0;omega
  have ly:2<=Y.length:=by have:=List.length_pos_iff.2 hY0;omega
  have IH:Y_ N g cap L rest:=λA X Y B a m b w h1 h2 h3 h4 h5 h6 h7 h8 h9 h10 h11=>Kr N A X Y B g cap L a m b rest w h1 h2 h3 h4 h5 h6 h7 h8 hn h9 h10 h11
  exact X_ N A X Y B g cap L a m b rest w IH hN lx ly hX hY hpl hr hL hn ha hm hb
theorem g_(A U B:List T)(g cap n:Nat)(ai bi:Int)(rest:List Value)(w:World)(hU:U.Pairwise (λx y=>x.2<y.2))(hr:Rb w g (fs (A++U++B)) rest)(hL:A.length+U.length+B.length=n)(hn:n<=1000)(ha:((A.length:Nat):Int)=ai)(hb:((A.length+U.length:Nat):Int)=bi):
  Calls prog 229 #[slice (some ⟨g,0,none⟩) n cap,int i64 ai,int i64 bi,.func (.func 151) #[] #[]] w (Dl A U B g rest w):=by
 have e:(A++U++B).length=n:=by simp;omega
 have h:=Nw A U B g cap rest w hU hr (by omega);rw[e,ha,hb] at h;exact h
theorem yA(A X Y B:List T)(g cap n:Nat)(ai mi bi:Int)(rest:List Value)(w:World)(hX0:X≠[])(hY0:Y≠[])(hX:X.Pairwise lt)(hY:Y.Pairwise lt)(hp:∀x∈X,∀y∈Y,x.2<y.2)(hr:Rb w g (fs (A++X++Y++B)) rest)(hL:A.length+X.length+Y.length+B.length=n)(hn:n<=1000)(ha:((A.length:Nat):Int)=ai)(hm:((A.length+X.length:Nat):Int)=mi)(hb:((A.length+X.length+Y.length:Nat):Int)=bi):
  Calls prog 230 #[slice (some ⟨g,0,none⟩) n cap,int i64 ai,int i64 mi,int i64 bi,.func (.func 151) #[] #[]] w (kF A (X++Y) B g rest w):=by
 have h:=Kr (X.length+Y.length) A X Y B g cap n _ _ _ rest w aN hX0 hY0 hX hY hp hr hL hn rfl rfl rfl;rw[ha,hm,hb] at h;exact h
def jP(U:List T)(g:Nat)(rest:List Value)(w:World)(e:Ending)(w':World):Prop:=e=.returned (.tuple #[])/\∃S,S.Perm U/\S.Pairwise lt/\Rb w' g (fs S) rest/\Kp g w w'
theorem fP{l:List T}(h:0<l.length):l≠[]:=List.length_pos_iff.1 h
theorem aay(U1:List T)(g cap n:Nat)(rest:List Value)(w:World)(h1:U1.length=n)(hU:(U1).Pairwise (λx y=>x.2<y.2))(hr:Rb w g (fs (U1)) rest)(hn:n<20):
  Calls prog 186 #[slice (some ⟨g,0,none⟩) n cap,int i64 (n:Nat),.func (.func 151) #[] #[]] w (jP (U1) g rest w):=by
 have R0:=aj (hr);have HU:=aj (hU);have HL:Hid (U1.length=n/\n<=60):=⟨h1,by omega⟩;have le20:¬(20:Int)<=(n:Nat):=by omega
 have lt20:¬(20:Int)<(n:Nat):=by omega
 have le40:¬(40:Int)<=(n:Nat):=by omega
 have le80:¬(80:Int)<=(n:Nat):=by omega
 have HN:=aj (hn);clear hn;clear hr hU h1;go_enter func186,ntmps186;go_wp2_with fail
 refine wp_loop_rounds 1 ?_;rw[rounds_succ];go_wp2_with fail
 have C:Calls _ _ _ _ _:=g_ ([]) U1 ([]) g cap n 0 (n:Nat) rest w (HU) (by have:=R0.out;simpa[fs] using this) (by have q1:=HL.out;have q2:=HN.out;(try simp only[aC,aS]);omega) (by have:=HL.out;omega) (by have q1:=HL.out;have q2:=HN.out;(try simp only[aC,aS]);omega) (by have q1:=HL.out;have q2:=HN.out;(try simp only[aC,aS]);omega);refine Calls.mono C ?_;clear C;rintro er v1 ⟨rfl,S1,hp,hs,hr,hk⟩;have R1:Hid (Rb v1 g (fs (S1)) rest):=by unfold Hid;simpa[fs] using hr
 have P1:Hid (S1.Perm U1/\S1.Pairwise lt):=⟨hp,hs⟩;have K1:=aj (hk);clear hp hs hr hk;go_wp2_with fail
 refine wp_loop_rounds 1 ?_;rw[rounds_succ];go_wp2_with fail
 go_wp2;go_end0;exact⟨rfl,S1,P1.1,P1.2,R1,K1⟩
theorem Yd(U1 U2:List T)(g cap n:Nat)(rest:List Value)(w:World)(h1:U1.length=20)(h2:U2.length=0)(hU:(U1++U2).Pairwise (λx y=>x.2<y.2))(hr:Rb w g (fs (U1++U2)) rest)(hn:n=20):
  Calls prog 186 #[slice (some ⟨g,0,none⟩) n cap,int i64 (n:Nat),.func (.func 151) #[] #[]] w (jP (U1++U2) g rest w):=by
 have R0:=aj (hr);have HU:=aj (hU);have HL:Hid (U1.length=20/\U2.length=0/\n<=60):=⟨h1,h2,by omega⟩;have le20:(20:Int)<=(n:Nat):=by omega
 have le40:¬(40:Int)<=(n:Nat):=by omega
 have lt20:¬(20:Int)<(n:Nat):=by omega
 have le80:¬(80:Int)<=(n:Nat):=by omega
 have HN:=aj (hn);clear hn;clear hr hU h1 h2;go_enter func186,ntmps186;go_wp2_with fail
 refine wp_loop_rounds 2 ?_;rw[rounds_succ];go_wp2_with fail
 have C:Calls _ _ _ _ _:=g_ ([]) U1 (U2) g cap n 0 20 rest w ((List.pairwise_append.1 HU).1) (by have:=R0.out;simpa[fs] using this) (by have q1:=HL.out;have q2:=HN.out;(try simp only[aC,aS]);omega) (by have:=HL.out;omega) (by have q1:=HL.out;have q2:=HN.out;(try simp only[aC,aS]);omega) (by have q1:=HL.out;have q2:=HN.out;(try simp only[aC,aS]);omega);refine Calls.mono C ?_;clear C;rintro er v1 ⟨rfl,S1,hp,hs,hr,hk⟩;have R1:Hid (Rb v1 g (fs (S1++U2)) rest):=by unfold Hid;simpa[fs] using hr
 have P1:Hid (S1.Perm U1/\S1.Pairwise lt):=⟨hp,hs⟩;have K1:=aj (hk);clear hp hs hr hk;go_wp2_with fail
 rw[rounds_succ];go_wp2_with fail
 have C:Calls _ _ _ _ _:=g_ (S1) U2 ([]) g cap n 20 (n:Nat) rest v1 ((List.pairwise_append.1 HU).2.1) (by have:=R1.out;simpa[fs] using this) (by have q1:=HL.out;have q2:=HN.out;have z1:=P1.1.length_eq;(try simp only[aC,aS]);omega) (by have:=HL.out;omega) (by have q1:=HL.out;have q2:=HN.out;have z1:=P1.1.length_eq;(try simp only[aC,aS]);omega) (by have q1:=HL.out;have q2:=HN.out;have z1:=P1.1.length_eq;(try simp only[aC,aS]);omega);refine Calls.mono C ?_;clear C;rintro er v2 ⟨rfl,S2,hp,hs,hr,hk⟩;have R2:Hid (Rb v2 g (fs (S1++S2)) rest):=by unfold Hid;simpa[fs] using hr
 have P2:Hid (S2.Perm U2/\S2.Pairwise lt):=⟨hp,hs⟩;have K2:=aj (K1.trans hk);clear hp hs hr hk;go_wp2_with fail
 refine wp_loop_rounds 1 ?_;rw[rounds_succ];go_wp2_with fail
 go_wp2;go_end0;have eS2:S2=[]:=List.length_eq_zero_iff.1 (by have q1:=HL.out;have q2:=HN.out;have z:=P2.1.length_eq;omega);have eU2:U2=[]:=List.length_eq_zero_iff.1 (by have q1:=HL.out;have q2:=HN.out;omega);refine⟨rfl,S1,?_,P1.2,?_,K2⟩
 ·have h:=P1.out.1
  simpa[eU2] using h
 ·have h:=R2.out
  rw[eS2] at h;simpa using h
theorem Ye(U1 U2:List T)(g cap n:Nat)(rest:List Value)(w:World)(h1:U1.length=20)(h2:U2.length=n-20)(hU:(U1++U2).Pairwise (λx y=>x.2<y.2))(hr:Rb w g (fs (U1++U2)) rest)(hn:20<n/\n<40):
  Calls prog 186 #[slice (some ⟨g,0,none⟩) n cap,int i64 (n:Nat),.func (.func 151) #[] #[]] w (jP (U1++U2) g rest w):=by
 have R0:=aj (hr);have HU:=aj (hU);have HL:Hid (U1.length=20/\U2.length=n-20/\n<=60):=⟨h1,h2,by omega⟩;have le20:(20:Int)<=(n:Nat):=by omega
 have le40:¬(40:Int)<=(n:Nat):=by omega
 have lt20:(20:Int)<(n:Nat):=by omega
 have lt40:¬(40:Int)<(n:Nat):=by omega
 have le80:¬(80:Int)<=(n:Nat):=by omega
 have HN:=aj (hn);clear hn;clear hr hU h1 h2;go_enter func186,ntmps186;go_wp2_with fail
 refine wp_loop_rounds 2 ?_;rw[rounds_succ];go_wp2_with fail
 have C:Calls _ _ _ _ _:=g_ ([]) U1 (U2) g cap n 0 20 rest w ((List.pairwise_append.1 HU).1) (by have:=R0.out;simpa[fs] using this) (by have q1:=HL.out;have q2:=HN.out;(try simp only[aC,aS]);omega) (by have:=HL.out;omega) (by have q1:=HL.out;have q2:=HN.out;(try simp only[aC,aS]);omega) (by have q1:=HL.out;have q2:=HN.out;(try simp only[aC,aS]);omega);refine Calls.mono C ?_;clear C;rintro er v1 ⟨rfl,S1,hp,hs,hr,hk⟩;have R1:Hid (Rb v1 g (fs (S1++U2)) rest):=by unfold Hid;simpa[fs] using hr
 have P1:Hid (S1.Perm U1/\S1.Pairwise lt):=⟨hp,hs⟩;have K1:=aj (hk);clear hp hs hr hk;go_wp2_with fail
 rw[rounds_succ];go_wp2_with fail
 have C:Calls _ _ _ _ _:=g_ (S1) U2 ([]) g cap n 20 (n:Nat) rest v1 ((List.pairwise_append.1 HU).2.1) (by have:=R1.out;simpa[fs] using this) (by have q1:=HL.out;have q2:=HN.out;have z1:=P1.1.length_eq;(try simp only[aC,aS]);omega) (by have:=HL.out;omega) (by have q1:=HL.out;have q2:=HN.out;have z1:=P1.1.length_eq;(try simp only[aC,aS]);omega) (by have q1:=HL.out;have q2:=HN.out;have z1:=P1.1.length_eq;(try simp only[aC,aS]);omega);refine Calls.mono C ?_;clear C;rintro er v2 ⟨rfl,S2,hp,hs,hr,hk⟩;have R2:Hid (Rb v2 g (fs (S1++S2)) rest):=by unfold Hid;simpa[fs] using hr
 have P2:Hid (S2.Perm U2/\S2.Pairwise lt):=⟨hp,hs⟩;have K2:=aj (K1.trans hk);clear hp hs hr hk;go_wp2_with fail
 refine wp_loop_rounds 2 ?_;rw[rounds_succ];go_wp2_with fail
 refine wp_loop_rounds 1 ?_;rw[rounds_succ];go_wp2_with fail
 have TG:Hid (∀x∈S1,∀y∈S2,x.2<y.2):=λx hx y hy=>by have h1:=P1.1.mem_iff.1 hx;have h2:=P2.1.mem_iff.1 hy;have h3:=HU.out;have e:(U1)++(U2)++([])=U1++U2:=(by simp);rw[<-e,List.pairwise_append] at h3;exact(List.pairwise_append.1 h3.1).2.2 x h1 y h2
 have C:Calls _ _ _ _ _:=yA ([]) S1 S2 ([]) g cap n 0 20 (n:Nat) rest v2 (fP (by have q1:=HL.out;have q2:=HN.out;have z0:=P1.1.length_eq;have z1:=P2.1.length_eq;(try simp only[aC] at z0 z1);(try simp only[aC,aS]);omega)) (fP (by have q1:=HL.out;have q2:=HN.out;have z0:=P1.1.length_eq;have z1:=P2.1.length_eq;(try simp only[aC] at z0 z1);(try simp only[aC,aS]);omega)) P1.2 P2.2 TG (by have:=R2.out;simpa[fs] using this) (by have q1:=HL.out;have q2:=HN.out;have z0:=P1.1.length_eq;have z1:=P2.1.length_eq;(try simp only[aC] at z0 z1);(try simp only[aC,aS]);omega) (by have:=HL.out;omega) (by have q1:=HL.out;have q2:=HN.out;have z0:=P1.1.length_eq;have z1:=P2.1.length_eq;(try simp only[aC] at z0 z1);(try simp only[aC,aS]);omega) (by have q1:=HL.out;have q2:=HN.out;have z0:=P1.1.length_eq;have z1:=P2.1.length_eq;(try simp only[aC] at z0 z1);(try simp only[aC,aS]);omega) (by have q1:=HL.out;have q2:=HN.out;have z0:=P1.1.length_eq;have z1:=P2.1.length_eq;(try simp only[aC] at z0 z1);(try simp only[aC,aS]);omega);refine Calls.mono C ?_;clear C;rintro er v3 ⟨rfl,S3,hp,hs,hr,hk⟩;have R3:Hid (Rb v3 g (fs (S3)) rest):=by unfold Hid;simpa[fs] using hr
 have P3:Hid (S3.Perm (U1++U2)/\S3.Pairwise lt):=⟨hp.trans (P1.1.append P2.1),hs⟩;have K3:=aj (K2.trans hk);clear hp hs hr hk TG;go_wp2_with fail
 rw[rounds_succ];go_wp2_with fail
 go_wp2;go_end0;exact⟨rfl,S3,P3.1,P3.2,R3,K3⟩
theorem Yf(U1 U2 U3:List T)(g cap n:Nat)(rest:List Value)(w:World)(h1:U1.length=20)(h2:U2.length=20)(h3:U3.length=0)(hU:(U1++U2++U3).Pairwise (λx y=>x.2<y.2))(hr:Rb w g (fs (U1++U2++U3)) rest)(hn:n=40):
  Calls prog 186 #[slice (some ⟨g,0,none⟩) n cap,int i64 (n:Nat),.func (.func 151) #[] #[]] w (jP (U1++U2++U3) g rest w):=by
 have R0:=aj (hr);have HU:=aj (hU);have HL:Hid (U1.length=20/\U2.length=20/\U3.length=0/\n<=60):=⟨h1,h2,h3,by omega⟩;have le20:(20:Int)<=(n:Nat):=by omega
 have le40:(40:Int)<=(n:Nat):=by omega
 have le60:¬(60:Int)<=(n:Nat):=by omega
 have lt20:(20:Int)<(n:Nat):=by omega
 have lt40:¬(40:Int)<(n:Nat):=by omega
 have le80:¬(80:Int)<=(n:Nat):=by omega
 have HN:=aj (hn);clear hn;clear hr hU h1 h2 h3;go_enter func186,ntmps186;go_wp2_with fail
 refine wp_loop_rounds 3 ?_;rw[rounds_succ];go_wp2_with fail
 have C:Calls _ _ _ _ _:=g_ ([]) U1 (U2++U3) g cap n 0 20 rest w ((List.pairwise_append.1 (List.pairwise_append.1 HU).1).1) (by have:=R0.out;simpa[fs] using this) (by have q1:=HL.out;have q2:=HN.out;(try simp only[aC,aS]);omega) (by have:=HL.out;omega) (by have q1:=HL.out;have q2:=HN.out;(try simp only[aC,aS]);omega) (by have q1:=HL.out;have q2:=HN.out;(try simp only[aC,aS]);omega);refine Calls.mono C ?_;clear C;rintro er v1 ⟨rfl,S1,hp,hs,hr,hk⟩;have R1:Hid (Rb v1 g (fs (S1++U2++U3)) rest):=by unfold Hid;simpa[fs] using hr
 have P1:Hid (S1.Perm U1/\S1.Pairwise lt):=⟨hp,hs⟩;have K1:=aj (hk);clear hp hs hr hk;go_wp2_with fail
 rw[rounds_succ];go_wp2_with fail
 have C:Calls _ _ _ _ _:=g_ (S1) U2 (U3) g cap n 20 40 rest v1 ((List.pairwise_append.1 (List.pairwise_append.1 HU).1).2.1) (by have:=R1.out;simpa[fs] using this) (by have q1:=HL.out;have q2:=HN.out;have z1:=P1.1.length_eq;(try simp only[aC,aS]);omega) (by have:=HL.out;omega) (by have q1:=HL.out;have q2:=HN.out;have z1:=P1.1.length_eq;(try simp only[aC,aS]);omega) (by have q1:=HL.out;have q2:=HN.out;have z1:=P1.1.length_eq;(try simp only[aC,aS]);omega);refine Calls.mono C ?_;clear C;rintro er v2 ⟨rfl,S2,hp,hs,hr,hk⟩;have R2:Hid (Rb v2 g (fs (S1++S2++U3)) rest):=by unfold Hid;simpa[fs] using hr
 have P2:Hid (S2.Perm U2/\S2.Pairwise lt):=⟨hp,hs⟩;have K2:=aj (K1.trans hk);clear hp hs hr hk;go_wp2_with fail
 rw[rounds_succ];go_wp2_with fail
 have C:Calls _ _ _ _ _:=g_ (S1++S2) U3 ([]) g cap n 40 (n:Nat) rest v2 ((List.pairwise_append.1 HU).2.1) (by have:=R2.out;simpa[fs] using this) (by have q1:=HL.out;have q2:=HN.out;have z1:=P1.1.length_eq;have z2:=P2.1.length_eq;(try simp only[aC,aS]);omega) (by have:=HL.out;omega) (by have q1:=HL.out;have q2:=HN.out;have z1:=P1.1.length_eq;have z2:=P2.1.length_eq;(try simp only[aC,aS]);omega) (by have q1:=HL.out;have q2:=HN.out;have z1:=P1.1.length_eq;have z2:=P2.1.length_eq;(try simp only[aC,aS]);omega);refine Calls.mono C ?_;clear C;rintro er v3 ⟨rfl,S3,hp,hs,hr,hk⟩;have R3:Hid (Rb v3 g (fs (S1++S2++S3)) rest):=by unfold Hid;simpa[fs] using hr
 have P3:Hid (S3.Perm U3/\S3.Pairwise lt):=⟨hp,hs⟩;have K3:=aj (K2.trans hk);clear hp hs hr hk;go_wp2_with fail
 refine wp_loop_rounds 2 ?_;rw[rounds_succ];go_wp2_with fail
 refine wp_loop_rounds 2 ?_;rw[rounds_succ];go_wp2_with fail
 have TG:Hid (∀x∈S1,∀y∈S2,x.2<y.2):=λx hx y hy=>by have h1:=P1.1.mem_iff.1 hx;have h2:=P2.1.mem_iff.1 hy;have h3:=HU.out;have e:(U1)++(U2)++(U3)=U1++U2++U3:=(by simp);rw[<-e,List.pairwise_append] at h3;exact(List.pairwise_append.1 h3.1).2.2 x h1 y h2
 have C:Calls _ _ _ _ _:=yA ([]) S1 S2 (S3) g cap n 0 20 40 rest v3 (fP (by have q1:=HL.out;have q2:=HN.out;have z0:=P1.1.length_eq;have z1:=P2.1.length_eq;have z2:=P3.1.length_eq;(try simp only[aC] at z0 z1 z2);(try simp only[aC,aS]);omega)) (fP (by have q1:=HL.out;have q2:=HN.out;have z0:=P1.1.length_eq;have z1:=P2.1.length_eq;have z2:=P3.1.length_eq;(try simp only[aC] at z0 z1 z2);(try simp only[aC,aS]);omega)) P1.2 P2.2 TG (by have:=R3.out;simpa[fs] using this) (by have q1:=HL.out;have q2:=HN.out;have z0:=P1.1.length_eq;have z1:=P2.1.length_eq;have z2:=P3.1.length_eq;(try simp only[aC] at z0 z1 z2);(try simp only[aC,aS]);omega) (by have:=HL.out;omega) (by have q1:=HL.out;have q2:=HN.out;have z0:=P1.1.length_eq;have z1:=P2.1.length_eq;have z2:=P3.1.length_eq;(try simp only[aC] at z0 z1 z2);(try simp only[aC,aS]);omega) (by have q1:=HL.out;have q2:=HN.out;have z0:=P1.1.length_eq;have z1:=P2.1.length_eq;have z2:=P3.1.length_eq;(try simp only[aC] at z0 z1 z2);(try simp only[aC,aS]);omega) (by have q1:=HL.out;have q2:=HN.out;have z0:=P1.1.length_eq;have z1:=P2.1.length_eq;have z2:=P3.1.length_eq;(try simp only[aC] at z0 z1 z2);(try simp only[aC,aS]);omega);refine Calls.mono C ?_;clear C;rintro er v4 ⟨rfl,S4,hp,hs,hr,hk⟩;have R4:Hid (Rb v4 g (fs (S4++S3)) rest):=by unfold Hid;simpa[fs] using hr
 have P4:Hid (S4.Perm (U1++U2)/\S4.Pairwise lt):=⟨hp.trans (P1.1.append P2.1),hs⟩;have K4:=aj (K3.trans hk);clear hp hs hr hk TG;go_wp2_with fail
 rw[rounds_succ];go_wp2_with fail
 rw[rounds_succ];go_wp2_with fail
 go_wp2;go_end0;have eS3:S3=[]:=List.length_eq_zero_iff.1 (by have q1:=HL.out;have q2:=HN.out;have z:=P3.1.length_eq;omega);have eU3:U3=[]:=List.length_eq_zero_iff.1 (by have q1:=HL.out;have q2:=HN.out;omega);refine⟨rfl,S4,?_,P4.2,?_,K4⟩
 ·have h:=P4.out.1
  simpa[eU3] using h
 ·have h:=R4.out
  rw[eS3] at h;simpa using h
theorem Yg(U1 U2 U3:List T)(g cap n:Nat)(rest:List Value)(w:World)(h1:U1.length=20)(h2:U2.length=20)(h3:U3.length=n-40)(hU:(U1++U2++U3).Pairwise (λx y=>x.2<y.2))(hr:Rb w g (fs (U1++U2++U3)) rest)(hn:40<n/\n<60):
  Calls prog 186 #[slice (some ⟨g,0,none⟩) n cap,int i64 (n:Nat),.func (.func 151) #[] #[]] w (jP (U1++U2++U3) g rest w):=by
 have R0:=aj (hr);have HU:=aj (hU);have HL:Hid (U1.length=20/\U2.length=20/\U3.length=n-40/\n<=60):=⟨h1,h2,h3,by omega⟩;have le20:(20:Int)<=(n:Nat):=by omega
 have le40:(40:Int)<=(n:Nat):=by omega
 have le60:¬(60:Int)<=(n:Nat):=by omega
 have lt20:(20:Int)<(n:Nat):=by omega
 have lt40:(40:Int)<(n:Nat):=by omega
 have lt80:¬(80:Int)<(n:Nat):=by omega
 have le80:¬(80:Int)<=(n:Nat):=by omega
 have HN:=aj (hn);clear hn;clear hr hU h1 h2 h3;go_enter func186,ntmps186;go_wp2_with fail
 refine wp_loop_rounds 3 ?_;rw[rounds_succ];go_wp2_with fail
 have C:Calls _ _ _ _ _:=g_ ([]) U1 (U2++U3) g cap n 0 20 rest w ((List.pairwise_append.1 (List.pairwise_append.1 HU).1).1) (by have:=R0.out;simpa[fs] using this) (by have q1:=HL.out;have q2:=HN.out;(try simp only[aC,aS]);omega) (by have:=HL.out;omega) (by have q1:=HL.out;have q2:=HN.out;(try simp only[aC,aS]);omega) (by have q1:=HL.out;have q2:=HN.out;(try simp only[aC,aS]);omega);refine Calls.mono C ?_;clear C;rintro er v1 ⟨rfl,S1,hp,hs,hr,hk⟩;have R1:Hid (Rb v1 g (fs (S1++U2++U3)) rest):=by unfold Hid;simpa[fs] using hr
 have P1:Hid (S1.Perm U1/\S1.Pairwise lt):=⟨hp,hs⟩;have K1:=aj (hk);clear hp hs hr hk;go_wp2_with fail
 rw[rounds_succ];go_wp2_with fail
 have C:Calls _ _ _ _ _:=g_ (S1) U2 (U3) g cap n 20 40 rest v1 ((List.pairwise_append.1 (List.pairwise_append.1 HU).1).2.1) (by have:=R1.out;simpa[fs] using this) (by have q1:=HL.out;have q2:=HN.out;have z1:=P1.1.length_eq;(try simp only[aC,aS]);omega) (by have:=HL.out;omega) (by have q1:=HL.out;have q2:=HN.out;have z1:=P1.1.length_eq;(try simp only[aC,aS]);omega) (by have q1:=HL.out;have q2:=HN.out;have z1:=P1.1.length_eq;(try simp only[aC,aS]);omega);refine Calls.mono C ?_;clear C;rintro er v2 ⟨rfl,S2,hp,hs,hr,hk⟩;have R2:Hid (Rb v2 g (fs (S1++S2++U3)) rest):=by unfold Hid;simpa[fs] using hr
 have P2:Hid (S2.Perm U2/\S2.Pairwise lt):=⟨hp,hs⟩;have K2:=aj (K1.trans hk);clear hp hs hr hk;go_wp2_with fail
 rw[rounds_succ];go_wp2_with fail
 have C:Calls _ _ _ _ _:=g_ (S1++S2) U3 ([]) g cap n 40 (n:Nat) rest v2 ((List.pairwise_append.1 HU).2.1) (by have:=R2.out;simpa[fs] using this) (by have q1:=HL.out;have q2:=HN.out;have z1:=P1.1.length_eq;have z2:=P2.1.length_eq;(try simp only[aC,aS]);omega) (by have:=HL.out;omega) (by have q1:=HL.out;have q2:=HN.out;have z1:=P1.1.length_eq;have z2:=P2.1.length_eq;(try simp only[aC,aS]);omega) (by have q1:=HL.out;have q2:=HN.out;have z1:=P1.1.length_eq;have z2:=P2.1.length_eq;(try simp only[aC,aS]);omega);refine Calls.mono C ?_;clear C;rintro er v3 ⟨rfl,S3,hp,hs,hr,hk⟩;have R3:Hid (Rb v3 g (fs (S1++S2++S3)) rest):=by unfold Hid;simpa[fs] using hr
 have P3:Hid (S3.Perm U3/\S3.Pairwise lt):=⟨hp,hs⟩;have K3:=aj (K2.trans hk);clear hp hs hr hk;go_wp2_with fail
 refine wp_loop_rounds 3 ?_;rw[rounds_succ];go_wp2_with fail
 refine wp_loop_rounds 2 ?_;rw[rounds_succ];go_wp2_with fail
 have TG:Hid (∀x∈S1,∀y∈S2,x.2<y.2):=λx hx y hy=>by have h1:=P1.1.mem_iff.1 hx;have h2:=P2.1.mem_iff.1 hy;have h3:=HU.out;have e:(U1)++(U2)++(U3)=U1++U2++U3:=(by simp);rw[<-e,List.pairwise_append] at h3;exact(List.pairwise_append.1 h3.1).2.2 x h1 y h2
 have C:Calls _ _ _ _ _:=yA ([]) S1 S2 (S3) g cap n 0 20 40 rest v3 (fP (by have q1:=HL.out;have q2:=HN.out;have z0:=P1.1.length_eq;have z1:=P2.1.length_eq;have z2:=P3.1.length_eq;(try simp only[aC] at z0 z1 z2);(try simp only[aC,aS]);omega)) (fP (by have q1:=HL.out;have q2:=HN.out;have z0:=P1.1.length_eq;have z1:=P2.1.length_eq;have z2:=P3.1.length_eq;(try simp only[aC] at z0 z1 z2);(try simp only[aC,aS]);omega)) P1.2 P2.2 TG (by have:=R3.out;simpa[fs] using this) (by have q1:=HL.out;have q2:=HN.out;have z0:=P1.1.length_eq;have z1:=P2.1.length_eq;have z2:=P3.1.length_eq;(try simp only[aC] at z0 z1 z2);(try simp only[aC,aS]);omega) (by have:=HL.out;omega) (by have q1:=HL.out;have q2:=HN.out;have z0:=P1.1.length_eq;have z1:=P2.1.length_eq;have z2:=P3.1.length_eq;(try simp only[aC] at z0 z1 z2);(try simp only[aC,aS]);omega) (by have q1:=HL.out;have q2:=HN.out;have z0:=P1.1.length_eq;have z1:=P2.1.length_eq;have z2:=P3.1.length_eq;(try simp only[aC] at z0 z1 z2);(try simp only[aC,aS]);omega) (by have q1:=HL.out;have q2:=HN.out;have z0:=P1.1.length_eq;have z1:=P2.1.length_eq;have z2:=P3.1.length_eq;(try simp only[aC] at z0 z1 z2);(try simp only[aC,aS]);omega);refine Calls.mono C ?_;clear C;rintro er v4 ⟨rfl,S4,hp,hs,hr,hk⟩;have R4:Hid (Rb v4 g (fs (S4++S3)) rest):=by unfold Hid;simpa[fs] using hr
 have P4:Hid (S4.Perm (U1++U2)/\S4.Pairwise lt):=⟨hp.trans (P1.1.append P2.1),hs⟩;have K4:=aj (K3.trans hk);clear hp hs hr hk TG;go_wp2_with fail
 rw[rounds_succ];go_wp2_with fail
 rw[rounds_succ];go_wp2_with fail
 refine wp_loop_rounds 1 ?_;rw[rounds_succ];go_wp2_with fail
 have TG:Hid (∀x∈S4,∀y∈S3,x.2<y.2):=λx hx y hy=>by have h1:=P4.1.mem_iff.1 hx;have h2:=P3.1.mem_iff.1 hy;have h3:=HU.out;have e:(U1++U2)++(U3)++([])=U1++U2++U3:=(by simp);rw[<-e,List.pairwise_append] at h3;exact(List.pairwise_append.1 h3.1).2.2 x h1 y h2
 have C:Calls _ _ _ _ _:=yA ([]) S4 S3 ([]) g cap n 0 40 (n:Nat) rest v4 (fP (by have q1:=HL.out;have q2:=HN.out;have z0:=P4.1.length_eq;have z1:=P3.1.length_eq;(try simp only[aC] at z0 z1);(try simp only[aC,aS]);omega)) (fP (by have q1:=HL.out;have q2:=HN.out;have z0:=P4.1.length_eq;have z1:=P3.1.length_eq;(try simp only[aC] at z0 z1);(try simp only[aC,aS]);omega)) P4.2 P3.2 TG (by have:=R4.out;simpa[fs] using this) (by have q1:=HL.out;have q2:=HN.out;have z0:=P4.1.length_eq;have z1:=P3.1.length_eq;(try simp only[aC] at z0 z1);(try simp only[aC,aS]);omega) (by have:=HL.out;omega) (by have q1:=HL.out;have q2:=HN.out;have z0:=P4.1.length_eq;have z1:=P3.1.length_eq;(try simp only[aC] at z0 z1);(try simp only[aC,aS]);omega) (by have q1:=HL.out;have q2:=HN.out;have z0:=P4.1.length_eq;have z1:=P3.1.length_eq;(try simp only[aC] at z0 z1);(try simp only[aC,aS]);omega) (by have q1:=HL.out;have q2:=HN.out;have z0:=P4.1.length_eq;have z1:=P3.1.length_eq;(try simp only[aC] at z0 z1);(try simp only[aC,aS]);omega);refine Calls.mono C ?_;clear C;rintro er v5 ⟨rfl,S5,hp,hs,hr,hk⟩;have R5:Hid (Rb v5 g (fs (S5)) rest):=by unfold Hid;simpa[fs] using hr
 have P5:Hid (S5.Perm ((U1++U2)++U3)/\S5.Pairwise lt):=⟨hp.trans (P4.1.append P3.1),hs⟩;have K5:=aj (K4.trans hk);clear hp hs hr hk TG;go_wp2_with fail
 rw[rounds_succ];go_wp2_with fail
 go_wp2;go_end0;exact⟨rfl,S5,P5.1,P5.2,R5,K5⟩
theorem aaz(U1 U2 U3 U4:List T)(g cap n:Nat)(rest:List Value)(w:World)(h1:U1.length=20)(h2:U2.length=20)(h3:U3.length=20)(h4:U4.length=0)(hU:(U1++U2++U3++U4).Pairwise (λx y=>x.2<y.2))(hr:Rb w g (fs (U1++U2++U3++U4)) rest)(hn:n=60):
  Calls prog 186 #[slice (some ⟨g,0,none⟩) n cap,int i64 (n:Nat),.func (.func 151) #[] #[]] w (jP (U1++U2++U3++U4) g rest w):=by
 have R0:=aj (hr);have HU:=aj (hU);have HL:Hid (U1.length=20/\U2.length=20/\U3.length=20/\U4.length=0/\n<=60):=⟨h1,h2,h3,h4,by omega⟩;have le20:(20:Int)<=(n:Nat):=by omega
 have le40:(40:Int)<=(n:Nat):=by omega
 have le60:(60:Int)<=(n:Nat):=by omega
 have le80:¬(80:Int)<=(n:Nat):=by omega
 have lt20:(20:Int)<(n:Nat):=by omega
 have lt40:(40:Int)<(n:Nat):=by omega
 have lt80:¬(80:Int)<(n:Nat):=by omega
 have lt60:¬(60:Int)<(n:Nat):=by omega
 have HN:=aj (hn);clear hn;clear hr hU h1 h2 h3 h4;go_enter func186,ntmps186;go_wp2_with fail
 refine wp_loop_rounds 4 ?_;rw[rounds_succ];go_wp2_with fail
 have C:Calls _ _ _ _ _:=g_ ([]) U1 (U2++U3++U4) g cap n 0 20 rest w ((List.pairwise_append.1 (List.pairwise_append.1 (List.pairwise_append.1 HU).1).1).1) (by have:=R0.out;simpa[fs] using this) (by have q1:=HL.out;have q2:=HN.out;(try simp only[aC,aS]);omega) (by have:=HL.out;omega) (by have q1:=HL.out;have q2:=HN.out;(try simp only[aC,aS]);omega) (by have q1:=HL.out;have q2:=HN.out;(try simp only[aC,aS]);omega);refine Calls.mono C ?_;clear C;rintro er v1 ⟨rfl,S1,hp,hs,hr,hk⟩;have R1:Hid (Rb v1 g (fs (S1++U2++U3++U4)) rest):=by unfold Hid;simpa[fs] using hr
 have P1:Hid (S1.Perm U1/\S1.Pairwise lt):=⟨hp,hs⟩;have K1:=aj (hk);clear hp hs hr hk;go_wp2_with fail
 rw[rounds_succ];go_wp2_with fail
 have C:Calls _ _ _ _ _:=g_ (S1) U2 (U3++U4) g cap n 20 40 rest v1 ((List.pairwise_append.1 (List.pairwise_append.1 (List.pairwise_append.1 HU).1).1).2.1) (by have:=R1.out;simpa[fs] using this) (by have q1:=HL.out;have q2:=HN.out;have z1:=P1.1.length_eq;(try simp only[aC,aS]);omega) (by have:=HL.out;omega) (by have q1:=HL.out;have q2:=HN.out;have z1:=P1.1.length_eq;(try simp only[aC,aS]);omega) (by have q1:=HL.out;have q2:=HN.out;have z1:=P1.1.length_eq;(try simp only[aC,aS]);omega);refine Calls.mono C ?_;clear C;rintro er v2 ⟨rfl,S2,hp,hs,hr,hk⟩;have R2:Hid (Rb v2 g (fs (S1++S2++U3++U4)) rest):=by unfold Hid;simpa[fs] using hr
 have P2:Hid (S2.Perm U2/\S2.Pairwise lt):=⟨hp,hs⟩;have K2:=aj (K1.trans hk);clear hp hs hr hk;go_wp2_with fail
 rw[rounds_succ];go_wp2_with fail
 have C:Calls _ _ _ _ _:=g_ (S1++S2) U3 (U4) g cap n 40 60 rest v2 ((List.pairwise_append.1 (List.pairwise_append.1 HU).1).2.1) (by have:=R2.out;simpa[fs] using this) (by have q1:=HL.out;have q2:=HN.out;have z1:=P1.1.length_eq;have z2:=P2.1.length_eq;(try simp only[aC,aS]);omega) (by have:=HL.out;omega) (by have q1:=HL.out;have q2:=HN.out;have z1:=P1.1.length_eq;have z2:=P2.1.length_eq;(try simp only[aC,aS]);omega) (by have q1:=HL.out;have q2:=HN.out;have z1:=P1.1.length_eq;have z2:=P2.1.length_eq;(try simp only[aC,aS]);omega);refine Calls.mono C ?_;clear C;rintro er v3 ⟨rfl,S3,hp,hs,hr,hk⟩;have R3:Hid (Rb v3 g (fs (S1++S2++S3++U4)) rest):=by unfold Hid;simpa[fs] using hr
 have P3:Hid (S3.Perm U3/\S3.Pairwise lt):=⟨hp,hs⟩;have K3:=aj (K2.trans hk);clear hp hs hr hk;go_wp2_with fail
 rw[rounds_succ];go_wp2_with fail
 have C:Calls _ _ _ _ _:=g_ (S1++S2++S3) U4 ([]) g cap n 60 (n:Nat) rest v3 ((List.pairwise_append.1 HU).2.1) (by have:=R3.out;simpa[fs] using this) (by have q1:=HL.out;have q2:=HN.out;have z1:=P1.1.length_eq;have z2:=P2.1.length_eq;have z3:=P3.1.length_eq;(try simp only[aC,aS]);omega) (by have:=HL.out;omega) (by have q1:=HL.out;have q2:=HN.out;have z1:=P1.1.length_eq;have z2:=P2.1.length_eq;have z3:=P3.1.length_eq;(try simp only[aC,aS]);omega) (by have q1:=HL.out;have q2:=HN.out;have z1:=P1.1.length_eq;have z2:=P2.1.length_eq;have z3:=P3.1.length_eq;(try simp only[aC,aS]);omega);refine Calls.mono C ?_;clear C;rintro er v4 ⟨rfl,S4,hp,hs,hr,hk⟩;have R4:Hid (Rb v4 g (fs (S1++S2++S3++S4)) rest):=by unfold Hid;simpa[fs] using hr
 have P4:Hid (S4.Perm U4/\S4.Pairwise lt):=⟨hp,hs⟩;have K4:=aj (K3.trans hk);clear hp hs hr hk;go_wp2_with fail
 refine wp_loop_rounds 3 ?_;rw[rounds_succ];go_wp2_with fail
 refine wp_loop_rounds 2 ?_;rw[rounds_succ];go_wp2_with fail
 have TG:Hid (∀x∈S1,∀y∈S2,x.2<y.2):=λx hx y hy=>by have h1:=P1.1.mem_iff.1 hx;have h2:=P2.1.mem_iff.1 hy;have h3:=HU.out;have e:(U1)++(U2)++(U3++U4)=U1++U2++U3++U4:=(by simp);rw[<-e,List.pairwise_append] at h3;exact(List.pairwise_append.1 h3.1).2.2 x h1 y h2
 have C:Calls _ _ _ _ _:=yA ([]) S1 S2 (S3++S4) g cap n 0 20 40 rest v4 (fP (by have q1:=HL.out;have q2:=HN.out;have z0:=P1.1.length_eq;have z1:=P2.1.length_eq;have z2:=P3.1.length_eq;have z3:=P4.1.length_eq;(try simp only[aC] at z0 z1 z2 z3);(try simp only[aC,aS]);omega)) (fP (by have q1:=HL.out;have q2:=HN.out;have z0:=P1.1.length_eq;have z1:=P2.1.length_eq;have z2:=P3.1.length_eq;have z3:=P4.1.length_eq;(try simp only[aC] at z0 z1 z2 z3);(try simp only[aC,aS]);omega)) P1.2 P2.2 TG (by have:=R4.out;simpa[fs] using this) (by have q1:=HL.out;have q2:=HN.out;have z0:=P1.1.length_eq;have z1:=P2.1.length_eq;have z2:=P3.1.length_eq;have z3:=P4.1.length_eq;(try simp only[aC] at z0 z1 z2 z3);(try simp only[aC,aS]);omega) (by have:=HL.out;omega) (by have q1:=HL.out;have q2:=HN.out;have z0:=P1.1.length_eq;have z1:=P2.1.length_eq;have z2:=P3.1.length_eq;have z3:=P4.1.length_eq;(try simp only[aC] at z0 z1 z2 z3);(try simp only[aC,aS]);omega) (by have q1:=HL.out;have q2:=HN.out;have z0:=P1.1.length_eq;have z1:=P2.1.length_eq;have z2:=P3.1.length_eq;have z3:=P4.1.length_eq;(try simp only[aC] at z0 z1 z2 z3);(try simp only[aC,aS]);omega) (by have q1:=HL.out;have q2:=HN.out;have z0:=P1.1.length_eq;have z1:=P2.1.length_eq;have z2:=P3.1.length_eq;have z3:=P4.1.length_eq;(try simp only[aC] at z0 z1 z2 z3);(try simp only[aC,aS]);omega);refine Calls.mono C ?_;clear C;rintro er v5 ⟨rfl,S5,hp,hs,hr,hk⟩;have R5:Hid (Rb v5 g (fs (S5++S3++S4)) rest):=by unfold Hid;simpa[fs] using hr
 have P5:Hid (S5.Perm (U1++U2)/\S5.Pairwise lt):=⟨hp.trans (P1.1.append P2.1),hs⟩;have K5:=aj (K4.trans hk);clear hp hs hr hk TG;go_wp2_with fail
 rw[rounds_succ];go_wp2_with fail
 rw[rounds_succ];go_wp2_with fail
 refine wp_loop_rounds 1 ?_;rw[rounds_succ];go_wp2_with fail
 have TG:Hid (∀x∈S5,∀y∈S3,x.2<y.2):=λx hx y hy=>by have h1:=P5.1.mem_iff.1 hx;have h2:=P3.1.mem_iff.1 hy;have h3:=HU.out;have e:(U1++U2)++(U3)++(U4)=U1++U2++U3++U4:=(by simp);rw[<-e,List.pairwise_append] at h3;exact(List.pairwise_append.1 h3.1).2.2 x h1 y h2
 have C:Calls _ _ _ _ _:=yA ([]) S5 S3 (S4) g cap n 0 40 (n:Nat) rest v5 (fP (by have q1:=HL.out;have q2:=HN.out;have z0:=P5.1.length_eq;have z1:=P3.1.length_eq;have z2:=P4.1.length_eq;(try simp only[aC] at z0 z1 z2);(try simp only[aC,aS]);omega)) (fP (by have q1:=HL.out;have q2:=HN.out;have z0:=P5.1.length_eq;have z1:=P3.1.length_eq;have z2:=P4.1.length_eq;(try simp only[aC] at z0 z1 z2);(try simp only[aC,aS]);omega)) P5.2 P3.2 TG (by have:=R5.out;simpa[fs] using this) (by have q1:=HL.out;have q2:=HN.out;have z0:=P5.1.length_eq;have z1:=P3.1.length_eq;have z2:=P4.1.length_eq;(try simp only[aC] at z0 z1 z2);(try simp only[aC,aS]);omega) (by have:=HL.out;omega) (by have q1:=HL.out;have q2:=HN.out;have z0:=P5.1.length_eq;have z1:=P3.1.length_eq;have z2:=P4.1.length_eq;(try simp only[aC] at z0 z1 z2);(try simp only[aC,aS]);omega) (by have q1:=HL.out;have q2:=HN.out;have z0:=P5.1.length_eq;have z1:=P3.1.length_eq;have z2:=P4.1.length_eq;(try simp only[aC] at z0 z1 z2);(try simp only[aC,aS]);omega) (by have q1:=HL.out;have q2:=HN.out;have z0:=P5.1.length_eq;have z1:=P3.1.length_eq;have z2:=P4.1.length_eq;(try simp only[aC] at z0 z1 z2);(try simp only[aC,aS]);omega);refine Calls.mono C ?_;clear C;rintro er v6 ⟨rfl,S6,hp,hs,hr,hk⟩;have R6:Hid (Rb v6 g (fs (S6++S4)) rest):=by unfold Hid;simpa[fs] using hr
 have P6:Hid (S6.Perm ((U1++U2)++U3)/\S6.Pairwise lt):=⟨hp.trans (P5.1.append P3.1),hs⟩;have K6:=aj (K5.trans hk);clear hp hs hr hk TG;go_wp2_with fail
 rw[rounds_succ];go_wp2_with fail
 go_wp2;go_end0;have eS4:S4=[]:=List.length_eq_zero_iff.1 (by have q1:=HL.out;have q2:=HN.out;have z:=P4.1.length_eq;omega);have eU4:U4=[]:=List.length_eq_zero_iff.1 (by have q1:=HL.out;have q2:=HN.out;omega);refine⟨rfl,S6,?_,P6.2,?_,K6⟩
 ·have h:=P6.out.1
  simpa[eU4] using h
 ·have h:=R6.out
  rw[eS4] at h;simpa using h
theorem aaA(U:List T)(i:Nat)(h:i<=U.length):∃U1 U2,U=U1++U2/\U1.length=i/\U2.length=U.length-i:=⟨U.take i,U.drop i,(List.take_append_drop _ _).symm,by rw[dP];omega,by rw[jR]⟩
theorem TM(U:List T)(g cap n:Nat)(rest:List Value)(w:World)(hL:U.length=n)(hn:n<=60)(hU:U.Pairwise (λx y=>x.2<y.2))(hr:Rb w g (fs U) rest):
  Calls prog 186 #[slice (some ⟨g,0,none⟩) n cap,int i64 (n:Nat),.func (.func 151) #[] #[]] w (jP U g rest w):=by
 by_cases h20:n<20
 ·exact aay U g _ n _ w hL hU hr h20
 obtain⟨U1,V1,rfl,l1,m1⟩:=aaA U 20 (by omega);by_cases h21:n=20
 ·exact Yd U1 V1 g _ n _ w l1 (by omega) hU hr h21
 by_cases h40:n<40
 ·exact Ye U1 V1 g _ n _ w l1 (by omega) hU hr ⟨by omega,h40⟩
 obtain⟨U2,V2,rfl,l2,m2⟩:=aaA V1 20 (by omega);rw[<-bT] at hU hr ⊢;by_cases h41:n=40
 ·exact Yf U1 U2 V2 g _ n _ w l1 l2 (by omega) hU hr h41
 by_cases h60:n<60
 ·exact Yg U1 U2 V2 g _ n _ w l1 l2 (by omega) hU hr ⟨by omega,h60⟩
 obtain⟨U3,V3,rfl,l3,m3⟩:=aaA V2 20 (by omega);rw[<-bT] at hU hr ⊢;exact aaz U1 U2 U3 V3 g _ n _ w l1 l2 l3 (by omega) hU hr (by omega)
theorem Il(U:List T)(g cap n:Nat)(rest:List Value)(w:World)(hL:U.length=n)(hn:n<=60)(hU:U.Pairwise (λx y=>x.2<y.2))(hr:Rb w g (fs U) rest):
  Calls prog 150 #[slice (some ⟨g,0,none⟩) n cap,.func (.func 151) #[] #[]] w (jP U g rest w):=by
 have C:=TM U g cap n rest w hL hn hU hr;clear hL hn hU hr;go_enter func150,ntmps150;go_wp2_with fail
 refine Calls.mono C ?_;rintro e w1 ⟨rfl,h⟩;have H:=aj (h);clear h C;go_wp2;go_end0;exact⟨rfl,H⟩
theorem m_.rb{v:Value}(h:m_ w base v ks):(v=slice none 0 0/\ks=[])\/∃g cap rest,v=slice (some ⟨g,0,none⟩) ks.length cap/\base<=g/\ks.length<=cap/\cap<=maxLen/\ks.length*4+rest.length=cap*4/\Rb w g ks rest:=by
 rcases h.2 with⟨h1,h2⟩|⟨g,cap,cur,h1,h2,h3,h4,h5,h6,h7⟩
 ·exact .inl ⟨h1,List.length_eq_zero_iff.1 h2⟩
 ·refine .inr ⟨g,cap,cur.toList.drop (ks.length*4),h1,h2,h4,h5,?_,?_⟩
  ·have e6:cur.toList.length=cap*4:=by simpa using h6
   rw[jR,e6];have:ks.length*4<=cap*4:=Nat.mul_le_mul_right _ h4;omega
  ·unfold Rb
   rw[<-h7,List.take_append_drop,Array.toArray_toList];exact h3
theorem Rb.oro{g cap:Nat}{rest:List Value}(h:Rb w g ks rest)(hb:base<=g)(h1:ks.length<=cap)(h2:cap<=maxLen)(h3:ks.length*4+rest.length=cap*4):m_ w base (slice (some ⟨g,0,none⟩) ks.length cap) ks:=by
 refine⟨lW ks,.inr ⟨g,cap,_,rfl,hb,h,h1,h2,?_,?_⟩⟩
 ·simp only[List.size_toArray,aC,lW];omega
 ·show(ks.flatMap bU.cs++rest).take (ks.length*4)=_
  rw[List.take_append_of_le_length (by rw[lW];exact aU _),List.take_of_length_le (by rw[lW];exact aU _)]
theorem Ny(fv:Value)(w:World):Calls prog 229 #[slice none 0 0,int i64 0,int i64 0,fv] w λe w'=>e=.returned (.tuple #[])/\w'=w:=by
 go_enter func229,ntmps229;go_wp2_with fail
 refine wp_loop_rounds 1 ?_;rw[rounds_succ];go_wp2;go_end0;exact⟨rfl,rfl⟩
theorem TP(fv:Value)(w:World):Calls prog 186 #[slice none 0 0,int i64 0,fv] w λe w'=>e=.returned (.tuple #[])/\w'=w:=by
 go_enter func186,ntmps186;go_wp2_with fail
 refine wp_loop_rounds 1 ?_;rw[rounds_succ];go_wp2_with fail
 refine Calls.mono (Ny fv w) ?_;rintro e w' ⟨rfl,rfl⟩;go_wp2_with fail
 refine wp_loop_rounds 1 ?_;rw[rounds_succ];go_wp2;go_end0;exact⟨rfl,rfl⟩
theorem TS(fv:Value)(w:World):Calls prog 150 #[slice none 0 0,fv] w λe w'=>e=.returned (.tuple #[])/\w'=w:=by
 go_enter func150,ntmps150;go_wp2_with fail
 refine Calls.mono (TP fv w) ?_;rintro e w' ⟨rfl,rfl⟩;go_wp2;go_end0;exact⟨rfl,rfl⟩
theorem TU(l:List bU)(v:Value)(b1:Nat)(w:World)(hl:l.length<=60)(ho:m_ w b1 v (fs (kp l l.length))):
  Calls prog 150 #[v,.func (.func 151) #[] #[]] w λe w'=>e=.returned (.tuple #[])/\∃out,dA l out/\m_ w' b1 v out/\w.grownBy w' v.ownBlock:=by
 rcases ho.rb with⟨rfl,hn⟩|⟨g,cap,rest,rfl,hb,h1,h2,h3,hr⟩
 ·refine(TS _ w).mono ?_
  rintro e w' ⟨rfl,rfl⟩;have e0:kp l _=[]:=List.map_eq_nil_iff.1 hn;refine⟨rfl,[],⟨[],by rw[e0],List.Pairwise.nil,rfl⟩,by rw[hn] at ho;exact ho,?_⟩;exact⟨rfl,rfl,rfl,aU _,λ_ _ _=>rfl⟩
 ·have hlen:(fs (kp l l.length)).length=(kp l l.length).length:=by simp[fs]
  rw[hlen] at h1 h3 ⊢;refine(Il _ g _ _ _ w rfl (aJ (zQ _) hl) (oJ _) hr).mono ?_;rintro e w' ⟨rfl,S,hp,hs,hr',hk⟩;have el:(fs S).length=(kp l l.length).length:=by simp[fs,hp.length_eq]
  refine⟨rfl,fs S,⟨S,hp,hs,rfl⟩,?_,⟨hk.os,hk.tape,hk.output,hk.size,λk hk' hn=>hk.block k hk' (λe=>hn (by rw[e];rfl))⟩⟩;have:=hr'.oro (base:=b1) (cap:=cap) hb (by omega) h2 (by omega);rw[el] at this;exact this
def LsI(ks:List bU)(w1:World)(mb n:Nat)(j kv:Value)(W:World):Prop:=∃q:Nat,q<=ks.length/\j=int i64 (q:Nat)/\m_ W w1.heap.size kv (fs (kp ks q))/\Um W mb n (lf ks ks.length)/\Below w1.heap.size w1 W
def Nz(ks:List bU)(w:World)(e:Ending)(w':World):Prop:=∃u r,e=.returned (.tuple #[u,r])/\Er r (Od.faults ks)/\((Od.faults ks≠0/\u=slice none 0 0)\/(Od.faults ks=0/\∃out,dA ks out/\m_ w' w.heap.size u out))/\Below w.heap.size w w'
theorem last_any(v:Value)(ks:List bU)(w:World)(h:Bo w v ks):Calls prog 100 #[v] w (Nz ks w):=by
 have K0:=aj (h);obtain⟨a,c,rfl,c1,c2,-⟩:=h;go_enter func100,ntmps100;go_wp2_with fail
 refine Calls.mono (Ij _ ks w K0) ?_;rintro e w0 ⟨u,rfl,hu,b0⟩;obtain⟨F,hF⟩:∃F,Od.faults ks=F:=⟨_,rfl⟩;have HF:=aj (hF);rw[hF] at hu;have B0:=aj (b0);clear hF b0;rcases hu with⟨hF,rfl⟩|⟨hF,rfl⟩
 case inr=>
  have E:=aj (hF);clear hF;go_wp2;go_ret2;exact⟨_,_,rfl,by rw[HF.out];exact Er.no E,.inl ⟨by rw[HF.out];exact E,rfl⟩,B0⟩
 subst hF;have FO:=aj (Od.jC HF);go_wp2_with fail
 refine Calls.mono (zV _ ks w0 (K0.below B0) FO.1 FO.2) ?_;rintro e w1 ⟨mb,n,rfl,hm,hmb,b1⟩;have M1:=aj (hm);have B1:=aG B0 b1;clear hm hmb b1;go_wp2_with fail
 go_loopw [18,6] (λj kv W=>LsI ks w1 mb n j kv W) (λj _ _=>ks.length-(intOf j).toNat)
 case atStart=>exact⟨0,aZ _,rfl,m_.nil _ _,M1,dU _ _⟩
 case round=>
  obtain⟨q,hq,rfl,hko,hm,hb⟩:=hrel;have OQ:=aj (hko);have MQ:=aj (hm);have BQ:=aj (hb);clear hko hm hb;by_cases Ak:q=ks.length
  ·subst Ak
   go_wp2_with fail
   refine Calls.mono (TU ks u6 _ wr FO.1 OQ) ?_;rintro e w2 ⟨rfl,out,hls,ho,hg⟩;have G2:=aj ((B1.trans (BQ.mono B1.size)).grown hg (by have:=B1.size;have:=BQ.size;omega) (λk hk=>by have:=(OQ.block k hk).1;have:=B1.size;omega));have FIN:Hid (∃out,dA ks out/\m_ w2 w.heap.size u6 out):=⟨out,hls,ho.mono B1.size⟩;clear hls ho hg;go_wp2;go_ret2;exact⟨_,_,rfl,by rw[HF.out];exact Er.nil,.inr ⟨HF,FIN⟩,G2⟩
  ·have hqk:q<ks.length:=by omega
   obtain⟨k,hk⟩:∃k,ks[q]? =some k:=⟨_,aH hqk⟩;have HK:=aj (hk);have OK:=Od.Bv (FO.2 k (aT hk));have WF:Hid ((Lit.int i64 k.ay).wf=true/\(Lit.int i64 k.unit).wf=true):=⟨wf64 (by omega) (by omega),wf64 (by omega) (by omega)⟩;have K1:=K0.below (B1.trans (BQ.mono B1.size));obtain⟨a',c',e,-,-,h3⟩:=K1;injection e with e1 e2 e3
   subst e1 e3;obtain⟨x,rfl,hx1,hx⟩:=h3 (by rintro rfl;simp at hqk);have Yc:=hx q k hk;clear hx h3 e2 hk OK;obtain⟨q0,q1,q2,q3⟩:=Yc;go_upto_region 9 with fail
   have BA:Hid (Below _ wr (wr.alloc (cells #[int i64 k.ay,int i64 k.unit,int i64 k.what,int i64 k.arg] 96))):=aA;have XA:=aj (pJ.mk' (w:=wr) k rfl);clear q0 q1 q2 q3;obtain⟨z,hz⟩:∃z,wr.heap.size=z:=⟨_,rfl⟩;rw[hz] at XA ⊢;have SZ:=aj (hz);clear hz;generalize wr.alloc _=w2 at *;have B2:=aG BQ BA;have M2:=aj (MQ.below BA);have O2:=aj (OQ.below BA);clear MQ OQ BQ BA;have KL:Hid ((fs (kp ks q)).length<=60):=by have h1:=zQ (l:=ks) q;have h2:=FO.out.1;unfold Hid;simp[fs];omega
   by_cases h3:k.what=3
   ·obtain⟨x0,x1,x2,x3⟩:=XA.out
    simp only[aO] at x1 x2 x3;have OA:Hid (m_ (w2.alloc (cells #[int i64 k.ay,int i64 k.unit,int i64 k.what,int i64 k.arg] 96)) _ u6 _):=O2.alloc _;have RC:=aj (pJ.mk' (w:=w2) k rfl);have BB:Hid (Below _ w2 (w2.alloc (cells #[int i64 k.ay,int i64 k.unit,int i64 k.what,int i64 k.arg] 96))):=aA;have SB:=aj (aJ B2.size BB.size);have h3c:=h3;have NK:=aj (vO HK (.inl h3));rw[h3] at OA RC BB SB;go_wp2_with (at_builtin;refine TB _ rfl _ _ rfl _ _ _ rfl OA _ k rfl RC (by have:=KL.out;omega) SB ?_);intro g cap w5 o5 g5 a5 l5;have B5:=aj ((B2.trans (BB.mono B2.size)).grown g5 SB (λk hk=>(O2.block k hk).1));have M5:=aj ((M2.below BB).gb g5 (λe=>by have:=(O2.block mb e.symm).1;have:=M1.lt;omega));have O5:Hid (m_ w5 w1.heap.size (slice (some ⟨g,0,none⟩) ((kp ks q).length+1) cap) (fs (kp ks (q+1)))):=by unfold Hid;rw[NK.out];simpa[fs] using o5
    clear o5 g5 a5 l5 x0 x1 x2 x3;go_wp2;go_round
    case rel=>exact⟨q+1,by omega,by go_num,O5,M5,B5⟩
    case measure=>simp[intOf];omega
   ·have h3b:=beq_eq_false_iff_ne.2 h3
    obtain⟨x0,x1,x2,x3⟩:=XA.out;simp only[aO] at x1 x2 x3;go_wp2_with fail
    refine Calls.mono (vS k w2) ?_;rintro e w3 ⟨rfl,b3⟩;have B3:=aG B2 b3;have M3:=aj (M2.below b3);have O3:=aj (O2.below b3);have X3:=aj (XA.below b3 XA.lt);have LK:=M3.look WF.1 WF.2;clear b3 x0 x1 x2 x3 B2 M2 O2 XA;by_cases hi:lf ks ks.length k.ay k.unit=(q:Nat)
    ·obtain⟨x0,x1,x2,x3⟩:=X3.out
     simp only[aO] at x1 x2 x3;have OA:Hid (m_ (w3.alloc (cells #[int i64 k.ay,int i64 k.unit,int i64 k.what,int i64 k.arg] 96)) _ u6 _):=O3.alloc _;have RC:=aj (pJ.mk' (w:=w3) k rfl);have BB:Hid (Below _ w3 (w3.alloc (cells #[int i64 k.ay,int i64 k.unit,int i64 k.what,int i64 k.arg] 96))):=aA;have SB:=aj (aJ B3.size BB.size);have NK:=aj (vO HK (.inr hi));rw[hi] at LK;clear hi;go_wp2_with (at_builtin;refine TB _ rfl _ _ rfl _ _ _ rfl OA _ k rfl RC (by have:=KL.out;omega) SB ?_);intro g cap w5 o5 g5 a5 l5;have B5:=aj ((B3.trans (BB.mono B3.size)).grown g5 SB (λk hk=>(O3.block k hk).1));have M5:=aj ((M3.below BB).gb g5 (λe=>by have:=(O3.block mb e.symm).1;have:=M1.lt;omega));have O5:Hid (m_ w5 w1.heap.size (slice (some ⟨g,0,none⟩) ((kp ks q).length+1) cap) (fs (kp ks (q+1)))):=by unfold Hid;rw[NK.out];simpa[fs] using o5
     clear o5 g5 a5 l5 x0 x1 x2 x3;go_wp2;go_round
     case rel=>exact⟨q+1,by omega,by go_num,O5,M5,B5⟩
     case measure=>simp[intOf];omega
    ·have hib:=beq_eq_false_iff_ne.2 hi
     have NK:=aj (YW HK (by rintro(h|h);exact h3 h;exact hi h));generalize lf ks _ _ _=lfv at *;go_wp2;go_round
     case rel=>exact⟨q+1,by omega,by go_num,by rw[NK.out];exact O3,M3,B3⟩
     case measure=>simp[intOf];omega
def NH(ks:List KV)(X:WV)(l:List bU)(w:World)(e:Ending)(w':World):Prop:=∃v ur r,e=.returned (.tuple #[v,ur,r])/\Er r (Od.faults l)/\((Od.faults l≠0/\v=.agg #[int i64 0,int i64 0,int i64 0,int i64 0,slice none 0 0,slice none 0 0,slice none 0 0,slice none 0 0,slice none 0 0]/\ur=slice none 0 0)\/(Od.faults l=0/\∃out,dA l out/\Wo w' w.heap.size v (gv ks X out out.length).1/\Ow w' w.heap.size ur (gv ks X out out.length).2))/\Below w.heap.size w w'
def GvI(ks:List KV)(X:WV)(out:List bU)(b1 z:Nat)(w1:World)(ur j:Value)(V:World):Prop:=∃(q:Nat) (u1 u2 u3 u4 u5:Value),q<=out.length/\j=int i64 (q:Nat)/\(gv ks X out q).2.length<=q/\Ap ks (gv ks X out q).1 (gv ks X out q).2 b1 z w1 u1 u2 u3 u4 u5 ur V
theorem TV(vk vw vl:Value)(ks:List KV)(X:WV)(l:List bU)(w:World)(hk:Kl w vk ks)(hw:Wl w vw X)(hl:Bo w vl l)(hr:bH ks X):
  Calls prog 57 #[vk,vw,vl] w (NH ks X l w):=by
 have K:=aj (hk);have H:=aj (hw);have L:=aj (hl);have R:=aj (hr);obtain⟨p1,q1,p2,q2,p3,q3,p4,q4,p5,q5,rfl⟩:=aX hw;obtain⟨pk,qk,rfl,ck1,ck2,kc⟩:=hk;obtain⟨pl,ql,rfl,cl1,cl2,lc⟩:=hl;have kl8:=hr.aa2.kinds.1;clear hw kc lc hr;go_enter func57,ntmps57;go_upto_region 1 with fail
 obtain⟨B0,X0,Z0⟩:=uD w (int i64 X.turn) (int i64 X.next) (int i64 X.wide) (int i64 X.high) (slice p1 X.gs.length q1) (slice p2 X.os.length q2) (slice p3 X.gold.length q3) (slice p4 X.us.length q4) (slice p5 X.qs.length q5);have S0:Hid (((w.alloc (cells #[int i64 X.turn,int i64 X.next,int i64 X.wide,int i64 X.high,slice p1 X.gs.length q1,slice p2 X.os.length q2,slice p3 X.gold.length q3,slice p4 X.us.length q4,slice p5 X.qs.length q5] 29)).alloc (cells #[int i64 0,int i64 0,int i64 0,int i64 0,slice none 0 0,slice none 0 0,slice none 0 0,slice none 0 0,slice none 0 0] 29)).heap.size=w.heap.size+1+1):=by unfold Hid;simp
 generalize ((w.alloc _).alloc _)=w0 at *;obtain⟨z,hz⟩:∃z,w.heap.size=z:=⟨_,rfl⟩;have HZ:=aj (hz);rw[hz] at X0 Z0 S0 ⊢;clear hz;go_wp2_with fail
 refine Calls.mono (last_any _ l w0 (L.below B0)) ?_;rintro e w1 ⟨ul,rl,rfl,hrl,Jr,b1'⟩;have B1:=aG B0 b1';have X1:=aj (X0.below b1' X0.lt);have Z1:=aj (Z0.below b1' Z0.lt);obtain⟨F,hF⟩:∃F,Od.faults l=F:=⟨_,rfl⟩;have HF:=aj (hF);rw[hF] at hrl Jr;clear hF b1' X0 Z0;rcases hrl with⟨rfl,rfl⟩|⟨hF,rfl⟩
 case inr=>
  have HN:=aj (hF);clear hF Jr;have zz:=Z1.cells;have tt:=Z1.cO;have KZ:Hid (Kp (z+1) w1 ((((((((((w1.setCell _ (int i64 0)).setCell _ (int i64 0)).setCell _ (int i64 0)).setCell _ (int i64 0)).setCell _ (slice none 0 0)).setCell _ (slice none 0 0)).setCell _ (slice none 0 0)).setCell _ (slice none 0 0)).setCell _ (slice none 0 0)))):=dG _ _ _ _ _ _ _ _ _ _ _;obtain⟨y0,y1,y2,y3,y4,y5,y6,y7,y8⟩:=(Z1.nJ).cells;go_wp2;clear zz tt;generalize World.setCell _ ⟨_,8,none⟩ _=w9 at *;refine bodyPost_ret (v:=.tuple #[.agg _,slice none 0 0,.iface 85 (int i64 F)]) (by simp[results,results57,go_sem,y0,y1,y2,y3,y4,y5,y6,y7,y8]) rfl ⟨_,_,_,rfl,by rw[HF.out];exact Er.no HN,.inl ⟨by rw[HF.out];exact HN,rfl,rfl⟩,KZ.below B1 B1.size (by rw[HZ.out];omega)⟩
 obtain⟨out,hls,ho⟩:∃out,dA l out/\m_ w1 w0.heap.size ul out:=by
  rcases Jr with⟨h,-⟩|⟨-,h⟩
  ·exact absurd rfl h
  ·exact h
 have LS:=aj (hls);have OB:Hid (∀o∈out,¬Od.bad o):=λo h=>(Od.jC HF).2 o (hls.mem h)
 have OL:=aj (aJ hls.len (Od.jC HF).1);obtain⟨plo,clo,rfl⟩:=ho.len;have O1:Hid (m_ w1 (z+1+1) (slice plo out.length clo) out):=by have h:=ho;rw[S0.out] at h;exact h
 clear hls ho Jr;have xx:=X1.cells;go_wp2_with fail
 refine(jo _ X w1 (H.below B1) R.len).mono ?_;rintro e w2 ⟨cu,rfl,⟨k1,k2,k3,k4,k5,rfl,⟨o1,o2,o3,o4,o5⟩,d12,d13,d14,d15,d23,d24,d25,d34,d35,d45⟩,hb⟩;obtain⟨b1,hb1⟩:∃b,w1.heap.size=b:=⟨_,rfl⟩;have HB1:Hid (w1.heap.size=b1/\z+1<b1):=⟨hb1,by rw[<-hb1];exact Z1.lt⟩;rw[hb1] at o1 o2 o3 o4 o5;have X2:=aj (X1.below hb X1.lt);have tt:=X2.cO;obtain⟨y0,y1,y2,y3,y4,y5,y6,y7,y8⟩:=X2.cells;have KZ:Hid (Kp z w2 ((((((((((w2.setCell _ (int i64 X.turn)).setCell _ (int i64 X.next)).setCell _ (int i64 X.wide)).setCell _ (int i64 X.high)).setCell _ (k1)).setCell _ (k2)).setCell _ (k3)).setCell _ (k4)).setCell _ (k5)))):=dG _ _ _ _ _ _ _ _ _ _ _;have X3:Hid (Wx _ z (int i64 X.turn) (int i64 X.next) (int i64 X.wide) (int i64 X.high) k1 k2 k3 k4 k5):=X2.put _ _ _ _ _ _ _ _ _;have G3:Hid (Ap ks X [] b1 z w1 k1 k2 k3 k4 k5 (slice none 0 0) ((((((((((w2.setCell ⟨z,0,none⟩ (int i64 X.turn)).setCell ⟨z,1,none⟩ (int i64 X.next)).setCell ⟨z,2,none⟩ (int i64 X.wide)).setCell ⟨z,3,none⟩ (int i64 X.high)).setCell ⟨z,4,none⟩ (k1)).setCell ⟨z,5,none⟩ (k2)).setCell ⟨z,6,none⟩ (k3)).setCell ⟨z,7,none⟩ (k4)).setCell ⟨z,8,none⟩ (k5)))):=by
  have hz1:=HB1.out.2;refine⟨X3,o1.kp KZ (by omega),o2.kp KZ (by omega),o3.kp KZ (by omega),o4.kp KZ (by omega),o5.kp KZ (by omega),Ow.nil _ _,?_,(Kp.of hb).trans KZ,R.aa2⟩;have dn:∀u,fK u (slice none 0 0):=λu k h1 h2=>by cases h2
  simp only[List.pairwise_cons,bP,List.not_mem_nil,or_false,forall_eq_or_imp,forall_eq];exact⟨⟨d12,d13,d14,d15,dn _⟩,⟨d23,d24,d25,dn _⟩,⟨d34,d35,dn _⟩,⟨d45,dn _⟩,dn _,by simp,by simp⟩
 obtain⟨kp1,kc1,rfl⟩:=o1.len;obtain⟨kp2,kc2,rfl⟩:=o2.len;obtain⟨kp3,kc3,rfl⟩:=o3.len;obtain⟨kp4,kc4,rfl⟩:=o4.len;obtain⟨kp5,kc5,rfl⟩:=o5.len;clear hb hb1 xx o1 o2 o3 o4 o5 d12 d13 d14 d15 d23 d24 d25 d34 d35 d45 X1;go_upto_region 5 with fail
 clear tt y0 y1 y2 y3 y4 y5 y6 y7 y8;generalize World.setCell _ ⟨_,8,none⟩ _=w3 at *;have ZZ:Hid (∀V,Kp z w1 V->Wx V (z+1) (int i64 0) (int i64 0) (int i64 0) (int i64 0) (slice none 0 0) (slice none 0 0) (slice none 0 0) (slice none 0 0) (slice none 0 0)):=λV hV=>Z1.kp hV (by omega)
 have OO:Hid (∀V,Kp z w1 V->m_ V (z+1+1) (slice plo out.length clo) out):=λV hV=>iR O1 hV (by omega)
 have BV:Hid (∀V,Kp z w1 V->Below w.heap.size w V):=λV hV=>hV.below B1 B1.size (by rw[HZ.out];omega)
 have ol:=OL.out;clear KZ X2 X3;go_wp2_with fail
 go_loopw [11,29] (λur j V=>GvI ks X out b1 z w1 ur j V) (λ_ j _=>out.length-(intOf j).toNat)
 case atStart=>exact⟨0,_,_,_,_,_,aZ _,rfl,aU _,G3⟩
 case round=>
  obtain⟨q,u1,u2,u3,u4,u5,hq,rfl,hrl,hg⟩:=hrel;obtain⟨Y,hY⟩:∃Y,(gv ks X out q).1=Y:=⟨_,rfl⟩;obtain⟨ref,hR⟩:∃r,(gv ks X out q).2=r:=⟨_,rfl⟩;have HY:Hid ((gv ks X out q).1=Y/\(gv ks X out q).2=ref):=⟨hY,hR⟩;rw[hY,hR] at hg;rw[hR] at hrl;have GQ:=aj (hg);have RL:=aj (hrl);clear hY hR;obtain⟨ra,rc,rfl⟩:=hg.r.len;obtain⟨a1,h1,rfl⟩:=hg.o1.len;obtain⟨a2,h2,rfl⟩:=hg.o2.len;obtain⟨a3,h3,rfl⟩:=hg.o3.len;obtain⟨a4,h4,rfl⟩:=hg.o4.len;obtain⟨a5,h5,rfl⟩:=hg.o5.len;clear hg hrl;by_cases hqo:q=out.length
  ·have FIN:Hid ((gv ks X out out.length).1=Y/\(gv ks X out out.length).2=ref):=by rw[<-hqo];exact HY
   subst hqo;have xx:=GQ.x.cells;have zz:=(ZZ _ GQ.k).cells;have tt:=(ZZ _ GQ.k).cO;have KZ:Hid (Kp (z+1) wr ((((((((((wr.setCell _ (int i64 Y.turn)).setCell _ (int i64 Y.next)).setCell _ (int i64 Y.wide)).setCell _ (int i64 Y.high)).setCell _ (slice a1 Y.gs.length h1)).setCell _ (slice a2 Y.os.length h2)).setCell _ (slice a3 Y.gold.length h3)).setCell _ (slice a4 Y.us.length h4)).setCell _ (slice a5 Y.qs.length h5)))):=dG _ _ _ _ _ _ _ _ _ _ _;obtain⟨y0,y1,y2,y3,y4,y5,y6,y7,y8⟩:=((ZZ _ GQ.k).put (int i64 Y.turn) (int i64 Y.next) (int i64 Y.wide) (int i64 Y.high) (slice a1 Y.gs.length h1) (slice a2 Y.os.length h2) (slice a3 Y.gold.length h3) (slice a4 Y.us.length h4) (slice a5 Y.qs.length h5)).cells;go_wp2;clear xx zz tt;generalize World.setCell _ ⟨_,8,none⟩ _=w9 at *;refine bodyPost_ret (v:=.tuple #[.agg #[int i64 Y.turn,int i64 Y.next,int i64 Y.wide,int i64 Y.high,slice a1 Y.gs.length h1,slice a2 Y.os.length h2,slice a3 Y.gold.length h3,slice a4 Y.us.length h4,slice a5 Y.qs.length h5],slice ra ref.length rc,.nilIface]) (by simp[results,results57,go_sem,y0,y1,y2,y3,y4,y5,y6,y7,y8]) rfl ⟨_,_,_,rfl,by rw[HF.out];exact Er.nil,.inr ⟨HF,out,LS,?_,?_⟩,?_⟩
   ·rw[FIN.out.1]
    exact(GQ.wo.kp KZ HB1.2).mono (by have h1:=HB1.out;have h2:=HZ.out;omega)
   ·rw[FIN.out.2]
    exact(GQ.r.kp KZ HB1.2).mono (by have h1:=HB1.out;have h2:=HZ.out;omega)
   ·exact KZ.below (BV _ GQ.k) (BV _ GQ.k).size (by rw[HZ.out];omega)
  ·have hqk:q<out.length:=by omega
   obtain⟨o,ho⟩:∃o,out[q]? =some o:=⟨_,aH hqk⟩;have HO:=aj (ho);have OBK:=aj (OB o (aT ho));obtain⟨a',c',e,-,-,hx⟩:=(OO _ GQ.k).l;injection e with e1 e2 e3
   subst e1 e3;obtain⟨xo,rfl,-,hxo⟩:=hx (by rintro hn;rw[hn] at hqk;simp at hqk);obtain⟨r0,r1,r2,r3⟩:=hxo q o ho;clear hx hxo e2 ho;have hqi:((q:Nat):Int)<(out.length:Nat):=by omega
   go_upto_region 9 with fail
   have BA:Hid (Below _ wr (wr.alloc (cells #[int i64 o.ay,int i64 o.unit,int i64 o.what,int i64 o.arg] 96))):=aA;have OA:=aj (pJ.mk' (w:=wr) o rfl);obtain⟨y,hy⟩:∃y,wr.heap.size=y:=⟨_,rfl⟩;have YL:Hid (wr.heap.size=y/\b1<=y):=⟨hy,by rw[<-hy,<-HB1.out.1];exact GQ.k.size⟩;rw[hy] at OA ⊢;clear r0 r1 r2 r3 hy;generalize wr.alloc _=w4 at *;have G4:=aj (GQ.below BA);have yl4:Hid (y<w4.heap.size):=OA.lt;clear BA GQ;have xx:=G4.x.cells;go_wp2_with fail
   refine(qJ 101 (by intro args w;go_simp) _ #[.pointer (some ⟨y,0,none⟩)] Y.us (pK o) w4 G4.o4.l (λW hW u hu=>?_)).mono ?_
   ·obtain⟨c0,c1,-,-⟩:=OA.below hW yl4
    simp only[aO] at c1;exact aas o u y W c0 c1
   rintro e w5 ⟨r,rfl,hfr,b5⟩;have G5:=aj (G4.below b5);have O5:=aj (OA.below b5 yl4);clear b5 xx G4 OA;have acQ:=kl8;rcases hfr with⟨rfl,hnone⟩|⟨i,u,rfl,hu,hask,hfirst⟩
   ·have GN:Hid (iG ks Y o=none):=by unfold Hid iG;rw[Qx hnone]
    clear hnone;go_upto_region 11 with fail
    go_quiet (fail);have D6:Hid (Below w5.heap.size w5 (w5.drewN nq)):=⟨rfl,rfl,rfl,aU _,λ_ _=>rfl⟩;generalize w5.drewN nq=w6 at *;have G6:=aj (G5.below D6);have NX:Hid (gv ks X out (q+1)=(Y,ref++[(q:Int)])):=by
     have h9:=Jv (ks:=ks) (Y:=X) HO (by rw[HY.out.1];exact GN);unfold Hid;rw[h9,HY.out.1,HY.out.2]
    have BA:Hid (Below _ w6 (w6.alloc (cells #[int i64 (q:Nat)] 3))):=aA;have GA:=aj (G6.below BA);have SB:=aj (aJ (by have h1:=G6.k.size;rw[HB1.out.1] at h1;exact h1) BA.size);go_wp2_with (at_builtin;refine gG _ rfl _ _ rfl b1 _ ref rfl GA.r ⟨w6.heap.size,0,none⟩ (q:Int) rfl (by simp) (by have:=RL.out;omega) SB ?_);intro g7 c7 w7 o7 gr7 a7 l7;have G7:=aj (GA.refuse (by have:=HB1.out.2;omega) HB1.1 gr7 o7 (by
     rcases a7 with h|h
     ·exact .inl h.symm
     ·exact .inr ⟨g7,rfl,by rw[h];simp⟩))
    clear o7 gr7 a7 l7;go_wp2;go_round
    case rel=>exact⟨q+1,_,_,_,_,_,by omega,by go_num,by rw[NX.out];have:=RL.out;simp;omega,by rw[NX.out];exact G7⟩
    case measure=>simp[intOf];omega
   ·have FI:Hid (Y.us.findIdx? (pK o)=some i/\Y.us[i]? =some u):=⟨Qy hu hask hfirst,hu⟩
    obtain⟨⟨kn,k,hkn,hkk⟩,pn,hpn,hpl⟩:=G5.f.units u (aT hu);have hap:=(of_decide_eq_true hask).2;have KU:Hid (u.kind=(kn:Nat)/\ks[kn]? =some k/\o.ay=(pn:Nat)/\pn<Y.gold.length):=⟨hkn,hkk,by rw[<-hap];exact hpn,hpl⟩;have hil:=(aK.1 hu).1;have hkl:=(aK.1 hkk).1;have G1:Hid (iG ks Y o=if wQ ks Y k o=true then some (if o.what=3 then iy ks Y o else qC Y i u o) else none):=by
     unfold Hid iG;rw[FI.out.1];simp only[FI.out.2];rw[KU.out.1,bF];simp only[KU.out.2.1]
    obtain⟨gu,cap,Ze,e4,hgu,hc1,hc2,hc3,hub⟩:∃gu cap rest,slice a4 Y.us.length h4=slice (some ⟨gu,0,none⟩) Y.us.length cap/\b1<=gu/\Y.us.length<=cap/\cap<=maxLen/\Y.us.length*8+rest.length=cap*8/\Ub w5 gu Y.us rest:=by
     rcases G5.o4.ub with⟨-,h⟩|⟨gu,cap,rest,h⟩
     ·rw[h] at hil;simp at hil
     ·exact⟨gu,cap,rest,h⟩
    injection e4 with e41 e42 e43
    subst e41 e43;have UG:=aj (iJ hgu hc1 hc2 hc3 hub);have UB:Hid (∀V,Below w5.heap.size w5 V->Ub V gu Y.us Ze):=λV hV=>hub.below hV hub.lt
    obtain⟨xk,rfl,Ri,hxk⟩:∃xk,pk=some xk/\xk.block<w.heap.size/\∀(i:Nat) k,ks[i]? =some k->Kc w (xk.add (i*11)) k:=by
     obtain⟨a',c',e',-,-,hx⟩:=K;injection e' with e1' e2' e3'
     subst e1';exact hx (by rintro hn;rw[hn] at hkl;simp at hkl)
    have BW:Hid (∀V,Below w5.heap.size w5 V->Below w.heap.size w V):=λV hV=>(BV _ G5.k).trans (hV.mono (BV _ G5.k).size)
    have KX:Hid (∀V,Below w5.heap.size w5 V->∀(j:Nat) kk,ks[j]? =some kk->Kc V (xk.add (j*11)) kk):=λV hV j kk hj=>(hxk j kk hj).below (BW V hV) (by rw[add_block];exact Ri)
    have C5:Hid (∀V,Below w5.heap.size w5 V->(Wx V z (int i64 Y.turn) (int i64 Y.next) (int i64 Y.wide) (int i64 Y.high) (slice a1 Y.gs.length h1) (slice a2 Y.os.length h2) (slice a3 Y.gold.length h3) (slice (some ⟨gu,0,none⟩) Y.us.length h4) (slice a5 Y.qs.length h5)/\fA V ⟨gu,i*8,none⟩ u/\Kc V (xk.add (kn*11)) k/\pJ V ⟨y,0,none⟩ o)):=λV hV=>⟨G5.x.below hV G5.x.lt,(UB V hV).pV FI.2,KX V hV kn k KU.2.1,O5.below hV O5.lt⟩
    have aaZ:((kn:Nat):Int)<(ks.length:Nat):=by omega
    have hii:((i:Nat):Int)<(Y.us.length:Nat):=by omega
    have hi0:¬((i:Nat):Int)<0:=by omega
    have D5:Hid (Below w5.heap.size w5 {w5 with drawn:=w5.drawn+1}):=aB.drew;clear hu hask hfirst hkk hap hpn hpl hgu hc1 hc2 hc3 hub e42 hxk Ri hkn hil hkl;go_upto_region 11 with fail
    refine aV [(true,0),(true,1),(true,2),(true,3),(true,4),(true,5),(true,6),(true,7),(true,8),(true,9),(true,10),(true,11),(true,12),(true,13),(true,14),(false,15)] [(false,16),(false,17)] (λV=>Wx V z (int i64 Y.turn) (int i64 Y.next) (int i64 Y.wide) (int i64 Y.high) (slice a1 Y.gs.length h1) (slice a2 Y.os.length h2) (slice a3 Y.gold.length h3) (slice (some ⟨gu,0,none⟩) Y.us.length h4) (slice a5 Y.qs.length h5)/\fA V ⟨gu,i*8,none⟩ u/\Kc V (xk.add (kn*11)) k/\pJ V ⟨y,0,none⟩ o) (by kernel_rfl) (by kernel_rfl) (by kernel_rfl) (by decide+kernel) (by decide+kernel) (C5 _ D5) ?_;generalize ({w5 with drawn:=w5.drawn+1}:World)=w6 at *;refine au rfl (int i64 (i:Nat)) (by go_simp) (λV hV=>by go_simp) ?_;go_simp;refine au rfl (.bool false) (by go_simp) (λV hV=>by go_simp) ?_;go_simp;refine au rfl (.bool false) (by go_simp) (λV hV=>by go_simp) ?_;go_simp;refine au rfl (slice (some xk) ks.length qk) (by go_simp) (λV hV=>by go_simp) ?_;go_simp;refine au rfl (.agg #[int i64 Y.turn,int i64 Y.next,int i64 Y.wide,int i64 Y.high,slice a1 Y.gs.length h1,slice a2 Y.os.length h2,slice a3 Y.gold.length h3,slice (some ⟨gu,0,none⟩) Y.us.length h4,slice a5 Y.qs.length h5]) (by go_simp) (λV hV=>by obtain⟨hX,hU,hK,hO⟩:=hV;have xx:=hX.cells;obtain⟨y0,y1,y2,y3,y4,y5,y6,y7⟩:=hU;obtain⟨k0,k1,k2,k3,k4,k5,k6,k7,k8,k9,k10⟩:=hK;obtain⟨o0,o1,o2,o3⟩:=hO;simp only[aO] at o1 o2 o3;go_simp) ?_;go_simp;refine au rfl (slice (some xk) ks.length qk) (by go_simp) (λV hV=>by go_simp) ?_;go_simp;refine au rfl (.pointer (some ⟨z,7,none⟩)) (by go_simp) (λV hV=>by go_simp) ?_;go_simp;refine au rfl (slice (some ⟨gu,0,none⟩) Y.us.length h4) (by go_simp) (λV hV=>by obtain⟨hX,hU,hK,hO⟩:=hV;have xx:=hX.cells;obtain⟨y0,y1,y2,y3,y4,y5,y6,y7⟩:=hU;obtain⟨k0,k1,k2,k3,k4,k5,k6,k7,k8,k9,k10⟩:=hK;obtain⟨o0,o1,o2,o3⟩:=hO;simp only[aO] at o1 o2 o3;go_simp) ?_;go_simp;refine au rfl (int i64 (i:Nat)) (by go_simp) (λV hV=>by go_simp) ?_;go_simp;refine au rfl (.pointer (some ⟨gu,i*8,none⟩)) (by go_simp) (λV hV=>by go_simp) ?_;go_simp;refine au rfl (.pointer (some ⟨gu,i*8+2,none⟩)) (by go_simp) (λV hV=>by go_simp) ?_;go_simp;refine au rfl (int i64 (kn:Nat)) (by go_simp) (λV hV=>by obtain⟨hX,hU,hK,hO⟩:=hV;have xx:=hX.cells;obtain⟨y0,y1,y2,y3,y4,y5,y6,y7⟩:=hU;obtain⟨k0,k1,k2,k3,k4,k5,k6,k7,k8,k9,k10⟩:=hK;obtain⟨o0,o1,o2,o3⟩:=hO;simp only[aO] at o1 o2 o3;rw[KU.out.1] at y2;go_simp) ?_;go_simp;refine au rfl (.pointer (some (xk.add (kn*11)))) (by go_simp) (λV hV=>by go_simp) ?_;go_simp;refine au rfl (.agg #[.string k.b,int i64 k.n0,int i64 k.n1,int i64 k.n2,int i64 k.n3,int i64 k.n4,int i64 k.n5,int i64 k.n6,int i64 k.n7,.bool k.f,.bool k.t]) (by go_simp) (λV hV=>by obtain⟨hX,hU,hK,hO⟩:=hV;have xx:=hX.cells;obtain⟨y0,y1,y2,y3,y4,y5,y6,y7⟩:=hU;obtain⟨k0,k1,k2,k3,k4,k5,k6,k7,k8,k9,k10⟩:=hK;obtain⟨o0,o1,o2,o3⟩:=hO;simp only[aO] at o1 o2 o3;go_simp) ?_;go_simp;refine au rfl (.agg #[int i64 o.ay,int i64 o.unit,int i64 o.what,int i64 o.arg]) (by go_simp) (λV hV=>by obtain⟨hX,hU,hK,hO⟩:=hV;have xx:=hX.cells;obtain⟨y0,y1,y2,y3,y4,y5,y6,y7⟩:=hU;obtain⟨k0,k1,k2,k3,k4,k5,k6,k7,k8,k9,k10⟩:=hK;obtain⟨o0,o1,o2,o3⟩:=hO;simp only[aO] at o1 o2 o3;go_simp) ?_;go_simp;refine dH rfl 102 #[slice (some xk) ks.length qk,.agg #[int i64 Y.turn,int i64 Y.next,int i64 Y.wide,int i64 Y.high,slice a1 Y.gs.length h1,slice a2 Y.os.length h2,slice a3 Y.gold.length h3,slice (some ⟨gu,0,none⟩) Y.us.length h4,slice a5 Y.qs.length h5],.agg #[.string k.b,int i64 k.n0,int i64 k.n1,int i64 k.n2,int i64 k.n3,int i64 k.n4,int i64 k.n5,int i64 k.n6,int i64 k.n7,.bool k.f,.bool k.t],.agg #[int i64 o.ay,int i64 o.unit,int i64 o.what,int i64 o.arg]] (by go_simp) (by go_simp) ?_;have GW:=aj (G5.below D5);refine Calls.mono (maybe_any _ _ ks Y k o w6 (K.below (BW w6 D5)) GW.wo.l GW.f OBK (by rw[KU.out.2.2.1,bF];exact KU.2.2.2)) ?_;rintro e w7 ⟨rfl,b7⟩;have D7:=aG D5 b7;refine⟨_,rfl,C5 _ D7,?_⟩;obtain⟨mb,hmb⟩:∃b,wQ ks Y k o=b:=⟨_,rfl⟩;have MB:=aj (hmb);rw[hmb];clear b7 hmb;go_simp;refine aW rfl (.bool (!mb)) w7 (by go_simp) (by go_simp) trivial ?_;go_simp;refine aW rfl (.bool (!mb)) w7 (by go_simp) (by go_simp) trivial ?_;go_simp;unfold bC;have G7':=aj (G5.below D7);cases mb with
    |false=>
     have GN:Hid (iG ks Y o=none):=by unfold Hid;rw[G1.out,MB.out];simp
     have NX:Hid (gv ks X out (q+1)=(Y,ref++[(q:Int)])):=by
      have h9:=Jv (ks:=ks) (Y:=X) HO (by rw[HY.out.1];exact GN);unfold Hid;rw[h9,HY.out.1,HY.out.2]
     have BA:Hid (Below _ w7 (w7.alloc (cells #[int i64 (q:Nat)] 3))):=aA;have GA:=aj (G7'.below BA);have SB:=aj (aJ (by have h1:=G7'.k.size;rw[HB1.out.1] at h1;exact h1) BA.size);go_wp2_with (at_builtin;refine gG _ rfl _ _ rfl b1 _ ref rfl GA.r ⟨w7.heap.size,0,none⟩ (q:Int) rfl (by simp) (by have:=RL.out;omega) SB ?_);intro g7 c7 w8 o7 gr7 a7 l7;have G8:=aj (GA.refuse (by have:=HB1.out.2;omega) HB1.1 gr7 o7 (by
      rcases a7 with h|h
      ·exact .inl h.symm
      ·exact .inr ⟨g7,rfl,by rw[h];simp⟩))
     clear o7 gr7 a7 l7;go_wp2;go_round
     case rel=>exact⟨q+1,_,_,_,_,_,by omega,by go_num,by rw[NX.out];have:=RL.out;simp;omega,by rw[NX.out];exact G8⟩
     case measure=>simp[intOf];omega
    |true=>
     have GY:Hid (iG ks Y o=some (if o.what=3 then iy ks Y o else qC Y i u o)):=by unfold Hid;rw[G1.out,MB.out];simp
     obtain⟨c0,c1,c2,c3⟩:=(C5 _ D7).2.2.2;simp only[aO] at c1 c2 c3;by_cases hw3:o.what=3
     ·have abv:=beq_iff_eq.2 hw3
      have HW3:=aj (hw3);have M3:Hid (k.t=true/\o.arg<(ks.length:Int)/\iT ks o.arg<=Y.gold.getD o.ay.toNat 0/\Y.qs.length<12):=by
       have h9:=MB.out;unfold wQ at h9;rw[if_neg (by omega),if_neg (by omega),if_pos hw3] at h9;unfold Hid;exact of_decide_eq_true h9
      have A0:0<=o.arg:=by have h9:=Od.Bv OBK;omega
      obtain⟨an,han⟩:∃an:Nat,o.arg=an:=⟨o.arg.toNat,by omega⟩;obtain⟨kk,hkk⟩:∃kk,ks[an]? =some kk:=⟨_,aH (by have:=M3.out.2.1;omega)⟩;have AK:Hid (o.arg=(an:Nat)/\ks[an]? =some kk):=⟨han,hkk⟩;have acR:((an:Nat):Int)<(ks.length:Nat):=by have:=M3.out.2.1;omega
      obtain⟨g,hgp⟩:∃g,Y.gold[pn]? =some g:=⟨_,aH KU.2.2.2⟩;have GP:=aj (hgp);obtain⟨gg,cg,Zf,e3,hgg,hd1,hd2,hd3,hbk⟩:∃g cap rest,slice a3 Y.gold.length h3=slice (some ⟨g,0,none⟩) Y.gold.length cap/\b1<=g/\Y.gold.length<=cap/\cap<=maxLen/\Y.gold.length+rest.size=cap/\Bk w7 g Y.gold rest:=by
       rcases G7'.o3.bk with⟨-,h⟩|h
       ·have:=KU.out.2.2.2;rw[h] at this;simp at this
       ·exact h
      injection e3 with e31 e32 e33
      subst e31 e33;have GG:=aj (iJ hgg hd1 hd2 hd3 hbk);have EG:Hid ((iy ks Y o).gold=Y.gold.set pn (g-kk.n5)):=by
       unfold Hid iy iT;simp only[KU.out.2.2.1,AK.out.1,bF,AK.out.2,dD,GP.out,Option.getD_some]
      have EQ:Hid ((iy ks Y o).qs=Y.qs++[⟨o.ay,o.unit,o.arg,max kk.n6 1⟩]):=by
       unfold Hid iy turnsOf;simp only[AK.out.1,bF,AK.out.2]
      have NX:Hid (gv ks X out (q+1)=(iy ks Y o,ref)):=by
       have h9:=yX (ks:=ks) (Y:=X) HO (Z:=iy ks Y o) (by rw[HY.out.1,GY.out,if_pos hw3]);unfold Hid;rw[h9,HY.out.2]
      have CE:Hid (∀V,Below w7.heap.size w7 V->(Kc V (xk.add (an*11)) kk/\pJ V ⟨y,0,none⟩ o)):=λV hV=>⟨KX V (D7.trans (hV.mono D7.size)) an kk AK.2,(C5 V (D7.trans (hV.mono D7.size))).2.2.2⟩
      have D8:Hid (Below w7.heap.size w7 {w7 with drawn:=w7.drawn+1}):=aB.drew;clear hw3 A0 han hkk hgp hgg hd1 hd2 hd3 hbk e32;go_upto_region 14 with fail
      clear c0 c1 c2 c3 abv;refine aV [(true,0),(true,1),(true,2),(true,3),(true,4),(true,5)] [(false,6)] (λV=>Kc V (xk.add (an*11)) kk/\pJ V ⟨y,0,none⟩ o) (by kernel_rfl) (by kernel_rfl) (by kernel_rfl) (by decide+kernel) (by decide+kernel) (CE _ D8) ?_;generalize ({w7 with drawn:=w7.drawn+1}:World)=w8 at *;refine au rfl (slice (some xk) ks.length qk) (by go_simp) (λV hV=>by go_simp) ?_;go_simp;refine au rfl (.pointer (some ⟨y,3,none⟩)) (by go_simp) (λV hV=>by go_simp) ?_;go_simp;refine au rfl (int i64 (an:Nat)) (by go_simp) (λV hV=>by obtain⟨hK,hO⟩:=hV;obtain⟨o0,o1,o2,o3⟩:=hO;simp only[aO] at o1 o2 o3;rw[AK.out.1] at o3;go_simp) ?_;go_simp;refine au rfl (.pointer (some (xk.add (an*11)))) (by go_simp) (λV hV=>by go_simp) ?_;go_simp;refine au rfl (.agg #[.string kk.b,int i64 kk.n0,int i64 kk.n1,int i64 kk.n2,int i64 kk.n3,int i64 kk.n4,int i64 kk.n5,int i64 kk.n6,int i64 kk.n7,.bool kk.f,.bool kk.t]) (by go_simp) (λV hV=>by obtain⟨hK,hO⟩:=hV;obtain⟨k0,k1,k2,k3,k4,k5,k6,k7,k8,k9,k10⟩:=hK;obtain⟨o0,o1,o2,o3⟩:=hO;simp only[aO] at o1 o2 o3;go_simp) ?_;go_simp;refine au rfl (.agg #[int i64 o.ay,int i64 o.unit,int i64 o.what,int i64 o.arg]) (by go_simp) (λV hV=>by obtain⟨hK,hO⟩:=hV;obtain⟨o0,o1,o2,o3⟩:=hO;simp only[aO] at o1 o2 o3;go_simp) ?_;go_simp;unfold dw;have G8:=aj (G7'.below D8);have B8:=aj (GG.2.2.2.2.below D8);have KM:=aj (G8.f.kinds.2 kk (aT AK.2));refine bI rfl 103 #[.pointer (some ⟨z,0,none⟩),.agg #[.string kk.b,int i64 kk.n0,int i64 kk.n1,int i64 kk.n2,int i64 kk.n3,int i64 kk.n4,int i64 kk.n5,int i64 kk.n6,int i64 kk.n7,.bool kk.f,.bool kk.t],.agg #[int i64 o.ay,int i64 o.unit,int i64 o.what,int i64 o.arg]] (by go_simp) (by go_simp) ?_;refine Calls.mono (Tv z gg Y.gold.length h3 b1 _ _ _ _ _ _ _ Y.gold Zf a5 h5 Y.qs kk o pn g w8 G8.x B8 G8.o5 KU.2.2.1 KU.2.2.2 GP (G8.f.gold g (aT GP)) ⟨KM.1,KM.2.1⟩ KM.2.2 G8.f.ql (by have:=HB1.out.2;omega) GG.1 (by have h1:=G8.k.size;rw[HB1.out.1] at h1;exact h1) (λh=>G8.wU.2.2.1.2.1 gg rfl h)) ?_;rintro e w9 ⟨rfl,a8',h8',hx,hbk,hj,hf,hn⟩;refine⟨_,rfl,trivial,?_⟩;have G9:=aj (G8.hire (pn:=pn) (g:=g) (rest:=Zf) (by have:=HB1.out.2;omega) HB1.1 GG.1 GG.2.1 GG.2.2.1 GG.2.2.2.1 hx (by rw[EG.out];exact hbk) (by rw[EQ.out];exact hj) hf hn (G8.f.hire M3.2.2.1 (by rw[KU.out.2.2.1,bF];exact KU.2.2.2) M3.2.2.2));clear hx hbk hj hf hn;go_simp;unfold bC;go_wp2;go_round
      case rel=>exact⟨q+1,_,_,_,_,_,by omega,by go_num,by rw[NX.out];have:=RL.out;show ref.length<=q+1;omega,by rw[NX.out];exact G9⟩
      case measure=>simp[intOf];omega
     ·have abv:=beq_eq_false_iff_ne.2 hw3
      have NX:Hid (gv ks X out (q+1)=(qC Y i u o,ref)):=by
       have h9:=yX (ks:=ks) (Y:=X) HO (Z:=qC Y i u o) (by rw[HY.out.1,GY.out,if_neg hw3]);unfold Hid;rw[h9,HY.out.2]
      have WH:Hid (o.what=0/\o.arg=0\/o.what=1\/o.what=2):=by have h9:=Od.Bv OBK;unfold Hid;omega
      have CE:Hid (∀V,Below w7.heap.size w7 V->(Wx V z (int i64 Y.turn) (int i64 Y.next) (int i64 Y.wide) (int i64 Y.high) (slice a1 Y.gs.length h1) (slice a2 Y.os.length h2) (slice a3 Y.gold.length h3) (slice (some ⟨gu,0,none⟩) Y.us.length h4) (slice a5 Y.qs.length h5)/\fA V ⟨gu,i*8,none⟩ u/\Kc V (xk.add (kn*11)) k/\pJ V ⟨y,0,none⟩ o)):=λV hV=>C5 V (D7.trans (hV.mono D7.size))
      have D8:Hid (Below w7.heap.size w7 {w7 with drawn:=w7.drawn+1}):=aB.drew;clear hw3;go_upto_region 15 with fail
      clear c0 c1 c2 c3;refine aV [(true,0),(true,1),(true,2),(true,3),(true,4)] [(false,5)] (λV=>Wx V z (int i64 Y.turn) (int i64 Y.next) (int i64 Y.wide) (int i64 Y.high) (slice a1 Y.gs.length h1) (slice a2 Y.os.length h2) (slice a3 Y.gold.length h3) (slice (some ⟨gu,0,none⟩) Y.us.length h4) (slice a5 Y.qs.length h5)/\fA V ⟨gu,i*8,none⟩ u/\Kc V (xk.add (kn*11)) k/\pJ V ⟨y,0,none⟩ o) (by kernel_rfl) (by kernel_rfl) (by kernel_rfl) (by decide+kernel) (by decide+kernel) (CE _ D8) ?_;generalize ({w7 with drawn:=w7.drawn+1}:World)=w8 at *;refine au rfl (.pointer (some ⟨z,7,none⟩)) (by go_simp) (λV hV=>by go_simp) ?_;go_simp;refine au rfl (slice (some ⟨gu,0,none⟩) Y.us.length h4) (by go_simp) (λV hV=>by obtain⟨hX,hU,hK,hO⟩:=hV;have xx:=hX.cells;obtain⟨y0,y1,y2,y3,y4,y5,y6,y7⟩:=hU;obtain⟨k0,k1,k2,k3,k4,k5,k6,k7,k8,k9,k10⟩:=hK;obtain⟨o0,o1,o2,o3⟩:=hO;simp only[aO] at o1 o2 o3;go_simp) ?_;go_simp;refine au rfl (int i64 (i:Nat)) (by go_simp) (λV hV=>by go_simp) ?_;go_simp;refine au rfl (.pointer (some ⟨gu,i*8,none⟩)) (by go_simp) (λV hV=>by go_simp) ?_;go_simp;refine au rfl (.agg #[int i64 o.ay,int i64 o.unit,int i64 o.what,int i64 o.arg]) (by go_simp) (λV hV=>by obtain⟨hX,hU,hK,hO⟩:=hV;have xx:=hX.cells;obtain⟨y0,y1,y2,y3,y4,y5,y6,y7⟩:=hU;obtain⟨k0,k1,k2,k3,k4,k5,k6,k7,k8,k9,k10⟩:=hK;obtain⟨o0,o1,o2,o3⟩:=hO;simp only[aO] at o1 o2 o3;go_simp) ?_;go_simp;unfold dw;have G8:=aj (G7'.below D8);refine bI rfl 104 #[.pointer (some ⟨gu,i*8,none⟩),.agg #[int i64 o.ay,int i64 o.unit,int i64 o.what,int i64 o.arg]] (by go_simp) (by go_simp) ?_;refine Calls.mono (Tt gu i Y.us Ze u o w8 (UB _ (D7.trans (D8.mono D7.size))) FI.2 WH) ?_;rintro e w9 ⟨rfl,hub,hkp⟩;refine⟨_,rfl,trivial,?_⟩;have G9:=aj (G8.send (by have:=HB1.out.2;omega) HB1.1 FI.2 UG.1 UG.2.1 UG.2.2.1 UG.2.2.2.1 hub hkp);clear hub hkp;go_simp;unfold bC;go_wp2;go_round
      case rel=>exact⟨q+1,_,_,_,_,_,by omega,by go_num,by rw[NX.out];have:=RL.out;show ref.length<=q+1;omega,by rw[NX.out];exact G9⟩
      case measure=>simp[intOf];omega
end
section
open Go.RowKit
variable {b n:Nat} {p:Int} {w w':World}
theorem zW:Maps.Keyed prog 3:=Maps.int_keyed underlying3
theorem TY(hp:(Lit.int i64 p).wf=true):∃kl,keyOf prog 3 (int i64 p)=some kl:=⟨_,Maps.keyOf_int_mk underlying3 hp⟩
theorem Yh(w:World):(zeroValue 3).run prog w=.ok (int i64 0) w:=by kernel_rfl
theorem Zg{n:Int}(h0: -9223372036854775808<=n)(h1:n<=9223372036854775807):(Lit.int i64 n).wf=true:=WalkArith.wf_i64 (by omega)
def Im(w:World)(b n:Nat)(f:Int->Int):Prop:=∃D:DataW Unit,w.ownsMap prog 3 (plainElem prog 3) b n D/\Maps.IsMap D/\∀p kl,keyOf prog 3 (.int .i64 p)=some kl->D.atKey kl (.lit (.int .i64 0))=.lit (.int .i64 (f p))
def Io(f:Int->Int)(p v:Int):Int->Int:=λp'=>if p'=p then v else f p'
theorem Yi(w:World):Im (w.alloc (.map #[] 0)) w.heap.size 0 (λ_=>0):=
 ⟨.map [],World.ownsMap_made _ _ _ _,Maps.isMap_empty,λp kl _=>Maps.atKey_of_not_has rfl _⟩
theorem Im.lt{f:Int->Int}(h:Im w b n f):b<w.heap.size:=by
 obtain⟨D,h1,-⟩:=h;exact h1.lt
theorem Im.gb{f:Int->Int}{r:Option Nat}(h:Im w b n f)(g:w.grownBy w' r)(hr:some b≠r):Im w' b n f:=by
 obtain⟨D,h1,h2⟩:=h;exact⟨D,h1.kept g hr,h2⟩
theorem Im.below{f:Int->Int}(h:Im w b n f)(g:Below w.heap.size w w'):Im w' b n f:=
 h.gb (r:=none) ⟨g.os,g.tape,g.output,g.size,λk hk _=>g.block k hk⟩ (by simp)
theorem Im.put{f:Int->Int}(h:Im w b n f)(hn:n<maxLen){v:Int}(hp:(Lit.int i64 p).wf=true)(hv:(Lit.int i64 v).wf=true):
  ∃w',(Instr.mapUpdate 166 (.map (some b)) (int i64 p) (int i64 v)).run prog w=.ok () w'/\Im w' b (n+1) (Io f p v)/\w.grownBy w' (some b):=by
 obtain⟨D,h1,hD,h2⟩:=h;obtain⟨kl,hk⟩:=TY hp;obtain⟨w',r,o,g⟩:=World.ownsMap.update h1 zW underlying166 hn hk (plainElem_int underlying3 hv);refine⟨w',r,⟨_,o,hD.put _ _,λp' kl' hk'=>?_⟩,g⟩;unfold Io;by_cases e:kl'=kl
 ·subst e
  have ei:=zW.inj hk hk';simp only[Value.int.injEq,true_and] at ei;rw[if_pos ei.symm];exact Maps.atKey_put_same hD (zW.key hk) _ _
 ·rw[Maps.atKey_put_other e,if_neg,h2 p' kl' hk']
  rintro rfl;exact e (dQ (hk'.symm.trans hk))
theorem Im.look{f:Int->Int}(h:Im w b n f)(hp:(Lit.int i64 p).wf=true):
  (Instr.lookup 166 (.map (some b)) (int i64 p) false).run prog w=.ok (int i64 (f p)) w:=by
 obtain⟨D,h1,hD,h2⟩:=h;obtain⟨kl,hk⟩:=TY hp;obtain⟨c,hr,hat,-⟩:=h1.lookup_int zW underlying166 underlying3 (Yh w) hk;rw[h2 p kl hk] at hat;injection hat with e
 injection e with _ e
 rw[e];exact hr
theorem Dn(j:bM)(bc bm n:Nat)(f:Int->Int)(w:World)(hc:w.cell? ⟨bc,0,none⟩=some (.map (some bm)))(hm:Im w bm n f)(hne:bc≠bm)(hn:n<=1000)(hf:0<=f j.unit/\f j.unit<=1000)(hu:(Lit.int i64 j.unit).wf=true):
  Calls prog 105 #[j.val,.pointer (some ⟨bc,0,none⟩)] w λe w'=>∃b:Bool,b=(f j.unit==0)/\e=.returned (.bool b)/\Im w' bm (n+1) (Io f j.unit (f j.unit+1))/\Fr (λq=>q=bm) w w':=by
 have HC:=aj (hc);have HM:=aj (hm);have WF:Hid ((Lit.int i64 j.unit).wf=true/\(Lit.int i64 (f j.unit+1)).wf=true):=⟨hu,Zg (by omega) (by omega)⟩;obtain⟨fu,hfu⟩:∃x,f j.unit=x:=⟨_,rfl⟩;have FU:=aj (hfu);rw[hfu] at hf;clear hc hm hu hfu;unfold bM.val;go_enter func105,ntmps105;go_upto_region 1 with fail
 have B1:Hid (Below _ w (w.alloc (cells #[int i64 j.ay,int i64 j.unit,int i64 j.kind,int i64 j.left] 93))):=aA;obtain⟨z,hz⟩:∃z,w.heap.size=z:=⟨_,rfl⟩;have X1:=aj (nI.mk' (w:=w) j hz);have ZM:Hid (bm<z/\bc<z):=by unfold Hid;rw[<-hz];exact⟨HM.lt,cell_lt HC⟩
 rw[hz];clear hz;generalize w.alloc _=w1 at *;have c1:w1.cell? ⟨bc,0,none⟩=some (.map (some bm)):=by rw[B1.out.cell (p:=⟨bc,0,none⟩) (cell_lt HC.out)];exact HC
 have m1:=HM.below B1;have j1:w1.cell? ⟨z,1,none⟩=some _:=X1.c1;have l1:=m1.look WF.1;rw[FU.out] at l1;obtain⟨w2,u2,o2,g2⟩:=m1.put (by unfold maxLen;omega) WF.1 WF.2;rw[FU.out] at u2;have M2:=aj (o2);have G2:=aj (g2);have L2:=o2.look WF.1;have e2:Io f j.unit (f j.unit+1) j.unit=fu+1:=by unfold Io;rw[if_pos rfl,FU.out]
 rw[e2] at L2;have c2:w2.cell? ⟨bc,0,none⟩=some (.map (some bm)):=by
  have:=G2.block bc (Nat.lt_trans ZM.2 X1.lt) (by simp;omega);unfold World.cell? at c1 ⊢;rw[this];exact c1
 have j2:w2.cell? ⟨z,1,none⟩=some (int i64 j.unit):=by
  have:=G2.block z X1.lt (by simp;have:=ZM.out;omega);unfold World.cell? at j1 ⊢;rw[this];exact j1
 have wf1:IntKind.i64.wrap (fu+1)=fu+1:=by rw[IntKind.wrap_i64];omega
 have FR:Hid (Fr (λq=>q=bm) w w2):=(Fr.below B1).trans (Fr.gb G2 (λk hk=>by injection hk with hk;exact hk.symm));clear m1 o2 g2 e2;by_cases h0:fu=0
 ·subst h0
  simp only[Int.zero_add] at u2 L2 wf1;go_wp2;go_ret;exact⟨true,by rw[FU.out];rfl,rfl,by rw[FU.out] at M2;rw[FU.out];exact M2,FR⟩
 ·have h1:(fu+1==1)=false:=by rw[beq_eq_false_iff_ne];omega
  have h1':¬fu+1=1:=by omega
  go_wp2;go_ret;exact⟨false,by rw[FU.out];exact(beq_eq_false_iff_ne.2 h0).symm,rfl,by rw[FU.out] at M2;rw[FU.out];exact M2,FR⟩
end
end Go.Proofs.YtolfphmdmpehdaaGreatDoor
