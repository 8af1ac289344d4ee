/- Jobs in a block that may be written. And more. -/
import Derived.Test.YtolfphmdmpehdaaGreatDoorZTopViews5
set_option linter.unusedVariables false
set_option linter.unusedSimpArgs false
set_option maxHeartbeats 16000000
set_option maxRecDepth 100000
open Go.Value (int slice)
open Go.IntKind (i64)
open Go.Proofs.Tryz
namespace Go.Proofs.YtolfphmdmpehdaaGreatDoor
section
open Go.RowKit
variable {B base g i j n:Nat} {L ks:List bM} {o x y:bM} {rest:List Value} {w w':World}
def Jk(w:World)(g:Nat)(ks:List bM)(rest:List Value):Prop:=w.heap[g]? =some (.cells (ks.flatMap bM.cs++rest).toArray 93 (0,0))
theorem Jk.lt(h:Jk w g ks rest):g<w.heap.size:=lt_of_block h
theorem Jk.thaw(h:Jk w g ks rest)(i:Nat):w.frozen? ⟨g,i,none⟩=false:=by
 unfold Jk at h;simp[World.frozen?,h]
theorem Jk.below(h:Jk w g ks rest)(hb:Below B w w')(hB:g<B):Jk w' g ks rest:=by
 unfold Jk at *;rw[hb.block g hB];exact h
theorem Jk.at_(h:Jk w g ks rest)(ho:ks[i]? =some o)(hj:j<4):w.cell? ⟨g,i*4+j,none⟩=o.cs[j]? :=by
 unfold Jk at h;have hi:=(aK.1 ho).1;simp only[World.cell?,h];have e:(ks.flatMap bM.cs++rest).toArray[i*4+j]? =o.cs[j]? :=by
  rw[List.getElem?_toArray,iV (by rw[jF];omega),qB ks i j o ho hj]
 simp only[e];simp
theorem Jk.jbc(h:Jk w g ks rest)(ho:ks[i]? =some o):nI w ⟨g,i*4,none⟩ o:=
 ⟨h.at_ ho (j:=0) (by decide),h.at_ ho (j:=1) (by decide),h.at_ ho (j:=2) (by decide),h.at_ ho (j:=3) (by decide)⟩
theorem xY:∀(ks:List bM) (i:Nat) (o:bM) (rest:List Value),i<ks.length->
  (ks.set i o).flatMap bM.cs++rest=((((ks.flatMap bM.cs++rest).set (i*4) (int i64 o.ay)).set (i*4+1) (int i64 o.unit)).set (i*4+2) (int i64 o.kind)).set (i*4+3) (int i64 o.left)
 |[],i,o,rest,h=>by simp at h
 |k::ks,0,o,rest,_=>by
  simp[bM.cs]
 |k::ks,i+1,o,rest,h=>by
  have ih:=xY ks i o rest (by simpa using h);rw[show(i+1)*4=i*4+4 by omega,show i*4+4+1=i*4+1+4 by omega,show i*4+4+2=i*4+2+4 by omega,show i*4+4+3=i*4+3+4 by omega,List.set_cons_succ,List.flatMap_cons,bT,ih,List.flatMap_cons];simp[bM.cs]
theorem Jk.put(h:Jk w g ks rest)(hi:i<ks.length)(o:bM):
  Jk ((((w.setCell ⟨g,i*4,none⟩ (int i64 o.ay)).setCell ⟨g,i*4+1,none⟩ (int i64 o.unit)).setCell ⟨g,i*4+2,none⟩ (int i64 o.kind)).setCell ⟨g,i*4+3,none⟩ (int i64 o.left)) g (ks.set i o) rest:=by
 unfold Jk at *;have h0:=heap_setCell_same w g (i*4) _ _ (int i64 o.ay) h;have h1:=heap_setCell_same _ g (i*4+1) _ _ (int i64 o.unit) h0;have h2:=heap_setCell_same _ g (i*4+2) _ _ (int i64 o.kind) h1;have h3:=heap_setCell_same _ g (i*4+3) _ _ (int i64 o.left) h2;rw[h3,xY ks i o rest hi];simp
theorem SL{W:World}(o:bM)(h:Below B w W)(hb:B<=g):Below B w ((((W.setCell ⟨g,i*4,none⟩ (int i64 o.ay)).setCell ⟨g,i*4+1,none⟩ (int i64 o.unit)).setCell ⟨g,i*4+2,none⟩ (int i64 o.kind)).setCell ⟨g,i*4+3,none⟩ (int i64 o.left)):=
 (((h.setCell (p:=⟨g,i*4,none⟩) hb _).setCell (p:=⟨g,i*4+1,none⟩) hb _).setCell (p:=⟨g,i*4+2,none⟩) hb _).setCell (p:=⟨g,i*4+3,none⟩) hb _
theorem vM:∀(ks:List bM) (i:Nat) (o:bM) (a:Int) (rest:List Value),ks[i]? =some o->(ks.set i {o with left:=a}).flatMap bM.cs++rest=(ks.flatMap bM.cs++rest).set (i*4+3) (int i64 a)
 |[],i,o,a,rest,h=>by simp at h
 |k::ks,0,o,a,rest,h=>by
  simp at h;subst h;simp[bM.cs]
 |k::ks,i+1,o,a,rest,h=>by
  have ih:=vM ks i o a rest (by simpa using h);rw[show(i+1)*4+3=i*4+3+4 by omega,List.set_cons_succ,List.flatMap_cons,bT,ih,List.flatMap_cons];simp[bM.cs]
theorem Jk.Ls(h:Jk w g ks rest)(ho:ks[i]? =some o)(a:Int):Jk (w.setCell ⟨g,i*4+3,none⟩ (int i64 a)) g (ks.set i {o with left:=a}) rest:=by
 unfold Jk at *;have h0:=heap_setCell_same w g (i*4+3) _ _ (int i64 a) h;rw[h0,vM ks i o a rest ho];simp
theorem fB.jk{v:Value}(h:fB w base v ks):(v=slice none 0 0/\ks=[])\/∃g cap rest,v=slice (some ⟨g,0,none⟩) ks.length cap/\base<=g/\ks.length<=cap/\cap<=maxLen/\ks.length*4+rest.length=cap*4/\Jk w g ks rest:=by
 rcases h.2 with⟨h1,h2⟩|⟨g,cap,cur,h1,h2,h3,h4,h5,h6,h7⟩
 ·exact .inl ⟨h1,List.length_eq_zero_iff.1 h2⟩
 ·refine .inr ⟨g,cap,cur.toList.drop (ks.length*4),h1,h2,h4,h5,?_,?_⟩
  ·have e6:cur.toList.length=cap*4:=by simpa using h6
   rw[jR,e6];have:ks.length*4<=cap*4:=Nat.mul_le_mul_right _ h4;omega
  ·unfold Jk
   rw[<-h7,List.take_append_drop,Array.toArray_toList];exact h3
theorem Jk.jbo{cap:Nat}(h:Jk w g ks rest)(hb:base<=g)(h1:ks.length<=cap)(h2:cap<=maxLen)(h3:ks.length*4+rest.length=cap*4):fB w base (slice (some ⟨g,0,none⟩) ks.length cap) ks:=by
 refine⟨jF ks,.inr ⟨g,cap,_,rfl,hb,h,h1,h2,?_,?_⟩⟩
 ·simp only[List.size_toArray,aC,jF];omega
 ·show(ks.flatMap bM.cs++rest).take (ks.length*4)=_
  rw[List.take_append_of_le_length (by rw[jF];exact aU _),List.take_of_length_le (by rw[jF];exact aU _)]
theorem Jk.take(h:Jk w g ks rest)(m:Nat):Jk w g (ks.take m) ((ks.drop m).flatMap bM.cs++rest):=by
 unfold Jk at *;rw[<-bT,<-fM,List.take_append_drop];exact h
def acu(p:bM->Bool)(ks:List bM)(r:Int):Prop:=(r= -1/\ks.any p=false)\/∃(k:Nat) (x:bM),r=k/\ks[k]? =some x/\p x=true/\(ks.take k).any p=false
theorem Nc{p:bM->Bool}{k:Nat}(h:ks[k]? =some x):(ks.take (k+1)).any p=((ks.take k).any p||p x):=by
 obtain⟨hi,e⟩:=aK.1 h;rw[dM hi,List.any_append,e];simp
theorem wX(w:World)(g m n c:Nat)(ks:List bM)(rest:List Value)(hg:Jk w g ks rest)(hn:0<n)(hm:m+n=ks.length):
  ∃w',(∀ty,(Builtin.clear_ #[27] ty #[slice (some ⟨g,m*4,none⟩) n c]).run prog w=.ok (.tuple #[]) w')/\Jk w' g (ks.take m++List.replicate n (⟨0,0,0,0⟩:bM)) rest/\Below g w w'/\w'.heap.size=w.heap.size/\Kp g w w':=by
 have hzv:∀w,(zeroValue 93).run prog w=.ok (.agg #[int i64 0,int i64 0,int i64 0,int i64 0]) w:=λw=>by kernel_rfl
 have hzc:(Builtin.zeroCells (Value.agg #[int i64 0,int i64 0,int i64 0,int i64 0]).cells n).toList=(List.replicate n (⟨0,0,0,0⟩:bM)).flatMap bM.cs:=by
  have hz8:(Value.agg #[int i64 0,int i64 0,int i64 0,int i64 0]).cells= #[int i64 0,int i64 0,int i64 0,int i64 0]:=by rfl
  rw[hz8];unfold Builtin.zeroCells;apply List.ext_getElem?;intro i;by_cases hi:i<n*4
  ·have e1:(List.replicate n (⟨0,0,0,0⟩:bM))[i/4]? =some ⟨0,0,0,0⟩:=by
    rw[oZ,if_pos (by omega)]
   have e2:=qB _ (i/4) (i%4) _ e1 (Nat.mod_lt _ (by decide));rw[show i/4*4+i%4=i by omega] at e2;rw[e2];have h4:i%4<4:=Nat.mod_lt _ (by decide);simp[bM.cs,hi];generalize i%4=r at *
   match r,h4 with
   |0,_=>rfl
   |1,_=>rfl
   |2,_=>rfl
   |3,_=>rfl
  ·rw[List.getElem?_eq_none (by simp;omega),List.getElem?_eq_none (by rw[jF,jB];omega)]
 obtain⟨vs,hvs⟩:∃vs,(List.replicate n (⟨0,0,0,0⟩:bM)).flatMap bM.cs=vs:=⟨_,rfl⟩;have hvl:vs.length=n*4:=by rw[<-hvs,jF,jB]
 have h1c:∀v∈vs,v.oneCell'=true:=by
  intro v hv;rw[<-hvs] at hv;obtain⟨k,-,hk⟩:=List.mem_flatMap.1 hv;simp[bM.cs] at hk;rcases hk with rfl|rfl|rfl|rfl<;>rfl
 have hst:=run_storeCells_at (P:=prog) g (m*4) 93 vs 0 _ w hg (by simp only[List.size_toArray,aC,jF,hvl];omega) h1c;have hml:(ks.take m).length=m:=by rw[dP];omega
 have hL:(ks.flatMap bM.cs++rest).toArray.toList.take (m*4+0)++vs++(ks.flatMap bM.cs++rest).toArray.toList.drop (m*4+0+vs.length)=(ks.take m++List.replicate n (⟨0,0,0,0⟩:bM)).flatMap bM.cs++rest:=by
  have e1:(ks.flatMap bM.cs++rest).take (m*4)=(ks.take m).flatMap bM.cs:=by
   conv=>lhs;rw[<-List.take_append_drop m ks,fM,bT]
   rw[List.take_left' (by rw[jF,hml])]
  have e2:(ks.flatMap bM.cs++rest).drop (m*4+vs.length)=rest:=by
   rw[List.drop_left' (by rw[jF,hvl];omega)]
  show(ks.flatMap bM.cs++rest).take (m*4)++vs++(ks.flatMap bM.cs++rest).drop (m*4+vs.length)=_;rw[e1,e2,fM,hvs]
 rw[hL] at hst;refine⟨w.setRow g ((ks.take m++List.replicate n (⟨0,0,0,0⟩:bM)).flatMap bM.cs++rest).toArray,λty=>?_,?_,?_,?_,?_⟩
 ·obtain⟨n',rfl⟩:∃n',n=n'+1:=⟨n-1,by omega⟩
  simp only[hvs] at hzc;simp[Builtin.clear_,run_underlying underlying27,hzv,hzc,hst]
 ·exact setRow_heap w g _ _ _ _ hg
 ·exact⟨rfl,rfl,rfl,by simp,λk hk=>setRow_other _ _ _ _ (by omega)⟩
 ·simp
 ·exact⟨rfl,rfl,rfl,by simp,λk hk hn=>setRow_other _ _ _ _ (by omega)⟩
theorem SN(K:Nat)(eK:∀args w,(callFunc K args).run prog w=.ok (.enter K args) w)(u:Value)(cs:Array Value)(ks:List bM)(p:bM->Bool)(w:World)(hu:VF w u ks)
  (hp:∀W,Below w.heap.size w W->∀k∈ks,Calls prog K (#[k.val]++cs) W λe w'=>e=.returned (.bool (p k))/\Below W.heap.size W w'):
  Calls prog 98 #[u,.func (Fn.func K) #[] cs] w λe w'=>∃r:Int,e=.returned (int i64 r)/\acu p ks r/\Below w.heap.size w w':=by
 obtain⟨a,c,rfl,c1,c2,ca⟩:=hu;have Ca:=aj (ca);have Hp:=aj (hp);clear ca hp;go_enter func98,ntmps98;go_wp2;go_loopw [8] (λi W'=>∃k:Nat,k<=ks.length/\i=int i64 (k:Nat)/\(ks.take k).any p=false/\Below w.heap.size w W') (λi _=>ks.length-(intOf i).toNat)
 case atStart=>exact⟨0,aZ _,rfl,by simp,dU _ _⟩
 case round=>
  obtain⟨k,hk,rfl,ht,hb⟩:=hrel;have Ht:=aj (ht);have B:=aj (hb);clear ht hb;by_cases h0:k=ks.length
  ·subst h0
   go_wp2;go_ret;refine⟨_,rfl,.inl ⟨rfl,?_⟩,B⟩;have:=Ht.out;rw[List.take_of_length_le aN] at this;exact this
  ·have hkx:k<ks.length:=by omega
   obtain⟨x,rfl,hx1,hx⟩:=Ca (by intro h;rw[h] at hkx;simp at hkx);obtain⟨y,hy⟩:∃y,ks[k]? =some y:=⟨_,aH hkx⟩;have Yc:=(hx k y hy).below B (by rw[add_block];exact hx1);obtain⟨q0,q1,q2,q3⟩:=Yc;have hc:=Hp wr B y (aT hy);have Hs:Hid _:=Nc (p:=p) hy;have Hm:=aj (hy);clear hx hx1 hy;cases hy:p y with
   |true=>
    rw[hy] at hc;have Hc:=aj (hc);have Hy:=aj (hy);clear hc hy;go_wp2_with fail
    refine Calls.mono Hc ?_;rintro e w1 ⟨rfl,b1⟩;have B1:=aG B b1;clear b1;go_wp2;go_ret;exact⟨_,rfl,.inr ⟨k,y,rfl,Hm,Hy,Ht⟩,B1⟩
   |false=>
    rw[hy] at hc;have Hc:=aj (hc);have Hy:=aj (hy);clear hc hy;go_wp2_with fail
    refine Calls.mono Hc ?_;rintro e w1 ⟨rfl,b1⟩;have B1:=aG B b1;clear b1;go_wp2;go_round
    case rel=>exact⟨k+1,by omega,by go_num,by have:=Hs.out;rw[Ht.out,Hy.out] at this;exact this,B1⟩
    case measure=>simp[intOf];omega
theorem Nh{p:bM->Bool}(h:L.take i=(ks.take j).filter (λk=> !p k))(hd:L.drop j=ks.drop j)(hij:i<j)(hl:L.length=ks.length)(hy:ks[j]? =some y)(hp:p y=false):
  (L.set i y).take (i+1)=(ks.take (j+1)).filter (λk=> !p k)/\(L.set i y).drop (j+1)=ks.drop (j+1):=by
 have hj:=(aK.1 hy).1;have hi:i<L.length:=by omega
 constructor
 ·rw[dM (by simpa using hi),List.take_set_of_le aN,List.getElem_set_self,h]
  have:(ks.take (j+1))=ks.take j++[y]:=by
   rw[dM hj];rw[(aK.1 hy).2]
  rw[this,List.filter_append];simp[hp]
 ·rw[List.drop_set_of_lt (by omega)]
  have h1:L.drop (j+1)=(L.drop j).drop 1:=by rw[List.drop_drop]
  rw[h1,hd,List.drop_drop]
theorem xZ{p:bM->Bool}(h:L.take i=(ks.take j).filter (λk=> !p k))(hd:L.drop j=ks.drop j)(hy:ks[j]? =some y)(hp:p y=true):
  L.take i=(ks.take (j+1)).filter (λk=> !p k)/\L.drop (j+1)=ks.drop (j+1):=by
 have hj:=(aK.1 hy).1;constructor
 ·have:(ks.take (j+1))=ks.take j++[y]:=by
   rw[dM hj];rw[(aK.1 hy).2]
  rw[this,List.filter_append,h];simp[hp]
 ·have h1:L.drop (j+1)=(L.drop j).drop 1:=by rw[List.drop_drop]
  rw[h1,hd,List.drop_drop]
theorem Ic{p:bM->Bool}(hx:ks[i]? =some x)(hp:p x=true)(hn:(ks.take i).any p=false):ks.take i=(ks.take (i+1)).filter (λk=> !p k):=by
 have hi:=(aK.1 hx).1;have:(ks.take (i+1))=ks.take i++[x]:=by
  rw[dM hi];rw[(aK.1 hx).2]
 rw[this,List.filter_append];have e:(ks.take i).filter (λk=> !p k)=ks.take i:=by
  rw[List.filter_eq_self];intro a ha;have:=bK.1 hn a ha;simpa using this
 rw[e];simp[hp]
theorem zJ{w1:World}{c:Nat}(h:Below w.heap.size w w1)(k:Kp g w1 w'):w.grownBy w' (slice (some ⟨g,0,none⟩) n c).ownBlock:=
 ⟨k.os.trans h.os,k.tape.trans h.tape,k.output.trans h.output,aJ h.size k.size,λi hi hr=>(k.block i (fE hi h.size) (λe=>hr (by rw[e];rfl))).trans (h.block i hi)⟩
theorem abr(wb:World)(g i:Nat)(y:bM):Kp g wb ((((wb.setCell ⟨g,i*4,none⟩ (int i64 y.ay)).setCell ⟨g,i*4+1,none⟩ (int i64 y.unit)).setCell ⟨g,i*4+2,none⟩ (int i64 y.kind)).setCell ⟨g,i*4+3,none⟩ (int i64 y.left)):=
 (((Kp.set (z:=g) _ _ _).trans (Kp.set _ _ _)).trans (Kp.set _ _ _)).trans (Kp.set _ _ _)
theorem Dh(K:Nat)(eK:∀args w,(callFunc K args).run prog w=.ok (.enter K args) w)(u:Value)(cs:Array Value)(ks:List bM)(p:bM->Bool)(w:World)(base:Nat)(hu:fB w base u ks)(hbase:base<=w.heap.size)(hl:ks.length<=1000000)
  (hp:∀W,Below base w W->w.grownBy W u.ownBlock->∀k∈ks,Calls prog K (#[k.val]++cs) W λe w'=>e=.returned (.bool (p k))/\Below W.heap.size W w'):
  Calls prog 53 #[u,.func (Fn.func K) #[] cs] w λe w'=>∃v,e=.returned v/\fB w' base v (ks.filter (λk=> !p k))/\Below base w w'/\w.grownBy w' u.ownBlock/\v.ownBlock=u.ownBlock:=by
 have H':=aj (SN K eK u cs ks p w hu.l (λW hW k hk=>hp W (hW.mono hbase) ⟨hW.os,hW.tape,hW.output,hW.size,λk hk _=>hW.block k hk⟩ k hk));have Hp:=aj (hp);have U:=aj (hu);have HB:Hid (base<=w.heap.size/\ks.length<=1000000):=⟨hbase,hl⟩;clear hp hu hbase;go_enter func53,ntmps53;go_wp2_with fail
 refine Calls.mono H' ?_;rintro e w1 ⟨r,rfl,hf,hb⟩;have B1:=aj (hb.mono HB.1);have U1:=aj (U.below hb);have S1:=aj (hb.size);have G1:=aj (hb);clear hb U H';rcases hf with⟨rfl,hno⟩|⟨i0,x,rfl,hx,hpx,hnx⟩
 ·have NO:Hid (ks.filter (λk=> !p k)=ks):=by
   unfold Hid;rw[List.filter_eq_self];intro a ha;have:=bK.1 hno a ha;simpa using this
  clear hno;go_wp2;go_ret;exact⟨u,rfl,by rw[NO.out];exact U1,B1,⟨G1.os,G1.tape,G1.output,G1.size,λk hk _=>G1.block k hk⟩,rfl⟩
 have hi0:=(aK.1 hx).1;rcases U1.jk with⟨rfl,h⟩|⟨g,cap,rest,rfl,hbg,hkc,hcm,hcl,hub⟩
 ·rw[h] at hi0;simp at hi0
 have ST:=aj (Ic hx hpx hnx);have GG:=aj (lM hbg hkc hcm hcl);have UB:=aj (hub);have hcm':cap<=9223372036854775807:=by unfold maxLen at hcm;omega
 clear hx hpx hnx hbg hcm hcl hub U1;have hm1:(((i0:Nat):Int)== -1)=false:=by rw[beq_eq_false_iff_ne];omega
 go_wp2;go_loopw [5,6] (λvi vj W=>∃(i j:Nat) (L:List bM),vi=int i64 (i:Nat)/\vj=int i64 (j:Nat)/\i<j/\j<=ks.length/\L.length=ks.length/\L.take i=(ks.take j).filter (λk=> !p k)/\L.drop j=ks.drop j/\Jk W g L rest/\Below base w W/\Kp g w1 W) (λ_ vj _=>ks.length-(intOf vj).toNat)
 case atStart=>exact⟨i0,i0+1,ks,rfl,by go_num,by omega,by omega,rfl,ST,rfl,UB,B1,Kp.refl _ _⟩
 case round=>
  obtain⟨i,j,L,rfl,rfl,hij,hjn,hLl,hLt,hLd,hLu,hLb,hLk⟩:=hrel;have LU:=aj (hLu);have LB:=aj (hLb);have LK:=aj (hLk);clear hLk;have LL:=aj (fQ hLl hLt hLd);clear hLu hLb hLl hLt hLd UB B1 ST;by_cases h0:j=ks.length
  ·subst h0
   obtain⟨wc,hcl,hUc,hBc,hSc,hKc⟩:=wX wr g i (ks.length-i) (cap-i) L rest LU (by omega) (by rw[LL.out.1];omega);have UC:Hid (Jk wc g (L.take i) ((List.replicate (ks.length-i) (⟨0,0,0,0⟩:bM)).flatMap bM.cs++rest)):=by
    unfold Jk at hUc;unfold Hid Jk;rw[<-bT,<-fM];exact hUc
   have BC:=aj (LB.trans (hBc.mono GG.1));have KC:=aj (LK.trans hKc);have IL:Hid ((L.take i).length=i):=by unfold Hid;rw[dP,LL.out.1];omega
   clear hUc hBc hSc hKc;go_wp2;go_ret;have h1:=UC.jbo (base:=base) (cap:=cap) GG.1 (by rw[IL.out];have:=GG.out.2.1;omega) GG.2.2.1 (by
    rw[IL.out,aC,jF,jB];have:=GG.out.2.2.2;omega)
   rw[IL.out] at h1;refine⟨_,rfl,?_,BC,zJ G1 KC,rfl⟩;have h2:=LL.out.2.1;rw[List.take_of_length_le aN] at h2;rw[<-h2];exact h1
  ·have hjl:j<ks.length:=by omega
   have hji:((j:Nat):Int)<(ks.length:Nat):=by omega
   obtain⟨y,hy⟩:∃y,ks[j]? =some y:=⟨_,aH hjl⟩;have hLy:L[j]? =some y:=by
    have h1:(L.drop j)[0]? =(ks.drop j)[0]? :=by rw[LL.out.2.2]
    rw[mF,mF] at h1;rw[Nat.add_zero] at h1;rw[h1];exact hy
   obtain⟨q0,q1,q2,q3⟩:=LU.jbc hLy;have HY:=aj (hy);have wi:IntKind.i64.wrap ((i:Nat)+1:Int)=((i:Nat):Int)+1:=by rw[IntKind.wrap_i64];omega
   have wj:IntKind.i64.wrap ((j:Nat)+1:Int)=((j:Nat):Int)+1:=by rw[IntKind.wrap_i64];omega
   clear hLy hy;go_upto_region 8 with fail
   have BA:Hid (Below _ wr (wr.alloc (Obj.cells #[int i64 y.ay,int i64 y.unit,int i64 y.kind,int i64 y.left] 93))):=aA;have XA:Hid (nI _ ⟨wr.heap.size,0,none⟩ y):=nI.mk' y rfl;generalize (wr.alloc _)=wa at *;have UA:=aj (LU.below BA LU.lt);have AB:=aj (LB.trans (BA.mono (aJ HB.1 LB.size)));have KA:=aj (LK.trans (Kp.of BA));clear LK;obtain⟨z,hz⟩:∃z,wr.heap.size=z:=⟨_,rfl⟩;rw[hz] at XA ⊢;have ZG:Hid (g<z):=by rw[<-hz];exact LU.lt
   clear hz BA LU LB q0 q1 q2 q3;obtain⟨q0,q1,q2,q3⟩:=XA.out;cases hpy:p y with
   |true=>
    have PY:=aj (hpy);have hc:=Hp wa AB (zJ G1 KA) y (aT HY);rw[hpy] at hc;have Hc:=aj (hc);clear hc hpy;go_wp2_with fail
    refine Calls.mono Hc ?_;rintro e wb ⟨rfl,hb⟩;have UW:=aj (UA.below hb UA.lt);have WB:=aj (AB.trans (hb.mono (aJ HB.1 AB.size)));have KW:=aj (KA.trans (Kp.of hb));clear KA;clear hb q0 q1 q2 q3 UA AB XA Hc;go_wp2;go_round
    case rel=>exact⟨i,j+1,L,rfl,by go_num,by omega,by omega,LL.1,(xZ LL.2.1 LL.2.2 HY PY).1,(xZ LL.2.1 LL.2.2 HY PY).2,UW,WB,KW⟩
    case measure=>simp[intOf];omega
   |false=>
    have PY:=aj (hpy);have hc:=Hp wa AB (zJ G1 KA) y (aT HY);rw[hpy] at hc;have Hc:=aj (hc);clear hc hpy;go_wp2_with fail
    refine Calls.mono Hc ?_;rintro e wb ⟨rfl,hb⟩;have UW:=aj (UA.below hb UA.lt);have WB:=aj (AB.trans (hb.mono (aJ HB.1 AB.size)));have KW:=aj (KA.trans (Kp.of hb));clear KA;have XB:=aj (XA.below hb XA.lt);clear hb q0 q1 q2 q3 UA AB XA Hc;have hil:i<L.length:=by rw[LL.out.1];omega
    obtain⟨z0,hz0⟩:∃z0,L[i]? =some z0:=⟨_,aH hil⟩;obtain⟨q0,q1,q2,q3⟩:=XB.out;obtain⟨r0,r1,r2,r3⟩:=UW.jbc hz0;have f0:=UW.thaw (i*4);have f1:=UW.thaw (i*4+1);have f2:=UW.thaw (i*4+2);have f3:=UW.thaw (i*4+3);have UP:=aj (UW.put hil y);have BP:Hid (Below _ w ((((wb.setCell _ _).setCell _ _).setCell _ _).setCell ⟨g,i*4+3,none⟩ _)):=SL y WB GG.1;have KP:=aj (KW.trans (abr wb g i y));have DK:=Nh LL.2.1 LL.2.2 hij LL.1 HY PY;have DH:Hid ((L.set i y).length=ks.length/\(L.set i y).take (i+1)=(ks.take (j+1)).filter (λk=> !p k)/\(L.set i y).drop (j+1)=ks.drop (j+1)):=⟨by rw[jA];exact LL.1,DK.1,DK.2⟩;clear DK hz0 hil;go_wp2;go_round
    case rel=>exact⟨i+1,j+1,L.set i y,by go_num,by go_num,by omega,by omega,DH.1,DH.2.1,DH.2.2,UP,BP,KP⟩
    case measure=>simp[intOf];omega
def dV(u:aI):Bool:=decide (u.life<=0)
def kW(us:List aI)(j:bM):Bool:= !us.any (λu=>u.id==j.unit)
theorem yj(u:aI)(w:World):Calls prog 111 (#[u.val]++ #[]) w λe w'=>e=.returned (.bool (dV u))/\Below w.heap.size w w':=by
 rw[Array.append_empty];have B0:Hid (Below w.heap.size w (w.alloc (Obj.cells #[int i64 u.id,int i64 u.ay,int i64 u.kind,int i64 u.at_,int i64 u.life,int i64 u.load,int i64 u.task,int i64 u.goal] 74))):=aA;have O0:Hid (fA (w.alloc (Obj.cells #[int i64 u.id,int i64 u.ay,int i64 u.kind,int i64 u.at_,int i64 u.life,int i64 u.load,int i64 u.task,int i64 u.goal] 74)) ⟨w.heap.size,0,none⟩ u):=fA.mk' u rfl;unfold aI.val;go_enter func111,ntmps111;go_upto_region 1 with fail
 generalize (w.alloc (Obj.cells #[int i64 u.id,int i64 u.ay,int i64 u.kind,int i64 u.at_,int i64 u.life,int i64 u.load,int i64 u.task,int i64 u.goal] 74))=w0 at *;obtain⟨q0,q1,q2,q3,q4,q5,q6,q7⟩:=O0.out;go_wp2;go_ret;exact⟨rfl,B0⟩
theorem SX(X:WV)(us:List aI)(v1 v2 v3 v4 v5:Value)(id:Int)(w:World)(h:oP w v4 us):
  Calls prog 113 #[.agg #[int i64 X.turn,int i64 X.next,int i64 X.wide,int i64 X.high,v1,v2,v3,v4,v5],int i64 id] w λe w'=>∃r:Int,e=.returned (int i64 r)/\mM (λu=>u.id==id) us r/\Below w.heap.size w w':=by
 have U:Hid (oP w v4 us):=h;clear h;go_enter func113,ntmps113;go_wp2_with fail
 have B0:Hid (Below w.heap.size w ((w.alloc (Obj.cells #[int i64 X.turn,int i64 X.next,int i64 X.wide,int i64 X.high,v1,v2,v3,v4,v5] 29)).alloc (Obj.cells #[int i64 id] 3))):=aA.alloc (by simp) _;have C0:Hid (((w.alloc (Obj.cells #[int i64 X.turn,int i64 X.next,int i64 X.wide,int i64 X.high,v1,v2,v3,v4,v5] 29)).alloc (Obj.cells #[int i64 id] 3)).cell? ⟨w.heap.size+1,0,none⟩=some (int i64 id)):=bD (by simp) rfl;generalize ((w.alloc (Obj.cells #[int i64 X.turn,int i64 X.next,int i64 X.wide,int i64 X.high,v1,v2,v3,v4,v5] 29)).alloc (Obj.cells #[int i64 id] 3))=w0 at *;refine(uj 161 (by intro args w;go_simp) v4 #[.pointer (some ⟨w.heap.size+1,0,none⟩)] us (λu=>u.id==id) w0 (U.below B0) (λV hV k=>Jq k id (w.heap.size+1) V (by rw[hV.cell (p:=⟨w.heap.size+1,0,none⟩) (cell_lt C0.out)];exact C0))).mono ?_;rintro e w1 ⟨r,rfl,hf,hb⟩;have F:Hid (mM (λu=>u.id==id) us r/\Below w.heap.size w w1):=⟨hf,B0.trans (hb.mono B0.size)⟩;clear hf hb;go_wp2;go_ret;exact⟨r,rfl,F.1,F.2⟩
theorem Nj(X:WV)(us:List aI)(j:bM)(bw:Nat)(v1 v2 v3 v4 v5:Value)(w:World)(hb:Bw w bw X v1 v2 v3 v4 v5)(hw:oP w v4 us):
  Calls prog 112 (#[j.val]++ #[.pointer (some ⟨bw,0,none⟩)]) w λe w'=>e=.returned (.bool (kW us j))/\Below w.heap.size w w':=by
 have H:Hid (oP w v4 us):=hw;have B0:Hid (Below w.heap.size w (w.alloc (Obj.cells #[int i64 j.ay,int i64 j.unit,int i64 j.kind,int i64 j.left] 93))):=aA;have O0:Hid (nI (w.alloc (Obj.cells #[int i64 j.ay,int i64 j.unit,int i64 j.kind,int i64 j.left] 93)) ⟨w.heap.size,0,none⟩ j):=nI.mk' j rfl;have X0:Hid (Bw (w.alloc (Obj.cells #[int i64 j.ay,int i64 j.unit,int i64 j.kind,int i64 j.left] 93)) bw X v1 v2 v3 v4 v5):=hb.below B0 hb.lt;clear hw hb;show Calls prog 112 #[j.val,.pointer (some ⟨bw,0,none⟩)] w _;unfold bM.val;go_enter func112,ntmps112;go_upto_region 1 with fail
 generalize (w.alloc (Obj.cells #[int i64 j.ay,int i64 j.unit,int i64 j.kind,int i64 j.left] 93))=w0 at *;obtain⟨q0,q1,q2,q3⟩:=O0.out;obtain⟨x0,x1,x2,x3,x4,x5,x6,x7,x8⟩:=X0.out;go_wp2_with fail
 refine(SX X us v1 v2 v3 v4 v5 j.unit w0 (H.below B0)).mono ?_;rintro e w1 ⟨r,rfl,hf,hb⟩;have B1:Hid (Below w.heap.size w w1):=B0.trans (hb.mono B0.size);have OR:Hid (kW us j=decide (r<0)):=by
  have:=hf.has;unfold Hid kW;rw[<-this];by_cases h:0<=r
  ·rw[decide_eq_true h,decide_eq_false (by omega)];rfl
  ·rw[decide_eq_false h,decide_eq_true (by omega)];rfl
 clear hb hf q0 q1 q2 q3 x0 x1 x2 x3 x4 x5 x6 x7 x8;go_wp2;go_ret;exact⟨by rw[OR.out];rfl,B1⟩
theorem Ie(vk:Value)(ks:List KV)(X:WV)(g1 g2 g3 g4 g5:Value)(Wn base:Nat)(w:World)(hX:bH ks X)(hW:X.wide=(Wn:Nat))(h1:0<Wn)(h2:Wn<=12)
  (hk:Kl w vk ks) (hw:Wl w (.agg #[int i64 X.turn,int i64 X.next,int i64 X.wide,int i64 X.high,g1,g2,g3,g4,g5]) X) (hub:fD w base g4 X.us):
  Calls prog 110 #[vk,.agg #[int i64 X.turn,int i64 X.next,int i64 X.wide,int i64 X.high,g1,g2,g3,g4,g5]] w λe w'=>∃ev,e=.returned ev/\ig w' w.heap.size ev (strikes ks Wn X.us X.us).2/\fD w' base g4 (hurt X.us (strikes ks Wn X.us X.us).1)/\w.grownBy w' g4.ownBlock:=by
 by_cases hne:X.us=[]
 ·obtain⟨a,c,rfl⟩:=hub.len
  rw[hne] at hub hw ⊢;refine(Ib vk _ _ _ _ g1 g2 g3 g5 a c w).mono ?_;rintro e w' ⟨rfl,hb⟩;exact⟨_,rfl,ig.nil _ _,hub.below hb,nX hb⟩
 ·rcases hub.ub with⟨-,h⟩|⟨g,cap,rest,rfl,hbg,hkc,hcm,hcl,hu⟩
  ·exact absurd h hne
  ·refine(Df vk ks X X.us g1 g2 g3 g5 g cap Wn rest w hX rfl hW h1 h2 hne hk hw hu).mono ?_
   rintro e w' ⟨ev,rfl,he,hu',hkp⟩;have hl:(hurt X.us (strikes ks Wn X.us X.us).1).length=X.us.length:=kP gZ;have h3:=hu'.ZQ (base:=base) (cap:=cap) hbg (by rw[hl];exact hkc) hcm (by rw[hl];exact hcl);rw[hl] at h3;exact⟨ev,rfl,he,h3,jm hkp⟩
def kX(u:aI):dZ:=⟨3,u.id,0⟩
def struck(ks:List KV)(Wn:Nat)(X:WV):List aI:=hurt X.us (strikes ks Wn X.us X.us).1
def stays(ks:List KV)(Wn:Nat)(X:WV):List aI:=(struck ks Wn X).filter (λu=> !dV u)
def og(ks:List KV)(Wn:Nat)(X:WV):WV:={X with us:=stays ks Wn X,qs:=X.qs.filter (λj=> !kW (stays ks Wn X) j)}
def qQ(ks:List KV)(Wn:Nat)(X:WV):List dZ:=(strikes ks Wn X.us X.us).2++((struck ks Wn X).filter dV).map kX
theorem lJ{ks:List KV}{W:Nat}{us:List aI}:∀(l:List aI) (s:List Int×List dZ),(l.foldl (stk ks W us) s).2.length<=s.2.length+l.length
 |[],s=>aU _
 |u::l,s=>by
  rw[List.foldl_cons];have h1:=lJ (ks:=ks) (W:=W) (us:=us) l (stk ks W us s u);have h2:(stk ks W us s u).2.length<=s.2.length+1:=by
   unfold stk;split
   ·omega
   ·simp
  rw[dI];omega
theorem Nk{hs:List aI}{y:aI}(hy:hs[n]? =some y):((hs.take (n+1)).filter dV).map kX=((hs.take n).filter dV).map kX++(if dV y then[kX y] else[]):=by
 obtain⟨hi,e⟩:=aK.1 hy;rw[dM hi,e,List.filter_append,kH];cases h:dV y<;>simp[h]
def Nl(ks:List KV)(X:WV)(w w':World)(v ev:Value):Prop:=
 (Wd.aP ks X≠0/\v=.agg #[int i64 0,int i64 0,int i64 0,int i64 0,slice none 0 0,slice none 0 0,slice none 0 0,slice none 0 0,slice none 0 0]/\ev=slice none 0 0)
 \/(Wd.aP ks X=0/\∃Wn:Nat,X.wide=(Wn:Nat)/\0<Wn/\Wn<=12/\Wo w' w.heap.size v (og ks Wn X)/\ig w' w.heap.size ev (qQ ks Wn X))
theorem Np(vk vw:Value)(ks:List KV)(X:WV)(w:World)(hk:Kl w vk ks)(hb:∀k∈ks,k.b.size<=9223372036854775807)(hw:Wl w vw X):
  Calls prog 61 #[vk,vw] w λe w'=>∃v ev r,e=.returned (.tuple #[v,ev,r])/\Er r (Wd.aP ks X)/\Nl ks X w w' v ev/\Below w.heap.size w w':=by
 have K:Hid (Kl w vk ks/\∀k∈ks,k.b.size<=9223372036854775807):=⟨hk,hb⟩;have H:=aj (hw);obtain⟨p1,q1,p2,q2,p3,q3,p4,q4,p5,q5,rfl⟩:=aX hw;obtain⟨pk,qk,rfl,ck1,ck2,kc⟩:=hk;clear hb hw kc;go_enter func61,ntmps61;go_upto_region 1 with fail
 obtain⟨B0,X0,Z0⟩:=uD w (int i64 X.turn) (int i64 X.next) (int i64 X.wide) (int i64 X.high) (slice p1 X.gs.length q1) (slice p2 X.os.length q2) (slice p3 X.gold.length q3) (slice p4 X.us.length q4) (slice p5 X.qs.length q5);generalize ((w.alloc _).alloc _)=w0 at *;obtain⟨x0,x1,x2,x3,x4,x5,x6,x7,x8⟩:=X0.cells;go_wp2_with fail
 refine(gY _ _ ks X w0 (K.1.below B0) K.2 (H.below B0)).mono ?_;rintro e w1 ⟨r,rfl,hr,hb⟩;obtain⟨fw,hfw⟩:∃f,Wd.aP ks X=f:=⟨_,rfl⟩;have FW:=aj (hfw);rw[hfw] at hr;have B1:=aG B0 hb;have X1:=aj (X0.below hb X0.lt);have Z1:=aj (Z0.below hb Z0.lt);clear hb hfw x0 x1 x2 x3 x4 x5 x6 x7 x8 X0 B0 Z0;rcases hr with⟨rfl,rfl⟩|⟨hf,rfl⟩
 case inr=>
  have HF:=aj (hf);clear hf;have zz:=Z1.cells;obtain⟨t0,t1,t2,t3,t4,t5,t6,t7,t8⟩:=Z1.cO;have KZ:=aj (fH w1 (w.heap.size+1));obtain⟨y0,y1,y2,y3,y4,y5,y6,y7,y8⟩:=(Z1.nJ).cells;go_wp2;clear zz t0 t1 t2 t3 t4 t5 t6 t7 t8;generalize World.setCell _ ⟨_,8,none⟩ _=w9 at *;refine bodyPost_ret (v:=.tuple #[.agg _,slice _ 0 0,.iface 85 (int i64 fw)]) (by simp[results,results61,go_sem,y0,y1,y2,y3,y4,y5,y6,y7,y8]) rfl ⟨_,_,_,rfl,by rw[FW.out];exact Er.no HF,.inl ⟨by rw[FW.out];exact HF,rfl,rfl⟩,KZ.below B1 B1.size (by omega)⟩
 have WR:=aj (bY FW);obtain⟨Wn,Hn,e1,e2,G⟩:=WR.good;have GD:Hid (X.wide=(Wn:Nat)/\0<Wn/\Wn<=12):=⟨e1,G.w1,G.w2⟩;clear e1 e2 G;obtain⟨x0,x1,x2,x3,x4,x5,x6,x7,x8⟩:=X1.cells;go_wp2_with fail
 refine(jo _ X w1 (H.below B1) WR.len).mono ?_;rintro e w2 ⟨cu,rfl,⟨k1,k2,k3,k4,k5,rfl,⟨o1,o2,o3,o4,o5⟩,-,-,d14,d15,-,d24,d25,d34,d35,d45⟩,hb⟩;obtain⟨a1,r1,rfl⟩:=o1.len;obtain⟨a2,r2,rfl⟩:=o2.len;obtain⟨a3,r3,rfl⟩:=o3.len;obtain⟨a4,r4,rfl⟩:=o4.len;obtain⟨a5,r5,rfl⟩:=o5.len;obtain⟨b1,hb1⟩:∃z,w1.heap.size=z:=⟨_,rfl⟩;rw[hb1] at o1 o2 o3 o4 o5;have BS:Hid (w.heap.size+1<b1/\b1<=w2.heap.size):=⟨by rw[<-hb1];exact Z1.lt,by rw[<-hb1];exact hb.size⟩;have X2:=aj (X1.below hb X1.lt);have Z2:=aj (Z1.below hb Z1.lt);have B2:=aG B1 hb;have O2:=aj (iJ o1 o2 o3 o4 o5);have DD:=aj (Pz d14 d15 d24 d25 d34 d35 d45);clear hb hb1 x0 x1 x2 x3 x4 x5 x6 x7 x8 o1 o2 o3 o4 o5 d14 d15 d24 d25 d34 d35 d45 X1 Z1 B1;have zz:=X2.cells;obtain⟨t0,t1,t2,t3,t4,t5,t6,t7,t8⟩:=X2.cO;have KZ:=aj (dG w2 w.heap.size (int i64 X.turn) (int i64 X.next) (int i64 X.wide) (int i64 X.high) (slice a1 X.gs.length r1) (slice a2 X.os.length r2) (slice a3 X.gold.length r3) (slice a4 X.us.length r4) (slice a5 X.qs.length r5));have X3:=aj (X2.put (int i64 X.turn) (int i64 X.next) (int i64 X.wide) (int i64 X.high) (slice a1 X.gs.length r1) (slice a2 X.os.length r2) (slice a3 X.gold.length r3) (slice a4 X.us.length r4) (slice a5 X.qs.length r5));go_upto_region 5 with fail
 clear zz t0 t1 t2 t3 t4 t5 t6 t7 t8;generalize World.setCell _ ⟨_,8,none⟩ _=w3 at *;have Z3:=aj (Z2.kp KZ (by omega));have B3:=aj (KZ.below B2 B2.size aN);have O3:Hid (Ow w3 b1 (slice a1 X.gs.length r1) X.gs/\Ow w3 b1 (slice a2 X.os.length r2) X.os/\Ow w3 b1 (slice a3 X.gold.length r3) X.gold/\fD w3 b1 (slice a4 X.us.length r4) X.us/\fB w3 b1 (slice a5 X.qs.length r5) X.qs):=by
  have h:=BS.out.1;exact⟨O2.1.kp KZ (by omega),O2.2.1.kp KZ (by omega),O2.2.2.1.kp KZ (by omega),O2.2.2.2.1.kp KZ (by omega),O2.2.2.2.2.kp KZ (by omega)⟩
 obtain⟨b3,hb3⟩:∃z,w3.heap.size=z:=⟨_,rfl⟩;have S3:Hid (b1<=b3/\w3.heap.size=b3):=⟨by rw[<-hb3];exact aJ BS.2 KZ.size,hb3⟩;have L3:Hid (Wl w3 (.agg #[int i64 X.turn,int i64 X.next,int i64 X.wide,int i64 X.high,slice a1 X.gs.length r1,slice a2 X.os.length r2,slice a3 X.gold.length r3,slice a4 X.us.length r4,slice a5 X.qs.length r5]) X):=⟨(slice a1 X.gs.length r1),(slice a2 X.os.length r2),(slice a3 X.gold.length r3),(slice a4 X.us.length r4),(slice a5 X.qs.length r5),rfl,O3.1.ro,O3.2.1.ro,O3.2.2.1.ro,O3.2.2.2.1.l,O3.2.2.2.2.l⟩;clear hb3 KZ X2 Z2 B2 O2;obtain⟨x0,x1,x2,x3,x4,x5,x6,x7,x8⟩:=X3.cells;go_wp2_with fail
 refine(Ie _ ks X _ _ _ _ _ Wn b1 w3 WR GD.1 GD.2.1 GD.2.2 (K.1.below B3) L3 O3.2.2.2.1).mono ?_;rintro e w4 ⟨ev,rfl,hev,hu4,hg⟩;rw[S3.out.2] at hev;have BG:=aj (aB.grown hg (by have:=S3.out;omega) (λk hk=>(O3.2.2.2.1.block k hk).1));have X4:=aj (X3.below BG (by have:=BS.out.1;omega));have Z4:=aj (Z3.below BG BS.1);have B4:=aj (B3.trans (BG.mono (by have:=BS.out.1;omega)));have O4:Hid (Ow w4 b1 (slice a1 X.gs.length r1) X.gs/\Ow w4 b1 (slice a2 X.os.length r2) X.os/\Ow w4 b1 (slice a3 X.gold.length r3) X.gold/\fB w4 b1 (slice a5 X.qs.length r5) X.qs):=⟨bJ O3.1 hg (λb h1 h2=>DD.1 b h1 h2),bJ O3.2.1 hg (λb h1 h2=>DD.2.2.1 b h1 h2),bJ O3.2.2.1 hg (λb h1 h2=>DD.2.2.2.2.1 b h1 h2),bJ O3.2.2.2.2 hg (λb h1 h2=>DD.2.2.2.2.2.2 b h2 h1)⟩;have LB:Hid ((∀b,(slice a1 X.gs.length r1).ownBlock=some b->b<b3)/\(∀b,(slice a2 X.os.length r2).ownBlock=some b->b<b3)/\(∀b,(slice a3 X.gold.length r3).ownBlock=some b->b<b3)/\(∀b,(slice a4 X.us.length r4).ownBlock=some b->b<b3)/\(∀b,(slice a5 X.qs.length r5).ownBlock=some b->b<b3)):=by
  rw[<-S3.out.2];exact⟨λb h=>(O3.1.block b h).2,λb h=>(O3.2.1.block b h).2,λb h=>(O3.2.2.1.block b h).2,λb h=>(O3.2.2.2.1.block b h).2,λb h=>(O3.2.2.2.2.block b h).2⟩
 obtain⟨hs,JU⟩:∃l,struck ks Wn X=l:=⟨_,rfl⟩;obtain⟨es,hes⟩:∃l,(strikes ks Wn X.us X.us).2=l:=⟨_,rfl⟩;have hu4':fD w4 b1 _ (struck ks Wn X):=hu4;rw[JU] at hu4';rw[hes] at hev;have U4:=aj (hu4');have E4:=aj (hev);have HS:Hid (struck ks Wn X=hs/\(strikes ks Wn X.us X.us).2=es/\hs.length<=40/\es.length<=40):=by
  have Jr:=WR.ul;refine⟨JU,hes,?_,?_⟩
  ·rw[<-JU];unfold struck;rw[kP gZ];exact Jr
  ·rw[<-hes]
   have:=lJ (ks:=ks) (W:=Wn) (us:=X.us) X.us (List.replicate X.us.length 0,[]);unfold strikes;simp at this;omega
 have S4:Hid (b3<=w4.heap.size):=by have:=S3.out.2;have:=hg.size;unfold Hid;omega
 have VJ:Hid (hs.length=X.us.length):=by unfold Hid;rw[<-HS.out.1];unfold struck;exact kP gZ
 have hsl:=WR.ul;clear hev hu4 hu4' hg JU hes x0 x1 x2 x3 x4 x5 x6 x7 x8 X3 Z3 B3 O3 L3 BG;obtain⟨-,-,-,-,-,-,-,x7,-⟩:=X4.cells;go_upto_region 8 with fail
 clear x7;go_loopw [8,28] (λv8 v28 V=>∃(n:Nat) (ev:Value),v28=int i64 (n:Nat)/\ev=v8/\n<=X.us.length/\ig V b3 ev (es++((hs.take n).filter dV).map kX)/\Below b3 w4 V) (λ_ v28 _=>X.us.length-(intOf v28).toNat)
 case atStart=>exact⟨0,_,rfl,rfl,aZ _,by simpa using E4.out,dU _ _⟩
 case round=>
  obtain⟨n,ev',rfl,rfl,hn,hev,hbb⟩:=hrel;have E5:=aj (hev);have BB:=aj (hbb);have UL:=aj (fD.l (oI U4 hbb (λb h=>LB.2.2.2.1 b h)));clear hev hbb E4;by_cases h0:n=X.us.length
  ·subst h0
   rw[List.take_of_length_le (by rw[VJ.out];exact aU _)] at E5;have hnl:¬(((X.us.length:Nat):Int)<(X.us.length:Nat)):=by omega
   obtain⟨fs,hfs⟩:∃l,es++(hs.filter dV).map kX=l:=⟨_,rfl⟩;have FE:Hid (qQ ks Wn X=fs):=by unfold Hid qQ;rw[HS.out.1,HS.out.2.1];exact hfs
   rw[hfs] at E5;have U5:Hid (fD wr b1 (slice a4 X.us.length r4) hs):=oI U4 BB (λb h=>LB.2.2.2.1 b h);have O5:Hid (Ow wr b1 (slice a1 X.gs.length r1) X.gs/\Ow wr b1 (slice a2 X.os.length r2) X.os/\Ow wr b1 (slice a3 X.gold.length r3) X.gold/\fB wr b1 (slice a5 X.qs.length r5) X.qs):=⟨oI O4.1 BB (λb h=>LB.1 b h),oI O4.2.1 BB (λb h=>LB.2.1 b h),oI O4.2.2.1 BB (λb h=>LB.2.2.1 b h),oI O4.2.2.2 BB (λb h=>LB.2.2.2.2 b h)⟩;have X5:=aj (X4.below BB (by have:=BS.out.1;have:=S3.out.1;omega));have Z5:=aj (Z4.below BB (by have:=BS.out.1;have:=S3.out.1;omega));have B5:=aj (B4.trans (BB.mono (by have:=BS.out.1;have:=S3.out.1;omega)));have S5:Hid (b1<=wr.heap.size):=by have:=S4.out;have:=BB.size;have:=S3.out.1;unfold Hid;omega
   clear hfs UL BB U4 O4 X4 Z4 B4 S4;obtain⟨-,-,-,-,-,-,-,x7,-⟩:=X5.cells;go_wp2_with fail
   refine(zG _ (by intro args w;go_simp) (slice a4 X.us.length r4) #[] hs dV wr b1 U5 S5 (by have:=HS.out.2.2.1;omega) (λW _ _ h _=>yj h W)).mono ?_;rintro e w6 ⟨v4,rfl,ho,hb,hg,hown⟩;obtain⟨st,hst⟩:∃l,hs.filter (λk=> !dV k)=l:=⟨_,rfl⟩;have ST:Hid (stays ks Wn X=st):=by unfold Hid stays;rw[HS.out.1];exact hst
   rw[hst] at ho;obtain⟨a6,r6,rfl⟩:=ho.len;have U6:=aj (ho);have OB:=aj (hown);have O6:Hid (Ow w6 b1 (slice a1 X.gs.length r1) X.gs/\Ow w6 b1 (slice a2 X.os.length r2) X.os/\Ow w6 b1 (slice a3 X.gold.length r3) X.gold/\fB w6 b1 (slice a5 X.qs.length r5) X.qs):=⟨bJ O5.1 hg (λb h1 h2=>DD.1 b h1 h2),bJ O5.2.1 hg (λb h1 h2=>DD.2.2.1 b h1 h2),bJ O5.2.2.1 hg (λb h1 h2=>DD.2.2.2.2.1 b h1 h2),bJ O5.2.2.2 hg (λb h1 h2=>DD.2.2.2.2.2.2 b h2 h1)⟩;have E6:Hid (ig w6 b3 ev' fs):=bJ E5 hg (λb h1 h2=>by have:=LB.2.2.2.1 b h2;have:=(E5.block b h1).1;omega);have X6:=aj (X5.below hb (by have:=BS.out.1;omega));have Z6:=aj (Z5.below hb BS.1);have B6:=aj (B5.trans (hb.mono (by have:=BS.out.1;omega)));have S6:=aj (aJ S5 hb.size);clear ho hb hg hown hst x7 U5 O5 X5 Z5 B5 S5 E5;obtain⟨-,-,-,-,-,-,-,x7,-⟩:=X6.cells;have t7:=X6.thaw 7;have X7:Hid (Wx _ _ _ _ _ _ _ _ _ (slice a6 st.length r6) _):=X6.Bj _;have K7:Hid (Kp _ w6 (w6.setCell ⟨w.heap.size,7,none⟩ (slice a6 st.length r6))):=Kp.set _ _ _;go_upto_region 14 with fail
   clear x7 t7;generalize (w6.setCell _ _)=w7 at *;have U7:=aj (U6.kp K7 (by have:=BS.out.1;omega));have O7:Hid (Ow w7 b1 (slice a1 X.gs.length r1) X.gs/\Ow w7 b1 (slice a2 X.os.length r2) X.os/\Ow w7 b1 (slice a3 X.gold.length r3) X.gold/\fB w7 b1 (slice a5 X.qs.length r5) X.qs):=by
    have h:=BS.out.1;exact⟨O6.1.kp K7 (by omega),O6.2.1.kp K7 (by omega),O6.2.2.1.kp K7 (by omega),O6.2.2.2.kp K7 (by omega)⟩
   have E7:=aj (E6.kp9 K7 (by have:=BS.out.1;have:=S3.out.1;omega));have Z7:=aj (Z6.kp K7 (by omega));have B7:=aj (K7.below B6 B6.size aN);have S7:=aj (aJ S6 K7.size);clear K7 U6 O6 E6 Z6 B6 S6 X6;obtain⟨-,-,-,-,-,-,-,-,x8⟩:=X7.cells;go_wp2_with fail
   refine(Dh _ (by intro args w;go_simp) (slice a5 X.qs.length r5) #[.pointer (some ⟨w.heap.size,0,none⟩)] X.qs (kW st) w7 b1 O7.2.2.2 S7 (by have:=WR.ql;omega) (λW hbW hgW j _=>Nj X st j _ _ _ _ _ _ W (Rj (X7.below hbW (by have:=BS.out.1;omega))) (fD.l (bJ U7 hgW (λb h1 h2=>DD.2.2.2.2.2.2 b (by rw[<-OB.out];exact h1) h2))))).mono ?_;rintro e w8 ⟨v5,rfl,ho,hb,hg,-⟩;obtain⟨rE,Ez⟩:∃l,X.qs.filter (λk=> !kW st k)=l:=⟨_,rfl⟩;have FO:Hid (og ks Wn X={X with us:=st,qs:=rE}):=by unfold Hid og;rw[ST.out,Ez]
   rw[Ez] at ho;obtain⟨a8,r8,rfl⟩:=ho.len;have J8:=aj (ho);have O8:Hid (Ow w8 b1 (slice a1 X.gs.length r1) X.gs/\Ow w8 b1 (slice a2 X.os.length r2) X.os/\Ow w8 b1 (slice a3 X.gold.length r3) X.gold/\fD w8 b1 (slice a6 st.length r6) st):=⟨bJ O7.1 hg (λb h1 h2=>DD.2.1 b h1 h2),bJ O7.2.1 hg (λb h1 h2=>DD.2.2.2.1 b h1 h2),bJ O7.2.2.1 hg (λb h1 h2=>DD.2.2.2.2.2.1 b h1 h2),bJ U7 hg (λb h1 h2=>DD.2.2.2.2.2.2 b (by rw[<-OB.out];exact h1) h2)⟩;have E8:Hid (ig w8 b3 ev' fs):=bJ E7 hg (λb h1 h2=>by have:=LB.2.2.2.2 b h2;have:=(E7.block b h1).1;omega);have X8:=aj (X7.below hb (by have:=BS.out.1;omega));have Z8:=aj (Z7.below hb BS.1);have B8:=aj (B7.trans (hb.mono (by have:=BS.out.1;omega)));clear ho hb hg Ez x8 U7 O7 X7 Z7 B7 S7 E7;obtain⟨-,-,-,-,-,-,-,-,x8⟩:=X8.cells;have t8:=X8.thaw 8;have X9:Hid (Wx _ _ _ _ _ _ _ _ _ _ (slice a8 rE.length r8)):=X8.Lu _;have K9:Hid (Kp _ w8 (w8.setCell ⟨w.heap.size,8,none⟩ (slice a8 rE.length r8))):=Kp.set _ _ _;go_upto_region 16 with fail
   clear x8 t8;generalize (w8.setCell _ _)=w9 at *;have J9:=aj (J8.kp K9 (by have:=BS.out.1;omega));have O9:Hid (Ow w9 b1 (slice a1 X.gs.length r1) X.gs/\Ow w9 b1 (slice a2 X.os.length r2) X.os/\Ow w9 b1 (slice a3 X.gold.length r3) X.gold/\fD w9 b1 (slice a6 st.length r6) st):=by
    have h:=BS.out.1;exact⟨O8.1.kp K9 (by omega),O8.2.1.kp K9 (by omega),O8.2.2.1.kp K9 (by omega),O8.2.2.2.kp K9 (by omega)⟩
   have E9:=aj (E8.kp9 K9 (by have:=BS.out.1;have:=S3.out.1;omega));have Z9:=aj (Z8.kp K9 (by omega));have B9:=aj (K9.below B8 B8.size aN);clear K9 J8 O8 E8 Z8 B8 X8;obtain⟨x0,x1,x2,x3,x4,x5,x6,x7,x8⟩:=X9.cells;have zz:=Z9.cells;obtain⟨t0,t1,t2,t3,t4,t5,t6,t7,t8⟩:=Z9.cO;have KZ:=aj (dG w9 (w.heap.size+1) (int i64 X.turn) (int i64 X.next) (int i64 X.wide) (int i64 X.high) (slice a1 X.gs.length r1) (slice a2 X.os.length r2) (slice a3 X.gold.length r3) (slice a6 st.length r6) (slice a8 rE.length r8));obtain⟨y0,y1,y2,y3,y4,y5,y6,y7,y8⟩:=(Z9.put (int i64 X.turn) (int i64 X.next) (int i64 X.wide) (int i64 X.high) (slice a1 X.gs.length r1) (slice a2 X.os.length r2) (slice a3 X.gold.length r3) (slice a6 st.length r6) (slice a8 rE.length r8)).cells;go_wp2;clear x0 x1 x2 x3 x4 x5 x6 x7 x8 zz t0 t1 t2 t3 t4 t5 t6 t7 t8;generalize World.setCell _ ⟨_,8,none⟩ _=wz at *;refine bodyPost_ret (v:=.tuple #[.agg #[int i64 X.turn,int i64 X.next,int i64 X.wide,int i64 X.high,slice a1 X.gs.length r1,slice a2 X.os.length r2,slice a3 X.gold.length r3,slice a6 st.length r6,slice a8 rE.length r8],ev',.nilIface]) (by simp[results,results61,go_sem,y0,y1,y2,y3,y4,y5,y6,y7,y8]) rfl ⟨_,_,_,rfl,by rw[FW.out];exact Er.nil,.inr ⟨FW,Wn,GD.1,GD.2.1,GD.2.2,?_,?_⟩,KZ.below B9 B9.size (by omega)⟩
   ·have h:=BS.out.1
    rw[FO.out];exact⟨_,_,_,_,_,rfl,(O9.1.kp KZ (by omega)).mono (by omega),(O9.2.1.kp KZ (by omega)).mono (by omega),(O9.2.2.1.kp KZ (by omega)).mono (by omega),(O9.2.2.2.kp KZ (by omega)).mono (by omega),(J9.kp KZ (by omega)).mono (by omega)⟩
   ·have h:=BS.out.1
    have h':=S3.out.1;rw[FE.out];exact(E9.kp9 KZ (by omega)).mono (by omega)
  ·have hnl:n<X.us.length:=by omega
   have hnh:n<hs.length:=by rw[VJ.out];exact hnl
   have hni:((n:Nat):Int)<(X.us.length:Nat):=by omega
   obtain⟨y,hy⟩:∃y,hs[n]? =some y:=⟨_,aH hnh⟩;obtain⟨a',c',he,-,-,hu⟩:=UL.out;obtain⟨xu,hxu,hxl,hxc⟩:=hu (by intro h;rw[h] at hnh;simp at hnh);injection he with he1 he2 he3
   subst he1;subst hxu;obtain⟨y0,y1,y2,y3,y4,y5,y6,y7⟩:=hxc n y hy;have NX:=Nk hy;have WN:IntKind.i64.wrap ((n:Nat)+1:Int)=((n:Nat):Int)+1:=by rw[IntKind.wrap_i64];omega
   obtain⟨fs,hfs⟩:∃l,es++((hs.take n).filter dV).map kX=l:=⟨_,rfl⟩;have FL:Hid (fs.length<=80):=by
    have h1:((hs.take n).filter dV).length<=(hs.take n).length:=List.length_filter_le _ _;have h2:(hs.take n).length<=n:=by simp;omega
    have h3:=HS.out.2.2.2;unfold Hid;rw[<-hfs,aC,lG];omega
   have NY:Hid (es++((hs.take (n+1)).filter dV).map kX=fs++(if dV y then[kX y] else[])):=by unfold Hid;rw[NX,<-bT,hfs]
   rw[hfs] at E5;clear hu he2 he3 hxl hxc hy NX hfs;go_upto_region 10 with fail
   have BA:Hid (Below _ wr (wr.alloc (Obj.cells #[int i64 y.id,int i64 y.ay,int i64 y.kind,int i64 y.at_,int i64 y.life,int i64 y.load,int i64 y.task,int i64 y.goal] 74))):=aA;obtain⟨bu,hbu⟩:∃z,wr.heap.size=z:=⟨_,rfl⟩;have U6:=aj (fA.mk' y hbu);rw[hbu];generalize (wr.alloc _)=w6 at *;have B6:=aj (BB.trans (BA.mono (aJ S4 BB.size)));have E6:=aj (E5.below BA);clear y0 y1 y2 y3 y4 y5 y6 y7 hbu BA BB E5 UL;obtain⟨y0,y1,y2,y3,y4,y5,y6,y7⟩:=U6.out;have FG:Hid (Calls prog 111 #[.agg #[int i64 y.id,int i64 y.ay,int i64 y.kind,int i64 y.at_,int i64 y.life,int i64 y.load,int i64 y.task,int i64 y.goal]] w6 λe w'=>e=.returned (.bool (dV y))/\Below w6.heap.size w6 w'):=by
    have:=yj y w6;rw[Array.append_empty] at this;exact this
   go_wp2_with fail
   refine Calls.mono FG ?_;rintro e w7 ⟨rfl,hb⟩;have B7:=aj (B6.trans (hb.mono (aJ S4 B6.size)));have E7:=aj (E6.below hb);have U7:=aj (U6.below hb U6.lt);clear hb y0 y1 y2 y3 y4 y5 y6 y7 FG B6 E6 U6;cases hfl:dV y with
   |false=>
    have NZ:Hid (es++((hs.take (n+1)).filter dV).map kX=fs):=by unfold Hid;rw[NY.out,hfl];simp
    clear hfl;go_wp2;go_round
    case rel=>exact⟨n+1,_,by go_num,rfl,by omega,by rw[NZ.out];exact E7,B7⟩
    case measure=>simp[intOf];omega
   |true=>
    have NZ:Hid (es++((hs.take (n+1)).filter dV).map kX=fs++[kX y]):=by unfold Hid;rw[NY.out,hfl];simp
    clear hfl;obtain⟨y0,y1,y2,y3,y4,y5,y6,y7⟩:=U7.out;have BA:Hid (Below _ w7 (w7.alloc (Obj.cells #[int i64 3,int i64 y.id,int i64 0] 169))):=aA;have EC:Hid (uP (w7.alloc (Obj.cells #[.int _ 3,.int _ y.id,.int _ 0] _)) _ _):=uP.mk' (kX y) rfl;have E8:=aj (E7.below BA);have B8:=aj (B7.trans (BA.mono (aJ S4 B7.size)));have SZ:=aj (aJ S4 B8.size);go_wp2_with (at_builtin;refine zD _ rfl _ _ rfl b3 _ fs rfl E8 _ (kX y) rfl EC (by have:=FL.out;omega) SZ ?_);intro gg gc w9 o9 g9 _ _;have E9:=aj (o9);have B9:=aj (B8.grown g9 (aJ S4 B8.size) (λk hk=>(E8.block k hk).1));clear o9 g9 y0 y1 y2 y3 y4 y5 y6 y7 BA EC E8 B8 SZ;go_wp2;go_round
    case rel=>exact⟨n+1,_,by go_num,rfl,by omega,by rw[NZ.out];exact E9,B9⟩
    case measure=>simp[intOf];omega
end
section
variable {Wn j:Nat} {X:WV} {ks:List KV} {lost:List Int} {us:List aI} {y:aI}
theorem rW{α:Type}{p:α->Bool}:∀(l:List α) (i:Nat) (x:α),(l.filter p)[i]? =some x->∃j,l[j]? =some x/\p x=true/\(l.filter p).take i=(l.take j).filter p
 |[],i,x,h=>by simp at h
 |a::l,i,x,h=>by
  cases hp:p a with
  |true=>
   rw[List.filter_cons_of_pos hp] at h ⊢;cases i with
   |zero=>
    simp at h;subst h;exact⟨0,rfl,hp,rfl⟩
   |succ i=>
    rw[List.getElem?_cons_succ] at h;obtain⟨j,h1,h2,h3⟩:=rW l i x h;exact⟨j+1,by rw[List.getElem?_cons_succ];exact h1,h2,by rw[List.take_succ_cons,List.take_succ_cons,List.filter_cons_of_pos hp,h3]⟩
  |false=>
   have hn:¬p a=true:=by rw[hp];simp
   rw[List.filter_cons_of_neg hn] at h ⊢;obtain⟨j,h1,h2,h3⟩:=rW l i x h;exact⟨j+1,by rw[List.getElem?_cons_succ];exact h1,h2,by rw[List.take_succ_cons,List.filter_cons_of_neg hn,h3]⟩
theorem yt(h:(hurt us lost)[j]? =some y):∃u x,us[j]? =some u/\lost[j]? =some x/\y={u with life:=u.life-x}:=by
 unfold hurt at h;rw[List.getElem?_zipWith] at h;cases hu:us[j]? with
 |none=>rw[hu] at h;simp at h
 |some u=>
  cases hx:lost[j]? with
  |none=>rw[hu,hx] at h;simp at h
  |some x=>
   rw[hu,hx] at h;simp at h;exact⟨u,x,rfl,rfl,h.symm⟩
theorem Nq(h:y∈(hurt us lost).take j):∃i u x,i<j/\us[i]? =some u/\lost[i]? =some x/\y={u with life:=u.life-x}:=by
 obtain⟨i,hi⟩:=List.mem_iff_getElem?.1 h;have hl:i<j:=by
  have:=(aK.1 hi).1;rw[dP] at this;omega
 rw[eP,if_pos hl] at hi;obtain⟨u,x,h1,h2,h3⟩:=yt hi;exact⟨i,u,x,hl,h1,h2,h3⟩
theorem Nr(h:bH ks X):GR 40000 (strikes ks Wn X.us X.us).1:=by
 have:=kC (W:=Wn) (us:=X.us) h.kinds X.us.length aN;rw[List.take_of_length_le aN] at this;intro x hx;have:=this x hx;have:=h.ul;omega
theorem yu(h:bH ks X){i:Nat}(hy:(stays ks Wn X)[i]? =some y):
  ∃j u x,X.us[j]? =some u/\(strikes ks Wn X.us X.us).1[j]? =some x/\y={u with life:=u.life-x}/\1<=u.life-x/\0<=x/\(stays ks Wn X).take i=((struck ks Wn X).take j).filter (λu=> !dV u):=by
 obtain⟨j,h1,h2,h3⟩:=rW (struck ks Wn X) i y hy;obtain⟨u,x,hu,hx,rfl⟩:=yt h1;have hl:1<=u.life-x:=by
  unfold dV at h2;simp at h2;omega
 exact⟨j,u,x,hu,hx,rfl,hl,(Nr h x (aT hx)).1,h3⟩
theorem zK(h:bH ks X):Wd.aP ks (og ks Wn X)=0:=by
 obtain⟨Wm,Hm,e1,e2,G⟩:=h.good;refine Wd.fZ h.kinds (by show Fd.fault X.wide X.high X.gs X.os=0;rw[e1,e2];exact Fd.eU G) h.nums ?_ ?_ ?_ ?_
 ·show(stays ks Wn X).length<=40
  have h1:(stays ks Wn X).length<=(struck ks Wn X).length:=List.length_filter_le _ _;have h2:(struck ks Wn X).length=X.us.length:=by unfold struck;exact kP gZ
  have:=h.ul;omega
 ·intro i y hy
  have hy':(stays ks Wn X)[i]? =some y:=hy;obtain⟨j,u,x,hu,hx,rfl,hl,hx0,ht⟩:=yu h hy';obtain⟨k,f⟩:=h.fine hu;have AH:∀p∈(stays ks Wn X).take i,∃j' u' x',j'<j/\X.us[j']? =some u'/\p={u' with life:=u'.life-x'}:=λp hp=>by
   rw[ht] at hp;obtain⟨j',u',x',a1,a2,-,a3⟩:=Nq (List.mem_filter.1 hp).1;exact⟨j',u',x',a1,a2,a3⟩
  refine⟨k,f.id1,f.id2,?_,f.p,f.k0,f.kk,⟨hl,by have:=f.life.2;show u.life-x<=k.n0;omega⟩,f.load,f.task,f.at_,f.goal,?_,f.rest⟩
  ·show Wd.dF (stays ks Wn X) i _=false
   cases i with
   |zero=>rfl
   |succ i=>
    have hil:i<(stays ks Wn X).length:=by have:=(aK.1 hy').1;omega
    obtain⟨p,hp⟩:∃p,(stays ks Wn X)[i]? =some p:=⟨_,aH hil⟩;simp only[Wd.dF,hp,decide_eq_false_iff_not];obtain⟨j',u',x',a1,a2,rfl⟩:=AH p (aT (by rw[eP,if_pos (fC _)];exact hp));have:=nS h (j-j'-1) j' u' u a2 (by rw[show j'+(j-j'-1)+1=j by omega];exact hu);show ¬u.id<=u'.id;omega
  ·have ho:=f.opn
   unfold Wd.open_ at ho;rw[Bool.and_eq_true] at ho;show Wd.open_ X.gs ((stays ks Wn X).take i) u.at_ k.f=true;unfold Wd.open_;rw[Bool.and_eq_true];refine⟨ho.1,?_⟩;rw[Bool.not_eq_true',bK];intro p hp;obtain⟨j',u',x',a1,a2,rfl⟩:=AH p hp;have h1:=ho.2;rw[Bool.not_eq_true',bK] at h1;exact h1 u' (aT (by rw[eP,if_pos a1];exact a2))
 ·show(X.qs.filter _).length<=12
  have:=List.length_filter_le (λj=> !kW (stays ks Wn X) j) X.qs;have:=h.ql;omega
 ·intro j hj
  have hj':j∈X.qs.filter _:=hj;obtain⟨hjm,hjo⟩:=List.mem_filter.1 hj';have hx:=h.job hjm;unfold kW at hjo;rw[Bool.not_not,gK] at hjo;obtain⟨y,hy,hyi⟩:=hjo;have hfs:((stays ks Wn X).find? (λu=>u.id==j.unit)).isSome=true:=List.find?_isSome.2 ⟨y,hy,hyi⟩;obtain⟨y0,hy0⟩:=Option.isSome_iff_exists.1 hfs;have hm0:=List.mem_of_find?_eq_some hy0;have hi0:=List.find?_some hy0;obtain⟨i0,hi0'⟩:=List.mem_iff_getElem?.1 hm0;obtain⟨j0,u0,x0,hu0,-,rfl,-,-,-⟩:=yu h hi0';have aal:u0.id=j.unit:=by simpa using hi0
  cases hf:X.us.find? (λu=>u.id==j.unit) with
  |none=>
   unfold Wd.aY at hx;rw[hf] at hx;cases hx
  |some u1=>
   have hm1:=List.mem_of_find?_eq_some hf;have hi1:u1.id=j.unit:=by simpa using List.find?_some hf
   obtain⟨j1,hj1⟩:=List.mem_iff_getElem?.1 hm1;have:=uH h hu0 hj1 (by rw[aal,hi1]);subst this;rw[hu0] at hj1;injection hj1 with hj1
   subst hj1;unfold Wd.aY at hx ⊢;rw[hf] at hx;have hy1:(og ks Wn X).us.find? _=some _:=hy0;rw[hy1];exact hx
open Go.RowKit
def wP(x y:Int):Int:=if x<y then -1 else if y<x then 1 else 0
def or3(x y z:Int):Int:=if x≠0 then x else if y≠0 then y else z
def S_(o:bU):Int:=if o.what=3 then 0 else 1
def rX(a b:bU):Int:=or3 (wP a.ay b.ay) (wP a.unit b.unit) (wP (S_ a) (S_ b))
theorem Ns(x:Int)(w:World):Calls prog 231 #[int i64 x] w λe w'=>e=.returned (.bool false)/\w'=w:=by
 go_enter func231,ntmps231;go_wp2;go_ret;exact⟨by simp,rfl⟩
theorem Ig(x y:Int)(w:World):Calls prog 188 #[int i64 x,int i64 y] w λe w'=>e=.returned (int i64 (wP x y))/\w'=w:=by
 have NA:=aj (Ns);by_cases h1:x<y
 ·go_enter func188,ntmps188
  go_wp2_with fail
  refine(NA _ _).mono ?_;rintro e w' ⟨rfl,rfl⟩;go_wp2_with fail
  refine(NA _ _).mono ?_;rintro e w' ⟨rfl,rfl⟩;go_wp2;go_ret;exact⟨by simp[wP,h1],rfl⟩
 ·by_cases h2:y<x
  ·go_enter func188,ntmps188
   go_wp2_with fail
   refine(NA _ _).mono ?_;rintro e w' ⟨rfl,rfl⟩;go_wp2_with fail
   refine(NA _ _).mono ?_;rintro e w' ⟨rfl,rfl⟩;go_wp2;go_ret;exact⟨by simp[wP,h1,h2],rfl⟩
  ·go_enter func188,ntmps188
   go_wp2_with fail
   refine(NA _ _).mono ?_;rintro e w' ⟨rfl,rfl⟩;go_wp2_with fail
   refine(NA _ _).mono ?_;rintro e w' ⟨rfl,rfl⟩;go_wp2;go_ret;exact⟨by unfold wP;rw[if_neg (by omega),if_neg (by omega)];rfl,rfl⟩
theorem Tc(o:bU)(w:World):Calls prog 189 #[o.val] w λe w'=>e=.returned (int i64 (S_ o))/\Below w.heap.size w w':=by
 obtain⟨p,u,n,a⟩:=o;have BB:Hid (Below _ w (w.alloc (Obj.cells #[int i64 p,int i64 u,int i64 n,int i64 a] 96))):=aA;unfold bU.val S_;simp only;by_cases h:n=3
 ·subst h
  go_enter func189,ntmps189;go_wp2;go_ret;exact⟨rfl,BB⟩
 ·have hb:=beq_eq_false_iff_ne.2 h
  rw[if_neg h];go_enter func189,ntmps189;go_wp2;go_ret;exact⟨rfl,BB⟩
theorem aap(x y z:Int)(b:Nat)(w:World)(h0:w.cell? ⟨b,0,none⟩=some (int i64 x))(h1:w.cell? ⟨b,1,none⟩=some (int i64 y))(h2:w.cell? ⟨b,2,none⟩=some (int i64 z)):
  Calls prog 187 #[slice (some ⟨b,0,none⟩) 3 3] w λe w'=>e=.returned (int i64 (or3 x y z))/\w'=w:=by
 by_cases hx:x=0
 ·subst hx
  by_cases hy:y=0
  ·subst hy
   by_cases hz:z=0
   ·subst hz
    go_enter func187,ntmps187;go_wp2;refine wp_loop_rounds 4 ?_;rw[rounds_succ];go_wp2;rw[rounds_succ];go_wp2;rw[rounds_succ];go_wp2;rw[rounds_succ];go_wp2;go_ret;exact⟨rfl,rfl⟩
   ·have hzb:=beq_eq_false_iff_ne.2 hz
    go_enter func187,ntmps187;go_wp2;refine wp_loop_rounds 3 ?_;rw[rounds_succ];go_wp2;rw[rounds_succ];go_wp2;rw[rounds_succ];go_wp2;go_ret;exact⟨by simp[or3],rfl⟩
  ·have hyb:=beq_eq_false_iff_ne.2 hy
   go_enter func187,ntmps187;go_wp2;refine wp_loop_rounds 2 ?_;rw[rounds_succ];go_wp2;rw[rounds_succ];go_wp2;go_ret;exact⟨by simp[or3,hy],rfl⟩
 ·have hxb:=beq_eq_false_iff_ne.2 hx
  go_enter func187,ntmps187;go_wp2;refine wp_loop_rounds 1 ?_;rw[rounds_succ];go_wp2;go_ret;exact⟨by simp[or3,hx],rfl⟩
end
namespace So
abbrev T:=bU×Nat
def EH(a b:bU):Prop:=a.ay<b.ay\/(a.ay=b.ay/\(a.unit<b.unit\/(a.unit=b.unit/\S_ a<S_ b)))
theorem zL{x y:Int}:wP x y<0↔x<y:=by
 unfold wP;split
 ·omega
 ·split<;>omega
theorem qR{x y:Int}:wP x y=0↔x=y:=by
 unfold wP;split
 ·omega
 ·split<;>omega
theorem kY(a b:bU):rX a b<0↔EH a b:=by
 unfold rX or3 EH;by_cases h1:wP a.ay b.ay=0
 ·rw[if_neg (λh=>h h1)]
  have e1:=qR.1 h1;by_cases h2:wP a.unit b.unit=0
  ·rw[if_neg (λh=>h h2),zL]
   have e2:=qR.1 h2;omega
  ·rw[if_pos h2,zL]
   have e2:¬a.unit=b.unit:=λe=>h2 (qR.2 e)
   omega
 ·rw[if_pos h1,zL]
  have e2:¬a.ay=b.ay:=λe=>h1 (qR.2 e)
  omega
instance (a b:bU):Decidable (EH a b):=by unfold EH;infer_instance
theorem Td{a b:bU}(h:EH a b):¬EH b a:=by unfold EH at *;omega
def lt(x y:T):Prop:=EH x.1 y.1\/(¬EH y.1 x.1/\x.2<y.2)
theorem lt_trans{x y z:T}(h:lt x y)(k:lt y z):lt x z:=by
 unfold lt EH at *;omega
theorem aaq(x:T):¬lt x x:=by
 unfold lt EH;omega
theorem zM{x y:T}(h:x.2<y.2):EH y.1 x.1↔lt y x:=by
 unfold lt EH;omega
theorem zN{x y:T}(h:x.2<y.2):¬EH y.1 x.1↔lt x y:=by
 unfold lt EH;omega
theorem sU:∀{l l':List T},l.Perm l'->l.Pairwise lt->l'.Pairwise lt->l=l'
 |[],l',p,_,_=>by
  have:=p.length_eq;cases l' with
  |nil=>rfl
  |cons x l'=>simp at this
 |x::l,[],p,_,_=>by
  have:=p.length_eq;simp at this
 |x::l,y::l',p,h,h'=>by
  rw[List.pairwise_cons] at h h';have exy:x=y:=by
   have hx:=p.mem_iff.1 (List.mem_cons_self ..);have hy:=p.mem_iff.2 (List.mem_cons_self ..);rcases bP.1 hx with e|hx
   ·exact e
   ·rcases bP.1 hy with e|hy
    ·exact e.symm
    ·exact absurd (lt_trans (h.1 y hy) (h'.1 x hx)) (aaq x)
  subst exy;rw[sU (List.Perm.cons_inv p) h.2 h'.2]
theorem vN{S1 S2:List T}{x:T}(h:(S1++S2).Pairwise lt)(h1:∀y∈S1,lt y x)(h2:∀y∈S2,lt x y):(S1++x::S2).Pairwise lt:=by
 rw[List.pairwise_append] at h ⊢;refine⟨h.1,List.pairwise_cons.2 ⟨h2,h.2.1⟩,λa ha b hb=>?_⟩;rcases bP.1 hb with rfl|hb
 ·exact h1 a ha
 ·exact h.2.2 a ha b hb
theorem Tf{S1 S2:List T}(h1:S1.Pairwise lt)(h2:S2.Pairwise lt)(h:∀x∈S1,∀y∈S2,lt x y):(S1++S2).Pairwise lt:=List.pairwise_append.2 ⟨h1,h2,h⟩
end So
section
open Go.RowKit
variable {b n:Nat} {p u:Int} {w w':World}
theorem Xz:laidOutB prog=true:=by kernel_rfl
theorem Ti:(214:TypeId)<prog.types.size:=of_decide_eq_true (by kernel_rfl)
theorem XD:(match prog.underlying 214 with|some (.array _ _)|some (.struct _)=>true|_=>false)=true:=by kernel_rfl
theorem XG:prog.keyTypeAt 3 214=true:=by kernel_rfl
theorem zO:Maps.Keyed prog 214:=Maps.Keyed.of_law (deep_law_laid Xz (m:=3) (by omega) Ti XG XD)
theorem Tj:prog.cellsOf 214=2:=by kernel_rfl
theorem aar:prog.cellsOf 3=1:=by kernel_rfl
theorem XH:prog.keyType 214=true:=by kernel_rfl
theorem XI:∃m,prog.types.size=m+1:=⟨prog.types.size-1,by have h:0<prog.types.size:=Nat.lt_of_le_of_lt (aZ _) Ti;omega⟩
theorem Tm(hp:(Lit.int i64 p).wf=true)(hu:(Lit.int i64 u).wf=true):∃kl,keyOf prog 214 (.agg #[int i64 p,int i64 u])=some kl:=by
 obtain⟨m,hm⟩:=XI;have ht:=XH;have hc:=Tj;have hi:=aar;unfold keyOf;simp only[underlying214];rw[if_pos (by simp[ht,Value.formed,underlying214,hc]),hm];unfold Program.keyLits;simp only[underlying214,Value.cells];rw[if_pos ⟨by rw[hc];rfl,by kernel_rfl⟩];simp[Program.keyLits,underlying3,hp,hu,hi]
theorem XJ(w:World):(zeroValue 3).run prog w=.ok (int i64 0) w:=by kernel_rfl
theorem wf64{n:Int}(h0: -9223372036854775808<=n)(h1:n<=9223372036854775807):(Lit.int i64 n).wf=true:=WalkArith.wf_i64 (by omega)
def Um(w:World)(b n:Nat)(f:Int->Int->Int):Prop:=∃D:DataW Unit,w.ownsMap prog 214 (plainElem prog 3) b n D/\Maps.IsMap D/\∀p u kl,keyOf prog 214 (.agg #[.int .i64 p,.int .i64 u])=some kl->D.atKey kl (.lit (.int .i64 0))=.lit (.int .i64 (f p u))
def yw(f:Int->Int->Int)(p u v:Int):Int->Int->Int:=λp' u'=>if p'=p/\u'=u then v else f p' u'
theorem XK(w:World):Um (w.alloc (.map #[] 0)) w.heap.size 0 (λ_ _=>0):=
 ⟨.map [],World.ownsMap_made _ _ _ _,Maps.isMap_empty,λp u kl _=>Maps.atKey_of_not_has rfl _⟩
theorem Um.lt{f:Int->Int->Int}(h:Um w b n f):b<w.heap.size:=by
 obtain⟨D,h1,-⟩:=h;exact h1.lt
theorem Um.gb{f:Int->Int->Int}{r:Option Nat}(h:Um w b n f)(g:w.grownBy w' r)(hr:some b≠r):Um w' b n f:=by
 obtain⟨D,h1,h2⟩:=h;exact⟨D,h1.kept g hr,h2⟩
theorem Um.below{f:Int->Int->Int}(h:Um w b n f)(g:Below w.heap.size w w'):Um w' b n f:=
 h.gb (r:=none) ⟨g.os,g.tape,g.output,g.size,λk hk _=>g.block k hk⟩ (by simp)
theorem Um.put{f:Int->Int->Int}(h:Um w b n f)(hn:n<maxLen){v:Int}(hp:(Lit.int i64 p).wf=true)(hu:(Lit.int i64 u).wf=true)(hv:(Lit.int i64 v).wf=true):
  ∃w',(Instr.mapUpdate 211 (.map (some b)) (.agg #[int i64 p,int i64 u]) (int i64 v)).run prog w=.ok () w'/\Um w' b (n+1) (yw f p u v)/\w.grownBy w' (some b):=by
 obtain⟨D,h1,hD,h2⟩:=h;obtain⟨kl,hk⟩:=Tm hp hu;obtain⟨w',r,o,g⟩:=World.ownsMap.update h1 zO underlying211 hn hk (plainElem_int underlying3 hv);refine⟨w',r,⟨_,o,hD.put _ _,λp' u' kl' hk'=>?_⟩,g⟩;unfold yw;by_cases e:kl'=kl
 ·subst e
  have ei:=zO.inj hk hk';simp only[Value.agg.injEq,Array.mk.injEq,List.cons.injEq,Value.int.injEq,true_and,and_true] at ei;rw[if_pos ⟨ei.1.symm,ei.2.symm⟩];exact Maps.atKey_put_same hD (zO.key hk) _ _
 ·rw[Maps.atKey_put_other e,if_neg,h2 p' u' kl' hk']
  rintro⟨rfl,rfl⟩;exact e (dQ (hk'.symm.trans hk))
theorem Um.look{f:Int->Int->Int}(h:Um w b n f)(hp:(Lit.int i64 p).wf=true)(hu:(Lit.int i64 u).wf=true):
  (Instr.lookup 211 (.map (some b)) (.agg #[int i64 p,int i64 u]) false).run prog w=.ok (int i64 (f p u)) w:=by
 obtain⟨D,h1,hD,h2⟩:=h;obtain⟨kl,hk⟩:=Tm hp hu;obtain⟨c,hr,hat,-⟩:=h1.lookup_int zO underlying211 underlying3 (XJ w) hk;rw[h2 p u kl hk] at hat;injection hat with e
 injection e with _ e
 rw[e];exact hr
end
section
variable {Hn Wn n q:Nat} {X Y:WV} {ks:List KV} {l out:List bU} {o:bU} {us us':List aI}
namespace So
def lf(l:List bU):Nat->Int->Int->Int
 |0=>λ_ _=>0
 |q+1=>match l[q]? with
  |some o=>if o.what=3 then lf l q else yw (lf l q) o.ay o.unit (q:Nat)
  |none=>lf l q
def kp(l:List bU):Nat->List T
 |0=>[]
 |q+1=>match l[q]? with
  |some o=>if o.what=3\/lf l l.length o.ay o.unit=(q:Nat) then kp l q++[(o,q)] else kp l q
  |none=>kp l q
theorem Tn(h:l[q]? =some o)(h3:o.what=3):lf l (q+1)=lf l q:=by rw[lf];simp only[h];rw[if_pos h3]
theorem Di(h:l[q]? =some o)(h3:¬o.what=3):lf l (q+1)=yw (lf l q) o.ay o.unit (q:Nat):=by rw[lf];simp only[h];rw[if_neg h3]
theorem vO(h:l[q]? =some o)(h3:o.what=3\/lf l l.length o.ay o.unit=(q:Nat)):kp l (q+1)=kp l q++[(o,q)]:=by rw[kp];simp only[h];rw[if_pos h3]
theorem YW(h:l[q]? =some o)(h3:¬(o.what=3\/lf l l.length o.ay o.unit=(q:Nat))):kp l (q+1)=kp l q:=by rw[kp];simp only[h];rw[if_neg h3]
theorem qc{l:List bU}:∀{q:Nat} {x:T},x∈kp l q->x.2<q/\l[x.2]? =some x.1/\(x.1.what=3\/lf l l.length x.1.ay x.1.unit=(x.2:Nat))
 |0,x,h=>by simp[kp] at h
 |q+1,x,h=>by
  rw[kp] at h;cases ho:l[q]? with
  |none=>
   simp only[ho] at h;obtain⟨h1,h2⟩:=qc h;exact⟨by omega,h2⟩
  |some o=>
   simp only[ho] at h;split at h
   ·rename_i hc
    rcases gJ.1 h with h|h
    ·obtain⟨h1,h2⟩:=qc h
     exact⟨by omega,h2⟩
    ·simp at h
     subst h;exact⟨by simp,ho,hc⟩
   ·obtain⟨h1,h2⟩:=qc h
    exact⟨by omega,h2⟩
theorem YX{l:List bU}{i:Nat}{o:bU}(ho:l[i]? =some o)(hc:o.what=3\/lf l l.length o.ay o.unit=(i:Nat)):∀{q:Nat},i<q->(o,i)∈kp l q
 |0,h=>by omega
 |q+1,h=>by
  by_cases e:i=q
  ·subst e
   rw[vO ho hc];simp
  ·have ih:=YX ho hc (q:=q) (by omega)
   rw[kp];cases hq:l[q]? with
   |none=>exact ih
   |some o'=>
    simp only;split
    ·exact List.mem_append_left _ ih
    ·exact ih
theorem oJ{l:List bU}:∀(q:Nat),(kp l q).Pairwise (λx y=>x.2<y.2)
 |0=>List.Pairwise.nil
 |q+1=>by
  rw[kp];cases hq:l[q]? with
  |none=>exact oJ q
  |some o=>
   simp only;split
   ·refine List.pairwise_append.2 ⟨oJ q,by simp,λx hx y hy=>?_⟩
    simp at hy;subst hy;exact(qc hx).1
   ·exact oJ q
theorem zQ{l:List bU}:∀(q:Nat),(kp l q).length<=q
 |0=>aU _
 |q+1=>by
  rw[kp];have:=zQ (l:=l) q;cases hq:l[q]? with
  |none=>simp only;omega
  |some o=>
   simp only;split
   ·simp;omega
   ·omega
theorem zS{l:List bU}{i:Nat}{o:bU}(ho:l[i]? =some o)(h3:¬o.what=3):∀{q:Nat},i<q->(∀k x,i<k->k<q->l[k]? =some x->x.what=3\/x.ay≠o.ay\/x.unit≠o.unit)->lf l q o.ay o.unit=(i:Nat)
 |0,h,_=>by omega
 |q+1,h,hn=>by
  by_cases e:i=q
  ·subst e
   rw[Di ho h3];unfold yw;rw[if_pos ⟨rfl,rfl⟩]
  ·have ih:=zS ho h3 (q:=q) (by omega) (λk x h1 h2 hx=>hn k x h1 (by omega) hx)
   rw[lf];cases hq:l[q]? with
   |none=>exact ih
   |some x=>
    simp only;split
    ·exact ih
    ·rename_i hx3
     unfold yw;rw[if_neg]
     ·exact ih
     ·rintro⟨h1,h2⟩
      rcases hn q x (by omega) (by omega) hq with h|h|h
      ·exact hx3 h
      ·exact h h1.symm
      ·exact h h2.symm
def dA(l out:List bU):Prop:=∃S:List T,S.Perm (kp l l.length)/\S.Pairwise lt/\out=S.map Prod.fst
theorem dA.one{l out out':List bU}(h:dA l out)(h':dA l out'):out=out':=by
 obtain⟨S,p,r,rfl⟩:=h;obtain⟨S',p',r',rfl⟩:=h';rw[sU (p.trans p'.symm) r r']
theorem dA.len(h:dA l out):out.length<=l.length:=by
 obtain⟨S,p,r,rfl⟩:=h;have:=zQ (l:=l) l.length;rw[lG,p.length_eq];exact this
theorem dA.mem(h:dA l out)(ho:o∈out):o∈l:=by
 obtain⟨S,p,r,rfl⟩:=h;obtain⟨x,hx,rfl⟩:=jg.1 ho;exact aT (qc (p.mem_iff.1 hx)).2.1
end So
open Go.Proofs.YtolfphmdmpehdaaGreatDoor.So Go.RowKit
theorem Ih{k:KV}{i:Nat}{left:Int}{cells:List Int}(h:Goes ks X Wn Hn k i us left cells us'):us'.length=us.length/\cells.length<=left.toNat:=by
 induction h with
 |stop=>exact⟨rfl,by simp⟩
 | @step us us' left u c gg cells hu hw hg h1 h2 h3 ih=>
  have hp:0<Fd.onto gg k.f:=by
   refine vG hw hg (λe=>?_);rw[bK] at h2;exact h2 u (aT hu) (by rw[e];simp)
  obtain⟨i1,i2⟩:=ih;refine⟨by rw[i1];simp,?_⟩;simp only[dI];omega
theorem Dj{evs:List dZ}(hk:∀k∈ks,k.n4<=1000)(h:Moves ks X Wn Hn n us evs us'):evs.length<=1000*(us.length-n):=by
 induction h with
 |done=>simp
 | @unit n us us1 us' u u1 k cells evs hu hkk hg h1 hm ih=>
  obtain⟨g1,g2⟩:=Ih hg;have hn:=(aK.1 hu).1;have hs:=hk k (aT hkk);rw[jA,g1] at ih;rw[aC,lG];have:us.length-n=(us.length-(n+1))+1:=by omega
  rw[this];omega
theorem Dk(h:Kd.bg (ks.map KV.k)=0):∀k∈ks,k.n4<=1000:=by
 intro k hk;unfold Kd.bg at h;split at h
 ·omega
 ·have h2:=jM h k.k (jg.2 ⟨k,hk,rfl⟩)
  unfold Kd.eu at h2;split at h2
  ·omega
  ·rename_i h3
   rw[Bool.not_eq_true,bK] at h3;have:=h3 k.n4 (by simp[KV.k]);simp only[decide_eq_true_eq] at this;omega
inductive Ph (ks:List KV) (Wn Hn:Nat) (A:WV):Nat->WV->List dZ->Prop
 |zero:Ph ks Wn Hn A 0 A []
 |one {T:WV} {es:List dZ} {qs:List bM}:Tr ks A A.qs.length T es qs->Ph ks Wn Hn A 1 {T with qs:=qs} es
 |two {B:WV} {es evs:List dZ} {us:List aI}:Ph ks Wn Hn A 1 B es->Moves ks B Wn Hn 0 B.us evs us->Ph ks Wn Hn A 2 {B with us:=us} (es++evs)
 |three {C:WV} {es:List dZ}:Ph ks Wn Hn A 2 C es->Ph ks Wn Hn A 3 (YR ks Wn Hn C) (es++Cm ks Wn Hn C)
 |four {D:WV} {es:List dZ}:Ph ks Wn Hn A 3 D es->Ph ks Wn Hn A 4 (og ks Wn D) (es++qQ ks Wn D)
theorem Ph.keep{A:WV}(h:bH ks A)(e1:A.wide=(Wn:Nat))(e2:A.high=(Hn:Nat)){es:List dZ}(p:Ph ks Wn Hn A n Y es):bH ks Y/\Y.wide=(Wn:Nat)/\Y.high=(Hn:Nat)/\Y.turn=A.turn/\es.length<=50000*n:=by
 induction p with
 |zero=>exact⟨h,e1,e2,rfl,by simp⟩
 | @one T es qs t=>
  obtain⟨-,-,k3,-,k5,k6,k7,-⟩:=t.keep h;refine⟨bY (QZ h t),by show T.wide=_;rw[k6,e1],by show T.high=_;rw[k7,e2],k5,?_⟩;have:=h.ql;omega
 | @two B es evs us p0 m ih=>
  obtain⟨r,w1,w2,w3,w4⟩:=ih;obtain⟨Wm,Hm,f1,f2,G⟩:=r.good;obtain rfl:Wm=Wn:=by omega
  obtain rfl:Hm=Hn:=by omega
  refine⟨bY (GH r G w1 w2 (Gz G m (Gy r G))),w1,w2,w3,?_⟩;have hm:=Dj (Dk r.kinds) m;have hu:=r.ul;rw[aC];omega
 | @three C es p0 ih=>
  obtain⟨r,w1,w2,w3,w4⟩:=ih;obtain⟨k0,k1,-,k3,k4,-⟩:=CG (ks:=ks) (Wn:=Wn) (Hn:=Hn) r;refine⟨bY k0,by rw[<-w1];exact k3,by rw[<-w2];exact k4,by rw[<-w3];exact k1,?_⟩;have a1:=zA (ks:=ks) (Y:=C) C.us.length;have a2:=zF (ks:=ks) (Wn:=Wn) (Hn:=Hn) (Y:=(tk ks C C.us.length).1) (tk ks C C.us.length).1.us.length;have a3:(tk ks C _).1.us.length=C.us.length:=(zy C.us.length).2.2.2.2.2.2.2.1;have hu:=r.ul;rw[aC];unfold Cm;rw[aC];omega
 | @four D es p0 ih=>
  obtain⟨r,w1,w2,w3,w4⟩:=ih;refine⟨bY (zK r),w1,w2,w3,?_⟩;have a1:=lJ (ks:=ks) (W:=Wn) (us:=D.us) D.us (List.replicate D.us.length 0,[]);have a2:((struck ks Wn D).filter dV).length<=D.us.length:=by
   have h1:(struck ks Wn D).length=D.us.length:=by unfold struck;exact kP gZ
   have h2:=List.length_filter_le dV (struck ks Wn D);omega
  have hu:=r.ul;rw[aC];unfold qQ strikes;rw[aC,lG];simp at a1;unfold strikes at *;omega
theorem Ii{Z:WV}(hg:iG ks Y o=some Z):Z.turn=Y.turn/\Z.wide=Y.wide/\Z.high=Y.high:=by
 unfold iG at hg;split at hg
 ·cases hg
 ·split at hg
  ·cases hg
  ·split at hg
   ·cases hg
   ·split at hg
    ·injection hg with hg
     subst hg;split<;>exact⟨rfl,rfl,rfl⟩
    ·cases hg
theorem tV{ks:List KV}{Y:WV}{out:List bU}:∀q,(gv ks Y out q).1.turn=Y.turn/\(gv ks Y out q).1.wide=Y.wide/\(gv ks Y out q).1.high=Y.high
 |0=>⟨rfl,rfl,rfl⟩
 |q+1=>by
  have ih:=tV (ks:=ks) (Y:=Y) (out:=out) q;cases hq:out[q]? with
  |none=>rw[gv];simp only[hq];exact ih
  |some o=>
   cases hg:iG ks (gv ks Y out q).1 o with
   |some Z=>
    rw[yX hq hg];obtain⟨a,b,c⟩:=Ii hg;exact⟨a.trans ih.1,b.trans ih.2.1,c.trans ih.2.2⟩
   |none=>rw[Jv hq hg];exact ih
def cZ(ks:List KV)(X:WV)(l:List bU):Int:=if Wd.aP ks X≠0 then Wd.aP ks X else if 1000000<=X.turn then 4 else Od.faults l
def oh(ks:List KV)(X:WV)(l:List bU)(Y:WV)(es:List dZ):Prop:=∃(out:List bU) (Wn Hn:Nat) (Z:WV),dA l out/\X.wide=(Wn:Nat)/\X.high=(Hn:Nat)/\Ph ks Wn Hn (gv ks X out out.length).1 4 Z es/\Y={Z with turn:=Z.turn+1}
end
section
open Go.RowKit
variable {Z:WV} {b base i n:Nat} {ev' k1 k2 k3 k4 k5 v:Value} {ks:List bU} {o:bU} {rest:List Value} {u:aI} {w w':World}
structure tC(Y:WV)(es:List dZ)(qs:List bM)(z b1 bm be:Nat)(w5:World)(u1 u2 u3 u4 u5 ev qv:Value)(V:World):Prop where
 x:Wx V z (int i64 Y.turn) (int i64 Y.next) (int i64 Y.wide) (int i64 Y.high) u1 u2 u3 u4 u5
 o1:Ow V b1 u1 Y.gs
 o2:Ow V b1 u2 Y.os
 o3:Ow V b1 u3 Y.gold
 o4:fD V b1 u4 Y.us
 o5:fB V b1 u5 Y.qs
 d:fK u5 qv
 l:∀x∈[u1,u2,u3,u4,u5],∀k,x.ownBlock=some k->k<bm\/be<=k
 e:ig V be ev es
 o:fB V be qv qs
 f:Fr (λk=>k=z\/k=bm) w5 V
 n:z<b1/\b1<=bm/\bm<be/\w5.heap.size=be
section
variable {Y:WV} {es:List dZ} {qs:List bM} {z b1 bm be:Nat} {w5:World} {u1 u2 u3 u4 u5 ev qv:Value} {V V':World}
theorem tC.below(h:tC Y es qs z b1 bm be w5 u1 u2 u3 u4 u5 ev qv V)(hb:Below V.heap.size V V'):tC Y es qs z b1 bm be w5 u1 u2 u3 u4 u5 ev qv V':=
 ⟨h.x.below hb h.x.lt,h.o1.below hb,h.o2.below hb,h.o3.below hb,h.o4.below hb,h.o5.below hb,h.d,h.l,h.e.below hb,h.o.below hb,h.f.trans (Fr.below hb),h.n⟩
theorem tC.wl(h:tC Y es qs z b1 bm be w5 u1 u2 u3 u4 u5 ev qv V):Wl V (.agg #[int i64 Y.turn,int i64 Y.next,int i64 Y.wide,int i64 Y.high,u1,u2,u3,u4,u5]) Y:=
 ⟨u1,u2,u3,u4,u5,rfl,h.o1.ro,h.o2.ro,h.o3.ro,h.o4.l,h.o5.l⟩
theorem tC.map(h:tC Y es qs z b1 bm be w5 u1 u2 u3 u4 u5 ev qv V)(hf:Fr (λq=>q=bm) V V'):tC Y es qs z b1 bm be w5 u1 u2 u3 u4 u5 ev qv V':=by
 have hn:=h.n;have no:∀x∈[u1,u2,u3,u4,u5],∀k,x.ownBlock=some k->¬k=bm:=λx hx k hk=>by have:=h.l x hx k hk;omega
 exact⟨hf.wx h.x (by omega),hf.own h.o1 (no u1 (by simp)),hf.own h.o2 (no u2 (by simp)),hf.own h.o3 (no u3 (by simp)),hf.own h.o4 (no u4 (by simp)),hf.own h.o5 (no u5 (by simp)),h.d,h.l,
  hf.own h.e (λk hk=>by have:=(h.e.block k hk).1;omega),hf.own h.o (λk hk=>by have:=(h.o.block k hk).1;omega),h.f.trans (hf.mono (λk hk=>.inr hk)),h.n⟩
theorem tC.told(h:tC Y es qs z b1 bm be w5 u1 u2 u3 u4 u5 ev qv V){e:dZ}(g:V.grownBy V' ev.ownBlock)(he:ig V' be ev' (es++[e])):tC Y (es++[e]) qs z b1 bm be w5 u1 u2 u3 u4 u5 ev' qv V':=by
 have hn:=h.n;have hf:=Fr.gb g (λk hk=>hk);have ne:∀k,ev.ownBlock=some k->be<=k:=λk hk=>(h.e.block k hk).1
 refine⟨hf.wx h.x (λe=>by have:=ne z e;omega),hf.own h.o1 (gI h.o1 h.e (by decide)),hf.own h.o2 (gI h.o2 h.e (by decide)),hf.own h.o3 (gI h.o3 h.e (by decide)),hf.own h.o4 (gI h.o4 h.e (by decide)),hf.own h.o5 (gI h.o5 h.e (by decide)),h.d,h.l,he,hf.own h.o (gI h.o h.e (by decide)),?_,h.n⟩;refine⟨hf.os.trans h.f.os,hf.tape.trans h.f.tape,hf.output.trans h.f.output,aJ h.f.size hf.size,λq hq hm=>(hf.block q (fE hq h.f.size) (λe=>?_)).trans (h.f.block q hq hm)⟩;have:=ne q e;omega
theorem tC.left(h:tC Y es qs z b1 bm be w5 u1 u2 u3 u4 u5 ev qv V){j:bM}{qv':Value}{gq:Nat}(g:V.grownBy V' qv.ownBlock)(ho:fB V' be qv' (qs++[j]))(hq:qv'.ownBlock=some gq)(hg:qv.ownBlock=some gq\/gq=V.heap.size):tC Y es (qs++[j]) z b1 bm be w5 u1 u2 u3 u4 u5 ev qv' V':=by
 have hn:=h.n;have hf:=Fr.gb g (λk hk=>hk);have ne:∀k,qv.ownBlock=some k->be<=k:=λk hk=>(h.o.block k hk).1
 refine⟨hf.wx h.x (λe=>by have:=ne z e;omega),hf.own h.o1 (gI h.o1 h.o (by decide)),hf.own h.o2 (gI h.o2 h.o (by decide)),hf.own h.o3 (gI h.o3 h.o (by decide)),hf.own h.o4 (gI h.o4 h.o (by decide)),hf.own h.o5 h.d,?_,h.l,hf.own h.e (gI h.e h.o (by decide)),ho,?_,h.n⟩
 ·intro k hk e
  rw[hq] at e;injection e with e
  subst e;rcases hg with hg|hg
  ·exact h.d _ hk hg
  ·have:=(h.o5.block _ hk).2;omega
 ·refine⟨hf.os.trans h.f.os,hf.tape.trans h.f.tape,hf.output.trans h.f.output,aJ h.f.size hf.size,λq hq hm=>(hf.block q (fE hq h.f.size) (λe=>?_)).trans (h.f.block q hq hm)⟩
  have:=ne q e;omega
theorem tC.box(h:tC Y es qs z b1 bm be w5 u1 u2 u3 u4 u5 ev qv V)(hk:Kp b V V')(hb:be<=b)(hl:∀x∈[u1,u2,u3,u4,u5,ev,qv],∀k,x.ownBlock=some k->k<b):tC Y es qs z b1 bm be w5 u1 u2 u3 u4 u5 ev qv V':=by
 have hn:=h.n;have hf:Fr (λq=>q=b) V V':=Fr.kp hk rfl;have no:∀x∈[u1,u2,u3,u4,u5,ev,qv],∀k,x.ownBlock=some k->¬k=b:=λx hx k hk=>by have:=hl x hx k hk;omega
 refine⟨hf.wx h.x (by omega),hf.own h.o1 (no u1 (by simp)),hf.own h.o2 (no u2 (by simp)),hf.own h.o3 (no u3 (by simp)),hf.own h.o4 (no u4 (by simp)),hf.own h.o5 (no u5 (by simp)),h.d,h.l,hf.own h.e (no ev (by simp)),hf.own h.o (no qv (by simp)),?_,h.n⟩;exact⟨hf.os.trans h.f.os,hf.tape.trans h.f.tape,hf.output.trans h.f.output,aJ h.f.size hf.size,λq hq hm=>(hf.block q (fE hq h.f.size) (λe=>by omega)).trans (h.f.block q hq hm)⟩
theorem tC.under(h:tC Y es qs z b1 bm be w5 u1 u2 u3 u4 u5 ev qv V):∀x∈[u1,u2,u3,u4,u5,ev,qv],∀k,x.ownBlock=some k->k<V.heap.size:=by
 intro x hx k hk;simp only[bP,List.not_mem_nil,or_false] at hx;rcases hx with rfl|rfl|rfl|rfl|rfl|rfl|rfl
 ·exact(h.o1.block k hk).2
 ·exact(h.o2.block k hk).2
 ·exact(h.o3.block k hk).2
 ·exact(h.o4.block k hk).2
 ·exact(h.o5.block k hk).2
 ·exact(h.e.block k hk).2
 ·exact(h.o.block k hk).2
theorem tC.puts(h:tC Y es qs z b1 bm be w5 u1 u2 u3 u4 u5 ev qv V){B:Nat}(hB:be<=B)(hq:∀k,qv.ownBlock=some k->k<B)(hk:Kp z V V')(hx:Wx V' z (int i64 Z.turn) (int i64 Z.next) (int i64 Z.wide) (int i64 Z.high) k1 k2 k3 k4 k5)
  (p1:Ow V B k1 Z.gs) (p2:Ow V B k2 Z.os) (p3:Ow V B k3 Z.gold) (p4:fD V B k4 Z.us) (p5:fB V B k5 Z.qs):tC Z es qs z b1 bm be w5 k1 k2 k3 k4 k5 ev qv V':=by
 have hn:=h.n;have hf:Fr (λq=>q=z) V V':=Fr.kp hk rfl;refine⟨hx,Ow.mono (hf.own p1 (λk hk=>by have:=(p1.block k hk).1;omega)) (by omega),Ow.mono (hf.own p2 (λk hk=>by have:=(p2.block k hk).1;omega)) (by omega),Ow.mono (hf.own p3 (λk hk=>by have:=(p3.block k hk).1;omega)) (by omega),fD.mono (hf.own p4 (λk hk=>by have:=(p4.block k hk).1;omega)) (by omega),fB.mono (hf.own p5 (λk hk=>by have:=(p5.block k hk).1;omega)) (by omega),?_,?_,hf.own h.e (λk hk=>by have:=(h.e.block k hk).1;omega),hf.own h.o (λk hk=>by have:=(h.o.block k hk).1;omega),h.f.trans (hf.mono (λk hk=>.inl hk)),h.n⟩
 ·intro k hk e
  have:=(p5.block k hk).1;have:=hq k e;omega
 ·intro x hx k hk
  simp only[bP,List.not_mem_nil,or_false] at hx;rcases hx with rfl|rfl|rfl|rfl|rfl
  ·have:=(p1.block k hk).1;omega
  ·have:=(p2.block k hk).1;omega
  ·have:=(p3.block k hk).1;omega
  ·have:=(p4.block k hk).1;omega
  ·have:=(p5.block k hk).1;omega
end
structure Nu(Y:WV)(es:List dZ)(z b1 be:Nat)(w5:World)(u1 u2 u3 u4 u5 ev:Value)(V:World):Prop where
 x:Wx V z (int i64 Y.turn) (int i64 Y.next) (int i64 Y.wide) (int i64 Y.high) u1 u2 u3 u4 u5
 o1:Ow V b1 u1 Y.gs
 o2:Ow V b1 u2 Y.os
 o3:Ow V b1 u3 Y.gold
 o4:fD V b1 u4 Y.us
 o5:fB V b1 u5 Y.qs
 e:ig V be ev es
 f:Fr (λk=>k=z) w5 V
 n:z<b1/\b1<=be/\w5.heap.size=be
section
variable {Y:WV} {es:List dZ} {z b1 be:Nat} {w5:World} {u1 u2 u3 u4 u5 ev:Value} {V V':World}
theorem Nu.below(h:Nu Y es z b1 be w5 u1 u2 u3 u4 u5 ev V)(hb:Below V.heap.size V V'):Nu Y es z b1 be w5 u1 u2 u3 u4 u5 ev V':=
 ⟨h.x.below hb h.x.lt,h.o1.below hb,h.o2.below hb,h.o3.below hb,h.o4.below hb,h.o5.below hb,h.e.below hb,h.f.trans (Fr.below hb),h.n⟩
theorem Nu.wl(h:Nu Y es z b1 be w5 u1 u2 u3 u4 u5 ev V):Wl V (.agg #[int i64 Y.turn,int i64 Y.next,int i64 Y.wide,int i64 Y.high,u1,u2,u3,u4,u5]) Y:=
 ⟨u1,u2,u3,u4,u5,rfl,h.o1.ro,h.o2.ro,h.o3.ro,h.o4.l,h.o5.l⟩
theorem Nu.told(h:Nu Y es z b1 be w5 u1 u2 u3 u4 u5 ev V){fs:List dZ}(g:V.grownBy V' ev.ownBlock)(he:ig V' be ev' (es++fs)):Nu Y (es++fs) z b1 be w5 u1 u2 u3 u4 u5 ev' V':=by
 have hn:=h.n;have hf:Fr (λq=>ev.ownBlock=some q) V V':=Fr.gb g (λk hk=>hk);have ne:∀k,ev.ownBlock=some k->be<=k:=λk hk=>(h.e.block k hk).1
 refine⟨hf.wx h.x (λe=>by have:=ne z e;omega),hf.own h.o1 (gI h.o1 h.e (by decide)),hf.own h.o2 (gI h.o2 h.e (by decide)),hf.own h.o3 (gI h.o3 h.e (by decide)),hf.own h.o4 (gI h.o4 h.e (by decide)),hf.own h.o5 (gI h.o5 h.e (by decide)),he,?_,h.n⟩;refine⟨hf.os.trans h.f.os,hf.tape.trans h.f.tape,hf.output.trans h.f.output,aJ h.f.size hf.size,λq hq hm=>(hf.block q (fE hq h.f.size) (λe=>?_)).trans (h.f.block q hq hm)⟩;have:=ne q e;omega
theorem Nu.puts(h:Nu Y es z b1 be w5 u1 u2 u3 u4 u5 ev V)(hk:Kp z V V')(hx:Wx V' z (int i64 Z.turn) (int i64 Z.next) (int i64 Z.wide) (int i64 Z.high) k1 k2 k3 k4 k5)
  (p1:Ow V b1 k1 Z.gs) (p2:Ow V b1 k2 Z.os) (p3:Ow V b1 k3 Z.gold) (p4:fD V b1 k4 Z.us) (p5:fB V b1 k5 Z.qs):Nu Z es z b1 be w5 k1 k2 k3 k4 k5 ev V':=by
 have hn:=h.n;have hf:Fr (λq=>q=z) V V':=Fr.kp hk rfl;exact⟨hx,hf.own p1 (λk hk=>by have:=(p1.block k hk).1;omega),hf.own p2 (λk hk=>by have:=(p2.block k hk).1;omega),hf.own p3 (λk hk=>by have:=(p3.block k hk).1;omega),hf.own p4 (λk hk=>by have:=(p4.block k hk).1;omega),hf.own p5 (λk hk=>by have:=(p5.block k hk).1;omega),hf.own h.e (λk hk=>by have:=(h.e.block k hk).1;omega),h.f.trans hf,h.n⟩
end
structure Ap(ks:List KV)(Y:WV)(ref:List Int)(b1 z:Nat)(w1:World)(u1 u2 u3 u4 u5 ur:Value)(V:World):Prop where
 x:Wx V z (int i64 Y.turn) (int i64 Y.next) (int i64 Y.wide) (int i64 Y.high) u1 u2 u3 u4 u5
 o1:Ow V b1 u1 Y.gs
 o2:Ow V b1 u2 Y.os
 o3:Ow V b1 u3 Y.gold
 o4:fD V b1 u4 Y.us
 o5:fB V b1 u5 Y.qs
 r:Ow V b1 ur ref
 d:[u1,u2,u3,u4,u5,ur].Pairwise fK
 k:Kp z w1 V
 f:wR ks Y
section
variable {ks:List KV} {Y:WV} {ref:List Int} {b1 z:Nat} {w1:World} {u1 u2 u3 u4 u5 ur:Value} {V V':World}
theorem Ap.below(h:Ap ks Y ref b1 z w1 u1 u2 u3 u4 u5 ur V)(hb:Below V.heap.size V V'):Ap ks Y ref b1 z w1 u1 u2 u3 u4 u5 ur V':=
 ⟨h.x.below hb h.x.lt,h.o1.below hb,h.o2.below hb,h.o3.below hb,h.o4.below hb,h.o5.below hb,h.r.below hb,h.d,h.k.trans (Kp.of hb),h.f⟩
theorem Ap.wo(h:Ap ks Y ref b1 z w1 u1 u2 u3 u4 u5 ur V):Wo V b1 (.agg #[int i64 Y.turn,int i64 Y.next,int i64 Y.wide,int i64 Y.high,u1,u2,u3,u4,u5]) Y:=⟨u1,u2,u3,u4,u5,rfl,h.o1,h.o2,h.o3,h.o4,h.o5⟩
theorem Ap.wU(h:Ap ks Y ref b1 z w1 u1 u2 u3 u4 u5 ur V):(fK u1 u2/\fK u1 u3/\fK u1 u4/\fK u1 u5/\fK u1 ur)/\(fK u2 u3/\fK u2 u4/\fK u2 u5/\fK u2 ur)/\(fK u3 u4/\fK u3 u5/\fK u3 ur)/\(fK u4 u5/\fK u4 ur)/\fK u5 ur:=by
 have:=h.d;simp only[List.pairwise_cons,bP,List.not_mem_nil,or_false,forall_eq_or_imp,forall_eq] at this;obtain⟨⟨a1,a2,a3,a4,a5⟩,⟨b1,b2,b3,b4⟩,⟨c1,c2,c3⟩,⟨d1,d2⟩,e,-⟩:=this;exact⟨⟨a1,a2,a3,a4,a5⟩,⟨b1,b2,b3,b4⟩,⟨c1,c2,c3⟩,⟨d1,d2⟩,e⟩
theorem lK{u v':Value}(h:fK u v)(hu:∀k,u.ownBlock=some k->k<n)(hv:v'.ownBlock=v.ownBlock\/∃q,v'.ownBlock=some q/\n<=q):fK u v':=λk h1 h2=>by
 rcases hv with e|⟨q,e,hq⟩
 ·exact h k h1 (by rw[<-e];exact h2)
 ·rw[e] at h2
  injection h2 with h2
  have:=hu k h1;omega
theorem Ap.refuse{ref':List Int}{ur':Value}(h:Ap ks Y ref b1 z w1 u1 u2 u3 u4 u5 ur V)(hz:z<b1)(hw:w1.heap.size=b1)(g:V.grownBy V' ur.ownBlock)(ho:Ow V' b1 ur' ref')(hn:ur'.ownBlock=ur.ownBlock\/∃q,ur'.ownBlock=some q/\V.heap.size<=q):Ap ks Y ref' b1 z w1 u1 u2 u3 u4 u5 ur' V':=by
 obtain⟨⟨d12,d13,d14,d15,d1r⟩,⟨d23,d24,d25,d2r⟩,⟨d34,d35,d3r⟩,⟨d45,d4r⟩,d5r⟩:=h.wU;have F:=Fr.gb g (λk hk=>hk);refine⟨F.wx h.x (λe=>by have:=(h.r.block z e).1;omega),F.own h.o1 (λb hb e=>d1r b hb e),F.own h.o2 (λb hb e=>d2r b hb e),F.own h.o3 (λb hb e=>d3r b hb e),F.own h.o4 (λb hb e=>d4r b hb e),F.own h.o5 (λb hb e=>d5r b hb e),ho,?_,JG h.k g (λk hk=>by rw[hw];exact(h.r.block k hk).1),h.f⟩;simp only[List.pairwise_cons,bP,List.not_mem_nil,or_false,forall_eq_or_imp,forall_eq];exact⟨⟨d12,d13,d14,d15,lK d1r (λk hk=>(h.o1.block k hk).2) hn⟩,⟨d23,d24,d25,lK d2r (λk hk=>(h.o2.block k hk).2) hn⟩,⟨d34,d35,lK d3r (λk hk=>(h.o3.block k hk).2) hn⟩,⟨d45,lK d4r (λk hk=>(h.o4.block k hk).2) hn⟩,lK d5r (λk hk=>(h.o5.block k hk).2) hn,by simp,by simp⟩
theorem Ap.send{gu cap:Nat}(h:Ap ks Y ref b1 z w1 u1 u2 u3 (slice (some ⟨gu,0,none⟩) Y.us.length cap) u5 ur V)(hz:z<b1)(hw:w1.heap.size=b1)(hu:Y.us[i]? =some u)(hg:b1<=gu)(h1:Y.us.length<=cap)(h2:cap<=maxLen)(h3:Y.us.length*8+rest.length=cap*8)(hb:Ub V' gu (Y.us.set i (xM o u)) rest)(hk:Kp gu V V'):
  Ap ks (qC Y i u o) ref b1 z w1 u1 u2 u3 (slice (some ⟨gu,0,none⟩) Y.us.length cap) u5 ur V':=by
 obtain⟨⟨d12,d13,d14,d15,d1r⟩,⟨d23,d24,d25,d2r⟩,⟨d34,d35,d3r⟩,⟨d45,d4r⟩,d5r⟩:=h.wU;have F:Fr (λq=>q=gu) V V':=Fr.kp hk rfl;have own:(slice (some ⟨gu,0,none⟩) Y.us.length cap).ownBlock=some gu:=rfl;refine⟨F.wx h.x (by omega),F.own h.o1 (λb hb e=>d14 b hb (by rw[own,e])),F.own h.o2 (λb hb e=>d24 b hb (by rw[own,e])),F.own h.o3 (λb hb e=>d34 b hb (by rw[own,e])),?_,F.own h.o5 (λb hb e=>d45 gu own (by rw[hb,e])),F.own h.r (λb hb e=>d4r gu own (by rw[hb,e])),h.d,?_,h.f.sent hu o⟩
 ·have:=hb.ZQ (base:=b1) (cap:=cap) hg (by simpa using h1) h2 (by simpa using h3)
  simpa[qC] using this
 ·exact⟨hk.os.trans h.k.os,hk.tape.trans h.k.tape,hk.output.trans h.k.output,aJ h.k.size hk.size,λq hq hn=>(hk.block q (fE hq h.k.size) (by omega)).trans (h.k.block q hq hn)⟩
theorem Ap.hire{gg cg pn:Nat}{rest:Array Value}{g:Int}{u5':Value}(h:Ap ks Y ref b1 z w1 u1 u2 (slice (some ⟨gg,0,none⟩) Y.gold.length cg) u4 u5 ur V)(hz:z<b1)(hw:w1.heap.size=b1)(hg:b1<=gg)(h1:Y.gold.length<=cg)(h2:cg<=maxLen)(h3:Y.gold.length+rest.size=cg)
  (hx:Wx V' z (int i64 Y.turn) (int i64 Y.next) (int i64 Y.wide) (int i64 Y.high) u1 u2 (slice (some ⟨gg,0,none⟩) Y.gold.length cg) u4 u5') (hb:Bk V' gg (iy ks Y o).gold rest) (hj:fB V' b1 u5' (iy ks Y o).qs) (hf:Fr (λq=>q=z\/q=gg\/u5.ownBlock=some q) V V') (hn:u5'.ownBlock=u5.ownBlock\/∃q,u5'.ownBlock=some q/\V.heap.size<=q) (hfit:wR ks (iy ks Y o)):
  Ap ks (iy ks Y o) ref b1 z w1 u1 u2 (slice (some ⟨gg,0,none⟩) Y.gold.length cg) u4 u5' ur V':=by
 obtain⟨⟨d12,d13,d14,d15,d1r⟩,⟨d23,d24,d25,d2r⟩,⟨d34,d35,d3r⟩,⟨d45,d4r⟩,d5r⟩:=h.wU;have own:(slice (some ⟨gg,0,none⟩) Y.gold.length cg).ownBlock=some gg:=rfl;have no:∀{u:Value},(∀k,u.ownBlock=some k->b1<=k/\k<V.heap.size)->fK u (slice (some ⟨gg,0,none⟩) Y.gold.length cg)->fK u u5->∀b,u.ownBlock=some b->¬(b=z\/b=gg\/u5.ownBlock=some b):=λhu e3 e5 b hb hs=>by
  rcases hs with e|e|e
  ·have:=(hu b hb).1;omega
  ·exact e3 b hb (by rw[own,e])
  ·exact e5 b hb e
 have el:(iy ks Y o).gold.length=Y.gold.length:=by simp[iy]
 refine⟨hx,hf.own h.o1 (no h.o1.block d13 d15),hf.own h.o2 (no h.o2.block d23 d25),?_,hf.own h.o4 (no h.o4.block d34.symm d45),hj,hf.own h.r (no h.r.block d3r.symm d5r.symm),?_,?_,hfit⟩
 ·have:=hb.ow (base:=b1) (cap:=cg) hg (by omega) h2 (by omega)
  rw[el] at this;exact this
 ·simp only[List.pairwise_cons,bP,List.not_mem_nil,or_false,forall_eq_or_imp,forall_eq]
  exact⟨⟨d12,d13,d14,lK d15 (λk hk=>(h.o1.block k hk).2) hn,d1r⟩,⟨d23,d24,lK d25 (λk hk=>(h.o2.block k hk).2) hn,d2r⟩,⟨d34,lK d35 (λk hk=>(h.o3.block k hk).2) hn,d3r⟩,⟨lK d45 (λk hk=>(h.o4.block k hk).2) hn,d4r⟩,(lK d5r.symm (λk hk=>(h.r.block k hk).2) hn).symm,by simp,by simp⟩
 ·exact⟨hf.os.trans h.k.os,hf.tape.trans h.k.tape,hf.output.trans h.k.output,aJ h.k.size hf.size,λq hq hn=>(hf.block q (fE hq h.k.size) (λe=>by
   rcases e with e|e|e
   ·exact hn e
   ·omega
   ·have:=(h.o5.block q e).1;omega)).trans (h.k.block q hq hn)⟩
end
theorem aas(o:bU)(u:aI)(b:Nat)(w:World)(x0:w.cell? ⟨b,0,none⟩=some (int i64 o.ay))(x1:w.cell? ⟨b,1,none⟩=some (int i64 o.unit)):
  Calls prog 101 #[u.val,.pointer (some ⟨b,0,none⟩)] w λe w'=>e=.returned (.bool (pK o u))/\Below w.heap.size w w':=by
 have BB:Hid (∀ob,Below w.heap.size w (w.alloc ob)):=λob=>aA
 have hb:b<w.heap.size:=cell_lt x0;have hne:b≠w.heap.size:=by omega
 have y0:∀ob,(w.alloc ob).cell? ⟨b,0,none⟩=some (int i64 o.ay):=λob=>by rw[(BB.out ob).cell (p:=⟨b,0,none⟩) hb];exact x0
 have y1:∀ob,(w.alloc ob).cell? ⟨b,1,none⟩=some (int i64 o.unit):=λob=>by rw[(BB.out ob).cell (p:=⟨b,1,none⟩) hb];exact x1
 unfold aI.val;by_cases h1:u.id=o.unit
 ·by_cases h2:u.ay=o.ay
  ·have E:Hid (pK o u=true):=decide_eq_true ⟨h1,h2⟩
   clear hne hb x0 x1;go_enter func101,ntmps101;go_wp2;go_ret;exact⟨by rw[E.out];rfl,BB _⟩
  ·have E:Hid (pK o u=false):=decide_eq_false (λh=>h2 h.2)
   have h2b:=beq_eq_false_iff_ne.2 h2;clear hne hb x0 x1;go_enter func101,ntmps101;go_wp2;go_ret;exact⟨by rw[E.out];rfl,BB _⟩
 ·have E:Hid (pK o u=false):=decide_eq_false (λh=>h1 h.1)
  have h1b:=beq_eq_false_iff_ne.2 h1;clear hne hb x0 x1;go_enter func101,ntmps101;go_wp2;go_ret;exact⟨by rw[E.out];rfl,BB _⟩
theorem Tq(a:Option Addr)(n c:Nat)(i:Nat)(w:World)(hn:n<=9223372036854775807):Calls prog 153 #[slice a n c,int i64 (i:Nat)] w λe w'=>e=.returned (.bool (decide (i<n)))/\w'=w:=by
 by_cases h:i<n
 ·have hi:((i:Nat):Int)<(n:Nat):=by omega
  have E:=aj (decide_eq_true h);have h0:(0:Int)<=((i:Nat):Int):=by omega
  go_enter func153,ntmps153;go_wp2;go_ret;exact⟨by first|(rw[E.out];rfl)|rfl,rfl⟩
 ·have hi:¬((i:Nat):Int)<(n:Nat):=by omega
  have E:=aj (decide_eq_false h);have h0:(0:Int)<=((i:Nat):Int):=by omega
  go_enter func153,ntmps153;go_wp2;go_ret;exact⟨by first|(rw[E.out];rfl)|rfl,rfl⟩
theorem Nv(a:Option Addr)(n c:Nat)(i:Nat)(w:World)(hn:n<=9223372036854775807):Calls prog 154 #[slice a n c,int i64 (i:Nat)] w λe w'=>e=.returned (.bool (decide (i<n)))/\w'=w:=by
 by_cases h:i<n
 ·have hi:((i:Nat):Int)<(n:Nat):=by omega
  have E:=aj (decide_eq_true h);have h0:(0:Int)<=((i:Nat):Int):=by omega
  go_enter func154,ntmps154;go_wp2;go_ret;exact⟨by first|(rw[E.out];rfl)|rfl,rfl⟩
 ·have hi:¬((i:Nat):Int)<(n:Nat):=by omega
  have E:=aj (decide_eq_false h);have h0:(0:Int)<=((i:Nat):Int):=by omega
  go_enter func154,ntmps154;go_wp2;go_ret;exact⟨by first|(rw[E.out];rfl)|rfl,rfl⟩
theorem aat{g:Nat}{us:List aI}(h:Ub w g us rest)(hu:us[i]? =some u)(o:bU):Ub ((w.setCell ⟨g,i*8+6,none⟩ (int i64 o.what)).setCell ⟨g,i*8+7,none⟩ (int i64 o.arg)) g (us.set i (xM o u)) rest:=by
 have hi:=(aK.1 hu).1;have h1:=h.Qq hu o.what;have h2:=h1.Bj (i:=i) (o:={u with task:=o.what}) (by simp[hi]) o.arg;simpa[xM] using h2
theorem Tt(g i:Nat)(us:List aI)(rest:List Value)(u:aI)(o:bU)(w:World)(h:Ub w g us rest)(hu:us[i]? =some u)(ho:o.what=0/\o.arg=0\/o.what=1\/o.what=2):
  Calls prog 104 #[.pointer (some ⟨g,i*8,none⟩),o.val] w λe w'=>e=.returned (.tuple #[])/\Ub w' g (us.set i (xM o u)) rest/\Kp g w w':=by
 have U0:=aj (h);have HU:=aj (hu);have gl:=h.lt;clear h hu;have W1:Hid (Kp g w (w.alloc (Obj.cells #[int i64 o.ay,int i64 o.unit,int i64 o.what,int i64 o.arg] 96))):=Kp.of aA;have U1:Hid (Ub (w.alloc (Obj.cells #[int i64 o.ay,int i64 o.unit,int i64 o.what,int i64 o.arg] 96)) g us _):=U0.below aA gl;have X1:=aj (pJ.mk' (w:=w) o rfl);unfold bU.val;go_enter func104,ntmps104;go_upto_region 1 with fail
 obtain⟨z,hz⟩:∃z,w.heap.size=z:=⟨_,rfl⟩;rw[hz] at X1 ⊢;have zg:Hid (z≠g):=aj (by omega);clear hz gl;generalize w.alloc _=w1 at *;obtain⟨x0,x1,x2,x3⟩:=X1.out;simp only[aO] at x1 x2 x3;have UC:=U1.pV HU;have c6:=UC.c6;have c7:=UC.c7;have t6:=U1.thaw (i*8+6);have t7:=U1.thaw (i*8+7);have FIN:Hid (Ub ((w1.setCell ⟨g,i*8+6,none⟩ (int i64 o.what)).setCell ⟨g,i*8+7,none⟩ (int i64 o.arg)) g (us.set i (xM o u)) rest/\Kp g w ((w1.setCell ⟨g,i*8+6,none⟩ (int i64 o.what)).setCell ⟨g,i*8+7,none⟩ (int i64 o.arg))):=⟨aat U1 HU o,(W1.trans (Kp.set _ _ _)).trans (Kp.set _ _ _)⟩;simp only at c6 c7;have zg':¬z=g:=zg;clear UC;rcases ho with⟨h0,ha⟩|h0|h0
 ·rw[h0] at x2
  rw[ha] at x3;rw[h0,ha] at FIN;clear h0 ha;go_wp2;go_end0;exact⟨rfl,FIN.1,FIN.2⟩
 ·rw[h0] at x2
  rw[h0] at FIN;clear h0;go_wp2_with fail
  go_region;go_wp2;go_end0;exact⟨rfl,FIN.1.below (aB.drew) FIN.1.lt,FIN.2.trans (Kp.of aB.drew)⟩
 ·rw[h0] at x2
  rw[h0] at FIN;clear h0;go_wp2_with fail
  go_region;go_wp2;go_end0;exact⟨rfl,FIN.1.below (aB.drew) FIN.1.lt,FIN.2.trans (Kp.of aB.drew)⟩
theorem maybe_any(vk vw:Value)(ks:List KV)(Y:WV)(k:KV)(o:bU)(w:World)(hk:Kl w vk ks)(hw:Wl w vw Y)(F:wR ks Y)(ob:¬Od.bad o)(hp:o.ay.toNat<Y.gold.length):
  Calls prog 102 #[vk,vw,k.val,o.val] w λe w'=>e=.returned (.bool (wQ ks Y k o))/\Below w.heap.size w w':=by
 have K:=aj (hk);have H:=aj (hw);have FF:=aj (F);have OK:=Od.Bv ob;obtain⟨p1,q1,p2,q2,p3,q3,p4,q4,p5,q5,rfl⟩:=aX hw;obtain⟨pk,qk,rfl,ck1,ck2,kc⟩:=hk;obtain⟨an,han⟩:∃an:Nat,o.arg=an:=⟨o.arg.toNat,by omega⟩;obtain⟨pn,hpn⟩:∃pn:Nat,o.ay=pn:=⟨o.ay.toNat,by omega⟩;have HAN:Hid (o.arg=(an:Nat)/\o.ay=(pn:Nat)):=⟨han,hpn⟩;have hpl:pn<Y.gold.length:=by rw[hpn] at hp;simpa using hp
 have MB:Hid (∀b,wQ ks Y k o=b->Value.bool (wQ ks Y k o)=.bool b):=λb h=>by rw[h]
 have WH:o.what=0\/o.what=1\/o.what=2\/o.what=3:=by omega
 have MD:Hid (wQ ks Y k o=if o.what=1 then decide _ else if o.what=2 then decide _ else if o.what=3 then decide _ else true):=rfl;generalize wQ ks Y k o=ans at *;clear MB hw F ob hp kc OK han hpn;unfold KV.val bU.val;go_enter func102,ntmps102;go_upto_region 1 with fail
 have BA:Hid (Below _ w (w.alloc (Obj.cells #[int i64 Y.turn,int i64 Y.next,int i64 Y.wide,int i64 Y.high,slice p1 Y.gs.length q1,slice p2 Y.os.length q2,slice p3 Y.gold.length q3,slice p4 Y.us.length q4,slice p5 Y.qs.length q5] 29))):=aA;have BB:Hid (Below _ _ ((w.alloc (Obj.cells #[int i64 Y.turn,int i64 Y.next,int i64 Y.wide,int i64 Y.high,slice p1 Y.gs.length q1,slice p2 Y.os.length q2,slice p3 Y.gold.length q3,slice p4 Y.us.length q4,slice p5 Y.qs.length q5] 29)).alloc (Obj.cells #[.string k.b,int i64 k.n0,int i64 k.n1,int i64 k.n2,int i64 k.n3,int i64 k.n4,int i64 k.n5,int i64 k.n6,int i64 k.n7,.bool k.f,.bool k.t] 77))):=aA;have BC:Hid (Below _ _ (((w.alloc (Obj.cells #[int i64 Y.turn,int i64 Y.next,int i64 Y.wide,int i64 Y.high,slice p1 Y.gs.length q1,slice p2 Y.os.length q2,slice p3 Y.gold.length q3,slice p4 Y.us.length q4,slice p5 Y.qs.length q5] 29)).alloc (Obj.cells #[.string k.b,int i64 k.n0,int i64 k.n1,int i64 k.n2,int i64 k.n3,int i64 k.n4,int i64 k.n5,int i64 k.n6,int i64 k.n7,.bool k.f,.bool k.t] 77)).alloc (Obj.cells #[int i64 o.ay,int i64 o.unit,int i64 o.what,int i64 o.arg] 96))):=aA;have X1:=aj (((Wx.new (w:=w) _ _ _ _ _ _ _ _ _ rfl).below BB (by simp)).below BC (by simp;omega));have KC1:Hid (Kc (((w.alloc (Obj.cells #[int i64 Y.turn,int i64 Y.next,int i64 Y.wide,int i64 Y.high,slice p1 Y.gs.length q1,slice p2 Y.os.length q2,slice p3 Y.gold.length q3,slice p4 Y.us.length q4,slice p5 Y.qs.length q5] 29)).alloc (Obj.cells #[.string k.b,int i64 k.n0,int i64 k.n1,int i64 k.n2,int i64 k.n3,int i64 k.n4,int i64 k.n5,int i64 k.n6,int i64 k.n7,.bool k.f,.bool k.t] 77)).alloc (Obj.cells #[int i64 o.ay,int i64 o.unit,int i64 o.what,int i64 o.arg] 96)) ⟨w.heap.size+1,0,none⟩ k):=(qI (w:=w.alloc (Obj.cells #[int i64 Y.turn,int i64 Y.next,int i64 Y.wide,int i64 Y.high,slice p1 Y.gs.length q1,slice p2 Y.os.length q2,slice p3 Y.gold.length q3,slice p4 Y.us.length q4,slice p5 Y.qs.length q5] 29)) k (by simp)).below BC (by simp);have OC1:Hid (pJ (((w.alloc (Obj.cells #[int i64 Y.turn,int i64 Y.next,int i64 Y.wide,int i64 Y.high,slice p1 Y.gs.length q1,slice p2 Y.os.length q2,slice p3 Y.gold.length q3,slice p4 Y.us.length q4,slice p5 Y.qs.length q5] 29)).alloc (Obj.cells #[.string k.b,int i64 k.n0,int i64 k.n1,int i64 k.n2,int i64 k.n3,int i64 k.n4,int i64 k.n5,int i64 k.n6,int i64 k.n7,.bool k.f,.bool k.t] 77)).alloc (Obj.cells #[int i64 o.ay,int i64 o.unit,int i64 o.what,int i64 o.arg] 96)) ⟨w.heap.size+1+1,0,none⟩ o):=pJ.mk' (w:=(w.alloc (Obj.cells #[int i64 Y.turn,int i64 Y.next,int i64 Y.wide,int i64 Y.high,slice p1 Y.gs.length q1,slice p2 Y.os.length q2,slice p3 Y.gold.length q3,slice p4 Y.us.length q4,slice p5 Y.qs.length q5] 29)).alloc (Obj.cells #[.string k.b,int i64 k.n0,int i64 k.n1,int i64 k.n2,int i64 k.n3,int i64 k.n4,int i64 k.n5,int i64 k.n6,int i64 k.n7,.bool k.f,.bool k.t] 77)) o (by simp);have B1:=aj (BA.trans ((BB.trans (BC.mono BB.size)).mono BA.size));clear BA BB BC;generalize (((w.alloc _).alloc _).alloc _)=w1 at *;have H1:=aj (H.below B1);obtain⟨x0,x1,x2,x3,x4,x5,x6,x7,x8⟩:=X1.cells;obtain⟨k0,k1,k2,k3,k4,k5,k6,k7,k8,k9,k10⟩:=KC1.out;obtain⟨o0,o1,o2,o3⟩:=OC1.out;simp only[aO] at k1 k2 k3 k4 k5 k6 k7 k8 k9 k10 o1 o2 o3;rw[HAN.out.1] at o3;rw[HAN.out.2] at o0;clear X1 KC1 OC1;rcases WH with h|h|h|h
 ·have E:Hid (ans=true):=by have h9:=MD.out;unfold Hid;rw[h9,h,if_neg (by decide),if_neg (by decide),if_neg (by decide)]
  rw[h] at o2;clear MD h;go_wp2;go_ret;exact⟨by rw[E.out];rfl,B1⟩
 ·have E:Hid (ans=decide ((an:Int)<(Y.gs.length:Int)/\0<Fd.onto (Y.gs.getD an 0) k.f)):=by have h9:=MD.out;unfold Hid;rw[h9,h,if_pos rfl,HAN.out.1];simp only[bF]
  rw[h] at o2;obtain⟨Wn,Hn,e1,e2,G⟩:=FF.good;have GG:=aj (G);have FL:=sN H1;rw[e1,e2] at FL;have FL':=aj (FL);have gl:=G.gl;rw[e1] at x2;rw[e2] at x3;by_cases ha:an<Y.gs.length
  ·obtain⟨g,hg⟩:∃g,Y.gs[an]? =some g:=⟨_,aH ha⟩
   have ST:=aj (yQ _ Wn Hn Y.gs Y.os an g k.f w1 FL' GG (by omega) hg);have E2:Hid (ans=decide (0<Fd.onto g k.f)):=by
    unfold Hid;rw[E.out]
    congr 1
    rw[dD,hg];exact propext ⟨λh=>h.2,λh=>⟨by omega,h⟩⟩
   clear MD E h e1 e2 G FL FL' gl hg H1;generalize Fd.onto g _=st at *;go_wp2_with fail
   refine ST.mono ?_;rintro e w2 ⟨rfl,b2⟩;have B2:=aG B1 b2;clear b2 ST x0 x1 x2 x3 x4 x5 x6 x7 x8 k0 k1 k2 k3 k4 k5 k6 k7 k8 k9 k10 o0 o1 o2 o3;go_wp2;go_ret;exact⟨by rw[E2.out];rfl,B2⟩
  ·have hF:Fd.fU (Fd.fault (Wn:Nat) (Hn:Nat) Y.gs Y.os) Y.gs.length [((an:Nat):Int)]≠0:=λh0=>by
    have:=(Lc h0).2.2;omega
   obtain⟨ff,VU⟩:∃f,Fd.fU (Fd.fault (Wn:Nat) (Hn:Nat) Y.gs Y.os) Y.gs.length [((an:Nat):Int)]=f:=⟨_,rfl⟩;have ST:=aj (QD _ _ _ _ _ _ ff k.f w1 FL' VU (by rw[<-VU];exact hF));have E2:Hid (ans=false):=by
    unfold Hid;rw[E.out];exact decide_eq_false (λh=>ha (by omega))
   clear MD E h e1 e2 G FL FL' gl H1 hF VU;go_wp2_with fail
   refine ST.mono ?_;rintro e w2 ⟨rfl,b2⟩;have B2:=aG B1 b2;clear b2 ST x0 x1 x2 x3 x4 x5 x6 x7 x8 k0 k1 k2 k3 k4 k5 k6 k7 k8 k9 k10 o0 o1 o2 o3;go_wp2;go_ret;exact⟨by rw[E2.out];rfl,B2⟩
 ·have E:Hid (ans=decide ((an:Int)<(Y.os.length:Int)/\0<Y.os.getD an 0/\0<k.n7)):=by have h9:=MD.out;unfold Hid;rw[h9,h,if_neg (by decide),if_pos rfl,HAN.out.1];simp only[bF]
  rw[h] at o2;have RO:=H1.slices.2.1;obtain⟨a2,c2,e2,r1,r2,r3⟩:=RO;injection e2 with e21 e22 e23
  subst e21 e23;have OI:=Tq p2 Y.os.length q2 an;by_cases ha:an<Y.os.length
  ·obtain⟨g,hg⟩:∃g,Y.os[an]? =some g:=⟨_,aH ha⟩
   obtain⟨xo,rfl,-,hxo⟩:=r3 (by rintro hn;rw[hn] at ha;simp at ha);have co:=hxo an g hg;have OC:Hid (Calls prog 153 #[slice (some xo) Y.os.length q2,int i64 (an:Nat)] w1 λe w'=>e=.returned (.bool true)/\w'=w1):=by have:=OI w1 (by omega);rw[decide_eq_true ha] at this;exact this
   have E2:Hid (ans=decide (0<g/\0<k.n7)):=by
    unfold Hid;rw[E.out]
    congr 1
    rw[dD,hg];exact propext ⟨λh=>h.2,λh=>⟨by omega,h⟩⟩
   have hai:((an:Nat):Int)<(Y.os.length:Nat):=by omega
   clear MD E h H1 OI hg hxo r3 e22;by_cases h1:0<g
   ·by_cases h2:0<k.n7
    ·have E3:Hid (ans=true):=by unfold Hid;rw[E2.out];exact decide_eq_true ⟨h1,h2⟩
     go_wp2_with fail
     refine OC.mono ?_;rintro e w' ⟨rfl,rfl⟩;go_wp2;go_ret;exact⟨by rw[E3.out];rfl,B1⟩
    ·have E3:Hid (ans=false):=by unfold Hid;rw[E2.out];exact decide_eq_false (λh=>h2 h.2)
     have H2:=aj (decide_eq_false h2);go_wp2_with fail
     refine OC.mono ?_;rintro e w' ⟨rfl,rfl⟩;go_wp2;go_ret;exact⟨by rw[E3.out];first|rfl|(show Ending.returned (Value.bool (decide (0<k.n7)))=_;rw[H2.out]),B1⟩
   ·have E3:Hid (ans=false):=by unfold Hid;rw[E2.out];exact decide_eq_false (λh=>h1 h.1)
    have h1d:=decide_eq_false h1;go_wp2_with fail
    refine OC.mono ?_;rintro e w' ⟨rfl,rfl⟩;go_wp2;go_ret;exact⟨by rw[E3.out];rfl,B1⟩
  ·have OC:Hid (Calls prog 153 #[slice p2 Y.os.length q2,int i64 (an:Nat)] w1 λe w'=>e=.returned (.bool false)/\w'=w1):=by have:=OI w1 (by omega);rw[decide_eq_false ha] at this;exact this
   have E3:Hid (ans=false):=by unfold Hid;rw[E.out];exact decide_eq_false (λh=>ha (by omega))
   clear MD E h H1 OI r3 e22;go_wp2_with fail
   refine OC.mono ?_;rintro e w' ⟨rfl,rfl⟩;go_wp2;go_ret;exact⟨by rw[E3.out];rfl,B1⟩
 ·have E:Hid (ans=decide (k.t=true/\(an:Int)<(ks.length:Int)/\iT ks an<=Y.gold.getD pn 0/\Y.qs.length<12)):=by have h9:=MD.out;unfold Hid;rw[h9,h,if_neg (by decide),if_neg (by decide),if_pos rfl,HAN.out.1,HAN.out.2];simp only[bF]
  rw[h] at o2;have kl:=FF.kinds.1;have OI:=Nv pk ks.length qk an;have BD:Hid (∀n,Below w.heap.size w (w1.drewN n)):=λn=>⟨B1.os,B1.tape,B1.output,B1.size,B1.block⟩
  cases hkt:k.t with
  |false=>
   have E3:Hid (ans=false):=by unfold Hid;rw[E.out];exact decide_eq_false (λh=>by rw[hkt] at h;simp at h)
   rw[hkt] at k10;clear MD E h H1 OI hkt;go_upto_region 8 with fail
   go_quiet (fail);go_wp2;go_ret;exact⟨by rw[E3.out];rfl,BD _⟩
  |true=>
   rw[hkt] at k10;by_cases ha:an<ks.length
   ·obtain⟨kk,hkk⟩:∃kk,ks[an]? =some kk:=⟨_,aH ha⟩
    obtain⟨g,hg⟩:∃g,Y.gold[pn]? =some g:=⟨_,aH hpl⟩;have OC:Hid (∀W,Calls prog 154 #[slice pk ks.length qk,int i64 (an:Nat)] W λe w'=>e=.returned (.bool true)/\w'=W):=λW=>by have:=OI W (by omega);rw[decide_eq_true ha] at this;exact this
    have K1:=K.below B1;obtain⟨a',c',e',-,-,hx⟩:=K1;injection e' with e1' e2' e3'
    subst e1' e3';obtain⟨xk,rfl,-,hxk⟩:=hx (by rintro hn;rw[hn] at ha;simp at ha);have c6:=(hxk an kk hkk).c6;obtain⟨a3,c3,e3,r1,r2,r3⟩:=H1.slices.2.2.1;injection e3 with e31 e32 e33
    subst e31 e33;obtain⟨xg,rfl,-,hxg⟩:=r3 (by rintro hn;rw[hn] at hpl;simp at hpl);have cg:=hxg pn g hg;have hai:((an:Nat):Int)<(ks.length:Nat):=by omega
    have hpi:((pn:Nat):Int)<(Y.gold.length:Nat):=by omega
    have E2:Hid (ans=decide (kk.n5<=g/\Y.qs.length<12)):=by
     unfold Hid;rw[E.out]
     congr 1
     rw[dD,hg];have e9:iT ks an=kk.n5:=by unfold iT;rw[bF,hkk]
     rw[e9];exact propext ⟨λh=>h.2.2,λh=>⟨hkt,by omega,h.1,h.2⟩⟩
    clear MD E h H1 OI hkt hkk hg hxk hxg hx r3 e2' e32;by_cases h1:kk.n5<=g
    ·have h1d:=decide_eq_true h1
     by_cases h2:Y.qs.length<12
     ·have E3:Hid (ans=true):=by unfold Hid;rw[E2.out];exact decide_eq_true ⟨h1,h2⟩
      have h2i:((Y.qs.length:Nat):Int)<12:=by omega
      go_upto_region 8 with fail
      go_quiet ((go_at_call 154;exact Calls.quiet_of_same (OC _)));go_wp2;go_ret;exact⟨by rw[E3.out];rfl,BD _⟩
     ·have E3:Hid (ans=false):=by unfold Hid;rw[E2.out];exact decide_eq_false (λh=>h2 h.2)
      have h2i:¬((Y.qs.length:Nat):Int)<12:=by omega
      have h2d:=decide_eq_false h2i;go_upto_region 8 with fail
      go_quiet ((go_at_call 154;exact Calls.quiet_of_same (OC _)));go_wp2;go_ret;exact⟨by rw[E3.out];rfl,BD _⟩
    ·have h1d:=decide_eq_false h1
     have E3:Hid (ans=false):=by unfold Hid;rw[E2.out];exact decide_eq_false (λh=>h1 h.1)
     go_upto_region 8 with fail
     go_quiet ((go_at_call 154;exact Calls.quiet_of_same (OC _)));go_wp2;go_ret;exact⟨by rw[E3.out];rfl,BD _⟩
   ·have OC:Hid (∀W,Calls prog 154 #[slice pk ks.length qk,int i64 (an:Nat)] W λe w'=>e=.returned (.bool false)/\w'=W):=λW=>by have:=OI W (by omega);rw[decide_eq_false ha] at this;exact this
    have E3:Hid (ans=false):=by unfold Hid;rw[E.out];exact decide_eq_false (λh=>ha (by omega))
    clear MD E h H1 OI hkt;go_upto_region 8 with fail
    go_quiet ((go_at_call 154;exact Calls.quiet_of_same (OC _)));go_wp2;go_ret;exact⟨by rw[E3.out];rfl,BD _⟩
theorem aau(w:World)(ty:TypeId)(base:Nat)(v:Value)(ks:List bM)(hown:fB w base v ks)(b:Nat)(d:bM)(hd:nI w ⟨b,0,none⟩ d)(hl:ks.length<=1000000)(hbase:base<=w.heap.size):
  ∃g cap w',(Builtin.append_ #[27,27] ty #[v,slice (some ⟨b,0,none⟩) 1 1]).run prog w=.ok (slice (some ⟨g,0,none⟩) (ks.length+1) cap) w'/\fB w' base (slice (some ⟨g,0,none⟩) (ks.length+1) cap) (ks++[d])/\w.grownBy w' v.ownBlock/\(v.ownBlock=some g\/g=w.heap.size)/\g<w'.heap.size:=by
 obtain⟨i0,hi,hz0,hz1,hz2⟩:=info_parts yV;obtain⟨g,cap,w6,hr,ho6,hg6,ha6,hl6⟩:=run_append_lies (P:=prog) w 27 27 base 93 i0 _ 4 32 underlying27 hi hz0 hz1 hz2 rfl (by decide) v ks.length _ hown ⟨b,0,none⟩ 1 1 (bM.cs d) rfl (λj u hj=>by
  have hjn:j<4:=(aK.1 hj).1;rw[Addr.add_lit,aO]
  match j,hjn,hj with
  |0,_,hj=>simp[bM.cs] at hj;subst hj;exact hd.c0
  |1,_,hj=>simp[bM.cs] at hj;subst hj;exact hd.c1
  |2,_,hj=>simp[bM.cs] at hj;subst hj;exact hd.c2
  |3,_,hj=>simp[bM.cs] at hj;subst hj;exact hd.c3) (λu hu=>by
  simp[bM.cs] at hu;rcases hu with rfl|rfl|rfl|rfl<;>rfl) (by decide) (by unfold maxLen;omega) (by omega) hbase _ rfl
 refine⟨g,cap,w6,hr,?_,hg6,ha6,hl6⟩;unfold fB;rw[aC,fM];simpa using ho6
theorem Tv(z gg n cg b1:Nat)(c0 c1 c2 c3 c4 c5 c7:Value)(gold:List Int)(rest:Array Value)(a8:Option Addr)(h8:Nat)(qs:List bM)(k:KV)(o:bU)(pn:Nat)(g:Int)(w:World)
  (X:Wx w z c0 c1 c2 c3 c4 c5 (slice (some ⟨gg,0,none⟩) n cg) c7 (slice a8 qs.length h8)) (B:Bk w gg gold rest) (J:fB w b1 (slice a8 qs.length h8) qs) (hp:o.ay=(pn:Nat)) (hpn:pn<n) (hg:gold[pn]? =some g) (g0:0<=g/\g<=1000000) (k5:0<=k.n5/\k.n5<=1000) (k6:0<=k.n6/\k.n6<=1000) (hq:qs.length<=12)
  (hz:z<b1) (hgb:b1<=gg) (hb:b1<=w.heap.size) (hd:(slice a8 qs.length h8).ownBlock≠some gg):
  Calls prog 103 #[.pointer (some ⟨z,0,none⟩),k.val,o.val] w λe w'=>e=.returned (.tuple #[])/\∃a8' h8',Wx w' z c0 c1 c2 c3 c4 c5 (slice (some ⟨gg,0,none⟩) n cg) c7 (slice a8' (qs.length+1) h8')/\Bk w' gg (gold.set pn (g-k.n5)) rest/\fB w' b1 (slice a8' (qs.length+1) h8') (qs++[⟨o.ay,o.unit,o.arg,max k.n6 1⟩])/\Fr (λq=>q=z\/q=gg\/(slice a8 qs.length h8).ownBlock=some q) w w'/\((slice a8' (qs.length+1) h8').ownBlock=(slice a8 qs.length h8).ownBlock\/∃q,(slice a8' (qs.length+1) h8').ownBlock=some q/\w.heap.size<=q):=by
 have X0:=aj (X);have B0:=aj (B);have J0:=aj (J);have NN:=aj (Pz hp hg hz hgb hb hd hpn);have ggl:=B.lt;have JL:Hid (∀q,(slice a8 qs.length h8).ownBlock=some q->q<w.heap.size):=λq hq=>(J.block q hq).2
 have zl:=X.lt;have TT:∃tt,max k.n6 1=tt/\1<=tt/\tt<=1000:=⟨_,rfl,by omega,by omega⟩;obtain⟨tt,htt,tt1,tt2⟩:=TT;have HT:=aj (htt);have zg:¬z=gg:=by omega
 have zs:¬z=w.heap.size:=by omega
 have zs1:¬z=w.heap.size+1:=by omega
 have gs':¬gg=w.heap.size:=by omega
 have gs1:¬gg=w.heap.size+1:=by omega
 have pni:((pn:Nat):Int)<(n:Nat):=by omega
 rw[htt];clear X B J hp hg hd htt hz hgb hb;unfold KV.val bU.val;go_enter func103,ntmps103;go_upto_region 1 with fail
 have BA:Hid (Below _ w (w.alloc (Obj.cells #[.string k.b,int i64 k.n0,int i64 k.n1,int i64 k.n2,int i64 k.n3,int i64 k.n4,int i64 k.n5,int i64 k.n6,int i64 k.n7,.bool k.f,.bool k.t] 77))):=aA;have BB:Hid (Below _ _ ((w.alloc (Obj.cells #[.string k.b,int i64 k.n0,int i64 k.n1,int i64 k.n2,int i64 k.n3,int i64 k.n4,int i64 k.n5,int i64 k.n6,int i64 k.n7,.bool k.f,.bool k.t] 77)).alloc (Obj.cells #[int i64 o.ay,int i64 o.unit,int i64 o.what,int i64 o.arg] 96))):=aA;have B1:=aG BA BB;have KC1:=aj ((qI (w:=w) k rfl).below BB (by simp));have OC1:Hid (pJ ((w.alloc (Obj.cells #[.string k.b,int i64 k.n0,int i64 k.n1,int i64 k.n2,int i64 k.n3,int i64 k.n4,int i64 k.n5,int i64 k.n6,int i64 k.n7,.bool k.f,.bool k.t] 77)).alloc (Obj.cells #[int i64 o.ay,int i64 o.unit,int i64 o.what,int i64 o.arg] 96)) ⟨w.heap.size+1,0,none⟩ o):=pJ.mk' (w:=w.alloc (Obj.cells #[.string k.b,int i64 k.n0,int i64 k.n1,int i64 k.n2,int i64 k.n3,int i64 k.n4,int i64 k.n5,int i64 k.n6,int i64 k.n7,.bool k.f,.bool k.t] 77)) o (by simp);clear BA BB;obtain⟨y,hy⟩:∃y,w.heap.size=y:=⟨_,rfl⟩;have HY:=aj (hy);rw[hy] at KC1 OC1 zs zs1 gs' gs1 ⊢;clear hy;generalize ((w.alloc _).alloc _)=w1 at *;have X1:=aj (X0.below B1 zl);have G1:=aj (B0.below B1);have J1:=aj (J0.below B1);obtain⟨x0,x1,x2,x3,x4,x5,x6,x7,x8⟩:=X1.cells;obtain⟨k0,k1,k2,k3,k4,k5',k6',k7',k8,k9,k10⟩:=KC1.out;obtain⟨o0,o1,o2,o3⟩:=OC1.out;simp only[aO] at k1 k2 k3 k4 k5' k6' k7' k8 k9 k10 o1 o2 o3;rw[NN.out.1] at o0;have cg':=G1.cell NN.2.1;have tg:=G1.thaw pn;have wr:IntKind.i64.wrap (g-k.n5)=g-k.n5:=by rw[IntKind.wrap_i64];omega
 clear X0 B0 J0;go_region;have KZ:Hid (Kp gg w1 (w1.setCell ⟨gg,pn,none⟩ (int i64 (g-k.n5))).drew):=(Kp.set _ _ _).trans (Kp.of aB.drew);have G2:Hid (Bk (w1.setCell _ _).drew gg (gold.set pn (g-k.n5)) _):=G1.set pn _ (aK.1 NN.2.1).1;clear x0 x1 x2 x3 x4 x5 x6 x7 x8 k0 k1 k2 k3 k4 k5' k6' k7' k8 k9 k10 o0 o1 o2 o3 cg' tg wr;generalize (w1.setCell _ _).drew=w2 at *;have F2:Hid (Fr (λq=>q=gg) w1 w2):=Fr.kp KZ rfl;have X2:=aj (F2.wx X1 zg);have J2:Hid (fB w2 b1 (slice a8 qs.length h8) qs):=F2.own J1 (λq hq e=>NN.2.2.2.2.2.1 (by rw[hq,e]));have KC2:=aj (KC1.kp9 KZ (λe=>gs' e.symm));have OC2:Hid (w2.cell? ⟨y+1,0,none⟩=some (int i64 (pn:Nat))/\w2.cell? ⟨y+1,1,none⟩=some (int i64 o.unit)/\w2.cell? ⟨y+1,3,none⟩=some (int i64 o.arg)):=by
  obtain⟨q0,q1,q2,q3⟩:=OC1.out;simp only[aO] at q1 q2 q3;rw[NN.out.1] at q0;exact⟨F2.cell q0 (λe=>gs1 e.symm),F2.cell q1 (λe=>gs1 e.symm),F2.cell q3 (λe=>gs1 e.symm)⟩
 have QB:Hid (∀q,(slice a8 qs.length h8).ownBlock=some q->b1<=q/\q<y):=λq hq=>by
  refine⟨(J2.block q hq).1,?_⟩;rw[<-HY.out];exact JL q hq
 have CB:Hid (∀V,Fr (λq=>(slice a8 qs.length h8).ownBlock=some q) w2 V->(V.cell? ⟨z,8,none⟩=some (slice a8 qs.length h8)/\V.cell? ⟨y+1,0,none⟩=some (int i64 (pn:Nat))/\V.cell? ⟨y+1,1,none⟩=some (int i64 o.unit)/\V.cell? ⟨y+1,3,none⟩=some (int i64 o.arg)/\V.cell? ⟨y,7,none⟩=some (int i64 k.n6))):=λV hV=>by
  have hy1:¬(slice a8 qs.length h8).ownBlock=some (y+1):=λe=>by have:=(QB _ e).2;omega
  have hy0:¬(slice a8 qs.length h8).ownBlock=some y:=λe=>by have:=(QB _ e).2;omega
  have hzq:¬(slice a8 qs.length h8).ownBlock=some z:=λe=>by have:=(QB _ e).1;have:=NN.out.2.2.1;omega
  obtain⟨-,-,-,-,-,-,-,-,x8⟩:=X2.cells;have c7:=KC2.c7;simp only[aO] at c7;exact⟨hV.cell x8 hzq,hV.cell OC2.1 hy1,hV.cell OC2.2.1 hy1,hV.cell OC2.2.2 hy1,hV.cell c7 hy0⟩
 go_upto_region 2 with fail
 refine aV [(true,0),(true,1),(true,2),(true,3),(true,4),(true,5),(true,6),(true,7),(true,8),(true,9),(true,10),(true,11),(true,12),(true,13),(true,14),(false,15),(false,16),(true,17),(true,18)] [(false,19)] (λV=>V.cell? _=some _/\V.cell? _=some _/\V.cell? _=some _/\V.cell? _=some (int i64 o.arg)/\V.cell? ⟨y,7,none⟩=some (int i64 k.n6)) (by kernel_rfl) (by kernel_rfl) (by kernel_rfl) (by decide+kernel) (by decide+kernel) (CB _ (Fr.below aB.drew)) ?_;have D3:Hid (Below w2.heap.size w2 {w2 with drawn:=w2.drawn+1}):=aB.drew;generalize ({w2 with drawn:=w2.drawn+1}:World)=w3 at *;refine au rfl (.pointer (some ⟨z,0,none⟩)) (by go_simp) (λV hV=>by go_simp) ?_;go_simp;refine au rfl (.pointer (some ⟨z,0,none⟩)) (by go_simp) (λV hV=>by go_simp) ?_;go_simp;refine au rfl (.pointer (some ⟨z,0,none⟩)) (by go_simp) (λV hV=>by go_simp) ?_;go_simp;refine au rfl (.pointer (some ⟨z,8,none⟩)) (by go_simp) (λV hV=>by go_simp) ?_;go_simp;refine au rfl (slice a8 qs.length h8) (by go_simp) (λV hV=>by obtain⟨d1,d2,d3,d4,d5⟩:=hV;go_simp) ?_;go_simp;refine au rfl (.pointer (some ⟨y+1,0,none⟩)) (by go_simp) (λV hV=>by go_simp) ?_;go_simp;refine au rfl (int i64 (pn:Nat)) (by go_simp) (λV hV=>by obtain⟨d1,d2,d3,d4,d5⟩:=hV;go_simp) ?_;go_simp;refine au rfl (.pointer (some ⟨y+1,1,none⟩)) (by go_simp) (λV hV=>by go_simp) ?_;go_simp;refine au rfl (int i64 o.unit) (by go_simp) (λV hV=>by obtain⟨d1,d2,d3,d4,d5⟩:=hV;go_simp) ?_;go_simp;refine au rfl (.pointer (some ⟨y+1,3,none⟩)) (by go_simp) (λV hV=>by go_simp) ?_;go_simp;refine au rfl (int i64 o.arg) (by go_simp) (λV hV=>by obtain⟨d1,d2,d3,d4,d5⟩:=hV;go_simp) ?_;go_simp;refine au rfl (.pointer (some ⟨y,7,none⟩)) (by go_simp) (λV hV=>by go_simp) ?_;go_simp;refine au rfl (int i64 k.n6) (by go_simp) (λV hV=>by obtain⟨d1,d2,d3,d4,d5⟩:=hV;go_simp) ?_;go_simp;refine au rfl (int i64 tt) (by go_simp) (λV hV=>by have h9:=HT.out;first|(go_simp;done)|(go_simp;rw[h9])|(simp[h9];go_simp)) ?_;go_simp;refine au rfl (.agg #[int i64 (pn:Nat),int i64 o.unit,int i64 o.arg,int i64 tt]) (by go_simp) (λV hV=>by go_simp) ?_;go_simp;have BA:Hid (Below _ w3 (w3.alloc (Obj.cells #[int i64 (pn:Nat),int i64 o.unit,int i64 o.arg,int i64 tt] 93))):=aA;have EC:Hid (nI (w3.alloc (Obj.cells #[.int _ (pn:Nat),.int _ o.unit,.int _ o.arg,.int _ tt] 93)) _ _):=nI.mk' ⟨(pn:Nat),o.unit,o.arg,tt⟩ rfl;refine fF rfl (slice (some ⟨w3.heap.size,0,none⟩) 1 1) (w3.alloc (Obj.cells #[int i64 (pn:Nat),int i64 o.unit,int i64 o.arg,int i64 tt] 93)) (by go_simp) (by go_simp) (CB _ (Fr.below (D3.trans (BA.mono D3.size)))) ?_;go_simp;generalize (w3.alloc _)=w4 at *;have D4:=aG D3 BA;have J4:=aj (J2.below D4);have S4:Hid (b1<=w4.heap.size/\w.heap.size<=w4.heap.size):=by have h1:=D4.size;have h2:=F2.size;have h3:=B1.size;have h4:=NN.out.2.2.2.2.1;exact⟨by omega,by omega⟩
 obtain⟨gq,gc,w5,hr,ho5,hg5,hw5,-⟩:=aau w4 27 b1 _ qs J4 _ _ EC (by omega) S4.1;have FQ:=aj ((Fr.below D4).trans (Fr.gb hg5 (λq hq=>hq)));refine fF rfl _ w5 (by go_simp) (jO _ _ _ _ rfl _ _ (by go_simp) (by go_simp) hr) (CB _ FQ) ?_;go_simp;refine au rfl (.pointer (some ⟨z,0,none⟩)) (by go_simp) (λV hV=>by go_simp) ?_;go_simp;refine au rfl (.pointer (some ⟨z,8,none⟩)) (by go_simp) (λV hV=>by go_simp) ?_;go_simp;unfold dw;have X5:=aj (FQ.wx X2 (λe=>by have:=(QB _ e).1;have:=NN.out.2.2.1;omega));have t8:=X5.thaw 8;obtain⟨-,-,-,-,-,-,-,-,x8⟩:=X5.cells;have KX:Hid (Kp z w5 (w5.setCell ⟨z,8,none⟩ (slice (some ⟨gq,0,none⟩) (qs.length+1) gc))):=Kp.set _ _ _;have X6:Hid (Wx _ z c0 c1 c2 c3 c4 c5 _ c7 (slice (some ⟨gq,0,none⟩) (qs.length+1) gc)):=X5.Lu _;have J5:=aj (ho5);have GQ:Hid ((slice (some ⟨gq,0,none⟩) (qs.length+1) gc).ownBlock=(slice a8 qs.length h8).ownBlock\/∃q,(slice (some ⟨gq,0,none⟩) (qs.length+1) gc).ownBlock=some q/\w.heap.size<=q):=by
  rcases hw5 with h|h
  ·exact .inl h.symm
  ·exact .inr ⟨gq,rfl,by rw[h];exact S4.2⟩
 clear hr ho5 hg5 hw5;refine iH rfl (w5.setCell ⟨z,8,none⟩ (slice (some ⟨gq,0,none⟩) (qs.length+1) gc)) (by go_simp) (by go_simp) trivial ?_;go_simp;clear t8 x8;generalize (w5.setCell _ _)=w6 at *;unfold bC;have FA:Hid (Fr (λq=>q=z\/q=gg\/(slice a8 qs.length h8).ownBlock=some q) w w6):=(((Fr.below B1).trans (F2.mono (λq h=>.inr (.inl h)))).trans (FQ.mono (λq h=>.inr (.inr h)))).trans (Fr.kp KX (.inl rfl));have G6:Hid (Bk w6 gg (gold.set pn (g-k.n5)) rest):=by
  have h5:Bk w5 gg _ _:=(FQ.block gg G2.lt NN.2.2.2.2.2.1).trans G2;exact(KX.block gg (lt_of_block h5) (λe=>zg e.symm)).trans h5
 have J6:Hid (fB w6 b1 (slice (some ⟨gq,0,none⟩) (qs.length+1) gc) (qs++[⟨o.ay,o.unit,o.arg,tt⟩])):=by
  have h5:=J5.out;rw[<-NN.out.1] at h5;exact h5.kp KX NN.2.2.1
 go_wp2;go_end0;exact⟨rfl,_,_,X6,G6,J6,FA,GQ⟩
theorem Tz(x b:Int)(w:World):
  Calls prog 223 #[int i64 x,int i64 b] w λe w'=>e=.returned (.bool (decide (0<=x/\x<=b)))/\w'=w:=by
 by_cases h1:0<=x
 ·by_cases h2:x<=b
  ·go_enter func223,ntmps223
   go_wp2;go_ret;exact⟨by simp[h1,h2],rfl⟩
  ·go_enter func223,ntmps223
   go_wp2;go_ret;exact⟨by simp;omega,rfl⟩
 ·go_enter func223,ntmps223
  go_wp2;go_ret;exact⟨by simp;omega,rfl⟩
theorem kZ(x b:Int)(r:Bool)(h:decide (0<=x/\x<=b)=r):Hid (∀w,Calls prog 223 #[int i64 x,int i64 b] w λe w'=>e=.returned (.bool r)/\w'=w):=
 λw=>(Tz x b w).mono λe w' ⟨h',hw⟩=>⟨by rw[h',h],hw⟩
def zT(o:bU)(w:World)(e:Ending)(w':World):Prop:=∃v,e=.returned v/\Er v (Od.fault o)/\Below w.heap.size w w'
theorem vP(o:bU)(w:World):Calls prog 183 #[o.val] w (zT o w):=by
 obtain⟨p,u,n,a⟩:=o;have BB:Hid (Below _ w (w.alloc (Obj.cells #[int i64 p,int i64 u,int i64 n,int i64 a] 96))):=aA;have abt:Od.bad ⟨p,u,n,a⟩->∀w',Hid (Below w.heap.size w w')->zT ⟨p,u,n,a⟩ w (.returned (.iface 85 (int i64 1))) w':=λhb w' hB=>⟨_,rfl,by rw[Od.rQ hb];exact Er.no (by decide),hB⟩
 have B1:=aj (abt);clear abt;unfold bU.val;simp only;by_cases h1:0<=p/\p<=3
 ·have W1:=kZ p 3 true (decide_eq_true h1)
  by_cases h2:0<=u/\u<=1000000
  ·have W2:=kZ u 1000000 true (decide_eq_true h2)
   by_cases h3:0<=a/\a<=1000000
   ·have W3:=kZ a 1000000 true (decide_eq_true h3)
    by_cases h4:0<=n/\n<=3
    ·have W4:=kZ n 3 true (decide_eq_true h4)
     by_cases h5:n=0
     ·subst h5
      by_cases h6:a=0
      ·subst h6
       go_enter func183,ntmps183;go_wp2_with fail
       refine(W1 _).mono ?_;rintro e w' ⟨rfl,rfl⟩;go_wp2_with fail
       refine(W2 _).mono ?_;rintro e w' ⟨rfl,rfl⟩;go_wp2_with fail
       refine(W3 _).mono ?_;rintro e w' ⟨rfl,rfl⟩;go_wp2_with fail
       refine(W4 _).mono ?_;rintro e w' ⟨rfl,rfl⟩;go_wp2;go_ret;exact⟨_,rfl,by rw[Od.uG (by unfold Od.bad;simp only;omega)];exact Er.nil,BB⟩
      ·have h6b:=beq_eq_false_iff_ne.2 h6
       go_enter func183,ntmps183;go_wp2_with fail
       refine(W1 _).mono ?_;rintro e w' ⟨rfl,rfl⟩;go_wp2_with fail
       refine(W2 _).mono ?_;rintro e w' ⟨rfl,rfl⟩;go_wp2_with fail
       refine(W3 _).mono ?_;rintro e w' ⟨rfl,rfl⟩;go_wp2_with fail
       refine(W4 _).mono ?_;rintro e w' ⟨rfl,rfl⟩;go_wp2;go_ret;exact B1 (.inr (.inr (.inr (.inr (.inr (.inr (.inr (.inr ⟨rfl,h6⟩)))))))) _ BB
     ·have h5b:=beq_eq_false_iff_ne.2 h5
      go_enter func183,ntmps183;go_wp2_with fail
      refine(W1 _).mono ?_;rintro e w' ⟨rfl,rfl⟩;go_wp2_with fail
      refine(W2 _).mono ?_;rintro e w' ⟨rfl,rfl⟩;go_wp2_with fail
      refine(W3 _).mono ?_;rintro e w' ⟨rfl,rfl⟩;go_wp2_with fail
      refine(W4 _).mono ?_;rintro e w' ⟨rfl,rfl⟩;go_wp2;go_ret;exact⟨_,rfl,by rw[Od.uG (by unfold Od.bad;simp only;omega)];exact Er.nil,BB⟩
    ·have W4:=kZ n 3 false (decide_eq_false h4)
     go_enter func183,ntmps183;go_wp2_with fail
     refine(W1 _).mono ?_;rintro e w' ⟨rfl,rfl⟩;go_wp2_with fail
     refine(W2 _).mono ?_;rintro e w' ⟨rfl,rfl⟩;go_wp2_with fail
     refine(W3 _).mono ?_;rintro e w' ⟨rfl,rfl⟩;go_wp2_with fail
     refine(W4 _).mono ?_;rintro e w' ⟨rfl,rfl⟩;go_wp2;go_ret;exact B1 (by unfold Od.bad;simp only;omega) _ BB
   ·have W3:=kZ a 1000000 false (decide_eq_false h3)
    go_enter func183,ntmps183;go_wp2_with fail
    refine(W1 _).mono ?_;rintro e w' ⟨rfl,rfl⟩;go_wp2_with fail
    refine(W2 _).mono ?_;rintro e w' ⟨rfl,rfl⟩;go_wp2_with fail
    refine(W3 _).mono ?_;rintro e w' ⟨rfl,rfl⟩;go_wp2;go_ret;exact B1 (by unfold Od.bad;simp only;omega) _ BB
  ·have W2:=kZ u 1000000 false (decide_eq_false h2)
   go_enter func183,ntmps183;go_wp2_with fail
   refine(W1 _).mono ?_;rintro e w' ⟨rfl,rfl⟩;go_wp2_with fail
   refine(W2 _).mono ?_;rintro e w' ⟨rfl,rfl⟩;go_wp2;go_ret;exact B1 (by unfold Od.bad;simp only;omega) _ BB
 ·have W1:=kZ p 3 false (decide_eq_false h1)
  go_enter func183,ntmps183;go_wp2_with fail
  refine(W1 _).mono ?_;rintro e w' ⟨rfl,rfl⟩;go_wp2;go_ret;exact B1 (by unfold Od.bad;simp only;omega) _ BB
theorem XM:(prog.info? 96).map (λi=>(i.zero,i.size,i.bytes))=some (some (.agg #[int i64 0,int i64 0,int i64 0,int i64 0]),4,32):=by kernel_rfl
def bU.cs(k:bU):List Value:=[int i64 k.ay,int i64 k.unit,int i64 k.what,int i64 k.arg]
theorem zU:∀(ks:List bU) (i j:Nat) (k:bU),ks[i]? =some k->j<4->(ks.flatMap bU.cs)[i*4+j]? =k.cs[j]?
 |[],i,j,k,h,_=>by simp at h
 |x::ks,0,j,k,h,hj=>by
  simp at h;subst h;rw[List.flatMap_cons,iV (by simp[bU.cs];omega)];simp
 |x::ks,i+1,j,k,h,hj=>by
  rw[List.flatMap_cons,jy (by simp[bU.cs];omega)];have:(i+1)*4+j-(bU.cs x).length=i*4+j:=by simp[bU.cs];omega
  rw[this];exact zU ks i j k (by simpa using h) hj
def m_(w:World)(base:Nat)(v:Value)(ks:List bU):Prop:=w.ownsRow base 96 4 v ks.length (ks.flatMap bU.cs)
theorem m_.nil(w:World)(base:Nat):m_ w base (slice none 0 0) []:=World.ownsRow_nil _ _ _ _
theorem m_.below(h:m_ w base v ks)(hb:Below w.heap.size w w'):m_ w' base v ks:=
 World.ownsRow.kept h (row:=none) ⟨hb.os,hb.tape,hb.output,hb.size,λk hk _=>hb.block k hk⟩ (by cases v.ownBlock<;>simp)
theorem m_.kept{row:Option Nat}(h:m_ w base v ks)(hg:w.grownBy w' row)(hne:v.ownBlock=none\/v.ownBlock≠row):m_ w' base v ks:=World.ownsRow.kept h hg hne
theorem m_.alloc(h:m_ w base v ks)(o:Obj):m_ (w.alloc o) base v ks:=World.ownsRow.alloc h o
theorem m_.block(h:m_ w base v ks):∀k,v.ownBlock=some k->base<=k/\k<w.heap.size:=World.ownsRow.lt h
theorem m_.mono{base':Nat}(h:m_ w base v ks)(hb:base'<=base):m_ w base' v ks:=by
 refine⟨h.1,?_⟩;rcases h.2 with h1|⟨g,cap,cur,h1,h2,h3⟩
 ·exact .inl h1
 ·exact .inr ⟨g,cap,cur,h1,aJ hb h2,h3⟩
theorem m_.l(h:m_ w base v ks):Bo w v ks:=by
 rcases h.2 with⟨hv,h0⟩|⟨g,cap,cur,hv,hb,hg,h1,h2,h3,h4⟩
 ·exact⟨none,0,by rw[hv,h0],by omega,by omega,λhn=>absurd (List.length_eq_zero_iff.1 h0) hn⟩
 ·refine⟨_,cap,hv,h1,by unfold maxLen at h2;omega,λ_=>⟨_,rfl,lt_of_block hg,λi k hi=>?_⟩⟩
  have hil:=(aK.1 hi).1;have h5:w.ownsRow base 96 4 (slice (some ⟨g,0,none⟩) ks.length cap) ks.length (ks.flatMap bU.cs):=by rw[<-hv];exact h
  have hc:∀j u,j<4->k.cs[j]? =some u->w.cell? ⟨g,i*4+j,none⟩=some u:=λj u hj hu=>by
   rw[h5.cellAt (i*4+j) (by omega),zU ks i j k hi hj,hu]
  rw[Addr.add_lit,aO];exact⟨hc 0 _ (by decide) rfl,hc 1 _ (by decide) rfl,hc 2 _ (by decide) rfl,hc 3 _ (by decide) rfl⟩
theorem m_.len(h:m_ w base v ks):∃a c,v=slice a ks.length c:=by
 obtain⟨a,c,h1,-⟩:=h.l;exact⟨a,c,h1⟩
theorem TB{ops:Array Oper}{rest:List Oper}{o:Oper}{a:Act}{Q:Exit->Act->World->Prop}(w:World)(hgd:o.guard=none)(s x:Operand)
  (ho:o.op=.call {callee:=.builtin .append,args:= #[s,x],argTypes:= #[61,61]}) (base:Nat) (v:Value) (ks:List bU) (hs:a.eval s=v) (hown:m_ w base v ks)
  (b:Nat) (d:bU) (hx:a.eval x=slice (some ⟨b,0,none⟩) 1 1) (hd:pJ w ⟨b,0,none⟩ d) (hl:ks.length<=1000000) (hbase:base<=w.heap.size)
  (h:∀g cap w',m_ w' base (slice (some ⟨g,0,none⟩) (ks.length+1) cap) (ks++[d])->w.grownBy w' v.ownBlock->(v.ownBlock=some g\/g=w.heap.size)->g<w'.heap.size->wpList prog ops Q rest (a.put o.dst (slice (some ⟨g,0,none⟩) (ks.length+1) cap)) w'):
  wpList prog ops Q (o::rest) a w:=by
 obtain⟨i0,hi,hz0,hz1,hz2⟩:=info_parts XM;refine wpList_append_lies w hgd s x 61 ho _ 96 i0 _ 4 32 underlying61 hi hz0 hz1 hz2 rfl (by decide) v _ _ hs hown _ 1 1 d.cs hx rfl ?_ ?_ (by decide) (by unfold maxLen;omega) (by omega) hbase _ rfl ?_
 ·intro j u hj
  have hjn:j<4:=(aK.1 hj).1;rw[Addr.add_lit,aO]
  match j,hjn,hj with
  |0,_,hj=>simp[bU.cs] at hj;subst hj;exact hd.c0
  |1,_,hj=>simp[bU.cs] at hj;subst hj;exact hd.c1
  |2,_,hj=>simp[bU.cs] at hj;subst hj;exact hd.c2
  |3,_,hj=>simp[bU.cs] at hj;subst hj;exact hd.c3
 ·intro u hu
  simp[bU.cs] at hu;rcases hu with rfl|rfl|rfl|rfl<;>rfl
 ·intro g cap w' h1 h2 h3 h4
  refine h g _ w' ?_ h2 h3 h4;unfold m_;rw[aC,fM];simpa using h1
open Go.Proofs.YtolfphmdmpehdaaGreatDoor.So
theorem Um.mono{n':Nat}{f:Int->Int->Int}(h:Um w b n f)(hn:n<=n'):Um w b n' f:=by
 obtain⟨D,h1,h2⟩:=h;exact⟨D,h1.mono hn,h2⟩
def OcI(ks:List bU)(w:World)(j:Value)(W':World):Prop:=∃q:Nat,q<=ks.length/\j=int i64 (q:Nat)/\(∀(i:Nat) o,i<q->ks[i]? =some o->¬Od.bad o)/\Below w.heap.size w W'
theorem Ij(v:Value)(ks:List bU)(w:World)(h:Bo w v ks):
  Calls prog 144 #[v] w λe w'=>∃u,e=.returned u/\Er u (Od.faults ks)/\Below w.heap.size w w':=by
 have K0:=aj (h);obtain⟨R,hR⟩:∃R,Od.faults ks=R:=⟨_,rfl⟩;have HR:=aj (hR);rw[hR];clear hR;obtain⟨a,c,rfl,c1,c2,-⟩:=h;by_cases h8:60<ks.length
 ·have E:Hid (R=4):=by unfold Hid;rw[<-HR.out];unfold Od.faults;rw[if_pos h8]
  have h8':(60:Int)<(ks.length:Int):=by omega
  go_enter func144,ntmps144;go_wp2;go_ret;exact⟨_,rfl,by rw[E.out];exact Er.no (by decide),dU _ _⟩
 ·have h8':¬(60:Int)<(ks.length:Int):=by omega
  have LE:Hid (ks.length<=60):=aj (by omega);go_enter func144,ntmps144;go_wp2_with fail
  go_loopw [12] (λj W'=>OcI ks w j W') (λj _=>ks.length-(intOf j).toNat)
  case atStart=>exact⟨0,aZ _,rfl,λi o hi=>by omega,dU _ _⟩
  case round=>
   obtain⟨q,hq,rfl,hg,hb⟩:=hrel;have Gq:=aj (hg);have B:=aj (hb);clear hg hb;by_cases Ak:q=ks.length
   ·have E:Hid (R=0):=by
     unfold Hid;rw[<-HR.out];refine Od.xK LE λo ho=>?_
     obtain⟨i,hi⟩:=List.mem_iff_getElem?.1 ho;exact Gq i o (by rw[Ak];exact(aK.1 hi).1) hi
    subst Ak;go_wp2;go_ret;exact⟨_,rfl,by rw[E.out];exact Er.nil,B⟩
   ·have hqk:q<ks.length:=by omega
    obtain⟨k,hk⟩:∃k,ks[q]? =some k:=⟨_,aH hqk⟩;have HK:=aj (hk);have K1:=K0.below B;have CK:Hid (∀W:World,Calls prog 183 #[k.val] W (zT k W)):=λW=>vP k W
    obtain⟨F,hF⟩:∃F,Od.fault k=F:=⟨_,rfl⟩;have HF:=aj (hF);clear hF;obtain⟨a',c',e,-,-,h3⟩:=K1;injection e with e1 e2 e3
    subst e1 e3;obtain⟨x,rfl,hx1,hx⟩:=h3 (by rintro rfl;simp at hqk);have Yc:=hx q k hk;clear hx h3 e2 hk;obtain⟨q0,q1,q2,q3⟩:=Yc;unfold bU.val at CK;go_upto_region 6 with fail
    have B1:Hid (Below _ wr (wr.alloc (Obj.cells #[int i64 k.ay,int i64 k.unit,int i64 k.what,int i64 k.arg] 96))):=aA;have X1:=pJ.mk' (w:=wr) k rfl;clear q0 q1 q2 q3;generalize wr.alloc _=w1 at *;obtain⟨x0,x1,x2,x3⟩:=X1;simp only[aO] at x1 x2 x3;go_wp2_with fail
    refine Calls.mono (CK w1) ?_;rintro e w2 ⟨u,rfl,hu,b2⟩;rw[HF.out] at hu;have B3:=aj (B.trans ((B1.trans (b2.mono B1.size)).mono B.size));clear b2 CK x0 x1 x2 x3 B1;rcases hu with⟨hF,rfl⟩|⟨hF,rfl⟩
    ·have G2:Hid (∀(i:Nat) o,i<q+1->ks[i]? =some o->¬Od.bad o):=λi o hi ho=>by
      by_cases e:i=q
      ·subst e
       rw[HK.out] at ho;obtain rfl:=dQ ho;intro hbad;have:=HF.out;rw[Od.rQ hbad] at this;omega
      ·exact Gq i o (by omega) ho
     go_wp2;go_round
     case rel=>exact⟨q+1,by omega,by go_num,G2,B3⟩
     case measure=>simp[intOf];omega
    ·have E:Hid (R=F/\F≠0):=by
      have hbad:Od.bad k:=by
       rcases Classical.em (Od.bad k) with h|h
       ·exact h
       ·exact absurd (HF.symm.trans (Od.uG h)) hF
      refine⟨?_,hF⟩;rw[<-HR.out,<-HF.out,Od.rQ hbad];unfold Od.faults;rw[if_neg (by have:=LE.out;omega),if_pos (gK.2 ⟨k,aT HK.out,decide_eq_true hbad⟩)]
     clear hF;go_wp2;go_ret;exact⟨_,rfl,by rw[E.out.1];exact Er.no E.2,B3⟩
theorem vS(o:bU)(w:World):Calls prog 149 #[o.val] w λe w'=>e=.returned (.agg #[int i64 o.ay,int i64 o.unit])/\Below w.heap.size w w':=by
 unfold bU.val;go_enter func149,ntmps149;go_wp2;refine bodyPost_ret (by simp[results,results149,go_sem]) rfl ⟨rfl,?_⟩;exact aA.alloc (by simp) _
def LoI(ks:List bU)(w:World)(j:Value)(W':World):Prop:=∃q:Nat,q<=ks.length/\j=int i64 (q:Nat)/\Um W' w.heap.size q (lf ks q)/\Below w.heap.size w W'
theorem zV(v:Value)(ks:List bU)(w:World)(h:Bo w v ks)(hl:ks.length<=60)(hb:∀o∈ks,¬Od.bad o):
  Calls prog 148 #[v] w λe w'=>∃b n,e=.returned (.map (some b))/\Um w' b n (lf ks ks.length)/\w.heap.size<=b/\Below w.heap.size w w':=by
 have K0:=aj (h);have HB:=aj (hb);have LE:=aj (hl);obtain⟨a,c,rfl,c1,c2,-⟩:=h;have hmm:=@run_makeMap prog;clear hb;go_enter func148,ntmps148;go_wp2_with fail
 go_loopw [9] (λj W'=>LoI ks w j W') (λj _=>ks.length-(intOf j).toNat)
 case atStart=>exact⟨0,aZ _,rfl,XK w,aA⟩
 case round=>
  obtain⟨q,hq,rfl,hg,hb⟩:=hrel;have Gq:=aj (hg);have B:=aj (hb);clear hg hb;by_cases Ak:q=ks.length
  ·subst Ak
   go_wp2;go_ret;exact⟨_,_,rfl,Gq,aU _,B⟩
  ·have hqk:q<ks.length:=by omega
   obtain⟨k,hk⟩:∃k,ks[q]? =some k:=⟨_,aH hqk⟩;have HK:=aj (hk);have OK:=Od.Bv (HB k (aT hk));have WF:Hid ((Lit.int i64 k.ay).wf=true/\(Lit.int i64 k.unit).wf=true/\(Lit.int i64 ((q:Nat):Int)).wf=true):=⟨wf64 (by omega) (by omega),wf64 (by omega) (by omega),wf64 (by omega) (by omega)⟩;have K1:=K0.below B;obtain⟨a',c',e,-,-,h3⟩:=K1;injection e with e1 e2 e3
   subst e1 e3;obtain⟨x,rfl,hx1,hx⟩:=h3 (by rintro rfl;simp at hqk);have Yc:=hx q k hk;clear hx h3 e2 hk OK;obtain⟨q0,q1,q2,q3⟩:=Yc;go_upto_region 5 with fail
   have B1:Hid (Below _ wr (wr.alloc (Obj.cells #[int i64 k.ay,int i64 k.unit,int i64 k.what,int i64 k.arg] 96))):=aA;have X1:=pJ.mk' (w:=wr) k rfl;clear q0 q1 q2 q3;generalize wr.alloc _=w1 at *;have G1:=aj (Gq.below B1);have B2:=aG B B1;obtain⟨x0,x1,x2,x3⟩:=X1;simp only[aO] at x1 x2 x3;by_cases h3:k.what=3
   ·have NX:Hid (Um w1 w.heap.size (q+1) (lf ks (q+1))):=by unfold Hid;rw[Tn HK.out h3];exact G1.mono (by omega)
    go_wp2;go_round
    case rel=>exact⟨q+1,by omega,by go_num,NX,B2⟩
    case measure=>simp[intOf];omega
   ·have h3b:=beq_eq_false_iff_ne.2 h3
    go_wp2_with fail
    refine Calls.mono (vS k w1) ?_;rintro e w2 ⟨rfl,b2⟩;have B3:=aG B2 b2;have G2:=aj (G1.below b2);obtain⟨w3,r3,o3,g3⟩:=G2.out.put (by have:=LE.out;unfold maxLen;omega) WF.1 WF.2.1 WF.2.2;have NX:Hid (Um w3 w.heap.size (q+1) (lf ks (q+1))):=by unfold Hid;rw[Di HK.out h3];exact o3
    have B4:=aj (B3.grown g3 B3.size (λk hk=>by cases hk;exact aU _));clear b2 o3 g3 x0 x1 x2 x3;go_wp2;go_round
    case rel=>exact⟨q+1,by omega,by go_num,NX,B4⟩
    case measure=>simp[intOf];omega
end
section
open Go.RowKit
variable {g i:Nat} {ks:List bU} {o:bU} {rest:List Value} {w:World}
def Rb(w:World)(g:Nat)(ks:List bU)(rest:List Value):Prop:=w.heap[g]? =some (.cells (ks.flatMap bU.cs++rest).toArray 96 (0,0))
theorem Rb.lt(h:Rb w g ks rest):g<w.heap.size:=lt_of_block h
theorem Rb.thaw(h:Rb w g ks rest)(i:Nat):w.frozen? ⟨g,i,none⟩=false:=by
 unfold Rb at h;simp[World.frozen?,h]
theorem Rb.below{w':World}{B:Nat}(h:Rb w g ks rest)(hb:Below B w w')(hB:g<B):Rb w' g ks rest:=by
 unfold Rb at *;rw[hb.block g hB];exact h
theorem lW(ks:List bU):(ks.flatMap bU.cs).length=ks.length*4:=by
 induction ks with
 |nil=>rfl
 |cons k ks ih=>
  rw[List.flatMap_cons,aC,ih,dI];simp[bU.cs];omega
theorem Rb.at_(h:Rb w g ks rest)(ho:ks[i]? =some o){j:Nat}(hj:j<4):w.cell? ⟨g,i*4+j,none⟩=o.cs[j]? :=by
 unfold Rb at h;have hi:=(aK.1 ho).1;simp only[World.cell?,h];have e:(ks.flatMap bU.cs++rest).toArray[i*4+j]? =o.cs[j]? :=by
  rw[List.getElem?_toArray,iV (by rw[lW];omega),zU ks i j o ho hj]
 simp only[e];simp
theorem Rb.cells(h:Rb w g ks rest)(ho:ks[i]? =some o):
  w.cell? ⟨g,i*4,none⟩=some (int i64 o.ay)/\w.cell? ⟨g,i*4+1,none⟩=some (int i64 o.unit)/\w.cell? ⟨g,i*4+2,none⟩=some (int i64 o.what)/\w.cell? ⟨g,i*4+3,none⟩=some (int i64 o.arg):=
 ⟨h.at_ ho (j:=0) (by decide),h.at_ ho (j:=1) (by decide),h.at_ ho (j:=2) (by decide),h.at_ ho (j:=3) (by decide)⟩
theorem yx:∀(ks:List bU) (i:Nat) (o:bU) (rest:List Value),i<ks.length->
  (ks.set i o).flatMap bU.cs++rest=((((ks.flatMap bU.cs++rest).set (i*4) (int i64 o.ay)).set (i*4+1) (int i64 o.unit)).set (i*4+2) (int i64 o.what)).set (i*4+3) (int i64 o.arg)
 |[],i,o,rest,h=>by simp at h
 |k::ks,0,o,rest,_=>by
  simp[bU.cs]
 |k::ks,i+1,o,rest,h=>by
  have ih:=yx ks i o rest (by simpa using h);rw[show(i+1)*4=i*4+4 by omega,show i*4+4+1=i*4+1+4 by omega,show i*4+4+2=i*4+2+4 by omega,show i*4+4+3=i*4+3+4 by omega,List.set_cons_succ,List.flatMap_cons,bT,ih,List.flatMap_cons];simp[bU.cs]
theorem Rb.put(h:Rb w g ks rest)(hi:i<ks.length)(o:bU):
  Rb ((((w.setCell ⟨g,i*4,none⟩ (int i64 o.ay)).setCell ⟨g,i*4+1,none⟩ (int i64 o.unit)).setCell ⟨g,i*4+2,none⟩ (int i64 o.what)).setCell ⟨g,i*4+3,none⟩ (int i64 o.arg)) g (ks.set i o) rest:=by
 unfold Rb at *;have h1:=heap_setCell_same w g (i*4) _ _ (int i64 o.ay) h;have h2:=heap_setCell_same _ g (i*4+1) _ _ (int i64 o.unit) h1;have h3:=heap_setCell_same _ g (i*4+2) _ _ (int i64 o.what) h2;have h4:=heap_setCell_same _ g (i*4+3) _ _ (int i64 o.arg) h3;rw[h4,yx ks i o rest hi];simp
theorem lC(a b:bU)(w:World):Calls prog 151 #[a.val,b.val] w λe w'=>e=.returned (int i64 (rX a b))/\Below w.heap.size w w':=by
 obtain⟨p,u,n,x⟩:=a;obtain⟨p',u',n',x'⟩:=b;have ba:=(dU w.heap.size w).alloc aN (Obj.cells #[int i64 p,int i64 u,int i64 n,int i64 x] 96);have B0:Hid (Below w.heap.size w ((w.alloc (Obj.cells #[int i64 p,int i64 u,int i64 n,int i64 x] 96)).alloc (Obj.cells #[int i64 p',int i64 u',int i64 n',int i64 x'] 96))):=ba.alloc (by simp) _;have Oa:Hid (pJ ((w.alloc (Obj.cells #[int i64 p,int i64 u,int i64 n,int i64 x] 96)).alloc (Obj.cells #[int i64 p',int i64 u',int i64 n',int i64 x'] 96)) ⟨w.heap.size,0,none⟩ ⟨p,u,n,x⟩):=(pJ.mk' (w:=w) ⟨p,u,n,x⟩ rfl).below aA (by simp);have Ob:Hid (pJ ((w.alloc (Obj.cells #[int i64 p,int i64 u,int i64 n,int i64 x] 96)).alloc (Obj.cells #[int i64 p',int i64 u',int i64 n',int i64 x'] 96)) ⟨w.heap.size+1,0,none⟩ ⟨p',u',n',x'⟩):=pJ.mk' ⟨p',u',n',x'⟩ (by simp);clear ba;unfold bU.val;simp only;go_enter func151,ntmps151;go_upto_region 1 with fail
 generalize ((w.alloc _).alloc _)=w2 at *;have FC:Hid (∀W,Below w2.heap.size w2 W->W.cell? ⟨w.heap.size,0,none⟩=some (int i64 p)/\W.cell? ⟨w.heap.size,1,none⟩=some (int i64 u)/\W.cell? ⟨w.heap.size,2,none⟩=some (int i64 n)/\W.cell? ⟨w.heap.size,3,none⟩=some (int i64 x)/\W.cell? ⟨w.heap.size+1,0,none⟩=some (int i64 p')/\W.cell? ⟨w.heap.size+1,1,none⟩=some (int i64 u')/\W.cell? ⟨w.heap.size+1,2,none⟩=some (int i64 n')/\W.cell? ⟨w.heap.size+1,3,none⟩=some (int i64 x')):=λW hW=>by
  have a:=Oa.below hW Oa.lt;have b:=Ob.below hW Ob.lt;obtain⟨a0,a1,a2,a3⟩:=a;obtain⟨b0,b1,b2,b3⟩:=b;simp only[aO] at a0 a1 a2 a3 b0 b1 b2 b3;exact⟨a0,a1,a2,a3,b0,b1,b2,b3⟩
 have CI:Hid (∀(i j:Int) W,Below w2.heap.size w2 W->Calls prog 188 #[int i64 i,int i64 j] W λe w'=>e=.returned (int i64 (wP i j))/\Below w2.heap.size w2 w'):=λi j W hW=>(Ig i j W).mono λe w' ⟨h1,h2⟩=>⟨h1,by rw[h2];exact hW⟩
 have CR:Hid (∀(o:bU) W,Below w2.heap.size w2 W->Calls prog 189 #[.agg #[int i64 o.ay,int i64 o.unit,int i64 o.what,int i64 o.arg]] W λe w'=>e=.returned (int i64 (S_ o))/\Below w2.heap.size w2 w'):=λo W hW=>(Tc o W).mono λe w' ⟨h1,h2⟩=>⟨h1,hW.trans (h2.mono hW.size)⟩
 refine eY 15 (λW=>Below w2.heap.size w2 W) (by kernel_rfl) (by kernel_rfl) aB.drew ?_;simp only[List.take_succ_cons,List.take_zero,List.drop_succ_cons,List.drop_zero];refine aF (.pointer (some ⟨w.heap.size,0,none⟩)) (by go_simp) (λW hW=>by go_simp) ?_;go_simp;refine aF (int i64 p) (by go_simp) (λW hW=>by obtain⟨a0,-,-,-,-,-,-,-⟩:=FC W hW;go_simp) ?_;go_simp;refine aF (.pointer (some ⟨w.heap.size+1,0,none⟩)) (by go_simp) (λW hW=>by go_simp) ?_;go_simp;refine aF (int i64 p') (by go_simp) (λW hW=>by obtain⟨-,-,-,-,b0,-,-,-⟩:=FC W hW;go_simp) ?_;go_simp;refine gU _ _ _ (by go_simp) (λW hW=>by go_simp) (λW hW=>CI p p' W hW) ?_;go_simp;refine aF (.pointer (some ⟨w.heap.size,1,none⟩)) (by go_simp) (λW hW=>by go_simp) ?_;go_simp;refine aF (int i64 u) (by go_simp) (λW hW=>by obtain⟨-,a1,-,-,-,-,-,-⟩:=FC W hW;go_simp) ?_;go_simp;refine aF (.pointer (some ⟨w.heap.size+1,1,none⟩)) (by go_simp) (λW hW=>by go_simp) ?_;go_simp;refine aF (int i64 u') (by go_simp) (λW hW=>by obtain⟨-,-,-,-,-,b1,-,-⟩:=FC W hW;go_simp) ?_;go_simp;refine gU _ _ _ (by go_simp) (λW hW=>by go_simp) (λW hW=>CI u u' W hW) ?_;go_simp;refine aF (.agg #[int i64 p,int i64 u,int i64 n,int i64 x]) (by go_simp) (λW hW=>by obtain⟨a0,a1,a2,a3,-,-,-,-⟩:=FC W hW;go_simp) ?_;go_simp;refine gU _ _ _ (by go_simp) (λW hW=>by go_simp) (λW hW=>CR ⟨p,u,n,x⟩ W hW) ?_;go_simp;refine aF (Value.agg #[int i64 p',int i64 u',int i64 n',int i64 x']) (by go_simp) (λW hW=>by obtain⟨-,-,-,-,b0,b1,b2,b3⟩:=FC W hW;go_simp) ?_;go_simp;refine gU _ _ _ (by go_simp) (λW hW=>by go_simp) (λW hW=>CR ⟨p',u',n',x'⟩ W hW) ?_;go_simp;refine gU _ _ #[Value.int _ (S_ ⟨p,u,n,x⟩),.int _ (S_ ⟨p',u',n',x'⟩)] (by go_simp) (λW hW=>by go_simp) (λW hW=>CI _ _ W hW) ?_;go_simp;intro W hW;obtain⟨s1,hs1⟩:∃s,wP p p'=s:=⟨_,rfl⟩;obtain⟨s2,hs2⟩:∃s,wP u u'=s:=⟨_,rfl⟩;obtain⟨s3,hs3⟩:∃s,wP (S_ ⟨p,u,n,x⟩) (S_ ⟨p',u',n',x'⟩)=s:=⟨_,rfl⟩;have HC:Hid (rX ⟨p,u,n,x⟩ ⟨p',u',n',x'⟩=or3 s1 s2 s3):=by unfold Hid rX;rw[hs3];simp only;rw[hs1,hs2]
 rw[hs1,hs2,hs3];have OR:=aap s1 s2 s3 W.heap.size (W.alloc (Obj.cells #[int i64 s1,int i64 s2,int i64 s3] 3)) (by simp) (by simp) (by simp);have OR':=aj (OR);have BB:Hid (Below _ w (W.alloc (Obj.cells #[int i64 s1,int i64 s2,int i64 s3] 3))):=(B0.trans (hW.mono B0.size)).alloc (aJ B0.size hW.size) _;clear OR hW FC CI CR hs1 hs2 hs3;go_wp2_with fail
 refine OR'.mono ?_;rintro e w' ⟨rfl,rfl⟩;go_wp2;go_ret;exact⟨by rw[HC.out];rfl,BB⟩
end
end Go.Proofs.YtolfphmdmpehdaaGreatDoor
