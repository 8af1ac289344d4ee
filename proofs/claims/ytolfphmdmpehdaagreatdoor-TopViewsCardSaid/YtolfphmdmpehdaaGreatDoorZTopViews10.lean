/- feed.byteAt, feed.Diff. And more. -/
import Derived.Test.YtolfphmdmpehdaaGreatDoorZTopViews9
import Derived.Lib.SmallJoins
set_option linter.unusedVariables false
set_option linter.unusedSimpArgs false
set_option maxHeartbeats 16000000
set_option maxRecDepth 100000
open Go.Value (int slice)
open Go.IntKind (i64)
open Go.Obj (cells)
open Go.Proofs.Tryz
namespace Go.Proofs.YtolfphmdmpehdaaGreatDoor
section
open Go.RowKit
variable {W base c i k n:Nat} {X:WV} {ad:Option Addr} {ks:List KV} {l:List UInt8} {p:Int} {v:Value} {w:World}
theorem nC(v:Value)(l:List UInt8)(i:Nat)(w:World)(h:By w v l):
  Calls prog 70 #[v,int i64 (i:Nat)] w λe w'=>e=.returned (int i64 (Fe.mD l i))/\w'=w:=by
 obtain⟨a,c,rfl,h1,h2,h3⟩:=h;have h2':c<=9223372036854775807:=by unfold maxLen at h2;omega
 clear h2;by_cases hi:i<l.length
 ·have hi':(i:Int)<(l.length:Int):=by omega
  obtain⟨d,hd⟩:∃d,l[i]? =some d:=⟨_,aH hi⟩;have HB:Hid (Fe.mD l i=(d.toNat:Int)):=Fe.UY hd;obtain⟨x,rfl,hx,hc⟩:=h3 (by rintro rfl;simp at hi);have c1:=hc i d hd;have dl:=d.toNat_lt;have wd:IntKind.i64.wrap (d.toNat:Int)=(d.toNat:Int):=by rw[IntKind.wrap_i64];omega
  clear hc hd h3;go_enter func70,ntmps70;go_wp2;go_ret;exact⟨by rw[HB.out];rfl,rfl⟩
 ·have hi':¬(i:Int)<(l.length:Int):=by omega
  have HB:Hid (Fe.mD l i= -1):=Fe.tX (by omega);clear h3;go_enter func70,ntmps70;go_wp2;go_ret;exact⟨by rw[HB.out];rfl,rfl⟩
def DX(a b:List UInt8)(w w':World)(v r:Value):Prop:=
 ((6000<a.length\/6000<b.length)/\v=slice none 0 0/\Er r 4)\/(a.length<=6000/\b.length<=6000/\r=.nilIface/\nK w' w.heap.size v (Fe.diff a b))
theorem Va(va vb:Value)(a b:List UInt8)(w:World)(ha:By w va a)(hb:By w vb b):
  Calls prog 63 #[va,vb] w λe w'=>∃v r,e=.returned (.tuple #[v,r])/\DX a b w w' v r/\Below w.heap.size w w':=by
 have A:Hid (By w va a):=ha;have B:Hid (By w vb b):=hb;obtain⟨pa,ca,rfl,a1,a2,-⟩:=ha;obtain⟨pb,cb,rfl,b1,b2,-⟩:=hb;have a2':ca<=9223372036854775807:=by unfold maxLen at a2;omega
 have b2':cb<=9223372036854775807:=by unfold maxLen at b2;omega
 clear a2 b2;by_cases h1:6000<a.length
 ·have h1':(6000:Int)<(a.length:Int):=by omega
  have H1:Hid (6000<a.length):=h1;clear h1;go_enter func63,ntmps63;go_wp2;go_ret2;exact⟨_,_,rfl,.inl ⟨.inl H1,rfl,Er.no (by decide)⟩,dU _ _⟩
 by_cases h2:6000<b.length
 ·have h1':¬(6000:Int)<(a.length:Int):=by omega
  have h2':(6000:Int)<(b.length:Int):=by omega
  have H2:Hid (6000<b.length):=h2;clear h1 h2;go_enter func63,ntmps63;go_wp2;go_ret2;exact⟨_,_,rfl,.inl ⟨.inr H2,rfl,Er.no (by decide)⟩,dU _ _⟩
 have h1':¬(6000:Int)<(a.length:Int):=by omega
 have h2':¬(6000:Int)<(b.length:Int):=by omega
 have L:Hid (a.length<=6000/\b.length<=6000):=⟨by omega,by omega⟩;clear h1 h2;obtain⟨m,hm⟩:∃m,max a.length b.length=m:=⟨_,rfl⟩;have M:Hid (max a.length b.length=m):=hm;have hmi:(if a.length<b.length then(b.length:Int) else(a.length:Int))=(m:Int):=by split<;>omega
 have hmj:(if(a.length:Int)<(b.length:Int) then(b.length:Int) else(a.length:Int))=(m:Int):=by split<;>omega
 have hm6:m<=6000:=by omega
 clear hm;go_enter func63,ntmps63;go_wp2_with fail
 go_loopw [6,23] (λlv iv W=>∃n:Nat,n<=m/\iv=int i64 (n:Nat)/\nK W w.heap.size lv (Fe.dif a b n)/\Below w.heap.size w W) (λ_ iv _=>m-(intOf iv).toNat)
 case atStart=>exact⟨0,aZ _,rfl,nK.nil _ _,dU _ _⟩
 case round=>
 obtain⟨n,hn,rfl,ho,hb⟩:=hrel;have O:Hid (nK wr w.heap.size u6 (Fe.dif a b n)):=ho;have BW:Hid (Below w.heap.size w wr):=hb;clear ho hb;by_cases he:n=m
 case pos=>
  subst he;go_wp2;go_ret2;exact⟨_,_,rfl,.inr ⟨L.1,L.2,rfl,by unfold Fe.diff;rw[M.out];exact O⟩,BW⟩
 have hlt:n<m:=by omega
 have hlt':(n:Int)<(m:Int):=by omega
 go_wp2_with fail
 refine(nC _ a n wr (A.below BW)).mono ?_;rintro e w1 ⟨rfl,rfl⟩;go_wp2_with fail
 refine(nC _ b n _ (B.below BW)).mono ?_;rintro e w2 ⟨rfl,rfl⟩;obtain⟨x,hx⟩:∃x,Fe.mD a n=x:=⟨_,rfl⟩;obtain⟨y,hy⟩:∃y,Fe.mD b n=y:=⟨_,rfl⟩;have XY:Hid (Fe.mD a n=x/\Fe.mD b n=y):=⟨hx,hy⟩;rw[hx,hy];clear hx hy;have SZ:Hid (w.heap.size<=w2.heap.size):=BW.size;by_cases hxy:x=y
 case pos=>
  have DS:Hid (Fe.dif a b (n+1)=Fe.dif a b n):=Fe.wG (by rw[XY.out.1,XY.out.2,hxy]);subst hxy;go_wp2;go_roundw
  case rel=>exact⟨n+1,by omega,by go_num,by rw[DS.out];exact O.alloc _,BW.alloc SZ _⟩
  case measure=>simp[intOf];omega
 have DS:Hid (Fe.dif a b (n+1)=Fe.dif a b n++[⟨n,x,y⟩]):=by
  unfold Hid;rw[Fe.wH (by rw[XY.out.1,XY.out.2];exact hxy),XY.out.1,XY.out.2]
 have hxb:(x==y)=false:=beq_eq_false_iff_ne.2 hxy;have DL:Hid ((Fe.dif a b n).length<=6000):=aJ (Fe.qX a b n) (by omega);go_wp2_with (at_builtin;refine U_ _ rfl _ _ rfl w.heap.size _ (Fe.dif a b n) rfl ((O.alloc _).alloc _) (w2.heap.size+1) ⟨n,x,y⟩ rfl (UR.mk' ⟨n,x,y⟩ (by simp)) (by have:=DL.out;omega) (by have:=SZ.out;simp;omega) ?_);intro g cap w5 o5 g5 a5 l5;have O5:Hid (nK w5 w.heap.size (slice (some ⟨g,0,none⟩) ((Fe.dif a b n).length+1) cap) (Fe.dif a b n++[⟨n,x,y⟩])):=o5;have B5:Hid (Below w.heap.size w w5):=((BW.alloc SZ _).alloc (by have:=SZ.out;simp;omega) _).grown g5 (by have:=SZ.out;simp;omega) (λk hk=>(O.block k hk).1);clear o5 g5 a5 l5;go_wp2;go_roundw
 case rel=>exact⟨n+1,by omega,by go_num,by rw[DS.out];exact O5,B5⟩
 case measure=>simp[intOf];omega
theorem Ad{α:Type}{p:α->Bool}:∀(l:List α) (i:Nat) (x:α),(l.filter p)[i]? =some x->∃j,l[j]? =some x/\p x=true/\(l.filter p).take i=(l.take j).filter p
 |[],i,x,h=>by simp at h
 |a::l,i,x,h=>by
  cases hp:p a with
  |true=>
   rw[List.filter_cons_of_pos hp] at h ⊢;cases i with
   |zero=>
    simp at h;subst h;exact⟨0,rfl,hp,rfl⟩
   |succ i=>
    rw[List.getElem?_cons_succ] at h;obtain⟨j,h1,h2,h3⟩:=Ad l i x h;exact⟨j+1,by rw[List.getElem?_cons_succ];exact h1,h2,by rw[List.take_succ_cons,List.take_succ_cons,List.filter_cons_of_pos hp,h3]⟩
  |false=>
   have hn:¬p a=true:=by rw[hp];simp
   rw[List.filter_cons_of_neg hn] at h ⊢;obtain⟨j,h1,h2,h3⟩:=Ad l i x h;exact⟨j+1,by rw[List.getElem?_cons_succ];exact h1,h2,by rw[List.take_succ_cons,List.filter_cons_of_neg hn,h3]⟩
theorem Vb{q:Nat->Bool}{l:List Int}{o:Int}(h:(Aq q l)[i]? =some o):∃x,l[i]? =some x/\o=if q i then 0 else x:=by
 unfold Aq at h;rw[List.getElem?_mapIdx] at h;cases hl:l[i]? with
 |none=>rw[hl] at h;cases h
 |some x=>
  rw[hl] at h;exact⟨x,rfl,(dQ h).symm⟩
theorem Yu{u:aI}(h:u.ay=p):hidU ks W X p u=false:=by
 unfold hidU;rw[h];simp
theorem Oy{y:aI}(h:(dS ks W X p).us[i]? =some y):∃j,X.us[j]? =some y/\hidU ks W X p y=false/\(dS ks W X p).us.take i=(X.us.take j).filter (λu=> !hidU ks W X p u):=by
 obtain⟨j,h1,h2,h3⟩:=Ad X.us i y h;exact⟨j,h1,by simpa using h2,h3⟩
theorem qj{Wn:Nat}(h:bH ks X):Wd.aP ks (dS ks Wn X p)=0:=by
 obtain⟨Wm,Hm,e1,e2,G⟩:=h.good;refine Wd.fZ h.kinds ?_ ?_ ?_ ?_ ?_ ?_
 ·show Fd.fault X.wide X.high X.gs (Aq _ X.os)=0
  rw[e1,e2];refine Fd.eU ⟨G.w1,G.w2,G.h1,G.h2,G.gl,by rw[kD];exact G.ol,λi g o hg ho=>?_⟩;obtain⟨x,hx,rfl⟩:=Vb ho;have:=G.cell i g x hg hx;split
  ·exact⟨this.1,this.2.1,by omega,by omega,λh=>by omega⟩
  ·exact this
 ·have hn:=h.nums
  unfold Wd.b_ at hn ⊢;simp only[Bool.or_eq_false_iff] at hn ⊢;obtain⟨n1,n2,n3,n4⟩:=hn;refine⟨n1,n2,?_,?_⟩
  ·show(!decide (1<=((Aq _ X.gold).length:Int)/\((Aq _ X.gold).length:Int)<=4))=false
   rw[kD];exact n3
  ·show(Aq _ X.gold).any (Wd.off 0)=false
   rw[bK] at n4 ⊢;intro o ho;obtain⟨i,hi⟩:=List.mem_iff_getElem?.1 ho;obtain⟨x,hx,rfl⟩:=Vb hi;split
   ·decide
   ·exact n4 x (aT hx)
 ·show(X.us.filter _).length<=40
  have:=List.length_filter_le (λu=> !hidU ks Wn X p u) X.us;have:=h.ul;omega
 ·intro i y hy
  obtain⟨j,hu,hh,ht⟩:=Oy hy;obtain⟨k,f⟩:=h.fine hu;have AH:∀q∈(dS ks Wn X p).us.take i,∃j',j'<j/\X.us[j']? =some q:=λq hq=>by
   rw[ht] at hq;obtain⟨j',hj'⟩:=List.mem_iff_getElem?.1 (List.mem_filter.1 hq).1;rw[eP] at hj';split at hj'
   ·rename_i hlt;exact⟨j',hlt,hj'⟩
   ·cases hj'
  refine⟨k,f.id1,f.id2,?_,⟨f.p.1,by show y.ay<((Aq _ X.gold).length:Int);rw[kD];exact f.p.2⟩,f.k0,f.kk,f.life,f.load,f.task,f.at_,f.goal,?_,f.rest⟩
  ·show Wd.dF (dS ks Wn X p).us i _=false
   cases i with
   |zero=>rfl
   |succ i=>
    have hil:i<(dS ks Wn X p).us.length:=by have:=(aK.1 hy).1;omega
    obtain⟨q,hq⟩:∃q,(dS ks Wn X p).us[i]? =some q:=⟨_,aH hil⟩;simp only[Wd.dF,hq,decide_eq_false_iff_not];obtain⟨j',a1,a2⟩:=AH q (aT (by rw[eP,if_pos (fC _)];exact hq));have:=nS h (j-j'-1) j' q y a2 (by rw[show j'+(j-j'-1)+1=j by omega];exact hu);omega
  ·have ho:=f.opn
   unfold Wd.open_ at ho;rw[Bool.and_eq_true] at ho;show Wd.open_ X.gs ((dS ks Wn X p).us.take i) y.at_ k.f=true;unfold Wd.open_;rw[Bool.and_eq_true];refine⟨ho.1,?_⟩;rw[Bool.not_eq_true',bK];intro q hq;obtain⟨j',a1,a2⟩:=AH q hq;have h1:=ho.2;rw[Bool.not_eq_true',bK] at h1;exact h1 q (aT (by rw[eP,if_pos a1];exact a2))
 ·show(X.qs.filter _).length<=12
  have:=List.length_filter_le (λj=> !wY p j) X.qs;have:=h.ql;omega
 ·intro j hj
  obtain⟨hjm,hjo⟩:=List.mem_filter.1 hj;have hjp:j.ay=p:=by unfold wY at hjo;simpa using hjo
  have hx:=h.job hjm;cases hf:X.us.find? (λu=>u.id==j.unit) with
  |none=>
   unfold Wd.aY at hx;rw[hf] at hx;cases hx
  |some u1=>
   have hm1:=List.mem_of_find?_eq_some hf;have hi1:u1.id=j.unit:=by simpa using List.find?_some hf
   obtain⟨j1,hj1⟩:=List.mem_iff_getElem?.1 hm1;have hpl:u1.ay=p:=by
    unfold Wd.aY at hx;rw[hf] at hx;simp only at hx;cases hk:ks[u1.kind.toNat]? with
    |none=>rw[hk] at hx;cases hx
    |some k=>
     rw[hk] at hx;simp only at hx;split at hx
     ·cases hx
     ·rename_i hb
      have hb':¬(u1.ay != j.ay)=true:=λh=>hb (by rw[h];rfl)
      have:u1.ay=j.ay:=by simpa using hb'
      rw[this,hjp]
   have hmv:u1∈(dS ks Wn X p).us:=List.mem_filter.2 ⟨hm1,by rw[Yu hpl];rfl⟩;have hfs:((dS ks Wn X p).us.find? (λu=>u.id==j.unit)).isSome=true:=List.find?_isSome.2 ⟨u1,hmv,by simpa using hi1⟩;obtain⟨y0,hy0⟩:=Option.isSome_iff_exists.1 hfs;have hm0:=List.mem_of_find?_eq_some hy0;have hi0:y0.id=j.unit:=by simpa using List.find?_some hy0
   obtain⟨j0,hj0⟩:=List.mem_iff_getElem?.1 (List.mem_filter.1 hm0).1;have:=uH h hj0 hj1 (by rw[hi0,hi1]);subst this;rw[hj0] at hj1;injection hj1 with hj1
   subst hj1;unfold Wd.aY at hx ⊢;rw[hf] at hx;rw[hy0];exact hx
theorem Ob.VL(h:Ob w base v l):By w v l:=by
 rcases h.2 with⟨hv,h0⟩|⟨g,cap,cur,hv,hb,hg,h1,h2,h3,h4⟩
 ·exact⟨none,0,by rw[hv,h0],by omega,by omega,λhn=>absurd (List.length_eq_zero_iff.1 h0) hn⟩
 ·refine⟨_,cap,hv,h1,h2,λhn=>⟨_,rfl,lt_of_block hg,λi d hd=>?_⟩⟩
  have hi:i<l.length:=(aK.1 hd).1;rw[Addr.add_lit,aO];have h5:w.ownsRow base 5 1 (slice (some ⟨g,0,none⟩) l.length cap) l.length (byteCells l):=by rw[<-hv];exact h
  rw[h5.cellAt i (by omega),byteCells,fG,hd];rfl
theorem By.take(h:By w (slice ad n c) l)(hk:k<=l.length):By w (slice ad k c) (l.take k):=by
 obtain⟨a,c',e,h1,h2,h3⟩:=h;injection e with e1 e2 e3
 subst e1 e3;have hl:(l.take k).length=k:=by rw[dP];omega
 refine⟨ad,c,by rw[hl],by omega,h2,λhn=>?_⟩;obtain⟨x,e,hx,hc⟩:=h3 (by intro h;subst h;simp at hn);refine⟨x,e,hx,λi d hd=>hc i d ?_⟩;rw[eP] at hd;split at hd
 ·exact hd
 ·cases hd
theorem By.conv(h:By w (slice ad n c) l):(convert 56 9 (slice ad n c)).run prog w=.ok (.string ⟨l.toArray⟩) w:=by
 obtain⟨a,c',e,h1,h2,h3⟩:=h;injection e with e1 e2 e3
 subst e1 e2 e3;by_cases hn:l=[]
 ·subst hn
  cases ad with
  |none=>rw[show([]:List UInt8).length=0 from rfl,run_convert_bytes_string w 56 9 5 none 0 c underlying56 underlying5 underlying9];rfl
  |some a=>exact run_convert_bytes_back (P:=prog) w 56 9 5 a c [] underlying56 underlying5 underlying9 (λj hj=>by simp at hj)
 ·obtain⟨x,rfl,hx,hc⟩:=h3 hn
  exact run_convert_bytes_back (P:=prog) w 56 9 5 x c l underlying56 underlying5 underlying9 (λj hj=>hc j _ (aH hj))
theorem Ob.take(h:Ob w base (slice ad n c) l)(hk:k<=l.length):Ob w base (slice ad k c) (l.take k):=by
 have hl:(l.take k).length=k:=by rw[dP];omega
 refine⟨by rw[hl];simp[byteCells];omega,?_⟩;rw[hl];rcases h.2 with⟨h1,h2⟩|⟨g,cap,cur,h1,h2,h3,h4,h5,h6,h7⟩
 ·injection h1 with e1 e2 e3
  subst e1 e2 e3;have:k=0:=by omega
  subst this;exact .inl ⟨rfl,rfl⟩
 ·injection h1 with e1 e2 e3
  subst e1 e2 e3;refine .inr ⟨g,c,cur,rfl,h2,h3,by omega,h5,h6,?_⟩;have e:byteCells (l.take k)=(byteCells l).take k:=by simp[byteCells,List.map_take]
  rw[e,<-h7,List.take_take]
  congr 1
  omega
theorem Ob.below{w':World}(h:Ob w base v l)(hb:Below w.heap.size w w'):Ob w' base v l:=
 World.ownsRow.kept h (row:=none) ⟨hb.os,hb.tape,hb.output,hb.size,λk hk _=>hb.block k hk⟩ (by cases v.ownBlock<;>simp)
theorem Yv(w:World):Wl w (.agg #[int i64 0,int i64 0,int i64 0,int i64 0,slice none 0 0,slice none 0 0,slice none 0 0,slice none 0 0,slice none 0 0]) (⟨0,0,0,0,[],[],[],[],[]⟩:WV):=
 ⟨_,_,_,_,_,rfl,⟨none,0,rfl,aU _,by omega,λh=>absurd rfl h⟩,⟨none,0,rfl,aU _,by omega,λh=>absurd rfl h⟩,⟨none,0,rfl,aU _,by omega,λh=>absurd rfl h⟩,⟨none,0,rfl,aU _,by omega,λh=>absurd rfl h⟩,⟨none,0,rfl,aU _,by omega,λh=>absurd rfl h⟩⟩
theorem DY:Wd.VQ (⟨0,0,0,0,[],[],[],[],[]⟩:WV):=⟨λn hn=>by
 have e:n=0:=by simpa[Wd.nums] using hn
 subst e;exact dO (by omega),by decide,by decide,by decide,by decide,by decide⟩
theorem Vd(Wn:Nat)(h:bZ ks X p=0):Wd.VQ (dS ks Wn X p):=(bY (qj (p:=p) (Wn:=Wn) (bY (jf h).1))).wok
def Ve(ks:List KV)(X:WV)(p:Int)(w:World)(e:Ending)(w':World):Prop:=∃u r,e=.returned (.tuple #[u,r])/\Er r (bZ ks X p)/\(∃l,By w' u l/\(bZ ks X p=0->∃Wn:Nat,X.wide=(Wn:Nat)/\l=Wd.enc (dS ks Wn X p)))/\Below w.heap.size w w'
theorem DZ(kb pb:Nat)(vk vw:Value)(ks:List KV)(X:WV)(p:Int)(w:World)(hk:Kl w vk ks)(hb:∀k∈ks,k.b.size<=9223372036854775807)(hw:Wl w vw X)(ck:w.cell? ⟨kb,0,none⟩=some vk)(cp:w.cell? ⟨pb,0,none⟩=some (int i64 p)):
  Calls prog 62 #[vw,.pointer (some ⟨kb,0,none⟩),.pointer (some ⟨pb,0,none⟩)] w (Ve ks X p w):=by
 have K:=aj (dJ (hk) (hb));have H:=aj (hw);obtain⟨p1,q1,p2,q2,p3,q3,p4,q4,p5,q5,rfl⟩:=aX hw;obtain⟨pk,qk,rfl,-⟩:=hk;have B0:Hid (Below _ w (w.alloc (cells #[int i64 X.turn,int i64 X.next,int i64 X.wide,int i64 X.high,slice p1 X.gs.length q1,slice p2 X.os.length q2,slice p3 X.gold.length q3,slice p4 X.us.length q4,slice p5 X.qs.length q5] 29))):=aA;obtain⟨z,hz⟩:∃z,w.heap.size=z:=⟨_,rfl⟩;have X0:Hid (Bw _ z X (slice p1 X.gs.length q1) (slice p2 X.os.length q2) (slice p3 X.gold.length q3) (slice p4 X.us.length q4) (slice p5 X.qs.length q5)):=Bw.mk' X _ _ _ _ _ hz;have c1:(w.alloc (cells #[int i64 X.turn,int i64 X.next,int i64 X.wide,int i64 X.high,slice p1 X.gs.length q1,slice p2 X.os.length q2,slice p3 X.gold.length q3,slice p4 X.us.length q4,slice p5 X.qs.length q5] 29)).cell? ⟨kb,0,none⟩=some (slice pk ks.length qk):=by rw[B0.out.cell (p:=⟨kb,0,none⟩) (cell_lt ck)];exact ck
 have c2:(w.alloc (cells #[int i64 X.turn,int i64 X.next,int i64 X.wide,int i64 X.high,slice p1 X.gs.length q1,slice p2 X.os.length q2,slice p3 X.gold.length q3,slice p4 X.us.length q4,slice p5 X.qs.length q5] 29)).cell? ⟨pb,0,none⟩=some (int i64 p):=by rw[B0.out.cell (p:=⟨pb,0,none⟩) (cell_lt cp)];exact cp
 clear hb hw ck cp;go_enter func62,ntmps62;go_upto_region 1 with fail
 (try rw[hz])
 clear hz;generalize (w.alloc _)=w0 at *;obtain⟨x0,x1,x2,x3,x4,x5,x6,x7,x8⟩:=X0.out;go_wp2_with fail
 refine(wC _ _ ks X p w0 (K.out.1.below B0.out) K.out.2 (H.out.below B0.out)).mono ?_;rintro e w1 ⟨v,r,rfl,hr,hs,b1⟩;have ER:=aj (hr);have B1:=aG B0 b1;clear hr b1 c1 c2 x0 x1 x2 x3 x4 x5 x6 x7 x8 X0 B0;rcases hs with⟨hf,rfl⟩|⟨hf,Wn,jS,hwo⟩
 ·have HF:=aj (hf)
  clear hf;have BA:Hid (Below _ w1 (w1.alloc (cells #[int i64 0,int i64 0,int i64 0,int i64 0,slice none 0 0,slice none 0 0,slice none 0 0,slice none 0 0,slice none 0 0] 29))):=aA;obtain⟨y,hy⟩:∃z,w1.heap.size=z:=⟨_,rfl⟩;have Y0:Hid (Bw (w1.alloc (cells #[int i64 0,int i64 0,int i64 0,int i64 0,slice none 0 0,slice none 0 0,slice none 0 0,slice none 0 0,slice none 0 0] 29)) y _ _ _ _ _ _):=Bw.mk' (⟨0,0,0,0,[],[],[],[],[]⟩:WV) _ _ _ _ _ hy;go_upto_region 2 with fail
  (try rw[hy])
  clear hy;generalize (w1.alloc _)=w2 at *;have y0:w2.cell? _=some (int i64 0):=Y0.c0;have y1:w2.cell? _=some (int i64 0):=Y0.c1;have y2:w2.cell? _=some (int i64 0):=Y0.c2;have y3:w2.cell? _=some (int i64 0):=Y0.c3;obtain⟨-,-,-,-,y4,y5,y6,y7,y8⟩:=Y0;go_wp2_with fail
  refine(qg _ _ w2 (Yv w2) (su DY) DY.in_).mono ?_;rintro e w3 ⟨u,rfl,ho,b3⟩;have FIN:=aj (dJ (Ob.VL ho) ((B1.trans (BA.mono B1.size)).trans (b3.mono (aJ B1.size BA.size))));clear ho b3 y0 y1 y2 y3 y4 y5 y6 y7 y8;go_wp2;go_ret2;exact⟨_,_,rfl,ER,⟨_,FIN.1,λh=>absurd h HF⟩,FIN.2⟩
 ·have HF:=aj (dJ (hf) (jS))
  obtain⟨V,hV⟩:∃V,dS ks Wn X p=V:=⟨_,rfl⟩;have HV:=aj (hV);rw[hV] at hwo;have OKV:Hid (Wd.VQ V):=by have h:=Vd Wn hf;rw[hV] at h;exact h
  have LV:=aj (hwo.l);obtain⟨s1,l1,s2,l2,s3,l3,s4,l4,s5,l5,rfl⟩:=aX hwo.l;clear hf jS hV hwo;have BA:Hid (Below _ w1 (w1.alloc (cells #[int i64 V.turn,int i64 V.next,int i64 V.wide,int i64 V.high,slice s1 V.gs.length l1,slice s2 V.os.length l2,slice s3 V.gold.length l3,slice s4 V.us.length l4,slice s5 V.qs.length l5] 29))):=aA;obtain⟨y,hy⟩:∃z,w1.heap.size=z:=⟨_,rfl⟩;have Y0:Hid (Bw _ y V (slice s1 V.gs.length l1) (slice s2 V.os.length l2) (slice s3 V.gold.length l3) (slice s4 V.us.length l4) (slice s5 V.qs.length l5)):=Bw.mk' V _ _ _ _ _ hy;go_upto_region 2 with fail
  (try rw[hy])
  clear hy;generalize (w1.alloc _)=w2 at *;obtain⟨y0,y1,y2,y3,y4,y5,y6,y7,y8⟩:=Y0;go_wp2_with fail
  refine(qg _ V w2 (LV.below BA) (su OKV) OKV.in_).mono ?_;rintro e w3 ⟨u,rfl,ho,b3⟩;have FIN:=aj (dJ (Ob.VL ho) ((B1.trans (BA.mono B1.size)).trans (b3.mono (aJ B1.size BA.size))));clear ho b3 y0 y1 y2 y3 y4 y5 y6 y7 y8;go_wp2;go_ret2;exact⟨_,_,rfl,ER,⟨_,FIN.1,λ_=>⟨Wn,HF.2,by rw[HV.out]⟩⟩,FIN.2⟩
def wI(ks:List KV)(A B:WV)(p:Int)(w w':World)(v r:Value):Prop:=
 (bZ ks A p≠0/\v=slice none 0 0/\Er r (bZ ks A p))\/(bZ ks A p=0/\bZ ks B p≠0/\v=slice none 0 0/\Er r (bZ ks B p))\/
 (bZ ks A p=0/\bZ ks B p=0/\∃Wa Wb:Nat,A.wide=(Wa:Nat)/\B.wide=(Wb:Nat)/\DX (Wd.enc (dS ks Wa A p)) (Wd.enc (dS ks Wb B p)) w w' v r)
theorem Vf(vk va vb:Value)(ks:List KV)(A B:WV)(p:Int)(w:World)(hk:Kl w vk ks)(hb:∀k∈ks,k.b.size<=9223372036854775807)(ha:Wl w va A)(hbw:Wl w vb B):
  Calls prog 28 #[vk,va,vb,int i64 p] w λe w'=>∃v r,e=.returned (.tuple #[v,r])/\wI ks A B p w w' v r/\Below w.heap.size w w':=by
 have K:=aj (dJ (hk) (hb));have HA:=aj (ha);have HB:=aj (hbw);obtain⟨p1,q1,p2,q2,p3,q3,p4,q4,p5,q5,rfl⟩:=aX ha;obtain⟨s1,t1,s2,t2,s3,t3,s4,t4,s5,t5,rfl⟩:=aX hbw;obtain⟨pk,qk,rfl,-⟩:=hk;clear hb ha hbw;have b1:Below _ w (w.alloc (cells #[slice pk ks.length qk] 22)):=aA;have b2:Below _ _ ((w.alloc (cells #[slice pk ks.length qk] 22)).alloc (cells #[int i64 A.turn,int i64 A.next,int i64 A.wide,int i64 A.high,slice p1 A.gs.length q1,slice p2 A.os.length q2,slice p3 A.gold.length q3,slice p4 A.us.length q4,slice p5 A.qs.length q5] 29)):=aA;have b3:Below _ _ (((w.alloc (cells #[slice pk ks.length qk] 22)).alloc (cells #[int i64 A.turn,int i64 A.next,int i64 A.wide,int i64 A.high,slice p1 A.gs.length q1,slice p2 A.os.length q2,slice p3 A.gold.length q3,slice p4 A.us.length q4,slice p5 A.qs.length q5] 29)).alloc (cells #[int i64 B.turn,int i64 B.next,int i64 B.wide,int i64 B.high,slice s1 B.gs.length t1,slice s2 B.os.length t2,slice s3 B.gold.length t3,slice s4 B.us.length t4,slice s5 B.qs.length t5] 29)):=aA;have b4:Below _ _ ((((w.alloc (cells #[slice pk ks.length qk] 22)).alloc (cells #[int i64 A.turn,int i64 A.next,int i64 A.wide,int i64 A.high,slice p1 A.gs.length q1,slice p2 A.os.length q2,slice p3 A.gold.length q3,slice p4 A.us.length q4,slice p5 A.qs.length q5] 29)).alloc (cells #[int i64 B.turn,int i64 B.next,int i64 B.wide,int i64 B.high,slice s1 B.gs.length t1,slice s2 B.os.length t2,slice s3 B.gold.length t3,slice s4 B.us.length t4,slice s5 B.qs.length t5] 29)).alloc (cells #[int i64 p] 3)):=aA;obtain⟨z,hz⟩:∃z,w.heap.size=z:=⟨_,rfl⟩;have e1:(w.alloc (cells #[slice pk ks.length qk] 22)).heap.size=z+1:=by simp[hz]
 have e2:((w.alloc (cells #[slice pk ks.length qk] 22)).alloc (cells #[int i64 A.turn,int i64 A.next,int i64 A.wide,int i64 A.high,slice p1 A.gs.length q1,slice p2 A.os.length q2,slice p3 A.gold.length q3,slice p4 A.us.length q4,slice p5 A.qs.length q5] 29)).heap.size=z+2:=by simp[hz]
 have e3:(((w.alloc (cells #[slice pk ks.length qk] 22)).alloc (cells #[int i64 A.turn,int i64 A.next,int i64 A.wide,int i64 A.high,slice p1 A.gs.length q1,slice p2 A.os.length q2,slice p3 A.gold.length q3,slice p4 A.us.length q4,slice p5 A.qs.length q5] 29)).alloc (cells #[int i64 B.turn,int i64 B.next,int i64 B.wide,int i64 B.high,slice s1 B.gs.length t1,slice s2 B.os.length t2,slice s3 B.gold.length t3,slice s4 B.us.length t4,slice s5 B.qs.length t5] 29)).heap.size=z+3:=by simp[hz]
 have c1:(w.alloc (cells #[slice pk ks.length qk] 22)).cell? ⟨z,0,none⟩=some (slice pk ks.length qk):=by rw[<-hz];simp only[World.cell?,heap_alloc_new];rfl
 have c4:((((w.alloc (cells #[slice pk ks.length qk] 22)).alloc (cells #[int i64 A.turn,int i64 A.next,int i64 A.wide,int i64 A.high,slice p1 A.gs.length q1,slice p2 A.os.length q2,slice p3 A.gold.length q3,slice p4 A.us.length q4,slice p5 A.qs.length q5] 29)).alloc (cells #[int i64 B.turn,int i64 B.next,int i64 B.wide,int i64 B.high,slice s1 B.gs.length t1,slice s2 B.os.length t2,slice s3 B.gold.length t3,slice s4 B.us.length t4,slice s5 B.qs.length t5] 29)).alloc (cells #[int i64 p] 3)).cell? ⟨z+3,0,none⟩=some (int i64 p):=by rw[<-e3];simp only[World.cell?,heap_alloc_new];rfl
 have a2:Bw _ (z+1) A (slice p1 A.gs.length q1) (slice p2 A.os.length q2) (slice p3 A.gold.length q3) (slice p4 A.us.length q4) (slice p5 A.qs.length q5):=Bw.mk' A _ _ _ _ _ e1;have a3:Bw _ (z+2) B (slice s1 B.gs.length t1) (slice s2 B.os.length t2) (slice s3 B.gold.length t3) (slice s4 B.us.length t4) (slice s5 B.qs.length t5):=Bw.mk' B _ _ _ _ _ e2;have FR:Hid (((((w.alloc (cells #[slice pk ks.length qk] 22)).alloc (cells #[int i64 A.turn,int i64 A.next,int i64 A.wide,int i64 A.high,slice p1 A.gs.length q1,slice p2 A.os.length q2,slice p3 A.gold.length q3,slice p4 A.us.length q4,slice p5 A.qs.length q5] 29)).alloc (cells #[int i64 B.turn,int i64 B.next,int i64 B.wide,int i64 B.high,slice s1 B.gs.length t1,slice s2 B.os.length t2,slice s3 B.gold.length t3,slice s4 B.us.length t4,slice s5 B.qs.length t5] 29)).alloc (cells #[int i64 p] 3)).cell? ⟨z,0,none⟩=some (slice pk ks.length qk)/\((((w.alloc (cells #[slice pk ks.length qk] 22)).alloc (cells #[int i64 A.turn,int i64 A.next,int i64 A.wide,int i64 A.high,slice p1 A.gs.length q1,slice p2 A.os.length q2,slice p3 A.gold.length q3,slice p4 A.us.length q4,slice p5 A.qs.length q5] 29)).alloc (cells #[int i64 B.turn,int i64 B.next,int i64 B.wide,int i64 B.high,slice s1 B.gs.length t1,slice s2 B.os.length t2,slice s3 B.gold.length t3,slice s4 B.us.length t4,slice s5 B.qs.length t5] 29)).alloc (cells #[int i64 p] 3)).cell? ⟨z+3,0,none⟩=some (int i64 p)/\Bw ((((w.alloc (cells #[slice pk ks.length qk] 22)).alloc (cells #[int i64 A.turn,int i64 A.next,int i64 A.wide,int i64 A.high,slice p1 A.gs.length q1,slice p2 A.os.length q2,slice p3 A.gold.length q3,slice p4 A.us.length q4,slice p5 A.qs.length q5] 29)).alloc (cells #[int i64 B.turn,int i64 B.next,int i64 B.wide,int i64 B.high,slice s1 B.gs.length t1,slice s2 B.os.length t2,slice s3 B.gold.length t3,slice s4 B.us.length t4,slice s5 B.qs.length t5] 29)).alloc (cells #[int i64 p] 3)) (z+1) A (slice p1 A.gs.length q1) (slice p2 A.os.length q2) (slice p3 A.gold.length q3) (slice p4 A.us.length q4) (slice p5 A.qs.length q5)/\Bw ((((w.alloc (cells #[slice pk ks.length qk] 22)).alloc (cells #[int i64 A.turn,int i64 A.next,int i64 A.wide,int i64 A.high,slice p1 A.gs.length q1,slice p2 A.os.length q2,slice p3 A.gold.length q3,slice p4 A.us.length q4,slice p5 A.qs.length q5] 29)).alloc (cells #[int i64 B.turn,int i64 B.next,int i64 B.wide,int i64 B.high,slice s1 B.gs.length t1,slice s2 B.os.length t2,slice s3 B.gold.length t3,slice s4 B.us.length t4,slice s5 B.qs.length t5] 29)).alloc (cells #[int i64 p] 3)) (z+2) B (slice s1 B.gs.length t1) (slice s2 B.os.length t2) (slice s3 B.gold.length t3) (slice s4 B.us.length t4) (slice s5 B.qs.length t5)/\Below w.heap.size w ((((w.alloc (cells #[slice pk ks.length qk] 22)).alloc (cells #[int i64 A.turn,int i64 A.next,int i64 A.wide,int i64 A.high,slice p1 A.gs.length q1,slice p2 A.os.length q2,slice p3 A.gold.length q3,slice p4 A.us.length q4,slice p5 A.qs.length q5] 29)).alloc (cells #[int i64 B.turn,int i64 B.next,int i64 B.wide,int i64 B.high,slice s1 B.gs.length t1,slice s2 B.os.length t2,slice s3 B.gold.length t3,slice s4 B.us.length t4,slice s5 B.qs.length t5] 29)).alloc (cells #[int i64 p] 3))):=by
  refine⟨?_,c4,(a2.below b3 a2.lt).below b4 (by have:=a2.lt;have:=b3.size;omega),a3.below b4 a3.lt,((b1.trans (b2.mono (by omega))).trans (b3.mono (by omega))).trans (b4.mono (by omega))⟩;rw[b4.cell (p:=⟨z,0,none⟩) (by show z<_;omega),b3.cell (p:=⟨z,0,none⟩) (by show z<_;omega),b2.cell (p:=⟨z,0,none⟩) (by show z<_;omega)];exact c1
 clear b1 b2 b3 b4 e1 e2 e3 c1 c4 a2 a3;go_enter func28,ntmps28;go_upto_region 1 with fail
 (try rw[hz])
 clear hz;generalize ((((w.alloc _).alloc _).alloc _).alloc _)=w0 at *;obtain⟨x0,x1,x2,x3,x4,x5,x6,x7,x8⟩:=FR.2.2.1;go_wp2_with fail
 refine(DZ z (z+3) _ _ ks A p w0 (K.1.below FR.2.2.2.2) K.2 (HA.below FR.2.2.2.2) FR.1 FR.2.1).mono ?_;rintro e w1 ⟨u1,r1,rfl,hr,⟨la,hla,hfa⟩,hb1⟩;have B1:=aj (FR.2.2.2.2.trans (hb1.mono FR.2.2.2.2.size));have F1:Hid (w1.cell? ⟨z,0,none⟩=some (slice pk ks.length qk)/\w1.cell? ⟨z+3,0,none⟩=some (int i64 p)/\Bw w1 (z+2) B (slice s1 B.gs.length t1) (slice s2 B.os.length t2) (slice s3 B.gold.length t3) (slice s4 B.us.length t4) (slice s5 B.qs.length t5)):=⟨by rw[hb1.cell (p:=⟨z,0,none⟩) (cell_lt FR.out.1)];exact FR.1,by rw[hb1.cell (p:=⟨z+3,0,none⟩) (cell_lt FR.out.2.1)];exact FR.2.1,FR.2.2.2.1.below hb1 FR.2.2.2.1.lt⟩;have LA:=aj (dJ hla hfa);obtain⟨ua,na,rfl,-⟩:=hla;clear hb1 hfa x0 x1 x2 x3 x4 x5 x6 x7 x8 FR;rcases hr with⟨hf,rfl⟩|⟨hf,rfl⟩
 case inr=>
  have HF:=aj (hf);obtain⟨fa,hfa⟩:∃f,bZ ks A p=f:=⟨_,rfl⟩;have FA:Hid (bZ ks A p=fa/\fa≠0):=⟨hfa,by rw[<-hfa];exact hf⟩;rw[hfa];clear hf hfa;go_wp2;go_ret2;exact⟨_,_,rfl,.inl ⟨HF,rfl,by rw[FA.out.1];exact Er.no FA.2⟩,B1⟩
 have HF:=aj (hf);clear hf;obtain⟨x0,x1,x2,x3,x4,x5,x6,x7,x8⟩:=F1.2.2;go_wp2_with fail
 refine(DZ z (z+3) _ _ ks B p w1 (K.1.below B1) K.2 (HB.below B1) F1.1 F1.2.1).mono ?_;rintro e w2 ⟨u2,r2,rfl,hr,⟨lb,hlb,hfb⟩,hb2⟩;have B2:=aG B1 hb2;have LB:=aj (dJ hlb hfb);have LA2:=aj (LA.1.below hb2);obtain⟨ub,nb,rfl,-⟩:=hlb;clear hb2 hfb x0 x1 x2 x3 x4 x5 x6 x7 x8 F1;rcases hr with⟨hf,rfl⟩|⟨hf,rfl⟩
 case inr=>
  have HG:=aj (hf);obtain⟨fb,hfb⟩:∃f,bZ ks B p=f:=⟨_,rfl⟩;have FB:Hid (bZ ks B p=fb/\fb≠0):=⟨hfb,by rw[<-hfb];exact hf⟩;rw[hfb];clear hf hfb;go_wp2;go_ret2;exact⟨_,_,rfl,.inr (.inl ⟨HF,HG,rfl,by rw[FB.out.1];exact Er.no FB.2⟩),B2⟩
 have HG:=aj (hf);clear hf;go_wp2_with fail
 refine(Va _ _ la lb w2 LA2 LB.1).mono ?_;rintro e w3 ⟨v3,r3,rfl,hs,hb3⟩;have FIN:Hid (wI ks A B p w w3 v3 r3/\Below w.heap.size w w3):=by
  obtain⟨Wa,ea,rfl⟩:=LA.2 HF;obtain⟨Wb,eb,rfl⟩:=LB.2 HG;refine⟨.inr (.inr ⟨HF,HG,Wa,Wb,ea,eb,?_⟩),B2.trans (hb3.mono B2.size)⟩;rcases hs with h|⟨h1,h2,h3,h4⟩
  ·exact .inl h
  ·exact .inr ⟨h1,h2,h3,h4.mono B2.size⟩
 clear hs hb3;go_wp2;go_ret2;exact⟨_,_,rfl,FIN.1,FIN.2⟩
end
section
variable {N i n:Nat} {a b:List UInt8} {l:List gW}
namespace Fe
def Bad(c:gW):Prop:=¬(0<=c.at_/\c.at_<=5999)\/¬(-1<=c.old/\c.old<=255)\/¬(-1<=c.new/\c.new<=255)\/c.old=c.new
instance:DecidablePred Bad:=λc=>by unfold Bad;exact inferInstance
def iL(ok:gW->Bool):Int->List gW->Int
 |_,[]=>0
 |p,c::cs=>if Bad c then 1 else if c.at_<=p then 5 else if ok c=true then iL ok c.at_ cs else 7
def Fine(ok:gW->Bool):Int->List gW->Prop
 |_,[]=>True
 |p,c::cs=>¬Bad c/\p<c.at_/\ok c=true/\Fine ok c.at_ cs
theorem oN{ok:gW->Bool}:∀{l:List gW} {p:Int},iL ok p l=0↔Fine ok p l
 |[],p=>by simp[iL,Fine]
 |c::cs,p=>by
  unfold iL Fine;by_cases h1:Bad c
  ·simp[h1]
  ·by_cases h2:c.at_<=p
   ·simp[h1,h2];omega
   ·by_cases h3:ok c=true
    ·simp only[h1,h2,h3,if_false,if_true,not_false_eq_true,true_and,oN (l:=cs)]
     exact⟨λh=>⟨by omega,h⟩,λh=>h.2⟩
    ·simp[h1,h2,h3]
theorem yJ{ok:gW->Bool}{c:gW}:∀{l:List gW} {p:Int},Fine ok p l->(∀x∈l,x.at_<c.at_)->p<c.at_->¬Bad c->ok c=true->Fine ok p (l++[c])
 |[],p,_,_,h3,h4,h5=>⟨h4,h3,h5,trivial⟩
 |x::l,p,h1,h2,h3,h4,h5=>⟨h1.1,h1.2.1,h1.2.2.1,yJ h1.2.2.2 (λy hy=>h2 y (by simp[hy])) (h2 x (by simp)) h4 h5⟩
theorem qY{ok:gW->Bool}:∀{l:List gW} {p:Int},Fine ok p l->∀c∈l,¬Bad c
 |[],_,_,c,hc=>by simp at hc
 |x::l,p,h,c,hc=>by
  rcases bP.1 hc with rfl|hc
  ·exact h.1
  ·exact qY h.2.2.2 c hc
theorem wJ{ok:gW->Bool}:∀{l:List gW} {p:Int},Fine ok p l->Fine (λ_=>true) p l
 |[],_,_=>trivial
 |x::l,p,h=>⟨h.1,h.2.1,rfl,wJ h.2.2.2⟩
def kE(a:List UInt8)(c:gW):Bool:=mD a c.at_.toNat==c.old
theorem Vg{a b:List UInt8}:∀{n:Nat},∀c∈dif a b n,0<=c.at_/\c.at_<(n:Int)
 |0,c,h=>by simp[dif] at h
 |n+1,c,h=>by
  unfold dif one at h;rcases gJ.1 h with h|h
  ·have:=Vg c h
   omega
  ·split at h
   ·simp at h
   ·simp at h
    subst h;simp;omega
theorem wK{a b:List UInt8}:∀{n:Nat},n<=6000->Fine (kE a) (-1) (dif a b n)
 |0,_=>trivial
 |n+1,hn=>by
  by_cases h:mD a n=mD b n
  ·rw[wG h];exact wK (by omega)
  ·rw[wH h]
   refine yJ (wK (by omega)) (λx hx=>(Vg x hx).2) (by simp;omega) ?_ (by simp[kE]);have h1:=qh a n;have h2:=qh b n;unfold Bad;simp only;omega
theorem sD(ha:a.length<=6000)(hb:b.length<=6000):Fine (kE a) (-1) (diff a b):=wK (by omega)
def pl(a:List UInt8)(N:Nat):List Int:=(List.range N).map (mD a)
theorem jV(a:List UInt8)(N:Nat):(pl a N).length=N:=by simp[pl]
theorem IY(h:i<N):(pl a N)[i]? =some (mD a i):=by simp[pl,h]
def puts(ps:List Int)(l:List gW):List Int:=l.foldl (λq c=>q.set c.at_.toNat c.new) ps
theorem oq:∀(l:List gW) (ps:List Int),(puts ps l).length=ps.length
 |[],ps=>rfl
 |c::l,ps=>by
  show(puts (ps.set c.at_.toNat c.new) l).length=_;rw[oq l,jA]
theorem yK(ps:List Int)(l:List gW)(c:gW):puts ps (l++[c])=(puts ps l).set c.at_.toNat c.new:=by simp[puts,List.foldl_append]
def col:List Int->Nat->List UInt8->Option (List UInt8)
 |[],_,b=>some b
 |n::ps,i,b=>if n= -1 then col ps (i+1) b else if b.length<i then none else col ps (i+1) (b++[UInt8.ofNat n.toNat])
def mix(a b:List UInt8)(N n:Nat):List Int:=(List.range N).map (λi=>if i<n then mD b i else mD a i)
theorem Ae(h:i<N):(mix a b N n)[i]? =some (if i<n then mD b i else mD a i):=by simp[mix,h]
theorem Vh(h:N<=i):(mix a b N n)[i]? =none:=by
 apply List.getElem?_eq_none;simp[mix,h]
theorem D_{a b:List UInt8}{N:Nat}:∀{n:Nat},n<=N->puts (pl a N) (dif a b n)=mix a b N n
 |0,_=>by simp[dif,puts,pl,mix]
 |n+1,hn=>by
  apply List.ext_getElem?;intro i;have ih:=D_ (a:=a) (b:=b) (N:=N) (n:=n) (by omega);by_cases hi:i<N
  ·rw[Ae hi]
   by_cases h:mD a n=mD b n
   ·rw[wG h,ih,Ae hi]
    by_cases e:i=n
    ·subst e;simp[h]
    ·by_cases e2:i<n
     ·rw[if_pos e2,if_pos (by omega)]
     ·rw[if_neg e2,if_neg (by omega)]
   ·rw[wH h,yK,ih,kJ]
    simp only[bF];by_cases e:n=i
    ·subst e
     simp[mix,hi]
    ·rw[if_neg e,Ae hi]
     by_cases e2:i<n
     ·rw[if_pos e2,if_pos (by omega)]
     ·rw[if_neg e2,if_neg (by omega)]
  ·rw[Vh (by omega)]
   apply List.getElem?_eq_none;rw[oq,jV];omega
theorem Oz(ha:a.length<=N)(hb:b.length<=N):puts (pl a N) (diff a b)=pl b N:=by
 unfold diff;rw[D_ (by omega)];unfold mix pl;apply List.map_congr_left;intro i hi;by_cases h:i<max a.length b.length
 ·rw[if_pos h]
 ·rw[if_neg h,tX (by omega),tX (by omega)]
theorem yL{b:List UInt8}{N:Nat}(hb:b.length<=N):∀{n:Nat},n<=b.length->col (pl b N) 0 []=col ((pl b N).drop n) n (b.take n)
 |0,_=>by simp
 |n+1,hn=>by
  rw[yL hb (n:=n) (by omega)];have hd:b[n]? =some b[n]:=aH (by omega);have hp:n<(pl b N).length:=by rw[jV];omega
  rw[List.drop_eq_getElem_cons hp];have e:(pl b N)[n]=(b[n].toNat:Int):=by
   have:=IY (a:=b) (N:=N) (i:=n) (by omega);rw[aH hp,UY hd] at this;injection this
  rw[e,col,if_neg (by omega),if_neg (by rw[dP];omega),dM (by omega)];simp
theorem Eb{b:List UInt8}{N:Nat}:∀(m n:Nat),N-n<=m->b.length<=n->col ((pl b N).drop n) n b=some b
 |0,n,hm,hn=>by rw[List.drop_eq_nil_of_le (by rw[jV];omega)];rfl
 |m+1,n,hm,hn=>by
  by_cases h:N<=n
  ·rw[List.drop_eq_nil_of_le (by rw[jV];omega)];rfl
  ·have hp:n<(pl b N).length:=by rw[jV];omega
   rw[List.drop_eq_getElem_cons hp];have e:(pl b N)[n]= -1:=by
    have:=IY (a:=b) (N:=N) (i:=n) (by omega);rw[aH hp,tX hn] at this;injection this
   rw[e,col,if_pos rfl];exact Eb m (n+1) (by omega) (by omega)
theorem Yw(hb:b.length<=N):col (pl b N) 0 []=some b:=by
 rw[yL hb (n:=b.length) aN,rG];exact Eb _ _ aN aN
def applied(a:List UInt8)(l:List gW)(N:Nat):Option (List UInt8):=col (puts (pl a N) l) 0 []
theorem Af(ha:a.length<=N)(hb:b.length<=N):applied a (diff a b) N=some b:=by
 unfold applied;rw[Oz ha hb,Yw hb]
def chain:Int->List gW->List Int
 |_,[]=>[]
 |p,c::cs=>(c.at_-p)::(c.old+1)::(c.new+1)::chain c.at_ cs
def nums(l:List gW):List Int:=(l.length:Int)::chain 0 l
def wrap(x:Int):Int:=IntKind.i64.wrap x
def ptr(b:List UInt8)(a0:Nat):Nat->Option (List gW×Int×Nat)
 |0=>some ([],0,a0)
 |n+1=>match ptr b a0 n with
  |none=>none
  |some (l,p,a)=>match Wd.dN b a with
   |none=>none
   |some (x,a1)=>match Wd.dN b a1 with
    |none=>none
    |some (y,a2)=>match Wd.dN b a2 with
     |none=>none
     |some (z,a3)=>some (l++[⟨wrap (p+x),wrap (y-1),wrap (z-1)⟩],wrap (p+x),a3)
theorem Ec{b:List UInt8}{a0 n:Nat}(h:ptr b a0 n=none):∀m,ptr b a0 (n+m)=none
 |0=>h
 |m+1=>by
  show ptr b a0 ((n+m)+1)=none;unfold ptr;rw[Ec h m]
def unpack(b:List UInt8):Option (List gW×Nat):=match Wd.dN b 0 with
 |none=>none
 |some (m,a0)=>if 0<=m/\m<=6000 then match ptr b a0 m.toNat with
  |none=>none
  |some (l,_,a)=>if iL (λ_=>true) (-1) l=0 then some (l,a) else none
  else none
end Fe
open Go.RowKit
theorem Vj(x a b:Int)(w:World):
  Calls prog 68 #[int i64 x,int i64 a,int i64 b] w λe w'=>e=.returned (.bool (decide (a<=x/\x<=b)))/\w'=w:=by
 by_cases h1:a<=x
 ·by_cases h2:x<=b
  ·go_enter func68,ntmps68
   go_wp2;go_ret;exact⟨by simp[h1,h2],rfl⟩
  ·go_enter func68,ntmps68
   go_wp2;go_ret;exact⟨by simp;omega,rfl⟩
 ·go_enter func68,ntmps68
  go_wp2;go_ret;exact⟨by simp;omega,rfl⟩
theorem lF(x a b:Int)(r:Bool)(h:decide (a<=x/\x<=b)=r):Hid (∀w,Calls prog 68 #[int i64 x,int i64 a,int i64 b] w λe w'=>e=.returned (.bool r)/\w'=w):=
 λw=>(Vj x a b w).mono λe w' ⟨h',hw⟩=>⟨by rw[h',h],hw⟩
theorem qZ(c:gW)(w:World):Calls prog 65 #[c.val] w λe w'=>e=.returned (.bool true)/\Below w.heap.size w w':=by
 have B:Hid (Below _ w (w.alloc (cells #[int i64 c.at_,int i64 c.old,int i64 c.new] 117))):=aA;unfold gW.val;go_enter func65,ntmps65;go_wp2;go_ret;exact⟨rfl,B⟩
theorem Ed(v:Value)(a:List UInt8)(z:Nat)(c:gW)(w:World)(h:By w v a)(hz:w.cell? ⟨z,0,none⟩=some v)(hc:¬Fe.Bad c):
  Calls prog 69 #[c.val,.pointer (some ⟨z,0,none⟩)] w λe w'=>e=.returned (.bool (Fe.kE a c))/\Below w.heap.size w w':=by
 obtain⟨p,o,n⟩:=c;have hp:0<=p:=by unfold Fe.Bad at hc;simp only at hc;omega
 obtain⟨i,rfl⟩:∃i:Nat,p=(i:Nat):=⟨p.toNat,by omega⟩;have B:Hid (Below _ w (w.alloc (cells #[int i64 (i:Nat),int i64 o,int i64 n] 117))):=aA;have BY:=aj (h);have zl:=cell_lt hz;have cz:(w.alloc (cells #[int i64 (i:Nat),int i64 o,int i64 n] 117)).cell? ⟨z,0,none⟩=some v:=by rw[B.out.cell zl];exact hz
 obtain⟨ad,cap,rfl,-,-,-⟩:=h;clear hc hp hz zl;unfold gW.val;simp only;go_enter func69,ntmps69;go_upto_region 1 with fail
 have y0:(w.alloc (cells #[int i64 (i:Nat),int i64 o,int i64 n] 117)).cell? ⟨w.heap.size,0,none⟩=some (int i64 (i:Nat)):=by simp
 have y1:(w.alloc (cells #[int i64 (i:Nat),int i64 o,int i64 n] 117)).cell? ⟨w.heap.size,1,none⟩=some (int i64 o):=by simp
 have BV:=aj (BY.below B);generalize (w.alloc _)=w1 at *;obtain⟨x,hx⟩:∃x,Fe.mD a i=x:=⟨_,rfl⟩;have BT:Hid (∀W,By W _ a->Calls _ 70 #[slice ad a.length cap,int i64 _] W _):=λW hW=>by
  have:=nC _ a i W hW;rw[hx] at this;exact this
 obtain⟨r,hr⟩:∃r,(x==o)=r:=⟨_,rfl⟩;have HR:Hid (Fe.kE a ⟨(i:Nat),o,n⟩=r):=by
  unfold Hid Fe.kE;simp only[bF];rw[hx,hr]
 have BQ:Hid (∀q,Below _ w (w1.drewN q)):=λq=>⟨B.os,B.tape,B.output,B.size,B.block⟩
 clear hx;go_quiet ((go_at_call 70;exact Calls.quiet_of_same (BT _ BV)));go_wp2;go_ret;exact⟨by rw[HR.out];rfl,BQ _⟩
def chk(ok:gW->Bool)(ks:List gW):Int:=if 6000<ks.length then 4 else Fe.iL ok (-1) ks
theorem qm(K:Nat)(eK:∀args w,(callFunc K args).run prog w=.ok (.enter K args) w)(u:Value)(cs:Array Value)(ks:List gW)(ok:gW->Bool)(w:World)(hu:VK w u ks)
  (hp:∀W,Below w.heap.size w W->∀c,¬Fe.Bad c->Calls prog K (#[c.val]++cs) W λe w'=>e=.returned (.bool (ok c))/\Below W.heap.size W w'):
  Calls prog 64 #[u,.func (Fn.func K) #[] cs] w λe w'=>∃v,e=.returned v/\Er v (chk ok ks)/\Below w.heap.size w w':=by
 have U:=aj (hu);have HP:=aj (hp);obtain⟨ad,cap,rfl,c1,c2,-⟩:=hu;clear hp;by_cases hl:6000<ks.length
 ·have hl':(6000:Int)<(ks.length:Int):=by omega
  have E:Hid (chk ok ks=4):=by unfold Hid chk;rw[if_pos hl]
  clear hl;go_enter func64,ntmps64;go_wp2;go_ret;exact⟨_,rfl,by rw[E.out];exact Er.no (by decide),dU _ _⟩
 have hl':¬(6000:Int)<(ks.length:Int):=by omega
 have hl6:ks.length<=6000:=by omega
 have E:Hid (chk ok ks=Fe.iL ok (-1) ks):=by unfold Hid chk;rw[if_neg hl]
 clear hl;go_enter func64,ntmps64;go_wp2_with fail
 go_loopw [5,14] (λpv iv W=>∃(n:Nat) (p:Int),n<=ks.length/\pv=int i64 p/\iv=int i64 (n:Nat)/\Fe.iL ok (-1) ks=Fe.iL ok p (ks.drop n)/\Below w.heap.size w W) (λ_ iv _=>ks.length-(intOf iv).toNat)
 case atStart=>exact⟨0,-1,aZ _,rfl,rfl,by simp,dU _ _⟩
 case round=>
 obtain⟨n,p,hn,rfl,rfl,he,hb⟩:=hrel;have HE:=aj (he);have BW:=aj (hb);clear he hb;by_cases hne:n=ks.length
 ·have EZ:Hid (chk ok ks=0):=by
   unfold Hid;rw[E.out,HE.out,hne,List.drop_length];rfl
  subst hne;go_wp2;go_ret;exact⟨_,rfl,by rw[EZ.out];exact Er.nil,BW⟩
 have hnl:n<ks.length:=by omega
 have aaC:(n:Int)<(ks.length:Int):=by omega
 obtain⟨c,hc⟩:∃c,ks[n]? =some c:=⟨_,aH hnl⟩;have HC:Hid (ks.drop n=c::ks.drop (n+1)):=by
  unfold Hid;rw[List.drop_eq_getElem_cons hnl]
  congr 1
  rw[aH hnl] at hc;injection hc
 have EC:Hid (chk ok ks=if Fe.Bad c then 1 else if c.at_<=p then 5 else if ok c=true then Fe.iL ok c.at_ (ks.drop (n+1)) else 7):=by
  unfold Hid;rw[E.out,HE.out,HC.out];rfl
 obtain⟨a',c',e',-,-,hq⟩:=U.below BW;injection e' with e1 e2 e3
 subst e1 e3;obtain⟨x,rfl,-,hcc⟩:=hq (by rintro rfl;simp at hnl);obtain⟨d0,d1,d2⟩:=hcc n c hc;clear hq hcc hc;have SZ:=aj (BW.size);have BA:Hid (Below _ w (wr.alloc (cells #[int i64 c.at_,int i64 c.old,int i64 c.new] 117))):=BW.alloc SZ _;have CK:Hid _:=λh=>HP _ BA c h
 obtain⟨ca,co,cn⟩:=c;simp only[gW.val] at d0 d1 d2 CK BA EC ⊢;by_cases h1:0<=ca/\ca<=5999
 case neg=>
  have W1:=lF ca 0 5999 false (decide_eq_false h1);have EF:Hid (chk ok ks=1):=by unfold Hid;rw[EC.out,if_pos (.inl h1)]
  go_wp2_with fail
  refine(W1 _).mono ?_;rintro e w' ⟨rfl,rfl⟩;go_wp2;go_ret;exact⟨_,rfl,by rw[EF.out];exact Er.no (by decide),BA⟩
 have W1:=lF ca 0 5999 true (decide_eq_true h1);go_wp2_with fail
 refine(W1 _).mono ?_;rintro e w' ⟨rfl,rfl⟩;by_cases h2: -1<=co/\co<=255
 case neg=>
  have W2:=lF co (-1) 255 false (decide_eq_false h2);have EF:Hid (chk ok ks=1):=by unfold Hid;rw[EC.out,if_pos (.inr (.inl h2))]
  go_wp2_with fail
  refine(W2 _).mono ?_;rintro e w' ⟨rfl,rfl⟩;go_wp2;go_ret;exact⟨_,rfl,by rw[EF.out];exact Er.no (by decide),BA⟩
 have W2:=lF co (-1) 255 true (decide_eq_true h2);go_wp2_with fail
 refine(W2 _).mono ?_;rintro e w' ⟨rfl,rfl⟩;by_cases h3: -1<=cn/\cn<=255
 case neg=>
  have W3:=lF cn (-1) 255 false (decide_eq_false h3);have EF:Hid (chk ok ks=1):=by unfold Hid;rw[EC.out,if_pos (.inr (.inr (.inl h3)))]
  go_wp2_with fail
  refine(W3 _).mono ?_;rintro e w' ⟨rfl,rfl⟩;go_wp2;go_ret;exact⟨_,rfl,by rw[EF.out];exact Er.no (by decide),BA⟩
 have W3:=lF cn (-1) 255 true (decide_eq_true h3);go_wp2_with fail
 refine(W3 _).mono ?_;rintro e w' ⟨rfl,rfl⟩;by_cases h4:co=cn
 case pos=>
  have EF:Hid (chk ok ks=1):=by unfold Hid;rw[EC.out,if_pos (.inr (.inr (.inr h4)))]
  subst h4;go_wp2;go_ret;exact⟨_,rfl,by rw[EF.out];exact Er.no (by decide),BA⟩
 have h4b:=beq_eq_false_iff_ne.2 h4;have NB:Hid (¬Fe.Bad ⟨ca,co,cn⟩):=by
  unfold Hid Fe.Bad;simp only;rintro(h|h|h|h)
  ·exact h h1
  ·exact h h2
  ·exact h h3
  ·exact h4 h
 by_cases h5:ca<=p
 case pos=>
  have EF:Hid (chk ok ks=5):=by unfold Hid;rw[EC.out,if_neg NB.out,if_pos h5]
  go_wp2;go_ret;exact⟨_,rfl,by rw[EF.out];exact Er.no (by decide),BA⟩
 cases hok:ok ⟨ca,co,cn⟩ with
 |false=>
  have EF:Hid (chk ok ks=7):=by unfold Hid;rw[EC.out,if_neg NB.out,if_neg h5,hok];rfl
  rw[hok] at CK;clear hok;go_wp2_with fail
  refine(CK NB).mono ?_;rintro e w2 ⟨rfl,hb⟩;have B2:=aG BA hb;clear hb;go_wp2;go_ret;exact⟨_,rfl,by rw[EF.out];exact Er.no (by decide),B2⟩
 |true=>
  have EF:Hid (Fe.iL ok (-1) ks=Fe.iL ok ca (ks.drop (n+1))):=by unfold Hid;rw[<-E.out,EC.out,if_neg NB.out,if_neg h5,hok];rfl
  rw[hok] at CK;clear hok;go_wp2_with fail
  refine(CK NB).mono ?_;rintro e w2 ⟨rfl,hb⟩;have B2:=aG BA hb;have y0:w2.cell? ⟨wr.heap.size,0,none⟩=some (int i64 ca):=by
   rw[hb.cell (p:=⟨wr.heap.size,0,none⟩) (by simp)];simp
  clear hb;go_wp2;go_roundw
  case rel=>exact⟨n+1,ca,by omega,rfl,by go_num,EF,B2⟩
  case measure=>simp[intOf];omega
namespace Fe
theorem Vk(h:n<N):((pl a N).take n++List.replicate (N-n) 0).set n (mD a n)=(pl a N).take (n+1)++List.replicate (N-(n+1)) 0:=by
 have l9:((pl a N).take n).length=n:=by rw[dP,jV];omega
 rw[List.set_append_right _ _ (by omega),l9,Nat.sub_self,List.take_add_one,IY h];have:N-n=(N-(n+1))+1:=by omega
 rw[this,List.replicate_succ];simp
theorem Ee:∀{l:List gW},(∀c∈l,¬Bad c)->∀x∈puts (pl a N) l,-1<=x/\x<=255:=by
 have H:∀(l:List gW) (ps:List Int),(∀c∈l,¬Bad c)->(∀x∈ps,-1<=x/\x<=255)->∀x∈puts ps l,-1<=x/\x<=255:=by
  intro l
  induction l with
  |nil=>intro ps _ h;exact h
  |cons c l ih=>
   intro ps hl hp;refine ih (ps.set _ c.new) (λd hd=>hl d (by simp[hd])) (λx hx=>?_);rcases List.mem_or_eq_of_mem_set hx with h|rfl
   ·exact hp x h
   ·have:=hl c (by simp)
    unfold Bad at this;omega
 intro l hl;refine H l _ hl (λx hx=>?_);unfold pl at hx;obtain⟨i,-,rfl⟩:=jg.1 hx;exact qh a i
end Fe
def Ky(a:List UInt8)(l:List gW)(w w':World)(v r:Value):Prop:=
 (Fe.applied a l 6000=none/\v=slice none 0 0/\r=.iface 85 (int i64 3))\/(∃b,Fe.applied a l 6000=some b/\r=.nilIface/\Ob w' w.heap.size v b)
theorem Ef(va vl:Value)(a:List UInt8)(ks:List gW)(w:World)(ha:By w va a)(hl:VK w vl ks)(hk:ks.length<=6000)(hb:∀c∈ks,¬Fe.Bad c):
  Calls prog 71 #[va,vl] w λe w'=>∃v r,e=.returned (.tuple #[v,r])/\Ky a ks w w' v r/\Below w.heap.size w w':=by
 have A:=aj (ha);have L:=aj (hl);have NB:=aj (hb);obtain⟨pa,ca,rfl,a1,a2,-⟩:=ha;obtain⟨pl,cl,rfl,l1,l2,-⟩:=hl;have a2':ca<=9223372036854775807:=by unfold maxLen at a2;omega
 clear a2 hb;obtain⟨w1,hm,hbk,hbb,hs⟩:=Rq 6000 w (by omega);obtain⟨N,hN⟩:∃N:Nat,N=6000:=⟨_,rfl⟩;have HN:=aj (hN);have hN':(N:Int)=6000:=by omega
 rw[<-hN] at hbk;have BK:=aj (hbk);have BB:=aj (hbb);obtain⟨z,hz⟩:∃z,w.heap.size=z:=⟨_,rfl⟩;have HZ:=aj (hz);rw[hz] at BK hm;have hm':(Instr.makeSlice 23 (int i64 6000) (int i64 6000)).run _ w=.ok _ w1:=hm;clear hbk hbb hs hm hN;go_enter func71,ntmps71;go_wp2_with fail
 go_loopw [16] (λj W=>∃n:Nat,n<=N/\j=int i64 (n:Nat)/\Bk W z ((Fe.pl a N).take n++List.replicate (N-n) 0) #[]/\Below z w W) (λj _=>N-(intOf j).toNat)
 case atStart=>exact⟨0,aZ _,rfl,by simpa using BK.out,by rw[<-HZ.out];exact BB⟩
 case round=>
 obtain⟨n,hn,rfl,hb,hB⟩:=hrel;have B1:=aj (hb);have W1:=aj (hB);clear hb hB;by_cases hne:n=N
 case neg=>
  have hnl:n<N:=by omega
  have aaC:(n:Int)<6000:=by omega
  go_wp2_with fail
  refine(nC _ a n _ (A.below (by rw[HZ.out];exact W1))).mono ?_;rintro e w2 ⟨rfl,rfl⟩;have tz:=B1.thaw n;have cz:=B1.cell (i:=n) (d:=0) (by
   have l9:((Fe.pl a N).take n).length=n:=by rw[dP,Fe.jV];omega
   rw[jy (by omega),l9,Nat.sub_self,oZ,if_pos (by omega)])
  have SZ:Hid (Bk (w2.setCell ⟨z,n,none⟩ (int i64 (Fe.mD a n))) z ((Fe.pl a N).take (n+1)++List.replicate (N-(n+1)) 0) #[]):=by
   have h9:=B1.set n (Fe.mD a n) (by simp[Fe.jV];omega);rw[Fe.Vk hnl] at h9;exact h9
  have WZ:Hid (Below z w (w2.setCell ⟨z,n,none⟩ (int i64 (Fe.mD a n)))):=W1.setCell aN _;go_wp2;go_roundw
  case rel=>exact⟨n+1,by omega,by go_num,SZ,WZ⟩
  case measure=>simp[intOf];omega
 have BP:Hid (Bk wr z (Fe.pl a N) #[]):=by
  have:=B1.out;rw[hne,Nat.sub_self,List.replicate_zero,iK,List.take_of_length_le (by rw[Fe.jV];exact aU _)] at this;exact this
 have hnn:¬(n:Int)<6000:=by omega
 clear B1 BK hm';go_wp2_with fail
 go_loopw [28] (λj W=>∃m:Nat,m<=ks.length/\j=int i64 (m:Nat)/\Bk W z (Fe.puts (Fe.pl a N) (ks.take m)) #[]/\Below z w W) (λj _=>ks.length-(intOf j).toNat)
 case atStart=>exact⟨0,aZ _,rfl,by simpa[Fe.puts] using BP.out,W1.out⟩
 case round=>
 obtain⟨m,hm,rfl,hb,hB⟩:=hrel;have B1:=aj (hb);have W2:=aj (hB);clear hb hB BP;by_cases hme:m=ks.length
 case neg=>
  have hml:m<ks.length:=by omega
  have hml':(m:Int)<(ks.length:Int):=by omega
  obtain⟨c,hc⟩:∃c,ks[m]? =some c:=⟨_,aH hml⟩;have PN:Hid (Fe.puts (Fe.pl a N) (ks.take (m+1))=(Fe.puts (Fe.pl a N) (ks.take m)).set c.at_.toNat c.new):=by
   unfold Hid;rw[List.take_add_one,hc];exact Fe.yK _ _ _
  have nb:=NB c (aT hc);obtain⟨a',c',e',-,-,hq⟩:=L.below (by rw[HZ.out];exact W2);injection e' with e1 e2 e3
  subst e1 e3;obtain⟨x,rfl,-,hcc⟩:=hq (by rintro rfl;simp at hml);obtain⟨d0,d1,d2⟩:=hcc m c hc;clear hq hcc hc;obtain⟨cc,co,cn⟩:=c;unfold Fe.Bad at nb;simp only at d0 d1 d2 PN nb;obtain⟨i,rfl⟩:∃i:Nat,cc=(i:Nat):=⟨cc.toNat,by omega⟩;have hi6:(i:Int)<6000:=by omega
  have hiN:i<N:=by omega
  rw[bF] at PN;have SW:Hid (z<=wr.heap.size):=by unfold Hid;rw[<-HZ.out];exact W2.size
  obtain⟨wa,Yx⟩:∃W,wr.alloc (cells #[int i64 (i:Nat),int i64 co,int i64 cn] 117)=W:=⟨_,rfl⟩;have BA:Hid (Bk wa z (Fe.puts (Fe.pl a N) (ks.take m)) #[]):=by rw[<-Yx];exact B1.below aA
  have WA:Hid (Below z w wa):=by rw[<-Yx];exact W2.alloc SW _
  have y0:wa.cell? ⟨wr.heap.size,0,none⟩=some (int i64 (i:Nat)):=by rw[<-Yx];simp
  have y2:wa.cell? ⟨wr.heap.size,2,none⟩=some (int i64 cn):=by rw[<-Yx];simp
  have tz:=BA.thaw i;obtain⟨d,hd⟩:∃d,(Fe.puts (Fe.pl a N) (ks.take m))[i]? =some d:=⟨_,aH (by rw[Fe.oq,Fe.jV];exact hiN)⟩;have cz:=BA.cell hd;have SZ:Hid (Bk (wa.setCell ⟨z,i,none⟩ (int i64 cn)) z (Fe.puts (Fe.pl a N) (ks.take (m+1))) #[]):=by
   have h9:=BA.set i cn (by rw[Fe.oq,Fe.jV];exact hiN);rw[<-PN.out] at h9;exact h9
  have WZ:Hid (Below z w (wa.setCell ⟨z,i,none⟩ (int i64 cn))):=WA.setCell aN _;clear hd nb;go_upto_region 10 with fail
  try rw[Yx]
  clear Yx;go_wp2;go_roundw
  case rel=>exact⟨m+1,by omega,by go_num,SZ,WZ⟩
  case measure=>simp[intOf];omega
 obtain⟨ps,hps⟩:∃ps,Fe.puts (Fe.pl a N) ks=ps:=⟨_,rfl⟩;have PS:Hid (Fe.applied a ks 6000=Fe.col ps 0 []/\ps.length=N):=⟨by unfold Fe.applied;rw[<-HN.out,hps],by rw[<-hps,Fe.oq,Fe.jV]⟩;have PB:Hid (∀x∈ps,-1<=x/\x<=255):=by rw[<-hps];exact Fe.Ee NB
 have BP:Hid (Bk wr z ps #[]):=by
  have:=B1.out;rw[hme,rG,hps] at this;exact this
 subst hme;clear B1 hps;go_wp2_with fail
 go_loopw [10,41] (λbv j W=>∃(k:Nat) (b:List UInt8),k<=N/\j=int i64 (k:Nat)/\b.length<=k/\Fe.col ps 0 []=Fe.col (ps.drop k) k b/\Ob W (z+1) bv b/\Bk W z ps #[]/\Below z w W) (λ_ j _=>N-(intOf j).toNat)
 case atStart=>exact⟨0,[],aZ _,rfl,aU _,rfl,Ob.nil _ _,BP,W2⟩
 case round=>
 obtain⟨k,b,hk,rfl,hbl,abM,hob,hbk,hB⟩:=hrel;have CL:=aj (abM);have OB:=aj (hob);have B3:=aj (hbk);have W3:=aj (hB);obtain⟨bp,bc,rfl⟩:=hob.len;clear abM hob hbk hB BP;by_cases hke:k=N
 case pos=>
  have hkn:¬(k:Int)<6000:=by omega
  have CE:Hid (Fe.applied a ks 6000=some b):=by
   unfold Hid;rw[PS.out.1,CL.out,List.drop_eq_nil_of_le (by rw[PS.out.2];omega)];rfl
  go_wp2;go_ret2;refine⟨_,_,rfl,.inr ⟨b,CE,rfl,?_⟩,by first|exact W3|(rw[HZ.out];exact W3)⟩;have o9:=Go.Joins.ownsRow_le OB (Nat.le_succ z)
  first|exact o9|(rw[HZ.out];exact o9)
 have hkl:k<N:=by omega
 have hkl':(k:Int)<6000:=by omega
 obtain⟨x,hx⟩:∃x,ps[k]? =some x:=⟨_,aH (by rw[PS.out.2];exact hkl)⟩;have DR:Hid (ps.drop k=x::ps.drop (k+1)):=by
  unfold Hid;have hp:k<ps.length:=by rw[PS.out.2];exact hkl
  rw[List.drop_eq_getElem_cons hp];rw[aH hp] at hx;injection hx with hx
  rw[hx]
 have CX:Hid (Fe.col ps 0 []=if x= -1 then Fe.col (ps.drop (k+1)) (k+1) b else if b.length<k then none else Fe.col (ps.drop (k+1)) (k+1) (b++[UInt8.ofNat x.toNat])):=by
  unfold Hid;rw[CL.out,DR.out];rfl
 have xb:=PB x (aT hx);have cx:=B3.cell hx;clear hx;by_cases hx1:x= -1
 case pos=>
  have CN:Hid (Fe.col ps 0 []=Fe.col (ps.drop (k+1)) (k+1) b):=by unfold Hid;rw[CX.out,if_pos hx1]
  subst hx1;go_wp2;go_roundw
  case rel=>exact⟨k+1,b,by omega,by go_num,by omega,CN,OB,B3,W3⟩
  case measure=>simp[intOf];omega
 have hxb:=beq_eq_false_iff_ne.2 hx1;by_cases hg:b.length<k
 case pos=>
  have hg':(b.length:Int)<(k:Int):=by omega
  have CN:Hid (Fe.applied a ks 6000=none):=by unfold Hid;rw[PS.out.1,CX.out,if_neg hx1,if_pos hg]
  go_wp2;go_ret2;exact⟨_,_,rfl,.inl ⟨CN,rfl,rfl⟩,by first|exact W3|(rw[HZ.out];exact W3)⟩
 have hg':¬(b.length:Int)<(k:Int):=by omega
 have CN:Hid (Fe.col ps 0 []=Fe.col (ps.drop (k+1)) (k+1) (b++[UInt8.ofNat x.toNat])):=by unfold Hid;rw[CX.out,if_neg hx1,if_neg hg]
 have xw:IntKind.u8.wrap x=x:=by rw[IntKind.wrap_u8];omega
 have XN:Hid (x=(((UInt8.ofNat x.toNat).toNat:Nat):Int)):=by
  unfold Hid;rw[UInt8.toNat_ofNat'];omega
 have SW:Hid (z+1<=wr.heap.size):=B3.lt;go_wp2_with (at_builtin;refine wu _ rfl _ _ rfl (z+1) _ b rfl (OB.alloc _) ⟨wr.heap.size,0,none⟩ (UInt8.ofNat x.toNat) rfl (by rw[<-XN.out];simp) (by omega) (by have:=SW.out;simp;omega) ?_);intro g cap w5 o5 g5 l5;have O5:=aj (o5);have hob:∀j,(slice bp _ bc).ownBlock=some j->z+1<=j:=λj hj=>(OB.block j hj).1
 have B5:=aj ((aB.alloc SW _).grown g5 (by have:=SW.out;simp;omega) hob);have K5:=aj (B3.low B5 (by omega));have W5:=aj (W3.trans (B5.mono (by omega)));clear o5 g5 l5 hob;go_wp2;go_roundw
 case rel=>exact⟨k+1,b++[UInt8.ofNat x.toNat],by omega,by go_num,by rw[aC];simp;omega,CN,O5,K5,W5⟩
 case measure=>simp[intOf];omega
def jH(a:List UInt8)(l:List gW):Int:=if 6000<a.length then 4 else chk (Fe.kE a) l
def Kz(a:List UInt8)(l:List gW)(w w':World)(v r:Value):Prop:=
 (jH a l≠0/\v=slice none 0 0/\Er r (jH a l))\/(jH a l=0/\Fe.applied a l 6000=none/\v=slice none 0 0/\Er r 3)\/(jH a l=0/\∃b,Fe.applied a l 6000=some b/\r=.nilIface/\Ob w' w.heap.size v b)
theorem Eh{ok:gW->Bool}(h:chk ok l=0):l.length<=6000/\Fe.Fine ok (-1) l:=by
 unfold chk at h;split at h
 ·cases h
 ·exact⟨by omega,Fe.oN.1 h⟩
theorem Vl{ok:gW->Bool}(h1:l.length<=6000)(h2:Fe.Fine ok (-1) l):chk ok l=0:=by
 unfold chk;rw[if_neg (by omega)];exact Fe.oN.2 h2
theorem OG(va vl:Value)(a:List UInt8)(ks:List gW)(w:World)(ha:By w va a)(hl:VK w vl ks):
  Calls prog 31 #[va,vl] w λe w'=>∃v r,e=.returned (.tuple #[v,r])/\Kz a ks w w' v r/\Below w.heap.size w w':=by
 have A:Hid (By w va a):=ha;have L:Hid (VK w vl ks):=hl;obtain⟨pa,ca,rfl,a1,a2,-⟩:=ha;obtain⟨pl,cl,rfl,l1,l2,-⟩:=hl;have a2':ca<=9223372036854775807:=by unfold maxLen at a2;omega
 clear a2;have B0:Hid (Below w.heap.size w (w.alloc (cells #[slice pa a.length ca] 56))):=aA;have c0:Hid ((w.alloc (cells #[slice pa a.length ca] 56)).cell? ⟨w.heap.size,0,none⟩=some (slice pa a.length ca)/\w.heap.size<(w.alloc (cells #[slice pa a.length ca] 56)).heap.size):=⟨by simp,by simp⟩;by_cases h6:6000<a.length
 ·have h6':(6000:Int)<(a.length:Int):=by omega
  have E:Hid (jH a ks=4):=by unfold Hid jH;rw[if_pos h6]
  clear h6;go_enter func31,ntmps31;go_wp2;go_ret2;exact⟨_,_,rfl,.inl ⟨by rw[E.out];decide,rfl,by rw[E.out];exact Er.no (by decide)⟩,B0⟩
 have h6':¬(6000:Int)<(a.length:Int):=by omega
 have E:Hid (jH a ks=chk (Fe.kE a) ks):=by unfold Hid jH;rw[if_neg h6]
 clear h6;go_enter func31,ntmps31;go_upto_region 4 with fail
 generalize w.alloc (cells #[slice pa a.length ca] 56)=w0 at *;obtain⟨z,hz⟩:∃z,w.heap.size=z:=⟨_,rfl⟩;have HZ:Hid (w.heap.size=z):=hz;rw[hz] at c0 ⊢;have y0:=c0.out.1;go_wp2_with fail
 refine(qm 69 (by intro args w;go_simp) _ #[.pointer (some ⟨z,0,none⟩)] ks (Fe.kE a) w0 (L.below B0) ?_).mono ?_
 ·intro W hW c hc
  exact Ed _ a z c W ((A.below B0).below hW) (by rw[hW.cell c0.out.2];exact c0.1) hc
 rintro e w1 ⟨r,rfl,hr,hb⟩;have B1:Hid (Below w.heap.size w w1):=B0.trans (hb.mono B0.size);have y1:w1.cell? ⟨z,0,none⟩=some (slice pa a.length ca):=by rw[hb.cell c0.out.2];exact c0.1
 have HR:Hid (Er r (jH a ks)):=by unfold Hid;rw[E.out];exact hr
 obtain⟨f,hf⟩:∃f,jH a ks=f:=⟨_,rfl⟩;have HF:Hid (jH a ks=f):=hf;rw[hf] at HR;clear hr hb hf y0;rcases HR.out with⟨rfl,rfl⟩|⟨hne,rfl⟩
 case inr=>
  have NE:Hid (f≠0):=hne;clear hne;go_wp2;go_ret2;exact⟨_,_,rfl,.inl ⟨by rw[HF.out];exact NE,rfl,by rw[HF.out];exact HR⟩,B1⟩
 obtain⟨k1,k2⟩:=Eh (by rw[<-E.out];exact HF);have KF:Hid (ks.length<=6000/\∀c∈ks,¬Fe.Bad c):=⟨k1,Fe.qY k2⟩;clear k1 k2;go_wp2_with fail
 refine(Ef _ _ a ks w1 (A.below B1) (L.below B1) KF.1 KF.2).mono ?_;rintro e w2 ⟨v,r,rfl,hs,hb⟩;have B2:Hid (Below w.heap.size w w2):=B1.trans (hb.mono B1.size);have HS:Hid (Ky a ks w1 w2 v r):=hs;clear hb hs;go_wp2;go_ret2;refine⟨_,_,rfl,.inr ?_,B2⟩;rcases HS.out with⟨h1,h2,h3⟩|⟨b,h1,h2,h3⟩
 ·exact .inl ⟨HF,h1,h2,by rw[h3];exact Er.no (by decide)⟩
 ·exact .inr ⟨HF,b,h1,h2,Go.Joins.ownsRow_le h3 B1.size⟩
end
section
variable {X Y:WV} {es:List dZ} {ks:List KV} {l:List bU} {p:Int}
namespace Fe
theorem wrap_small{x:Int}(h: -100000<=x/\x<=100000):wrap x=x:=by
 unfold wrap;rw[IntKind.wrap_i64];omega
theorem tY(x:Int)(xs:List Int):Wd.wr (x::xs)=Wd.num x++Wd.wr xs:=by simp[Wd.wr]
theorem yM{b t:List UInt8}{a0:Nat}{l:List gW}(hl:∀c∈l,¬Bad c)(hb:b.drop a0=Wd.wr (chain 0 l)++t):∀n,n<=l.length->∃p a,ptr b a0 n=some (l.take n,p,a)/\b.drop a=Wd.wr (chain p (l.drop n))++t/\0<=p/\p<=5999
 |0,_=>⟨0,a0,by simp[ptr],by simpa using hb,by omega,by omega⟩
 |n+1,hn=>by
  obtain⟨p,a,h1,h2,h3,h4⟩:=yM hl hb n (by omega);have hnl:n<l.length:=by omega
  have hc:=hl l[n] (kG hnl);rw[List.drop_eq_getElem_cons hnl] at h2;have ht:l.take (n+1)=l.take n++[l[n]]:=dM hnl;rw[ht];generalize l[n]=c at *;obtain⟨ca,co,cn⟩:=c;unfold Bad at hc;simp only at hc;rw[chain,tY,tY,tY] at h2;simp only[bT] at h2;have i1:Wd.In64 (ca-p):=by unfold Wd.In64;omega
  have i2:Wd.In64 (co+1):=by unfold Wd.In64;omega
  have i3:Wd.In64 (cn+1):=by unfold Wd.In64;omega
  have e1:=Wd.lQ i1 h2;have g1:b.drop (a+(Wd.num (ca-p)).length)=Wd.num (co+1)++(Wd.num (cn+1)++(Wd.wr (chain ca (l.drop (n+1)))++t)):=by rw[<-List.drop_drop,h2,List.drop_left]
  have e2:=Wd.lQ i2 g1;have g2:b.drop (a+(Wd.num (ca-p)).length+(Wd.num (co+1)).length)=Wd.num (cn+1)++(Wd.wr (chain ca (l.drop (n+1)))++t):=by rw[<-List.drop_drop,g1,List.drop_left]
  have e3:=Wd.lQ i3 g2;have g3:b.drop (a+(Wd.num (ca-p)).length+(Wd.num (co+1)).length+(Wd.num (cn+1)).length)=Wd.wr (chain ca (l.drop (n+1)))++t:=by rw[<-List.drop_drop,g2,List.drop_left]
  refine⟨ca,_,?_,g3,by omega,by omega⟩;unfold ptr;rw[h1];simp only;rw[e1];simp only;rw[e2];simp only;rw[e3];simp only;rw[show p+(ca-p)=ca by omega,show co+1-1=co by omega,show cn+1-1=cn by omega,wrap_small (by omega),wrap_small (by omega),wrap_small (by omega)]
theorem unpack_pack{l:List gW}(h1:l.length<=6000)(h2:Fine (λ_=>true) (-1) l)(t:List UInt8):∃a,unpack (Wd.wr (nums l)++t)=some (l,a):=by
 have hi:Wd.In64 (l.length:Int):=by unfold Wd.In64;omega
 have e0:(Wd.wr (nums l)++t).drop 0=Wd.num (l.length:Int)++(Wd.wr (chain 0 l)++t):=by
  unfold nums;rw[tY];simp
 have e1:=Wd.lQ hi e0;have e2:(Wd.wr (nums l)++t).drop (0+(Wd.num (l.length:Int)).length)=Wd.wr (chain 0 l)++t:=by rw[<-List.drop_drop,e0,List.drop_left]
 obtain⟨p,a,h3,-⟩:=yM (qY h2) e2 l.length aN;refine⟨a,?_⟩;unfold unpack;rw[e1];simp only;rw[if_pos (by omega),bF,h3];simp only;rw[rG,if_pos (oN.2 h2)]
end Fe
open Go.Proofs.YtolfphmdmpehdaaGreatDoor.So
theorem IZ{Z:WV}{o:bU}(h:iG ks Y o=some Z):Z.gold.length=Y.gold.length:=by
 unfold iG at h;split at h
 ·cases h
 ·split at h
  ·cases h
  ·split at h
   ·cases h
   ·split at h
    ·injection h with h
     subst h;split
     ·simp[iy]
     ·rfl
    ·cases h
theorem KD(ks:List KV)(Y:WV)(out:List bU):∀n,(gv ks Y out n).1.gold.length=Y.gold.length
 |0=>rfl
 |n+1=>by
  have ih:=KD ks Y out n;rw[gv];split
  ·exact ih
  ·split
   ·rename_i Z hz
    exact(IZ hz).trans ih
   ·exact ih
theorem Yy{Wn Hn:Nat}{A:WV}(h:bH ks A)(e1:A.wide=(Wn:Nat))(e2:A.high=(Hn:Nat)){n:Nat}(p:Ph ks Wn Hn A n Y es):Y.gold.length=A.gold.length:=by
 induction p with
 |zero=>rfl
 | @one T es qs t=>
  obtain⟨-,-,-,-,-,-,-,-,-,k⟩:=t.keep h;show T.gold.length=_;rw[k]
 | @two B es evs us p0 m ih=>exact ih
 | @three C es p0 ih=>
  obtain⟨-,-,-,-,-,-,-,k,-⟩:=CG (Wn:=Wn) (Hn:=Hn) (Ph.keep h e1 e2 p0).1;exact k.trans ih
 | @four D es p0 ih=>exact ih
theorem OH(hf:cZ ks X l=0)(h:oh ks X l Y es):Y.gold.length=X.gold.length:=by
 have hw:Wd.aP ks X=0:=by
  by_cases e:Wd.aP ks X=0
  ·exact e
  ·rw[zX e] at hf;exact absurd hf e
 have ht:¬1000000<=X.turn:=λe=>by rw[Ir hw e] at hf;cases hf
 have ho:Od.faults l=0:=by rw[Iu hw ht] at hf;exact hf
 have R:=bY hw;obtain⟨out,Wn,Hn,Z,a1,a2,a3,a4,rfl⟩:=h;obtain⟨g1,g2,g3⟩:=tV (ks:=ks) (Y:=X) (out:=out) out.length;have AR:=qE R (out:=out) (λo h=>(Od.jC ho).2 o (a1.mem h)) out.length;show Z.gold.length=_;rw[Yy AR (by rw[g2,a2]) (by rw[g3,a3]) a4,KD]
theorem Ei(hp:bZ ks X p=0)(hf:cZ ks X l=0)(h:oh ks X l Y es):bZ ks Y p=0:=by
 obtain⟨-,h1,h2⟩:=jf hp;unfold bZ;rw[if_pos (Iy hf h).1,if_pos (by rw[OH hf h];exact⟨h1,h2⟩)]
theorem ru(Wn:Nat)(h:bZ ks X p=0):(Wd.enc (dS ks Wn X p)).length<=6000:=Yo (bY (qj (p:=p) (Wn:=Wn) (bY (jf h).1)))
end
section
open Go.RowKit
variable {a a' a0 base k n y z za zb zf zn:Nat} {f f':Bool} {l:List UInt8} {ls:List gW} {m p:Int} {u v:Value} {w w' w0:World}
namespace Fe
theorem Ej:∀{l:List gW} {p:Int},(∀c∈l,¬Bad c)->0<=p->p<=5999->∀n∈chain p l,Wd.In64 n
 |[],p,_,_,_,n,h=>by simp[chain] at h
 |c::l,p,hl,h1,h2,n,h=>by
  have hc:=hl c (by simp);unfold Bad at hc;unfold chain at h;simp only[bP] at h;rcases h with rfl|rfl|rfl|h
  ·unfold Wd.In64;omega
  ·unfold Wd.In64;omega
  ·unfold Wd.In64;omega
  ·exact Ej (λd hd=>hl d (by simp[hd])) (by omega) (by omega) n h
end Fe
def Em(l:List gW)(w w':World)(v r:Value):Prop:=
 (chk (λ_=>true) l≠0/\v=slice none 0 0/\Er r (chk (λ_=>true) l))\/(chk (λ_=>true) l=0/\r=.nilIface/\Ob w' w.heap.size v (Wd.wr (Fe.nums l)))
theorem Vm(vl:Value)(ks:List gW)(w:World)(hl:VK w vl ks):
  Calls prog 29 #[vl] w λe w'=>∃v r,e=.returned (.tuple #[v,r])/\Em ks w w' v r/\Below w.heap.size w w':=by
 have L:=aj (hl);obtain⟨pl,cl,rfl,l1,l2,-⟩:=hl;go_enter func29,ntmps29;go_wp2_with fail
 refine(qm 65 (by intro args w;go_simp) _ #[] ks _ w L (λW hW c hc=>qZ c W)).mono ?_;rintro e w1 ⟨r,rfl,hr,hb⟩;have B1:=aj (hb);obtain⟨f,hf⟩:∃f,chk (λ_=>true) ks=f:=⟨_,rfl⟩;have HF:=aj (hf);rw[hf] at hr;have HR:=aj (hr);clear hr hb hf;rcases HR.out with⟨rfl,rfl⟩|⟨hne,rfl⟩
 case inr=>
  have NE:=aj (hne);clear hne;go_wp2;go_ret2;exact⟨_,_,rfl,.inl ⟨by rw[HF.out];exact NE,rfl,by rw[HF.out];exact HR⟩,B1⟩
 obtain⟨k1,k2⟩:=Eh HF;have KF:=aj (dJ (k1) (Fe.qY k2));have l6:(ks.length:Int)<=6000:=by omega
 clear k1 k2;have SW:=aj (B1.size);have O1:Hid (Ow _ _ _ [(ks.length:Int)]):=Ow.one _ SW rfl;have B2:Hid (Below _ w (w1.alloc (.cells #[int i64 (ks.length:Nat)] 3))):=B1.alloc SW _;go_wp2_with fail
 go_loopw [5,6,19] (λnv pv iv W=>∃(n:Nat) (p:Int) (xs:List Int),n<=ks.length/\pv=int i64 p/\iv=int i64 (n:Nat)/\0<=p/\p<=5999/\xs.length=3*n+1/\xs++Fe.chain p (ks.drop n)=Fe.nums ks/\Ow W w.heap.size nv xs/\Below w.heap.size w W) (λ_ _ iv _=>ks.length-(intOf iv).toNat)
 case atStart=>exact⟨0,0,[(ks.length:Int)],aZ _,rfl,rfl,by omega,by omega,rfl,rfl,O1,B2⟩
 case round=>
 obtain⟨n,p,xs,hn,rfl,rfl,hp0,hp1,hxl,hx,ho,hb⟩:=hrel;have HX:=aj (hx);have XL:=aj (hxl);have O:=aj (ho);have BW:=aj (hb);obtain⟨op,oc,rfl⟩:=ho.len;clear hx hxl ho hb O1 B2;by_cases hne:n=ks.length
 ·have HE:Hid (xs=Fe.nums ks):=by
   have:=HX.out;rw[hne,List.drop_length] at this;unfold Hid;simpa[Fe.chain] using this
  have IN:Hid (∀n∈Fe.nums ks,Wd.In64 n):=by
   intro n hn;unfold Fe.nums at hn;rcases bP.1 hn with rfl|hn
   ·unfold Wd.In64;omega
   ·exact Fe.Ej KF.2 (by omega) (by omega) n hn
  subst hne;go_wp2_with fail
  refine(write_any _ xs wr O.ro (by rw[HE.out];exact IN) (by have:=XL.out;omega)).mono ?_;rintro e w5 ⟨u,rfl,hu,hb⟩;have B5:=aG BW hb;have OU:Hid (Ob w5 w.heap.size u (Wd.wr (Fe.nums ks))):=by unfold Hid;rw[<-HE.out];exact Go.Joins.ownsRow_le hu BW.size
  clear hu hb;go_wp2;go_ret2;exact⟨_,_,rfl,.inr ⟨HF,rfl,OU⟩,B5⟩
 have hnl:n<ks.length:=by omega
 have aaC:(n:Int)<(ks.length:Int):=by omega
 obtain⟨c,hc⟩:∃c,ks[n]? =some c:=⟨_,aH hnl⟩;have HC:Hid (ks.drop n=c::ks.drop (n+1)):=by
  unfold Hid;rw[List.drop_eq_getElem_cons hnl]
  congr 1
  rw[aH hnl] at hc;injection hc
 have nb:=KF.2 c (aT hc);have HY:Hid ((xs++[c.at_-p,c.old+1,c.new+1])++Fe.chain c.at_ (ks.drop (n+1))=Fe.nums ks):=by
  have:=HX.out;rw[HC.out] at this;unfold Hid;rw[<-this,bT];rfl
 obtain⟨a',c',e',-,-,hq⟩:=L.below BW;injection e' with e1 e2 e3
 subst e1 e3;obtain⟨x,rfl,-,hcc⟩:=hq (by rintro rfl;simp at hnl);obtain⟨d0,d1,d2⟩:=hcc n c hc;clear hq hcc hc;obtain⟨ca,co,cn⟩:=c;unfold Fe.Bad at nb;simp only at d0 d1 d2 HY nb;have wa:IntKind.i64.wrap (ca-p)=ca-p:=by rw[IntKind.wrap_i64];omega
 have wo:IntKind.i64.wrap (co+1)=co+1:=by rw[IntKind.wrap_i64];omega
 have wn:IntKind.i64.wrap (cn+1)=cn+1:=by rw[IntKind.wrap_i64];omega
 have CA:Hid (0<=ca/\ca<=5999):=aj (by omega);have SR:=aj (BW.size);obtain⟨w2,hw2⟩:∃W,wr.alloc (cells #[int i64 ca,int i64 co,int i64 cn] 117)=W:=⟨_,rfl⟩;have B2:Hid (Below w.heap.size w w2):=by rw[<-hw2];exact BW.alloc SR _
 have O2:Hid (Ow w2 w.heap.size (slice op xs.length oc) xs):=by rw[<-hw2];exact O.alloc _
 have y0:w2.cell? ⟨wr.heap.size,0,none⟩=some (int i64 ca):=by rw[<-hw2];simp
 have y1:w2.cell? ⟨wr.heap.size,1,none⟩=some (int i64 co):=by rw[<-hw2];simp
 have y2:w2.cell? ⟨wr.heap.size,2,none⟩=some (int i64 cn):=by rw[<-hw2];simp
 have Z2:Hid (wr.heap.size<w2.heap.size):=by unfold Hid;rw[<-hw2];simp
 clear nb;go_upto_region 9 with fail
 try rw[hw2]
 clear hw2;have SR2:=aj (B2.size);go_wp2_with (at_builtin;refine mG _ rfl _ _ rfl _ _ xs rfl (O2.alloc _) _ _ rfl (Ro.lit [ca-p,co+1,cn+1] _ rfl (by simp) rfl) (by have:=XL.out;simp;omega) (by have:=SR2.out;simp;omega) ?_);intro v' w5 o5 g5 _;have O5:=aj (o5);have hob:∀j,(slice op _ oc).ownBlock=some j->w.heap.size<=j:=λj hj=>(O2.block j hj).1
 have B5:=aj ((B2.alloc SR2 _).grown g5 (by have:=SR2.out;simp;omega) hob);have z0:w5.cell? ⟨wr.heap.size,0,none⟩=some (int i64 ca):=by
  have hk:=g5.block wr.heap.size (by have:=Z2.out;simp;omega) (λe=>by have:=(O.block _ e.symm).2;omega);have y0':(w2.alloc (cells #[int i64 (ca-p),int i64 (co+1),int i64 (cn+1)] 3)).cell? ⟨wr.heap.size,0,none⟩=some (int i64 ca):=by
   rw[aA.cell (p:=⟨wr.heap.size,0,none⟩) Z2.out];exact y0
  simp only[World.cell?,hk] at y0' ⊢;exact y0'
 clear o5 g5 hob;go_wp2;go_roundw
 case rel=>exact⟨n+1,ca,xs++[ca-p,co+1,cn+1],by omega,rfl,by go_num,CA.1,CA.2,by rw[aC,XL.out];simp;omega,HY,O5,B5⟩
 case measure=>simp[intOf];omega
theorem I_(x:Nat)(w:World)(h:x<18446744073709551616):Calls prog 114 #[.int .u64 (x:Nat)] w λe w'=>e=.returned (int i64 (Wd.yN x))/\w'=w:=by
 obtain⟨m,hm⟩:∃m:Nat,x/2=m:=⟨_,rfl⟩;have hi:(x:Int)/2=m:=by omega
 have hb:(m:Int)<9223372036854775808:=by omega
 have w2:IntKind.i64.wrap (m:Int)=(m:Int):=by rw[IntKind.wrap_i64];omega
 by_cases h1:x%2=1
 ·have E:Hid (Wd.yN x= -(m:Int)-1):=by unfold Hid Wd.yN;rw[if_pos h1,hm]
  have hr:(x:Int)%2=1:=by omega
  go_enter func114,ntmps114;go_wp2;go_ret;refine⟨?_,rfl⟩;rw[E.out];rfl
 ·have E:Hid (Wd.yN x=(m:Int)):=by unfold Hid Wd.yN;rw[if_neg h1,hm]
  have hr:(x:Int)%2=0:=by omega
  go_enter func114,ntmps114;go_wp2;go_ret;refine⟨?_,rfl⟩;rw[E.out];rfl
def jr(l:List UInt8)(u:Value):Prop:=match Wd.rd 0 0 l with
 |none=>u=.tuple #[int i64 0,int i64 0]
 |some (x,n)=>u=.tuple #[int i64 (Wd.yN x),int i64 (n:Nat)]
theorem Yz{x:Nat}{c:UInt8}(h:l[k]? =some c):Wd.rd k x (l.drop k)=if k=9/\1<c.toNat then none else if 128<=c.toNat then Wd.rd (k+1) (x+c.toNat%128*128^k) (l.drop (k+1)) else if c.toNat=0/\0<k then none else some (x+c.toNat*128^k,k+1):=by
 obtain⟨hi,e⟩:=aK.1 h;rw[List.drop_eq_getElem_cons hi,e];rfl
theorem Eo(v:Value)(l:List UInt8)(w:World)(h:By w v l):
  Calls prog 67 #[v] w λe w'=>(∃u,e=.returned u/\jr l u)/\w'=w:=by
 obtain⟨a,cap,rfl,h1,h2,h3⟩:=h;have H:Hid (l≠[]->∃x,a=some x/\x.block<w.heap.size/\∀(i:Nat) d,l[i]? =some d->w.cell? (x.add i)=some (.int .u8 (d.toNat:Int))):=h3;have HL:Hid (l.length<=9223372036854775807):=by unfold Hid;unfold maxLen at h2;omega
 clear h1 h2 h3;go_enter func67,ntmps67;go_wp2;go_loopw [4,9] (λxv iv W=>∃(x k:Nat),xv=.int .u64 (x:Nat)/\iv=int i64 (k:Nat)/\k<=l.length/\k<=9/\x<128^k/\Wd.rd k x (l.drop k)=Wd.rd 0 0 l/\W=w) (λ_ iv _=>l.length-(intOf iv).toNat)
 case atStart=>exact⟨0,0,rfl,rfl,aZ _,by omega,by decide,rfl,rfl⟩
 case round=>
  obtain⟨x,k,rfl,rfl,hk,hk9,hx,hrd,rfl⟩:=hrel;have HR:Hid (Wd.rd k x (l.drop k)=Wd.rd 0 0 l):=hrd;clear hrd;by_cases hkl:k=l.length
  ·have E:Hid (Wd.rd 0 0 l=none):=by
    unfold Hid;rw[<-HR.out,hkl,List.drop_length];rfl
   clear hx hk hk9;subst hkl;go_wp2;go_ret2;refine⟨⟨_,rfl,?_⟩,rfl⟩;unfold jr;rw[E.out];rfl
  ·have hlt:k<l.length:=by omega
   obtain⟨c,hc⟩:∃c,l[k]? =some c:=⟨_,aH hlt⟩;obtain⟨ad,rfl,had,hcell⟩:=H (by intro e;subst e;simp at hlt);have HS:=Yz (x:=x) hc;rw[HR.out] at HS;have HC:Hid (Wd.rd 0 0 l=if k=9/\1<c.toNat then none else if 128<=c.toNat then Wd.rd (k+1) (x+c.toNat%128*128^k) (l.drop (k+1)) else if c.toNat=0/\0<k then none else some (x+c.toNat*128^k,k+1)):=HS;have hcc:wr.cell? (ad.add k)=some (.int .u8 (c.toNat:Int)):=hcell k c hc;have hcl:c.toNat<256:=c.toNat_lt;generalize c.toNat=n at *;clear hcell had HS HR hc;have hli:(k:Int)<(l.length:Int):=by omega
   by_cases h9:k=9/\1<n
   ·obtain⟨hk0,hn1⟩:=h9
    have E:Hid (Wd.rd 0 0 l=none):=by unfold Hid;rw[HC.out,if_pos ⟨hk0,hn1⟩]
    have hkb:(((k:Nat):Int)==9)=true:=by
     have:((k:Nat):Int)=9:=by omega
     simpa using this
    have hni:(1:Int)<(n:Int):=by omega
    clear HC hx hk0;go_wp2;go_ret2;refine⟨⟨_,rfl,?_⟩,rfl⟩;unfold jr;rw[E.out];rfl
   ·have E9:Hid (Wd.rd 0 0 l=if 128<=n then Wd.rd (k+1) (x+n%128*128^k) (l.drop (k+1)) else if n=0/\0<k then none else some (x+n*128^k,k+1)):=by unfold Hid;rw[HC.out,if_neg h9]
    obtain⟨m,hm⟩:∃m,n%128=m:=⟨_,rfl⟩;have hmi:(n:Int)%128=m:=by omega
    have hm2:m<128:=by omega
    have HX:Hid (x<128^k):=hx;obtain⟨y,hy⟩:∃y,m*128^k=y:=⟨_,rfl⟩;obtain⟨z,hz⟩:∃z,x+y=z:=⟨_,rfl⟩;have e2:(2:Int)^(7*k)=((128^k:Nat):Int):=by
     have h:=Nat.pow_mul 2 7 k;rw[show(2^7:Nat)=128 from rfl] at h;rw[<-h];simp
    have ey:(m:Int)*2^(7*k)=(y:Nat):=by rw[e2,<-hy];simp
    have hb:y<=9223372036854775808/\z<18446744073709551616:=by
     by_cases hk0:k=9
     ·subst hk0
      have:m<=1:=by omega
      have h2:m*128^9<=1*128^9:=Nat.mul_le_mul_right _ this;rw[Wd.VN] at h2 hx;omega
     ·have h8:128^k<=128^8:=Nat.pow_le_pow_right (by decide) (by omega)
      have h82:(128:Nat)^8=72057594037927936:=by decide
      have:m*128^k<=127*128^k:=Nat.mul_le_mul_right _ (by omega);omega
    have wy:IntKind.u64.wrap ((y:Nat):Int)=(y:Nat):=by rw[IntKind.wrap_u64];omega
    have ez:((x:Nat):Int)+(y:Nat)=(z:Nat):=by omega
    have wz:IntKind.u64.wrap ((z:Nat):Int)=(z:Nat):=by rw[IntKind.wrap_u64];omega
    have zb:z<18446744073709551616:=hb.2;have HZ:Hid (x+m*128^k=z):=by unfold Hid;rw[hy];exact hz
    have HM:Hid (n%128=m):=hm;have hk7:(7:Int)*(k:Int)<64:=by omega
    clear HC hx e2 hb hy hz hm;have KB:(∃c:Bool,(((k:Nat):Int)==9)=c/\(c=true->n<=1)):=⟨_,rfl,λh=>by
     have:((k:Nat):Int)=9:=by simpa using h
     omega⟩
    obtain⟨c,hkb,hcn⟩:=KB;have HK9:Hid (k<=9/\¬(k=9/\1<n)):=⟨hk9,h9⟩;clear h9;rcases Nat.lt_or_ge n 128 with hn|hn
    ·have hmn:m=n:=by have:=HM.out;omega
     have hni:¬(128:Int)<=(n:Int):=by omega
     by_cases h0:n=0/\0<k
     ·obtain⟨rfl,hk0⟩:=h0
      have E:Hid (Wd.rd 0 0 l=none):=by unfold Hid;rw[E9.out,if_neg (by omega),if_pos ⟨rfl,hk0⟩]
      have acU:(0:Int)<(k:Int):=by omega
      cases c
      all_goals
       go_wp2;go_ret2;refine⟨⟨_,rfl,?_⟩,rfl⟩;unfold jr;rw[E.out];rfl
     ·have E:Hid (Wd.rd 0 0 l=some (z,k+1)):=by unfold Hid;rw[E9.out,if_neg (by omega),if_neg h0,<-HZ.out,hmn]
      have ZT:∃d:Bool,(((n:Nat):Int)==0)=d/\(d=true->¬(0:Int)<(k:Int)):=⟨_,rfl,λh=>by
       have:((n:Nat):Int)=0:=by simpa using h
       omega⟩
      obtain⟨d,hd,hdk⟩:=ZT;have wk:IntKind.i64.wrap ((k:Int)+1)=(k:Int)+1:=by rw[IntKind.wrap_i64];omega
      clear hmn h0;have fin:jr l (.tuple #[int i64 (Wd.yN z),int i64 ((k+1:Nat):Int)]):=by
       unfold jr;rw[E.out]
      have FIN:Hid (jr l (.tuple #[int i64 (Wd.yN z),int i64 ((k+1:Nat):Int)])):=fin;clear fin;cases c
      all_goals
       have hc1:Hid (_=true->n<=1):=hcn;cases d
       all_goals
        have hd1:Hid (_=true->¬(0:Int)<(k:Int)):=hdk
        try (have hcx:¬(1:Int)<(n:Int):=by have:=hc1 rfl;omega)
        try (have hdx:¬(0:Int)<(k:Int):=hd1 rfl)
        clear hcn hdk hc1 hd1;go_wp2_with fail
        refine(I_ z _ zb).mono ?_;rintro e w1 ⟨rfl,rfl⟩;go_wp2;go_ret2;exact⟨⟨_,rfl,FIN⟩,rfl⟩
    ·have hni:(128:Int)<=(n:Int):=by omega
     cases c
     ·have HK:Hid (k<9):=by
       unfold Hid;have:¬((k:Nat):Int)=9:=by simpa using hkb
       omega
      have E:Hid (Wd.rd (k+1) z (l.drop (k+1))=Wd.rd 0 0 l):=by unfold Hid;rw[E9.out,if_pos hn,HM.out,HZ.out]
      clear hcn;go_wp2;go_roundw
      case rel=>
       refine⟨z,k+1,rfl,rfl,by omega,by have:=HK.out;omega,?_,E,trivial⟩;have hs:128^(k+1)=128^k*128:=Nat.pow_succ ..;have:m*128^k<=127*128^k:=Nat.mul_le_mul_right _ (by omega);have h1:=HZ.out;have h2:=HX.out;omega
      case measure=>simp[intOf];omega
     ·have:=hcn rfl
      omega
structure K2(y z:Nat)(w w':World):Prop where
 os:w'.os=w.os
 tape:w'.tape=w.tape
 output:w'.output=w.output
 size:w.heap.size<=w'.heap.size
 block:∀k,k<w.heap.size->k≠y->k≠z->w'.heap[k]? =w.heap[k]?
theorem K2.of(h:Below w.heap.size w w'):K2 y z w w':=⟨h.os,h.tape,h.output,h.size,λk hk _ _=>h.block k hk⟩
theorem K2.refl(y z:Nat)(w:World):K2 y z w w:=K2.of aB
theorem K2.trans{a b c:World}(h:K2 y z a b)(k:K2 y z b c):K2 y z a c:=
 ⟨k.os.trans h.os,k.tape.trans h.tape,k.output.trans h.output,aJ h.size k.size,λi hi hy hz=>(k.block i (fE hi h.size) hy hz).trans (h.block i hi hy hz)⟩
theorem K2.jw(w:World)(i:Nat)(u:Value):K2 y z w (w.setCell ⟨y,i,none⟩ u):=
 ⟨rfl,rfl,rfl,by simp[World.setCell],λk _ hy _=>Below.heap_setCell _ _ _ _ hy⟩
theorem K2.aaO(w:World)(i:Nat)(u:Value):K2 y z w (w.setCell ⟨z,i,none⟩ u):=
 ⟨rfl,rfl,rfl,by simp[World.setCell],λk _ _ hz=>Below.heap_setCell _ _ _ _ hz⟩
theorem K2.below{B:Nat}{a:World}(h:Below B a w)(k:K2 y z w w')(hB:B<=w.heap.size)(hy:B<=y)(hz:B<=z):Below B a w':=
 h.trans ⟨k.os,k.tape,k.output,k.size,λi hi=>k.block i (by omega) (by omega) (by omega)⟩
theorem K2.cell(k:K2 y z w w')(p:Addr)(hp:p.block<w.heap.size)(hy:p.block≠y)(hz:p.block≠z):w'.cell? p=w.cell? p:=by
 have:=k.block p.block hp hy hz;simp only[World.cell?,this]
theorem K2.grown(k:K2 y z w w'){row:Option Nat}{w'':World}(h:w'.grownBy w'' row)(hr:∀b,row=some b->w.heap.size<=b):K2 y z w w'':=
 ⟨h.os.trans k.os,h.tape.trans k.tape,h.output.trans k.output,aJ k.size h.size,λi hi hy hz=>(h.block i (fE hi k.size) (λe=>by have:=hr i e.symm;omega)).trans (k.block i hi hy hz)⟩
structure Dc(w0:World)(zb za zf:Nat)(v:Value)(l:List UInt8)(w:World)(a:Nat)(f:Bool):Prop where
 src:By w0 v l
 low:w0.heap.size<=zb
 ba:zb<za
 af:za<zf
 bl:Below zb w0 w
 cb:w.cell? ⟨zb,0,none⟩=some v
 ca:w.heap[za]? =some (.cells #[int i64 (a:Nat)] 3 (0,0))
 cf:w.heap[zf]? =some (.cells #[.bool f] 4 (0,0))
 le:a<=l.length
theorem Dc.ltf(h:Dc w0 zb za zf v l w a f):zf<w.heap.size:=lt_of_block h.cf
theorem Dc.kept(h:Dc w0 zb za zf v l w a f)(hb:Below (zf+1) w w'):Dc w0 zb za zf v l w' a f:=by
 have h1:=h.ba;have h2:=h.af;exact⟨h.src,h.low,h.ba,h.af,h.bl.trans (hb.mono (by omega)),by rw[hb.cell (p:=⟨zb,0,none⟩) (by show zb<_;omega)];exact h.cb,by rw[hb.block za (by omega)];exact h.ca,by rw[hb.block zf (by omega)];exact h.cf,h.le⟩
theorem Dc.la(h:Dc w0 zb za zf v l w a f):w.cell? ⟨za,0,none⟩=some (int i64 (a:Nat))/\w.frozen? ⟨za,0,none⟩=false:=⟨by simp[World.cell?,h.ca],by simp[World.frozen?,h.ca]⟩
theorem Dc.lf(h:Dc w0 zb za zf v l w a f):w.cell? ⟨zf,0,none⟩=some (.bool f)/\w.frozen? ⟨zf,0,none⟩=false:=⟨by simp[World.cell?,h.cf],by simp[World.frozen?,h.cf]⟩
theorem Dc.VL(h:Dc w0 zb za zf v l w a f):By w v l:=h.src.below (h.bl.mono h.low)
def lZ(w0:World)(zb za zf:Nat)(v:Value)(l:List UInt8)(w:World)(a:Nat)(f:Bool)(e:Ending)(w':World):Prop:=
 ∃(n:Int) (a':Nat) (f':Bool),e=.returned (int i64 n)/\Wd.Rd (Wd.dN l) a f n a' f'/\Dc w0 zb za zf v l w' a' f'/\K2 za zf w w'
theorem By.drop{ad:Option Addr}{c:Nat}(h:By w (slice ad n c) l)(hk:k<=l.length):By w (slice (Option.map (λx=>x.add k) ad) (l.length-k) (c-k)) (l.drop k):=by
 obtain⟨a,c',e,h1,h2,h3⟩:=h;injection e with e1 e2 e3
 subst e1 e3;refine⟨_,_,by rw[jR],by rw[jR];omega,by omega,λhn=>?_⟩;obtain⟨y,e,hy,hc⟩:=h3 (by intro h;subst h;simp at hn);subst e;refine⟨_,rfl,by rw[add_block];exact hy,λi d hi=>?_⟩;rw[mF] at hi;rw[Addr.add_add];exact hc _ d hi
theorem By.end_(w:World)(ad:Option Addr)(l:List UInt8)(hk:l.length<=k):By w (slice ad (l.length-k) 0) (l.drop k):=by
 have:l.drop k=[]:=List.drop_eq_nil_of_le hk;rw[this];exact⟨ad,0,by rw[aS];congr 1;omega,aU _,by omega,λh=>absurd rfl h⟩
theorem Dc.put(h:Dc w0 zb za zf v l w a f)(hle:a'<=l.length):Dc w0 zb za zf v l ((w.setCell ⟨za,0,none⟩ (int i64 (a':Nat))).setCell ⟨zf,0,none⟩ (.bool f')) a' f'/\K2 za zf w ((w.setCell ⟨za,0,none⟩ (int i64 (a':Nat))).setCell ⟨zf,0,none⟩ (.bool f')):=by
 have h1:=h.ba;have h2:=h.af;have hs:K2 za zf w ((w.setCell ⟨za,0,none⟩ (int i64 (a':Nat))).setCell ⟨zf,0,none⟩ (.bool f')):=(K2.jw w 0 _).trans (K2.aaO _ 0 _);have lf:=h.ltf;refine⟨⟨h.src,h.low,h.ba,h.af,hs.below h.bl (by omega) (by omega) (by omega),?_,?_,?_,hle⟩,hs⟩
 ·rw[hs.cell ⟨zb,0,none⟩ (by show zb<_;omega) (by show zb≠_;omega) (by show zb≠_;omega)];exact h.cb
 ·rw[Below.heap_setCell _ _ _ _ (by show za≠zf;omega)]
  exact heap_setCell_same w za 0 _ _ (int i64 (a':Nat)) h.ca
 ·exact heap_setCell_same _ zf 0 _ _ (.bool f') ((Below.heap_setCell w ⟨za,0,none⟩ _ _ (by show zf≠za;omega)).trans h.cf)
theorem fJ{T:TypeId}{size:Nat}{cs:List Value}(h:w.ownsRow base T size u n cs)(k:K2 y z w w')(hy:y<base)(hz:z<base):w'.ownsRow base T size u n cs:=by
 refine⟨h.1,?_⟩;rcases h.2 with h1|⟨g,cap,cur,h1,h2,h3,h4⟩
 ·exact .inl h1
 ·exact .inr ⟨g,cap,cur,h1,h2,(k.block g (lt_of_block h3) (by omega) (by omega)).trans h3,h4⟩
theorem oO(w0:World)(zb za zf:Nat)(v:Value)(l:List UInt8)(w:World)(a:Nat)(f:Bool)(h:Dc w0 zb za zf v l w a f):
  Calls prog 66 #[.pointer (some ⟨zb,0,none⟩),.pointer (some ⟨za,0,none⟩),.pointer (some ⟨zf,0,none⟩)] w (lZ w0 zb za zf v l w a f):=by
 have D:Hid (Dc w0 zb za zf v l w a f):=h;have B:Hid (By w v l):=h.VL;obtain⟨ad,cap,rfl,h1,h2,h3⟩:=h.VL;have cb:=h.cb;obtain⟨ca,fa⟩:=h.la;obtain⟨cf,ff⟩:=h.lf;have le:=h.le;have cm:cap<=9223372036854775807:=by unfold maxLen at h2;omega
 clear h h2 h3;go_enter func66,ntmps66;go_wp2_with fail
 all_goals
  refine(Eo _ (l.drop a) _ (by first|exact B.drop le|exact By.end_ _ _ _ (by omega))).mono ?_;rintro e w1 ⟨⟨u,rfl,hu⟩,rfl⟩;have ne:za≠zf:=by have:=D.af;omega
  have ne':zf≠za:=λe=>ne e.symm
  unfold jr at hu;cases hr:Wd.rd 0 0 (l.drop a) with
  |none=>
   rw[hr] at hu;subst hu;have E:Hid (Wd.dN l a=none):=by unfold Hid Wd.dN;rw[hr]
   have F:Hid (lZ w0 zb za zf (slice ad l.length _) l w1 a f (.returned (int i64 0)) ((w1.setCell ⟨za,0,none⟩ (int i64 (a:Nat))).setCell ⟨zf,0,none⟩ (.bool true))):=⟨0,a,true,rfl,⟨λ_=>rfl,λ_=>.inr ⟨E,rfl⟩⟩,(D.put le).1,(D.put le).2⟩;cases f
   all_goals
    go_wp2;go_ret;exact F
  |some p=>
   obtain⟨x,n⟩:=p;rw[hr] at hu;subst hu;obtain⟨k1,k2,k3,k4⟩:=Wd.Ar _ 0 0 x n (by omega) (by decide) hr;rw[jR] at k2;obtain⟨a',ha'⟩:∃a',a+n=a':=⟨_,rfl⟩;have E:Hid (Wd.dN l a=some (Wd.yN x,a')):=by unfold Hid Wd.dN;rw[hr,<-ha']
   have ai:(a:Int)+(n:Int)=(a':Nat):=by omega
   have wa:IntKind.i64.wrap ((a':Nat):Int)=(a':Nat):=by rw[IntKind.wrap_i64];omega
   have hn0:(((n:Nat):Int)==0)=false:=by
    have:¬((n:Nat):Int)=0:=by omega
    simpa using this
   have F:Hid (lZ w0 zb za zf (slice ad l.length _) l w1 a f (.returned (int i64 (Wd.yN x))) ((w1.setCell ⟨za,0,none⟩ (int i64 (a':Nat))).setCell ⟨zf,0,none⟩ (.bool f))):=⟨_,a',f,rfl,⟨λh=>h,λh=>.inl ⟨E,h⟩⟩,(D.put (by omega)).1,(D.put (by omega)).2⟩;clear hr k1 k2 k3 k4 ha';cases f
   all_goals
    go_wp2;go_ret;exact F
theorem Vo(n:Int):IntKind.i64.wrap n=wrap64 n:=by unfold wrap64;exact IntKind.wrap_i64 n
namespace Fe
theorem Vp{x y z:Int}{a1 a2 a3:Nat}{f1 f2 f3:Bool}(h:ptr l a0 n=some (ls,p,a))(r1:Wd.Rd (Wd.dN l) a false x a1 f1)(r2:Wd.Rd (Wd.dN l) a1 f1 y a2 f2)(r3:Wd.Rd (Wd.dN l) a2 f2 z a3 f3):
  (f3=false/\ptr l a0 (n+1)=some (ls++[⟨wrap (p+x),wrap (y-1),wrap (z-1)⟩],wrap (p+x),a3))\/(f3=true/\ptr l a0 (n+1)=none):=by
 unfold ptr;rw[h];simp only;rcases r1.2 rfl with⟨e1,rfl⟩|⟨e1,rfl⟩
 ·rw[e1]
  simp only;rcases r2.2 rfl with⟨e2,rfl⟩|⟨e2,rfl⟩
  ·rw[e2]
   simp only;rcases r3.2 rfl with⟨e3,rfl⟩|⟨e3,rfl⟩
   ·rw[e3]
    exact .inl ⟨rfl,rfl⟩
   ·rw[e3]
    exact .inr ⟨rfl,rfl⟩
  ·rw[e2]
   exact .inr ⟨r3.1 rfl,rfl⟩
 ·rw[e1]
  exact .inr ⟨r3.1 (r2.1 rfl),rfl⟩
theorem aaP(h:Wd.dN l 0=none):unpack l=none:=by unfold unpack;rw[h]
theorem YA(h:Wd.dN l 0=some (m,a0))(hm:¬(0<=m/\m<=6000)):unpack l=none:=by unfold unpack;rw[h];simp only;rw[if_neg hm]
theorem OJ(h:Wd.dN l 0=some (m,a0))(hn:(n:Int)<=m)(hp:ptr l a0 n=none):unpack l=none:=by
 unfold unpack;rw[h];simp only;split
 ·have:ptr l a0 m.toNat=none:=by
   have:=Ec hp (m.toNat-n);rwa[show n+(m.toNat-n)=m.toNat by omega] at this
  rw[this]
 ·rfl
theorem YD(h:Wd.dN l 0=some (m,a0))(h1:m<=6000)(hn:(n:Int)=m)(hp:ptr l a0 n=some (ls,p,a)):unpack l=if iL (λ_=>true) (-1) ls=0 then some (ls,a) else none:=by
 unfold unpack;rw[h];simp only;rw[if_pos (by omega),show m.toNat=n by omega,hp]
end Fe
def slen:Value->Nat
 |slice _ n _=>n
 |_=>0
theorem Dc.aaQ(h:Dc w0 zb za zf v l w a f):Dc w0 zb za zf v l (w.setCell ⟨zf,0,none⟩ (.bool f')) a f'/\K2 za zf w (w.setCell ⟨zf,0,none⟩ (.bool f')):=by
 have h1:=h.ba;have h2:=h.af;have hs:K2 za zf w (w.setCell _ (.bool f')):=K2.aaO _ 0 _;have lf:=h.ltf;refine⟨⟨h.src,h.low,h.ba,h.af,hs.below h.bl (by omega) (by omega) (by omega),?_,?_,?_,h.le⟩,hs⟩
 ·rw[hs.cell ⟨zb,0,none⟩ (by show zb<_;omega) (by show zb≠_;omega) (by show zb≠_;omega)];exact h.cb
 ·rw[Below.heap_setCell _ _ _ _ (by show za≠zf;omega)]
  exact h.ca
 ·exact heap_setCell_same _ zf 0 _ _ (.bool f') h.cf
def KE(l:List UInt8)(w w':World)(v n r:Value):Prop:=
 (Fe.unpack l=none/\v=slice none 0 0/\n=int i64 0/\Er r 9)\/(∃ls a,Fe.unpack l=some (ls,a)/\r=.nilIface/\n=int i64 (a:Nat)/\nK w' w.heap.size v ls)
theorem Ja(vb:Value)(l:List UInt8)(w:World)(hl:By w vb l):
  Calls prog 30 #[vb] w λe w'=>∃v n r,e=.returned (.tuple #[v,n,r])/\KE l w w' v n r/\Below w.heap.size w w':=by
 have L:=aj (hl);obtain⟨pa,ca,rfl,a1,a2,-⟩:=hl;clear a2;go_enter func30,ntmps30;go_upto_region 3 with fail
 have D0:Hid (Dc w w.heap.size (w.heap.size+1) (w.heap.size+1+1) (slice pa l.length ca) l (((w.alloc (cells #[slice pa l.length ca] 56)).alloc (cells #[int i64 0] 3)).alloc (cells #[.bool false] 4)) 0 false):=by
  refine⟨L,aU _,by omega,by omega,(aA.alloc (by simp) _).alloc (by simp;omega) _,?_,?_,?_,aZ _⟩
  ·have c9:(w.alloc (cells #[slice pa l.length ca] 56)).cell? ⟨w.heap.size,0,none⟩=some (slice pa l.length ca):=by simp
   rw[(aA.alloc (B:=(w.alloc (cells #[slice pa l.length ca] 56)).heap.size) (by simp) _).cell (p:=⟨w.heap.size,0,none⟩) (by simp)];exact c9
  ·have h9:=heap_alloc_new (w.alloc (cells #[slice pa l.length ca] 56)) (cells #[int i64 0] 3)
   have e9:(w.alloc (cells #[slice pa l.length ca] 56)).heap.size=w.heap.size+1:=by simp
   rw[e9] at h9;rw[aA.block (w.heap.size+1) (by simp)];exact h9
  ·have h9:=heap_alloc_new ((w.alloc (cells #[slice pa l.length ca] 56)).alloc (cells #[int i64 0] 3)) (cells #[.bool false] 4)
   have e9:((w.alloc (cells #[slice pa l.length ca] 56)).alloc (cells #[int i64 0] 3)).heap.size=w.heap.size+1+1:=by simp
   rw[e9] at h9;exact h9
 generalize (((w.alloc _).alloc _).alloc _)=w0 at *;obtain⟨zb,hzb⟩:∃z,w.heap.size=z:=⟨_,rfl⟩;have HZ:=aj (hzb);rw[hzb] at D0 ⊢;obtain⟨za,hza⟩:∃z,zb+1=z:=⟨_,rfl⟩;obtain⟨zf,Zk⟩:∃z,zb+1+1=z:=⟨_,rfl⟩;have HZ2:Hid (zb+1=za/\za+1=zf):=⟨hza,by omega⟩;rw[Zk,hza] at D0 ⊢;clear hza Zk hzb;go_wp2_with fail
 refine(oO w zb za zf _ l w0 0 false D0).mono ?_;rintro e w1 ⟨m,b0,f1,rfl,hrd,hd,hk2⟩;have R1:=aj (hrd);have D1:=aj (hd);clear hrd hd hk2 D0;have UN:Hid (f1=true->Fe.unpack l=none):=by
  intro hf;rcases R1.2 rfl with⟨-,e⟩|⟨e,-⟩
  ·rw[hf] at e;cases e
  ·exact Fe.aaP e
 have PN:Hid (f1=false->Wd.dN l 0=some (m,b0)):=by
  intro hf;rcases R1.2 rfl with⟨e,-⟩|⟨-,e⟩
  ·exact e
  ·rw[hf] at e;cases e
 obtain⟨cf,tf⟩:=D1.lf;go_upto_region 4 with fail
 go_cut [19] (λv19 W=>∃g:Bool,v19=.bool g/\Dc w zb za zf (slice pa l.length ca) l W b0 g/\(g=true->Fe.unpack l=none)/\(g=false->Wd.dN l 0=some (m,b0)/\0<=m/\m<=6000))
 case first=>
  cases f1 with
  |true=>
   have UT:=aj (UN rfl);clear UN PN R1;have DN:Hid (Dc w zb za zf _ l _ b0 true):=D1.aaQ.1;go_wp2;go_meet
   case rel=>exact⟨true,rfl,DN,λ_=>UT,λh=>(by cases h)⟩
  |false=>
   have PT:=aj (PN rfl);clear UN PN R1;by_cases hm:0<=m/\m<=6000
   ·have WI:=lF m 0 6000 true (decide_eq_true hm)
    have HM:=aj (hm);have DN:Hid (Dc w zb za zf _ l _ b0 false):=D1.aaQ.1;clear hm;go_wp2_with fail
    refine(WI _).mono ?_;rintro e w2 ⟨rfl,rfl⟩;go_wp2;go_meet
    case rel=>exact⟨false,rfl,DN,λh=>(by cases h),λ_=>⟨PT,HM.1,HM.2⟩⟩
   ·have WI:=lF m 0 6000 false (decide_eq_false hm)
    have UF:=aj (Fe.YA PT hm);have DN:Hid (Dc w zb za zf _ l _ b0 true):=D1.aaQ.1;clear hm;go_wp2_with fail
    refine(WI _).mono ?_;rintro e w2 ⟨rfl,rfl⟩;go_wp2;go_meet
    case rel=>exact⟨true,rfl,DN,λ_=>UF,λh=>(by cases h)⟩
 case rest=>
 obtain⟨g,rfl,hd,hg1,hg2⟩:=hcut;have D2:=aj (hd);have G:=aj (dJ hg1 hg2);clear hd hg1 hg2 D1 cf tf R1 UN PN;go_wp2_with fail
 go_loopw [9,10] (λpv lv W=>∃(n:Nat) (ls:List gW) (p:Int) (a:Nat) (f:Bool),ls.length=n/\n<=6000/\pv=int i64 p/\nK W (zf+1) lv ls/\Dc w zb za zf (slice pa l.length ca) l W a f/\(f=true->Fe.unpack l=none)/\(f=false->Wd.dN l 0=some (m,b0)/\0<=m/\m<=6000/\(n:Int)<=m/\Fe.ptr l b0 n=some (ls,p,a))) (λ_ lv _=>m.toNat-slen lv)
 case atStart=>exact⟨0,[],0,b0,g,rfl,aZ _,rfl,nK.nil _ _,D2,G.1,λh=>⟨(G.2 h).1,(G.2 h).2.1,(G.2 h).2.2,(G.2 h).2.1,rfl⟩⟩
 case round=>
 obtain⟨n,ls,p,a,f,hln,hn6,rfl,ho,hd,hf1,hf2⟩:=hrel;have LN:=aj (hln);have O:=aj (ho);have D3:=aj (hd);have F1:=aj (hf1);have F2:=aj (hf2);have BW:Hid (Below w.heap.size w wr):=by unfold Hid;rw[HZ.out];exact D3.bl
 obtain⟨op,oc,rfl⟩:=ho.len;obtain⟨cf,tf⟩:=D3.lf;obtain⟨cl,tl⟩:=D3.la;clear ho hd hf1 hf2 D2 G;rw[hln];clear hln;cases f with
 |true=>
  have UN:=aj (F1 rfl);by_cases hnm:(n:Int)<m
  ·go_wp2
   go_ret3;exact⟨_,_,_,rfl,.inl ⟨UN,rfl,rfl,Er.no (by decide)⟩,BW⟩
  ·go_wp2
   go_ret3;exact⟨_,_,_,rfl,.inl ⟨UN,rfl,rfl,Er.no (by decide)⟩,BW⟩
 |false=>
  obtain⟨pm,hm0,hm6,hnm,abN⟩:=F2 rfl;have PM:=aj (pm);have PT:=aj (abN);clear pm abN F1 F2;by_cases hne:(n:Int)=m
  ·have hlt:¬(n:Int)<m:=by omega
   have UA:=aj (Fe.YD PM hm6 hne PT);have OC:Hid (VK wr (slice op n oc) ls):=by
    have:=O.l;rw[LN.out] at this;exact this
   go_wp2_with fail
   refine(qm 65 (by intro args w;go_simp) _ #[] ls (λ_=>true) wr OC (λW hW c hc=>qZ c W)).mono ?_;rintro e w5 ⟨r,rfl,hr,hb⟩;have B5:=aG BW hb;have O5:Hid (nK w5 w.heap.size (slice op n oc) ls):=by
    have:=(O.below hb).mono (base':=w.heap.size) (by have:=HZ2.out;have:=HZ.out;omega);rw[LN.out] at this;exact this
   have cl5:w5.cell? ⟨za,0,none⟩=some (int i64 (a:Nat)):=by rw[hb.cell (p:=⟨za,0,none⟩) (cell_lt cl)];exact cl
   have CF:Hid (Er r (Fe.iL (λ_=>true) (-1) ls)):=by
    have:chk (λ_=>true) ls=Fe.iL (λ_=>true) (-1) ls:=by unfold chk;rw[if_neg (by rw[LN.out];omega)]
    rw[this] at hr;exact hr
   clear hr hb OC;rcases CF.out with⟨h0,rfl⟩|⟨h0,rfl⟩
   ·have UE:Hid (Fe.unpack l=some (ls,a)):=by unfold Hid;rw[UA.out,if_pos h0]
    have BQ:Hid (∀q,Below _ w (w5.drewN q)):=λq=>⟨B5.os,B5.tape,B5.output,B5.size,B5.block⟩
    have OQ:Hid (∀q,nK (w5.drewN q) _ _ ls):=λq=>O5
    clear h0;go_wp2;go_quiet (fail);go_wp2;go_ret3;exact⟨_,_,_,rfl,.inr ⟨ls,a,UE,rfl,rfl,OQ _⟩,BQ _⟩
   ·have UE:Hid (Fe.unpack l=none):=by unfold Hid;rw[UA.out,if_neg h0]
    clear h0;go_wp2;go_ret3;exact⟨_,_,_,rfl,.inl ⟨UE,rfl,rfl,Er.no (by decide)⟩,B5⟩
  have hlt:(n:Int)<m:=by omega
  go_wp2_with fail
  refine(oO w zb za zf _ l wr a false D3).mono ?_;rintro e w2 ⟨x,a1,f1,rfl,hr1,hd1,hk1⟩;have R1:=aj (hr1);have E1:=aj (hd1);have K1:=aj (hk1);clear hr1 hd1 hk1;go_wp2_with fail
  refine(oO w zb za zf _ l w2 a1 f1 E1).mono ?_;rintro e w3 ⟨y,a2,f2,rfl,hr1,hd1,hk1⟩;have R2:=aj (hr1);have E2:=aj (hd1);have K2':=aj (K1.trans hk1);clear hr1 hd1 hk1;go_wp2_with fail
  refine(oO w zb za zf _ l w3 a2 f2 E2).mono ?_;rintro e w4 ⟨zz,a3,f3,rfl,hr1,hd1,hk1⟩;have R3:=aj (hr1);have E3:=aj (hd1);have K3:=aj (K2'.trans hk1);clear hr1 hd1 hk1;have PX:=aj (Fe.Vp PT R1 R2 R3);simp only[Fe.wrap,Vo] at PX;obtain⟨x',hx'⟩:∃v,wrap64 (p+x)=v:=⟨_,rfl⟩;obtain⟨y',hy'⟩:∃v,wrap64 (y-1)=v:=⟨_,rfl⟩;obtain⟨z',hz'⟩:∃v,wrap64 (zz-1)=v:=⟨_,rfl⟩;rw[hx',hy',hz'] at PX;have O4:Hid (nK w4 (zf+1) (slice op n oc) ls):=by
   have:=fJ O K3 (by have:=HZ2.out;omega) (by omega);rw[LN.out] at this;unfold Hid nK;rw[LN.out];exact this
  have S4:Hid (zf+1<=w4.heap.size):=E3.ltf
  try rw[hx']
  go_wp2_with (at_builtin;refine U_ _ rfl _ _ rfl _ _ ls rfl (O4.alloc _) _ _ rfl (UR.mk' ⟨x',y',z'⟩ rfl) (by rw[LN.out];omega) (by have:=S4.out;simp;omega) ?_);intro gg cap w5 o5 g5 _ l5;have O5:=aj (o5);have hob:∀j,(slice op n oc).ownBlock=some j->zf+1<=j:=λj hj=>(O4.block j hj).1
  have B5:=aj ((aB.alloc S4 _).grown g5 (by have:=S4.out;simp;omega) hob);have E5:=aj (E3.kept B5);clear o5 g5 l5 hob;go_wp2;go_roundw
  case rel=>exact⟨n+1,ls++[⟨x',y',z'⟩],x',a3,f3,by rw[aC,LN.out];rfl,by omega,rfl,O5.out,E5.out,λh=>by
   rcases PX.out with⟨e,-⟩|⟨-,e⟩
   ·rw[h] at e;cases e
   ·exact Fe.OJ PM (by omega) e,λh=>by
   rcases PX.out with⟨-,e⟩|⟨e,-⟩
   ·exact⟨PM,hm0,hm6,by omega,e⟩
   ·rw[h] at e;cases e⟩
  case measure=>simp[slen,LN.out];omega
def jX(zb za zf:Nat):Value:=.func (.func 72) #[] #[.pointer (some ⟨zb,0,none⟩),.pointer (some ⟨za,0,none⟩),.pointer (some ⟨zf,0,none⟩)]
theorem dL(w0:World)(zb za zf:Nat)(v:Value)(l:List UInt8)(w:World)(a:Nat)(f:Bool)(h:Dc w0 zb za zf v l w a f):
  Calls prog 72 #[.pointer (some ⟨zb,0,none⟩),.pointer (some ⟨za,0,none⟩),.pointer (some ⟨zf,0,none⟩)] w (lZ w0 zb za zf v l w a f):=by
 have D:Hid (Dc w0 zb za zf v l w a f):=h;have B:Hid (By w v l):=h.VL;obtain⟨ad,cap,rfl,h1,h2,h3⟩:=h.VL;have cb:=h.cb;obtain⟨ca,fa⟩:=h.la;obtain⟨cf,ff⟩:=h.lf;have le:=h.le;have cm:cap<=9223372036854775807:=by unfold maxLen at h2;omega
 clear h h2 h3;go_enter func72,ntmps72;go_wp2_with fail
 all_goals
  refine(Eo _ (l.drop a) _ (by first|exact B.drop le|exact By.end_ _ _ _ (by omega))).mono ?_;rintro e w1 ⟨⟨u,rfl,hu⟩,rfl⟩;have ne:za≠zf:=by have:=D.af;omega
  have ne':zf≠za:=λe=>ne e.symm
  unfold jr at hu;cases hr:Wd.rd 0 0 (l.drop a) with
  |none=>
   rw[hr] at hu;subst hu;have E:Hid (Wd.dN l a=none):=by unfold Hid Wd.dN;rw[hr]
   have F:Hid (lZ w0 zb za zf (slice ad l.length _) l w1 a f (.returned (int i64 0)) ((w1.setCell ⟨za,0,none⟩ (int i64 (a:Nat))).setCell ⟨zf,0,none⟩ (.bool true))):=⟨0,a,true,rfl,⟨λ_=>rfl,λ_=>.inr ⟨E,rfl⟩⟩,(D.put le).1,(D.put le).2⟩;cases f
   all_goals
    go_wp2;go_ret;exact F
  |some p=>
   obtain⟨x,n⟩:=p;rw[hr] at hu;subst hu;obtain⟨k1,k2,k3,k4⟩:=Wd.Ar _ 0 0 x n (by omega) (by decide) hr;rw[jR] at k2;obtain⟨a',ha'⟩:∃a',a+n=a':=⟨_,rfl⟩;have E:Hid (Wd.dN l a=some (Wd.yN x,a')):=by unfold Hid Wd.dN;rw[hr,<-ha']
   have ai:(a:Int)+(n:Int)=(a':Nat):=by omega
   have wa:IntKind.i64.wrap ((a':Nat):Int)=(a':Nat):=by rw[IntKind.wrap_i64];omega
   have hn0:(((n:Nat):Int)==0)=false:=by
    have:¬((n:Nat):Int)=0:=by omega
    simpa using this
   have F:Hid (lZ w0 zb za zf (slice ad l.length _) l w1 a f (.returned (int i64 (Wd.yN x))) ((w1.setCell ⟨za,0,none⟩ (int i64 (a':Nat))).setCell ⟨zf,0,none⟩ (.bool f))):=⟨_,a',f,rfl,⟨λh=>h,λh=>.inl ⟨E,h⟩⟩,(D.put (by omega)).1,(D.put (by omega)).2⟩;clear hr k1 k2 k3 k4 ha';cases f
   all_goals
    go_wp2;go_ret;exact F
def sW(zn zf:Nat):Value:=.func (.func 73) #[] #[.pointer (some ⟨zn,0,none⟩),.pointer (some ⟨zf,0,none⟩)]
structure Ds(w0:World)(zb za zf zn:Nat)(v:Value)(l:List UInt8)(w:World)(a:Nat)(f:Bool):Prop where
 d:Dc w0 zb za zf v l w a f
 fn:zf<zn
 cn:w.cell? ⟨zn,0,none⟩=some (jX zb za zf)
theorem Ds.lt(h:Ds w0 zb za zf zn v l w a f):zn<w.heap.size:=cell_lt h.cn
theorem Ds.kept(h:Ds w0 zb za zf zn v l w a f)(hb:Below (zn+1) w w'):Ds w0 zb za zf zn v l w' a f:=by
 have:=h.fn;exact⟨h.d.kept (hb.mono (by omega)),h.fn,by rw[hb.cell (p:=⟨zn,0,none⟩) (by show zn<_;omega)];exact h.cn⟩
theorem Ds.to(h:Ds w0 zb za zf zn v l w a f)(d:Dc w0 zb za zf v l w' a' f')(k:K2 za zf w w'):Ds w0 zb za zf zn v l w' a' f':=by
 have h1:=h.fn;have h2:=h.d.af;exact⟨d,h.fn,by rw[k.cell ⟨zn,0,none⟩ h.lt (by show zn≠_;omega) (by show zn≠_;omega)];exact h.cn⟩
theorem Dc.flag(h:Dc w0 zb za zf v l w a f):Dc w0 zb za zf v l (w.setCell ⟨zf,0,none⟩ (.bool f')) a f'/\K2 za zf w (w.setCell ⟨zf,0,none⟩ (.bool f')):=by
 have h1:=h.ba;have h2:=h.af;have hs:K2 za zf w (w.setCell ⟨zf,0,none⟩ (.bool f')):=K2.aaO w 0 _;have lf:=h.ltf;refine⟨⟨h.src,h.low,h.ba,h.af,hs.below h.bl (by omega) (by omega) (by omega),?_,?_,?_,h.le⟩,hs⟩
 ·rw[hs.cell ⟨zb,0,none⟩ (by show zb<_;omega) (by show zb≠_;omega) (by show zb≠_;omega)];exact h.cb
 ·exact(Below.heap_setCell w ⟨zf,0,none⟩ _ _ (by show za≠zf;omega)).trans h.ca
 ·exact heap_setCell_same _ zf 0 _ _ (.bool f') h.cf
def Vq(w0:World)(zb za zf:Nat)(v:Value)(l:List UInt8)(w:World)(a:Nat)(f:Bool)(e:Ending)(w':World):Prop:=
 ∃(n a':Nat) (f':Bool),e=.returned (int i64 (n:Nat))/\n<=200/\Wd.Rd (Wd.kT l) a f n a' f'/\Dc w0 zb za zf v l w' a' f'/\K2 za zf w w'
theorem Ep{n:Int}(h:Wd.Rd (Wd.dN l) a f n a' f')(hb:f'=true\/¬(0<=n/\n<=200)):Wd.Rd (Wd.kT l) a f 0 a' true:=by
 refine⟨λ_=>rfl,λhf=>.inr ⟨?_,rfl⟩⟩;unfold Wd.kT;rcases h.2 hf with⟨e,e2⟩|⟨e,e2⟩
 ·rw[e]
  rcases hb with hb|hb
  ·rw[e2] at hb;cases hb
  ·simp only[if_neg hb]
 ·rw[e]
theorem YE(h:Wd.Rd (Wd.dN l) a f (n:Int) a' false)(hb:n<=200):Wd.Rd (Wd.kT l) a f n a' false:=by
 refine⟨h.1,λhf=>?_⟩;rcases h.2 hf with⟨e,e2⟩|⟨e,e2⟩
 ·refine .inl ⟨?_,rfl⟩
  unfold Wd.kT;rw[e];simp only;rw[if_pos (by omega)];rfl
 ·cases e2
theorem sF(w0:World)(zb za zf zn:Nat)(v:Value)(l:List UInt8)(w:World)(a:Nat)(f:Bool)(h:Ds w0 zb za zf zn v l w a f):
  Calls prog 73 #[.pointer (some ⟨zn,0,none⟩),.pointer (some ⟨zf,0,none⟩)] w (Vq w0 zb za zf v l w a f):=by
 have D:Hid (Ds w0 zb za zf zn v l w a f):=h;have cn:=h.cn;clear h;unfold jX at cn;go_enter func73,ntmps73;go_wp2_with fail
 refine(dL w0 zb za zf v l w a f D.d).mono ?_;rintro e w1 ⟨n,a1,f1,rfl,hrd,hd,hk⟩;have R:Hid (Wd.Rd (Wd.dN l) a f n a1 f1):=hrd;have D1:Hid (Dc w0 zb za zf v l w1 a1 f1):=hd;have K1:Hid (K2 za zf w w1):=hk;obtain⟨cf,ff⟩:=hd.lf;clear hrd hd hk cn;cases f1 with
 |true=>
  go_wp2;go_ret;exact⟨0,a1,true,rfl,by omega,Ep R (.inl rfl),D1.flag.1,K1.trans D1.flag.2⟩
 |false=>
  by_cases hn:0<=n/\n<=200
  ·have hb:decide (0<=n/\n<=200)=true:=decide_eq_true hn
   go_wp2_with fail
   refine(dh n 0 200 w1).mono ?_;rintro e w2 ⟨rfl,rfl⟩;rw[hb];go_wp2;go_ret;obtain⟨m,rfl⟩:∃m:Nat,n=m:=⟨n.toNat,by omega⟩;exact⟨m,a1,false,rfl,by omega,YE R (by omega),D1.flag.1,K1.trans D1.flag.2⟩
  ·have hb:decide (0<=n/\n<=200)=false:=decide_eq_false hn
   go_wp2_with fail
   refine(dh n 0 200 w1).mono ?_;rintro e w2 ⟨rfl,rfl⟩;rw[hb];go_wp2;go_ret;exact⟨0,a1,true,rfl,by omega,Ep R (.inr hn),D1.flag.1,K1.trans D1.flag.2⟩
theorem K2.qo{x:World}(k:K2 y z w x)(h:Below w.heap.size x w'):K2 y z w w':=
 ⟨h.os.trans k.os,h.tape.trans k.tape,h.output.trans k.output,aJ k.size h.size,λi hi hy hz=>(h.block i hi).trans (k.block i hi hy hz)⟩
def aaR(w0:World)(zb za zf zn:Nat)(v:Value)(l:List UInt8)(w:World)(a:Nat)(f:Bool)(e:Ending)(w':World):Prop:=
 ∃(xs:List Int) (a':Nat) (f':Bool) (u:Value),e=.returned u/\Ow w' w.heap.size u xs/\xs.length<=200/\Wd.Rd (Wd.nG l (Wd.dN l)) a f xs a' f'/\Ds w0 zb za zf zn v l w' a' f'/\K2 za zf w w'
theorem Ow.k2{xs:List Int}(h:Ow w base u xs)(k:K2 y z w w')(hy:y<base)(hz:z<base):Ow w' base u xs:=fJ h k hy hz
theorem sG(w0:World)(zb za zf zn:Nat)(v:Value)(l:List UInt8)(w:World)(a:Nat)(f:Bool)(h:Ds w0 zb za zf zn v l w a f):
  Calls prog 117 #[sW zn zf,jX zb za zf] w (aaR w0 zb za zf zn v l w a f):=by
 have D:Hid (Ds w0 zb za zf zn v l w a f):=h;clear h;unfold sW jX;go_enter func117,ntmps117;go_wp2_with fail
 refine(sF w0 zb za zf zn v l w a f D).mono ?_;rintro e w1 ⟨n,a1,f1,rfl,hn,hrd,hd,hk⟩;have R:Hid (Wd.Rd (Wd.kT l) a f n a1 f1):=hrd;have D1:Hid (Ds w0 zb za zf zn v l w1 a1 f1):=D.to hd hk;have K1:Hid (K2 za zf w w1):=hk;clear hrd hd hk;go_wp2;go_loopw [5,8] (λlv iv W=>∃(xs:List Int) (k a':Nat) (f':Bool),iv=int i64 (k:Nat)/\k<=n/\xs.length=k/\Ow W w.heap.size lv xs/\Wd.Rd (Wd.jh (Wd.dN l) k) a1 f1 xs a' f'/\Ds w0 zb za zf zn v l W a' f'/\K2 za zf w W) (λ_ iv _=>n-(intOf iv).toNat)
 case atStart=>exact⟨[],0,a1,f1,rfl,aZ _,rfl,Ow.nil _ _,Wd.Rd.nil _ _ _,D1,K1⟩
 case round=>
  obtain⟨xs,k,a',f',rfl,hkn,hxl,hown,hrd,hds,hk2⟩:=hrel;have O:Hid (Ow wr w.heap.size u5 xs):=hown;have R2:Hid (Wd.Rd (Wd.jh (Wd.dN l) k) a1 f1 xs a' f'):=hrd;have D2:Hid (Ds w0 zb za zf zn v l wr a' f'):=hds;have K2':Hid (K2 za zf w wr):=hk2;have HX:Hid (xs.length=k):=hxl;clear hown hrd hds hk2 hxl;by_cases he:k=n
  ·subst he
   go_wp2;go_ret;exact⟨xs,a',f',_,rfl,O,by rw[HX.out];exact hn,R.list R2,D2,K2'⟩
  ·have hlt:(k:Int)<(n:Int):=by omega
   go_wp2_with fail
   refine(dL w0 zb za zf v l wr a' f' D2.d).mono ?_;rintro e w2 ⟨x,a2,f2,rfl,hrd,hd,hk⟩;have R3:Hid (Wd.Rd (Wd.dN l) a' f' x a2 f2):=hrd;have D3:Hid (Ds w0 zb za zf zn v l w2 a2 f2):=D2.to hd hk;have K3:Hid (K2 za zf wr w2):=hk;clear hrd hd hk;have zw:Hid (zn<w.heap.size/\zf<zn/\za<zf):=⟨D.lt,D.fn,D.d.af⟩;have O3:Hid (Ow w2 w.heap.size u5 xs):=O.k2 K3 (by have:=zw.out;omega) (by have:=zw.out;omega);have S3:Hid (w.heap.size<=w2.heap.size):=aJ K2'.size K3.size;go_wp2_with (at_builtin;refine gG _ rfl _ _ rfl w.heap.size _ xs rfl (O3.alloc _) ⟨w2.heap.size,0,none⟩ x rfl (by simp) (by rw[HX.out];omega) (by have:=S3.out;simp;omega) ?_);intro g cap w5 o5 g5 a5 l5;have hob:∀b,u5.ownBlock=some b->w.heap.size<=b:=λb hb=>(O3.block b hb).1
   have O5:Hid (Ow w5 w.heap.size (slice (some ⟨g,0,none⟩) (xs.length+1) cap) (xs++[x])):=o5;have D5:Hid (Ds w0 zb za zf zn v l w5 a2 f2):=D3.kept ((aB.alloc (by have:=zw.out;have:=S3.out;omega) _).grown g5 (by have:=zw.out;have:=S3.out;simp;omega) (λb hb=>by have:=hob b hb;have:=zw.out;omega));have K5:Hid (K2 za zf w w5):=((K2'.trans K3).trans (K2.of aA)).grown g5 hob;have R5:Hid (Wd.Rd (Wd.jh (Wd.dN l) (k+1)) a1 f1 (xs++[x]) a2 f2):=R2.snoc R3;clear o5 g5 a5 l5 hob;go_wp2;go_roundw
   case rel=>exact⟨xs++[x],k+1,a2,f2,rfl,by omega,by rw[aC,HX.out];rfl,O5,R5,D5,K5⟩
   case measure=>simp[intOf];omega
def KG(w0:World)(zb za zf:Nat)(v:Value)(l:List UInt8)(w:World)(a:Nat)(f:Bool)(e:Ending)(w':World):Prop:=
 ∃(j:bM) (a':Nat) (f':Bool),e=.returned j.val/\Wd.Rd (Wd.Au l) a f j a' f'/\Dc w0 zb za zf v l w' a' f'/\K2 za zf w w'
theorem Vr(w0:World)(zb za zf zx:Nat)(v:Value)(l:List UInt8)(w:World)(a:Nat)(f:Bool)(h:Dc w0 zb za zf v l w a f)(hx:zf<zx)(cx:w.cell? ⟨zx,0,none⟩=some (jX zb za zf)):
  Calls prog 116 #[.pointer (some ⟨zx,0,none⟩)] w (KG w0 zb za zf v l w a f):=by
 have hzx:Hid (zx<w.heap.size):=cell_lt cx;generalize hw0:w.alloc (cells #[int i64 0,int i64 0,int i64 0,int i64 0] 93)=w1;have B1:Hid (Below w.heap.size w w1):=by rw[<-hw0];exact aA
 have Z1:Hid (w1.heap[w.heap.size]? =some (cells #[int i64 0,int i64 0,int i64 0,int i64 0] 93 (0,0))):=by unfold Hid;rw[<-hw0,heap_alloc_new]
 have Hw:Hid (w.alloc (cells #[int i64 0,int i64 0,int i64 0,int i64 0] 93)=w1):=hw0;have D:Hid (Dc w0 zb za zf v l w1 a f):=h.kept (B1.mono (by have:=h.ltf;omega));have cx1:w1.cell? ⟨zx,0,none⟩=some (jX zb za zf):=by rw[B1.out.cell (p:=⟨zx,0,none⟩) hzx.out];exact cx
 have ord:Hid (za<zf/\zf<zx):=⟨h.af,hx⟩;clear h cx hw0;unfold jX at cx1;go_enter func116,ntmps116;go_upto_region 1 with fail
 rw[Hw.out];have cx2:({w1 with drawn:=w1.drawn+1}:World).cell? ⟨zx,0,none⟩=some (.func (.func 72) #[] #[.pointer (some ⟨zb,0,none⟩),.pointer (some ⟨za,0,none⟩),.pointer (some ⟨zf,0,none⟩)]):=cx1;have E0:Hid (Dc w0 zb za zf v l {w1 with drawn:=w1.drawn+1} a f/\Below w.heap.size w {w1 with drawn:=w1.drawn+1}/\K2 za zf w {w1 with drawn:=w1.drawn+1}):=⟨D.kept aB.drew,B1.drew,K2.of B1.drew⟩;have Z2:Hid (({w1 with drawn:=w1.drawn+1}:World).heap[w.heap.size]? =some (cells #[int i64 0,int i64 0,int i64 0,int i64 0] 93 (0,0))):=Z1;refine jT [(true,0),(true,2),(true,4),(true,6),(false,1),(false,3),(false,5),(false,7),(false,8),(false,9)] (λW=>W.cell? ⟨zx,0,none⟩=some (.func (.func 72) #[] #[.pointer (some ⟨zb,0,none⟩),.pointer (some ⟨za,0,none⟩),.pointer (some ⟨zf,0,none⟩)])) (by kernel_rfl) (by kernel_rfl) (by kernel_rfl) (by kernel_rfl) cx1 ?_;generalize ({w1 with drawn:=w1.drawn+1}:World)=w2 at *;refine aQ rfl (.func (.func 72) #[] #[.pointer (some ⟨zb,0,none⟩),.pointer (some ⟨za,0,none⟩),.pointer (some ⟨zf,0,none⟩)]) (by go_simp) (λW hW=>by go_simp) ?_;go_simp;refine aQ rfl (.func (.func 72) #[] #[.pointer (some ⟨zb,0,none⟩),.pointer (some ⟨za,0,none⟩),.pointer (some ⟨zf,0,none⟩)]) (by go_simp) (λW hW=>by go_simp) ?_;go_simp;refine aQ rfl (.func (.func 72) #[] #[.pointer (some ⟨zb,0,none⟩),.pointer (some ⟨za,0,none⟩),.pointer (some ⟨zf,0,none⟩)]) (by go_simp) (λW hW=>by go_simp) ?_;go_simp;refine aQ rfl (.func (.func 72) #[] #[.pointer (some ⟨zb,0,none⟩),.pointer (some ⟨za,0,none⟩),.pointer (some ⟨zf,0,none⟩)]) (by go_simp) (λW hW=>by go_simp) ?_;go_simp;refine bI rfl 72 #[.pointer (some ⟨zb,0,none⟩),.pointer (some ⟨za,0,none⟩),.pointer (some ⟨zf,0,none⟩)] (by go_simp) (by go_simp) ?_;refine(dL w0 zb za zf v l w2 a f E0.1).mono ?_;rintro e x0 ⟨n0,a0,f0,rfl,hrd,hd,hk⟩;have R0:Hid (Wd.Rd (Wd.dN l) a f n0 a0 f0):=hrd;have Q0:Hid (Dc w0 zb za zf v l x0 a0 f0/\K2 za zf w2 x0):=⟨hd,hk⟩;clear hrd hd hk;refine⟨_,rfl,?_,?_⟩
 ·have:=ord.out
  have:=hzx.out;rw[Q0.out.2.cell ⟨zx,0,none⟩ (by have:=E0.out.2.1.size;show zx<_;omega) (by show zx≠_;omega) (by show zx≠_;omega)];exact cx2
 go_simp;refine bI rfl 72 #[.pointer (some ⟨zb,0,none⟩),.pointer (some ⟨za,0,none⟩),.pointer (some ⟨zf,0,none⟩)] (by go_simp) (by go_simp) ?_;refine(dL w0 zb za zf v l x0 a0 f0 Q0.1).mono ?_;rintro e x1 ⟨n1,a1,f1,rfl,hrd,hd,hk⟩;have R1:Hid (Wd.Rd (Wd.dN l) a0 f0 n1 a1 f1):=hrd;have Q1:Hid (Dc w0 zb za zf v l x1 a1 f1/\K2 za zf w2 x1):=⟨hd,Q0.2.trans hk⟩;clear hrd hd hk;refine⟨_,rfl,?_,?_⟩
 ·have:=ord.out
  have:=hzx.out;rw[Q1.out.2.cell ⟨zx,0,none⟩ (by have:=E0.out.2.1.size;show zx<_;omega) (by show zx≠_;omega) (by show zx≠_;omega)];exact cx2
 go_simp;refine bI rfl 72 #[.pointer (some ⟨zb,0,none⟩),.pointer (some ⟨za,0,none⟩),.pointer (some ⟨zf,0,none⟩)] (by go_simp) (by go_simp) ?_;refine(dL w0 zb za zf v l x1 a1 f1 Q1.1).mono ?_;rintro e x2 ⟨n2,a2,f2,rfl,hrd,hd,hk⟩;have R2:Hid (Wd.Rd (Wd.dN l) a1 f1 n2 a2 f2):=hrd;have Q2:Hid (Dc w0 zb za zf v l x2 a2 f2/\K2 za zf w2 x2):=⟨hd,Q1.2.trans hk⟩;clear hrd hd hk;refine⟨_,rfl,?_,?_⟩
 ·have:=ord.out
  have:=hzx.out;rw[Q2.out.2.cell ⟨zx,0,none⟩ (by have:=E0.out.2.1.size;show zx<_;omega) (by show zx≠_;omega) (by show zx≠_;omega)];exact cx2
 go_simp;refine bI rfl 72 #[.pointer (some ⟨zb,0,none⟩),.pointer (some ⟨za,0,none⟩),.pointer (some ⟨zf,0,none⟩)] (by go_simp) (by go_simp) ?_;refine(dL w0 zb za zf v l x2 a2 f2 Q2.1).mono ?_;rintro e x3 ⟨n3,a3,f3,rfl,hrd,hd,hk⟩;have R3:Hid (Wd.Rd (Wd.dN l) a2 f2 n3 a3 f3):=hrd;have Q3:Hid (Dc w0 zb za zf v l x3 a3 f3/\K2 za zf w2 x3):=⟨hd,Q2.2.trans hk⟩;clear hrd hd hk;refine⟨_,rfl,?_,?_⟩
 ·have:=ord.out
  have:=hzx.out;rw[Q3.out.2.cell ⟨zx,0,none⟩ (by have:=E0.out.2.1.size;show zx<_;omega) (by show zx≠_;omega) (by show zx≠_;omega)];exact cx2
 go_simp;have L:Hid (zx<w.heap.size/\w.heap.size<w2.heap.size):=⟨hzx,lt_of_block Z2⟩;have Z:Hid (x3.heap[w.heap.size]? =some (cells #[int i64 0,int i64 0,int i64 0,int i64 0] 93 (0,0))):=by
  unfold Hid;have:=ord.out;have:=L.out;rw[Q3.out.2.block w.heap.size this.2 (by omega) (by omega)];exact Z2
 have c0:x3.cell? ⟨w.heap.size,0,none⟩=some (int i64 0):=by have:=Z.out;simp[World.cell?,this]
 have t0:x3.frozen? ⟨w.heap.size,0,none⟩=false:=by have:=Z.out;simp[World.frozen?,this]
 have c1:x3.cell? ⟨w.heap.size,1,none⟩=some (int i64 0):=by have:=Z.out;simp[World.cell?,this]
 have t1:x3.frozen? ⟨w.heap.size,1,none⟩=false:=by have:=Z.out;simp[World.frozen?,this]
 have c2:x3.cell? ⟨w.heap.size,2,none⟩=some (int i64 0):=by have:=Z.out;simp[World.cell?,this]
 have t2:x3.frozen? ⟨w.heap.size,2,none⟩=false:=by have:=Z.out;simp[World.frozen?,this]
 have c3:x3.cell? ⟨w.heap.size,3,none⟩=some (int i64 0):=by have:=Z.out;simp[World.cell?,this]
 have t3:x3.frozen? ⟨w.heap.size,3,none⟩=false:=by have:=Z.out;simp[World.frozen?,this]
 have Zm:x3.cell? ⟨zx,0,none⟩=some (.func (.func 72) #[] #[.pointer (some ⟨zb,0,none⟩),.pointer (some ⟨za,0,none⟩),.pointer (some ⟨zf,0,none⟩)]):=by
  have:=ord.out;have:=L.out;rw[Q3.out.2.cell ⟨zx,0,none⟩ (by show zx<_;omega) (by show zx≠_;omega) (by show zx≠_;omega)];exact cx2
 have nex:zx≠w.heap.size:=by have:=L.out;omega
 refine aW rfl (.agg #[int i64 n0,int i64 n1,int i64 n2,int i64 n3]) x3 (by go_simp) (by go_simp) Zm ?_;go_simp;have CH:Hid (Below w.heap.size x3 ((((x3.setCell ⟨w.heap.size,0,none⟩ (int i64 n0)).setCell ⟨w.heap.size,1,none⟩ (int i64 n1)).setCell ⟨w.heap.size,2,none⟩ (int i64 n2)).setCell ⟨w.heap.size,3,none⟩ (int i64 n3))):=((((aB.setCell (p:=⟨w.heap.size,0,none⟩) aN _).setCell (p:=⟨w.heap.size,1,none⟩) aN _).setCell (p:=⟨w.heap.size,2,none⟩) aN _).setCell (p:=⟨w.heap.size,3,none⟩) aN _);have ZZ:Hid (((((x3.setCell ⟨w.heap.size,0,none⟩ (int i64 n0)).setCell ⟨w.heap.size,1,none⟩ (int i64 n1)).setCell ⟨w.heap.size,2,none⟩ (int i64 n2)).setCell ⟨w.heap.size,3,none⟩ (int i64 n3)).heap[w.heap.size]? =some (cells #[int i64 n0,int i64 n1,int i64 n2,int i64 n3] 93 (0,0))):=heap_setCell_same _ w.heap.size 3 _ _ (int i64 n3) (heap_setCell_same _ w.heap.size 2 _ _ (int i64 n2) (heap_setCell_same _ w.heap.size 1 _ _ (int i64 n1) (heap_setCell_same _ w.heap.size 0 _ _ (int i64 n0) (Z))));refine iH rfl ((((x3.setCell ⟨w.heap.size,0,none⟩ (int i64 n0)).setCell ⟨w.heap.size,1,none⟩ (int i64 n1)).setCell ⟨w.heap.size,2,none⟩ (int i64 n2)).setCell ⟨w.heap.size,3,none⟩ (int i64 n3)) (by go_simp) (by go_simp) ((CH.cell (p:=⟨zx,0,none⟩) L.1).trans Zm) ?_;go_simp;generalize ((((x3.setCell ⟨w.heap.size,0,none⟩ (int i64 n0)).setCell ⟨w.heap.size,1,none⟩ (int i64 n1)).setCell ⟨w.heap.size,2,none⟩ (int i64 n2)).setCell ⟨w.heap.size,3,none⟩ (int i64 n3))=w3 at *;unfold bC;have FIN:Hid (KG w0 zb za zf v l w a f (.returned (.agg #[int i64 n0,int i64 n1,int i64 n2,int i64 n3])) w3):=⟨⟨n0,n1,n2,n3⟩,a3,f3,rfl,R0.bind (R1.bind (R2.bind (R3.bind (Wd.Rd.ret _ _ _)))),Q3.1.kept (CH.mono (by have:=ord.out;have:=L.out;omega)),(E0.2.2.trans Q3.2).qo CH⟩;have y0:w3.cell? ⟨w.heap.size,0,none⟩=some (int i64 n0):=by have:=ZZ.out;simp[World.cell?,this]
 have y1:w3.cell? ⟨w.heap.size,1,none⟩=some (int i64 n1):=by have:=ZZ.out;simp[World.cell?,this]
 have y2:w3.cell? ⟨w.heap.size,2,none⟩=some (int i64 n2):=by have:=ZZ.out;simp[World.cell?,this]
 have y3:w3.cell? ⟨w.heap.size,3,none⟩=some (int i64 n3):=by have:=ZZ.out;simp[World.cell?,this]
 clear c0 t0 c1 t1 c2 t2 c3 t3;go_wp2;refine bodyPost_ret (v:=.agg #[int i64 n0,int i64 n1,int i64 n2,int i64 n3]) (by simp[results,results116,go_sem,y0,y1,y2,y3]) rfl FIN
def aaS(w0:World)(zb za zf zn:Nat)(v:Value)(l:List UInt8)(w:World)(a:Nat)(f:Bool)(e:Ending)(w':World):Prop:=
 ∃(xs:List bM) (a':Nat) (f':Bool) (u:Value),e=.returned u/\fB w' w.heap.size u xs/\xs.length<=200/\Wd.Rd (Wd.nG l (Wd.Au l)) a f xs a' f'/\Ds w0 zb za zf zn v l w' a' f'/\K2 za zf w w'
theorem OM(w0:World)(zb za zf zn zx:Nat)(v:Value)(l:List UInt8)(w:World)(a:Nat)(f:Bool)(h:Ds w0 zb za zf zn v l w a f)(hx:zf<zx)(cx:w.cell? ⟨zx,0,none⟩=some (jX zb za zf)):
  Calls prog 119 #[sW zn zf,.func (.func 116) #[] #[.pointer (some ⟨zx,0,none⟩)]] w (aaS w0 zb za zf zn v l w a f):=by
 have D:Hid (Ds w0 zb za zf zn v l w a f):=h;have CX:=aj (fQ hx (cell_lt cx) cx);clear h cx hx;unfold sW;go_enter func119,ntmps119;go_wp2_with fail
 refine(sF w0 zb za zf zn v l w a f D).mono ?_;rintro e w1 ⟨n,a1,f1,rfl,hn,hrd,hd,hk⟩;have R:Hid (Wd.Rd (Wd.kT l) a f n a1 f1):=hrd;have D1:Hid (Ds w0 zb za zf zn v l w1 a1 f1):=D.to hd hk;have K1:Hid (K2 za zf w w1):=hk;clear hrd hd hk;go_wp2;go_loopw [5,8] (λlv iv W=>∃(xs:List bM) (k a':Nat) (f':Bool),iv=int i64 (k:Nat)/\k<=n/\xs.length=k/\fB W w.heap.size lv xs/\Wd.Rd (Wd.jh (Wd.Au l) k) a1 f1 xs a' f'/\Ds w0 zb za zf zn v l W a' f'/\K2 za zf w W) (λ_ iv _=>n-(intOf iv).toNat)
 case atStart=>exact⟨[],0,a1,f1,rfl,aZ _,rfl,fB.nil _ _,Wd.Rd.nil _ _ _,D1,K1⟩
 case round=>
  obtain⟨xs,k,a',f',rfl,hkn,hxl,hown,hrd,hds,hk2⟩:=hrel;have O:Hid (fB wr w.heap.size u5 xs):=hown;have R2:Hid (Wd.Rd (Wd.jh (Wd.Au l) k) a1 f1 xs a' f'):=hrd;have D2:Hid (Ds w0 zb za zf zn v l wr a' f'):=hds;have K2':Hid (K2 za zf w wr):=hk2;have HX:Hid (xs.length=k):=hxl;have zw:Hid (zn<w.heap.size/\zf<zn/\za<zf):=⟨D.lt,D.fn,D.d.af⟩;clear hown hrd hds hk2 hxl;by_cases he:k=n
  ·subst he
   go_wp2;go_ret;exact⟨xs,a',f',_,rfl,O,by rw[HX.out];exact hn,R.list R2,D2,K2'⟩
  ·have hlt:(k:Int)<(n:Int):=by omega
   have CR:Hid (wr.cell? ⟨zx,0,none⟩=some (jX zb za zf)):=by
    unfold Hid;have:=CX.out;have:=zw.out;rw[K2'.out.cell ⟨zx,0,none⟩ (by show zx<_;omega) (by show zx≠_;omega) (by show zx≠_;omega)];exact CX.2.2
   go_wp2_with fail
   refine(Vr w0 zb za zf zx v l wr a' f' D2.d CX.1 CR).mono ?_;rintro e w2 ⟨x,a2,f2,rfl,hrd,hd,hk⟩;unfold bM.val;have R3:Hid (Wd.Rd (Wd.Au l) a' f' x a2 f2):=hrd;have D3:Hid (Ds w0 zb za zf zn v l w2 a2 f2):=D2.to hd hk;have K3:Hid (K2 za zf wr w2):=hk;clear hrd hd hk CR;have O3:Hid (fB w2 w.heap.size u5 xs):=fJ O K3 (by have:=zw.out;omega) (by have:=zw.out;omega);have S3:Hid (w.heap.size<=w2.heap.size):=aJ K2'.size K3.size;go_wp2_with (at_builtin;refine Fp _ rfl _ _ rfl w.heap.size _ xs rfl (O3.alloc _) w2.heap.size x rfl (nI.mk' x rfl) (by rw[HX.out];omega) (by have:=S3.out;simp;omega) ?_);intro g cap w5 o5 g5 a5 l5;have hob:∀b,u5.ownBlock=some b->w.heap.size<=b:=λb hb=>(O3.block b hb).1
   have O5:Hid (fB w5 w.heap.size (slice (some ⟨g,0,none⟩) (xs.length+1) cap) (xs++[x])):=o5;have D5:Hid (Ds w0 zb za zf zn v l w5 a2 f2):=D3.kept ((aB.alloc (by have:=zw.out;have:=S3.out;omega) _).grown g5 (by have:=zw.out;have:=S3.out;simp;omega) (λb hb=>by have:=hob b hb;have:=zw.out;omega));have K5:Hid (K2 za zf w w5):=((K2'.trans K3).trans (K2.of aA)).grown g5 hob;have R5:Hid (Wd.Rd (Wd.jh (Wd.Au l) (k+1)) a1 f1 (xs++[x]) a2 f2):=R2.snoc R3;clear o5 g5 a5 l5 hob;go_wp2;go_roundw
   case rel=>exact⟨xs++[x],k+1,a2,f2,rfl,by omega,by rw[aC,HX.out];rfl,O5,R5,D5,K5⟩
   case measure=>simp[intOf];omega
def Es(w0:World)(zb za zf:Nat)(v:Value)(l:List UInt8)(w:World)(a:Nat)(f:Bool)(e:Ending)(w':World):Prop:=
 ∃(j:aI) (a':Nat) (f':Bool),e=.returned j.val/\Wd.Rd (Wd.punit l) a f j a' f'/\Dc w0 zb za zf v l w' a' f'/\K2 za zf w w'
theorem OV(w0:World)(zb za zf zx:Nat)(v:Value)(l:List UInt8)(w:World)(a:Nat)(f:Bool)(h:Dc w0 zb za zf v l w a f)(hx:zf<zx)(cx:w.cell? ⟨zx,0,none⟩=some (jX zb za zf)):
  Calls prog 115 #[.pointer (some ⟨zx,0,none⟩)] w (Es w0 zb za zf v l w a f):=by
 have hzx:Hid (zx<w.heap.size):=cell_lt cx;generalize hw0:w.alloc (cells #[int i64 0,int i64 0,int i64 0,int i64 0,int i64 0,int i64 0,int i64 0,int i64 0] 74)=w1;have B1:Hid (Below w.heap.size w w1):=by rw[<-hw0];exact aA
 have Z1:Hid (w1.heap[w.heap.size]? =some (cells #[int i64 0,int i64 0,int i64 0,int i64 0,int i64 0,int i64 0,int i64 0,int i64 0] 74 (0,0))):=by unfold Hid;rw[<-hw0,heap_alloc_new]
 have Hw:=aj (hw0);have D:=aj (h.kept (B1.mono (by have:=h.ltf;omega)));have cx1:w1.cell? ⟨zx,0,none⟩=some (jX zb za zf):=by rw[B1.out.cell (p:=⟨zx,0,none⟩) hzx.out];exact cx
 have ord:Hid (za<zf/\zf<zx):=⟨h.af,hx⟩;clear h cx hw0;unfold jX at cx1;go_enter func115,ntmps115;go_upto_region 1 with fail
 rw[Hw.out];have cx2:({w1 with drawn:=w1.drawn+1}:World).cell? _=some _:=cx1;have E0:Hid (Dc w0 zb za zf v l {w1 with drawn:=w1.drawn+1} a f/\Below w.heap.size w {w1 with drawn:=w1.drawn+1}/\K2 za zf w {w1 with drawn:=w1.drawn+1}):=⟨D.kept aB.drew,B1.drew,K2.of B1.drew⟩;have Z2:Hid (({w1 with drawn:=w1.drawn+1}:World).heap[w.heap.size]? =some _):=Z1;refine jT [(true,0),(true,2),(true,4),(true,6),(true,8),(true,10),(true,12),(true,14),(false,1),(false,3),(false,5),(false,7),(false,9),(false,11),(false,13),(false,15),(false,16),(false,17)] (λW=>W.cell? _=some _) (by kernel_rfl) (by kernel_rfl) (by kernel_rfl) (by kernel_rfl) cx1 ?_;generalize ({w1 with drawn:=w1.drawn+1}:World)=w2 at *;refine aQ rfl (.func (.func 72) #[] #[.pointer (some ⟨zb,0,none⟩),.pointer (some ⟨za,0,none⟩),.pointer (some ⟨zf,0,none⟩)]) (by go_simp) (λW hW=>by go_simp) ?_;go_simp;refine aQ rfl (.func (.func 72) #[] #[.pointer (some ⟨zb,0,none⟩),.pointer (some ⟨za,0,none⟩),.pointer (some ⟨zf,0,none⟩)]) (by go_simp) (λW hW=>by go_simp) ?_;go_simp;refine aQ rfl (.func (.func 72) #[] #[.pointer (some ⟨zb,0,none⟩),.pointer (some ⟨za,0,none⟩),.pointer (some ⟨zf,0,none⟩)]) (by go_simp) (λW hW=>by go_simp) ?_;go_simp;refine aQ rfl (.func (.func 72) #[] #[.pointer (some ⟨zb,0,none⟩),.pointer (some ⟨za,0,none⟩),.pointer (some ⟨zf,0,none⟩)]) (by go_simp) (λW hW=>by go_simp) ?_;go_simp;refine aQ rfl (.func (.func 72) #[] #[.pointer (some ⟨zb,0,none⟩),.pointer (some ⟨za,0,none⟩),.pointer (some ⟨zf,0,none⟩)]) (by go_simp) (λW hW=>by go_simp) ?_;go_simp;refine aQ rfl (.func (.func 72) #[] #[.pointer (some ⟨zb,0,none⟩),.pointer (some ⟨za,0,none⟩),.pointer (some ⟨zf,0,none⟩)]) (by go_simp) (λW hW=>by go_simp) ?_;go_simp;refine aQ rfl (.func (.func 72) #[] #[.pointer (some ⟨zb,0,none⟩),.pointer (some ⟨za,0,none⟩),.pointer (some ⟨zf,0,none⟩)]) (by go_simp) (λW hW=>by go_simp) ?_;go_simp;refine aQ rfl (.func (.func 72) #[] #[.pointer (some ⟨zb,0,none⟩),.pointer (some ⟨za,0,none⟩),.pointer (some ⟨zf,0,none⟩)]) (by go_simp) (λW hW=>by go_simp) ?_;go_simp;refine bI rfl 72 #[.pointer (some ⟨zb,0,none⟩),.pointer (some ⟨za,0,none⟩),.pointer (some ⟨zf,0,none⟩)] (by go_simp) (by go_simp) ?_;refine(dL w0 zb za zf v l w2 a f E0.1).mono ?_;rintro e x0 ⟨n0,a0,f0,rfl,hrd,hd,hk⟩;have R0:=aj (hrd);have Q0:Hid (Dc w0 zb za zf v l x0 a0 f0/\K2 za zf w2 x0):=⟨hd,hk⟩;clear hrd hd hk;refine⟨_,rfl,?_,?_⟩
 ·have:=ord.out
  have:=hzx.out;rw[Q0.out.2.cell ⟨zx,0,none⟩ (by have:=E0.out.2.1.size;show zx<_;omega) (by show zx≠_;omega) (by show zx≠_;omega)];exact cx2
 go_simp;refine bI rfl 72 #[.pointer (some ⟨zb,0,none⟩),.pointer (some ⟨za,0,none⟩),.pointer (some ⟨zf,0,none⟩)] (by go_simp) (by go_simp) ?_;refine(dL w0 zb za zf v l x0 a0 f0 Q0.1).mono ?_;rintro e x1 ⟨n1,a1,f1,rfl,hrd,hd,hk⟩;have R1:=aj (hrd);have Q1:Hid (Dc w0 zb za zf v l x1 a1 f1/\K2 za zf w2 x1):=⟨hd,Q0.2.trans hk⟩;clear hrd hd hk;refine⟨_,rfl,?_,?_⟩
 ·have:=ord.out
  have:=hzx.out;rw[Q1.out.2.cell ⟨zx,0,none⟩ (by have:=E0.out.2.1.size;show zx<_;omega) (by show zx≠_;omega) (by show zx≠_;omega)];exact cx2
 go_simp;refine bI rfl 72 #[.pointer (some ⟨zb,0,none⟩),.pointer (some ⟨za,0,none⟩),.pointer (some ⟨zf,0,none⟩)] (by go_simp) (by go_simp) ?_;refine(dL w0 zb za zf v l x1 a1 f1 Q1.1).mono ?_;rintro e x2 ⟨n2,a2,f2,rfl,hrd,hd,hk⟩;have R2:=aj (hrd);have Q2:Hid (Dc w0 zb za zf v l x2 a2 f2/\K2 za zf w2 x2):=⟨hd,Q1.2.trans hk⟩;clear hrd hd hk;refine⟨_,rfl,?_,?_⟩
 ·have:=ord.out
  have:=hzx.out;rw[Q2.out.2.cell ⟨zx,0,none⟩ (by have:=E0.out.2.1.size;show zx<_;omega) (by show zx≠_;omega) (by show zx≠_;omega)];exact cx2
 go_simp;refine bI rfl 72 #[.pointer (some ⟨zb,0,none⟩),.pointer (some ⟨za,0,none⟩),.pointer (some ⟨zf,0,none⟩)] (by go_simp) (by go_simp) ?_;refine(dL w0 zb za zf v l x2 a2 f2 Q2.1).mono ?_;rintro e x3 ⟨n3,a3,f3,rfl,hrd,hd,hk⟩;have R3:=aj (hrd);have Q3:Hid (Dc w0 zb za zf v l x3 a3 f3/\K2 za zf w2 x3):=⟨hd,Q2.2.trans hk⟩;clear hrd hd hk;refine⟨_,rfl,?_,?_⟩
 ·have:=ord.out
  have:=hzx.out;rw[Q3.out.2.cell ⟨zx,0,none⟩ (by have:=E0.out.2.1.size;show zx<_;omega) (by show zx≠_;omega) (by show zx≠_;omega)];exact cx2
 go_simp;refine bI rfl 72 #[.pointer (some ⟨zb,0,none⟩),.pointer (some ⟨za,0,none⟩),.pointer (some ⟨zf,0,none⟩)] (by go_simp) (by go_simp) ?_;refine(dL w0 zb za zf v l x3 a3 f3 Q3.1).mono ?_;rintro e x4 ⟨n4,a4,f4,rfl,hrd,hd,hk⟩;have R4:=aj (hrd);have Q4:Hid (Dc w0 zb za zf v l x4 a4 f4/\K2 za zf w2 x4):=⟨hd,Q3.2.trans hk⟩;clear hrd hd hk;refine⟨_,rfl,?_,?_⟩
 ·have:=ord.out
  have:=hzx.out;rw[Q4.out.2.cell ⟨zx,0,none⟩ (by have:=E0.out.2.1.size;show zx<_;omega) (by show zx≠_;omega) (by show zx≠_;omega)];exact cx2
 go_simp;refine bI rfl 72 #[.pointer (some ⟨zb,0,none⟩),.pointer (some ⟨za,0,none⟩),.pointer (some ⟨zf,0,none⟩)] (by go_simp) (by go_simp) ?_;refine(dL w0 zb za zf v l x4 a4 f4 Q4.1).mono ?_;rintro e x5 ⟨n5,a5,f5,rfl,hrd,hd,hk⟩;have R5:=aj (hrd);have Q5:Hid (Dc w0 zb za zf v l x5 a5 f5/\K2 za zf w2 x5):=⟨hd,Q4.2.trans hk⟩;clear hrd hd hk;refine⟨_,rfl,?_,?_⟩
 ·have:=ord.out
  have:=hzx.out;rw[Q5.out.2.cell ⟨zx,0,none⟩ (by have:=E0.out.2.1.size;show zx<_;omega) (by show zx≠_;omega) (by show zx≠_;omega)];exact cx2
 go_simp;refine bI rfl 72 #[.pointer (some ⟨zb,0,none⟩),.pointer (some ⟨za,0,none⟩),.pointer (some ⟨zf,0,none⟩)] (by go_simp) (by go_simp) ?_;refine(dL w0 zb za zf v l x5 a5 f5 Q5.1).mono ?_;rintro e x6 ⟨n6,a6,f6,rfl,hrd,hd,hk⟩;have R6:=aj (hrd);have Q6:Hid (Dc w0 zb za zf v l x6 a6 f6/\K2 za zf w2 x6):=⟨hd,Q5.2.trans hk⟩;clear hrd hd hk;refine⟨_,rfl,?_,?_⟩
 ·have:=ord.out
  have:=hzx.out;rw[Q6.out.2.cell ⟨zx,0,none⟩ (by have:=E0.out.2.1.size;show zx<_;omega) (by show zx≠_;omega) (by show zx≠_;omega)];exact cx2
 go_simp;refine bI rfl 72 #[.pointer (some ⟨zb,0,none⟩),.pointer (some ⟨za,0,none⟩),.pointer (some ⟨zf,0,none⟩)] (by go_simp) (by go_simp) ?_;refine(dL w0 zb za zf v l x6 a6 f6 Q6.1).mono ?_;rintro e x7 ⟨n7,a7,f7,rfl,hrd,hd,hk⟩;have R7:=aj (hrd);have Q7:Hid (Dc w0 zb za zf v l x7 a7 f7/\K2 za zf w2 x7):=⟨hd,Q6.2.trans hk⟩;clear hrd hd hk;refine⟨_,rfl,?_,?_⟩
 ·have:=ord.out
  have:=hzx.out;rw[Q7.out.2.cell ⟨zx,0,none⟩ (by have:=E0.out.2.1.size;show zx<_;omega) (by show zx≠_;omega) (by show zx≠_;omega)];exact cx2
 go_simp;have L:Hid (zx<w.heap.size/\w.heap.size<w2.heap.size):=⟨hzx,lt_of_block Z2⟩;have Z:Hid (x7.heap[w.heap.size]? =some (cells #[int i64 0,int i64 0,int i64 0,int i64 0,int i64 0,int i64 0,int i64 0,int i64 0] 74 (0,0))):=by
  unfold Hid;have:=ord.out;have:=L.out;rw[Q7.out.2.block w.heap.size this.2 (by omega) (by omega)];exact Z2
 have c0:x7.cell? ⟨w.heap.size,0,none⟩=some (int i64 0):=by have:=Z.out;simp[World.cell?,this]
 have t0:x7.frozen? ⟨w.heap.size,0,none⟩=false:=by have:=Z.out;simp[World.frozen?,this]
 have c1:x7.cell? ⟨w.heap.size,1,none⟩=some (int i64 0):=by have:=Z.out;simp[World.cell?,this]
 have t1:x7.frozen? ⟨w.heap.size,1,none⟩=false:=by have:=Z.out;simp[World.frozen?,this]
 have c2:x7.cell? ⟨w.heap.size,2,none⟩=some (int i64 0):=by have:=Z.out;simp[World.cell?,this]
 have t2:x7.frozen? ⟨w.heap.size,2,none⟩=false:=by have:=Z.out;simp[World.frozen?,this]
 have c3:x7.cell? ⟨w.heap.size,3,none⟩=some (int i64 0):=by have:=Z.out;simp[World.cell?,this]
 have t3:x7.frozen? ⟨w.heap.size,3,none⟩=false:=by have:=Z.out;simp[World.frozen?,this]
 have c4:x7.cell? ⟨w.heap.size,4,none⟩=some (int i64 0):=by have:=Z.out;simp[World.cell?,this]
 have t4:x7.frozen? ⟨w.heap.size,4,none⟩=false:=by have:=Z.out;simp[World.frozen?,this]
 have c5:x7.cell? ⟨w.heap.size,5,none⟩=some (int i64 0):=by have:=Z.out;simp[World.cell?,this]
 have t5:x7.frozen? ⟨w.heap.size,5,none⟩=false:=by have:=Z.out;simp[World.frozen?,this]
 have c6:x7.cell? ⟨w.heap.size,6,none⟩=some (int i64 0):=by have:=Z.out;simp[World.cell?,this]
 have t6:x7.frozen? ⟨w.heap.size,6,none⟩=false:=by have:=Z.out;simp[World.frozen?,this]
 have c7:x7.cell? ⟨w.heap.size,7,none⟩=some (int i64 0):=by have:=Z.out;simp[World.cell?,this]
 have t7:x7.frozen? ⟨w.heap.size,7,none⟩=false:=by have:=Z.out;simp[World.frozen?,this]
 have Zm:x7.cell? ⟨zx,0,none⟩=some (.func (.func 72) #[] #[.pointer (some ⟨zb,0,none⟩),.pointer (some ⟨za,0,none⟩),.pointer (some ⟨zf,0,none⟩)]):=by
  have:=ord.out;have:=L.out;rw[Q7.out.2.cell ⟨zx,0,none⟩ (by show zx<_;omega) (by show zx≠_;omega) (by show zx≠_;omega)];exact cx2
 have nex:zx≠w.heap.size:=by have:=L.out;omega
 refine aW rfl (.agg #[int i64 n0,int i64 n1,int i64 n2,int i64 n3,int i64 n4,int i64 n5,int i64 n6,int i64 n7]) x7 (by go_simp) (by go_simp) Zm ?_;go_simp;have CH:Hid (Below w.heap.size x7 ((((((((x7.setCell _ (int i64 n0)).setCell _ (int i64 n1)).setCell _ (int i64 n2)).setCell _ (int i64 n3)).setCell _ (int i64 n4)).setCell _ (int i64 n5)).setCell _ (int i64 n6)).setCell _ (int i64 n7))):=((((((((aB.setCell (p:=⟨w.heap.size,0,none⟩) aN _).setCell (p:=⟨w.heap.size,1,none⟩) aN _).setCell (p:=⟨w.heap.size,2,none⟩) aN _).setCell (p:=⟨w.heap.size,3,none⟩) aN _).setCell (p:=⟨w.heap.size,4,none⟩) aN _).setCell (p:=⟨w.heap.size,5,none⟩) aN _).setCell (p:=⟨w.heap.size,6,none⟩) aN _).setCell (p:=⟨w.heap.size,7,none⟩) aN _);have ZZ:Hid (((((((((x7.setCell _ _).setCell ⟨w.heap.size,1,none⟩ (int i64 n1)).setCell ⟨w.heap.size,2,none⟩ (int i64 n2)).setCell ⟨w.heap.size,3,none⟩ (int i64 n3)).setCell ⟨w.heap.size,4,none⟩ (int i64 n4)).setCell ⟨w.heap.size,5,none⟩ (int i64 n5)).setCell ⟨w.heap.size,6,none⟩ (int i64 n6)).setCell ⟨w.heap.size,7,none⟩ (int i64 n7)).heap[w.heap.size]? =some (cells #[int i64 n0,int i64 n1,int i64 n2,int i64 n3,int i64 n4,int i64 n5,int i64 n6,int i64 n7] 74 (0,0))):=heap_setCell_same _ w.heap.size 7 _ _ (int i64 n7) (heap_setCell_same _ w.heap.size 6 _ _ (int i64 n6) (heap_setCell_same _ w.heap.size 5 _ _ (int i64 n5) (heap_setCell_same _ w.heap.size 4 _ _ (int i64 n4) (heap_setCell_same _ w.heap.size 3 _ _ (int i64 n3) (heap_setCell_same _ w.heap.size 2 _ _ (int i64 n2) (heap_setCell_same _ w.heap.size 1 _ _ (int i64 n1) (heap_setCell_same _ w.heap.size 0 _ _ (int i64 n0) (Z))))))));refine iH rfl _ (by go_simp) (by go_simp) ((CH.cell (p:=⟨zx,0,none⟩) L.1).trans Zm) ?_;go_simp;generalize ((((((((x7.setCell _ _).setCell _ _).setCell _ _).setCell _ _).setCell _ _).setCell _ _).setCell _ _).setCell _ _)=w3 at *;unfold bC;have FIN:Hid (Es w0 zb za zf v l w a f (.returned (.agg #[int i64 n0,int i64 n1,int i64 n2,int i64 n3,int i64 n4,int i64 n5,int i64 n6,int i64 n7])) w3):=⟨⟨n0,n1,n2,n3,n4,n5,n6,n7⟩,a7,f7,rfl,R0.bind (R1.bind (R2.bind (R3.bind (R4.bind (R5.bind (R6.bind (R7.bind (Wd.Rd.ret _ _ _)))))))),Q7.1.kept (CH.mono (by have:=ord.out;have:=L.out;omega)),(E0.2.2.trans Q7.2).qo CH⟩;have y0:w3.cell? ⟨w.heap.size,0,none⟩=some (int i64 n0):=by have:=ZZ.out;simp[World.cell?,this]
 have y1:w3.cell? ⟨w.heap.size,1,none⟩=some (int i64 n1):=by have:=ZZ.out;simp[World.cell?,this]
 have y2:w3.cell? ⟨w.heap.size,2,none⟩=some (int i64 n2):=by have:=ZZ.out;simp[World.cell?,this]
 have y3:w3.cell? ⟨w.heap.size,3,none⟩=some (int i64 n3):=by have:=ZZ.out;simp[World.cell?,this]
 have y4:w3.cell? ⟨w.heap.size,4,none⟩=some (int i64 n4):=by have:=ZZ.out;simp[World.cell?,this]
 have y5:w3.cell? ⟨w.heap.size,5,none⟩=some (int i64 n5):=by have:=ZZ.out;simp[World.cell?,this]
 have y6:w3.cell? ⟨w.heap.size,6,none⟩=some (int i64 n6):=by have:=ZZ.out;simp[World.cell?,this]
 have y7:w3.cell? ⟨w.heap.size,7,none⟩=some (int i64 n7):=by have:=ZZ.out;simp[World.cell?,this]
 clear c0 t0 c1 t1 c2 t2 c3 t3 c4 t4 c5 t5 c6 t6 c7 t7;go_wp2;refine bodyPost_ret (by simp[results,results115,go_sem,y0,y1,y2,y3,y4,y5,y6,y7]) rfl FIN
def aaT(w0:World)(zb za zf zn:Nat)(v:Value)(l:List UInt8)(w:World)(a:Nat)(f:Bool)(e:Ending)(w':World):Prop:=
 ∃(xs:List aI) (a':Nat) (f':Bool) (u:Value),e=.returned u/\fD w' w.heap.size u xs/\xs.length<=200/\Wd.Rd (Wd.nG l (Wd.punit l)) a f xs a' f'/\Ds w0 zb za zf zn v l w' a' f'/\K2 za zf w w'
theorem Jb(w0:World)(zb za zf zn zx:Nat)(v:Value)(l:List UInt8)(w:World)(a:Nat)(f:Bool)(h:Ds w0 zb za zf zn v l w a f)(hx:zf<zx)(cx:w.cell? ⟨zx,0,none⟩=some (jX zb za zf)):
  Calls prog 118 #[sW zn zf,.func (.func 115) #[] #[.pointer (some ⟨zx,0,none⟩)]] w (aaT w0 zb za zf zn v l w a f):=by
 have D:Hid (Ds w0 zb za zf zn v l w a f):=h;have CX:=aj (fQ hx (cell_lt cx) cx);clear h cx hx;unfold sW;go_enter func118,ntmps118;go_wp2_with fail
 refine(sF w0 zb za zf zn v l w a f D).mono ?_;rintro e w1 ⟨n,a1,f1,rfl,hn,hrd,hd,hk⟩;have R:Hid (Wd.Rd (Wd.kT l) a f n a1 f1):=hrd;have D1:Hid (Ds w0 zb za zf zn v l w1 a1 f1):=D.to hd hk;have K1:Hid (K2 za zf w w1):=hk;clear hrd hd hk;go_wp2;go_loopw [5,8] (λlv iv W=>∃(xs:List aI) (k a':Nat) (f':Bool),iv=int i64 (k:Nat)/\k<=n/\xs.length=k/\fD W w.heap.size lv xs/\Wd.Rd (Wd.jh (Wd.punit l) k) a1 f1 xs a' f'/\Ds w0 zb za zf zn v l W a' f'/\K2 za zf w W) (λ_ iv _=>n-(intOf iv).toNat)
 case atStart=>exact⟨[],0,a1,f1,rfl,aZ _,rfl,fD.nil _ _,Wd.Rd.nil _ _ _,D1,K1⟩
 case round=>
  obtain⟨xs,k,a',f',rfl,hkn,hxl,hown,hrd,hds,hk2⟩:=hrel;have O:Hid (fD wr w.heap.size u5 xs):=hown;have R2:Hid (Wd.Rd (Wd.jh (Wd.punit l) k) a1 f1 xs a' f'):=hrd;have D2:Hid (Ds w0 zb za zf zn v l wr a' f'):=hds;have K2':Hid (K2 za zf w wr):=hk2;have HX:Hid (xs.length=k):=hxl;have zw:Hid (zn<w.heap.size/\zf<zn/\za<zf):=⟨D.lt,D.fn,D.d.af⟩;clear hown hrd hds hk2 hxl;by_cases he:k=n
  ·subst he
   go_wp2;go_ret;exact⟨xs,a',f',_,rfl,O,by rw[HX.out];exact hn,R.list R2,D2,K2'⟩
  ·have hlt:(k:Int)<(n:Int):=by omega
   have CR:Hid (wr.cell? ⟨zx,0,none⟩=some (jX zb za zf)):=by
    unfold Hid;have:=CX.out;have:=zw.out;rw[K2'.out.cell ⟨zx,0,none⟩ (by show zx<_;omega) (by show zx≠_;omega) (by show zx≠_;omega)];exact CX.2.2
   go_wp2_with fail
   refine(OV w0 zb za zf zx v l wr a' f' D2.d CX.1 CR).mono ?_;rintro e w2 ⟨x,a2,f2,rfl,hrd,hd,hk⟩;unfold aI.val;have R3:Hid (Wd.Rd (Wd.punit l) a' f' x a2 f2):=hrd;have D3:Hid (Ds w0 zb za zf zn v l w2 a2 f2):=D2.to hd hk;have K3:Hid (K2 za zf wr w2):=hk;clear hrd hd hk CR;have O3:Hid (fD w2 w.heap.size u5 xs):=fJ O K3 (by have:=zw.out;omega) (by have:=zw.out;omega);have S3:Hid (w.heap.size<=w2.heap.size):=aJ K2'.size K3.size;go_wp2_with (at_builtin;refine Zz _ rfl _ _ rfl w.heap.size _ xs rfl (O3.alloc _) w2.heap.size x rfl (fA.mk' x rfl) (by rw[HX.out];omega) (by have:=S3.out;simp;omega) ?_);intro g cap w5 o5 g5 a5 l5;have hob:∀b,u5.ownBlock=some b->w.heap.size<=b:=λb hb=>(O3.block b hb).1
   have O5:Hid (fD w5 w.heap.size (slice (some ⟨g,0,none⟩) (xs.length+1) cap) (xs++[x])):=o5;have D5:Hid (Ds w0 zb za zf zn v l w5 a2 f2):=D3.kept ((aB.alloc (by have:=zw.out;have:=S3.out;omega) _).grown g5 (by have:=zw.out;have:=S3.out;simp;omega) (λb hb=>by have:=hob b hb;have:=zw.out;omega));have K5:Hid (K2 za zf w w5):=((K2'.trans K3).trans (K2.of aA)).grown g5 hob;have R5:Hid (Wd.Rd (Wd.jh (Wd.punit l) (k+1)) a1 f1 (xs++[x]) a2 f2):=R2.snoc R3;clear o5 g5 a5 l5 hob;go_wp2;go_roundw
   case rel=>exact⟨xs++[x],k+1,a2,f2,rfl,by omega,by rw[aC,HX.out];rfl,O5,R5,D5,K5⟩
   case measure=>simp[intOf];omega
end
end Go.Proofs.YtolfphmdmpehdaaGreatDoor
