/- turn.mayBe. And more. -/
import Derived.Test.YtolfphmdmpehdaaGreatDoorZTopQuiet6
set_option linter.unusedVariables false
set_option linter.unusedSimpArgs false
set_option maxHeartbeats 64000000
set_option maxRecDepth 100000
open Go.Value (int slice)
open Go.IntKind (i64)
namespace Go.Proofs.YtolfphmdmpehdaaGreatDoor
open Go.RowKit
theorem maybe_any(vk vw:Value)(ks:List KV)(Y:WV)(k:KV)(o:aK)(w:World)(hk:Kl w vk ks)(hw:Wl w vw Y)(F:qC ks Y)(ob:¬Od.bad o)(hp:o.aA.toNat<Y.gold.length):
  Calls Tryz.prog 102 #[vk,vw,k.val,o.val] w λe w'=>e=.returned (.bool (qB ks Y k o))/\Below w.heap.size w w':=by
 have K:=aj (hk);have H:=aj (hw);have FF:=aj (F);have OK:=Od.uX ob;obtain⟨p1,q1,p2,q2,p3,q3,p4,q4,p5,q5,rfl⟩:=aV hw;obtain⟨pk,qk,rfl,ck1,ck2,kc⟩:=hk;obtain⟨an,han⟩:∃an:Nat,o.arg=an:=⟨o.arg.toNat,by omega⟩;obtain⟨pn,hpn⟩:∃pn:Nat,o.aA=pn:=⟨o.aA.toNat,by omega⟩;have Sm:Hid (o.arg=(an:Nat)/\o.aA=(pn:Nat)):=⟨han,hpn⟩;have hpl:pn<Y.gold.length:=by rw[hpn] at hp;simpa using hp
 have MB:Hid (∀b,qB ks Y k o=b->Value.bool (qB ks Y k o)=.bool b):=λb h=>by rw[h]
 have WH:o.what=0\/o.what=1\/o.what=2\/o.what=3:=by omega
 have MD:Hid (qB ks Y k o=if o.what=1 then decide _ else if o.what=2 then decide _ else if o.what=3 then decide _ else true):=rfl;generalize qB ks Y k o=ans at *;clear MB hw F ob hp kc OK han hpn;unfold KV.val aK.val;go_enter Tryz.func102,Tryz.ntmps102;go_upto_region 1 with fail
 have BA:Hid (Below _ w (w.alloc (Obj.cells #[int i64 Y.turn,int i64 Y.next,int i64 Y.wide,int i64 Y.high,slice p1 Y.gs.length q1,slice p2 Y.os.length q2,slice p3 Y.gold.length q3,slice p4 Y.us.length q4,slice p5 Y.qs.length q5] 29))):=(Below.refl _ _).alloc (Nat.le_refl _) _;have BB:Hid (Below _ _ ((w.alloc (Obj.cells #[int i64 Y.turn,int i64 Y.next,int i64 Y.wide,int i64 Y.high,slice p1 Y.gs.length q1,slice p2 Y.os.length q2,slice p3 Y.gold.length q3,slice p4 Y.us.length q4,slice p5 Y.qs.length q5] 29)).alloc (Obj.cells #[.string k.b,int i64 k.n0,int i64 k.n1,int i64 k.n2,int i64 k.n3,int i64 k.n4,int i64 k.n5,int i64 k.n6,int i64 k.n7,.bool k.f,.bool k.t] 77))):=(Below.refl _ _).alloc (Nat.le_refl _) _;have BC:Hid (Below _ _ (((w.alloc (Obj.cells #[int i64 Y.turn,int i64 Y.next,int i64 Y.wide,int i64 Y.high,slice p1 Y.gs.length q1,slice p2 Y.os.length q2,slice p3 Y.gold.length q3,slice p4 Y.us.length q4,slice p5 Y.qs.length q5] 29)).alloc (Obj.cells #[.string k.b,int i64 k.n0,int i64 k.n1,int i64 k.n2,int i64 k.n3,int i64 k.n4,int i64 k.n5,int i64 k.n6,int i64 k.n7,.bool k.f,.bool k.t] 77)).alloc (Obj.cells #[int i64 o.aA,int i64 o.unit,int i64 o.what,int i64 o.arg] 96))):=(Below.refl _ _).alloc (Nat.le_refl _) _;have X1:=aj (((Wx.new (w:=w) _ _ _ _ _ _ _ _ _ rfl).below BB.out (by simp)).below BC.out (by simp;omega));have KC1:Hid (Kc (((w.alloc (Obj.cells #[int i64 Y.turn,int i64 Y.next,int i64 Y.wide,int i64 Y.high,slice p1 Y.gs.length q1,slice p2 Y.os.length q2,slice p3 Y.gold.length q3,slice p4 Y.us.length q4,slice p5 Y.qs.length q5] 29)).alloc (Obj.cells #[.string k.b,int i64 k.n0,int i64 k.n1,int i64 k.n2,int i64 k.n3,int i64 k.n4,int i64 k.n5,int i64 k.n6,int i64 k.n7,.bool k.f,.bool k.t] 77)).alloc (Obj.cells #[int i64 o.aA,int i64 o.unit,int i64 o.what,int i64 o.arg] 96)) ⟨w.heap.size+1,0,none⟩ k):=(lK (w:=w.alloc (Obj.cells #[int i64 Y.turn,int i64 Y.next,int i64 Y.wide,int i64 Y.high,slice p1 Y.gs.length q1,slice p2 Y.os.length q2,slice p3 Y.gold.length q3,slice p4 Y.us.length q4,slice p5 Y.qs.length q5] 29)) k (by simp)).below BC.out (by simp);have OC1:Hid (kW (((w.alloc (Obj.cells #[int i64 Y.turn,int i64 Y.next,int i64 Y.wide,int i64 Y.high,slice p1 Y.gs.length q1,slice p2 Y.os.length q2,slice p3 Y.gold.length q3,slice p4 Y.us.length q4,slice p5 Y.qs.length q5] 29)).alloc (Obj.cells #[.string k.b,int i64 k.n0,int i64 k.n1,int i64 k.n2,int i64 k.n3,int i64 k.n4,int i64 k.n5,int i64 k.n6,int i64 k.n7,.bool k.f,.bool k.t] 77)).alloc (Obj.cells #[int i64 o.aA,int i64 o.unit,int i64 o.what,int i64 o.arg] 96)) ⟨w.heap.size+1+1,0,none⟩ o):=kW.mk' (w:=(w.alloc (Obj.cells #[int i64 Y.turn,int i64 Y.next,int i64 Y.wide,int i64 Y.high,slice p1 Y.gs.length q1,slice p2 Y.os.length q2,slice p3 Y.gold.length q3,slice p4 Y.us.length q4,slice p5 Y.qs.length q5] 29)).alloc (Obj.cells #[.string k.b,int i64 k.n0,int i64 k.n1,int i64 k.n2,int i64 k.n3,int i64 k.n4,int i64 k.n5,int i64 k.n6,int i64 k.n7,.bool k.f,.bool k.t] 77)) o (by simp);have B1:=aj (BA.out.trans ((BB.out.trans (BC.out.mono BB.out.size)).mono BA.out.size));clear BA BB BC;generalize (((w.alloc _).alloc _).alloc _)=w1 at *;have H1:=aj (H.out.below B1.out);obtain⟨x0,x1,x2,x3,x4,x5,x6,x7,x8⟩:=X1.out.cells;obtain⟨k0,k1,k2,k3,k4,k5,k6,k7,k8,k9,k10⟩:=KC1.out;obtain⟨o0,o1,o2,o3⟩:=OC1.out;simp only[Nat.zero_add] at k1 k2 k3 k4 k5 k6 k7 k8 k9 k10 o1 o2 o3;rw[Sm.out.1] at o3;rw[Sm.out.2] at o0;clear X1 KC1 OC1;rcases WH with h|h|h|h
 ·have E:Hid (ans=true):=by have h9:=MD.out;unfold Hid;rw[h9,h,if_neg (by decide),if_neg (by decide),if_neg (by decide)]
  rw[h] at o2;clear MD h;go_wp2;go_ret;exact⟨by rw[E.out];rfl,B1.out⟩
 ·have E:Hid (ans=decide ((an:Int)<(Y.gs.length:Int)/\0<Fd.onto (Y.gs.getD an 0) k.f)):=by have h9:=MD.out;unfold Hid;rw[h9,h,if_pos rfl,Sm.out.1];simp only[Int.toNat_natCast]
  rw[h] at o2;obtain⟨Wn,Hn,e1,e2,G⟩:=FF.out.good;have GG:=aj (G);have FL:=oJ H1.out;rw[e1,e2] at FL;have Vq:=aj (FL);have gl:=G.gl;rw[e1] at x2;rw[e2] at x3;by_cases ha:an<Y.gs.length
  ·obtain⟨g,hg⟩:∃g,Y.gs[an]? =some g:=⟨_,List.getElem?_eq_getElem ha⟩
   have ST:=aj (rZ _ Wn Hn Y.gs Y.os an g k.f w1 Vq.out GG.out (by omega) hg);have E2:Hid (ans=decide (0<Fd.onto g k.f)):=by
    unfold Hid;rw[E.out]
    congr 1
    rw[List.getD_eq_getElem?_getD,hg];exact propext ⟨λh=>h.2,λh=>⟨by omega,h⟩⟩
   clear MD E h e1 e2 G FL Vq gl hg H1;generalize Fd.onto g _=st at *;go_wp2_with fail
   refine ST.out.mono ?_;rintro e w2 ⟨rfl,b2⟩;have B2:=aj (B1.out.trans (b2.mono B1.out.size));clear b2 ST x0 x1 x2 x3 x4 x5 x6 x7 x8 k0 k1 k2 k3 k4 k5 k6 k7 k8 k9 k10 o0 o1 o2 o3;go_wp2;go_ret;exact⟨by rw[E2.out];rfl,B2.out⟩
  ·have hF:Fd.dW (Fd.fault (Wn:Nat) (Hn:Nat) Y.gs Y.os) Y.gs.length [((an:Nat):Int)]≠0:=λh0=>by
    have:=(Bg h0).2.2;omega
   obtain⟨ff,Lj⟩:∃f,Fd.dW (Fd.fault (Wn:Nat) (Hn:Nat) Y.gs Y.os) Y.gs.length [((an:Nat):Int)]=f:=⟨_,rfl⟩;have ST:=aj (GH _ _ _ _ _ _ ff k.f w1 Vq.out Lj (by rw[<-Lj];exact hF));have E2:Hid (ans=false):=by
    unfold Hid;rw[E.out];exact decide_eq_false (λh=>ha (by omega))
   clear MD E h e1 e2 G FL Vq gl H1 hF Lj;go_wp2_with fail
   refine ST.out.mono ?_;rintro e w2 ⟨rfl,b2⟩;have B2:=aj (B1.out.trans (b2.mono B1.out.size));clear b2 ST x0 x1 x2 x3 x4 x5 x6 x7 x8 k0 k1 k2 k3 k4 k5 k6 k7 k8 k9 k10 o0 o1 o2 o3;go_wp2;go_ret;exact⟨by rw[E2.out];rfl,B2.out⟩
 ·have E:Hid (ans=decide ((an:Int)<(Y.os.length:Int)/\0<Y.os.getD an 0/\0<k.n7)):=by have h9:=MD.out;unfold Hid;rw[h9,h,if_neg (by decide),if_pos rfl,Sm.out.1];simp only[Int.toNat_natCast]
  rw[h] at o2;have RO:=H1.out.slices.2.1;obtain⟨a2,c2,e2,r1,r2,r3⟩:=RO;injection e2 with e21 e22 e23
  subst e21 e23;have OI:=Jv p2 Y.os.length q2 an;by_cases ha:an<Y.os.length
  ·obtain⟨g,hg⟩:∃g,Y.os[an]? =some g:=⟨_,List.getElem?_eq_getElem ha⟩
   obtain⟨xo,rfl,-,hxo⟩:=r3 (by rintro hn;rw[hn] at ha;simp at ha);have co:=hxo an g hg;have OC:Hid (Calls Tryz.prog 153 #[slice (some xo) Y.os.length q2,int i64 (an:Nat)] w1 λe w'=>e=.returned (.bool true)/\w'=w1):=by have:=OI w1 (by omega);rw[decide_eq_true ha] at this;exact this
   have E2:Hid (ans=decide (0<g/\0<k.n7)):=by
    unfold Hid;rw[E.out]
    congr 1
    rw[List.getD_eq_getElem?_getD,hg];exact propext ⟨λh=>h.2,λh=>⟨by omega,h⟩⟩
   have hai:((an:Nat):Int)<(Y.os.length:Nat):=by omega
   clear MD E h H1 OI hg hxo r3 e22;by_cases h1:0<g
   ·by_cases h2:0<k.n7
    ·have E3:Hid (ans=true):=by unfold Hid;rw[E2.out];exact decide_eq_true ⟨h1,h2⟩
     go_wp2_with fail
     refine OC.out.mono ?_;rintro e w' ⟨rfl,rfl⟩;go_wp2;go_ret;exact⟨by rw[E3.out];rfl,B1.out⟩
    ·have E3:Hid (ans=false):=by unfold Hid;rw[E2.out];exact decide_eq_false (λh=>h2 h.2)
     have H2:=aj (decide_eq_false h2);go_wp2_with fail
     refine OC.out.mono ?_;rintro e w' ⟨rfl,rfl⟩;go_wp2;go_ret;exact⟨by rw[E3.out];first|rfl|(show Ending.returned (Value.bool (decide (0<k.n7)))=_;rw[H2.out]),B1.out⟩
   ·have E3:Hid (ans=false):=by unfold Hid;rw[E2.out];exact decide_eq_false (λh=>h1 h.1)
    have h1d:=decide_eq_false h1;go_wp2_with fail
    refine OC.out.mono ?_;rintro e w' ⟨rfl,rfl⟩;go_wp2;go_ret;exact⟨by rw[E3.out];rfl,B1.out⟩
  ·have OC:Hid (Calls Tryz.prog 153 #[slice p2 Y.os.length q2,int i64 (an:Nat)] w1 λe w'=>e=.returned (.bool false)/\w'=w1):=by have:=OI w1 (by omega);rw[decide_eq_false ha] at this;exact this
   have E3:Hid (ans=false):=by unfold Hid;rw[E.out];exact decide_eq_false (λh=>ha (by omega))
   clear MD E h H1 OI r3 e22;go_wp2_with fail
   refine OC.out.mono ?_;rintro e w' ⟨rfl,rfl⟩;go_wp2;go_ret;exact⟨by rw[E3.out];rfl,B1.out⟩
 ·have E:Hid (ans=decide (k.t=true/\(an:Int)<(ks.length:Int)/\eY ks an<=Y.gold.getD pn 0/\Y.qs.length<12)):=by have h9:=MD.out;unfold Hid;rw[h9,h,if_neg (by decide),if_neg (by decide),if_pos rfl,Sm.out.1,Sm.out.2];simp only[Int.toNat_natCast]
  rw[h] at o2;have kl:=FF.out.kinds.1;have OI:=DY pk ks.length qk an;have BD:Hid (∀n,Below w.heap.size w (w1.drewN n)):=λn=>⟨B1.out.os,B1.out.tape,B1.out.output,B1.out.size,B1.out.block⟩
  cases hkt:k.t with
  |false=>
   have E3:Hid (ans=false):=by unfold Hid;rw[E.out];exact decide_eq_false (λh=>by rw[hkt] at h;simp at h)
   rw[hkt] at k10;clear MD E h H1 OI hkt;go_upto_region 8 with fail
   go_quiet (fail);go_wp2;go_ret;exact⟨by rw[E3.out];rfl,BD.out _⟩
  |true=>
   rw[hkt] at k10;by_cases ha:an<ks.length
   ·obtain⟨kk,hkk⟩:∃kk,ks[an]? =some kk:=⟨_,List.getElem?_eq_getElem ha⟩
    obtain⟨g,hg⟩:∃g,Y.gold[pn]? =some g:=⟨_,List.getElem?_eq_getElem hpl⟩;have OC:Hid (∀W,Calls Tryz.prog 154 #[slice pk ks.length qk,int i64 (an:Nat)] W λe w'=>e=.returned (.bool true)/\w'=W):=λW=>by have:=OI W (by omega);rw[decide_eq_true ha] at this;exact this
    have K1:=K.out.below B1.out;obtain⟨a',c',e',-,-,hx⟩:=K1;injection e' with e1' e2' e3'
    subst e1' e3';obtain⟨xk,rfl,-,hxk⟩:=hx (by rintro hn;rw[hn] at ha;simp at ha);have c6:=(hxk an kk hkk).c6;obtain⟨a3,c3,e3,r1,r2,r3⟩:=H1.out.slices.2.2.1;injection e3 with e31 e32 e33
    subst e31 e33;obtain⟨xg,rfl,-,hxg⟩:=r3 (by rintro hn;rw[hn] at hpl;simp at hpl);have cg:=hxg pn g hg;have hai:((an:Nat):Int)<(ks.length:Nat):=by omega
    have hpi:((pn:Nat):Int)<(Y.gold.length:Nat):=by omega
    have E2:Hid (ans=decide (kk.n5<=g/\Y.qs.length<12)):=by
     unfold Hid;rw[E.out]
     congr 1
     rw[List.getD_eq_getElem?_getD,hg];have e9:eY ks an=kk.n5:=by unfold eY;rw[Int.toNat_natCast,hkk]
     rw[e9];exact propext ⟨λh=>h.2.2,λh=>⟨hkt,by omega,h.1,h.2⟩⟩
    clear MD E h H1 OI hkt hkk hg hxk hxg hx r3 e2' e32;by_cases h1:kk.n5<=g
    ·have h1d:=decide_eq_true h1
     by_cases h2:Y.qs.length<12
     ·have E3:Hid (ans=true):=by unfold Hid;rw[E2.out];exact decide_eq_true ⟨h1,h2⟩
      have Yn:((Y.qs.length:Nat):Int)<12:=by omega
      go_upto_region 8 with fail
      go_quiet ((go_at_call 154;exact Calls.quiet_of_same (OC.out _)));go_wp2;go_ret;exact⟨by rw[E3.out];rfl,BD.out _⟩
     ·have E3:Hid (ans=false):=by unfold Hid;rw[E2.out];exact decide_eq_false (λh=>h2 h.2)
      have Yn:¬((Y.qs.length:Nat):Int)<12:=by omega
      have h2d:=decide_eq_false Yn;go_upto_region 8 with fail
      go_quiet ((go_at_call 154;exact Calls.quiet_of_same (OC.out _)));go_wp2;go_ret;exact⟨by rw[E3.out];rfl,BD.out _⟩
    ·have h1d:=decide_eq_false h1
     have E3:Hid (ans=false):=by unfold Hid;rw[E2.out];exact decide_eq_false (λh=>h1 h.1)
     go_upto_region 8 with fail
     go_quiet ((go_at_call 154;exact Calls.quiet_of_same (OC.out _)));go_wp2;go_ret;exact⟨by rw[E3.out];rfl,BD.out _⟩
   ·have OC:Hid (∀W,Calls Tryz.prog 154 #[slice pk ks.length qk,int i64 (an:Nat)] W λe w'=>e=.returned (.bool false)/\w'=W):=λW=>by have:=OI W (by omega);rw[decide_eq_false ha] at this;exact this
    have E3:Hid (ans=false):=by unfold Hid;rw[E.out];exact decide_eq_false (λh=>ha (by omega))
    clear MD E h H1 OI hkt;go_upto_region 8 with fail
    go_quiet ((go_at_call 154;exact Calls.quiet_of_same (OC.out _)));go_wp2;go_ret;exact⟨by rw[E3.out];rfl,BD.out _⟩
theorem QT(w:World)(ty:TypeId)(base:Nat)(v:Value)(ks:List aO)(hown:dK w base v ks)(b:Nat)(d:aO)(hd:jS w ⟨b,0,none⟩ d)(hl:ks.length<=1000000)(hbase:base<=w.heap.size):
  ∃g cap w',(Builtin.append_ #[27,27] ty #[v,slice (some ⟨b,0,none⟩) 1 1]).run Tryz.prog w=.ok (slice (some ⟨g,0,none⟩) (ks.length+1) cap) w'/\dK w' base (slice (some ⟨g,0,none⟩) (ks.length+1) cap) (ks++[d])/\w.grownBy w' v.ownBlock/\(v.ownBlock=some g\/g=w.heap.size)/\g<w'.heap.size:=by
 obtain⟨i0,hi,hz0,hz1,hz2⟩:=info_parts sF;obtain⟨g,cap,w6,hr,ho6,hg6,ha6,hl6⟩:=run_append_lies (P:=Tryz.prog) w 27 27 base 93 i0 _ 4 32 Tryz.underlying27 hi hz0 hz1 hz2 rfl (by decide) v ks.length _ hown ⟨b,0,none⟩ 1 1 (aO.cs d) rfl (λj u hj=>by
  have hjn:j<4:=(List.getElem?_eq_some_iff.1 hj).1;rw[Addr.add_lit,Nat.zero_add]
  match j,hjn,hj with
  |0,_,hj=>simp[aO.cs] at hj;subst hj;exact hd.c0
  |1,_,hj=>simp[aO.cs] at hj;subst hj;exact hd.c1
  |2,_,hj=>simp[aO.cs] at hj;subst hj;exact hd.c2
  |3,_,hj=>simp[aO.cs] at hj;subst hj;exact hd.c3) (λu hu=>by
  simp[aO.cs] at hu;rcases hu with rfl|rfl|rfl|rfl<;>rfl) (by decide) (by unfold maxLen;omega) (by omega) hbase _ rfl
 refine⟨g,cap,w6,hr,?_,hg6,ha6,hl6⟩;unfold dK;rw[List.length_append,List.flatMap_append];simpa using ho6
theorem Jy(z gg n cg b1:Nat)(c0 c1 c2 c3 c4 c5 c7:Value)(gold:List Int)(rest:Array Value)(a8:Option Addr)(h8:Nat)(qs:List aO)(k:KV)(o:aK)(pn:Nat)(g:Int)(w:World)
  (X:Wx w z c0 c1 c2 c3 c4 c5 (slice (some ⟨gg,0,none⟩) n cg) c7 (slice a8 qs.length h8)) (B:Bk w gg gold rest) (J:dK w b1 (slice a8 qs.length h8) qs) (hp:o.aA=(pn:Nat)) (hpn:pn<n) (hg:gold[pn]? =some g) (g0:0<=g/\g<=1000000) (k5:0<=k.n5/\k.n5<=1000) (k6:0<=k.n6/\k.n6<=1000) (hq:qs.length<=12)
  (hz:z<b1) (hgb:b1<=gg) (hb:b1<=w.heap.size) (hd:(slice a8 qs.length h8).ownBlock≠some gg):
  Calls Tryz.prog 103 #[.pointer (some ⟨z,0,none⟩),k.val,o.val] w λe w'=>e=.returned (.tuple #[])/\∃a8' h8',Wx w' z c0 c1 c2 c3 c4 c5 (slice (some ⟨gg,0,none⟩) n cg) c7 (slice a8' (qs.length+1) h8')/\Bk w' gg (gold.set pn (g-k.n5)) rest/\dK w' b1 (slice a8' (qs.length+1) h8') (qs++[⟨o.aA,o.unit,o.arg,max k.n6 1⟩])/\Fr (λq=>q=z\/q=gg\/(slice a8 qs.length h8).ownBlock=some q) w w'/\((slice a8' (qs.length+1) h8').ownBlock=(slice a8 qs.length h8).ownBlock\/∃q,(slice a8' (qs.length+1) h8').ownBlock=some q/\w.heap.size<=q):=by
 have X0:=aj (X);have B0:=aj (B);have J0:=aj (J);have NN:=aj (Fe hp hg hz hgb hb hd hpn);have ggl:=B.lt;have JL:Hid (∀q,(slice a8 qs.length h8).ownBlock=some q->q<w.heap.size):=λq hq=>(J.block q hq).2
 have zl:=X.lt;have TT:∃tt,max k.n6 1=tt/\1<=tt/\tt<=1000:=⟨_,rfl,by omega,by omega⟩;obtain⟨tt,htt,tt1,tt2⟩:=TT;have HT:=aj (htt);have zg:¬z=gg:=by omega
 have zs:¬z=w.heap.size:=by omega
 have zs1:¬z=w.heap.size+1:=by omega
 have gs':¬gg=w.heap.size:=by omega
 have gs1:¬gg=w.heap.size+1:=by omega
 have pni:((pn:Nat):Int)<(n:Nat):=by omega
 rw[htt];clear X B J hp hg hd htt hz hgb hb;unfold KV.val aK.val;go_enter Tryz.func103,Tryz.ntmps103;go_upto_region 1 with fail
 have BA:Hid (Below _ w (w.alloc (Obj.cells #[.string k.b,int i64 k.n0,int i64 k.n1,int i64 k.n2,int i64 k.n3,int i64 k.n4,int i64 k.n5,int i64 k.n6,int i64 k.n7,.bool k.f,.bool k.t] 77))):=(Below.refl _ _).alloc (Nat.le_refl _) _;have BB:Hid (Below _ _ ((w.alloc (Obj.cells #[.string k.b,int i64 k.n0,int i64 k.n1,int i64 k.n2,int i64 k.n3,int i64 k.n4,int i64 k.n5,int i64 k.n6,int i64 k.n7,.bool k.f,.bool k.t] 77)).alloc (Obj.cells #[int i64 o.aA,int i64 o.unit,int i64 o.what,int i64 o.arg] 96))):=(Below.refl _ _).alloc (Nat.le_refl _) _;have B1:=aj (BA.out.trans (BB.out.mono BA.out.size));have KC1:=aj ((lK (w:=w) k rfl).below BB.out (by simp));have OC1:Hid (kW ((w.alloc (Obj.cells #[.string k.b,int i64 k.n0,int i64 k.n1,int i64 k.n2,int i64 k.n3,int i64 k.n4,int i64 k.n5,int i64 k.n6,int i64 k.n7,.bool k.f,.bool k.t] 77)).alloc (Obj.cells #[int i64 o.aA,int i64 o.unit,int i64 o.what,int i64 o.arg] 96)) ⟨w.heap.size+1,0,none⟩ o):=kW.mk' (w:=w.alloc (Obj.cells #[.string k.b,int i64 k.n0,int i64 k.n1,int i64 k.n2,int i64 k.n3,int i64 k.n4,int i64 k.n5,int i64 k.n6,int i64 k.n7,.bool k.f,.bool k.t] 77)) o (by simp);clear BA BB;obtain⟨y,hy⟩:∃y,w.heap.size=y:=⟨_,rfl⟩;have HY:=aj (hy);rw[hy] at KC1 OC1 zs zs1 gs' gs1 ⊢;clear hy;generalize ((w.alloc _).alloc _)=w1 at *;have X1:=aj (X0.out.below B1.out zl);have G1:=aj (B0.out.below B1.out);have J1:=aj (J0.out.below B1.out);obtain⟨x0,x1,x2,x3,x4,x5,x6,x7,x8⟩:=X1.out.cells;obtain⟨k0,k1,k2,k3,k4,k5',k6',k7',k8,k9,k10⟩:=KC1.out;obtain⟨o0,o1,o2,o3⟩:=OC1.out;simp only[Nat.zero_add] at k1 k2 k3 k4 k5' k6' k7' k8 k9 k10 o1 o2 o3;rw[NN.out.1] at o0;have YU:=G1.out.cell NN.out.2.1;have tg:=G1.out.thaw pn;have wr:IntKind.i64.wrap (g-k.n5)=g-k.n5:=by rw[IntKind.wrap_i64];omega
 clear X0 B0 J0;go_region;have KZ:Hid (Kp gg w1 (w1.setCell ⟨gg,pn,none⟩ (int i64 (g-k.n5))).drew):=(Kp.set _ _ _).trans (Kp.of (Below.refl _ _).drew);have G2:Hid (Bk (w1.setCell _ _).drew gg (gold.set pn (g-k.n5)) _):=G1.out.set pn _ (List.getElem?_eq_some_iff.1 NN.out.2.1).1;clear x0 x1 x2 x3 x4 x5 x6 x7 x8 k0 k1 k2 k3 k4 k5' k6' k7' k8 k9 k10 o0 o1 o2 o3 YU tg wr;generalize (w1.setCell _ _).drew=w2 at *;have F2:Hid (Fr (λq=>q=gg) w1 w2):=Fr.kp KZ.out rfl;have X2:=aj (F2.out.wx X1.out zg);have J2:Hid (dK w2 b1 (slice a8 qs.length h8) qs):=F2.out.own J1.out (λq hq e=>NN.out.2.2.2.2.2.1 (by rw[hq,e]));have KC2:=aj (KC1.out.kp9 KZ.out (λe=>gs' e.symm));have OC2:Hid (w2.cell? ⟨y+1,0,none⟩=some (int i64 (pn:Nat))/\w2.cell? ⟨y+1,1,none⟩=some (int i64 o.unit)/\w2.cell? ⟨y+1,3,none⟩=some (int i64 o.arg)):=by
  obtain⟨q0,q1,q2,q3⟩:=OC1.out;simp only[Nat.zero_add] at q1 q2 q3;rw[NN.out.1] at q0;exact⟨F2.out.cell q0 (λe=>gs1 e.symm),F2.out.cell q1 (λe=>gs1 e.symm),F2.out.cell q3 (λe=>gs1 e.symm)⟩
 have QB:Hid (∀q,(slice a8 qs.length h8).ownBlock=some q->b1<=q/\q<y):=λq hq=>by
  refine⟨(J2.out.block q hq).1,?_⟩;rw[<-HY.out];exact JL.out q hq
 have CB:Hid (∀V,Fr (λq=>(slice a8 qs.length h8).ownBlock=some q) w2 V->(V.cell? ⟨z,8,none⟩=some (slice a8 qs.length h8)/\V.cell? ⟨y+1,0,none⟩=some (int i64 (pn:Nat))/\V.cell? ⟨y+1,1,none⟩=some (int i64 o.unit)/\V.cell? ⟨y+1,3,none⟩=some (int i64 o.arg)/\V.cell? ⟨y,7,none⟩=some (int i64 k.n6))):=λV hV=>by
  have hy1:¬(slice a8 qs.length h8).ownBlock=some (y+1):=λe=>by have:=(QB.out _ e).2;omega
  have hy0:¬(slice a8 qs.length h8).ownBlock=some y:=λe=>by have:=(QB.out _ e).2;omega
  have YV:¬(slice a8 qs.length h8).ownBlock=some z:=λe=>by have:=(QB.out _ e).1;have:=NN.out.2.2.1;omega
  obtain⟨-,-,-,-,-,-,-,-,x8⟩:=X2.out.cells;have c7:=KC2.out.c7;simp only[Nat.zero_add] at c7;exact⟨hV.cell x8 YV,hV.cell OC2.out.1 hy1,hV.cell OC2.out.2.1 hy1,hV.cell OC2.out.2.2 hy1,hV.cell c7 hy0⟩
 go_upto_region 2 with fail
 refine aH [(true,0),(true,1),(true,2),(true,3),(true,4),(true,5),(true,6),(true,7),(true,8),(true,9),(true,10),(true,11),(true,12),(true,13),(true,14),(false,15),(false,16),(true,17),(true,18)] [(false,19)] (λV=>V.cell? _=some _/\V.cell? _=some _/\V.cell? _=some _/\V.cell? _=some (int i64 o.arg)/\V.cell? ⟨y,7,none⟩=some (int i64 k.n6)) (by kernel_rfl) (by kernel_rfl) (by kernel_rfl) (by decide+kernel) (by decide+kernel) (CB.out _ (Fr.below (Below.refl _ _).drew)) ?_;have D3:Hid (Below w2.heap.size w2 {w2 with drawn:=w2.drawn+1}):=(Below.refl _ _).drew;generalize ({w2 with drawn:=w2.drawn+1}:World)=w3 at *;refine ay rfl (.pointer (some ⟨z,0,none⟩)) (by go_simp) (λV hV=>by go_simp) ?_;go_simp;refine ay rfl (.pointer (some ⟨z,0,none⟩)) (by go_simp) (λV hV=>by go_simp) ?_;go_simp;refine ay rfl (.pointer (some ⟨z,0,none⟩)) (by go_simp) (λV hV=>by go_simp) ?_;go_simp;refine ay rfl (.pointer (some ⟨z,8,none⟩)) (by go_simp) (λV hV=>by go_simp) ?_;go_simp;refine ay rfl (slice a8 qs.length h8) (by go_simp) (λV hV=>by obtain⟨d1,d2,d3,d4,d5⟩:=hV;go_simp) ?_;go_simp;refine ay rfl (.pointer (some ⟨y+1,0,none⟩)) (by go_simp) (λV hV=>by go_simp) ?_;go_simp;refine ay rfl (int i64 (pn:Nat)) (by go_simp) (λV hV=>by obtain⟨d1,d2,d3,d4,d5⟩:=hV;go_simp) ?_;go_simp;refine ay rfl (.pointer (some ⟨y+1,1,none⟩)) (by go_simp) (λV hV=>by go_simp) ?_;go_simp;refine ay rfl (int i64 o.unit) (by go_simp) (λV hV=>by obtain⟨d1,d2,d3,d4,d5⟩:=hV;go_simp) ?_;go_simp;refine ay rfl (.pointer (some ⟨y+1,3,none⟩)) (by go_simp) (λV hV=>by go_simp) ?_;go_simp;refine ay rfl (int i64 o.arg) (by go_simp) (λV hV=>by obtain⟨d1,d2,d3,d4,d5⟩:=hV;go_simp) ?_;go_simp;refine ay rfl (.pointer (some ⟨y,7,none⟩)) (by go_simp) (λV hV=>by go_simp) ?_;go_simp;refine ay rfl (int i64 k.n6) (by go_simp) (λV hV=>by obtain⟨d1,d2,d3,d4,d5⟩:=hV;go_simp) ?_;go_simp;refine ay rfl (int i64 tt) (by go_simp) (λV hV=>by have h9:=HT.out;first|(go_simp;done)|(go_simp;rw[h9])|(simp[h9];go_simp)) ?_;go_simp;refine ay rfl (.agg #[int i64 (pn:Nat),int i64 o.unit,int i64 o.arg,int i64 tt]) (by go_simp) (λV hV=>by go_simp) ?_;go_simp;have BA:Hid (Below _ w3 (w3.alloc (Obj.cells #[int i64 (pn:Nat),int i64 o.unit,int i64 o.arg,int i64 tt] 93))):=(Below.refl _ _).alloc (Nat.le_refl _) _;have EC:Hid (jS (w3.alloc (Obj.cells #[.int _ (pn:Nat),.int _ o.unit,.int _ o.arg,.int _ tt] 93)) _ _):=jS.mk' ⟨(pn:Nat),o.unit,o.arg,tt⟩ rfl;refine dw rfl (slice (some ⟨w3.heap.size,0,none⟩) 1 1) (w3.alloc (Obj.cells #[int i64 (pn:Nat),int i64 o.unit,int i64 o.arg,int i64 tt] 93)) (by go_simp) (by go_simp) (CB.out _ (Fr.below (D3.out.trans (BA.out.mono D3.out.size)))) ?_;go_simp;generalize (w3.alloc _)=w4 at *;have D4:=aj (D3.out.trans (BA.out.mono D3.out.size));have J4:=aj (J2.out.below D4.out);have S4:Hid (b1<=w4.heap.size/\w.heap.size<=w4.heap.size):=by have h1:=D4.out.size;have h2:=F2.out.size;have h3:=B1.out.size;have h4:=NN.out.2.2.2.2.1;exact⟨by omega,by omega⟩
 obtain⟨gq,gc,w5,hr,ho5,hg5,hw5,-⟩:=QT w4 27 b1 _ qs J4.out _ _ EC.out (by omega) S4.out.1;have FQ:=aj ((Fr.below D4.out).trans (Fr.gb hg5 (λq hq=>hq)));refine dw rfl _ w5 (by go_simp) (f_ _ _ _ _ rfl _ _ (by go_simp) (by go_simp) hr) (CB.out _ FQ.out) ?_;go_simp;refine ay rfl (.pointer (some ⟨z,0,none⟩)) (by go_simp) (λV hV=>by go_simp) ?_;go_simp;refine ay rfl (.pointer (some ⟨z,8,none⟩)) (by go_simp) (λV hV=>by go_simp) ?_;go_simp;unfold aW;have X5:=aj (FQ.out.wx X2.out (λe=>by have:=(QB.out _ e).1;have:=NN.out.2.2.1;omega));have t8:=X5.out.thaw 8;obtain⟨-,-,-,-,-,-,-,-,x8⟩:=X5.out.cells;have KX:Hid (Kp z w5 (w5.setCell ⟨z,8,none⟩ (slice (some ⟨gq,0,none⟩) (qs.length+1) gc))):=Kp.set _ _ _;have X6:Hid (Wx _ z c0 c1 c2 c3 c4 c5 _ c7 (slice (some ⟨gq,0,none⟩) (qs.length+1) gc)):=X5.out.Gn _;have J5:=aj (ho5);have GQ:Hid ((slice (some ⟨gq,0,none⟩) (qs.length+1) gc).ownBlock=(slice a8 qs.length h8).ownBlock\/∃q,(slice (some ⟨gq,0,none⟩) (qs.length+1) gc).ownBlock=some q/\w.heap.size<=q):=by
  rcases hw5 with h|h
  ·exact .inl h.symm
  ·exact .inr ⟨gq,rfl,by rw[h];exact S4.out.2⟩
 clear hr ho5 hg5 hw5;refine g_ rfl (w5.setCell ⟨z,8,none⟩ (slice (some ⟨gq,0,none⟩) (qs.length+1) gc)) (by go_simp) (by go_simp) trivial ?_;go_simp;clear t8 x8;generalize (w5.setCell _ _)=w6 at *;unfold aP;have FA:Hid (Fr (λq=>q=z\/q=gg\/(slice a8 qs.length h8).ownBlock=some q) w w6):=(((Fr.below B1.out).trans (F2.out.mono (λq h=>.inr (.inl h)))).trans (FQ.out.mono (λq h=>.inr (.inr h)))).trans (Fr.kp KX.out (.inl rfl));have G6:Hid (Bk w6 gg (gold.set pn (g-k.n5)) rest):=by
  have h5:Bk w5 gg _ _:=(FQ.out.block gg G2.out.lt NN.out.2.2.2.2.2.1).trans G2.out;exact(KX.out.block gg (lt_of_block h5) (λe=>zg e.symm)).trans h5
 have J6:Hid (dK w6 b1 (slice (some ⟨gq,0,none⟩) (qs.length+1) gc) (qs++[⟨o.aA,o.unit,o.arg,tt⟩])):=by
  have h5:=J5.out;rw[<-NN.out.1] at h5;exact h5.kp KX.out NN.out.2.2.1
 go_wp2;go_end0;exact⟨rfl,_,_,X6.out,G6.out,J6.out,FA.out,GQ.out⟩
theorem Jz(x b:Int)(w:World):
  Calls Tryz.prog 223 #[int i64 x,int i64 b] w λe w'=>e=.returned (.bool (decide (0<=x/\x<=b)))/\w'=w:=by
 by_cases h1:0<=x
 ·by_cases h2:x<=b
  ·go_enter Tryz.func223,Tryz.ntmps223
   go_wp2;go_ret;exact⟨by simp[h1,h2],rfl⟩
  ·go_enter Tryz.func223,Tryz.ntmps223
   go_wp2;go_ret;exact⟨by simp;omega,rfl⟩
 ·go_enter Tryz.func223,Tryz.ntmps223
  go_wp2;go_ret;exact⟨by simp;omega,rfl⟩
theorem iQ(x b:Int)(r:Bool)(h:decide (0<=x/\x<=b)=r):Hid (∀w,Calls Tryz.prog 223 #[int i64 x,int i64 b] w λe w'=>e=.returned (.bool r)/\w'=w):=
 λw=>(Jz x b w).mono λe w' ⟨h',hw⟩=>⟨by rw[h',h],hw⟩
def tZ(o:aK)(w:World)(e:Ending)(w':World):Prop:=∃v,e=.returned v/\Er v (Od.fault o)/\Below w.heap.size w w'
theorem pX(o:aK)(w:World):Calls Tryz.prog 183 #[o.val] w (tZ o w):=by
 obtain⟨p,u,n,a⟩:=o;have BB:Hid (Below _ w (w.alloc (Obj.cells #[int i64 p,int i64 u,int i64 n,int i64 a] 96))):=(Below.refl _ _).alloc (Nat.le_refl _) _;have Us:Od.bad ⟨p,u,n,a⟩->∀w',Hid (Below w.heap.size w w')->tZ ⟨p,u,n,a⟩ w (.returned (.iface 85 (int i64 1))) w':=λhb w' hB=>⟨_,rfl,by rw[Od.mP hb];exact Er.no (by decide),hB⟩
 have B1:=aj (Us);clear Us;unfold aK.val;simp only;by_cases h1:0<=p/\p<=3
 ·have W1:=iQ p 3 true (decide_eq_true h1)
  by_cases h2:0<=u/\u<=1000000
  ·have W2:=iQ u 1000000 true (decide_eq_true h2)
   by_cases h3:0<=a/\a<=1000000
   ·have W3:=iQ a 1000000 true (decide_eq_true h3)
    by_cases h4:0<=n/\n<=3
    ·have W4:=iQ n 3 true (decide_eq_true h4)
     by_cases h5:n=0
     ·subst h5
      by_cases h6:a=0
      ·subst h6
       go_enter Tryz.func183,Tryz.ntmps183;go_wp2_with fail
       refine(W1.out _).mono ?_;rintro e w' ⟨rfl,rfl⟩;go_wp2_with fail
       refine(W2.out _).mono ?_;rintro e w' ⟨rfl,rfl⟩;go_wp2_with fail
       refine(W3.out _).mono ?_;rintro e w' ⟨rfl,rfl⟩;go_wp2_with fail
       refine(W4.out _).mono ?_;rintro e w' ⟨rfl,rfl⟩;go_wp2;go_ret;exact⟨_,rfl,by rw[Od.oh (by unfold Od.bad;simp only;omega)];exact Er.nil,BB⟩
      ·have h6b:=beq_eq_false_iff_ne.2 h6
       go_enter Tryz.func183,Tryz.ntmps183;go_wp2_with fail
       refine(W1.out _).mono ?_;rintro e w' ⟨rfl,rfl⟩;go_wp2_with fail
       refine(W2.out _).mono ?_;rintro e w' ⟨rfl,rfl⟩;go_wp2_with fail
       refine(W3.out _).mono ?_;rintro e w' ⟨rfl,rfl⟩;go_wp2_with fail
       refine(W4.out _).mono ?_;rintro e w' ⟨rfl,rfl⟩;go_wp2;go_ret;exact B1.out (.inr (.inr (.inr (.inr (.inr (.inr (.inr (.inr ⟨rfl,h6⟩)))))))) _ BB
     ·have h5b:=beq_eq_false_iff_ne.2 h5
      go_enter Tryz.func183,Tryz.ntmps183;go_wp2_with fail
      refine(W1.out _).mono ?_;rintro e w' ⟨rfl,rfl⟩;go_wp2_with fail
      refine(W2.out _).mono ?_;rintro e w' ⟨rfl,rfl⟩;go_wp2_with fail
      refine(W3.out _).mono ?_;rintro e w' ⟨rfl,rfl⟩;go_wp2_with fail
      refine(W4.out _).mono ?_;rintro e w' ⟨rfl,rfl⟩;go_wp2;go_ret;exact⟨_,rfl,by rw[Od.oh (by unfold Od.bad;simp only;omega)];exact Er.nil,BB⟩
    ·have W4:=iQ n 3 false (decide_eq_false h4)
     go_enter Tryz.func183,Tryz.ntmps183;go_wp2_with fail
     refine(W1.out _).mono ?_;rintro e w' ⟨rfl,rfl⟩;go_wp2_with fail
     refine(W2.out _).mono ?_;rintro e w' ⟨rfl,rfl⟩;go_wp2_with fail
     refine(W3.out _).mono ?_;rintro e w' ⟨rfl,rfl⟩;go_wp2_with fail
     refine(W4.out _).mono ?_;rintro e w' ⟨rfl,rfl⟩;go_wp2;go_ret;exact B1.out (by unfold Od.bad;simp only;omega) _ BB
   ·have W3:=iQ a 1000000 false (decide_eq_false h3)
    go_enter Tryz.func183,Tryz.ntmps183;go_wp2_with fail
    refine(W1.out _).mono ?_;rintro e w' ⟨rfl,rfl⟩;go_wp2_with fail
    refine(W2.out _).mono ?_;rintro e w' ⟨rfl,rfl⟩;go_wp2_with fail
    refine(W3.out _).mono ?_;rintro e w' ⟨rfl,rfl⟩;go_wp2;go_ret;exact B1.out (by unfold Od.bad;simp only;omega) _ BB
  ·have W2:=iQ u 1000000 false (decide_eq_false h2)
   go_enter Tryz.func183,Tryz.ntmps183;go_wp2_with fail
   refine(W1.out _).mono ?_;rintro e w' ⟨rfl,rfl⟩;go_wp2_with fail
   refine(W2.out _).mono ?_;rintro e w' ⟨rfl,rfl⟩;go_wp2;go_ret;exact B1.out (by unfold Od.bad;simp only;omega) _ BB
 ·have W1:=iQ p 3 false (decide_eq_false h1)
  go_enter Tryz.func183,Tryz.ntmps183;go_wp2_with fail
  refine(W1.out _).mono ?_;rintro e w' ⟨rfl,rfl⟩;go_wp2;go_ret;exact B1.out (by unfold Od.bad;simp only;omega) _ BB
theorem NT:(Tryz.prog.info? 96).map (λi=>(i.zero,i.size,i.bytes))=some (some (.agg #[int i64 0,int i64 0,int i64 0,int i64 0]),4,32):=by kernel_rfl
def aK.cs(k:aK):List Value:=[int i64 k.aA,int i64 k.unit,int i64 k.what,int i64 k.arg]
theorem t_:∀(ks:List aK) (i j:Nat) (k:aK),ks[i]? =some k->j<4->(ks.flatMap aK.cs)[i*4+j]? =k.cs[j]?
 |[],i,j,k,h,_=>by simp at h
 |x::ks,0,j,k,h,hj=>by
  simp at h;subst h;rw[List.flatMap_cons,List.getElem?_append_left (by simp[aK.cs];omega)];simp
 |x::ks,i+1,j,k,h,hj=>by
  rw[List.flatMap_cons,List.getElem?_append_right (by simp[aK.cs];omega)];have:(i+1)*4+j-(aK.cs x).length=i*4+j:=by simp[aK.cs];omega
  rw[this];exact t_ ks i j k (by simpa using h) hj
def jw(w:World)(base:Nat)(v:Value)(ks:List aK):Prop:=w.ownsRow base 96 4 v ks.length (ks.flatMap aK.cs)
theorem jw.nil(w:World)(base:Nat):jw w base (slice none 0 0) []:=World.ownsRow_nil _ _ _ _
theorem jw.below{w w':World}{base:Nat}{v:Value}{ks:List aK}(h:jw w base v ks)(hb:Below w.heap.size w w'):jw w' base v ks:=
 World.ownsRow.kept h (row:=none) ⟨hb.os,hb.tape,hb.output,hb.size,λk hk _=>hb.block k hk⟩ (by cases v.ownBlock<;>simp)
theorem jw.kept{w w':World}{base:Nat}{v:Value}{ks:List aK}{row:Option Nat}(h:jw w base v ks)(hg:w.grownBy w' row)(hne:v.ownBlock=none\/v.ownBlock≠row):jw w' base v ks:=World.ownsRow.kept h hg hne
theorem jw.alloc{w:World}{base:Nat}{v:Value}{ks:List aK}(h:jw w base v ks)(o:Obj):jw (w.alloc o) base v ks:=World.ownsRow.alloc h o
theorem jw.block{w:World}{base:Nat}{v:Value}{ks:List aK}(h:jw w base v ks):∀k,v.ownBlock=some k->base<=k/\k<w.heap.size:=World.ownsRow.lt h
theorem jw.mono{w:World}{base base':Nat}{v:Value}{ks:List aK}(h:jw w base v ks)(hb:base'<=base):jw w base' v ks:=by
 refine⟨h.1,?_⟩;rcases h.2 with h1|⟨g,cap,cur,h1,h2,h3⟩
 ·exact .inl h1
 ·exact .inr ⟨g,cap,cur,h1,Nat.le_trans hb h2,h3⟩
theorem jw.l{w:World}{base:Nat}{v:Value}{ks:List aK}(h:jw w base v ks):zU w v ks:=by
 rcases h.2 with⟨hv,h0⟩|⟨g,cap,cur,hv,hb,hg,h1,h2,h3,h4⟩
 ·exact⟨none,0,by rw[hv,h0],by omega,by omega,λhn=>absurd (List.length_eq_zero_iff.1 h0) hn⟩
 ·refine⟨_,cap,hv,h1,by unfold maxLen at h2;omega,λ_=>⟨_,rfl,lt_of_block hg,λi k hi=>?_⟩⟩
  have hil:=(List.getElem?_eq_some_iff.1 hi).1;have h5:w.ownsRow base 96 4 (slice (some ⟨g,0,none⟩) ks.length cap) ks.length (ks.flatMap aK.cs):=by rw[<-hv];exact h
  have hc:∀j u,j<4->k.cs[j]? =some u->w.cell? ⟨g,i*4+j,none⟩=some u:=λj u hj hu=>by
   rw[h5.cellAt (i*4+j) (by omega),t_ ks i j k hi hj,hu]
  rw[Addr.add_lit,Nat.zero_add];exact⟨hc 0 _ (by decide) rfl,hc 1 _ (by decide) rfl,hc 2 _ (by decide) rfl,hc 3 _ (by decide) rfl⟩
theorem jw.len{w:World}{base:Nat}{v:Value}{ks:List aK}(h:jw w base v ks):∃a c,v=slice a ks.length c:=by
 obtain⟨a,c,h1,-⟩:=h.l;exact⟨a,c,h1⟩
theorem JB{ops:Array Oper}{rest:List Oper}{o:Oper}{a:Act}{Q:Exit->Act->World->Prop}(w:World)(hgd:o.guard=none)(s x:Operand)
  (ho:o.op=.call {callee:=.builtin .append,args:= #[s,x],argTypes:= #[61,61]}) (base:Nat) (v:Value) (ks:List aK) (hs:a.eval s=v) (hown:jw w base v ks)
  (b:Nat) (d:aK) (hx:a.eval x=slice (some ⟨b,0,none⟩) 1 1) (hd:kW w ⟨b,0,none⟩ d) (hl:ks.length<=1000000) (hbase:base<=w.heap.size)
  (h:∀g cap w',jw w' base (slice (some ⟨g,0,none⟩) (ks.length+1) cap) (ks++[d])->w.grownBy w' v.ownBlock->(v.ownBlock=some g\/g=w.heap.size)->g<w'.heap.size->wpList Tryz.prog ops Q rest (a.put o.dst (slice (some ⟨g,0,none⟩) (ks.length+1) cap)) w'):
  wpList Tryz.prog ops Q (o::rest) a w:=by
 obtain⟨i0,hi,hz0,hz1,hz2⟩:=info_parts NT;refine wpList_append_lies w hgd s x 61 ho _ 96 i0 _ 4 32 Tryz.underlying61 hi hz0 hz1 hz2 rfl (by decide) v _ _ hs hown _ 1 1 d.cs hx rfl ?_ ?_ (by decide) (by unfold maxLen;omega) (by omega) hbase _ rfl ?_
 ·intro j u hj
  have hjn:j<4:=(List.getElem?_eq_some_iff.1 hj).1;rw[Addr.add_lit,Nat.zero_add]
  match j,hjn,hj with
  |0,_,hj=>simp[aK.cs] at hj;subst hj;exact hd.c0
  |1,_,hj=>simp[aK.cs] at hj;subst hj;exact hd.c1
  |2,_,hj=>simp[aK.cs] at hj;subst hj;exact hd.c2
  |3,_,hj=>simp[aK.cs] at hj;subst hj;exact hd.c3
 ·intro u hu
  simp[aK.cs] at hu;rcases hu with rfl|rfl|rfl|rfl<;>rfl
 ·intro g cap w' h1 h2 h3 h4
  refine h g _ w' ?_ h2 h3 h4;unfold jw;rw[List.length_append,List.flatMap_append];simpa using h1
open Go.Proofs.YtolfphmdmpehdaaGreatDoor.So
theorem Um.mono{w:World}{b n n':Nat}{f:Int->Int->Int}(h:Um w b n f)(hn:n<=n'):Um w b n' f:=by
 obtain⟨D,h1,h2⟩:=h;exact⟨D,h1.mono hn,h2⟩
def YW(ks:List aK)(w:World)(j:Value)(W':World):Prop:=∃q:Nat,q<=ks.length/\j=int i64 (q:Nat)/\(∀(i:Nat) o,i<q->ks[i]? =some o->¬Od.bad o)/\Below w.heap.size w W'
theorem yN(v:Value)(ks:List aK)(w:World)(h:zU w v ks):
  Calls Tryz.prog 144 #[v] w λe w'=>∃u,e=.returned u/\Er u (Od.faults ks)/\Below w.heap.size w w':=by
 have K0:=aj (h);obtain⟨R,hR⟩:∃R,Od.faults ks=R:=⟨_,rfl⟩;have HR:=aj (hR);rw[hR];clear hR;obtain⟨a,c,rfl,c1,c2,-⟩:=h;by_cases h8:60<ks.length
 ·have E:Hid (R=4):=by unfold Hid;rw[<-HR.out];unfold Od.faults;rw[if_pos h8]
  have h8':(60:Int)<(ks.length:Int):=by omega
  go_enter Tryz.func144,Tryz.ntmps144;go_wp2;go_ret;exact⟨_,rfl,by rw[E.out];exact Er.no (by decide),Below.refl _ _⟩
 ·have h8':¬(60:Int)<(ks.length:Int):=by omega
  have LE:Hid (ks.length<=60):=by unfold Hid;omega
  go_enter Tryz.func144,Tryz.ntmps144;go_wp2_with fail
  go_loopw [12] (λj W'=>YW ks w j W') (λj _=>ks.length-(intOf j).toNat)
  case atStart=>exact⟨0,Nat.zero_le _,rfl,λi o hi=>by omega,Below.refl _ _⟩
  case round=>
   obtain⟨q,hq,rfl,hg,hb⟩:=hrel;have Gq:=aj (hg);have B:=aj (hb);clear hg hb;by_cases uz:q=ks.length
   ·have E:Hid (R=0):=by
     unfold Hid;rw[<-HR.out];refine Od.qP LE.out λo ho=>?_
     obtain⟨i,hi⟩:=List.mem_iff_getElem?.1 ho;exact Gq.out i o (by rw[uz];exact(List.getElem?_eq_some_iff.1 hi).1) hi
    subst uz;go_wp2;go_ret;exact⟨_,rfl,by rw[E.out];exact Er.nil,B⟩
   ·have hqk:q<ks.length:=by omega
    obtain⟨k,hk⟩:∃k,ks[q]? =some k:=⟨_,List.getElem?_eq_getElem hqk⟩;have HK:=aj (hk);have K1:=K0.out.below B.out;have CK:Hid (∀W:World,Calls Tryz.prog 183 #[k.val] W (tZ k W)):=λW=>pX k W
    obtain⟨F,hF⟩:∃F,Od.fault k=F:=⟨_,rfl⟩;have HF:=aj (hF);clear hF;obtain⟨a',c',e,-,-,h3⟩:=K1;injection e with e1 e2 e3
    subst e1 e3;obtain⟨x,rfl,hx1,hx⟩:=h3 (by rintro rfl;simp at hqk);have Yc:=hx q k hk;clear hx h3 e2 hk;obtain⟨q0,q1,q2,q3⟩:=Yc;unfold aK.val at CK;go_upto_region 6 with fail
    have B1:Hid (Below _ wr (wr.alloc (Obj.cells #[int i64 k.aA,int i64 k.unit,int i64 k.what,int i64 k.arg] 96))):=(Below.refl _ _).alloc (Nat.le_refl _) _;have X1:=kW.mk' (w:=wr) k rfl;clear q0 q1 q2 q3;generalize wr.alloc _=w1 at *;obtain⟨x0,x1,x2,x3⟩:=X1;simp only[Nat.zero_add] at x1 x2 x3;go_wp2_with fail
    refine Calls.mono (CK.out w1) ?_;rintro e w2 ⟨u,rfl,hu,b2⟩;rw[HF.out] at hu;have B3:=aj (B.out.trans ((B1.out.trans (b2.mono B1.out.size)).mono B.out.size));clear b2 CK x0 x1 x2 x3 B1;rcases hu with⟨hF,rfl⟩|⟨hF,rfl⟩
    ·have G2:Hid (∀(i:Nat) o,i<q+1->ks[i]? =some o->¬Od.bad o):=λi o hi ho=>by
      by_cases e:i=q
      ·subst e
       rw[HK.out] at ho;obtain rfl:=Option.some.inj ho;intro hbad;have:=HF.out;rw[Od.mP hbad] at this;omega
      ·exact Gq.out i o (by omega) ho
     go_wp2;go_round
     case rel=>exact⟨q+1,by omega,by go_num,G2,B3⟩
     case measure=>simp[intOf];omega
    ·have E:Hid (R=F/\F≠0):=by
      have hbad:Od.bad k:=by
       rcases Classical.em (Od.bad k) with h|h
       ·exact h
       ·exact absurd (HF.out.symm.trans (Od.oh h)) hF
      refine⟨?_,hF⟩;rw[<-HR.out,<-HF.out,Od.mP hbad];unfold Od.faults;rw[if_neg (by have:=LE.out;omega),if_pos (List.any_eq_true.2 ⟨k,List.mem_of_getElem? HK.out,decide_eq_true hbad⟩)]
     clear hF;go_wp2;go_ret;exact⟨_,rfl,by rw[E.out.1];exact Er.no E.out.2,B3⟩
theorem pY(o:aK)(w:World):Calls Tryz.prog 149 #[o.val] w λe w'=>e=.returned (.agg #[int i64 o.aA,int i64 o.unit])/\Below w.heap.size w w':=by
 unfold aK.val;go_enter Tryz.func149,Tryz.ntmps149;go_wp2;refine bodyPost_ret (by simp[results,Tryz.results149,go_sem]) rfl ⟨rfl,?_⟩;exact((Below.refl _ _).alloc (Nat.le_refl _) _).alloc (by simp) _
def YZ(ks:List aK)(w:World)(j:Value)(W':World):Prop:=∃q:Nat,q<=ks.length/\j=int i64 (q:Nat)/\Um W' w.heap.size q (lf ks q)/\Below w.heap.size w W'
theorem ug(v:Value)(ks:List aK)(w:World)(h:zU w v ks)(hl:ks.length<=60)(hb:∀o∈ks,¬Od.bad o):
  Calls Tryz.prog 148 #[v] w λe w'=>∃b n,e=.returned (.map (some b))/\Um w' b n (lf ks ks.length)/\w.heap.size<=b/\Below w.heap.size w w':=by
 have K0:=aj (h);have HB:=aj (hb);have LE:=aj (hl);obtain⟨a,c,rfl,c1,c2,-⟩:=h;have hmm:=@run_makeMap Tryz.prog;clear hb;go_enter Tryz.func148,Tryz.ntmps148;go_wp2_with fail
 go_loopw [9] (λj W'=>YZ ks w j W') (λj _=>ks.length-(intOf j).toNat)
 case atStart=>exact⟨0,Nat.zero_le _,rfl,NR w,(Below.refl _ _).alloc (Nat.le_refl _) _⟩
 case round=>
  obtain⟨q,hq,rfl,hg,hb⟩:=hrel;have Gq:=aj (hg);have B:=aj (hb);clear hg hb;by_cases uz:q=ks.length
  ·subst uz
   go_wp2;go_ret;exact⟨_,_,rfl,Gq,Nat.le_refl _,B⟩
  ·have hqk:q<ks.length:=by omega
   obtain⟨k,hk⟩:∃k,ks[q]? =some k:=⟨_,List.getElem?_eq_getElem hqk⟩;have HK:=aj (hk);have OK:=Od.uX (HB.out k (List.mem_of_getElem? hk));have WF:Hid ((Lit.int i64 k.aA).wf=true/\(Lit.int i64 k.unit).wf=true/\(Lit.int i64 ((q:Nat):Int)).wf=true):=⟨wf64 (by omega) (by omega),wf64 (by omega) (by omega),wf64 (by omega) (by omega)⟩;have K1:=K0.out.below B.out;obtain⟨a',c',e,-,-,h3⟩:=K1;injection e with e1 e2 e3
   subst e1 e3;obtain⟨x,rfl,hx1,hx⟩:=h3 (by rintro rfl;simp at hqk);have Yc:=hx q k hk;clear hx h3 e2 hk OK;obtain⟨q0,q1,q2,q3⟩:=Yc;go_upto_region 5 with fail
   have B1:Hid (Below _ wr (wr.alloc (Obj.cells #[int i64 k.aA,int i64 k.unit,int i64 k.what,int i64 k.arg] 96))):=(Below.refl _ _).alloc (Nat.le_refl _) _;have X1:=kW.mk' (w:=wr) k rfl;clear q0 q1 q2 q3;generalize wr.alloc _=w1 at *;have G1:=aj (Gq.out.below B1.out);have B2:=aj (B.out.trans (B1.out.mono B.out.size));obtain⟨x0,x1,x2,x3⟩:=X1;simp only[Nat.zero_add] at x1 x2 x3;by_cases h3:k.what=3
   ·have NX:Hid (Um w1 w.heap.size (q+1) (lf ks (q+1))):=by unfold Hid;rw[Ju HK.out h3];exact G1.out.mono (by omega)
    go_wp2;go_round
    case rel=>exact⟨q+1,by omega,by go_num,NX,B2⟩
    case measure=>simp[intOf];omega
   ·have h3b:=beq_eq_false_iff_ne.2 h3
    go_wp2_with fail
    refine Calls.mono (pY k w1) ?_;rintro e w2 ⟨rfl,b2⟩;have B3:=aj (B2.out.trans (b2.mono B2.out.size));have G2:=aj (G1.out.below b2);obtain⟨w3,r3,o3,g3⟩:=G2.out.put (by have:=LE.out;unfold maxLen;omega) WF.out.1 WF.out.2.1 WF.out.2.2;have NX:Hid (Um w3 w.heap.size (q+1) (lf ks (q+1))):=by unfold Hid;rw[vS HK.out h3];exact o3
    have B4:=aj (B3.out.grown g3 B3.out.size (λk hk=>by cases hk;exact Nat.le_refl _));clear b2 o3 g3 x0 x1 x2 x3;go_wp2;go_round
    case rel=>exact⟨q+1,by omega,by go_num,NX,B4⟩
    case measure=>simp[intOf];omega
end Go.Proofs.YtolfphmdmpehdaaGreatDoor
namespace Go.Proofs.YtolfphmdmpehdaaGreatDoor
open Go.RowKit
def Rb(w:World)(g:Nat)(ks:List aK)(rest:List Value):Prop:=w.heap[g]? =some (.cells (ks.flatMap aK.cs++rest).toArray 96 (0,0))
theorem Rb.lt{w:World}{g:Nat}{ks:List aK}{rest:List Value}(h:Rb w g ks rest):g<w.heap.size:=lt_of_block h
theorem Rb.thaw{w:World}{g:Nat}{ks:List aK}{rest:List Value}(h:Rb w g ks rest)(i:Nat):w.frozen? ⟨g,i,none⟩=false:=by
 unfold Rb at h;simp[World.frozen?,h]
theorem Rb.below{w w':World}{g B:Nat}{ks:List aK}{rest:List Value}(h:Rb w g ks rest)(hb:Below B w w')(hB:g<B):Rb w' g ks rest:=by
 unfold Rb at *;rw[hb.block g hB];exact h
theorem jd(ks:List aK):(ks.flatMap aK.cs).length=ks.length*4:=by
 induction ks with
 |nil=>rfl
 |cons k ks ih=>
  rw[List.flatMap_cons,List.length_append,ih,List.length_cons];simp[aK.cs];omega
theorem Rb.at_{w:World}{g:Nat}{ks:List aK}{rest:List Value}(h:Rb w g ks rest){i:Nat}{o:aK}(ho:ks[i]? =some o){j:Nat}(hj:j<4):w.cell? ⟨g,i*4+j,none⟩=o.cs[j]? :=by
 unfold Rb at h;have hi:=(List.getElem?_eq_some_iff.1 ho).1;simp only[World.cell?,h];have e:(ks.flatMap aK.cs++rest).toArray[i*4+j]? =o.cs[j]? :=by
  rw[List.getElem?_toArray,List.getElem?_append_left (by rw[jd];omega),t_ ks i j o ho hj]
 simp only[e];simp
theorem Rb.cells{w:World}{g:Nat}{ks:List aK}{rest:List Value}(h:Rb w g ks rest){i:Nat}{o:aK}(ho:ks[i]? =some o):
  w.cell? ⟨g,i*4,none⟩=some (int i64 o.aA)/\w.cell? ⟨g,i*4+1,none⟩=some (int i64 o.unit)/\w.cell? ⟨g,i*4+2,none⟩=some (int i64 o.what)/\w.cell? ⟨g,i*4+3,none⟩=some (int i64 o.arg):=
 ⟨h.at_ ho (j:=0) (by decide),h.at_ ho (j:=1) (by decide),h.at_ ho (j:=2) (by decide),h.at_ ho (j:=3) (by decide)⟩
theorem rJ:∀(ks:List aK) (i:Nat) (o:aK) (rest:List Value),i<ks.length->
  (ks.set i o).flatMap aK.cs++rest=((((ks.flatMap aK.cs++rest).set (i*4) (int i64 o.aA)).set (i*4+1) (int i64 o.unit)).set (i*4+2) (int i64 o.what)).set (i*4+3) (int i64 o.arg)
 |[],i,o,rest,h=>by simp at h
 |k::ks,0,o,rest,_=>by
  simp[aK.cs]
 |k::ks,i+1,o,rest,h=>by
  have ih:=rJ ks i o rest (by simpa using h);rw[show(i+1)*4=i*4+4 by omega,show i*4+4+1=i*4+1+4 by omega,show i*4+4+2=i*4+2+4 by omega,show i*4+4+3=i*4+3+4 by omega,List.set_cons_succ,List.flatMap_cons,List.append_assoc,ih,List.flatMap_cons];simp[aK.cs]
theorem Rb.put{w:World}{g:Nat}{ks:List aK}{rest:List Value}(h:Rb w g ks rest){i:Nat}(hi:i<ks.length)(o:aK):
  Rb ((((w.setCell ⟨g,i*4,none⟩ (int i64 o.aA)).setCell ⟨g,i*4+1,none⟩ (int i64 o.unit)).setCell ⟨g,i*4+2,none⟩ (int i64 o.what)).setCell ⟨g,i*4+3,none⟩ (int i64 o.arg)) g (ks.set i o) rest:=by
 unfold Rb at *;have h1:=heap_setCell_same w g (i*4) _ _ (int i64 o.aA) h;have h2:=heap_setCell_same _ g (i*4+1) _ _ (int i64 o.unit) h1;have h3:=heap_setCell_same _ g (i*4+2) _ _ (int i64 o.what) h2;have h4:=heap_setCell_same _ g (i*4+3) _ _ (int i64 o.arg) h3;rw[h4,rJ ks i o rest hi];simp
theorem iR(a b:aK)(w:World):Calls Tryz.prog 151 #[a.val,b.val] w λe w'=>e=.returned (int i64 (mY a b))/\Below w.heap.size w w':=by
 obtain⟨p,u,n,x⟩:=a;obtain⟨p',u',n',x'⟩:=b;have ba:=(Below.refl w.heap.size w).alloc (Nat.le_refl _) (Obj.cells #[int i64 p,int i64 u,int i64 n,int i64 x] 96);have B0:Hid (Below w.heap.size w ((w.alloc (Obj.cells #[int i64 p,int i64 u,int i64 n,int i64 x] 96)).alloc (Obj.cells #[int i64 p',int i64 u',int i64 n',int i64 x'] 96))):=ba.alloc (by simp) _;have Oa:Hid (kW ((w.alloc (Obj.cells #[int i64 p,int i64 u,int i64 n,int i64 x] 96)).alloc (Obj.cells #[int i64 p',int i64 u',int i64 n',int i64 x'] 96)) ⟨w.heap.size,0,none⟩ ⟨p,u,n,x⟩):=(kW.mk' (w:=w) ⟨p,u,n,x⟩ rfl).below ((Below.refl _ _).alloc (Nat.le_refl _) _) (by simp);have Ob:Hid (kW ((w.alloc (Obj.cells #[int i64 p,int i64 u,int i64 n,int i64 x] 96)).alloc (Obj.cells #[int i64 p',int i64 u',int i64 n',int i64 x'] 96)) ⟨w.heap.size+1,0,none⟩ ⟨p',u',n',x'⟩):=kW.mk' ⟨p',u',n',x'⟩ (by simp);clear ba;unfold aK.val;simp only;go_enter Tryz.func151,Tryz.ntmps151;go_upto_region 1 with fail
 generalize ((w.alloc _).alloc _)=w2 at *;have FC:Hid (∀W,Below w2.heap.size w2 W->W.cell? ⟨w.heap.size,0,none⟩=some (int i64 p)/\W.cell? ⟨w.heap.size,1,none⟩=some (int i64 u)/\W.cell? ⟨w.heap.size,2,none⟩=some (int i64 n)/\W.cell? ⟨w.heap.size,3,none⟩=some (int i64 x)/\W.cell? ⟨w.heap.size+1,0,none⟩=some (int i64 p')/\W.cell? ⟨w.heap.size+1,1,none⟩=some (int i64 u')/\W.cell? ⟨w.heap.size+1,2,none⟩=some (int i64 n')/\W.cell? ⟨w.heap.size+1,3,none⟩=some (int i64 x')):=λW hW=>by
  have a:=Oa.out.below hW Oa.out.lt;have b:=Ob.out.below hW Ob.out.lt;obtain⟨a0,a1,a2,a3⟩:=a;obtain⟨b0,b1,b2,b3⟩:=b;simp only[Nat.zero_add] at a0 a1 a2 a3 b0 b1 b2 b3;exact⟨a0,a1,a2,a3,b0,b1,b2,b3⟩
 have CI:Hid (∀(i j:Int) W,Below w2.heap.size w2 W->Calls Tryz.prog 188 #[int i64 i,int i64 j] W λe w'=>e=.returned (int i64 (qA i j))/\Below w2.heap.size w2 w'):=λi j W hW=>(yK i j W).mono λe w' ⟨h1,h2⟩=>⟨h1,by rw[h2];exact hW⟩
 have CR:Hid (∀(o:aK) W,Below w2.heap.size w2 W->Calls Tryz.prog 189 #[.agg #[int i64 o.aA,int i64 o.unit,int i64 o.what,int i64 o.arg]] W λe w'=>e=.returned (int i64 (Jm o))/\Below w2.heap.size w2 w'):=λo W hW=>(Jo o W).mono λe w' ⟨h1,h2⟩=>⟨h1,hW.trans (h2.mono hW.size)⟩
 refine cO 15 (λW=>Below w2.heap.size w2 W) (by kernel_rfl) (by kernel_rfl) (Below.refl _ _).drew ?_;simp only[List.take_succ_cons,List.take_zero,List.drop_succ_cons,List.drop_zero];refine aB (.pointer (some ⟨w.heap.size,0,none⟩)) (by go_simp) (λW hW=>by go_simp) ?_;go_simp;refine aB (int i64 p) (by go_simp) (λW hW=>by obtain⟨a0,-,-,-,-,-,-,-⟩:=FC.out W hW;go_simp) ?_;go_simp;refine aB (.pointer (some ⟨w.heap.size+1,0,none⟩)) (by go_simp) (λW hW=>by go_simp) ?_;go_simp;refine aB (int i64 p') (by go_simp) (λW hW=>by obtain⟨-,-,-,-,b0,-,-,-⟩:=FC.out W hW;go_simp) ?_;go_simp;refine dN _ _ _ (by go_simp) (λW hW=>by go_simp) (λW hW=>CI.out p p' W hW) ?_;go_simp;refine aB (.pointer (some ⟨w.heap.size,1,none⟩)) (by go_simp) (λW hW=>by go_simp) ?_;go_simp;refine aB (int i64 u) (by go_simp) (λW hW=>by obtain⟨-,a1,-,-,-,-,-,-⟩:=FC.out W hW;go_simp) ?_;go_simp;refine aB (.pointer (some ⟨w.heap.size+1,1,none⟩)) (by go_simp) (λW hW=>by go_simp) ?_;go_simp;refine aB (int i64 u') (by go_simp) (λW hW=>by obtain⟨-,-,-,-,-,b1,-,-⟩:=FC.out W hW;go_simp) ?_;go_simp;refine dN _ _ _ (by go_simp) (λW hW=>by go_simp) (λW hW=>CI.out u u' W hW) ?_;go_simp;refine aB (.agg #[int i64 p,int i64 u,int i64 n,int i64 x]) (by go_simp) (λW hW=>by obtain⟨a0,a1,a2,a3,-,-,-,-⟩:=FC.out W hW;go_simp) ?_;go_simp;refine dN _ _ _ (by go_simp) (λW hW=>by go_simp) (λW hW=>CR.out ⟨p,u,n,x⟩ W hW) ?_;go_simp;refine aB (Value.agg #[int i64 p',int i64 u',int i64 n',int i64 x']) (by go_simp) (λW hW=>by obtain⟨-,-,-,-,b0,b1,b2,b3⟩:=FC.out W hW;go_simp) ?_;go_simp;refine dN _ _ _ (by go_simp) (λW hW=>by go_simp) (λW hW=>CR.out ⟨p',u',n',x'⟩ W hW) ?_;go_simp;refine dN _ _ #[Value.int _ (Jm ⟨p,u,n,x⟩),.int _ (Jm ⟨p',u',n',x'⟩)] (by go_simp) (λW hW=>by go_simp) (λW hW=>CI.out _ _ W hW) ?_;go_simp;intro W hW;obtain⟨s1,hs1⟩:∃s,qA p p'=s:=⟨_,rfl⟩;obtain⟨s2,hs2⟩:∃s,qA u u'=s:=⟨_,rfl⟩;obtain⟨s3,hs3⟩:∃s,qA (Jm ⟨p,u,n,x⟩) (Jm ⟨p',u',n',x'⟩)=s:=⟨_,rfl⟩;have HC:Hid (mY ⟨p,u,n,x⟩ ⟨p',u',n',x'⟩=or3 s1 s2 s3):=by unfold Hid mY;rw[hs3];simp only;rw[hs1,hs2]
 rw[hs1,hs2,hs3];have OR:=QI s1 s2 s3 W.heap.size (W.alloc (Obj.cells #[int i64 s1,int i64 s2,int i64 s3] 3)) (by simp) (by simp) (by simp);have OR':=aj (OR);have BB:Hid (Below _ w (W.alloc (Obj.cells #[int i64 s1,int i64 s2,int i64 s3] 3))):=(B0.out.trans (hW.mono B0.out.size)).alloc (Nat.le_trans B0.out.size hW.size) _;clear OR hW FC CI CR hs1 hs2 hs3;go_wp2_with fail
 refine OR'.out.mono ?_;rintro e w' ⟨rfl,rfl⟩;go_wp2;go_ret;exact⟨by rw[HC.out];rfl,BB⟩
open Go.Proofs.YtolfphmdmpehdaaGreatDoor.So
abbrev fs (l:List T):List aK:=l.map Prod.fst
theorem NV:∀args w,(callFunc 151 args).run Tryz.prog w=.ok (.enter 151 args) w:=enters_of Tryz.func151 (by kernel_rfl) rfl
theorem Xe(A S1:List T)(x:T)(R:List T):(fs (A++S1++x::R))[A.length+S1.length]? =some x.1:=by
 simp[fs]
theorem Xf(A S1:List T)(y:T)(R:List T):(fs (A++(S1++[y])++R))[A.length+S1.length]? =some y.1:=by
 simp[fs]
theorem qc{α:Type}:∀(P:List α) (y x:α) (R:List α),((P++y::x::R).set (P.length+1) y).set P.length x=P++x::y::R
 |[],y,x,R=>rfl
 |p::P,y,x,R=>by
  have:=qc P y x R;simp only[List.cons_append,List.length_cons,List.set_cons_succ];rw[this]
def Xg(A UU B:List T)(g:Nat)(rest:List Value)(w:World)(m a:Nat)(iv:Value)(W:World):Prop:=∃(S V:List T),S.Pairwise lt/\S≠[]/\S.Perm (UU.take S.length)/\V=UU.drop S.length/\S.length<=m/\iv=int i64 ((a+S.length:Nat):Int)/\Rb W g (fs (A++S++(V++B))) rest/\Kp g w W
def Xh(A S:List T)(x:T)(VB:List T)(g:Nat)(rest:List Value)(w:World)(a:Nat)(jv:Value)(W:World):Prop:=∃(S1 S2:List T),jv=int i64 ((a+S1.length:Nat):Int)/\S1++S2=S/\(∀y∈S2,lt x y)/\Rb W g (fs (A++S1++x::(S2++VB))) rest/\Kp g w W
def vV(A U B:List T)(g:Nat)(rest:List Value)(w:World)(e:Ending)(w':World):Prop:=e=.returned (.tuple #[])/\∃S,S.Perm U/\S.Pairwise lt/\Rb w' g (fs (A++S++B)) rest/\Kp g w w'
theorem DZ(A U B:List T)(g cap:Nat)(rest:List Value)(w:World)(hU:U.Pairwise (λx y=>x.2<y.2))(hr:Rb w g (fs (A++U++B)) rest)(hn:(A++U++B).length<=1000):
  Calls Tryz.prog 229 #[slice (some ⟨g,0,none⟩) (A++U++B).length cap,int i64 (A.length:Nat),int i64 ((A.length+U.length:Nat):Int),.func (.func 151) #[] #[]] w
   (vV A U B g rest w):=by
 obtain⟨L,hL⟩:∃L,(A++U++B).length=L:=⟨_,rfl⟩;have HL:=aj (hL);have HL2:Hid (A.length+U.length+B.length=L):=by unfold Hid;rw[<-hL];simp;omega
 obtain⟨a,ha⟩:∃a,A.length=a:=⟨_,rfl⟩;obtain⟨m,hm⟩:∃m,U.length=m:=⟨_,rfl⟩;have Ha:=aj (ha);have Hm:=aj (hm);have hle:a+m<=L:=by have:=HL2.out;omega
 have R0:=aj (hr);have HU:=aj (hU);rw[hL,ha,hm];obtain⟨q,hq⟩:∃q,a+m=q:=⟨_,rfl⟩;rw[hq];rw[hL] at hn;clear hL ha hm hr hU;go_enter Tryz.func229,Tryz.ntmps229;go_wp2;cases U with
 |nil=>
  have hm0:m=0:=by have:=Hm.out;simpa using this.symm
  have hqa:¬((a:Nat):Int)+1<(q:Int):=by omega
  refine wp_loop_rounds 1 ?_;rw[rounds_succ];go_wp2;go_end0;exact⟨rfl,[],List.Perm.refl _,List.Pairwise.nil,R0,Kp.refl _ _⟩
 |cons u U'=>
  have hm1:1<=m:=by have:=Hm.out;simp at this;omega
  go_loopw [8] (λiv W=>Xg A (u::U') B g rest w m a iv W) (λiv _=>q-(intOf iv).toNat)
  case atStart=>
   refine⟨[u],U',by simp,by simp,by simp,by simp,hm1,by simp,?_,Kp.refl _ _⟩;have:=R0.out;simpa using this
  case round=>
   obtain⟨S,V,hS,hne,hp,hV,hle2,rfl,hrb,hk⟩:=hrel;have RB:=aj (hrb);have KK:=aj (hk);have HS:Hid (S.Pairwise lt/\S.Perm ((u::U').take S.length)):=⟨hS,hp⟩;clear hrb hk hS hp;obtain⟨i,hi⟩:∃i,a+S.length=i:=⟨_,rfl⟩;rw[hi];by_cases he:S.length=m
   ·have hlt:¬((i:Nat):Int)<((q:Nat):Int):=by omega
    have FIN:Hid (∃S',S'.Perm (u::U')/\S'.Pairwise lt/\Rb wr g (fs (A++S'++B)) rest/\Kp g w wr):=by
     have h1:=Hm.out;have h2:V=[]:=by rw[hV];exact List.drop_eq_nil_of_le (by omega)
     have h3:=HS.out.2;rw[List.take_of_length_le (by omega)] at h3;have h4:=RB.out;rw[h2] at h4;exact⟨S,h3,HS.out.1,by simpa using h4,KK.out⟩
    clear hV;go_wp2;go_end0;exact⟨rfl,FIN⟩
   ·have hlt:((i:Nat):Int)<((q:Nat):Int):=by omega
    have hUl:=Hm.out;obtain⟨x,V',Vr⟩:∃x V',V=x::V':=by
     cases hv:V with
     |nil=>
      rw[hV] at hv;have:=List.drop_eq_nil_iff.1 hv;omega
     |cons x V'=>exact⟨x,V',rfl⟩
    have HX:Hid (∀y∈S,y.2<x.2):=λy hy=>by
     have hy2:=HS.out.2.mem_iff.1 hy;have hsp:(u::U')=(u::U').take S.length++x::V':=by rw[<-Vr,hV,List.take_append_drop]
     have h2:=HU.out;rw[hsp,List.pairwise_append] at h2;exact h2.2.2 y hy2 x (List.mem_cons_self ..)
    have HV:Hid ((u::U').take (S.length+1)=(u::U').take S.length++[x]/\(u::U').drop (S.length+1)=V'):=by
     have hsp:(u::U').drop S.length=x::V':=by rw[<-hV,Vr]
     refine⟨?_,?_⟩
     ·rw[List.take_add_one,<-List.head?_drop,hsp];rfl
     ·rw[<-List.drop_drop,hsp];rfl
    have RX:Hid (Rb wr g (fs (A++S++x::(V'++B))) rest):=by
     have:=RB.out;rw[Vr] at this;exact this
    clear hV RB Vr;go_wp2_with fail
    go_loopw [9] (λjv W=>Xh A S x (V'++B) g rest w a jv W) (λjv _=>(intOf jv).toNat)
    case atStart=>exact⟨S,[],by rw[hi],by simp,by simp,RX,KK⟩
    case round=>
     obtain⟨S1,S2,rfl,h12,h2x,hrb,hk⟩:=hrel;have RB:=aj (hrb);have K1:=aj (hk);have H2:=aj (h2x);have H12:=aj (h12);have hj:a+S1.length<L:=by
      have h1:=congrArg List.length h12;simp at h1;omega
     have hji:((a+S1.length:Nat):Int)<(L:Int):=by omega
     clear hrb hk h2x h12;rcases List.eq_nil_or_concat S1 with h0|⟨S1',y,h0⟩
     ·subst h0
      have hgt:¬((a:Nat):Int)<((a+([]:List T).length:Nat):Int):=by simp
      have NEXT:Hid (∃(S' V2:List T),S'.Pairwise lt/\S'≠[]/\S'.Perm ((u::U').take S'.length)/\V2=(u::U').drop S'.length/\S'.length<=m/\S'.length=S.length+1/\Rb wr g (fs (A++S'++(V2++B))) rest/\Kp g w wr):=by
       have e:=H12.out;simp only[List.nil_append] at e;have hl:(x::S2).length=S.length+1:=by rw[e];rfl
       refine⟨x::S2,V',?_,by simp,?_,?_,by omega,hl,?_,K1.out⟩
       ·exact List.pairwise_cons.2 ⟨H2.out,by rw[e];exact HS.out.1⟩
       ·rw[hl,HV.out.1,e]
        exact((HS.out.2.cons x).trans (List.perm_append_singleton x _).symm)
       ·rw[hl,HV.out.2]
       ·have:=RB.out
        simpa using this
      simp only[List.length_nil,Nat.add_zero];go_upto_region 4 with fail
      go_quiet (fail);go_wp2;go_round
      case rel=>
       obtain⟨S',V2,q1,q2,q3,q4,q5,q6,q7,q8⟩:=NEXT.out;exact⟨S',V2,q1,q2,q3,q4,q5,by rw[q6,<-Nat.add_assoc,hi];go_num,q7,q8.drewN _⟩
      case measure=>simp[intOf];omega
     ·subst h0
      obtain⟨k,hk⟩:∃k,a+S1'.length=k:=⟨_,rfl⟩;have hk1:a+(S1'.concat y).length=k+1:=by rw[<-hk];simp;omega
      have Y_:k+1<L:=by omega
      have Hx:Hid ((fs (A++S1'.concat y++x::(S2++(V'++B))))[k+1]? =some x.1):=by
       unfold Hid;rw[<-hk1,<-Ha.out];exact Xe A _ x _
      have Hy:Hid ((fs (A++S1'.concat y++x::(S2++(V'++B))))[k]? =some y.1):=by
       unfold Hid;rw[<-hk,<-Ha.out,List.concat_eq_append];exact Xf A _ y _
      have FC:Hid (∀W,Below wr.heap.size wr W->W.cell? ⟨g,(k+1)*4,none⟩=some (int i64 x.1.aA)/\W.cell? ⟨g,(k+1)*4+1,none⟩=some (int i64 x.1.unit)/\W.cell? ⟨g,(k+1)*4+2,none⟩=some (int i64 x.1.what)/\W.cell? ⟨g,(k+1)*4+3,none⟩=some (int i64 x.1.arg)/\W.cell? ⟨g,k*4,none⟩=some (int i64 y.1.aA)/\W.cell? ⟨g,k*4+1,none⟩=some (int i64 y.1.unit)/\W.cell? ⟨g,k*4+2,none⟩=some (int i64 y.1.what)/\W.cell? ⟨g,k*4+3,none⟩=some (int i64 y.1.arg)):=λW hW=>by
       have r:=RB.out.below hW RB.out.lt;obtain⟨x0,x1,x2,x3⟩:=r.cells Hx.out;obtain⟨y0,y1,y2,y3⟩:=r.cells Hy.out;exact⟨x0,x1,x2,x3,y0,y1,y2,y3⟩
      have CC:Hid (∀W,Below wr.heap.size wr W->Calls Tryz.prog 151 #[.agg #[int i64 x.1.aA,int i64 x.1.unit,int i64 x.1.what,int i64 x.1.arg],.agg #[int i64 y.1.aA,int i64 y.1.unit,int i64 y.1.what,int i64 y.1.arg]] W λe w'=>e=.returned (int i64 (mY x.1 y.1))/\Below wr.heap.size wr w'):=λW hW=>(iR x.1 y.1 W).mono λe w' ⟨h1,h2⟩=>⟨h1,hW.trans (h2.mono hW.size)⟩
      have ec:=NV;have hgt:((a:Nat):Int)<((k:Nat):Int)+1:=by omega
      have kpos:¬((k:Nat):Int)+1<0:=by omega
      have hki:((k:Nat):Int)+1<(L:Int):=by omega
      have Ut:((k:Nat):Int)<(L:Int):=by omega
      have kk1:((k:Nat):Int)+1-1=k:=by omega
      have kw:IntKind.i64.wrap ((k:Nat):Int)=k:=by rw[IntKind.wrap_i64];omega
      have e1:((a+(S1'.concat y).length:Nat):Int)=(k:Int)+1:=by rw[hk1];rfl
      rw[e1];clear hji hj;go_upto_region 4 with fail
      refine cO 16 (λW=>Below wr.heap.size wr W) (by kernel_rfl) (by kernel_rfl) (Below.refl _ _).drew ?_;simp only[List.take_succ_cons,List.take_zero,List.drop_succ_cons,List.drop_zero];refine aB (int i64 ((k:Int)+1)) (by go_simp) (λW hW=>by go_simp) ?_;go_simp;refine aB (int i64 (a:Int)) (by go_simp) (λW hW=>by go_simp) ?_;go_simp;refine aB (.bool true) (by go_simp) (λW hW=>by go_simp) ?_;go_simp;refine aB (.bool true) (by go_simp) (λW hW=>by go_simp) ?_;go_simp;refine aB (.func (.func 151) #[] #[]) (by go_simp) (λW hW=>by go_simp) ?_;go_simp;refine aB (slice (some ⟨g,0,none⟩) L cap) (by go_simp) (λW hW=>by go_simp) ?_;go_simp;refine aB (int i64 ((k:Int)+1)) (by go_simp) (λW hW=>by go_simp) ?_;go_simp;refine aB (.pointer (some ⟨g,(k+1)*4,none⟩)) (by go_simp) (λW hW=>by go_simp) ?_;go_simp;refine aB (.agg #[int i64 x.1.aA,int i64 x.1.unit,int i64 x.1.what,int i64 x.1.arg]) (by go_simp) (λW hW=>by obtain⟨x0,x1,x2,x3,-⟩:=FC.out W hW;go_simp) ?_;go_simp;refine aB (slice (some ⟨g,0,none⟩) L cap) (by go_simp) (λW hW=>by go_simp) ?_;go_simp;refine aB (int i64 ((k:Int)+1)) (by go_simp) (λW hW=>by go_simp) ?_;go_simp;refine aB (int i64 (k:Int)) (by go_simp) (λW hW=>by go_simp) ?_;go_simp;refine aB (.pointer (some ⟨g,k*4,none⟩)) (by go_simp) (λW hW=>by go_simp) ?_;go_simp;refine aB (.agg #[int i64 y.1.aA,int i64 y.1.unit,int i64 y.1.what,int i64 y.1.arg]) (by go_simp) (λW hW=>by obtain⟨-,-,-,-,y0,y1,y2,y3⟩:=FC.out W hW;go_simp) ?_;go_simp;refine dN _ _ _ (by go_simp) (λW hW=>by go_simp) (λW hW=>CC.out W hW) ?_;go_simp;refine aB (.bool (decide (mY x.1 y.1<0))) (by go_simp) (λW hW=>by go_simp) ?_;go_simp;intro W hW;have RW:=aj (RB.out.below hW RB.out.lt);have KW:=aj (K1.out.trans (Kp.of hW));have IX:Hid (∀z∈S1'.concat y,z.2<x.2):=λz hz=>HX.out z (by rw[<-H12.out];exact List.mem_append_left _ hz)
      have PW:Hid ((S1'.concat y++S2).Pairwise lt):=by unfold Hid;rw[H12.out];exact HS.out.1
      by_cases hc:mY x.1 y.1<0
      ·have LX:=aj ((tJ (IX.out y (by simp))).1 ((iP _ _).1 hc))
       obtain⟨x0,x1,x2,x3,y0,y1,y2,y3⟩:=FC.out W hW;have f0:=RW.out.thaw ((k+1)*4);have f1:=RW.out.thaw ((k+1)*4+1);have f2:=RW.out.thaw ((k+1)*4+2);have f3:=RW.out.thaw ((k+1)*4+3);have f4:=RW.out.thaw (k*4);have f5:=RW.out.thaw (k*4+1);have f6:=RW.out.thaw (k*4+2);have f7:=RW.out.thaw (k*4+3);clear hW FC CC;go_wp2_with fail
       go_region;have hlen:(fs (A++S1'.concat y++x::(S2++(V'++B)))).length=L:=by
        have h1:=HL2.out;have h2:=congrArg List.length H12.out;have h3:=congrArg List.length HV.out.2;simp[fs] at h2 h3 ⊢;have h4:=Hm.out;have h5:=Ha.out;simp at h4 h1;omega
       have rr:=(RW.out.put (i:=k+1) (by rw[hlen];exact Y_) y.1).put (i:=k) (by rw[List.length_set,hlen];omega) x.1;have el:((fs (A++S1'.concat y++x::(S2++(V'++B)))).set (k+1) y.1).set k x.1=fs (A++S1'++x::(y::S2++(V'++B))):=by
        have hP:(fs (A++S1')).length=k:=by simp[fs,<-hk,Ha.out]
        have h1:=qc (fs (A++S1')) y.1 x.1 (fs (S2++(V'++B)));rw[hP] at h1;have e1:fs (A++S1'.concat y++x::(S2++(V'++B)))=fs (A++S1')++y.1::x.1::fs (S2++(V'++B)):=by simp[fs]
        have e2:fs (A++S1'++x::(y::S2++(V'++B)))=fs (A++S1')++x.1::y.1::fs (S2++(V'++B)):=by simp[fs]
        rw[e1,e2];exact h1
       rw[el] at rr;have RR:Hid (Rb _ g (fs (A++S1'++x::(y::S2++(V'++B)))) rest):=rr;have KR:Hid (Kp g w _):=(((((((KW.out.trans (Kp.set W ((k+1)*4) (int i64 y.1.aA))).trans (Kp.set _ ((k+1)*4+1) (int i64 y.1.unit))).trans (Kp.set _ ((k+1)*4+2) (int i64 y.1.what))).trans (Kp.set _ ((k+1)*4+3) (int i64 y.1.arg))).trans (Kp.set _ (k*4) (int i64 x.1.aA))).trans (Kp.set _ (k*4+1) (int i64 x.1.unit))).trans (Kp.set _ (k*4+2) (int i64 x.1.what))).trans (Kp.set _ (k*4+3) (int i64 x.1.arg));clear rr;go_wp2;go_roundw
       case rel=>
        refine⟨S1',y::S2,by rw[hk],by rw[<-H12.out];simp,λz hz=>?_,RR.out.below (Below.refl _ _).drew RR.out.lt,KR.out.trans (Kp.of (Below.refl _ _).drew)⟩;rcases List.mem_cons.1 hz with rfl|hz
        ·exact LX.out
        ·exact H2.out z hz
       case measure=>simp[intOf]
      ·have LX:=aj ((tK (IX.out y (by simp))).1 (λh=>hc ((iP _ _).2 h)))
       have NEXT:Hid (∃(S' V2:List T),S'.Pairwise lt/\S'≠[]/\S'.Perm ((u::U').take S'.length)/\V2=(u::U').drop S'.length/\S'.length<=m/\S'.length=S.length+1/\Rb W g (fs (A++S'++(V2++B))) rest/\Kp g w W):=by
        have hl:(S1'.concat y++x::S2).length=S.length+1:=by
         rw[<-H12.out];simp;omega
        refine⟨S1'.concat y++x::S2,V',?_,by simp,?_,?_,by omega,hl,?_,KW.out⟩
        ·refine pV PW.out (λz hz=>?_) H2.out
         rw[List.concat_eq_append] at hz;rcases List.mem_append.1 hz with hz|hz
         ·have h1:=PW.out
          rw[List.concat_eq_append,List.append_assoc,List.pairwise_append] at h1;exact lt_trans (h1.2.2 z hz y (by simp)) LX.out
         ·simp at hz
          subst hz;exact LX.out
        ·rw[hl,HV.out.1]
         refine List.Perm.trans List.perm_middle ?_;rw[H12.out];exact((HS.out.2.cons x).trans (List.perm_append_singleton x _).symm)
        ·rw[hl,HV.out.2]
        ·have:=RW.out
         simpa using this
       clear hW FC CC;go_wp2;go_round
       case rel=>
        obtain⟨S',V2,q1,q2,q3,q4,q5,q6,q7,q8⟩:=NEXT.out;exact⟨S',V2,q1,q2,q3,q4,q5,by rw[q6,<-Nat.add_assoc,hi];go_num,q7,q8⟩
       case measure=>simp[intOf];omega
theorem qg{α:Type}:∀(U V Z:List α) (x y:α),((U++x::(V++y::Z)).set U.length y).set (U.length+1+V.length) x=U++y::(V++x::Z)
 |[],V,Z,x,y=>by
  have:∀(V:List α),(V++y::Z).set V.length x=V++x::Z:=λV=>by simp
  simp only[List.nil_append,List.length_nil,List.set_cons_zero,Nat.zero_add];rw[Nat.add_comm,List.set_cons_succ,this]
 |u::U,V,Z,x,y=>by
  have h:=qg U V Z x y;have e:(u::U).length+1+V.length=(U.length+1+V.length)+1:=by simp;omega
  rw[e];simp only[List.cons_append,List.length_cons,List.set_cons_succ];rw[h]
theorem yO{α:Type}(U V Z:List α)(x y:α):(U++x::(V++y::Z))[U.length]? =some x/\(U++x::(V++y::Z))[U.length+1+V.length]? =some y:=by
 refine⟨by simp,?_⟩;rw[List.getElem?_append_right (by omega)];have:U.length+1+V.length-U.length=V.length+1:=by omega
 rw[this];simp
def Za(P X M Y Q:List aK)(g:Nat)(rest:List Value)(w:World)(n:Nat)(iv:Value)(W:World):Prop:=∃(X1 X2 Y1 Y2:List aK),iv=int i64 (X1.length:Nat)/\X1++X2=X/\Y1++Y2=Y/\X1.length=Y1.length/\X1.length<=n/\Rb W g (P++Y1++(X2++(M++X1)++(Y2++Q))) rest/\Kp g w W
theorem mZ(P X M Y Q:List aK)(fv:Value)(g cap L a b n:Nat)(rest:List Value)(w:World)(hr:Rb w g (P++X++M++Y++Q) rest)(hL:(P++X++M++Y++Q).length=L)(hn:L<=1000)(hX:X.length=n)(hY:Y.length=n)(ha:P.length=a)(hb:(P++X++M).length=b):
  Calls Tryz.prog 272 #[slice (some ⟨g,0,none⟩) L cap,int i64 (a:Nat),int i64 (b:Nat),int i64 (n:Nat),fv] w
   (λe w'=>e=.returned (.tuple #[])/\Rb w' g (P++Y++M++X++Q) rest/\Kp g w w'):=by
 have R0:=aj (hr);have HL:=aj (hL);have HX:=aj (hX);have HY:=aj (hY);have Ha:=aj (ha);have Hb:Hid (a+n+M.length=b):=by unfold Hid;rw[<-hb,<-ha,<-hX];simp;omega
 have HL2:Hid (b+n<=L):=by unfold Hid;rw[<-hL,<-hb,<-hY];simp;omega
 clear hr hL hX hY ha hb;have HA2:Hid (a+n<=b):=by unfold Hid;have:=Hb.out;omega
 go_enter Tryz.func272,Tryz.ntmps272;go_wp2;go_loopw [10] (λiv W=>Za P X M Y Q g rest w n iv W) (λiv _=>n-(intOf iv).toNat)
 case atStart=>
  refine⟨[],X,[],Y,rfl,rfl,rfl,rfl,by simp,?_,Kp.refl _ _⟩;have:=R0.out;simpa using this
 case round=>
  obtain⟨X1,X2,Y1,Y2,rfl,hx,hy,hxy,hle,hrb,hk⟩:=hrel;have RB:=aj (hrb);have K1:=aj (hk);have H1:Hid (X1++X2=X/\Y1++Y2=Y/\X1.length=Y1.length):=⟨hx,hy,hxy⟩;have l1:X1.length+X2.length=n:=by have:=congrArg List.length hx;simp at this;rw[this];exact HX.out
  have l2:Y1.length+Y2.length=n:=by have:=congrArg List.length hy;simp at this;rw[this];exact HY.out
  obtain⟨i,hi⟩:∃i,X1.length=i:=⟨_,rfl⟩;have Hi:=aj (hi);rw[hi] at l1 hxy hle;rw[hi];clear hrb hk hx hy hi;by_cases he:i=n
  ·have hlt:¬((i:Nat):Int)<((n:Nat):Int):=by omega
   have FIN:Hid (Rb wr g (P++(Y++(M++(X++Q)))) rest):=by
    unfold Hid;have e1:X2=[]:=List.length_eq_zero_iff.1 (by omega);have e2:Y2=[]:=List.length_eq_zero_iff.1 (by omega);obtain⟨q1,q2,q3⟩:=H1.out;have:=RB.out;rw[e1] at q1 this;rw[e2] at q2 this;simp only[List.append_nil] at q1 q2;rw[q1,q2] at this;simpa using this
   clear l1 l2 hxy he;go_wp2;go_end0;exact⟨rfl,FIN.out,K1.out⟩
  ·have hlt:((i:Nat):Int)<((n:Nat):Int):=by omega
   obtain⟨x,X3,hx3⟩:∃x X3,X2=x::X3:=by
    cases X2 with
    |nil=>simp at l1;omega
    |cons x X3=>exact⟨x,X3,rfl⟩
   obtain⟨y,Y3,hy3⟩:∃y Y3,Y2=y::Y3:=by
    cases Y2 with
    |nil=>simp at l2;omega
    |cons y Y3=>exact⟨y,Y3,rfl⟩
   subst hx3 hy3;have l3:i+X3.length+1=n:=by simp at l1;omega
   obtain⟨p,hp⟩:∃p,a+i=p:=⟨_,rfl⟩;obtain⟨r,hr⟩:∃r,b+i=r:=⟨_,rfl⟩;have hpr:p<r:=by have:=HA2.out;omega
   have Zb:r<L:=by have:=HL2.out;omega
   have ep:(P++Y1).length=p:=by rw[<-hp,List.length_append,Ha.out,hxy]
   have er:(P++Y1).length+1+(X3++(M++X1)).length=r:=by
    have h1:=Hb.out;have h2:=Hi.out;rw[ep];simp;omega
   have EL:Hid (P++Y1++(x::X3++(M++X1)++(y::Y3++Q))=(P++Y1)++x::((X3++(M++X1))++y::(Y3++Q))):=by unfold Hid;simp
   have RC:Hid (Rb wr g ((P++Y1)++x::((X3++(M++X1))++y::(Y3++Q))) rest):=by unfold Hid;rw[<-EL.out];exact RB.out
   have AF:=yO (P++Y1) (X3++(M++X1)) (Y3++Q) x y;rw[er,ep] at AF;obtain⟨x0,x1,x2,x3⟩:=RC.out.cells AF.1;obtain⟨y0,y1,y2,y3⟩:=RC.out.cells AF.2;have SW:=qg (P++Y1) (X3++(M++X1)) (Y3++Q) x y;rw[er,ep] at SW;have Zc:Hid (_=_):=SW;have f0:=RC.out.thaw (p*4);have f1:=RC.out.thaw (p*4+1);have f2:=RC.out.thaw (p*4+2);have f3:=RC.out.thaw (p*4+3);have f4:=RC.out.thaw (r*4);have f5:=RC.out.thaw (r*4+1);have f6:=RC.out.thaw (r*4+2);have f7:=RC.out.thaw (r*4+3);have sp:((a:Nat):Int)+(i:Int)=p:=by omega
   have sr:((b:Nat):Int)+(i:Int)=r:=by omega
   have pw:IntKind.i64.wrap ((p:Nat):Int)=p:=by rw[IntKind.wrap_i64];omega
   have rw':IntKind.i64.wrap ((r:Nat):Int)=r:=by rw[IntKind.wrap_i64];omega
   have hpL:((p:Nat):Int)<(L:Int):=by omega
   have Zd:((r:Nat):Int)<(L:Int):=by omega
   have n1:¬p*4=r*4:=by omega
   have LL:Hid (((P++Y1)++x::((X3++(M++X1))++y::(Y3++Q))).length=L):=by
    have h1:=HL.out;have h2:=congrArg List.length H1.out.1;have h3:=congrArg List.length H1.out.2.1;unfold Hid;simp at h1 h2 h3 ⊢;omega
   have HP:Hid (p<r/\r<L):=⟨hpr,Zb⟩;have HM:Hid (i+1<=n/\i<n/\i=Y1.length):=⟨by omega,by omega,hxy⟩;clear SW AF EL ep er l1 l2 l3 hxy RB hp hr;go_wp2_with fail
   go_region;have rr:=(RC.out.put (i:=p) (by rw[LL.out];have:=HP.out;omega) y).put (i:=r) (by rw[List.length_set,LL.out];exact HP.out.2) x;rw[Zc.out] at rr;have RR:Hid (Rb _ g ((P++Y1)++y::((X3++(M++X1))++x::(Y3++Q))) rest):=rr;have KR:Hid (Kp g w _):=(((((((K1.out.trans (Kp.set wr (p*4) (int i64 y.aA))).trans (Kp.set _ (p*4+1) (int i64 y.unit))).trans (Kp.set _ (p*4+2) (int i64 y.what))).trans (Kp.set _ (p*4+3) (int i64 y.arg))).trans (Kp.set _ (r*4) (int i64 x.aA))).trans (Kp.set _ (r*4+1) (int i64 x.unit))).trans (Kp.set _ (r*4+2) (int i64 x.what))).trans (Kp.set _ (r*4+3) (int i64 x.arg));clear rr;go_wp2;go_roundw
   case rel=>
    have h1:=H1.out;have h2:=Hi.out;have h3:=HM.out;refine⟨X1++[x],X3,Y1++[y],Y3,by simp[h2],by rw[<-h1.1];simp,by rw[<-h1.2.1];simp,by simp;omega,by simp;omega,?_,KR.out.trans (Kp.of (Below.refl _ _).drew)⟩;have h4:=RR.out.below (Below.refl _ _).drew RR.out.lt;have e:P++(Y1++[y])++(X3++(M++(X1++[x]))++(Y3++Q))=(P++Y1)++y::((X3++(M++X1))++x::(Y3++Q)):=by simp
    rw[e];exact h4
   case measure=>have:=HM.out;simp[intOf];omega
def Ze(P u v Q:List aK)(g:Nat)(rest:List Value)(w:World)(iv jv:Value)(W:World):Prop:=∃(F u' v' E:List aK),iv=int i64 (u'.length:Nat)/\jv=int i64 (v'.length:Nat)/\u'≠[]/\v'≠[]/\F++(v'++u')++E=v++u/\F.length+u'.length=u.length/\Rb W g (P++F++u'++v'++(E++Q)) rest/\Kp g w W
theorem jy(P u v Q:List aK)(fv:Value)(g cap L a m b:Nat)(rest:List Value)(w:World)(hr:Rb w g (P++u++v++Q) rest)(hL:(P++u++v++Q).length=L)(hn:L<=1000)(hu:u≠[])(hv:v≠[])(ha:P.length=a)(hm:a+u.length=m)(hb:m+v.length=b):
  Calls Tryz.prog 255 #[slice (some ⟨g,0,none⟩) L cap,int i64 (a:Nat),int i64 (m:Nat),int i64 (b:Nat),fv] w
   (λe w'=>e=.returned (.tuple #[])/\Rb w' g (P++v++u++Q) rest/\Kp g w w'):=by
 have R0:=aj (hr);have HL:Hid (a+u.length+v.length+Q.length=L):=by unfold Hid;rw[<-hL,<-ha];simp;omega
 have Ha:=aj (ha);have Hm:=aj (hm);have Hb:=aj (hb);have Yo:Hid (u≠[]/\v≠[]):=⟨hu,hv⟩;have hbL:b<=L:=by have:=HL.out;omega
 have Uu:((m:Nat):Int)-(a:Int)=(u.length:Nat):=by omega
 have Vs:((b:Nat):Int)-(m:Int)=(v.length:Nat):=by omega
 have Zf:IntKind.i64.wrap ((u.length:Nat):Int)=(u.length:Nat):=by rw[IntKind.wrap_i64];omega
 have Zg:IntKind.i64.wrap ((v.length:Nat):Int)=(v.length:Nat):=by rw[IntKind.wrap_i64];omega
 clear hr hL hu hv ha hm hb;go_enter Tryz.func255,Tryz.ntmps255;go_wp2;go_loopw [10,11] (λiv jv W=>Ze P u v Q g rest w iv jv W) (λiv jv _=>(intOf iv).toNat+(intOf jv).toNat)
 case atStart=>
  refine⟨[],u,v,[],rfl,rfl,Yo.out.1,Yo.out.2,by simp,by simp,?_,Kp.refl _ _⟩;have:=R0.out;simpa using this
 case round=>
  obtain⟨F,u',v',E,rfl,rfl,hu,hv,hF,hlen,hrb,hk⟩:=hrel;have RB:=aj (hrb);have K1:=aj (hk);have HF:=aj (hF);have Yp:=aj (hlen);have Zh:F.length+v'.length+u'.length+E.length=v.length+u.length:=by have:=congrArg List.length hF;simp at this;omega
  obtain⟨i,hi⟩:∃i,u'.length=i:=⟨_,rfl⟩;obtain⟨j,hj⟩:∃j,v'.length=j:=⟨_,rfl⟩;have Hi:=aj (hi);have Hj:=aj (hj);have i1:1<=i:=by rw[<-hi];exact List.length_pos_iff.2 hu
  have j1:1<=j:=by rw[<-hj];exact List.length_pos_iff.2 hv
  obtain⟨c,hc⟩:∃c,a+F.length=c:=⟨_,rfl⟩;have Hc:Hid ((P++F).length=c):=by unfold Hid;rw[<-hc,List.length_append,Ha.out]
  have hci:c+i=m:=by have:=Hm.out;omega
  have hjb:m+j<=b:=by have:=Hm.out;have:=Hb.out;omega
  have Xi:Hid ((P++F++u'++v'++(E++Q)).length=L):=by
   have h1:=HL.out;have h2:=Ha.out;unfold Hid;simp;omega
  rw[hi,hj];have smc:((m:Nat):Int)-(i:Int)=(c:Nat):=by omega
  have wc:IntKind.i64.wrap ((c:Nat):Int)=(c:Nat):=by rw[IntKind.wrap_i64];omega
  clear hrb hk hF hlen Zh hu hv hc Uu Vs Zf Zg;by_cases he:i=j
  ·subst he
   have CL:=mZ (P++F) u' [] v' (E++Q) fv g cap L c m i rest wr (by simpa using RB.out) (by simpa using Xi.out) hn Hi.out Hj.out Hc.out (by have:=Hc.out;have:=Hi.out;simp at *;omega);have hne:¬((i:Nat):Int)≠(i:Int):=by simp
   clear hi hj;go_wp2_with fail
   refine Calls.mono CL ?_;rintro e w1 ⟨rfl,hr1,hk1⟩;have R1:=aj (hr1);have K2:=aj (hk1);clear hr1 hk1;go_wp2;go_end0;refine⟨rfl,?_,K1.out.trans K2.out⟩;have h:=R1.out;have e:P++F++v'++[]++u'++(E++Q)=P++(v++u)++Q:=by rw[<-HF.out];simp
   rw[e] at h;simpa using h
  ·by_cases hgt:j<i
   ·obtain⟨x,y,hxy,hx⟩:∃x y,u'=x++y/\x.length=j:=⟨u'.take j,u'.drop j,(List.take_append_drop _ _).symm,by rw[List.length_take];omega⟩
    have hy:y.length=i-j:=by have:=congrArg List.length hxy;simp at this;omega
    subst hxy;have CL:=mZ (P++F) x y v' (E++Q) fv g cap L c m j rest wr (by simpa using RB.out) (by have:=Xi.out;simp at this ⊢;omega) hn hx Hj.out Hc.out (by have:=Hc.out;have:=Hi.out;simp at *;omega);have kE:Hid (x.length=j/\y.length=i-j):=⟨hx,hy⟩;have hne:¬((i:Nat):Int)=(j:Int):=by omega
    have hgi:((j:Nat):Int)<(i:Int):=by omega
    obtain⟨d,hd⟩:∃d,i-j=d:=⟨_,rfl⟩;have Hd:Hid (1<=d/\d+j=i/\y.length=d):=⟨by omega,by omega,by omega⟩;have Zi:((i:Nat):Int)-(j:Int)=(d:Nat):=by omega
    have wd:IntKind.i64.wrap ((d:Nat):Int)=(d:Nat):=by rw[IntKind.wrap_i64];omega
    clear hi hj hx hy hd;go_wp2_with fail
    refine Calls.mono CL ?_;rintro e w1 ⟨rfl,hr1,hk1⟩;have R1:=aj (hr1);have K2:=aj (hk1);clear hr1 hk1;go_wp2;go_roundw
    case rel=>
     obtain⟨d1,d2,d3⟩:=Hd.out;obtain⟨e1,e2⟩:=kE.out;have e3:=Hj.out;have e4:=Yp.out;refine⟨F++v',y,x,E,by rw[d3],by rw[e1],by intro h;rw[h] at d3;simp at d3;omega,by intro h;rw[h] at e1;simp at e1;omega,by rw[<-HF.out];simp,?_,?_,K1.out.trans K2.out⟩
     ·simp at e4 ⊢;omega
     ·have h:=R1.out
      simpa using h
    case measure=>have:=Hd.out;simp[intOf];omega
   ·obtain⟨x,y,hxy,hx⟩:∃x y,v'=x++y/\x.length=j-i:=⟨v'.take (j-i),v'.drop (j-i),(List.take_append_drop _ _).symm,by rw[List.length_take];omega⟩
    have hy:y.length=i:=by have:=congrArg List.length hxy;simp at this;omega
    subst hxy;obtain⟨d,hd⟩:∃d,j-i=d:=⟨_,rfl⟩;obtain⟨t,ht⟩:∃t,m+d=t:=⟨_,rfl⟩;have CL:=mZ (P++F) u' x y (E++Q) fv g cap L c t i rest wr (by simpa using RB.out) (by have:=Xi.out;simp at this ⊢;omega) hn Hi.out hy Hc.out (by have:=Hc.out;have:=Hi.out;simp at *;omega);have kE:Hid (x.length=d/\y.length=i):=⟨by omega,hy⟩;have hne:¬((i:Nat):Int)=(j:Int):=by omega
    have hgi:¬((j:Nat):Int)<(i:Int):=by omega
    have Hd:Hid (1<=d/\d+i=j/\1<=i):=⟨by omega,by omega,i1⟩;obtain⟨mj,hmj⟩:∃mj,m+j=mj:=⟨_,rfl⟩;have smj:((m:Nat):Int)+(j:Int)=(mj:Nat):=by omega
    have wmj:IntKind.i64.wrap ((mj:Nat):Int)=(mj:Nat):=by rw[IntKind.wrap_i64];omega
    have smt:((mj:Nat):Int)-(i:Int)=(t:Nat):=by omega
    have wt:IntKind.i64.wrap ((t:Nat):Int)=(t:Nat):=by rw[IntKind.wrap_i64];omega
    have Zi:((j:Nat):Int)-(i:Int)=(d:Nat):=by omega
    have wd:IntKind.i64.wrap ((d:Nat):Int)=(d:Nat):=by rw[IntKind.wrap_i64];omega
    clear hi hj hx hy hd ht hmj;go_wp2_with fail
    refine Calls.mono CL ?_;rintro e w1 ⟨rfl,hr1,hk1⟩;have R1:=aj (hr1);have K2:=aj (hk1);clear hr1 hk1;go_wp2;go_roundw
    case rel=>
     obtain⟨d1,d2,d3⟩:=Hd.out;obtain⟨e1,e2⟩:=kE.out;have e3:=Hi.out;have e4:=Yp.out;refine⟨F,y,x,u'++E,by rw[e2],by rw[e1],by intro h;rw[h] at e2;simp at e2;omega,by intro h;rw[h] at e1;simp at e1;omega,by rw[<-HF.out];simp,?_,?_,K1.out.trans K2.out⟩
     ·omega
     ·have h:=R1.out
      simpa using h
    case measure=>have:=Hd.out;simp[intOf];omega
def Zj(A:List T)(x:T)(Y B:List T)(g:Nat)(rest:List Value)(w:World)(m:Nat)(iv jv:Value)(W:World):Prop:=∃(Y1 Y2 Y3:List T),iv=int i64 ((m+Y1.length:Nat):Int)/\jv=int i64 ((m+Y1.length+Y2.length:Nat):Int)/\Y1++Y2++Y3=Y/\(∀z∈Y1,lt z x)/\(∀z∈Y3,lt x z)/\Rb W g (fs (A++x::(Y++B))) rest/\Kp g w W
def Zk(A:List T)(x:T)(Y1 YB:List T)(g:Nat)(rest:List Value)(w:World)(a:Nat)(kv:Value)(W:World):Prop:=∃(U V:List T),kv=int i64 ((a+U.length:Nat):Int)/\U++V=Y1/\Rb W g (fs (A++U)++x.1::(fs V++fs YB)) rest/\Kp g w W
def gX(A XY B:List T)(g:Nat)(rest:List Value)(w:World)(e:Ending)(w':World):Prop:=e=.returned (.tuple #[])/\∃Z:List T,Z.Perm XY/\Z.Pairwise lt/\Rb w' g (fs (A++Z++B)) rest/\Kp g w w'
theorem NW{α:Type}(P:List α)(x y:α)(R:List α):((P++x::y::R).set P.length y).set (P.length+1) x=P++y::x::R:=qg P [] R x y
theorem N_(A:List T)(x:T)(Y B:List T)(g cap L a m b:Nat)(rest:List Value)(w:World)(hY:Y.Pairwise lt)(hpl:∀y∈Y,x.2<y.2)(hr:Rb w g (fs (A++x::(Y++B))) rest)(hL:A.length+1+Y.length+B.length=L)(hn:L<=1000)(ha:A.length=a)(hm:a+1=m)(hb:m+Y.length=b):
  Calls Tryz.prog 230 #[slice (some ⟨g,0,none⟩) L cap,int i64 (a:Nat),int i64 (m:Nat),int i64 (b:Nat),.func (.func 151) #[] #[]] w
   (gX A (x::Y) B g rest w):=by
 have R0:=aj (hr);have HL:=aj (hL);have Ha:=aj (ha);have Hm:=aj (hm);have Hb:=aj (hb);have HY:Hid (Y.Pairwise lt/\∀y∈Y,x.2<y.2):=⟨hY,hpl⟩;have hbL:b<=L:=by omega
 have Uu:((m:Nat):Int)-(a:Int)=1:=by omega
 have haL:((a:Nat):Int)<(L:Int):=by omega
 clear hr hL hY hpl ha hm hb;go_enter Tryz.func230,Tryz.ntmps230;go_wp2;go_loopw [10,11] (λiv jv W=>Zj A x Y B g rest w m iv jv W) (λiv jv _=>(intOf jv).toNat-(intOf iv).toNat)
 case atStart=>
  refine⟨[],Y,[],by simp,by have:=Hb.out;simp;omega,by simp,by simp,by simp,R0.out,Kp.refl _ _⟩
 case round=>
  obtain⟨Y1,Y2,Y3,rfl,rfl,h12,hlo,hhi,hrb,hk⟩:=hrel;have RB:=aj (hrb);have K1:=aj (hk);have H12:=aj (h12);have QV:=aj (hlo);have Uw:=aj (hhi);have Sr:Y1.length+Y2.length+Y3.length=Y.length:=by have:=congrArg List.length h12;simp at this;omega
  obtain⟨i,hi⟩:∃i,m+Y1.length=i:=⟨_,rfl⟩;obtain⟨j,hj⟩:∃j,i+Y2.length=j:=⟨_,rfl⟩;rw[hi,hj];have hjb:j<=b:=by have:=Hb.out;omega
  clear hrb hk h12 hlo hhi;by_cases he:i=j
  ·have hlt:¬((i:Nat):Int)<(j:Int):=by omega
   have e2:Y2=[]:=List.length_eq_zero_iff.1 (by omega);subst e2;have HI:Hid (a+Y1.length+1=i):=by unfold Hid;have:=Hm.out;omega
   have SI:Hid (((i:Nat):Int)-1=((a+Y1.length:Nat):Int)):=by unfold Hid;have:=HI.out;omega
   have hib:i<=b:=by omega
   clear Sr hj he;have si:=SI.out;obtain⟨t,ht⟩:∃t,a+Y1.length=t:=⟨_,rfl⟩;have Ht:=aj (ht);have Zl:t<L:=by have:=HI.out;omega
   rw[ht] at si;have wt:IntKind.i64.wrap ((t:Nat):Int)=(t:Nat):=by rw[IntKind.wrap_i64];omega
   have e12:Y1++[]++Y3=Y1++Y3:=by simp
   have H13:Hid (Y1++Y3=Y):=by unfold Hid;rw[<-e12];exact H12.out
   clear ht e12 hi SI;go_wp2_with fail
   go_loopw [13] (λkv W=>Zk A x Y1 (Y3++B) g rest w a kv W) (λkv _=>t-(intOf kv).toNat)
   case atStart=>
    refine⟨[],Y1,by simp,by simp,?_,K1.out⟩;have h:=RB.out;rw[<-H13.out] at h;simpa[fs] using h
   case round=>
    obtain⟨U,V,rfl,QW,hrb,hk⟩:=hrel;have R1:=aj (hrb);have K2:=aj (hk);have Ux:=aj (QW);have hl:U.length+V.length=Y1.length:=by have:=congrArg List.length QW;simpa using this
    obtain⟨k,hk'⟩:∃k,a+U.length=k:=⟨_,rfl⟩;have Hk:=aj (hk');rw[hk'];clear hrb hk QW;cases V with
    |nil=>
     have hnk:¬((k:Nat):Int)<(t:Int):=by have:=Ht.out;simp at hl;omega
     clear hk' hl;go_wp2;go_end0;refine⟨rfl,Y1++x::Y3,?_,?_,?_,K2.out⟩
     ·rw[<-H13.out];exact List.perm_middle
     ·exact pV (by rw[H13.out];exact HY.out.1) QV.out Uw.out
     ·have h:=R1.out
      have e:=Ux.out;simp only[List.append_nil] at e;rw[e] at h;simpa[fs] using h
    |cons y V'=>
     have hnk:((k:Nat):Int)<(t:Int):=by have:=Ht.out;simp at hl;omega
     have hkt:k<t:=by omega
     have Sv:Hid (k<t/\t<L):=⟨hkt,Zl⟩;have hP:(fs (A++U)).length=k:=by have:=Ha.out;simp[fs];omega
     have RC:Hid (Rb wr g (fs (A++U)++x.1::y.1::(fs V'++fs (Y3++B))) rest):=by have:=R1.out;simpa[fs,Hid] using this
     have AF:=yO (fs (A++U)) [] (fs V'++fs (Y3++B)) x.1 y.1;simp only[List.nil_append,List.length_nil,Nat.add_zero] at AF;have SW:Hid (_=_):=NW (fs (A++U)) x.1 y.1 (fs V'++fs (Y3++B));rw[hP] at AF SW;have LL:Hid ((fs (A++U)++x.1::y.1::(fs V'++fs (Y3++B))).length=L):=by
      have h1:=HL.out;have h2:=congrArg List.length H13.out;have h3:=Ha.out;have h4:=hP;unfold Hid;simp at h2 hl ⊢;simp at h4;omega
     obtain⟨x0,x1,x2,x3⟩:=RC.out.cells AF.1;obtain⟨y0,y1,y2,y3⟩:=RC.out.cells AF.2;have f0:=RC.out.thaw (k*4);have f1:=RC.out.thaw (k*4+1);have f2:=RC.out.thaw (k*4+2);have f3:=RC.out.thaw (k*4+3);have f4:=RC.out.thaw ((k+1)*4);have f5:=RC.out.thaw ((k+1)*4+1);have f6:=RC.out.thaw ((k+1)*4+2);have f7:=RC.out.thaw ((k+1)*4+3);have kpos:¬((k:Nat):Int)+1<0:=by omega
     have hki:((k:Nat):Int)+1<(L:Int):=by omega
     have Ut:((k:Nat):Int)<(L:Int):=by omega
     clear AF hP hl hk' R1;go_wp2_with fail
     go_region;have rr:=(RC.out.put (i:=k) (by rw[LL.out];have:=Sv.out;omega) y.1).put (i:=k+1) (by rw[List.length_set,LL.out];have:=Sv.out;omega) x.1;rw[SW.out] at rr;have RR:Hid (Rb _ g (fs (A++U)++y.1::x.1::(fs V'++fs (Y3++B))) rest):=rr;have KR:Hid (Kp g w _):=(((((((K2.out.trans (Kp.set wr (k*4) (int i64 y.1.aA))).trans (Kp.set _ (k*4+1) (int i64 y.1.unit))).trans (Kp.set _ (k*4+2) (int i64 y.1.what))).trans (Kp.set _ (k*4+3) (int i64 y.1.arg))).trans (Kp.set _ ((k+1)*4) (int i64 x.1.aA))).trans (Kp.set _ ((k+1)*4+1) (int i64 x.1.unit))).trans (Kp.set _ ((k+1)*4+2) (int i64 x.1.what))).trans (Kp.set _ ((k+1)*4+3) (int i64 x.1.arg));clear rr;go_wp2;go_roundw
     case rel=>
      have h1:=Hk.out;refine⟨U++[y],V',by rw[<-h1];simp;omega,by rw[<-Ux.out];simp,?_,KR.out.trans (Kp.of (Below.refl _ _).drew)⟩;have h4:=RR.out.below (Below.refl _ _).drew RR.out.lt;have e:fs (A++(U++[y]))++x.1::(fs V'++fs (Y3++B))=fs (A++U)++y.1::x.1::(fs V'++fs (Y3++B)):=by simp[fs]
      rw[e];exact h4
     case measure=>have:=Sv.out;simp[intOf];omega
  ·have hlt:((i:Nat):Int)<(j:Int):=by omega
   obtain⟨s,hs⟩:∃s,i+j=s:=⟨_,rfl⟩;obtain⟨h,hh⟩:∃h,s/2=h:=⟨_,rfl⟩;have ss:((i:Nat):Int)+(j:Int)=(s:Nat):=by omega
   have ws:IntKind.i64.wrap ((s:Nat):Int)=(s:Nat):=by rw[IntKind.wrap_i64];omega
   have sh:((s:Nat):Int)/2=(h:Nat):=by omega
   have hih:i<=h/\h<j:=by omega
   obtain⟨P,y,R,hY2,hPl⟩:∃P y R,Y2=P++y::R/\P.length=h-i:=by
    have h1:h-i<Y2.length:=by omega
    exact⟨Y2.take _,Y2[h-i],Y2.drop _,by rw[List.getElem_cons_drop,List.take_append_drop],by rw[List.length_take];omega⟩
   subst hY2;have Zm:h<L:=by omega
   have Hy:Hid ((fs (A++x::(Y++B)))[h]? =some y.1):=by
    have e:A++x::(Y++B)=(A++x::(Y1++P))++y::(R++Y3++B):=by rw[<-H12.out];simp
    have e2:h=(fs (A++x::(Y1++P))).length:=by have:=Ha.out;have:=Hm.out;simp[fs];omega
    unfold Hid;rw[e,e2];simp[fs]
   have Hx:Hid ((fs (A++x::(Y++B)))[a]? =some x.1):=by
    have e2:a=(fs A).length:=by have:=Ha.out;simp[fs];omega
    unfold Hid;rw[e2];simp[fs]
   have FC:Hid (∀W,Below wr.heap.size wr W->W.cell? ⟨g,a*4,none⟩=some (int i64 x.1.aA)/\W.cell? ⟨g,a*4+1,none⟩=some (int i64 x.1.unit)/\W.cell? ⟨g,a*4+2,none⟩=some (int i64 x.1.what)/\W.cell? ⟨g,a*4+3,none⟩=some (int i64 x.1.arg)/\W.cell? ⟨g,h*4,none⟩=some (int i64 y.1.aA)/\W.cell? ⟨g,h*4+1,none⟩=some (int i64 y.1.unit)/\W.cell? ⟨g,h*4+2,none⟩=some (int i64 y.1.what)/\W.cell? ⟨g,h*4+3,none⟩=some (int i64 y.1.arg)):=λW hW=>by
    have r:=RB.out.below hW RB.out.lt;obtain⟨x0,x1,x2,x3⟩:=r.cells Hx.out;obtain⟨y0,y1,y2,y3⟩:=r.cells Hy.out;exact⟨x0,x1,x2,x3,y0,y1,y2,y3⟩
   have CC:Hid (∀W,Below wr.heap.size wr W->Calls Tryz.prog 151 #[.agg #[int i64 y.1.aA,int i64 y.1.unit,int i64 y.1.what,int i64 y.1.arg],.agg #[int i64 x.1.aA,int i64 x.1.unit,int i64 x.1.what,int i64 x.1.arg]] W λe w'=>e=.returned (int i64 (mY y.1 x.1))/\Below wr.heap.size wr w'):=λW hW=>(iR y.1 x.1 W).mono λe w' ⟨h1,h2⟩=>⟨h1,hW.trans (h2.mono hW.size)⟩
   have ec:=NV;have hhi:((h:Nat):Int)<(L:Int):=by omega
   have IX:=aj (HY.out.2 y (by rw[<-H12.out];simp));have PW:Hid ((Y1++(P++y::R)++Y3).Pairwise lt):=by unfold Hid;rw[H12.out];exact HY.out.1
   have HN:Hid (m+Y1.length=i/\i+P.length=h/\h+1+R.length=j):=⟨hi,by omega,by simp at hj;omega⟩;clear hi hj hh hs hih hPl Sr;go_upto_region 5 with fail
   refine cO 10 (λW=>Below wr.heap.size wr W) (by kernel_rfl) (by kernel_rfl) (Below.refl _ _).drew ?_;simp only[List.take_succ_cons,List.take_zero,List.drop_succ_cons,List.drop_zero];refine aB (.func (.func 151) #[] #[]) (by go_simp) (λW hW=>by go_simp) ?_;go_simp;refine aB (slice (some ⟨g,0,none⟩) L cap) (by go_simp) (λW hW=>by go_simp) ?_;go_simp;refine aB (int i64 (h:Int)) (by go_simp) (λW hW=>by go_simp) ?_;go_simp;refine aB (.pointer (some ⟨g,h*4,none⟩)) (by go_simp) (λW hW=>by go_simp) ?_;go_simp;refine aB (.agg #[int i64 y.1.aA,int i64 y.1.unit,int i64 y.1.what,int i64 y.1.arg]) (by go_simp) (λW hW=>by obtain⟨-,-,-,-,y0,y1,y2,y3⟩:=FC.out W hW;go_simp) ?_;go_simp;refine aB (slice (some ⟨g,0,none⟩) L cap) (by go_simp) (λW hW=>by go_simp) ?_;go_simp;refine aB (int i64 (a:Int)) (by go_simp) (λW hW=>by go_simp) ?_;go_simp;refine aB (.pointer (some ⟨g,a*4,none⟩)) (by go_simp) (λW hW=>by go_simp) ?_;go_simp;refine aB (.agg #[int i64 x.1.aA,int i64 x.1.unit,int i64 x.1.what,int i64 x.1.arg]) (by go_simp) (λW hW=>by obtain⟨x0,x1,x2,x3,-⟩:=FC.out W hW;go_simp) ?_;go_simp;refine dN _ _ _ (by go_simp) (λW hW=>by go_simp) (λW hW=>CC.out W hW) ?_;go_simp;intro W hW;have RW:=aj (RB.out.below hW RB.out.lt);have KW:=aj (K1.out.trans (Kp.of hW));by_cases hc:mY y.1 x.1<0
   ·have LX:=aj ((tJ IX.out).1 ((iP _ _).1 hc))
    clear hW FC CC;go_wp2;go_roundw
    case rel=>
     obtain⟨n1,n2,n3⟩:=HN.out;refine⟨Y1++(P++[y]),R,Y3,?_,?_,by rw[<-H12.out];simp,λz hz=>?_,Uw.out,RW.out,KW.out⟩
     ·congr 1;simp;omega
     ·congr 1;simp;omega
     ·rcases List.mem_append.1 hz with hz|hz
      ·exact QV.out z hz
      ·rcases List.mem_append.1 hz with hz|hz
       ·have h1:=PW.out
        rw[List.append_assoc,List.pairwise_append] at h1;have h2:=h1.2.1;rw[List.append_assoc,List.pairwise_append] at h2;exact lt_trans (h2.2.2 z hz y (by simp)) LX.out
       ·simp at hz
        subst hz;exact LX.out
    case measure=>have:=HN.out;simp[intOf];omega
   ·have LX:=aj ((tK IX.out).1 (λh=>hc ((iP _ _).2 h)))
    clear hW FC CC;go_wp2;go_roundw
    case rel=>
     obtain⟨n1,n2,n3⟩:=HN.out;refine⟨Y1,P,y::(R++Y3),?_,?_,by rw[<-H12.out];simp,QV.out,λz hz=>?_,RW.out,KW.out⟩
     ·congr 1;omega
     ·congr 1;omega
     ·rcases List.mem_cons.1 hz with rfl|hz
      ·exact LX.out
      ·have h1:=PW.out
       have e:Y1++(P++y::R)++Y3=(Y1++P)++y::(R++Y3):=by simp
       rw[e,List.pairwise_append] at h1;exact lt_trans LX.out ((List.pairwise_cons.1 h1.2.1).1 z hz)
    case measure=>have:=HN.out;simp[intOf];omega
def Zn(A X:List T)(y:T)(B:List T)(g:Nat)(rest:List Value)(w:World)(a:Nat)(iv jv:Value)(W:World):Prop:=∃(X1 X2 X3:List T),iv=int i64 ((a+X1.length:Nat):Int)/\jv=int i64 ((a+X1.length+X2.length:Nat):Int)/\X1++X2++X3=X/\(∀z∈X1,lt z y)/\(∀z∈X3,lt y z)/\Rb W g (fs (A++X++y::B)) rest/\Kp g w W
def Zo(AX:List T)(y:T)(X3 B:List T)(g:Nat)(rest:List Value)(w:World)(i:Nat)(kv:Value)(W:World):Prop:=∃(U V:List T),kv=int i64 ((i+U.length:Nat):Int)/\U++V=X3/\Rb W g (fs (AX++U)++y.1::(fs V++fs B)) rest/\Kp g w W
theorem JD(A X:List T)(y:T)(B:List T)(g cap L a m b:Nat)(rest:List Value)(w:World)(hX:X.Pairwise lt)(hpl:∀x∈X,x.2<y.2)(hX1:X.length≠1)(hr:Rb w g (fs (A++X++y::B)) rest)(hL:A.length+X.length+1+B.length=L)(hn:L<=1000)(ha:A.length=a)(hm:a+X.length=m)(hb:m+1=b):
  Calls Tryz.prog 230 #[slice (some ⟨g,0,none⟩) L cap,int i64 (a:Nat),int i64 (m:Nat),int i64 (b:Nat),.func (.func 151) #[] #[]] w
   (gX A (X++[y]) B g rest w):=by
 have R0:=aj (hr);have HL:=aj (hL);have Ha:=aj (ha);have Hm:=aj (hm);have Hb:=aj (hb);have HX:Hid (X.Pairwise lt/\∀x∈X,x.2<y.2):=⟨hX,hpl⟩;have hbL:b<=L:=by omega
 obtain⟨d,hd⟩:∃d,X.length=d:=⟨_,rfl⟩;have Uu:((m:Nat):Int)-(a:Int)=(d:Nat):=by omega
 have wd:IntKind.i64.wrap ((d:Nat):Int)=(d:Nat):=by rw[IntKind.wrap_i64];omega
 have d1:(((d:Nat):Int)==1)=false:=by have:¬((d:Nat):Int)=1:=by omega
                                      simpa using this
 have Vs:((b:Nat):Int)-(m:Int)=1:=by omega
 have hmL:((m:Nat):Int)<(L:Int):=by omega
 clear hr hL hX hpl ha hm hb hd hX1;go_enter Tryz.func230,Tryz.ntmps230;go_wp2;go_loopw [14,15] (λiv jv W=>Zn A X y B g rest w a iv jv W) (λiv jv _=>(intOf jv).toNat-(intOf iv).toNat)
 case atStart=>
  refine⟨[],X,[],by simp,by have:=Hm.out;simp;omega,by simp,by simp,by simp,R0.out,Kp.refl _ _⟩
 case round=>
  obtain⟨X1,X2,X3,rfl,rfl,h12,hlo,hhi,hrb,hk⟩:=hrel;have RB:=aj (hrb);have K1:=aj (hk);have H12:=aj (h12);have QV:=aj (hlo);have Uw:=aj (hhi);have Sr:X1.length+X2.length+X3.length=X.length:=by have:=congrArg List.length h12;simp at this;omega
  obtain⟨i,hi⟩:∃i,a+X1.length=i:=⟨_,rfl⟩;obtain⟨j,hj⟩:∃j,i+X2.length=j:=⟨_,rfl⟩;rw[hi,hj];have hjb:j<=m:=by have:=Hm.out;omega
  have Xj:m<L:=by have:=Hb.out;omega
  clear hrb hk h12 hlo hhi;by_cases he:i=j
  ·have hlt:¬((i:Nat):Int)<(j:Int):=by omega
   have e2:X2=[]:=List.length_eq_zero_iff.1 (by omega);subst e2;have HI:=aj (hi);have e12:X1++[]++X3=X1++X3:=by simp
   have H13:Hid (X1++X3=X):=by unfold Hid;rw[<-e12];exact H12.out
   have HM2:Hid (i+X3.length=m):=by unfold Hid;have:=Hm.out;simp at Sr;omega
   clear Sr hj he e12 hi;go_wp2_with fail
   go_loopw [17] (λkv W=>Zo (A++X1) y X3 B g rest w i kv W) (λkv _=>(intOf kv).toNat)
   case atStart=>
    refine⟨X3,[],by rw[HM2.out],by simp,?_,K1.out⟩;have h:=RB.out;rw[<-H13.out] at h;simpa[fs] using h
   case round=>
    obtain⟨U,V,rfl,QW,hrb,hk⟩:=hrel;have R1:=aj (hrb);have K2:=aj (hk);have Ux:=aj (QW);have hl:U.length+V.length=X3.length:=by have:=congrArg List.length QW;simpa using this
    clear hrb hk QW;rcases List.eq_nil_or_concat U with h0|⟨U',z,h0⟩
    ·subst h0
     have hnk:¬((i:Nat):Int)<(i:Int):=by omega
     simp only[List.length_nil,Nat.add_zero];clear hl;go_wp2;go_end0;refine⟨rfl,X1++y::X3,?_,?_,?_,K2.out⟩
     ·rw[<-H13.out]
      exact List.perm_middle.trans (List.perm_append_singleton y _).symm
     ·exact pV (by rw[H13.out];exact HX.out.1) QV.out Uw.out
     ·have h:=R1.out
      have e:=Ux.out;simp only[List.nil_append] at e;rw[e] at h;simpa[fs] using h
    ·subst h0
     obtain⟨k,hk⟩:∃k,i+U'.length=k:=⟨_,rfl⟩;have hk1:i+(U'.concat z).length=k+1:=by rw[<-hk];simp;omega
     have HK:=aj (hk);have hkm:k+1<=m:=by have:=HM2.out;omega
     have e1:((i+(U'.concat z).length:Nat):Int)=(k:Int)+1:=by rw[hk1];rfl
     rw[e1];have hnk:((i:Nat):Int)<(k:Int)+1:=by omega
     have Sv:Hid (k+1<=m/\m<L):=⟨hkm,Xj⟩;have hP:(fs ((A++X1)++U')).length=k:=by have:=Ha.out;have:=HI.out;simp[fs];omega
     have RC:Hid (Rb wr g (fs ((A++X1)++U')++z.1::y.1::(fs V++fs B)) rest):=by have:=R1.out;simpa[fs,Hid] using this
     have AF:=yO (fs ((A++X1)++U')) [] (fs V++fs B) z.1 y.1;simp only[List.nil_append,List.length_nil,Nat.add_zero] at AF;have SW:Hid (_=_):=qc (fs ((A++X1)++U')) z.1 y.1 (fs V++fs B);rw[hP] at AF SW;have LL:Hid ((fs ((A++X1)++U')++z.1::y.1::(fs V++fs B)).length=L):=by
      have h1:=HL.out;have h2:=congrArg List.length H13.out;have h3:=Ha.out;have h4:=hP;unfold Hid;simp at h2 hl ⊢;simp at h4;omega
     obtain⟨x0,x1,x2,x3⟩:=RC.out.cells AF.1;obtain⟨y0,y1,y2,y3⟩:=RC.out.cells AF.2;have f0:=RC.out.thaw (k*4);have f1:=RC.out.thaw (k*4+1);have f2:=RC.out.thaw (k*4+2);have f3:=RC.out.thaw (k*4+3);have f4:=RC.out.thaw ((k+1)*4);have f5:=RC.out.thaw ((k+1)*4+1);have f6:=RC.out.thaw ((k+1)*4+2);have f7:=RC.out.thaw ((k+1)*4+3);have kpos:¬((k:Nat):Int)+1<0:=by omega
     have hki:((k:Nat):Int)+1<(L:Int):=by omega
     have Ut:((k:Nat):Int)<(L:Int):=by omega
     have kk1:((k:Nat):Int)+1-1=k:=by omega
     have kw:IntKind.i64.wrap ((k:Nat):Int)=k:=by rw[IntKind.wrap_i64];omega
     clear AF hP hl hk hk1 R1 e1;go_wp2_with fail
     go_region;have rr:=(RC.out.put (i:=k+1) (by rw[LL.out];have:=Sv.out;omega) z.1).put (i:=k) (by rw[List.length_set,LL.out];have:=Sv.out;omega) y.1;rw[SW.out] at rr;have RR:Hid (Rb _ g (fs ((A++X1)++U')++y.1::z.1::(fs V++fs B)) rest):=rr;have KR:Hid (Kp g w _):=(((((((K2.out.trans (Kp.set wr ((k+1)*4) (int i64 z.1.aA))).trans (Kp.set _ ((k+1)*4+1) (int i64 z.1.unit))).trans (Kp.set _ ((k+1)*4+2) (int i64 z.1.what))).trans (Kp.set _ ((k+1)*4+3) (int i64 z.1.arg))).trans (Kp.set _ (k*4) (int i64 y.1.aA))).trans (Kp.set _ (k*4+1) (int i64 y.1.unit))).trans (Kp.set _ (k*4+2) (int i64 y.1.what))).trans (Kp.set _ (k*4+3) (int i64 y.1.arg));clear rr;go_wp2;go_roundw
     case rel=>
      have h1:=HK.out;refine⟨U',z::V,by rw[h1],by rw[<-Ux.out];simp,?_,KR.out.trans (Kp.of (Below.refl _ _).drew)⟩;have h4:=RR.out.below (Below.refl _ _).drew RR.out.lt;exact h4
     case measure=>simp[intOf]
  ·have hlt:((i:Nat):Int)<(j:Int):=by omega
   obtain⟨s,hs⟩:∃s,i+j=s:=⟨_,rfl⟩;obtain⟨h,hh⟩:∃h,s/2=h:=⟨_,rfl⟩;have ss:((i:Nat):Int)+(j:Int)=(s:Nat):=by omega
   have ws:IntKind.i64.wrap ((s:Nat):Int)=(s:Nat):=by rw[IntKind.wrap_i64];omega
   have sh:((s:Nat):Int)/2=(h:Nat):=by omega
   have hih:i<=h/\h<j:=by omega
   obtain⟨P,x,R,hY2,hPl⟩:∃P x R,X2=P++x::R/\P.length=h-i:=by
    have h1:h-i<X2.length:=by omega
    exact⟨X2.take _,X2[h-i],X2.drop _,by rw[List.getElem_cons_drop,List.take_append_drop],by rw[List.length_take];omega⟩
   subst hY2;have Zm:h<L:=by omega
   have Hx:Hid ((fs (A++X++y::B))[h]? =some x.1):=by
    have e:A++X++y::B=(A++(X1++P))++x::(R++X3++y::B):=by rw[<-H12.out];simp
    have e2:h=(fs (A++(X1++P))).length:=by have:=Ha.out;simp[fs];omega
    unfold Hid;rw[e,e2];simp[fs]
   have Hy:Hid ((fs (A++X++y::B))[m]? =some y.1):=by
    have e2:m=(fs (A++X)).length:=by have:=Ha.out;have:=Hm.out;simp[fs];omega
    unfold Hid;rw[e2];simp[fs]
   have FC:Hid (∀W,Below wr.heap.size wr W->W.cell? ⟨g,h*4,none⟩=some (int i64 x.1.aA)/\W.cell? ⟨g,h*4+1,none⟩=some (int i64 x.1.unit)/\W.cell? ⟨g,h*4+2,none⟩=some (int i64 x.1.what)/\W.cell? ⟨g,h*4+3,none⟩=some (int i64 x.1.arg)/\W.cell? ⟨g,m*4,none⟩=some (int i64 y.1.aA)/\W.cell? ⟨g,m*4+1,none⟩=some (int i64 y.1.unit)/\W.cell? ⟨g,m*4+2,none⟩=some (int i64 y.1.what)/\W.cell? ⟨g,m*4+3,none⟩=some (int i64 y.1.arg)):=λW hW=>by
    have r:=RB.out.below hW RB.out.lt;obtain⟨x0,x1,x2,x3⟩:=r.cells Hx.out;obtain⟨y0,y1,y2,y3⟩:=r.cells Hy.out;exact⟨x0,x1,x2,x3,y0,y1,y2,y3⟩
   have CC:Hid (∀W,Below wr.heap.size wr W->Calls Tryz.prog 151 #[.agg #[int i64 y.1.aA,int i64 y.1.unit,int i64 y.1.what,int i64 y.1.arg],.agg #[int i64 x.1.aA,int i64 x.1.unit,int i64 x.1.what,int i64 x.1.arg]] W λe w'=>e=.returned (int i64 (mY y.1 x.1))/\Below wr.heap.size wr w'):=λW hW=>(iR y.1 x.1 W).mono λe w' ⟨h1,h2⟩=>⟨h1,hW.trans (h2.mono hW.size)⟩
   have ec:=NV;have hhi:((h:Nat):Int)<(L:Int):=by omega
   have IX:=aj (HX.out.2 x (by rw[<-H12.out];simp));have PW:Hid ((X1++(P++x::R)++X3).Pairwise lt):=by unfold Hid;rw[H12.out];exact HX.out.1
   have HN:Hid (a+X1.length=i/\i+P.length=h/\h+1+R.length=j):=⟨hi,by omega,by simp at hj;omega⟩;clear hi hj hh hs hih hPl Sr;go_upto_region 17 with fail
   refine cO 10 (λW=>Below wr.heap.size wr W) (by kernel_rfl) (by kernel_rfl) (Below.refl _ _).drew ?_;simp only[List.take_succ_cons,List.take_zero,List.drop_succ_cons,List.drop_zero];refine aB (.func (.func 151) #[] #[]) (by go_simp) (λW hW=>by go_simp) ?_;go_simp;refine aB (slice (some ⟨g,0,none⟩) L cap) (by go_simp) (λW hW=>by go_simp) ?_;go_simp;refine aB (int i64 (m:Int)) (by go_simp) (λW hW=>by go_simp) ?_;go_simp;refine aB (.pointer (some ⟨g,m*4,none⟩)) (by go_simp) (λW hW=>by go_simp) ?_;go_simp;refine aB (.agg #[int i64 y.1.aA,int i64 y.1.unit,int i64 y.1.what,int i64 y.1.arg]) (by go_simp) (λW hW=>by obtain⟨-,-,-,-,y0,y1,y2,y3⟩:=FC.out W hW;go_simp) ?_;go_simp;refine aB (slice (some ⟨g,0,none⟩) L cap) (by go_simp) (λW hW=>by go_simp) ?_;go_simp;refine aB (int i64 (h:Int)) (by go_simp) (λW hW=>by go_simp) ?_;go_simp;refine aB (.pointer (some ⟨g,h*4,none⟩)) (by go_simp) (λW hW=>by go_simp) ?_;go_simp;refine aB (.agg #[int i64 x.1.aA,int i64 x.1.unit,int i64 x.1.what,int i64 x.1.arg]) (by go_simp) (λW hW=>by obtain⟨x0,x1,x2,x3,-⟩:=FC.out W hW;go_simp) ?_;go_simp;refine dN _ _ _ (by go_simp) (λW hW=>by go_simp) (λW hW=>CC.out W hW) ?_;go_simp;intro W hW;have RW:=aj (RB.out.below hW RB.out.lt);have KW:=aj (K1.out.trans (Kp.of hW));by_cases hc:mY y.1 x.1<0
   ·have LX:=aj ((tJ IX.out).1 ((iP _ _).1 hc))
    clear hW FC CC;go_wp2;go_roundw
    case rel=>
     obtain⟨n1,n2,n3⟩:=HN.out;refine⟨X1,P,x::(R++X3),?_,?_,by rw[<-H12.out];simp,QV.out,λz hz=>?_,RW.out,KW.out⟩
     ·congr 1;omega
     ·congr 1;omega
     ·rcases List.mem_cons.1 hz with rfl|hz
      ·exact LX.out
      ·have h1:=PW.out
       have e:X1++(P++x::R)++X3=(X1++P)++x::(R++X3):=by simp
       rw[e,List.pairwise_append] at h1;exact lt_trans LX.out ((List.pairwise_cons.1 h1.2.1).1 z hz)
    case measure=>have:=HN.out;simp[intOf];omega
   ·have LX:=aj ((tK IX.out).1 (λh=>hc ((iP _ _).2 h)))
    clear hW FC CC;go_wp2;go_roundw
    case rel=>
     obtain⟨n1,n2,n3⟩:=HN.out;refine⟨X1++(P++[x]),R,X3,?_,?_,by rw[<-H12.out];simp,λz hz=>?_,Uw.out,RW.out,KW.out⟩
     ·congr 1;simp;omega
     ·congr 1;simp;omega
     ·rcases List.mem_append.1 hz with hz|hz
      ·exact QV.out z hz
      ·rcases List.mem_append.1 hz with hz|hz
       ·have h1:=PW.out
        rw[List.append_assoc,List.pairwise_append] at h1;have h2:=h1.2.1;rw[List.append_assoc,List.pairwise_append] at h2;exact lt_trans (h2.2.2 z hz x (by simp)) LX.out
       ·simp at hz
        subst hz;exact LX.out
    case measure=>have:=HN.out;simp[intOf];omega
end Go.Proofs.YtolfphmdmpehdaaGreatDoor
namespace Go.Proofs.YtolfphmdmpehdaaGreatDoor
namespace So
theorem Az{X:List T}(h:X.Pairwise lt){i j:Nat}(hij:i<j)(hj:j<X.length):lt (X[i]'(by omega)) X[j]:=List.pairwise_iff_getElem.1 h i j (by omega) hj hij
theorem AA{X:List T}(h:X.Pairwise lt){i j:Nat}(hij:i<=j)(hj:j<X.length){z:T}(hz:lt X[j] z):lt (X[i]'(by omega)) z:=by
 rcases Nat.lt_or_ge i j with h1|h1
 ·exact lt_trans (Az h h1 hj) hz
 ·have:i=j:=by omega
  subst this;exact hz
theorem AO{X:List T}(h:X.Pairwise lt){i j:Nat}(hij:i<=j)(hj:j<X.length){z:T}(hz:lt z (X[i]'(by omega))):lt z X[j]:=by
 rcases Nat.lt_or_ge i j with h1|h1
 ·exact lt_trans hz (Az h h1 hj)
 ·have:i=j:=by omega
  subst this;exact hz
theorem JE{X Y:List T}(hX:X.Pairwise lt)(hY:Y.Pairwise lt){k l:Nat}(hk:k<=X.length)(hl:l<=Y.length)
  (h1:0<k->l<Y.length->∃x y,X[k-1]? =some x/\Y[l]? =some y/\lt x y) (h2:k<X.length->0<l->∃x y,X[k]? =some x/\Y[l-1]? =some y/\lt y x):
  ∀p∈X.take k++Y.take l,∀q∈X.drop k++Y.drop l,lt p q:=by
 intro p hp q hq;rcases List.mem_append.1 hp with hp|hp<;>rcases List.mem_append.1 hq with hq|hq
 ·have:=hX
  rw[<-List.take_append_drop k X,List.pairwise_append] at this;exact this.2.2 p hp q hq
 ·obtain⟨i,hi,rfl⟩:=List.mem_iff_getElem.1 hp
  obtain⟨j,hj,rfl⟩:=List.mem_iff_getElem.1 hq;simp at hi hj;obtain⟨x,y,e1,e2,h⟩:=h1 (by omega) (by omega);obtain⟨g1,rfl⟩:=List.getElem?_eq_some_iff.1 e1;obtain⟨g2,rfl⟩:=List.getElem?_eq_some_iff.1 e2;simp only[List.getElem_take,List.getElem_drop];exact AO hY (by omega) _ (AA hX (by omega) g1 h)
 ·obtain⟨i,hi,rfl⟩:=List.mem_iff_getElem.1 hp
  obtain⟨j,hj,rfl⟩:=List.mem_iff_getElem.1 hq;simp at hi hj;obtain⟨x,y,e1,e2,h⟩:=h2 (by omega) (by omega);obtain⟨g1,rfl⟩:=List.getElem?_eq_some_iff.1 e1;obtain⟨g2,rfl⟩:=List.getElem?_eq_some_iff.1 e2;simp only[List.getElem_take,List.getElem_drop];exact AO hX (by omega) _ (AA hY (by omega) g2 h)
 ·have:=hY
  rw[<-List.take_append_drop l Y,List.pairwise_append] at this;exact this.2.2 p hp q hq
theorem QX(A X Y B:List T){a i:Nat}(ha:A.length=a)(h0:a<=i)(h1:i<a+X.length):(A++X++Y++B)[i]? =X[i-a]? :=by
 subst ha;rw[List.append_assoc,List.append_assoc,List.getElem?_append_right h0,List.getElem?_append_left (by omega)]
theorem QY(A X Y B:List T){m i:Nat}(hm:A.length+X.length=m)(h0:m<=i)(h1:i<m+Y.length):(A++X++Y++B)[i]? =Y[i-m]? :=by
 subst hm;rw[List.append_assoc,List.getElem?_append_right (by simpa using h0),List.getElem?_append_left (by simp;omega)];simp
end So
namespace So
theorem JF(A X Y B:List T){a m b n mid lo hi S:Nat}(hX:X.Pairwise lt)(hY:Y.Pairwise lt)(ha:A.length=a)(hm:a+X.length=m)(hb:m+Y.length=b)(hn:mid+m=n)(h1:a<=lo)(h2:lo<=S)(h3:S<=hi)(h4:hi<=m)(h5:hi<=mid)(h6:lo=a\/lo+b=n)(h7:hi=m\/hi=mid)(h8:n<=lo+b)
  (F1:lo<S->∃x y,(A++X++Y++B)[S-1]? =some x/\(A++X++Y++B)[n-S]? =some y/\lt x y) (F2:S<hi->∃x y,(A++X++Y++B)[S]? =some x/\(A++X++Y++B)[n-1-S]? =some y/\lt y x):
  ∃X1 X2 Y1 Y2,X=X1++X2/\Y=Y1++Y2/\a+X1.length=S/\S+X2.length=m/\S+Y1.length=mid/\(m+Y1.length)+Y2.length=b/\∀p∈X1++Y1,∀q∈X2++Y2,lt p q:=by
 refine⟨X.take _,X.drop (S-a),Y.take _,Y.drop (mid-S),(List.take_append_drop _ _).symm,(List.take_append_drop _ _).symm,?_,?_,?_,?_,?_⟩
 ·rw[List.length_take];omega
 ·rw[List.length_drop];omega
 ·rw[List.length_take];omega
 ·rw[List.length_take,List.length_drop];omega
 ·refine JE hX hY (by omega) (by omega) (λk0 l0=>?_) (λk0 l0=>?_)
  ·obtain⟨x,y,e1,e2,h⟩:=F1 (by omega)
   rw[QX A X Y B ha (by omega) (by omega)] at e1;rw[QY A X Y B (m:=m) (by omega) (by omega) (by omega)] at e2;exact⟨x,y,by rw[<-e1];congr 1;omega,by rw[<-e2];congr 1;omega,h⟩
  ·obtain⟨x,y,e1,e2,h⟩:=F2 (by omega)
   rw[QX A X Y B ha (by omega) (by omega)] at e1;rw[QY A X Y B (m:=m) (by omega) (by omega) (by omega)] at e2;exact⟨x,y,e1,by rw[<-e2];congr 1;omega,h⟩
theorem dZ{X1 X2:List T}(h:(X1++X2).Pairwise lt):X1.Pairwise lt:=(List.pairwise_append.1 h).1
theorem dJ{X1 X2:List T}(h:(X1++X2).Pairwise lt):X2.Pairwise lt:=(List.pairwise_append.1 h).2.1
theorem iy{X1 X2 Y1 Y2 Z1 Z2:List T}(p1:Z1.Perm (X1++Y1))(p2:Z2.Perm (X2++Y2))(r1:Z1.Pairwise lt)(r2:Z2.Pairwise lt)(h:∀p∈X1++Y1,∀q∈X2++Y2,lt p q):
  (Z1++Z2).Perm ((X1++X2)++(Y1++Y2))/\(Z1++Z2).Pairwise lt:=by
 refine⟨?_,Jq r1 r2 λx hx y hy=>h x (p1.mem_iff.1 hx) y (p2.mem_iff.1 hy)⟩;refine(p1.append p2).trans ?_;have e:(X1++Y1++(X2++Y2)).Perm (X1++(Y1++X2)++Y2):=by simp
 refine e.trans ?_;have e2:(X1++(Y1++X2)++Y2).Perm _:=((List.perm_append_comm).append_left X1).append_right Y2;refine e2.trans ?_;simp
end So
open Go.Proofs.YtolfphmdmpehdaaGreatDoor.So Go.RowKit
def Zp(D:List T)(g:Nat)(rest:List Value)(w:World)(n lo hi:Nat)(sv rv:Value)(W:World):Prop:=∃(st r:Nat),sv=int i64 (st:Nat)/\rv=int i64 (r:Nat)/\lo<=st/\st<=r/\r<=hi/\(lo<st->∃x y,D[st-1]? =some x/\D[n-st]? =some y/\lt x y)/\(r<hi->∃x y,D[r]? =some x/\D[n-1-r]? =some y/\lt y x)/\Rb W g (fs D) rest/\Kp g w W
theorem Po{D:List T}{i:Nat}{x:T}(h:D[i]? =some x):(fs D)[i]? =some x.1:=by simp[fs,h]
theorem QZ(X1 X2 Y1 Y2:List T)(h1:0<X1.length+X2.length)(h2:0<Y1.length+Y2.length)(h3:0<X1.length+Y1.length)(h4:0<X2.length+Y2.length):
  (X1≠[]/\X2≠[]/\Y1≠[]/\Y2≠[])\/(X1=[]/\X2≠[]/\Y1≠[]/\Y2≠[])\/(X1≠[]/\X2=[]/\Y1≠[]/\Y2≠[])\/(X1≠[]/\X2≠[]/\Y1=[]/\Y2≠[])\/(X1≠[]/\X2≠[]/\Y1≠[]/\Y2=[])\/(X1=[]/\X2≠[]/\Y1≠[]/\Y2=[])\/(X1≠[]/\X2=[]/\Y1=[]/\Y2≠[]):=by
 rcases X1 with _|⟨_,_⟩<;>rcases X2 with _|⟨_,_⟩<;>rcases Y1 with _|⟨_,_⟩<;>rcases Y2 with _|⟨_,_⟩<;>simp at *
def Pq(N g cap L:Nat)(rest:List Value):Prop:=∀(A X Y B:List T) (a m b:Nat) (w:World),X.length+Y.length<=N->X≠[]->Y≠[]->X.Pairwise lt->Y.Pairwise lt->(∀x∈X,∀y∈Y,x.2<y.2)->Rb w g (fs (A++X++Y++B)) rest->A.length+X.length+Y.length+B.length=L->A.length=a->a+X.length=m->m+Y.length=b->
 Calls Tryz.prog 230 #[slice (some ⟨g,0,none⟩) L cap,int i64 (a:Nat),int i64 (m:Nat),int i64 (b:Nat),.func (.func 151) #[] #[]] w (gX A (X++Y) B g rest w)
theorem aZ{l:List T}(h:l≠[]):0<l.length:=List.length_pos_iff.2 h
theorem Oc(N:Nat)(A X Y B:List T)(g cap L a m b:Nat)(rest:List Value)(w:World)(ih:Pq N g cap L rest)(hN:X.length+Y.length<=N+1)(lx:2<=X.length)(ly:2<=Y.length)(hX:X.Pairwise lt)(hY:Y.Pairwise lt)(hpl:∀x∈X,∀y∈Y,x.2<y.2)(hr:Rb w g (fs (A++X++Y++B)) rest)(hL:A.length+X.length+Y.length+B.length=L)(hn:L<=1000)(ha:A.length=a)(hm:a+X.length=m)(hb:m+Y.length=b):
  Calls Tryz.prog 230 #[slice (some ⟨g,0,none⟩) L cap,int i64 (a:Nat),int i64 (m:Nat),int i64 (b:Nat),.func (.func 151) #[] #[]] w (gX A (X++Y) B g rest w):=by
 have IH:=aj (ih);have R0:=aj (hr);have HN:=aj (hN);have HL:=aj (hL);have HM:=aj (iG (ha) (hm) (hb));have kE:=aj (iG (hX) (hY) (hpl));have Yq:=aj (eU (lx) (ly));have hbL:b<=L:=by omega
 have ham:a+2<=m:=by omega
 have hmb:m+2<=b:=by omega
 obtain⟨dx,Zq⟩:∃d,m-a=d:=⟨_,rfl⟩;obtain⟨dy,hdy⟩:∃d,b-m=d:=⟨_,rfl⟩;obtain⟨s,hs⟩:∃s,a+b=s:=⟨_,rfl⟩;obtain⟨mid,hmid⟩:∃d,s/2=d:=⟨_,rfl⟩;obtain⟨n,hnn⟩:∃n,mid+m=n:=⟨_,rfl⟩;have Uu:((m:Nat):Int)-(a:Int)=(dx:Nat):=by omega
 have Zr:IntKind.i64.wrap ((dx:Nat):Int)=(dx:Nat):=by rw[IntKind.wrap_i64];omega
 have dx1:(((dx:Nat):Int)==1)=false:=by
  have:¬((dx:Nat):Int)=1:=by omega
  simpa using this
 have Vs:((b:Nat):Int)-(m:Int)=(dy:Nat):=by omega
 have Zt:IntKind.i64.wrap ((dy:Nat):Int)=(dy:Nat):=by rw[IntKind.wrap_i64];omega
 have dy1:(((dy:Nat):Int)==1)=false:=by
  have:¬((dy:Nat):Int)=1:=by omega
  simpa using this
 have ss:((a:Nat):Int)+(b:Int)=(s:Nat):=by omega
 have ws:IntKind.i64.wrap ((s:Nat):Int)=(s:Nat):=by rw[IntKind.wrap_i64];omega
 have sm:((s:Nat):Int)/2=(mid:Nat):=by omega
 have sn:((mid:Nat):Int)+(m:Int)=(n:Nat):=by omega
 have wn:IntKind.i64.wrap ((n:Nat):Int)=(n:Nat):=by rw[IntKind.wrap_i64];omega
 have HS:Hid (a<mid/\mid<b/\mid+m=n/\mid+mid<=a+b/\a+b<=mid+mid+1/\a+2<=m/\m+2<=b/\b<=L):=⟨by omega,by omega,by omega,by omega,by omega,ham,hmb,hbL⟩;obtain⟨p,hp⟩:∃p,n-1=p:=⟨_,rfl⟩;have sp:((n:Nat):Int)-1=(p:Nat):=by omega
 have wp':IntKind.i64.wrap ((p:Nat):Int)=(p:Nat):=by rw[IntKind.wrap_i64];omega
 have HP:Hid (p+1=n):=by unfold Hid;omega
 clear hr hN hL hX hY hpl ha hm hb lx ly;clear Zq hdy hs hmid hnn hp;go_enter Tryz.func230,Tryz.ntmps230;go_upto_if 140 with fail
 go_cut [20,21] (λsv rv V=>V=w/\∃lo hi:Nat,sv=int i64 (lo:Nat)/\rv=int i64 (hi:Nat)/\a<=lo/\lo<=hi/\hi<=m/\hi<=mid/\(lo=a\/lo+b=n)/\(hi=m\/hi=mid)/\n<=lo+b)
 case first=>
  have h:=HS.out;by_cases hgt:((mid:Nat):Int)<(m:Int)
  ·obtain⟨lo,hlo⟩:∃lo,n-b=lo:=⟨_,rfl⟩
   have slo:((n:Nat):Int)-(b:Int)=(lo:Nat):=by omega
   have wlo:IntKind.i64.wrap ((lo:Nat):Int)=(lo:Nat):=by rw[IntKind.wrap_i64];omega
   go_wp2;go_meet
   case rel=>exact⟨rfl,lo,mid,rfl,rfl,by omega,by omega,by omega,by omega,by omega,.inr rfl,by omega⟩
  ·go_wp2
   go_meet
   case rel=>exact⟨rfl,a,m,rfl,rfl,by omega,by omega,by omega,by omega,.inl rfl,.inl rfl,by omega⟩
 case rest=>
 obtain⟨hV,lo,hi,rfl,rfl,hlh⟩:=hcut;obtain rfl:=hV.symm;have Xk:=aj (hlh);go_wp2;clear Uu Zr dx1 Vs Zt dy1 ss ws sm sn wn sp wp' hlh hV;go_loopw [20,21] (λsv rv W=>Zp (A++X++Y++B) g rest w n lo hi sv rv W) (λsv rv _=>(intOf rv).toNat-(intOf sv).toNat)
 case atStart=>
  have h:=Xk.out;exact⟨lo,hi,rfl,rfl,Nat.le_refl _,h.2.1,Nat.le_refl _,λh=>absurd h (Nat.lt_irrefl _),λh=>absurd h (Nat.lt_irrefl _),R0.out,Kp.refl _ _⟩
 case round=>
  obtain⟨st,r,rfl,rfl,hst,hsr,Xm,hF1,hF2,hrb,hk⟩:=hrel;have RB:=aj (hrb);have K1:=aj (hk);have F1:=aj (hF1);have F2:=aj (hF2);have Xn:=aj (iG (hst) (hsr) (Xm));clear hrb hk hF1 hF2;by_cases he:st=r
  ·subst he
   have hb1:=Xk.out;have hb2:=HS.out;have hb4:=HM.out;have hb5:=Xn.out;have hb6:=HN.out;have hb7:=HL.out;obtain⟨X1,X2,Y1,Y2,hX12,hY12,l1,l2,l3,l4,hcut⟩:=JF A X Y B kE.out.1 kE.out.2.1 hb4.1 hb4.2.1 hb4.2.2 hb2.2.2.1 hb1.1 hb5.1 hb5.2.2 hb1.2.2.1 hb1.2.2.2.1 (by omega) (by omega) hb1.2.2.2.2.2.2 F1.out F2.out;subst hX12;subst hY12;simp only[List.length_append] at hb4 hb6 hb7;obtain⟨e,hee⟩:∃e,m+Y1.length=e:=⟨_,rfl⟩;have sne:((n:Nat):Int)-(st:Int)=(e:Nat):=by omega
   have wne:IntKind.i64.wrap ((e:Nat):Int)=(e:Nat):=by rw[IntKind.wrap_i64];omega
   have hlt:¬((st:Nat):Int)<(st:Int):=by omega
   have CUT:=aj (hcut);have iC:Hid (A.length=a/\a+X1.length=st/\st+X2.length=m/\st+Y1.length=mid/\m+Y1.length=e/\e+Y2.length=b/\mid+X2.length=e/\A.length+X1.length+X2.length+Y1.length+Y2.length+B.length=L/\X1.length+X2.length+Y1.length+Y2.length<=N+1/\L<=1000):=by refine⟨hb4.1,l1,l2,l3,hee,by omega,by omega,by omega,by omega,hn⟩
   have CB:=QZ X1 X2 Y1 Y2 (by have:=Yq.out;simp only[List.length_append] at this;omega) (by have:=Yq.out;simp only[List.length_append] at this;omega) (by omega) (by omega);have RX:=aj (RB.out);have hnum:=iC.out;clear hb1 hb2 hb4 hb5 hb6 hb7 hcut l1 l2 l3 l4 hee hst hsr Xm F1 F2;rcases CB with⟨x1,x2,y1,y2⟩|⟨x1,x2,y1,y2⟩|⟨x1,x2,y1,y2⟩|⟨x1,x2,y1,y2⟩|⟨x1,x2,y1,y2⟩|⟨x1,x2,y1,y2⟩|⟨x1,x2,y1,y2⟩
   ·have px1:=aZ x1
    have px2:=aZ x2;have py1:=aZ y1;have py2:=aZ y2;have d1:((st:Nat):Int)<(m:Int):=by omega
    have d2:((m:Nat):Int)<(e:Int):=by omega
    have d3:((a:Nat):Int)<(st:Int):=by omega
    have d4:((st:Nat):Int)<(mid:Int):=by omega
    have d5:((mid:Nat):Int)<(e:Int):=by omega
    have d6:((e:Nat):Int)<(b:Int):=by omega
    clear hnum;have CR:=jy (fs (A++X1)) (fs X2) (fs Y1) (fs (Y2++B)) (.func (.func 151) #[] #[]) g cap L st m e rest wr (by have:=RX.out;simpa[fs] using this) (by have:=iC.out;simp[fs] at this ⊢;omega) hn (by simpa[fs] using x2) (by simpa[fs] using y1) (by have:=iC.out;simp[fs] at this ⊢;omega) (by have:=iC.out;simp[fs] at this ⊢;omega) (by have:=iC.out;simp[fs] at this ⊢;omega);go_wp2_with fail
    refine Calls.mono CR ?_;rintro er w1 ⟨rfl,hr1,hk1⟩;have R1:Hid (Rb w1 g (fs (A++X1++Y1++(X2++Y2++B))) rest):=by unfold Hid;simpa[fs] using hr1
    have K2:=aj (K1.out.trans hk1);clear hr1 hk1 CR;have C1:=IH.out A X1 Y1 (X2++Y2++B) a st mid w1 (by have:=iC.out;simp at this ⊢;have:=px1;have:=py1;have:=px2;have:=py2;omega) x1 y1 (dZ kE.out.1) (dZ kE.out.2.1) (λx hx y hy=>kE.out.2.2 x (by simp[hx]) y (by simp[hy])) R1.out (by have:=iC.out;simp at this ⊢;omega) iC.out.1 iC.out.2.1 iC.out.2.2.2.1;go_wp2_with fail
    refine Calls.mono C1 ?_;rintro er w2 ⟨rfl,Z1,Pv,Px,hr1,hk1⟩;have R2:=aj (hr1);have K3:=aj (K2.out.trans hk1);have P1:=aj (eU (Pv) (Px));clear hr1 hk1 C1 Pv Px;have hz1:=P1.out.1.length_eq;have C2:=IH.out (A++Z1) X2 Y2 B mid e b w2 (by have:=iC.out;simp at this ⊢;have:=px1;have:=py1;have:=px2;have:=py2;omega) x2 y2 (dJ kE.out.1) (dJ kE.out.2.1) (λx hx y hy=>kE.out.2.2 x (by simp[hx]) y (by simp[hy])) (by have:=R2.out;simpa[fs] using this) (by have:=iC.out;simp at this hz1 ⊢;omega) (by have:=iC.out;simp at this hz1 ⊢;omega) iC.out.2.2.2.2.2.2.1 iC.out.2.2.2.2.2.1;go_wp2_with fail
    refine Calls.mono C2 ?_;rintro er w3 ⟨rfl,Z2,Py,Pz,hr1,hk1⟩;have R3:Hid (Rb w3 g (fs (A++Z1++Z2++B)) rest):=by unfold Hid;simpa[fs] using hr1
    have K4:=aj (K3.out.trans hk1);have P2:=aj (eU (Py) (Pz));clear hr1 hk1 C2 Py Pz hz1;go_wp2;go_end0;have ER:=iy P1.out.1 P2.out.1 P1.out.2 P2.out.2 CUT.out;exact⟨rfl,Z1++Z2,by simpa using ER.1,ER.2,by have:=R3.out;simpa[fs] using this,K4.out⟩
   ·subst x1
    have px2:=aZ x2;have py1:=aZ y1;have py2:=aZ y2;simp only[List.length_nil] at hnum;have d1:((st:Nat):Int)<(m:Int):=by omega
    have d2:((m:Nat):Int)<(e:Int):=by omega
    have d3:¬((a:Nat):Int)<(st:Int):=by omega
    have d4:((st:Nat):Int)<(mid:Int):=by omega
    have d5:((mid:Nat):Int)<(e:Int):=by omega
    have d6:((e:Nat):Int)<(b:Int):=by omega
    clear hnum;have CR:=jy (fs (A++[])) (fs X2) (fs Y1) (fs (Y2++B)) (.func (.func 151) #[] #[]) g cap L st m e rest wr (by have:=RX.out;simpa[fs] using this) (by have:=iC.out;simp[fs] at this ⊢;omega) hn (by simpa[fs] using x2) (by simpa[fs] using y1) (by have:=iC.out;simp[fs] at this ⊢;omega) (by have:=iC.out;simp[fs] at this ⊢;omega) (by have:=iC.out;simp[fs] at this ⊢;omega);go_wp2_with fail
    refine Calls.mono CR ?_;rintro er w1 ⟨rfl,hr1,hk1⟩;have R1:Hid (Rb w1 g (fs (A++[]++Y1++(X2++Y2++B))) rest):=by unfold Hid;simpa[fs] using hr1
    have K2:=aj (K1.out.trans hk1);clear hr1 hk1 CR;obtain⟨Z1,hZ1⟩:∃Z,Y1=Z:=⟨_,rfl⟩;have R2:Hid (Rb w1 g (fs (A++Z1++(X2++Y2++B))) rest):=by have:=R1.out;unfold Hid;rw[<-hZ1];simpa[fs] using this
    have K3:=aj (K2.out);have P1:Hid (Z1.Perm ([]++Y1)/\Z1.Pairwise lt):=by rw[<-hZ1];exact⟨by simp,dZ kE.out.2.1⟩
    clear hZ1;have hz1:=P1.out.1.length_eq;have C2:=IH.out (A++Z1) X2 Y2 B mid e b w1 (by have:=iC.out;simp at this ⊢;have:=py1;have:=px2;have:=py2;omega) x2 y2 (dJ kE.out.1) (dJ kE.out.2.1) (λx hx y hy=>kE.out.2.2 x (by simp[hx]) y (by simp[hy])) (by have:=R2.out;simpa[fs] using this) (by have:=iC.out;simp at this hz1 ⊢;omega) (by have:=iC.out;simp at this hz1 ⊢;omega) iC.out.2.2.2.2.2.2.1 iC.out.2.2.2.2.2.1;go_wp2_with fail
    refine Calls.mono C2 ?_;rintro er w3 ⟨rfl,Z2,Py,Pz,hr1,hk1⟩;have R3:Hid (Rb w3 g (fs (A++Z1++Z2++B)) rest):=by unfold Hid;simpa[fs] using hr1
    have K4:=aj (K3.out.trans hk1);have P2:=aj (eU (Py) (Pz));clear hr1 hk1 C2 Py Pz hz1;go_wp2;go_end0;have ER:=iy P1.out.1 P2.out.1 P1.out.2 P2.out.2 CUT.out;exact⟨rfl,Z1++Z2,by simpa using ER.1,ER.2,by have:=R3.out;simpa[fs] using this,K4.out⟩
   ·have px1:=aZ x1
    subst x2;have py1:=aZ y1;have py2:=aZ y2;simp only[List.length_nil] at hnum;have d1:¬((st:Nat):Int)<(m:Int):=by omega
    have d2:((m:Nat):Int)<(e:Int):=by omega
    have d3:((a:Nat):Int)<(st:Int):=by omega
    have d4:((st:Nat):Int)<(mid:Int):=by omega
    have d5:¬((mid:Nat):Int)<(e:Int):=by omega
    have d6:((e:Nat):Int)<(b:Int):=by omega
    clear hnum;have R1:Hid (Rb wr g (fs (A++X1++Y1++([]++Y2++B))) rest):=by have:=RX.out;unfold Hid;simpa[fs] using this
    have K2:=aj (K1.out);have C1:=IH.out A X1 Y1 ([]++Y2++B) a st mid wr (by have:=iC.out;simp at this ⊢;have:=px1;have:=py1;have:=py2;omega) x1 y1 (dZ kE.out.1) (dZ kE.out.2.1) (λx hx y hy=>kE.out.2.2 x (by simp[hx]) y (by simp[hy])) R1.out (by have:=iC.out;simp at this ⊢;omega) iC.out.1 iC.out.2.1 iC.out.2.2.2.1;go_wp2_with fail
    refine Calls.mono C1 ?_;rintro er w2 ⟨rfl,Z1,Pv,Px,hr1,hk1⟩;have R2:=aj (hr1);have K3:=aj (K2.out.trans hk1);have P1:=aj (eU (Pv) (Px));clear hr1 hk1 C1 Pv Px;obtain⟨Z2,hZ2⟩:∃Z,Y2=Z:=⟨_,rfl⟩;have R3:Hid (Rb w2 g (fs (A++Z1++Z2++B)) rest):=by have:=R2.out;unfold Hid;rw[<-hZ2];simpa[fs] using this
    have K4:=aj (K3.out);have P2:Hid (Z2.Perm ([]++Y2)/\Z2.Pairwise lt):=by rw[<-hZ2];exact⟨by simp,dJ kE.out.2.1⟩
    clear hZ2;go_wp2;go_end0;have ER:=iy P1.out.1 P2.out.1 P1.out.2 P2.out.2 CUT.out;exact⟨rfl,Z1++Z2,by simpa using ER.1,ER.2,by have:=R3.out;simpa[fs] using this,K4.out⟩
   ·have px1:=aZ x1
    have px2:=aZ x2;subst y1;have py2:=aZ y2;simp only[List.length_nil] at hnum;have d1:((st:Nat):Int)<(m:Int):=by omega
    have d2:¬((m:Nat):Int)<(e:Int):=by omega
    have d3:((a:Nat):Int)<(st:Int):=by omega
    have d4:¬((st:Nat):Int)<(mid:Int):=by omega
    have d5:((mid:Nat):Int)<(e:Int):=by omega
    have d6:((e:Nat):Int)<(b:Int):=by omega
    clear hnum;have R1:Hid (Rb wr g (fs (A++X1++[]++(X2++Y2++B))) rest):=by have:=RX.out;unfold Hid;simpa[fs] using this
    have K2:=aj (K1.out);obtain⟨Z1,hZ1⟩:∃Z,X1=Z:=⟨_,rfl⟩;have R2:Hid (Rb wr g (fs (A++Z1++(X2++Y2++B))) rest):=by have:=R1.out;unfold Hid;rw[<-hZ1];simpa[fs] using this
    have K3:=aj (K2.out);have P1:Hid (Z1.Perm (X1++[])/\Z1.Pairwise lt):=by rw[<-hZ1];exact⟨by simp,dZ kE.out.1⟩
    clear hZ1;have hz1:=P1.out.1.length_eq;have C2:=IH.out (A++Z1) X2 Y2 B mid e b wr (by have:=iC.out;simp at this ⊢;have:=px1;have:=px2;have:=py2;omega) x2 y2 (dJ kE.out.1) (dJ kE.out.2.1) (λx hx y hy=>kE.out.2.2 x (by simp[hx]) y (by simp[hy])) (by have:=R2.out;simpa[fs] using this) (by have:=iC.out;simp at this hz1 ⊢;omega) (by have:=iC.out;simp at this hz1 ⊢;omega) iC.out.2.2.2.2.2.2.1 iC.out.2.2.2.2.2.1;go_wp2_with fail
    refine Calls.mono C2 ?_;rintro er w3 ⟨rfl,Z2,Py,Pz,hr1,hk1⟩;have R3:Hid (Rb w3 g (fs (A++Z1++Z2++B)) rest):=by unfold Hid;simpa[fs] using hr1
    have K4:=aj (K3.out.trans hk1);have P2:=aj (eU (Py) (Pz));clear hr1 hk1 C2 Py Pz hz1;go_wp2;go_end0;have ER:=iy P1.out.1 P2.out.1 P1.out.2 P2.out.2 CUT.out;exact⟨rfl,Z1++Z2,by simpa using ER.1,ER.2,by have:=R3.out;simpa[fs] using this,K4.out⟩
   ·have px1:=aZ x1
    have px2:=aZ x2;have py1:=aZ y1;subst y2;simp only[List.length_nil] at hnum;have d1:((st:Nat):Int)<(m:Int):=by omega
    have d2:((m:Nat):Int)<(e:Int):=by omega
    have d3:((a:Nat):Int)<(st:Int):=by omega
    have d4:((st:Nat):Int)<(mid:Int):=by omega
    have d5:((mid:Nat):Int)<(e:Int):=by omega
    have d6:¬((e:Nat):Int)<(b:Int):=by omega
    clear hnum;have CR:=jy (fs (A++X1)) (fs X2) (fs Y1) (fs ([]++B)) (.func (.func 151) #[] #[]) g cap L st m e rest wr (by have:=RX.out;simpa[fs] using this) (by have:=iC.out;simp[fs] at this ⊢;omega) hn (by simpa[fs] using x2) (by simpa[fs] using y1) (by have:=iC.out;simp[fs] at this ⊢;omega) (by have:=iC.out;simp[fs] at this ⊢;omega) (by have:=iC.out;simp[fs] at this ⊢;omega);go_wp2_with fail
    refine Calls.mono CR ?_;rintro er w1 ⟨rfl,hr1,hk1⟩;have R1:Hid (Rb w1 g (fs (A++X1++Y1++(X2++[]++B))) rest):=by unfold Hid;simpa[fs] using hr1
    have K2:=aj (K1.out.trans hk1);clear hr1 hk1 CR;have C1:=IH.out A X1 Y1 (X2++[]++B) a st mid w1 (by have:=iC.out;simp at this ⊢;have:=px1;have:=py1;have:=px2;omega) x1 y1 (dZ kE.out.1) (dZ kE.out.2.1) (λx hx y hy=>kE.out.2.2 x (by simp[hx]) y (by simp[hy])) R1.out (by have:=iC.out;simp at this ⊢;omega) iC.out.1 iC.out.2.1 iC.out.2.2.2.1;go_wp2_with fail
    refine Calls.mono C1 ?_;rintro er w2 ⟨rfl,Z1,Pv,Px,hr1,hk1⟩;have R2:=aj (hr1);have K3:=aj (K2.out.trans hk1);have P1:=aj (eU (Pv) (Px));clear hr1 hk1 C1 Pv Px;obtain⟨Z2,hZ2⟩:∃Z,X2=Z:=⟨_,rfl⟩;have R3:Hid (Rb w2 g (fs (A++Z1++Z2++B)) rest):=by have:=R2.out;unfold Hid;rw[<-hZ2];simpa[fs] using this
    have K4:=aj (K3.out);have P2:Hid (Z2.Perm (X2++[])/\Z2.Pairwise lt):=by rw[<-hZ2];exact⟨by simp,dJ kE.out.1⟩
    clear hZ2;go_wp2;go_end0;have ER:=iy P1.out.1 P2.out.1 P1.out.2 P2.out.2 CUT.out;exact⟨rfl,Z1++Z2,by simpa using ER.1,ER.2,by have:=R3.out;simpa[fs] using this,K4.out⟩
   ·subst x1
    have px2:=aZ x2;have py1:=aZ y1;subst y2;simp only[List.length_nil] at hnum;have d1:((st:Nat):Int)<(m:Int):=by omega
    have d2:((m:Nat):Int)<(e:Int):=by omega
    have d3:¬((a:Nat):Int)<(st:Int):=by omega
    have d4:((st:Nat):Int)<(mid:Int):=by omega
    have d5:((mid:Nat):Int)<(e:Int):=by omega
    have d6:¬((e:Nat):Int)<(b:Int):=by omega
    clear hnum;have CR:=jy (fs (A++[])) (fs X2) (fs Y1) (fs ([]++B)) (.func (.func 151) #[] #[]) g cap L st m e rest wr (by have:=RX.out;simpa[fs] using this) (by have:=iC.out;simp[fs] at this ⊢;omega) hn (by simpa[fs] using x2) (by simpa[fs] using y1) (by have:=iC.out;simp[fs] at this ⊢;omega) (by have:=iC.out;simp[fs] at this ⊢;omega) (by have:=iC.out;simp[fs] at this ⊢;omega);go_wp2_with fail
    refine Calls.mono CR ?_;rintro er w1 ⟨rfl,hr1,hk1⟩;have R1:Hid (Rb w1 g (fs (A++[]++Y1++(X2++[]++B))) rest):=by unfold Hid;simpa[fs] using hr1
    have K2:=aj (K1.out.trans hk1);clear hr1 hk1 CR;obtain⟨Z1,hZ1⟩:∃Z,Y1=Z:=⟨_,rfl⟩;have R2:Hid (Rb w1 g (fs (A++Z1++(X2++[]++B))) rest):=by have:=R1.out;unfold Hid;rw[<-hZ1];simpa[fs] using this
    have K3:=aj (K2.out);have P1:Hid (Z1.Perm ([]++Y1)/\Z1.Pairwise lt):=by rw[<-hZ1];exact⟨by simp,dZ kE.out.2.1⟩
    clear hZ1;obtain⟨Z2,hZ2⟩:∃Z,X2=Z:=⟨_,rfl⟩;have R3:Hid (Rb w1 g (fs (A++Z1++Z2++B)) rest):=by have:=R2.out;unfold Hid;rw[<-hZ2];simpa[fs] using this
    have K4:=aj (K3.out);have P2:Hid (Z2.Perm (X2++[])/\Z2.Pairwise lt):=by rw[<-hZ2];exact⟨by simp,dJ kE.out.1⟩
    clear hZ2;go_wp2;go_end0;have ER:=iy P1.out.1 P2.out.1 P1.out.2 P2.out.2 CUT.out;exact⟨rfl,Z1++Z2,by simpa using ER.1,ER.2,by have:=R3.out;simpa[fs] using this,K4.out⟩
   ·have px1:=aZ x1
    subst x2;subst y1;have py2:=aZ y2;simp only[List.length_nil] at hnum;have d1:¬((st:Nat):Int)<(m:Int):=by omega
    have d2:¬((m:Nat):Int)<(e:Int):=by omega
    have d3:((a:Nat):Int)<(st:Int):=by omega
    have d4:¬((st:Nat):Int)<(mid:Int):=by omega
    have d5:¬((mid:Nat):Int)<(e:Int):=by omega
    have d6:((e:Nat):Int)<(b:Int):=by omega
    clear hnum;have R1:Hid (Rb wr g (fs (A++X1++[]++([]++Y2++B))) rest):=by have:=RX.out;unfold Hid;simpa[fs] using this
    have K2:=aj (K1.out);obtain⟨Z1,hZ1⟩:∃Z,X1=Z:=⟨_,rfl⟩;have R2:Hid (Rb wr g (fs (A++Z1++([]++Y2++B))) rest):=by have:=R1.out;unfold Hid;rw[<-hZ1];simpa[fs] using this
    have K3:=aj (K2.out);have P1:Hid (Z1.Perm (X1++[])/\Z1.Pairwise lt):=by rw[<-hZ1];exact⟨by simp,dZ kE.out.1⟩
    clear hZ1;obtain⟨Z2,hZ2⟩:∃Z,Y2=Z:=⟨_,rfl⟩;have R3:Hid (Rb wr g (fs (A++Z1++Z2++B)) rest):=by have:=R2.out;unfold Hid;rw[<-hZ2];simpa[fs] using this
    have K4:=aj (K3.out);have P2:Hid (Z2.Perm ([]++Y2)/\Z2.Pairwise lt):=by rw[<-hZ2];exact⟨by simp,dJ kE.out.2.1⟩
    clear hZ2;go_wp2;go_end0;have ER:=iy P1.out.1 P2.out.1 P1.out.2 P2.out.2 CUT.out;exact⟨rfl,Z1++Z2,by simpa using ER.1,ER.2,by have:=R3.out;simpa[fs] using this,K4.out⟩
  ·have hlt:((st:Nat):Int)<(r:Int):=by omega
   obtain⟨t,ht⟩:∃t,st+r=t:=⟨_,rfl⟩;obtain⟨c,hc⟩:∃c,t/2=c:=⟨_,rfl⟩;obtain⟨q,hq⟩:∃q,p-c=q:=⟨_,rfl⟩;have hb1:=Xk.out;have hb2:=HS.out;have hb3:=HP.out;have hb4:=HM.out;have hcs:st<=c/\c<r:=by omega
   have tt:((st:Nat):Int)+(r:Int)=(t:Nat):=by omega
   have wt:IntKind.i64.wrap ((t:Nat):Int)=(t:Nat):=by rw[IntKind.wrap_i64];omega
   have tc:((t:Nat):Int)/2=(c:Nat):=by omega
   have pq:((p:Nat):Int)-(c:Int)=(q:Nat):=by omega
   have wq:IntKind.i64.wrap ((q:Nat):Int)=(q:Nat):=by rw[IntKind.wrap_i64];omega
   have hqm:m<=q/\q<b:=by omega
   have hcm:a<=c/\c<m:=by omega
   obtain⟨x,hx⟩:∃x,X[c-a]? =some x:=⟨_,List.getElem?_eq_getElem (by omega)⟩;obtain⟨y,hy⟩:∃y,Y[q-m]? =some y:=⟨_,List.getElem?_eq_getElem (by omega)⟩;have Hx:Hid ((A++X++Y++B)[c]? =some x):=by unfold Hid;rw[QX A X Y B hb4.1 hcm.1 (by omega)];exact hx
   have Hy:Hid ((A++X++Y++B)[q]? =some y):=by unfold Hid;rw[QY A X Y B (m:=m) (by omega) hqm.1 (by omega)];exact hy
   have IX:=aj (kE.out.2.2 x (List.mem_of_getElem? hx) y (List.mem_of_getElem? hy));have FC:Hid (∀W,Below _ wr W->W.cell? _=some _/\W.cell? _=some _/\W.cell? _=some _/\W.cell? _=some _/\W.cell? _=some _/\W.cell? _=some _/\W.cell? _=some _/\W.cell? _=some _):=λW hW=>by
    have r:=RB.out.below hW RB.out.lt;obtain⟨x0,x1,x2,x3⟩:=r.cells (Po Hx.out);obtain⟨y0,y1,y2,y3⟩:=r.cells (Po Hy.out);exact⟨x0,x1,x2,x3,y0,y1,y2,y3⟩
   have CC:Hid (∀W,Below _ wr W->Calls _ 151 #[.agg _,.agg _] W λe w'=>e=.returned _/\Below _ wr w'):=λW hW=>(iR y.1 x.1 W).mono λe w' ⟨h1,h2⟩=>⟨h1,hW.trans (h2.mono hW.size)⟩
   have ec:=NV;have hcL:((c:Nat):Int)<(L:Int):=by omega
   have hqL:((q:Nat):Int)<(L:Int):=by omega
   have HC:Hid (st<=c/\c<r/\q+c=p):=⟨hcs.1,hcs.2,by omega⟩;clear hb1 hb2 hb3 hb4 ht hc hq hcs hqm hcm hx hy hst hsr Xm;go_upto_region 35 with fail
   refine cO 12 (λW=>Below wr.heap.size wr W) (by kernel_rfl) (by kernel_rfl) (Below.refl _ _).drew ?_;simp only[List.take_succ_cons,List.take_zero,List.drop_succ_cons,List.drop_zero];refine aB (.func (.func 151) #[] #[]) (by go_simp) (λW hW=>by go_simp) ?_;go_simp;refine aB (slice (some ⟨g,0,none⟩) L cap) (by go_simp) (λW hW=>by go_simp) ?_;go_simp;refine aB (int i64 (p:Int)) (by go_simp) (λW hW=>by go_simp) ?_;go_simp;refine aB (int i64 (c:Int)) (by go_simp) (λW hW=>by go_simp) ?_;go_simp;refine aB (int i64 (q:Int)) (by go_simp) (λW hW=>by go_simp) ?_;go_simp;refine aB (.pointer (some ⟨g,q*4,none⟩)) (by go_simp) (λW hW=>by go_simp) ?_;go_simp;refine aB (.agg #[int i64 y.1.aA,int i64 y.1.unit,int i64 y.1.what,int i64 y.1.arg]) (by go_simp) (λW hW=>by obtain⟨-,-,-,-,y0,y1,y2,y3⟩:=FC.out W hW;go_simp) ?_;go_simp;refine aB (slice (some ⟨g,0,none⟩) L cap) (by go_simp) (λW hW=>by go_simp) ?_;go_simp;refine aB (int i64 (c:Int)) (by go_simp) (λW hW=>by go_simp) ?_;go_simp;refine aB (.pointer (some ⟨g,c*4,none⟩)) (by go_simp) (λW hW=>by go_simp) ?_;go_simp;refine aB (.agg #[int i64 x.1.aA,int i64 x.1.unit,int i64 x.1.what,int i64 x.1.arg]) (by go_simp) (λW hW=>by obtain⟨x0,x1,x2,x3,-⟩:=FC.out W hW;go_simp) ?_;go_simp;refine dN _ 151 _ (by go_simp) (λW hW=>by go_simp) (λW hW=>CC.out W hW) ?_;go_simp;intro W hW;have RW:=aj (RB.out.below hW RB.out.lt);have KW:=aj (K1.out.trans (Kp.of hW));by_cases hcm:mY y.1 x.1<0
   ·have LX:=aj ((tJ IX.out).1 ((iP _ _).1 hcm))
    clear hW FC CC;go_wp2;go_roundw
    case rel=>
     obtain⟨c1,c2,c3⟩:=HC.out;obtain⟨s1,s2,s3⟩:=Xn.out;have hp:=HP.out;have eq:n-1-c=q:=by omega
     exact⟨st,c,rfl,rfl,s1,c1,by omega,F1.out,λ_=>⟨x,y,Hx.out,by rw[eq];exact Hy.out,LX.out⟩,RW.out,KW.out⟩
    case measure=>have:=HC.out;simp[intOf];omega
   ·have LX:=aj ((tK IX.out).1 (λh=>hcm ((iP _ _).2 h)))
    clear hW FC CC;go_wp2;go_roundw
    case rel=>
     obtain⟨c1,c2,c3⟩:=HC.out;obtain⟨s1,s2,s3⟩:=Xn.out;have hp:=HP.out;have eq:n-(c+1)=q:=by omega
     exact⟨c+1,r,rfl,rfl,by omega,by omega,s3,λ_=>⟨x,y,by rw[Nat.add_sub_cancel];exact Hx.out,by rw[eq];exact Hy.out,LX.out⟩,F2.out,RW.out,KW.out⟩
    case measure=>have:=HC.out;simp[intOf];omega
theorem AP:∀(N:Nat) (A X Y B:List T) (g cap L a m b:Nat) (rest:List Value) (w:World),X.length+Y.length<=N->X≠[]->Y≠[]->X.Pairwise lt->Y.Pairwise lt->(∀x∈X,∀y∈Y,x.2<y.2)->Rb w g (fs (A++X++Y++B)) rest->A.length+X.length+Y.length+B.length=L->L<=1000->A.length=a->a+X.length=m->m+Y.length=b->
  Calls Tryz.prog 230 #[slice (some ⟨g,0,none⟩) L cap,int i64 (a:Nat),int i64 (m:Nat),int i64 (b:Nat),.func (.func 151) #[] #[]] w (gX A (X++Y) B g rest w)
 |0,A,X,Y,B,g,cap,L,a,m,b,rest,w,hN,hX0,hY0,hX,hY,hpl,hr,hL,hn,ha,hm,hb=>by
  have:X.length=0:=by omega
  exact absurd (List.length_eq_zero_iff.1 this) hX0
 |N+1,A,X,Y,B,g,cap,L,a,m,b,rest,w,hN,hX0,hY0,hX,hY,hpl,hr,hL,hn,ha,hm,hb=>by
  by_cases hx1:X.length=1
  ·obtain⟨x,rfl⟩:=List.length_eq_one_iff.1 hx1
   refine N_ A x Y B g cap L a m b rest w hY (λy hy=>hpl x (by simp) y hy) (by simpa using hr) (by simpa using hL) hn ha (by simpa using hm) hb
  by_cases hy1:Y.length=1
  ·obtain⟨y,rfl⟩:=List.length_eq_one_iff.1 hy1
   refine JD A X y B g cap L a m b rest w hX (λx hx=>hpl x hx y (by simp)) hx1 (by simpa using hr) (by simpa using hL) hn ha hm (by simpa using hb)
  have lx:2<=X.length:=by have:=List.length_pos_iff.2 hX0;omega
  have ly:2<=Y.length:=by have:=List.length_pos_iff.2 hY0;omega
  have IH:Pq N g cap L rest:=λA X Y B a m b w h1 h2 h3 h4 h5 h6 h7 h8 h9 h10 h11=>AP N A X Y B g cap L a m b rest w h1 h2 h3 h4 h5 h6 h7 h8 hn h9 h10 h11
  exact Oc N A X Y B g cap L a m b rest w IH hN lx ly hX hY hpl hr hL hn ha hm hb
theorem dV(A U B:List T)(g cap n:Nat)(ai bi:Int)(rest:List Value)(w:World)(hU:U.Pairwise (λx y=>x.2<y.2))(hr:Rb w g (fs (A++U++B)) rest)(hL:A.length+U.length+B.length=n)(hn:n<=1000)(ha:((A.length:Nat):Int)=ai)(hb:((A.length+U.length:Nat):Int)=bi):
  Calls Tryz.prog 229 #[slice (some ⟨g,0,none⟩) n cap,int i64 ai,int i64 bi,.func (.func 151) #[] #[]] w (vV A U B g rest w):=by
 have e:(A++U++B).length=n:=by simp;omega
 have h:=DZ A U B g cap rest w hU hr (by omega);rw[e,ha,hb] at h;exact h
theorem rM(A X Y B:List T)(g cap n:Nat)(ai mi bi:Int)(rest:List Value)(w:World)(hX0:X≠[])(hY0:Y≠[])(hX:X.Pairwise lt)(hY:Y.Pairwise lt)(hp:∀x∈X,∀y∈Y,x.2<y.2)(hr:Rb w g (fs (A++X++Y++B)) rest)(hL:A.length+X.length+Y.length+B.length=n)(hn:n<=1000)(ha:((A.length:Nat):Int)=ai)(hm:((A.length+X.length:Nat):Int)=mi)(hb:((A.length+X.length+Y.length:Nat):Int)=bi):
  Calls Tryz.prog 230 #[slice (some ⟨g,0,none⟩) n cap,int i64 ai,int i64 mi,int i64 bi,.func (.func 151) #[] #[]] w (gX A (X++Y) B g rest w):=by
 have h:=AP (X.length+Y.length) A X Y B g cap n _ _ _ rest w (Nat.le_refl _) hX0 hY0 hX hY hp hr hL hn rfl rfl rfl;rw[ha,hm,hb] at h;exact h
def gB(U:List T)(g:Nat)(rest:List Value)(w:World)(e:Ending)(w':World):Prop:=e=.returned (.tuple #[])/\∃S,S.Perm U/\S.Pairwise lt/\Rb w' g (fs S) rest/\Kp g w w'
theorem dD{l:List T}(h:0<l.length):l≠[]:=List.length_pos_iff.1 h
theorem Q_(U1:List T)(g cap n:Nat)(rest:List Value)(w:World)(h1:U1.length=n)(hU:(U1).Pairwise (λx y=>x.2<y.2))(hr:Rb w g (fs (U1)) rest)(hn:n<20):
  Calls Tryz.prog 186 #[slice (some ⟨g,0,none⟩) n cap,int i64 (n:Nat),.func (.func 151) #[] #[]] w (gB (U1) g rest w):=by
 have R0:=aj (hr);have HU:=aj (hU);have HL:Hid (U1.length=n/\n<=60):=⟨h1,by omega⟩;have le20:¬(20:Int)<=(n:Nat):=by omega
 have lt20:¬(20:Int)<(n:Nat):=by omega
 have le40:¬(40:Int)<=(n:Nat):=by omega
 have le80:¬(80:Int)<=(n:Nat):=by omega
 have HN:=aj (hn);clear hn;clear hr hU h1;go_enter Tryz.func186,Tryz.ntmps186;go_wp2_with fail
 refine wp_loop_rounds 1 ?_;rw[rounds_succ];go_wp2_with fail
 have C:Calls _ _ _ _ _:=dV ([]) U1 ([]) g cap n 0 (n:Nat) rest w (HU.out) (by have:=R0.out;simpa[fs] using this) (by have q1:=HL.out;have q2:=HN.out;(try simp only[List.length_append,List.length_nil]);omega) (by have:=HL.out;omega) (by have q1:=HL.out;have q2:=HN.out;(try simp only[List.length_append,List.length_nil]);omega) (by have q1:=HL.out;have q2:=HN.out;(try simp only[List.length_append,List.length_nil]);omega);refine Calls.mono C ?_;clear C;rintro er v1 ⟨rfl,S1,hp,hs,hr,hk⟩;have R1:Hid (Rb v1 g (fs (S1)) rest):=by unfold Hid;simpa[fs] using hr
 have P1:Hid (S1.Perm U1/\S1.Pairwise lt):=⟨hp,hs⟩;have K1:=aj (hk);clear hp hs hr hk;go_wp2_with fail
 refine wp_loop_rounds 1 ?_;rw[rounds_succ];go_wp2_with fail
 go_wp2;go_end0;exact⟨rfl,S1,P1.out.1,P1.out.2,R1.out,K1.out⟩
theorem Oe(U1 U2:List T)(g cap n:Nat)(rest:List Value)(w:World)(h1:U1.length=20)(h2:U2.length=0)(hU:(U1++U2).Pairwise (λx y=>x.2<y.2))(hr:Rb w g (fs (U1++U2)) rest)(hn:n=20):
  Calls Tryz.prog 186 #[slice (some ⟨g,0,none⟩) n cap,int i64 (n:Nat),.func (.func 151) #[] #[]] w (gB (U1++U2) g rest w):=by
 have R0:=aj (hr);have HU:=aj (hU);have HL:Hid (U1.length=20/\U2.length=0/\n<=60):=⟨h1,h2,by omega⟩;have le20:(20:Int)<=(n:Nat):=by omega
 have le40:¬(40:Int)<=(n:Nat):=by omega
 have lt20:¬(20:Int)<(n:Nat):=by omega
 have le80:¬(80:Int)<=(n:Nat):=by omega
 have HN:=aj (hn);clear hn;clear hr hU h1 h2;go_enter Tryz.func186,Tryz.ntmps186;go_wp2_with fail
 refine wp_loop_rounds 2 ?_;rw[rounds_succ];go_wp2_with fail
 have C:Calls _ _ _ _ _:=dV ([]) U1 (U2) g cap n 0 20 rest w ((List.pairwise_append.1 HU.out).1) (by have:=R0.out;simpa[fs] using this) (by have q1:=HL.out;have q2:=HN.out;(try simp only[List.length_append,List.length_nil]);omega) (by have:=HL.out;omega) (by have q1:=HL.out;have q2:=HN.out;(try simp only[List.length_append,List.length_nil]);omega) (by have q1:=HL.out;have q2:=HN.out;(try simp only[List.length_append,List.length_nil]);omega);refine Calls.mono C ?_;clear C;rintro er v1 ⟨rfl,S1,hp,hs,hr,hk⟩;have R1:Hid (Rb v1 g (fs (S1++U2)) rest):=by unfold Hid;simpa[fs] using hr
 have P1:Hid (S1.Perm U1/\S1.Pairwise lt):=⟨hp,hs⟩;have K1:=aj (hk);clear hp hs hr hk;go_wp2_with fail
 rw[rounds_succ];go_wp2_with fail
 have C:Calls _ _ _ _ _:=dV (S1) U2 ([]) g cap n 20 (n:Nat) rest v1 ((List.pairwise_append.1 HU.out).2.1) (by have:=R1.out;simpa[fs] using this) (by have q1:=HL.out;have q2:=HN.out;have z1:=P1.out.1.length_eq;(try simp only[List.length_append,List.length_nil]);omega) (by have:=HL.out;omega) (by have q1:=HL.out;have q2:=HN.out;have z1:=P1.out.1.length_eq;(try simp only[List.length_append,List.length_nil]);omega) (by have q1:=HL.out;have q2:=HN.out;have z1:=P1.out.1.length_eq;(try simp only[List.length_append,List.length_nil]);omega);refine Calls.mono C ?_;clear C;rintro er v2 ⟨rfl,S2,hp,hs,hr,hk⟩;have R2:Hid (Rb v2 g (fs (S1++S2)) rest):=by unfold Hid;simpa[fs] using hr
 have P2:Hid (S2.Perm U2/\S2.Pairwise lt):=⟨hp,hs⟩;have K2:=aj (K1.out.trans hk);clear hp hs hr hk;go_wp2_with fail
 refine wp_loop_rounds 1 ?_;rw[rounds_succ];go_wp2_with fail
 go_wp2;go_end0;have eS2:S2=[]:=List.length_eq_zero_iff.1 (by have q1:=HL.out;have q2:=HN.out;have z:=P2.out.1.length_eq;omega);have eU2:U2=[]:=List.length_eq_zero_iff.1 (by have q1:=HL.out;have q2:=HN.out;omega);refine⟨rfl,S1,?_,P1.out.2,?_,K2.out⟩
 ·have h:=P1.out.1
  simpa[eU2] using h
 ·have h:=R2.out
  rw[eS2] at h;simpa using h
theorem Og(U1 U2:List T)(g cap n:Nat)(rest:List Value)(w:World)(h1:U1.length=20)(h2:U2.length=n-20)(hU:(U1++U2).Pairwise (λx y=>x.2<y.2))(hr:Rb w g (fs (U1++U2)) rest)(hn:20<n/\n<40):
  Calls Tryz.prog 186 #[slice (some ⟨g,0,none⟩) n cap,int i64 (n:Nat),.func (.func 151) #[] #[]] w (gB (U1++U2) g rest w):=by
 have R0:=aj (hr);have HU:=aj (hU);have HL:Hid (U1.length=20/\U2.length=n-20/\n<=60):=⟨h1,h2,by omega⟩;have le20:(20:Int)<=(n:Nat):=by omega
 have le40:¬(40:Int)<=(n:Nat):=by omega
 have lt20:(20:Int)<(n:Nat):=by omega
 have lt40:¬(40:Int)<(n:Nat):=by omega
 have le80:¬(80:Int)<=(n:Nat):=by omega
 have HN:=aj (hn);clear hn;clear hr hU h1 h2;go_enter Tryz.func186,Tryz.ntmps186;go_wp2_with fail
 refine wp_loop_rounds 2 ?_;rw[rounds_succ];go_wp2_with fail
 have C:Calls _ _ _ _ _:=dV ([]) U1 (U2) g cap n 0 20 rest w ((List.pairwise_append.1 HU.out).1) (by have:=R0.out;simpa[fs] using this) (by have q1:=HL.out;have q2:=HN.out;(try simp only[List.length_append,List.length_nil]);omega) (by have:=HL.out;omega) (by have q1:=HL.out;have q2:=HN.out;(try simp only[List.length_append,List.length_nil]);omega) (by have q1:=HL.out;have q2:=HN.out;(try simp only[List.length_append,List.length_nil]);omega);refine Calls.mono C ?_;clear C;rintro er v1 ⟨rfl,S1,hp,hs,hr,hk⟩;have R1:Hid (Rb v1 g (fs (S1++U2)) rest):=by unfold Hid;simpa[fs] using hr
 have P1:Hid (S1.Perm U1/\S1.Pairwise lt):=⟨hp,hs⟩;have K1:=aj (hk);clear hp hs hr hk;go_wp2_with fail
 rw[rounds_succ];go_wp2_with fail
 have C:Calls _ _ _ _ _:=dV (S1) U2 ([]) g cap n 20 (n:Nat) rest v1 ((List.pairwise_append.1 HU.out).2.1) (by have:=R1.out;simpa[fs] using this) (by have q1:=HL.out;have q2:=HN.out;have z1:=P1.out.1.length_eq;(try simp only[List.length_append,List.length_nil]);omega) (by have:=HL.out;omega) (by have q1:=HL.out;have q2:=HN.out;have z1:=P1.out.1.length_eq;(try simp only[List.length_append,List.length_nil]);omega) (by have q1:=HL.out;have q2:=HN.out;have z1:=P1.out.1.length_eq;(try simp only[List.length_append,List.length_nil]);omega);refine Calls.mono C ?_;clear C;rintro er v2 ⟨rfl,S2,hp,hs,hr,hk⟩;have R2:Hid (Rb v2 g (fs (S1++S2)) rest):=by unfold Hid;simpa[fs] using hr
 have P2:Hid (S2.Perm U2/\S2.Pairwise lt):=⟨hp,hs⟩;have K2:=aj (K1.out.trans hk);clear hp hs hr hk;go_wp2_with fail
 refine wp_loop_rounds 2 ?_;rw[rounds_succ];go_wp2_with fail
 refine wp_loop_rounds 1 ?_;rw[rounds_succ];go_wp2_with fail
 have TG:Hid (∀x∈S1,∀y∈S2,x.2<y.2):=λx hx y hy=>by have h1:=P1.out.1.mem_iff.1 hx;have h2:=P2.out.1.mem_iff.1 hy;have h3:=HU.out;have e:(U1)++(U2)++([])=U1++U2:=(by simp);rw[<-e,List.pairwise_append] at h3;exact(List.pairwise_append.1 h3.1).2.2 x h1 y h2
 have C:Calls _ _ _ _ _:=rM ([]) S1 S2 ([]) g cap n 0 20 (n:Nat) rest v2 (dD (by have q1:=HL.out;have q2:=HN.out;have z0:=P1.out.1.length_eq;have z1:=P2.out.1.length_eq;(try simp only[List.length_append] at z0 z1);(try simp only[List.length_append,List.length_nil]);omega)) (dD (by have q1:=HL.out;have q2:=HN.out;have z0:=P1.out.1.length_eq;have z1:=P2.out.1.length_eq;(try simp only[List.length_append] at z0 z1);(try simp only[List.length_append,List.length_nil]);omega)) P1.out.2 P2.out.2 TG.out (by have:=R2.out;simpa[fs] using this) (by have q1:=HL.out;have q2:=HN.out;have z0:=P1.out.1.length_eq;have z1:=P2.out.1.length_eq;(try simp only[List.length_append] at z0 z1);(try simp only[List.length_append,List.length_nil]);omega) (by have:=HL.out;omega) (by have q1:=HL.out;have q2:=HN.out;have z0:=P1.out.1.length_eq;have z1:=P2.out.1.length_eq;(try simp only[List.length_append] at z0 z1);(try simp only[List.length_append,List.length_nil]);omega) (by have q1:=HL.out;have q2:=HN.out;have z0:=P1.out.1.length_eq;have z1:=P2.out.1.length_eq;(try simp only[List.length_append] at z0 z1);(try simp only[List.length_append,List.length_nil]);omega) (by have q1:=HL.out;have q2:=HN.out;have z0:=P1.out.1.length_eq;have z1:=P2.out.1.length_eq;(try simp only[List.length_append] at z0 z1);(try simp only[List.length_append,List.length_nil]);omega);refine Calls.mono C ?_;clear C;rintro er v3 ⟨rfl,S3,hp,hs,hr,hk⟩;have R3:Hid (Rb v3 g (fs (S3)) rest):=by unfold Hid;simpa[fs] using hr
 have P3:Hid (S3.Perm (U1++U2)/\S3.Pairwise lt):=⟨hp.trans (P1.out.1.append P2.out.1),hs⟩;have K3:=aj (K2.out.trans hk);clear hp hs hr hk TG;go_wp2_with fail
 rw[rounds_succ];go_wp2_with fail
 go_wp2;go_end0;exact⟨rfl,S3,P3.out.1,P3.out.2,R3.out,K3.out⟩
theorem Oh(U1 U2 U3:List T)(g cap n:Nat)(rest:List Value)(w:World)(h1:U1.length=20)(h2:U2.length=20)(h3:U3.length=0)(hU:(U1++U2++U3).Pairwise (λx y=>x.2<y.2))(hr:Rb w g (fs (U1++U2++U3)) rest)(hn:n=40):
  Calls Tryz.prog 186 #[slice (some ⟨g,0,none⟩) n cap,int i64 (n:Nat),.func (.func 151) #[] #[]] w (gB (U1++U2++U3) g rest w):=by
 have R0:=aj (hr);have HU:=aj (hU);have HL:Hid (U1.length=20/\U2.length=20/\U3.length=0/\n<=60):=⟨h1,h2,h3,by omega⟩;have le20:(20:Int)<=(n:Nat):=by omega
 have le40:(40:Int)<=(n:Nat):=by omega
 have le60:¬(60:Int)<=(n:Nat):=by omega
 have lt20:(20:Int)<(n:Nat):=by omega
 have lt40:¬(40:Int)<(n:Nat):=by omega
 have le80:¬(80:Int)<=(n:Nat):=by omega
 have HN:=aj (hn);clear hn;clear hr hU h1 h2 h3;go_enter Tryz.func186,Tryz.ntmps186;go_wp2_with fail
 refine wp_loop_rounds 3 ?_;rw[rounds_succ];go_wp2_with fail
 have C:Calls _ _ _ _ _:=dV ([]) U1 (U2++U3) g cap n 0 20 rest w ((List.pairwise_append.1 (List.pairwise_append.1 HU.out).1).1) (by have:=R0.out;simpa[fs] using this) (by have q1:=HL.out;have q2:=HN.out;(try simp only[List.length_append,List.length_nil]);omega) (by have:=HL.out;omega) (by have q1:=HL.out;have q2:=HN.out;(try simp only[List.length_append,List.length_nil]);omega) (by have q1:=HL.out;have q2:=HN.out;(try simp only[List.length_append,List.length_nil]);omega);refine Calls.mono C ?_;clear C;rintro er v1 ⟨rfl,S1,hp,hs,hr,hk⟩;have R1:Hid (Rb v1 g (fs (S1++U2++U3)) rest):=by unfold Hid;simpa[fs] using hr
 have P1:Hid (S1.Perm U1/\S1.Pairwise lt):=⟨hp,hs⟩;have K1:=aj (hk);clear hp hs hr hk;go_wp2_with fail
 rw[rounds_succ];go_wp2_with fail
 have C:Calls _ _ _ _ _:=dV (S1) U2 (U3) g cap n 20 40 rest v1 ((List.pairwise_append.1 (List.pairwise_append.1 HU.out).1).2.1) (by have:=R1.out;simpa[fs] using this) (by have q1:=HL.out;have q2:=HN.out;have z1:=P1.out.1.length_eq;(try simp only[List.length_append,List.length_nil]);omega) (by have:=HL.out;omega) (by have q1:=HL.out;have q2:=HN.out;have z1:=P1.out.1.length_eq;(try simp only[List.length_append,List.length_nil]);omega) (by have q1:=HL.out;have q2:=HN.out;have z1:=P1.out.1.length_eq;(try simp only[List.length_append,List.length_nil]);omega);refine Calls.mono C ?_;clear C;rintro er v2 ⟨rfl,S2,hp,hs,hr,hk⟩;have R2:Hid (Rb v2 g (fs (S1++S2++U3)) rest):=by unfold Hid;simpa[fs] using hr
 have P2:Hid (S2.Perm U2/\S2.Pairwise lt):=⟨hp,hs⟩;have K2:=aj (K1.out.trans hk);clear hp hs hr hk;go_wp2_with fail
 rw[rounds_succ];go_wp2_with fail
 have C:Calls _ _ _ _ _:=dV (S1++S2) U3 ([]) g cap n 40 (n:Nat) rest v2 ((List.pairwise_append.1 HU.out).2.1) (by have:=R2.out;simpa[fs] using this) (by have q1:=HL.out;have q2:=HN.out;have z1:=P1.out.1.length_eq;have z2:=P2.out.1.length_eq;(try simp only[List.length_append,List.length_nil]);omega) (by have:=HL.out;omega) (by have q1:=HL.out;have q2:=HN.out;have z1:=P1.out.1.length_eq;have z2:=P2.out.1.length_eq;(try simp only[List.length_append,List.length_nil]);omega) (by have q1:=HL.out;have q2:=HN.out;have z1:=P1.out.1.length_eq;have z2:=P2.out.1.length_eq;(try simp only[List.length_append,List.length_nil]);omega);refine Calls.mono C ?_;clear C;rintro er v3 ⟨rfl,S3,hp,hs,hr,hk⟩;have R3:Hid (Rb v3 g (fs (S1++S2++S3)) rest):=by unfold Hid;simpa[fs] using hr
 have P3:Hid (S3.Perm U3/\S3.Pairwise lt):=⟨hp,hs⟩;have K3:=aj (K2.out.trans hk);clear hp hs hr hk;go_wp2_with fail
 refine wp_loop_rounds 2 ?_;rw[rounds_succ];go_wp2_with fail
 refine wp_loop_rounds 2 ?_;rw[rounds_succ];go_wp2_with fail
 have TG:Hid (∀x∈S1,∀y∈S2,x.2<y.2):=λx hx y hy=>by have h1:=P1.out.1.mem_iff.1 hx;have h2:=P2.out.1.mem_iff.1 hy;have h3:=HU.out;have e:(U1)++(U2)++(U3)=U1++U2++U3:=(by simp);rw[<-e,List.pairwise_append] at h3;exact(List.pairwise_append.1 h3.1).2.2 x h1 y h2
 have C:Calls _ _ _ _ _:=rM ([]) S1 S2 (S3) g cap n 0 20 40 rest v3 (dD (by have q1:=HL.out;have q2:=HN.out;have z0:=P1.out.1.length_eq;have z1:=P2.out.1.length_eq;have z2:=P3.out.1.length_eq;(try simp only[List.length_append] at z0 z1 z2);(try simp only[List.length_append,List.length_nil]);omega)) (dD (by have q1:=HL.out;have q2:=HN.out;have z0:=P1.out.1.length_eq;have z1:=P2.out.1.length_eq;have z2:=P3.out.1.length_eq;(try simp only[List.length_append] at z0 z1 z2);(try simp only[List.length_append,List.length_nil]);omega)) P1.out.2 P2.out.2 TG.out (by have:=R3.out;simpa[fs] using this) (by have q1:=HL.out;have q2:=HN.out;have z0:=P1.out.1.length_eq;have z1:=P2.out.1.length_eq;have z2:=P3.out.1.length_eq;(try simp only[List.length_append] at z0 z1 z2);(try simp only[List.length_append,List.length_nil]);omega) (by have:=HL.out;omega) (by have q1:=HL.out;have q2:=HN.out;have z0:=P1.out.1.length_eq;have z1:=P2.out.1.length_eq;have z2:=P3.out.1.length_eq;(try simp only[List.length_append] at z0 z1 z2);(try simp only[List.length_append,List.length_nil]);omega) (by have q1:=HL.out;have q2:=HN.out;have z0:=P1.out.1.length_eq;have z1:=P2.out.1.length_eq;have z2:=P3.out.1.length_eq;(try simp only[List.length_append] at z0 z1 z2);(try simp only[List.length_append,List.length_nil]);omega) (by have q1:=HL.out;have q2:=HN.out;have z0:=P1.out.1.length_eq;have z1:=P2.out.1.length_eq;have z2:=P3.out.1.length_eq;(try simp only[List.length_append] at z0 z1 z2);(try simp only[List.length_append,List.length_nil]);omega);refine Calls.mono C ?_;clear C;rintro er v4 ⟨rfl,S4,hp,hs,hr,hk⟩;have R4:Hid (Rb v4 g (fs (S4++S3)) rest):=by unfold Hid;simpa[fs] using hr
 have P4:Hid (S4.Perm (U1++U2)/\S4.Pairwise lt):=⟨hp.trans (P1.out.1.append P2.out.1),hs⟩;have K4:=aj (K3.out.trans hk);clear hp hs hr hk TG;go_wp2_with fail
 rw[rounds_succ];go_wp2_with fail
 rw[rounds_succ];go_wp2_with fail
 go_wp2;go_end0;have eS3:S3=[]:=List.length_eq_zero_iff.1 (by have q1:=HL.out;have q2:=HN.out;have z:=P3.out.1.length_eq;omega);have eU3:U3=[]:=List.length_eq_zero_iff.1 (by have q1:=HL.out;have q2:=HN.out;omega);refine⟨rfl,S4,?_,P4.out.2,?_,K4.out⟩
 ·have h:=P4.out.1
  simpa[eU3] using h
 ·have h:=R4.out
  rw[eS3] at h;simpa using h
theorem Oi(U1 U2 U3:List T)(g cap n:Nat)(rest:List Value)(w:World)(h1:U1.length=20)(h2:U2.length=20)(h3:U3.length=n-40)(hU:(U1++U2++U3).Pairwise (λx y=>x.2<y.2))(hr:Rb w g (fs (U1++U2++U3)) rest)(hn:40<n/\n<60):
  Calls Tryz.prog 186 #[slice (some ⟨g,0,none⟩) n cap,int i64 (n:Nat),.func (.func 151) #[] #[]] w (gB (U1++U2++U3) g rest w):=by
 have R0:=aj (hr);have HU:=aj (hU);have HL:Hid (U1.length=20/\U2.length=20/\U3.length=n-40/\n<=60):=⟨h1,h2,h3,by omega⟩;have le20:(20:Int)<=(n:Nat):=by omega
 have le40:(40:Int)<=(n:Nat):=by omega
 have le60:¬(60:Int)<=(n:Nat):=by omega
 have lt20:(20:Int)<(n:Nat):=by omega
 have lt40:(40:Int)<(n:Nat):=by omega
 have lt80:¬(80:Int)<(n:Nat):=by omega
 have le80:¬(80:Int)<=(n:Nat):=by omega
 have HN:=aj (hn);clear hn;clear hr hU h1 h2 h3;go_enter Tryz.func186,Tryz.ntmps186;go_wp2_with fail
 refine wp_loop_rounds 3 ?_;rw[rounds_succ];go_wp2_with fail
 have C:Calls _ _ _ _ _:=dV ([]) U1 (U2++U3) g cap n 0 20 rest w ((List.pairwise_append.1 (List.pairwise_append.1 HU.out).1).1) (by have:=R0.out;simpa[fs] using this) (by have q1:=HL.out;have q2:=HN.out;(try simp only[List.length_append,List.length_nil]);omega) (by have:=HL.out;omega) (by have q1:=HL.out;have q2:=HN.out;(try simp only[List.length_append,List.length_nil]);omega) (by have q1:=HL.out;have q2:=HN.out;(try simp only[List.length_append,List.length_nil]);omega);refine Calls.mono C ?_;clear C;rintro er v1 ⟨rfl,S1,hp,hs,hr,hk⟩;have R1:Hid (Rb v1 g (fs (S1++U2++U3)) rest):=by unfold Hid;simpa[fs] using hr
 have P1:Hid (S1.Perm U1/\S1.Pairwise lt):=⟨hp,hs⟩;have K1:=aj (hk);clear hp hs hr hk;go_wp2_with fail
 rw[rounds_succ];go_wp2_with fail
 have C:Calls _ _ _ _ _:=dV (S1) U2 (U3) g cap n 20 40 rest v1 ((List.pairwise_append.1 (List.pairwise_append.1 HU.out).1).2.1) (by have:=R1.out;simpa[fs] using this) (by have q1:=HL.out;have q2:=HN.out;have z1:=P1.out.1.length_eq;(try simp only[List.length_append,List.length_nil]);omega) (by have:=HL.out;omega) (by have q1:=HL.out;have q2:=HN.out;have z1:=P1.out.1.length_eq;(try simp only[List.length_append,List.length_nil]);omega) (by have q1:=HL.out;have q2:=HN.out;have z1:=P1.out.1.length_eq;(try simp only[List.length_append,List.length_nil]);omega);refine Calls.mono C ?_;clear C;rintro er v2 ⟨rfl,S2,hp,hs,hr,hk⟩;have R2:Hid (Rb v2 g (fs (S1++S2++U3)) rest):=by unfold Hid;simpa[fs] using hr
 have P2:Hid (S2.Perm U2/\S2.Pairwise lt):=⟨hp,hs⟩;have K2:=aj (K1.out.trans hk);clear hp hs hr hk;go_wp2_with fail
 rw[rounds_succ];go_wp2_with fail
 have C:Calls _ _ _ _ _:=dV (S1++S2) U3 ([]) g cap n 40 (n:Nat) rest v2 ((List.pairwise_append.1 HU.out).2.1) (by have:=R2.out;simpa[fs] using this) (by have q1:=HL.out;have q2:=HN.out;have z1:=P1.out.1.length_eq;have z2:=P2.out.1.length_eq;(try simp only[List.length_append,List.length_nil]);omega) (by have:=HL.out;omega) (by have q1:=HL.out;have q2:=HN.out;have z1:=P1.out.1.length_eq;have z2:=P2.out.1.length_eq;(try simp only[List.length_append,List.length_nil]);omega) (by have q1:=HL.out;have q2:=HN.out;have z1:=P1.out.1.length_eq;have z2:=P2.out.1.length_eq;(try simp only[List.length_append,List.length_nil]);omega);refine Calls.mono C ?_;clear C;rintro er v3 ⟨rfl,S3,hp,hs,hr,hk⟩;have R3:Hid (Rb v3 g (fs (S1++S2++S3)) rest):=by unfold Hid;simpa[fs] using hr
 have P3:Hid (S3.Perm U3/\S3.Pairwise lt):=⟨hp,hs⟩;have K3:=aj (K2.out.trans hk);clear hp hs hr hk;go_wp2_with fail
 refine wp_loop_rounds 3 ?_;rw[rounds_succ];go_wp2_with fail
 refine wp_loop_rounds 2 ?_;rw[rounds_succ];go_wp2_with fail
 have TG:Hid (∀x∈S1,∀y∈S2,x.2<y.2):=λx hx y hy=>by have h1:=P1.out.1.mem_iff.1 hx;have h2:=P2.out.1.mem_iff.1 hy;have h3:=HU.out;have e:(U1)++(U2)++(U3)=U1++U2++U3:=(by simp);rw[<-e,List.pairwise_append] at h3;exact(List.pairwise_append.1 h3.1).2.2 x h1 y h2
 have C:Calls _ _ _ _ _:=rM ([]) S1 S2 (S3) g cap n 0 20 40 rest v3 (dD (by have q1:=HL.out;have q2:=HN.out;have z0:=P1.out.1.length_eq;have z1:=P2.out.1.length_eq;have z2:=P3.out.1.length_eq;(try simp only[List.length_append] at z0 z1 z2);(try simp only[List.length_append,List.length_nil]);omega)) (dD (by have q1:=HL.out;have q2:=HN.out;have z0:=P1.out.1.length_eq;have z1:=P2.out.1.length_eq;have z2:=P3.out.1.length_eq;(try simp only[List.length_append] at z0 z1 z2);(try simp only[List.length_append,List.length_nil]);omega)) P1.out.2 P2.out.2 TG.out (by have:=R3.out;simpa[fs] using this) (by have q1:=HL.out;have q2:=HN.out;have z0:=P1.out.1.length_eq;have z1:=P2.out.1.length_eq;have z2:=P3.out.1.length_eq;(try simp only[List.length_append] at z0 z1 z2);(try simp only[List.length_append,List.length_nil]);omega) (by have:=HL.out;omega) (by have q1:=HL.out;have q2:=HN.out;have z0:=P1.out.1.length_eq;have z1:=P2.out.1.length_eq;have z2:=P3.out.1.length_eq;(try simp only[List.length_append] at z0 z1 z2);(try simp only[List.length_append,List.length_nil]);omega) (by have q1:=HL.out;have q2:=HN.out;have z0:=P1.out.1.length_eq;have z1:=P2.out.1.length_eq;have z2:=P3.out.1.length_eq;(try simp only[List.length_append] at z0 z1 z2);(try simp only[List.length_append,List.length_nil]);omega) (by have q1:=HL.out;have q2:=HN.out;have z0:=P1.out.1.length_eq;have z1:=P2.out.1.length_eq;have z2:=P3.out.1.length_eq;(try simp only[List.length_append] at z0 z1 z2);(try simp only[List.length_append,List.length_nil]);omega);refine Calls.mono C ?_;clear C;rintro er v4 ⟨rfl,S4,hp,hs,hr,hk⟩;have R4:Hid (Rb v4 g (fs (S4++S3)) rest):=by unfold Hid;simpa[fs] using hr
 have P4:Hid (S4.Perm (U1++U2)/\S4.Pairwise lt):=⟨hp.trans (P1.out.1.append P2.out.1),hs⟩;have K4:=aj (K3.out.trans hk);clear hp hs hr hk TG;go_wp2_with fail
 rw[rounds_succ];go_wp2_with fail
 rw[rounds_succ];go_wp2_with fail
 refine wp_loop_rounds 1 ?_;rw[rounds_succ];go_wp2_with fail
 have TG:Hid (∀x∈S4,∀y∈S3,x.2<y.2):=λx hx y hy=>by have h1:=P4.out.1.mem_iff.1 hx;have h2:=P3.out.1.mem_iff.1 hy;have h3:=HU.out;have e:(U1++U2)++(U3)++([])=U1++U2++U3:=(by simp);rw[<-e,List.pairwise_append] at h3;exact(List.pairwise_append.1 h3.1).2.2 x h1 y h2
 have C:Calls _ _ _ _ _:=rM ([]) S4 S3 ([]) g cap n 0 40 (n:Nat) rest v4 (dD (by have q1:=HL.out;have q2:=HN.out;have z0:=P4.out.1.length_eq;have z1:=P3.out.1.length_eq;(try simp only[List.length_append] at z0 z1);(try simp only[List.length_append,List.length_nil]);omega)) (dD (by have q1:=HL.out;have q2:=HN.out;have z0:=P4.out.1.length_eq;have z1:=P3.out.1.length_eq;(try simp only[List.length_append] at z0 z1);(try simp only[List.length_append,List.length_nil]);omega)) P4.out.2 P3.out.2 TG.out (by have:=R4.out;simpa[fs] using this) (by have q1:=HL.out;have q2:=HN.out;have z0:=P4.out.1.length_eq;have z1:=P3.out.1.length_eq;(try simp only[List.length_append] at z0 z1);(try simp only[List.length_append,List.length_nil]);omega) (by have:=HL.out;omega) (by have q1:=HL.out;have q2:=HN.out;have z0:=P4.out.1.length_eq;have z1:=P3.out.1.length_eq;(try simp only[List.length_append] at z0 z1);(try simp only[List.length_append,List.length_nil]);omega) (by have q1:=HL.out;have q2:=HN.out;have z0:=P4.out.1.length_eq;have z1:=P3.out.1.length_eq;(try simp only[List.length_append] at z0 z1);(try simp only[List.length_append,List.length_nil]);omega) (by have q1:=HL.out;have q2:=HN.out;have z0:=P4.out.1.length_eq;have z1:=P3.out.1.length_eq;(try simp only[List.length_append] at z0 z1);(try simp only[List.length_append,List.length_nil]);omega);refine Calls.mono C ?_;clear C;rintro er v5 ⟨rfl,S5,hp,hs,hr,hk⟩;have R5:Hid (Rb v5 g (fs (S5)) rest):=by unfold Hid;simpa[fs] using hr
 have P5:Hid (S5.Perm ((U1++U2)++U3)/\S5.Pairwise lt):=⟨hp.trans (P4.out.1.append P3.out.1),hs⟩;have K5:=aj (K4.out.trans hk);clear hp hs hr hk TG;go_wp2_with fail
 rw[rounds_succ];go_wp2_with fail
 go_wp2;go_end0;exact⟨rfl,S5,P5.out.1,P5.out.2,R5.out,K5.out⟩
end Go.Proofs.YtolfphmdmpehdaaGreatDoor
