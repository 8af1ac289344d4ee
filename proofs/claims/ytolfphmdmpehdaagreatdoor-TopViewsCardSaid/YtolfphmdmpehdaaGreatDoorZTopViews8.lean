/- world.checkPlace. And more. -/
import Derived.Test.YtolfphmdmpehdaaGreatDoorZTopViews7
set_option linter.unusedVariables false
set_option linter.unusedSimpArgs false
set_option maxHeartbeats 64000000
set_option maxRecDepth 100000
open Go.Value (int slice)
open Go.IntKind (i64)
open Go.Proofs.Tryz
namespace Go.Proofs.YtolfphmdmpehdaaGreatDoor
section
open Go.RowKit
variable {X Y:WV} {j:bM} {ks:List KV} {l:List bU}
theorem Ip(vk vw:Value)(ks:List KV)(W:WV)(pl kd at_:Int)(w:World)(hk:Kl w vk ks)(hw:Wl w vw W)(hr:bH ks W):
  Calls prog 83 #[vk,vw,int i64 pl,int i64 kd,int i64 at_] w λe w'=>∃r,e=.returned r/\Er r (Wd.bV ks W pl kd at_)/\Below w.heap.size w w':=by
 have K:=aj (hk);have H:=aj (hw);have R:=aj (hr);obtain⟨u1,u2,u3,u4,u5,rfl,r1,r2,r3,r4,r5⟩:=hw;obtain⟨p1,q1,rfl,-⟩:=r1;obtain⟨p2,q2,rfl,-⟩:=r2;obtain⟨p3,q3,rfl,-⟩:=r3;obtain⟨p4,q4,rfl,-⟩:=r4;obtain⟨p5,q5,rfl,-⟩:=r5;obtain⟨pk,qk,rfl,-,-,kc⟩:=hk;have KC:=aj (kc);have lk:=xI hr.kinds;have lg:=(jY hr.nums).2;have lu:=hr.ul;have lc:W.gs.length<=144:=by
  obtain⟨Wn,Hn,-,-,G⟩:=hr.good;have h1:=G.pos;have h2:=G.gl;omega
 clear hr kc;go_enter func83,ntmps83;go_upto_region 1 with fail
 have B0:Hid (Below _ w (w.alloc (Obj.cells #[int i64 W.turn,int i64 W.next,int i64 W.wide,int i64 W.high,slice p1 W.gs.length q1,slice p2 W.os.length q2,slice p3 W.gold.length q3,slice p4 W.us.length q4,slice p5 W.qs.length q5] 29))):=aA;have X0:Hid (Bw _ w.heap.size W (slice p1 W.gs.length q1) (slice p2 W.os.length q2) (slice p3 W.gold.length q3) (slice p4 W.us.length q4) (slice p5 W.qs.length q5)):=Bw.mk' W _ _ _ _ _ rfl;generalize (w.alloc _)=w0 at *;obtain⟨x0,x1,x2,x3,x4,x5,x6,x7,x8⟩:=X0.out;by_cases h40:(40:Int)<=(W.us.length:Int)
 ·go_wp2
  go_ret;exact⟨_,rfl,by rw[Wd.pf4 (.inl h40)];exact Er.no (by decide),B0⟩
 by_cases hnx:(1000000:Int)<=W.next
 ·go_wp2
  go_ret;exact⟨_,rfl,by rw[Wd.pf4 (.inr hnx)];exact Er.no (by decide),B0⟩
 have HF:Hid (¬(40<=(W.us.length:Int)\/1000000<=W.next)):=λh=>h.elim h40 hnx
 by_cases h1:0<=pl/\pl<(W.gold.length:Int)
 case neg=>
  have t1:=decide_eq_false h1;have F:Hid (Wd.bV ks W pl kd at_=1):=Wd.pf1 HF (.inl h1);clear h1;go_wp2_with fail
  refine(gX _ _ _ _ _ (by omega)).mono ?_;rintro e w1 ⟨rfl,jS⟩;obtain rfl:=jS.symm;rw[t1];clear t1;go_wp2;go_ret;exact⟨_,rfl,by rw[F.out];exact Er.no (by decide),B0⟩
 have t1:=decide_eq_true h1;have H1:=aj (h1);clear h1;go_wp2_with fail
 refine(gX _ _ _ _ _ (by omega)).mono ?_;rintro e w1 ⟨rfl,jS⟩;obtain rfl:=jS.symm;rw[t1];clear t1;by_cases h2:0<=kd/\kd<(ks.length:Int)
 case neg=>
  have t1:=decide_eq_false h2;have F:Hid (Wd.bV ks W pl kd at_=1):=Wd.pf1 HF (.inr h2);clear h2;go_wp2_with fail
  refine(kU _ _ _ _ _ (by omega)).mono ?_;rintro e w1 ⟨rfl,jS⟩;obtain rfl:=jS.symm;rw[t1];clear t1;go_wp2;go_ret;exact⟨_,rfl,by rw[F.out];exact Er.no (by decide),B0⟩
 have t1:=decide_eq_true h2;have H2:=aj (h2);clear h2;go_wp2_with fail
 refine(kU _ _ _ _ _ (by omega)).mono ?_;rintro e w1 ⟨rfl,jS⟩;obtain rfl:=jS.symm;rw[t1];clear t1;by_cases h3:0<=at_/\at_<(W.gs.length:Int)
 case neg=>
  have t1:=decide_eq_false h3;have F:=aj (Wd.pf6 HF H1 H2 h3);clear h3;go_wp2_with fail
  refine(gX _ _ _ _ _ (by omega)).mono ?_;rintro e w1 ⟨rfl,jS⟩;obtain rfl:=jS.symm;rw[t1];clear t1;go_wp2;go_ret;exact⟨_,rfl,by rw[F.out];exact Er.no (by decide),B0⟩
 have t1:=decide_eq_true h3;have H3:=aj (h3);go_wp2_with fail
 refine(gX _ _ _ _ _ (by omega)).mono ?_;rintro e w1 ⟨rfl,jS⟩;obtain rfl:=jS.symm;rw[t1];clear t1;obtain⟨an,ea⟩:∃an:Nat,at_=an:=⟨at_.toNat,by omega⟩;obtain⟨kn,ek⟩:∃kn:Nat,kd=kn:=⟨kd.toNat,by have:=H2.out;omega⟩;subst ea;subst ek;have hkl:kn<ks.length:=by have:=H2.out;omega
 have hki:(kn:Int)<(ks.length:Int):=by omega
 obtain⟨k,hk⟩:∃k,ks[kn]? =some k:=⟨_,aH hkl⟩;obtain⟨g,hg0⟩:∃g,W.gs[an]? =some g:=⟨_,aH (by omega)⟩;have FK:=aj (Wd.pfk HF H1 H2 H3 (by simpa using hk));have Zu:=aj (hg0);obtain⟨xk,rfl,hxl,hxc⟩:=KC (by intro e;rw[e] at hkl;simp at hkl);have hkc:=aj ((hxc kn k hk).below B0 (by rw[add_block];exact hxl));have FC:Hid (∀V,Below w0.heap.size w0 V->V.cell? ⟨w.heap.size,2,none⟩=some (int i64 W.wide)/\V.cell? ⟨w.heap.size,3,none⟩=some (int i64 W.high)/\V.cell? ⟨w.heap.size,4,none⟩=some (slice p1 W.gs.length q1)/\V.cell? ⟨w.heap.size,5,none⟩=some (slice p2 W.os.length q2)/\V.cell? ⟨w.heap.size,7,none⟩=some (slice p4 W.us.length q4)/\V.cell? ⟨(xk.add (kn*11)).block,(xk.add (kn*11)).off+9,none⟩=some (.bool k.f)):=λV hV=>by
  obtain⟨-,-,z2,z3,z4,z5,-,z7,-⟩:=X0.below hV X0.lt;obtain⟨-,-,-,-,-,-,-,-,-,m9,-⟩:=hkc.below hV hkc.lt;exact⟨z2,z3,z4,z5,z7,m9⟩
 have OPN:Hid (∀V,Below w0.heap.size w0 V->Calls prog 126 #[.agg #[int i64 W.wide,int i64 W.high,slice p1 W.gs.length q1,slice p2 W.os.length q2],slice p4 W.us.length q4,int i64 (an:Nat),.bool k.f] V λe w'=>e=.returned (.bool (Wd.open_ W.gs W.us (an:Nat) k.f))/\Below w0.heap.size w0 w'):=λV hV=>by
  have BV:=B0.trans (hV.mono B0.size);obtain⟨r1,r2,-,r4,-⟩:=(H.below BV).slices;obtain⟨Wn,Hn,VZ,hHn,Bc⟩:=R.good;rw[VZ,hHn];exact(uo _ _ Wn Hn _ _ _ an g _ V ⟨_,_,rfl,r1,r2⟩ Bc r4 (by have:=Bc.gl;omega) Zu).mono λe w' ⟨h1,h2⟩=>⟨h1,hV.trans (h2.mono hV.size)⟩
 have eo:∀args w,(callFunc 126 args).run prog w=.ok (.enter 126 args) w:=by intro args w;go_simp
 clear hxc hk hg0 h3 x0 x1 x2 x3 x4 x5 x6 x7 x8;go_upto_region 9 with fail
 refine eY 11 (λV=>Below w0.heap.size w0 V) (by kernel_rfl) (by kernel_rfl) aB.drew ?_;simp only[List.take_succ_cons,List.take_zero,List.drop_succ_cons,List.drop_zero];refine aF (.pointer (some ⟨w.heap.size,2,none⟩)) (by go_simp) (λV hV=>by go_simp) ?_;go_simp;refine aF (.agg #[int i64 W.wide,int i64 W.high,slice p1 W.gs.length q1,slice p2 W.os.length q2]) (by go_simp) (λV hV=>by obtain⟨f2,f3,f4,f5,-⟩:=FC V hV;go_simp) ?_;go_simp;refine aF (.pointer (some ⟨w.heap.size,7,none⟩)) (by go_simp) (λV hV=>by go_simp) ?_;go_simp;refine aF (slice p4 W.us.length q4) (by go_simp) (λV hV=>by obtain⟨-,-,-,-,f7,-⟩:=FC V hV;go_simp) ?_;go_simp;refine aF (int i64 (an:Nat)) (by go_simp) (λV hV=>by go_simp) ?_;go_simp;refine aF (slice (some xk) ks.length qk) (by go_simp) (λV hV=>by go_simp) ?_;go_simp;refine aF (int i64 (kn:Nat)) (by go_simp) (λV hV=>by go_simp) ?_;go_simp;refine aF (.pointer (some (xk.add (kn*11)))) (by go_simp) (λV hV=>by go_simp) ?_;go_simp;refine aF (.pointer (some ⟨(xk.add (kn*11)).block,(xk.add (kn*11)).off+9,none⟩)) (by go_simp) (λV hV=>by go_simp) ?_;go_simp;refine aF (.bool k.f) (by go_simp) (λV hV=>by obtain⟨-,-,-,-,-,f10⟩:=FC V hV;go_simp) ?_;go_simp;refine gU _ _ _ (by go_simp) (λV hV=>by go_simp) (λV hV=>OPN V hV) ?_;go_simp;intro V hV;have BV:=aG B0 hV;obtain⟨b9,hb9⟩:∃b,Wd.open_ W.gs W.us (an:Nat) k.f=b:=⟨_,rfl⟩;rw[hb9] at FK ⊢;clear hV FC OPN hb9;cases b9 with
 |false=>
  go_wp2;go_ret;exact⟨_,rfl,by rw[FK.out];exact Er.no (by decide),BV⟩
 |true=>
  go_wp2;go_ret;exact⟨_,rfl,by rw[FK.out];exact Er.nil,BV⟩
theorem rZ(vk vw:Value)(ks:List KV)(W:WV)(pl kd at_:Int)(w:World)(hk:Kl w vk ks)(hb:∀k∈ks,k.b.size<=9223372036854775807)(hw:Wl w vw W):
  Calls prog 39 #[vk,vw,int i64 pl,int i64 kd,int i64 at_] w λe w'=>∃u r,e=.returned (.tuple #[u,r])/\Er r (Wd.fV ks W pl kd at_)/\Wo w' w.heap.size u (Wd.placed ks W pl kd at_)/\Below w.heap.size w w':=by
 have K:Hid (Kl w vk ks/\∀k∈ks,k.b.size<=9223372036854775807):=⟨hk,hb⟩;have H:=aj (hw);obtain⟨u1,u2,u3,u4,u5,rfl,r1,r2,r3,r4,r5⟩:=hw;obtain⟨p1,q1,rfl,-⟩:=r1;obtain⟨p2,q2,rfl,-⟩:=r2;obtain⟨p3,q3,rfl,-⟩:=r3;obtain⟨p4,q4,rfl,-⟩:=r4;obtain⟨p5,q5,rfl,-⟩:=r5;obtain⟨pk,qk,rfl,-,-,kc⟩:=hk;have KC:=aj (kc);clear hb kc;go_enter func39,ntmps39;go_upto_region 1 with fail
 have B0:Hid (Below w.heap.size w ((w.alloc (.cells #[int i64 W.turn,int i64 W.next,int i64 W.wide,int i64 W.high,slice p1 W.gs.length q1,slice p2 W.os.length q2,slice p3 W.gold.length q3,slice p4 W.us.length q4,slice p5 W.qs.length q5] 29)).alloc (.cells #[int i64 0,int i64 0,int i64 0,int i64 0,slice none 0 0,slice none 0 0,slice none 0 0,slice none 0 0,slice none 0 0] 29))):=aA.alloc (by simp) _;have X0:Hid (Wx ((w.alloc (.cells #[int i64 W.turn,int i64 W.next,int i64 W.wide,int i64 W.high,slice p1 W.gs.length q1,slice p2 W.os.length q2,slice p3 W.gold.length q3,slice p4 W.us.length q4,slice p5 W.qs.length q5] 29)).alloc (.cells #[int i64 0,int i64 0,int i64 0,int i64 0,slice none 0 0,slice none 0 0,slice none 0 0,slice none 0 0,slice none 0 0] 29)) w.heap.size (int i64 W.turn) (int i64 W.next) (int i64 W.wide) (int i64 W.high) (slice p1 W.gs.length q1) (slice p2 W.os.length q2) (slice p3 W.gold.length q3) (slice p4 W.us.length q4) (slice p5 W.qs.length q5)):=(Wx.new (w:=w) _ _ _ _ _ _ _ _ _ rfl).below aA (by simp);have Z0:Hid (Wx ((w.alloc (.cells #[int i64 W.turn,int i64 W.next,int i64 W.wide,int i64 W.high,slice p1 W.gs.length q1,slice p2 W.os.length q2,slice p3 W.gold.length q3,slice p4 W.us.length q4,slice p5 W.qs.length q5] 29)).alloc (.cells #[int i64 0,int i64 0,int i64 0,int i64 0,slice none 0 0,slice none 0 0,slice none 0 0,slice none 0 0,slice none 0 0] 29)) (w.heap.size+1) (int i64 0) (int i64 0) (int i64 0) (int i64 0) (slice none 0 0) (slice none 0 0) (slice none 0 0) (slice none 0 0) (slice none 0 0)):=Wx.new _ _ _ _ _ _ _ _ _ (by simp);have S0:Hid (w.heap.size+2<=((w.alloc (.cells #[int i64 W.turn,int i64 W.next,int i64 W.wide,int i64 W.high,slice p1 W.gs.length q1,slice p2 W.os.length q2,slice p3 W.gold.length q3,slice p4 W.us.length q4,slice p5 W.qs.length q5] 29)).alloc (.cells #[int i64 0,int i64 0,int i64 0,int i64 0,slice none 0 0,slice none 0 0,slice none 0 0,slice none 0 0,slice none 0 0] 29)).heap.size):=by unfold Hid;simp
 generalize ((w.alloc _).alloc _)=w0 at *;obtain⟨x0,x1,x2,x3,x4,x5,x6,x7,x8⟩:=X0.cells;go_wp2_with fail
 refine(gY _ _ ks W w0 (K.1.below B0) K.2 (H.below B0)).mono ?_;rintro e w1 ⟨r,rfl,hr,hb1⟩;clear x0 x1 x2 x3 x4 x5 x6 x7 x8;have B1:=aG B0 hb1;have X1:=aj (X0.below hb1 X0.lt);have Z1:=aj (Z0.below hb1 Z0.lt);have S1:=aj (aJ S0 hb1.size);clear hb1 B0 X0 Z0 S0;rcases hr with⟨hf,rfl⟩|⟨hf,rfl⟩
 case inr=>
  obtain⟨fe,hfe⟩:∃f,Wd.aP ks W=f:=⟨_,rfl⟩;have Kt:Hid (fe≠0):=by rw[<-hfe];exact hf
  have FE:Hid (Wd.fV ks W pl kd at_=fe):=by unfold Hid Wd.fV;rw[if_neg hf];exact hfe
  rw[hfe];clear hf hfe;have zz:=Z1.cells;obtain⟨t0,t1,t2,t3,t4,t5,t6,t7,t8⟩:=Z1.cO;have KZ:=aj (fH w1 (w.heap.size+1));have yy:=(Z1.nJ).cells;go_wp2;clear zz t0 t1 t2 t3 t4 t5 t6 t7 t8;generalize World.setCell _ ⟨_,8,none⟩ _=w9 at *;refine bodyPost_ret (v:=.tuple #[.agg #[int i64 0,int i64 0,int i64 0,int i64 0,slice none 0 0,slice none 0 0,slice none 0 0,slice none 0 0,slice none 0 0],.iface 85 (int i64 fe)]) (by simp[results,results39,go_sem,yy]) rfl ⟨_,_,rfl,by rw[FE.out];exact Er.no Kt,by rw[uF (by rw[FE.out];exact Kt.out)];exact oG _ _,KZ.below B1 B1.size (by omega)⟩
 have HF:=aj (hf);have PF:Hid (Wd.fV ks W pl kd at_=Wd.bV ks W pl kd at_):=by unfold Hid Wd.fV;rw[if_pos hf]
 have RT:=aj (bY hf);clear hf;obtain⟨x0,x1,x2,x3,x4,x5,x6,x7,x8⟩:=X1.cells;go_wp2_with fail
 refine(Ip _ _ ks W pl kd _ w1 (K.1.below B1) (H.below B1) RT).mono ?_;rintro e w2 ⟨r,rfl,hr,hb2⟩;clear x0 x1 x2 x3 x4 x5 x6 x7 x8;have B2:=aG B1 hb2;have X2:=aj (X1.below hb2 X1.lt);have Z2:=aj (Z1.below hb2 Z1.lt);have S2:=aj (aJ S1 hb2.size);clear hb2 B1 X1 Z1 S1;rcases hr with⟨hf,rfl⟩|⟨hf,rfl⟩
 case inr=>
  obtain⟨fe,hfe⟩:∃f,Wd.bV ks W pl kd at_=f:=⟨_,rfl⟩;have Kt:Hid (fe≠0):=by rw[<-hfe];exact hf
  have FE:Hid (Wd.fV ks W pl kd at_=fe):=by unfold Hid;rw[PF.out];exact hfe
  rw[hfe];clear hf hfe;have zz:=Z2.cells;obtain⟨t0,t1,t2,t3,t4,t5,t6,t7,t8⟩:=Z2.cO;have KZ:=aj (fH w2 (w.heap.size+1));have yy:=(Z2.nJ).cells;go_wp2;clear zz t0 t1 t2 t3 t4 t5 t6 t7 t8;generalize World.setCell _ ⟨_,8,none⟩ _=w9 at *;refine bodyPost_ret (v:=.tuple #[.agg #[int i64 0,int i64 0,int i64 0,int i64 0,slice none 0 0,slice none 0 0,slice none 0 0,slice none 0 0,slice none 0 0],.iface 85 (int i64 fe)]) (by simp[results,results39,go_sem,yy]) rfl ⟨_,_,rfl,by rw[FE.out];exact Er.no Kt,by rw[uF (by rw[FE.out];exact Kt.out)];exact oG _ _,KZ.below B2 B2.size (by omega)⟩
 obtain⟨h40,hpl,hat,kn,k,rfl,hkn,hkk,hop⟩:=Jt hf;have P0:Hid (Wd.fV ks W pl (kn:Nat) at_=0):=by unfold Hid;rw[PF.out];exact hf
 have NU:Hid (Wd.oC ks W pl (kn:Nat) at_=⟨W.next,pl,(kn:Nat),at_,k.n0,0,0,0⟩):=by unfold Hid Wd.oC;rw[bF,hkk]
 have L40:Hid (W.us.length<40):=aj (by omega);have hnx:W.next<1000000:=by omega
 have hn1:1<=W.next:=by
  have:=(jY RT.nums).1;unfold Wd.off at this;simp at this;omega
 obtain⟨xk,rfl,hxl,hxc⟩:=KC (by intro e;rw[e] at hkn;simp at hkn);have HK:Hid (Kc w (xk.add (kn*11)) k/\(xk.add (kn*11)).block<w.heap.size):=⟨hxc kn k hkk,by rw[add_block];exact hxl⟩;have hki:(kn:Int)<(ks.length:Int):=by omega
 clear hf h40 hpl hat hkn hkk hop hxc hxl;obtain⟨x0,x1,x2,x3,x4,x5,x6,x7,x8⟩:=X2.cells;go_wp2_with fail
 refine(jo _ W w2 (H.below B2) RT.len).mono ?_;rintro e w3 ⟨u,rfl,ho,hb3⟩;clear x0 x1 x2 x3 x4 x5 x6 x7 x8;have B3:=aG B2 hb3;have X3:=aj (X2.below hb3 X2.lt);have Z3:=aj (Z2.below hb3 Z2.lt);have S3:=aj (aJ S2 hb3.size);obtain⟨v1,v2,v3,v4,v5,rfl,⟨o1,o2,o3,o4,o5⟩,-,-,d14,-,-,d24,-,d34,-,d45⟩:=ho.mono S2;have O1:=aj (iJ o1 o2 o3 o4 o5);have DD:Hid (fK v1 v4/\fK v2 v4/\fK v3 v4/\fK v5 v4):=⟨d14,d24,d34,d45.symm⟩;clear d14 d24 d34 d45;obtain⟨a1,b1,rfl⟩:=o1.len;obtain⟨a2,b2,rfl⟩:=o2.len;obtain⟨a3,b3,rfl⟩:=o3.len;obtain⟨a4,b4,rfl⟩:=o4.len;obtain⟨a5,b5,rfl⟩:=o5.len;clear ho hb3 B2 X2 Z2 S2 o1 o2 o3 o4 o5;obtain⟨x0,x1,x2,x3,x4,x5,x6,x7,x8⟩:=X3.cells;obtain⟨t0,t1,t2,t3,t4,t5,t6,t7,t8⟩:=X3.cO;have K4:=aj (dG w3 w.heap.size (int i64 W.turn) (int i64 W.next) (int i64 W.wide) (int i64 W.high) (slice a1 W.gs.length b1) (slice a2 W.os.length b2) (slice a3 W.gold.length b3) (slice a4 W.us.length b4) (slice a5 W.qs.length b5));have X4:=aj (X3.put (int i64 W.turn) (int i64 W.next) (int i64 W.wide) (int i64 W.high) (slice a1 W.gs.length b1) (slice a2 W.os.length b2) (slice a3 W.gold.length b3) (slice a4 W.us.length b4) (slice a5 W.qs.length b5));go_upto_region 8 with fail
 clear x0 x1 x2 x3 x4 x5 x6 x7 x8 t0 t1 t2 t3 t4 t5 t6 t7 t8;generalize World.setCell _ ⟨_,8,none⟩ _=w4 at *;have B4:=aj (K4.below B3 B3.size aN);have Z4:=aj (Z3.kp K4 (by omega));have S4:=aj (aJ S3 K4.size);have O4:Hid (Ow w4 (w.heap.size+2) (slice a1 W.gs.length b1) W.gs/\Ow w4 (w.heap.size+2) (slice a2 W.os.length b2) W.os/\Ow w4 (w.heap.size+2) (slice a3 W.gold.length b3) W.gold/\fD w4 (w.heap.size+2) (slice a4 W.us.length b4) W.us/\fB w4 (w.heap.size+2) (slice a5 W.qs.length b5) W.qs):=
  ⟨O1.1.kp K4 (by omega),O1.2.1.kp K4 (by omega),O1.2.2.1.kp K4 (by omega),O1.2.2.2.1.kp K4 (by omega),O1.2.2.2.2.kp K4 (by omega)⟩
 clear K4 B3 X3 Z3 S3 O1;refine aV [(true,0),(true,1),(true,2),(true,3),(true,4),(true,5),(true,6),(true,7),(true,8),(true,9),(true,10),(true,11),(true,12),(false,13),(false,14)] [(false,15),(false,16)] (λV=>V.cell? ⟨w.heap.size,7,none⟩=some (slice a4 W.us.length b4)/\V.cell? ⟨w.heap.size,1,none⟩=some (int i64 W.next)/\V.cell? ⟨(xk.add (kn*11)).block,(xk.add (kn*11)).off+1,none⟩=some (int i64 k.n0)) (by kernel_rfl) (by kernel_rfl) (by kernel_rfl) (by kernel_rfl) (by kernel_rfl) ?_ ?_
 ·obtain⟨-,x1,-,-,-,-,-,x7,-⟩:=X4.cells
  exact⟨x7,x1,(HK.1.below B4 HK.2).c1⟩
 have X5:Hid (Wx {w4 with drawn:=w4.drawn+1} _ _ _ _ _ _ _ _ _ _):=X4;have B5:Hid (Below _ w {w4 with drawn:=w4.drawn+1}):=B4.drew;have Z5:Hid (Wx {w4 with drawn:=w4.drawn+1} _ _ _ _ _ _ _ _ _ _):=Z4;have S5:Hid (w.heap.size+2<=({w4 with drawn:=w4.drawn+1}:World).heap.size):=S4;have D5:Hid (Below w4.heap.size w4 {w4 with drawn:=w4.drawn+1}):=aB.drew;generalize ({w4 with drawn:=w4.drawn+1}:World)=w5 at *;have O5:Hid (Ow w5 (w.heap.size+2) (slice a1 W.gs.length b1) W.gs/\Ow w5 (w.heap.size+2) (slice a2 W.os.length b2) W.os/\Ow w5 (w.heap.size+2) (slice a3 W.gold.length b3) W.gold/\fD w5 (w.heap.size+2) (slice a4 W.us.length b4) W.us/\fB w5 (w.heap.size+2) (slice a5 W.qs.length b5) W.qs):=
  ⟨O4.1.below D5,O4.2.1.below D5,O4.2.2.1.below D5,O4.2.2.2.1.below D5,O4.2.2.2.2.below D5⟩
 clear X4 B4 Z4 S4 O4 D5;refine au rfl (.pointer (some ⟨w.heap.size,7,none⟩)) (by go_simp) (λV hV=>by go_simp) ?_;go_simp;refine au rfl (slice a4 W.us.length b4) (by go_simp) (λV hV=>by obtain⟨f7,f1,fk⟩:=hV;go_simp) ?_;go_simp;refine au rfl (.pointer (some ⟨w.heap.size,1,none⟩)) (by go_simp) (λV hV=>by go_simp) ?_;go_simp;refine au rfl (int i64 W.next) (by go_simp) (λV hV=>by obtain⟨f7,f1,fk⟩:=hV;go_simp) ?_;go_simp;refine au rfl (int i64 pl) (by go_simp) (λV hV=>by go_simp) ?_;go_simp;refine au rfl (int i64 (kn:Nat)) (by go_simp) (λV hV=>by go_simp) ?_;go_simp;refine au rfl (int i64 at_) (by go_simp) (λV hV=>by go_simp) ?_;go_simp;refine au rfl (slice (some xk) ks.length qk) (by go_simp) (λV hV=>by go_simp) ?_;go_simp;refine au rfl (int i64 (kn:Nat)) (by go_simp) (λV hV=>by go_simp) ?_;go_simp;refine au rfl (.pointer (some (xk.add (kn*11)))) (by go_simp) (λV hV=>by go_simp) ?_;go_simp;refine au rfl (.pointer (some ⟨(xk.add (kn*11)).block,(xk.add (kn*11)).off+1,none⟩)) (by go_simp) (λV hV=>by go_simp) ?_;go_simp;refine au rfl (int i64 k.n0) (by go_simp) (λV hV=>by obtain⟨f7,f1,fk⟩:=hV;go_simp) ?_;go_simp;refine au rfl (.agg #[int i64 W.next,int i64 pl,int i64 (kn:Nat),int i64 at_,int i64 k.n0,int i64 0,int i64 0,int i64 0]) (by go_simp) (λV hV=>by go_simp) ?_;go_simp;have CL:Hid (∀V,Wx V w.heap.size (int i64 W.turn) (int i64 W.next) (int i64 W.wide) (int i64 W.high) (slice a1 W.gs.length b1) (slice a2 W.os.length b2) (slice a3 W.gold.length b3) (slice a4 W.us.length b4) (slice a5 W.qs.length b5)->Below w.heap.size w V->V.cell? ⟨w.heap.size,7,none⟩=some (slice a4 W.us.length b4)/\V.cell? ⟨w.heap.size,1,none⟩=some (int i64 W.next)/\V.cell? ⟨(xk.add (kn*11)).block,(xk.add (kn*11)).off+1,none⟩=some (int i64 k.n0)):=λV hX hB=>by
  obtain⟨-,x1,-,-,-,-,-,x7,-⟩:=hX.cells;exact⟨x7,x1,(HK.1.below hB HK.2).c1⟩
 have BA:Hid (Below _ w5 (w5.alloc (.cells #[int i64 W.next,int i64 pl,int i64 (kn:Nat),int i64 at_,int i64 k.n0,int i64 0,int i64 0,int i64 0] 74))):=aA;have SA:Hid ((w5.alloc (.cells #[int i64 W.next,int i64 pl,int i64 (kn:Nat),int i64 at_,int i64 k.n0,int i64 0,int i64 0,int i64 0] 74)).heap.size=w5.heap.size+1):=by unfold Hid;simp
 have UA:Hid (fA (w5.alloc (.cells #[.int _ W.next,.int _ pl,.int _ (kn:Nat),.int _ at_,.int _ k.n0,.int _ 0,.int _ 0,.int _ 0] 74)) _ _):=fA.mk' (⟨W.next,pl,(kn:Nat),at_,k.n0,0,0,0⟩:aI) rfl;have OA:Hid (fD (w5.alloc (.cells #[int i64 W.next,int i64 pl,int i64 (kn:Nat),int i64 at_,int i64 k.n0,int i64 0,int i64 0,int i64 0] 74)) _ _ _):=O5.2.2.2.1.alloc _;have XA:=aj (X5.below BA X5.lt);have BB:=aG B5 BA;refine fF rfl (slice (some ⟨w5.heap.size,0,none⟩) 1 1) (w5.alloc (.cells #[int i64 W.next,int i64 pl,int i64 (kn:Nat),int i64 at_,int i64 k.n0,int i64 0,int i64 0,int i64 0] 74)) (by go_simp) (by go_simp) (CL _ XA BB) ?_;go_simp;generalize (w5.alloc _)=wa at *;obtain⟨i0,hi,hz0,hz1,hz2⟩:=info_parts yU;obtain⟨g,cap,w6,hr,ho6,hg6,ha6,hl6⟩:=run_append_lies (P:=prog) wa 26 26 (w.heap.size+2) 74 i0 _ 8 64 underlying26 hi hz0 hz1 hz2 rfl (by decide) (slice a4 W.us.length b4) W.us.length _ OA ⟨w5.heap.size,0,none⟩ 1 1 (aI.cs (⟨W.next,pl,(kn:Nat),at_,k.n0,0,0,0⟩:aI)) rfl (λj u hj=>by
  have hd:=UA.out;have hjn:j<8:=(aK.1 hj).1;rw[Addr.add_lit,aO]
  match j,hjn,hj with
  |0,_,hj=>simp[aI.cs] at hj;subst hj;exact hd.c0
  |1,_,hj=>simp[aI.cs] at hj;subst hj;exact hd.c1
  |2,_,hj=>simp[aI.cs] at hj;subst hj;exact hd.c2
  |3,_,hj=>simp[aI.cs] at hj;subst hj;exact hd.c3
  |4,_,hj=>simp[aI.cs] at hj;subst hj;exact hd.c4
  |5,_,hj=>simp[aI.cs] at hj;subst hj;exact hd.c5
  |6,_,hj=>simp[aI.cs] at hj;subst hj;exact hd.c6
  |7,_,hj=>simp[aI.cs] at hj;subst hj;exact hd.c7) (λu hu=>by
  simp[aI.cs] at hu;rcases hu with rfl|rfl|rfl|rfl|rfl|rfl|rfl|rfl<;>rfl) (by decide) (by have:=L40.out;unfold maxLen;omega) (by have:=L40.out;omega) (by have:=S5.out;have:=SA.out;omega) _ rfl
 have ON:Hid (fD w6 (w.heap.size+2) (slice (some ⟨g,0,none⟩) (W.us.length+1) cap) (W.us++[(⟨W.next,pl,(kn:Nat),at_,k.n0,0,0,0⟩:aI)])):=by
  unfold Hid fD;rw[aC,fM];simpa using ho6
 have GB:Hid (∀b,((slice a4 W.us.length b4):Value).ownBlock=some b->w.heap.size+2<=b):=λb hb=>(OA.block b hb).1
 have BG:=aj (aB.grown hg6 (by have:=S5.out;have:=SA.out;omega) (λb hb=>GB b hb));have X6:=aj (XA.below BG (by omega));have Z6:=aj ((Z5.below BA Z5.lt).below BG (by omega));have B6:=aj (BB.trans (BG.mono (by omega)));refine fF rfl _ w6 (by go_simp) (jO _ _ _ _ rfl _ _ (by go_simp) (by go_simp) hr) (CL _ X6 B6) ?_;have S6:Hid (w.heap.size+2<=w6.heap.size):=by have:=S5.out;have:=SA.out;have:=BG.size;unfold Hid;omega
 have N1:=aj (((O5.1).below BA).kept hg6 DD.1.ne);have N2:=aj (((O5.2.1).below BA).kept hg6 DD.2.1.ne);have N3:=aj (((O5.2.2.1).below BA).kept hg6 DD.2.2.1.ne);have N5:=aj (((O5.2.2.2.2).below BA).kept hg6 DD.2.2.2.ne);clear hr ho6 hg6 ha6 hl6 hi hz0 hz1 hz2 BG GB OA UA XA BB BA X5 Z5 S5 B5 O5 CL SA DD;go_simp;unfold dw;refine aW rfl (.pointer (some ⟨w.heap.size,7,none⟩)) w6 (by go_simp) (by go_simp) trivial ?_;go_simp;have K7:Hid (Kp _ w6 (w6.setCell ⟨w.heap.size,7,none⟩ (slice (some ⟨g,0,none⟩) (W.us.length+1) cap))):=Kp.set _ _ _;have X7:Hid (Wx _ _ _ _ _ _ _ _ _ (slice (some ⟨g,0,none⟩) (W.us.length+1) cap) _):=X6.Bj _;have t7:=X6.thaw 7;obtain⟨-,-,-,-,-,-,-,x7,-⟩:=X6.cells;refine iH rfl (w6.setCell ⟨w.heap.size,7,none⟩ (slice (some ⟨g,0,none⟩) (W.us.length+1) cap)) (by go_simp) (by go_simp) trivial ?_;go_simp;clear t7 x7;generalize (w6.setCell _ _)=w7 at *;have B7:=aj (K7.below B6 B6.size aN);have Z7:=aj (Z6.kp K7 (by omega));have S7:=aj (aJ S6 K7.size);have M:Hid (Ow w7 (w.heap.size+2) (slice a1 W.gs.length b1) W.gs/\Ow w7 (w.heap.size+2) (slice a2 W.os.length b2) W.os/\Ow w7 (w.heap.size+2) (slice a3 W.gold.length b3) W.gold/\fD w7 (w.heap.size+2) (slice (some ⟨g,0,none⟩) (W.us.length+1) cap) (W.us++[(⟨W.next,pl,(kn:Nat),at_,k.n0,0,0,0⟩:aI)])/\fB w7 (w.heap.size+2) (slice a5 W.qs.length b5) W.qs):=
  ⟨N1.kp K7 (by omega),N2.kp K7 (by omega),N3.kp K7 (by omega),ON.kp K7 (by omega),N5.kp K7 (by omega)⟩
 clear K7 B6 Z6 S6 N1 N2 N3 N5 ON X6;unfold bC;have wn:IntKind.i64.wrap (W.next+1)=W.next+1:=by rw[IntKind.wrap_i64];omega
 have K8:Hid (Kp _ w7 (w7.setCell ⟨w.heap.size,1,none⟩ (int i64 (W.next+1)))):=Kp.set _ _ _;have X8:Hid (Wx _ _ _ (int i64 (W.next+1)) _ _ _ _ _ _ _):=X7.set1 _;have t1:=X7.thaw 1;obtain⟨-,x1,-,-,-,-,-,-,-⟩:=X7.cells;go_upto_region 10 with fail
 clear t1 x1 wn;generalize (w7.setCell _ _)=w8 at *;have B8:=aj (K8.below B7 B7.size aN);have Z8:=aj (Z7.kp K8 (by omega));have S8:=aj (aJ S7 K8.size);have M8:Hid (Ow w8 (w.heap.size+2) (slice a1 W.gs.length b1) W.gs/\Ow w8 (w.heap.size+2) (slice a2 W.os.length b2) W.os/\Ow w8 (w.heap.size+2) (slice a3 W.gold.length b3) W.gold/\fD w8 (w.heap.size+2) (slice (some ⟨g,0,none⟩) (W.us.length+1) cap) (W.us++[(⟨W.next,pl,(kn:Nat),at_,k.n0,0,0,0⟩:aI)])/\fB w8 (w.heap.size+2) (slice a5 W.qs.length b5) W.qs):=
  ⟨M.1.kp K8 (by omega),M.2.1.kp K8 (by omega),M.2.2.1.kp K8 (by omega),M.2.2.2.1.kp K8 (by omega),M.2.2.2.2.kp K8 (by omega)⟩
 clear K8 B7 Z7 S7 M X7;obtain⟨x0,x1,x2,x3,x4,x5,x6,x7,x8⟩:=X8.cells;have zz:=Z8.cells;obtain⟨t0,t1,t2,t3,t4,t5,t6,t7,t8⟩:=Z8.cO;have KZ:=aj (dG w8 (w.heap.size+1) (int i64 W.turn) (int i64 (W.next+1)) (int i64 W.wide) (int i64 W.high) (slice a1 W.gs.length b1) (slice a2 W.os.length b2) (slice a3 W.gold.length b3) (slice (some ⟨g,0,none⟩) (W.us.length+1) cap) (slice a5 W.qs.length b5));have yy:=(Z8.put (int i64 W.turn) (int i64 (W.next+1)) (int i64 W.wide) (int i64 W.high) (slice a1 W.gs.length b1) (slice a2 W.os.length b2) (slice a3 W.gold.length b3) (slice (some ⟨g,0,none⟩) (W.us.length+1) cap) (slice a5 W.qs.length b5)).cells;go_wp2;clear x0 x1 x2 x3 x4 x5 x6 x7 x8 zz t0 t1 t2 t3 t4 t5 t6 t7 t8;generalize World.setCell _ ⟨_,8,none⟩ _=w9 at *;refine bodyPost_ret (v:=.tuple #[.agg #[int i64 W.turn,int i64 (W.next+1),int i64 W.wide,int i64 W.high,slice a1 W.gs.length b1,slice a2 W.os.length b2,slice a3 W.gold.length b3,slice (some ⟨g,0,none⟩) (W.us.length+1) cap,slice a5 W.qs.length b5],.nilIface]) (by simp[results,results39,go_sem,yy]) rfl ⟨_,_,rfl,by rw[P0.out];exact Er.nil,?_,KZ.below B8 B8.size (by omega)⟩;rw[oD P0.out];unfold Wd.put;rw[NU.out];exact⟨_,_,_,_,_,rfl,(M8.1.kp KZ (by omega)).mono (by omega),(M8.2.1.kp KZ (by omega)).mono (by omega),(M8.2.2.1.kp KZ (by omega)).mono (by omega),(M8.2.2.2.1.kp KZ (by omega)).mono (by omega),(M8.2.2.2.2.kp KZ (by omega)).mono (by omega)⟩
theorem T_(vk vw:Value)(ks:List KV)(Y:WV)(j:bM)(w:World)(hk:Kl w vk ks)(hb:∀k∈ks,k.b.size<=9223372036854775807)(hw:Wl w vw Y)(hr:Wd.aP ks Y=0)(hs:Sd w):
  Calls prog 106 #[vk,vw,j.val] w λe w'=>∃u r Z,e=.returned (.tuple #[u,r])/\Wo w' w.heap.size u Z/\Below w.heap.size w w'/\((∃c,Comes ks Y j c/\r=.nilIface/\Z=Wd.put ks Y j.ay j.kind c)\/(pU ks Y j/\∃n:Int,n≠0/\r=.iface 85 (int i64 n))):=by
 have K:Hid (Kl w vk ks/\∀k∈ks,k.b.size<=9223372036854775807):=⟨hk,hb⟩;have H:Hid (Wl w vw Y/\Wd.aP ks Y=0/\Sd w):=⟨hw,hr,hs⟩;obtain⟨p1,q1,p2,q2,p3,q3,p4,q4,p5,q5,rfl⟩:=aX hw;obtain⟨pk,qk,rfl,ck1,ck2,kc⟩:=hk;clear hb hw kc hr hs;unfold bM.val;go_enter func106,ntmps106;go_upto_region 1 with fail
 obtain⟨z,hz⟩:∃z,w.heap.size=z:=⟨_,rfl⟩;have HZ:=aj (hz);have z1:(w.alloc (Obj.cells #[int i64 Y.turn,int i64 Y.next,int i64 Y.wide,int i64 Y.high,slice p1 Y.gs.length q1,slice p2 Y.os.length q2,slice p3 Y.gold.length q3,slice p4 Y.us.length q4,slice p5 Y.qs.length q5] 29)).heap.size=z+1:=by rw[<-hz];simp
 have z2:((w.alloc (Obj.cells #[int i64 Y.turn,int i64 Y.next,int i64 Y.wide,int i64 Y.high,slice p1 Y.gs.length q1,slice p2 Y.os.length q2,slice p3 Y.gold.length q3,slice p4 Y.us.length q4,slice p5 Y.qs.length q5] 29)).alloc (Obj.cells #[int i64 j.ay,int i64 j.unit,int i64 j.kind,int i64 j.left] 93)).heap.size=z+2:=by rw[<-hz];simp
 have X0:Hid (Wx (((w.alloc (Obj.cells #[int i64 Y.turn,int i64 Y.next,int i64 Y.wide,int i64 Y.high,slice p1 Y.gs.length q1,slice p2 Y.os.length q2,slice p3 Y.gold.length q3,slice p4 Y.us.length q4,slice p5 Y.qs.length q5] 29)).alloc (Obj.cells #[int i64 j.ay,int i64 j.unit,int i64 j.kind,int i64 j.left] 93)).alloc (Obj.cells #[int i64 0,int i64 0,int i64 0,int i64 0,slice none 0 0,slice none 0 0,slice none 0 0,slice none 0 0,slice none 0 0] 29)) z (int i64 Y.turn) (int i64 Y.next) (int i64 Y.wide) (int i64 Y.high) (slice p1 Y.gs.length q1) (slice p2 Y.os.length q2) (slice p3 Y.gold.length q3) (slice p4 Y.us.length q4) (slice p5 Y.qs.length q5)):=((Wx.new (w:=w) (int i64 Y.turn) (int i64 Y.next) (int i64 Y.wide) (int i64 Y.high) (slice p1 Y.gs.length q1) (slice p2 Y.os.length q2) (slice p3 Y.gold.length q3) (slice p4 Y.us.length q4) (slice p5 Y.qs.length q5) hz).below aA (Wx.new (w:=w) (int i64 Y.turn) (int i64 Y.next) (int i64 Y.wide) (int i64 Y.high) (slice p1 Y.gs.length q1) (slice p2 Y.os.length q2) (slice p3 Y.gold.length q3) (slice p4 Y.us.length q4) (slice p5 Y.qs.length q5) hz).lt).below aA (by rw[z2];omega);have J0:Hid (nI (((w.alloc _).alloc _).alloc (Obj.cells #[int i64 0,int i64 0,int i64 0,int i64 0,slice none 0 0,slice none 0 0,slice none 0 0,slice none 0 0,slice none 0 0] 29)) _ j):=(nI.mk' j z1).below aA (nI.mk' j z1).lt;have Z0:=aj (Wx.new (w:=((w.alloc (Obj.cells #[int i64 Y.turn,int i64 Y.next,int i64 Y.wide,int i64 Y.high,slice p1 Y.gs.length q1,slice p2 Y.os.length q2,slice p3 Y.gold.length q3,slice p4 Y.us.length q4,slice p5 Y.qs.length q5] 29)).alloc (Obj.cells #[int i64 j.ay,int i64 j.unit,int i64 j.kind,int i64 j.left] 93))) (int i64 0) (int i64 0) (int i64 0) (int i64 0) (slice none 0 0) (slice none 0 0) (slice none 0 0) (slice none 0 0) (slice none 0 0) z2);have B0:Hid (Below w.heap.size w (((w.alloc (Obj.cells #[int i64 Y.turn,int i64 Y.next,int i64 Y.wide,int i64 Y.high,slice p1 Y.gs.length q1,slice p2 Y.os.length q2,slice p3 Y.gold.length q3,slice p4 Y.us.length q4,slice p5 Y.qs.length q5] 29)).alloc (Obj.cells #[int i64 j.ay,int i64 j.unit,int i64 j.kind,int i64 j.left] 93)).alloc (Obj.cells #[int i64 0,int i64 0,int i64 0,int i64 0,slice none 0 0,slice none 0 0,slice none 0 0,slice none 0 0,slice none 0 0] 29))):=(aA.alloc (by simp) _).alloc (by simp;omega) _;rw[hz];clear hz z1 z2;generalize (((w.alloc _).alloc _).alloc _)=w0 at *;have xx:=X0.cells;obtain⟨j0,j1,j2,j3⟩:=J0.out;go_wp2_with fail
 refine(QY _ _ ks Y _ _ w0 (K.1.below B0) K.2 (H.1.below B0) (H.2.2.below B0)).mono ?_;rintro e w1 ⟨c,r,F,rfl,hr,hs,hb⟩;have SS:=aj (hs);have B1:=aG B0 hb;have X1:=aj (X0.below hb X0.lt);have J1:=aj (J0.below hb J0.lt);have Z1:=aj (Z0.below hb Z0.lt);clear hb hs xx j0 j1 j2 j3 X0 J0 Z0 B0;rcases hr with⟨rfl,rfl⟩|⟨hf,rfl⟩
 case inr=>
  have HF:=aj (hf);clear hf;obtain⟨z0,z1,z2,z3,z4,z5,z6,z7,z8⟩:=Z1.cells;have tt:=Z1.cO;have KZ:=aj (fH w1 (z+2));have yy:=(Z1.nJ).cells;go_wp2;clear z0 z1 z2 z3 z4 z5 z6 z7 z8 tt;generalize World.setCell _ ⟨_,8,none⟩ _=w2 at *;refine bodyPost_ret (by simp[results,results106,go_sem,yy]) rfl ⟨_,_,WV.zero,rfl,oG _ _,?_,.inr ⟨⟨c,F,SS,.inl HF⟩,F,HF,rfl⟩⟩;exact KZ.below B1 B1.size (by have:=HZ.out;omega)
 have xx:=X1.cells;obtain⟨j0,j1,j2,j3⟩:=J1.out;go_wp2_with fail
 refine(rZ _ _ ks Y _ _ c w1 (K.1.below B1) K.2 (H.1.below B1)).mono ?_;rintro e w2 ⟨u,r,rfl,hr,hu,hb⟩;have PF:Hid (Wd.fV ks Y j.ay j.kind c=Wd.bV ks Y j.ay j.kind c):=by unfold Hid Wd.fV;rw[if_pos H.out.2.1]
 rw[PF.out] at hr;have B2:=aG B1 hb;have X2:=aj (X1.below hb X1.lt);have J2:=aj (J1.below hb J1.lt);have Z2:=aj (Z1.below hb Z1.lt);have U2:=aj (hu);have S1:=aj (Z1.lt);obtain⟨Z,hZ⟩:∃Z,Wd.placed ks Y j.ay j.kind c=Z:=⟨_,rfl⟩;have HP:=aj (hZ);rw[hZ] at U2 hu;obtain⟨k1,k2,k3,k4,k5,rfl,o1,o2,o3,o4,o5⟩:=hu;obtain⟨a1,r1,rfl⟩:=o1.len;obtain⟨a2,r2,rfl⟩:=o2.len;obtain⟨a3,r3,rfl⟩:=o3.len;obtain⟨a4,r4,rfl⟩:=o4.len;obtain⟨a5,r5,rfl⟩:=o5.len;have OO:=aj (iJ o1 o2 o3 o4 o5);have ND:Hid (((∃c,Comes ks Y j c/\r=.nilIface/\Z=Wd.put ks Y j.ay j.kind c)\/(pU ks Y j/\∃n:Int,n≠0/\r=.iface 85 (int i64 n)))):=by
  unfold Hid;rcases hr with⟨h0,rfl⟩|⟨h0,rfl⟩
  ·exact .inl ⟨c,⟨SS,h0⟩,rfl,by rw[<-HP.out,oD (by rw[PF.out];exact h0)]⟩
  ·exact .inr ⟨⟨c,0,SS,.inr h0⟩,_,h0,rfl⟩
 clear hb hr hZ o1 o2 o3 o4 o5 xx j0 j1 j2 j3 X1 J1 Z1 B1 U2 HP PF SS;obtain⟨z0,z1,z2,z3,z4,z5,z6,z7,z8⟩:=Z2.cells;have tt:=Z2.cO;have KZ:=aj (dG w2 (z+2) (int i64 Z.turn) (int i64 Z.next) (int i64 Z.wide) (int i64 Z.high) (slice a1 Z.gs.length r1) (slice a2 Z.os.length r2) (slice a3 Z.gold.length r3) (slice a4 Z.us.length r4) (slice a5 Z.qs.length r5));have yy:=(Z2.put (int i64 Z.turn) (int i64 Z.next) (int i64 Z.wide) (int i64 Z.high) (slice a1 Z.gs.length r1) (slice a2 Z.os.length r2) (slice a3 Z.gold.length r3) (slice a4 Z.us.length r4) (slice a5 Z.qs.length r5)).cells;go_wp2;clear z0 z1 z2 z3 z4 z5 z6 z7 z8 tt;generalize World.setCell _ ⟨_,8,none⟩ _=w3 at *;have h1:=S1.out;have h2:=HZ.out;refine bodyPost_ret (by simp[results,results106,go_sem,yy]) rfl ⟨_,_,Z,rfl,⟨_,_,_,_,_,rfl,(OO.1.kp KZ (by omega)).mono (by omega),(OO.2.1.kp KZ (by omega)).mono (by omega),(OO.2.2.1.kp KZ (by omega)).mono (by omega),(OO.2.2.2.1.kp KZ (by omega)).mono (by omega),(OO.2.2.2.2.kp KZ (by omega)).mono (by omega)⟩,?_,ND⟩;exact KZ.below B2 B2.size (by omega)
theorem aaB(h:bH ks X)(hj:j∈X.qs):(1<=j.left/\j.left<=1000)/\1<=j.unit/\j.unit<=1000000:=by
 have hf:=h.job hj;unfold Wd.aY at hf;split at hf
 ·cases hf
 ·rename_i u hu
  split at hf
  ·cases hf
  ·split at hf
   ·cases hf
   ·split at hf
    ·cases hf
    ·rename_i k hk h1 h2
     simp only[Bool.or_eq_true,Bool.not_eq_true',decide_eq_false_iff_not,not_or,Classical.not_not,Bool.not_eq_false] at h2;refine⟨h2.2,?_⟩;have hm:=List.mem_of_find?_eq_some hu;have he:=List.find?_some hu;simp at he;obtain⟨i,hi⟩:=List.mem_iff_getElem?.1 hm;obtain⟨k',F⟩:=h.fine hi;have h3:=F.id1;have h4:=F.id2;have h5:=h.nums;unfold Wd.b_ at h5;simp only[Bool.or_eq_false_iff] at h5;have h6:=h5.2.1;unfold Wd.off at h6;simp at h6;omega
theorem oK(l:List bM)(j:bM):(pR l j).ay=j.ay/\(pR l j).unit=j.unit/\(pR l j).kind=j.kind/\one1 (pR l j)=one1 j:=by
 unfold pR one1;split<;>exact⟨rfl,rfl,rfl,rfl⟩
theorem NI{l:List bM}{c:Int}(h:Comes ks Y (pR l j) c):Comes ks Y j c:=by
 obtain⟨e1,e2,e3,-⟩:=oK l j;unfold Comes at h ⊢;rw[e1,e2,e3] at h;exact h
theorem Iq{l:List bM}(h:pU ks Y (pR l j)):pU ks Y j:=by
 obtain⟨e1,e2,e3,-⟩:=oK l j;unfold pU at h ⊢;rw[e1,e2,e3] at h;exact h
def NJ(ks:List KV)(X:WV)(w w':World)(v ev:Value):Prop:=
 (Wd.aP ks X≠0/\v=.agg #[int i64 0,int i64 0,int i64 0,int i64 0,slice none 0 0,slice none 0 0,slice none 0 0,slice none 0 0,slice none 0 0]/\ev=slice none 0 0)
 \/(Wd.aP ks X=0/\∃Y es qs,Tr ks X X.qs.length Y es qs/\Wo w' w.heap.size v {Y with qs:=qs}/\ig w' w.heap.size ev es)
theorem NP(vk vw:Value)(ks:List KV)(X:WV)(w:World)(hk:Kl w vk ks)(hb:∀k∈ks,k.b.size<=9223372036854775807)(hw:Wl w vw X)(hs:Sd w):
  Calls prog 58 #[vk,vw] w λe w'=>∃v ev r,e=.returned (.tuple #[v,ev,r])/\Er r (Wd.aP ks X)/\NJ ks X w w' v ev/\Below w.heap.size w w':=by
 have K:Hid (Kl w vk ks/\∀k∈ks,k.b.size<=9223372036854775807):=⟨hk,hb⟩;have H:=aj (hw);have SD:=aj (hs);clear hs;obtain⟨p1,q1,p2,q2,p3,q3,p4,q4,p5,q5,rfl⟩:=aX hw;obtain⟨pk,qk,rfl,ck1,ck2,kc⟩:=hk;clear hb hw kc;go_enter func58,ntmps58;go_upto_region 1 with fail
 have B0:Hid (Below _ w ((w.alloc (Obj.cells #[int i64 X.turn,int i64 X.next,int i64 X.wide,int i64 X.high,slice p1 X.gs.length q1,slice p2 X.os.length q2,slice p3 X.gold.length q3,slice p4 X.us.length q4,slice p5 X.qs.length q5] 29)).alloc (Obj.cells #[int i64 0,int i64 0,int i64 0,int i64 0,slice none 0 0,slice none 0 0,slice none 0 0,slice none 0 0,slice none 0 0] 29))):=aA.alloc (by simp) _;have X0:Hid (Wx ((w.alloc _).alloc (Obj.cells #[int i64 0,int i64 0,int i64 0,int i64 0,slice none 0 0,slice none 0 0,slice none 0 0,slice none 0 0,slice none 0 0] 29)) _ _ _ _ _ _ _ _ _ _):=(Wx.new (int i64 X.turn) (int i64 X.next) (int i64 X.wide) (int i64 X.high) (slice p1 X.gs.length q1) (slice p2 X.os.length q2) (slice p3 X.gold.length q3) (slice p4 X.us.length q4) (slice p5 X.qs.length q5) rfl).below aA (by simp);have Z0:Hid (Wx ((w.alloc (Obj.cells #[int i64 X.turn,int i64 X.next,int i64 X.wide,int i64 X.high,slice p1 X.gs.length q1,slice p2 X.os.length q2,slice p3 X.gold.length q3,slice p4 X.us.length q4,slice p5 X.qs.length q5] 29)).alloc _) (w.heap.size+1) _ _ _ _ _ _ _ _ _):=Wx.new (int i64 0) (int i64 0) (int i64 0) (int i64 0) (slice none 0 0) (slice none 0 0) (slice none 0 0) (slice none 0 0) (slice none 0 0) (by simp);generalize ((w.alloc _).alloc _)=w0 at *;obtain⟨x0,x1,x2,x3,x4,x5,x6,x7,x8⟩:=X0.cells;go_wp2_with fail
 refine(gY _ _ ks X w0 (K.1.below B0) K.2 (H.below B0)).mono ?_;rintro e w1 ⟨r,rfl,hr,hb⟩;obtain⟨fw,hfw⟩:∃f,Wd.aP ks X=f:=⟨_,rfl⟩;have FW:=aj (hfw);rw[hfw] at hr;have B1:=aG B0 hb;have X1:=aj (X0.below hb X0.lt);have Z1:=aj (Z0.below hb Z0.lt);clear hb hfw x0 x1 x2 x3 x4 x5 x6 x7 x8 X0 B0 Z0;rcases hr with⟨rfl,rfl⟩|⟨hf,rfl⟩
 case inr=>
  have HF:=aj (hf);clear hf;have zz:=Z1.cells;obtain⟨t0,t1,t2,t3,t4,t5,t6,t7,t8⟩:=Z1.cO;have KZ:=aj (fH w1 (w.heap.size+1));obtain⟨y0,y1,y2,y3,y4,y5,y6,y7,y8⟩:=(Z1.nJ).cells;go_wp2;clear zz t0 t1 t2 t3 t4 t5 t6 t7 t8;generalize World.setCell _ ⟨_,8,none⟩ _=w9 at *;refine bodyPost_ret (v:=.tuple #[.agg _,slice none 0 0,.iface 85 (int i64 fw)]) (by simp[results,results58,go_sem,y0,y1,y2,y3,y4,y5,y6,y7,y8]) rfl ⟨_,_,_,rfl,by rw[FW.out];exact Er.no HF,.inl ⟨by rw[FW.out];exact HF,rfl,rfl⟩,KZ.below B1 B1.size (by omega)⟩
 have WR:=aj (bY FW);obtain⟨Wn,Hn,e1,e2,G⟩:=WR.good;clear e1 e2 G;obtain⟨x0,x1,x2,x3,x4,x5,x6,x7,x8⟩:=X1.cells;go_wp2_with fail
 refine(jo _ X w1 (H.below B1) WR.len).mono ?_;rintro e w2 ⟨cu,rfl,⟨k1,k2,k3,k4,k5,rfl,⟨o1,o2,o3,o4,o5⟩,-⟩,hb⟩;obtain⟨a1,r1,rfl⟩:=o1.len;obtain⟨a2,r2,rfl⟩:=o2.len;obtain⟨a3,r3,rfl⟩:=o3.len;obtain⟨a4,r4,rfl⟩:=o4.len;obtain⟨a5,r5,rfl⟩:=o5.len;obtain⟨b1,hb1⟩:∃z,w1.heap.size=z:=⟨_,rfl⟩;rw[hb1] at o1 o2 o3 o4 o5;have BS:Hid (w.heap.size+1<b1/\b1<=w2.heap.size):=⟨by rw[<-hb1];exact Z1.lt,by rw[<-hb1];exact hb.size⟩;have X2:=aj (X1.below hb X1.lt);have Z2:=aj (Z1.below hb Z1.lt);have B2:=aG B1 hb;have O2:=aj (iJ o1 o2 o3 o4 o5)
 skip
 clear hb hb1 x0 x1 x2 x3 x4 x5 x6 x7 x8 o1 o2 o3 o4 o5 X1 Z1 B1;have zz:=X2.cells;obtain⟨t0,t1,t2,t3,t4,t5,t6,t7,t8⟩:=X2.cO;have KZ:=aj (dG w2 w.heap.size (int i64 X.turn) (int i64 X.next) (int i64 X.wide) (int i64 X.high) (slice a1 X.gs.length r1) (slice a2 X.os.length r2) (slice a3 X.gold.length r3) (slice a4 X.us.length r4) (slice a5 X.qs.length r5));have X3:=aj (X2.put (int i64 X.turn) (int i64 X.next) (int i64 X.wide) (int i64 X.high) (slice a1 X.gs.length r1) (slice a2 X.os.length r2) (slice a3 X.gold.length r3) (slice a4 X.us.length r4) (slice a5 X.qs.length r5));go_upto_region 5 with fail
 clear zz t0 t1 t2 t3 t4 t5 t6 t7 t8;generalize World.setCell _ ⟨_,8,none⟩ _=w3 at *;have Z3:=aj (Z2.kp KZ (by omega));have B3:=aj (KZ.below B2 B2.size aN);have O3:Hid (Ow w3 b1 (slice a1 X.gs.length r1) X.gs/\Ow w3 b1 (slice a2 X.os.length r2) X.os/\Ow w3 b1 (slice a3 X.gold.length r3) X.gold/\fD w3 b1 (slice a4 X.us.length r4) X.us/\fB w3 b1 (slice a5 X.qs.length r5) X.qs):=by
  have h:=BS.out.1;exact⟨O2.1.kp KZ (by omega),O2.2.1.kp KZ (by omega),O2.2.2.1.kp KZ (by omega),O2.2.2.2.1.kp KZ (by omega),O2.2.2.2.2.kp KZ (by omega)⟩
 obtain⟨b3,hb3⟩:∃z,w3.heap.size=z:=⟨_,rfl⟩;have S3:Hid (b1<=b3/\w3.heap.size=b3):=⟨by rw[<-hb3];exact aJ BS.2 KZ.size,hb3⟩;have L3:Hid (Wl w3 (.agg #[int i64 X.turn,int i64 X.next,int i64 X.wide,int i64 X.high,slice a1 X.gs.length r1,slice a2 X.os.length r2,slice a3 X.gold.length r3,slice a4 X.us.length r4,slice a5 X.qs.length r5]) X):=⟨(slice a1 X.gs.length r1),(slice a2 X.os.length r2),(slice a3 X.gold.length r3),(slice a4 X.us.length r4),(slice a5 X.qs.length r5),rfl,O3.1.ro,O3.2.1.ro,O3.2.2.1.ro,O3.2.2.2.1.l,O3.2.2.2.2.l⟩;clear hb3 KZ X2 Z2 B2 O2;obtain⟨x0,x1,x2,x3,x4,x5,x6,x7,x8⟩:=X3.cells;clear x0 x1 x2 x3 x4 x5 x6 x7 x8;have N3:Hid (w.heap.size+1<b1/\b1<=b3/\w3.heap.size=b3):=⟨BS.1,S3.1,S3.2⟩;have B4:Hid (Below _ w3 ((w3.alloc (Obj.map #[] 0)).alloc (Obj.cells #[.map (some b3)] 166))):=aA.alloc (by simp) _;have M5:Hid (Im ((w3.alloc (Obj.map #[] 0)).alloc (Obj.cells #[.map (some b3)] 166)) b3 0 (λu=>((rV (X.qs.take 0) u:Nat):Int))):=by
  have h:=Yi w3;rw[N3.out.2.2] at h;exact h.below aA
 have C5:Hid (((w3.alloc (Obj.map #[] 0)).alloc (Obj.cells #[.map (some b3)] 166)).cell? ⟨b3+1,0,none⟩=some (.map (some b3))):=by
  unfold Hid;have:=N3.out.2.2;rw[<-this];simp
 have S5:Hid (((w3.alloc (Obj.map #[] 0)).alloc (Obj.cells #[.map (some b3)] 166)).heap.size=b3+2):=by have:=N3.out.2.2;unfold Hid;rw[<-this];simp
 have hb3:=N3.out.2.2;have hmm:=@run_makeMap prog;have x8:=(X3.below B4 X3.lt).cells.2.2.2.2.2.2.2.2;go_wp2_with fail
 clear hb3 hmm x8;have T5:Hid (∀w5,w5=(w3.alloc (Obj.map #[] 0)).alloc (Obj.cells #[.map (some b3)] 166)->tC X [] [] _ b1 b3 _ w5 _ _ _ _ _ _ _ w5):=λw5 e=>by
  subst e;have h1:=N3.out;refine⟨X3.below B4 X3.lt,O3.1.below B4,O3.2.1.below B4,O3.2.2.1.below B4,O3.2.2.2.1.below B4,O3.2.2.2.2.below B4,(λk _ h=>by cases h),(λx hx k hk=>.inl ?_),ig.nil _ _,fB.nil _ _,Fr.below aB,⟨by omega,h1.2.1,by omega,S5⟩⟩;simp only[bP,List.not_mem_nil,or_false] at hx;rcases hx with rfl|rfl|rfl|rfl|rfl
  ·have:=(O3.1.block k hk).2;omega
  ·have:=(O3.2.1.block k hk).2;omega
  ·have:=(O3.2.2.1.block k hk).2;omega
  ·have:=(O3.2.2.2.1.block k hk).2;omega
  ·have:=(O3.2.2.2.2.block k hk).2;omega
 have Z5:=aj (Z3.below B4 Z3.lt);have B5:=aG B3 B4;have J5:Hid (fB ((w3.alloc (Obj.map #[] 0)).alloc (Obj.cells #[.map (some b3)] 166)) b1 (slice a5 X.qs.length r5) X.qs/\∀k,(slice a5 X.qs.length r5).ownBlock=some k->b1<=k/\k<b3):=⟨O3.2.2.2.2.below B4,λk hk=>by have:=O3.2.2.2.2.block k hk;have:=N3.out;omega⟩;obtain⟨w5,hw5⟩:∃w5,((w3.alloc (Obj.map #[] 0)).alloc (Obj.cells #[.map (some b3)] 166))=w5:=⟨_,rfl⟩;have T6:=aj (T5 w5 hw5.symm);rw[hw5] at M5 C5 S5 Z5 B5 J5 ⊢;clear hw5 T5 B4 X3 Z3 B3 O3 L3;have QN:=aj (WR.ql);go_loopw [10,11,31] (λv10 v11 j V=>∃q:Nat,q<=X.qs.length/\j=int i64 (q:Nat)/\∃Y es qs,Tr ks X q Y es qs/\∃u1 u2 u3 u4 u5 ev qv,ev=v10/\qv=v11/\tC Y es qs w.heap.size b1 b3 (b3+2) w5 u1 u2 u3 u4 u5 ev qv V/\Im V b3 q (λu=>((rV (X.qs.take q) u:Nat):Int))) (λ_ _ j _=>X.qs.length-(intOf j).toNat)
 case atStart=>exact⟨0,aZ _,rfl,X,[],[],.zero,_,_,_,_,_,_,_,rfl,rfl,T6,M5⟩
 case round=>
  obtain⟨q,hq,rfl,Y,es,qs,htr,u1,u2,u3,u4,u5,ev,qv,rfl,rfl,hT,hM⟩:=hrel;have TR:=aj (htr);have KP:=aj (htr.keep WR);have QL:Hid (qs.length<=12/\es.length<=12):=by have:=KP.out;have:=QN.out;unfold Hid;omega
  have TQ:=aj (hT);have MQ:=aj (hM);clear htr hT hM;have CW:=aj (TQ.f.cell C5 (λh=>by have:=N3.out;simp only at h;omega));have SW:Hid (b3+2<=wr.heap.size):=by have:=TQ.f.size;have:=S5.out;unfold Hid;omega
  have ZW:=aj (TQ.f.wx Z5 (λh=>by have:=N3.out;omega));have BW:=aj (B5.trans (TQ.f.low (by have:=B5.size;exact this) (λk hk=>by have:=N3.out;rcases hk with h|h<;>omega)));have JW:=aj (fB.l (TQ.f.own J5.1 (λk hk h=>by have h1:=J5.2 k hk;have h2:=N3.out;rcases h with h|h<;>omega):fB wr b1 (slice a5 X.qs.length r5) X.qs));by_cases hne:q=X.qs.length
  case pos=>
   have TE:Hid (Tr ks X X.qs.length Y es qs):=by rw[<-hne];exact TR
   subst hne;obtain⟨g1,c1,rfl⟩:=TQ.o1.len;obtain⟨g2,c2,rfl⟩:=TQ.o2.len;obtain⟨g3,c3,rfl⟩:=TQ.o3.len;obtain⟨g4,c4,rfl⟩:=TQ.o4.len;obtain⟨g6,c6,rfl⟩:=TQ.o.len;have XS:=TQ.x.Lu (slice g6 qs.length c6);have t8:=TQ.x.thaw 8;obtain⟨x0,x1,x2,x3,x4,x5,x6,x7,x8⟩:=TQ.x.cells;have KS:Hid (Kp _ wr (wr.setCell ⟨w.heap.size,8,none⟩ (slice g6 qs.length c6))):=Kp.set _ _ _;go_upto_region 24 with fail
   clear x0 x1 x2 x3 x4 x5 x6 x7 x8 t8;generalize wr.setCell _ _=ws at *;obtain⟨x0,x1,x2,x3,x4,x5,x6,x7,x8⟩:=XS.cells;have ZS:=aj (ZW.kp KS (by omega));have BS2:=aj (KS.below BW BW.size aN);have zz:=ZS.cells;obtain⟨t0,t1,t2,t3,t4,t5,t6,t7,t8⟩:=ZS.cO;have KZ:=aj (dG ws (w.heap.size+1) (int i64 Y.turn) (int i64 Y.next) (int i64 Y.wide) (int i64 Y.high) (slice g1 Y.gs.length c1) (slice g2 Y.os.length c2) (slice g3 Y.gold.length c3) (slice g4 Y.us.length c4) (slice g6 qs.length c6));obtain⟨y0,y1,y2,y3,y4,y5,y6,y7,y8⟩:=(ZS.put (int i64 Y.turn) (int i64 Y.next) (int i64 Y.wide) (int i64 Y.high) (slice g1 Y.gs.length c1) (slice g2 Y.os.length c2) (slice g3 Y.gold.length c3) (slice g4 Y.us.length c4) (slice g6 qs.length c6)).cells;go_wp2;clear x0 x1 x2 x3 x4 x5 x6 x7 x8 zz t0 t1 t2 t3 t4 t5 t6 t7 t8;generalize World.setCell _ ⟨_,8,none⟩ _=wt at *;have hn:=N3.out;have kp2:∀{T:TypeId} {size:Nat} {u:Value} {n:Nat} {cs:List Value} {base:Nat},b1<=base->wr.ownsRow base T size u n cs->wt.ownsRow base T size u n cs:=λhb h=>(Fr.kp KZ rfl).own ((Fr.kp KS rfl).own h (λk hk=>by have:=(World.ownsRow.lt h k hk).1;omega)) (λk hk=>by have:=(World.ownsRow.lt h k hk).1;omega)
   refine bodyPost_ret (v:=.tuple #[.agg #[int i64 Y.turn,int i64 Y.next,int i64 Y.wide,int i64 Y.high,slice g1 Y.gs.length c1,slice g2 Y.os.length c2,slice g3 Y.gold.length c3,slice g4 Y.us.length c4,slice g6 qs.length c6],ev,.nilIface]) (by simp[results,results58,go_sem,y0,y1,y2,y3,y4,y5,y6,y7,y8]) rfl ⟨_,_,_,rfl,by rw[FW.out];exact Er.nil,.inr ⟨FW,Y,es,qs,TE,?_,?_⟩,KZ.below BS2 BS2.size (by omega)⟩
   ·exact⟨_,_,_,_,_,rfl,Ow.mono (kp2 aN TQ.o1) (by omega),Ow.mono (kp2 aN TQ.o2) (by omega),Ow.mono (kp2 aN TQ.o3) (by omega),fD.mono (kp2 aN TQ.o4) (by omega),fB.mono (kp2 (by omega) TQ.o) (by omega)⟩
   ·exact ig.mono (kp2 (by omega) TQ.e) (by omega)
  case neg=>
  have Ak:q<X.qs.length:=by omega
  have hqi:((q:Nat):Int)<(X.qs.length:Nat):=by omega
  obtain⟨o,ho⟩:∃o,X.qs[q]? =some o:=⟨_,aH Ak⟩;have HO:=aj (ho);have JI:=aj (aaB WR (aT ho));obtain⟨a',c',e',-,-,hy⟩:=JW.out;injection e' with e1 e2 e3
  subst e1 e3;obtain⟨xj,rfl,hxl,hy⟩:=hy (by rintro hn;rw[hn] at Ak;simp at Ak);obtain⟨j0,j1,j2,j3⟩:=hy q o ho;clear hy hxl ho e2;go_upto_region 12 with fail
  clear j0 j1 j2 j3;have BJ:Hid (Below _ wr (wr.alloc (Obj.cells #[int i64 o.ay,int i64 o.unit,int i64 o.kind,int i64 o.left] 93))):=aA;obtain⟨bj,hbj⟩:∃b,wr.heap.size=b:=⟨_,rfl⟩;have JB6:=aj (nI.mk' (w:=wr) o hbj);have TH6:Hid (Jk (wr.alloc (Obj.cells #[int i64 o.ay,int i64 o.unit,int i64 o.kind,int i64 o.left] 93)) bj [o] []):=by
   unfold Hid Jk;rw[<-hbj];exact heap_alloc_new _ _
  have SJ:Hid (b3+2<=bj):=by rw[<-hbj];exact SW
  rw[hbj];have HBJ:=aj (hbj);have UN:Hid (∀x∈[u1,u2,u3,u4,u5,ev,qv],∀k,x.ownBlock=some k->k<bj):=by rw[<-hbj];exact TQ.under
  clear hbj;generalize wr.alloc _=w6 at *;have T7:=aj (TQ.below BJ);have M7:=aj (MQ.below BJ);have C7:Hid (w6.cell? ⟨b3+1,0,none⟩=some (.map (some b3))):=by unfold Hid;rw[BJ.out.cell (p:=⟨b3+1,0,none⟩) (cell_lt CW.out)];exact CW
  have CN:Hid (rV (X.qs.take q) o.unit<=q):=by
   unfold Hid rV;exact aJ List.countP_le_length (by rw[dP];omega)
  obtain⟨j0,j1,j2,j3⟩:=JB6.out;go_wp2_with fail
  refine(Dn o _ b3 q _ w6 C7 M7 (by omega) (by have:=QN.out;omega) (by have:=CN.out;have:=QN.out;omega) (Zg (by have:=JI.out;omega) (by have:=JI.out;omega))).mono ?_;rintro e w7 ⟨fb,hfb,rfl,hm,hf⟩;have FB:=aj (hfb);have F7:=aj (hf);have T8:=aj (T7.map hf);have M8:Hid (Im w7 b3 (q+1) (λu=>((rV (X.qs.take (q+1)) u:Nat):Int))):=by
   have e9:Io (λu=>((rV (X.qs.take q) u:Nat):Int)) o.unit (((rV (X.qs.take q) o.unit:Nat):Int)+1)=(λu=>((rV (X.qs.take (q+1)) u:Nat):Int)):=by
    funext u
    unfold Io;rw[LM HO.out u];by_cases h:u=o.unit
    ·rw[if_pos h,h,if_pos rfl];rfl
    ·rw[if_neg h,if_neg (λe=>h e.symm)];rfl
   rw[e9] at hm;exact hm
  have K8:Hid (Jk w7 bj [o] []):=(F7.block bj TH6.lt (by have:=SJ.out;omega)).trans TH6;clear hfb hm hf j0 j1 j2 j3 T7 M7 C7 JB6;obtain⟨d,hd⟩:∃d,pR (X.qs.take q) o=d:=⟨_,rfl⟩;have HD:=aj (hd);clear hd;go_upto_if 37 with fail
  go_cut [37] (λv37 V=>v37=.bool fb/\Jk V bj [d] []/\tC Y es qs w.heap.size b1 b3 (b3+2) w5 u1 u2 u3 u4 u5 ev qv V/\Im V b3 (q+1) (λu=>((rV (X.qs.take (q+1)) u:Nat):Int)))
  case first=>
   cases fb with
   |false=>
    have ED:Hid (o=d):=by
     unfold Hid;rw[<-HD.out];unfold pR;rw[if_neg];intro h;have:=FB.out;rw[h] at this;simp at this
    go_wp2_with fail
    go_meet
    case rel=>exact⟨rfl,by rw[<-ED.out];exact K8,T8,M8⟩
   |true=>
    have ED:Hid ({o with left:=o.left-1}=d):=by
     unfold Hid;rw[<-HD.out];unfold pR;rw[if_pos];have:=FB.out;have h2:=eq_of_beq this.symm;omega
    obtain⟨j0,j1,j2,j3⟩:=K8.jbc (i:=0) (o:=o) rfl;simp only[Nat.zero_mul,aO] at j0 j1 j2 j3;have t3:=K8.thaw 3;have wl:IntKind.i64.wrap (o.left-1)=o.left-1:=by have:=JI.out;rw[IntKind.wrap_i64];omega
    have K9:Hid (Jk (w7.setCell ⟨bj,3,none⟩ (int i64 (o.left-1))) bj [d] []):=by
     have h:=K8.Ls (i:=0) (o:=o) rfl (o.left-1);simp only[Nat.zero_mul,aO,List.set_cons_zero] at h;rw[ED.out] at h;exact h
    have B9:Hid (Kp bj w7 (w7.setCell ⟨bj,3,none⟩ (int i64 (o.left-1)))):=Kp.set _ _ _;go_wp2_with fail
    go_meet
    case rel=>exact⟨rfl,K9,T8.box B9 SJ UN,M8.gb (jm B9) (by have:=SJ.out;simp;omega)⟩
  case rest=>
   obtain⟨rfl,hK,hT,hM⟩:=hcut;have K9:=aj (hK);have T9:=aj (hT);have M9:=aj (hM);clear hK hT hM K8 T8 M8 F7 TH6;generalize wc=w8 at *;have J9:Hid (nI w8 ⟨bj,0,none⟩ d):=by have h:=K9.jbc (i:=0) (o:=d) rfl;simp only[Nat.zero_mul] at h;exact h
   have B9:=aj (B5.trans (T9.f.low (by have:=B5.size;exact this) (λk hk=>by have:=N3.out;rcases hk with h|h<;>omega)));have S9:Hid (b3+2<=w8.heap.size):=by have:=T9.f.size;have:=S5.out;unfold Hid;omega
   by_cases hl0:d.left=0
   case neg=>
    have hlb:(d.left==0)=false:=by rw[beq_eq_false_iff_ne];exact hl0
    have HN:Hid (Tr ks X (q+1) Y es (qs++[d])):=by
     have h:=Tr.wait TR HO (by rw[HD.out];exact hl0);rw[HD.out] at h;exact h
    obtain⟨j0,j1,j2,j3⟩:=J9.out;have BA:Hid (Below _ w8 (w8.alloc (Obj.cells #[int i64 d.ay,int i64 d.unit,int i64 d.kind,int i64 d.left] 93))):=aA;have TA:=aj (T9.below BA);have JA:=aj (nI.mk' (w:=w8) d rfl);have MA:=aj (M9.below BA);have SA:Hid (b3+2<=(w8.alloc (Obj.cells #[int i64 d.ay,int i64 d.unit,int i64 d.kind,int i64 d.left] 93)).heap.size):=by have h1:=TA.f.size;have h2:=TA.n;unfold Hid;omega
    go_wp2_with (at_builtin;refine Fp _ rfl _ _ rfl _ _ qs rfl TA.o w8.heap.size d rfl JA (by have:=QL.out;omega) SA ?_);intro g cap wE o8 g8 a8 l8;have TE:=aj (TA.left g8 o8 rfl (by simpa using a8));have ME:=aj (MA.gb g8 (λh=>by have:=(TA.o.block b3 h.symm).1;omega));clear o8 g8 a8 l8 j0 j1 j2 j3;have hq12:=QN.out;go_wp2;go_round
    case rel=>exact⟨q+1,by omega,by go_num,Y,es,_,HN,u1,u2,u3,u4,u5,_,_,rfl,rfl,TE,ME⟩
    case measure=>simp[intOf];omega
   case pos=>
    have DL:=aj (hl0);obtain⟨j0,j1,j2,j3⟩:=J9.out;rw[hl0] at j3;obtain⟨x0,x1,x2,x3,x4,x5,x6,x7,x8⟩:=T9.x.cells;clear hl0;go_wp2_with fail
    have CA:=T_ (slice pk ks.length qk) _ ks Y d w8 (K.1.below B9) K.2 T9.wl KP.1.zero (SD.below B9);unfold bM.val at CA;rw[DL.out] at CA;refine Calls.mono CA ?_;clear CA;rintro e w9 ⟨u,r,Z,rfl,hu,hb,hc⟩;have T10:=aj (T9.below hb);have M10:=aj (M9.below hb);have K10:=aj (K9.below hb K9.lt);have UQ:=aj (T9.under);have S10:=aj (hb.size);obtain⟨B,hB⟩:∃B,w8.heap.size=B:=⟨_,rfl⟩;rw[hB] at hu UQ S9 S10;clear hB;obtain⟨k1,k2,k3,k4,k5,rfl,o1,o2,o3,o4,o5⟩:=hu;obtain⟨n1,m1,rfl⟩:=o1.len;obtain⟨n2,m2,rfl⟩:=o2.len;obtain⟨n3,m3,rfl⟩:=o3.len;obtain⟨n4,m4,rfl⟩:=o4.len;obtain⟨n5,m5,rfl⟩:=o5.len;have OZ:=aj (iJ o1 o2 o3 o4 o5);clear hb o1 o2 o3 o4 o5 j0 j1 j2 j3 x0 x1 x2 x3 x4 x5 x6 x7 x8 K9 T9 M9 J9;obtain⟨bn,hbn⟩:∃b,w9.heap.size=b:=⟨_,rfl⟩;have BN:Hid (Below _ w9 (w9.alloc (Obj.cells #[int i64 Z.turn,int i64 Z.next,int i64 Z.wide,int i64 Z.high,slice n1 Z.gs.length m1,slice n2 Z.os.length m2,slice n3 Z.gold.length m3,slice n4 Z.us.length m4,slice n5 Z.qs.length m5] 29))):=aA;have XN:=aj (Wx.new (w:=w9) (int i64 Z.turn) (int i64 Z.next) (int i64 Z.wide) (int i64 Z.high) (slice n1 Z.gs.length m1) (slice n2 Z.os.length m2) (slice n3 Z.gold.length m3) (slice n4 Z.us.length m4) (slice n5 Z.qs.length m5) hbn);have NB:Hid (B<=bn):=by rw[<-hbn];exact S10
    rcases hc with⟨c,hc,rfl,hZ⟩|⟨hc,n,h0,rfl⟩
    case inr=>
     have NC:=aj (Iq (l:=X.qs.take q) (by rw[HD.out];exact hc));clear hc h0;go_upto_region 20 with fail
     (try rw[hbn])
     clear hbn;generalize w9.alloc _=wa at *;have T11:=aj (T10.below BN);have M11:=aj (M10.below BN);have K11:=aj (K10.below BN K10.lt);obtain⟨f,hf⟩:∃f,one1 o=f:=⟨_,rfl⟩;have HF:Hid (one1 d=f):=by unfold Hid;rw[<-hf,<-HD.out];exact(oK _ _).2.2.2
     have HS:Hid (Tr ks X (q+1) Y es (qs++[f])):=by
      rw[<-hf];exact .stay TR HO (by rw[HD.out];exact DL) NC
     clear hf;obtain⟨j0,j1,j2,j3⟩:=K11.jbc (i:=0) (o:=d) rfl;simp only[Nat.zero_mul,aO] at j0 j1 j2 j3;have t3:=K11.thaw 3;have K12:Hid (Jk (wa.setCell ⟨bj,3,none⟩ (int i64 1)) bj [f] []):=by
      have h:=K11.Ls (i:=0) (o:=d) rfl 1;simp only[Nat.zero_mul,aO,List.set_cons_zero] at h;have e9:({d with left:=1}:bM)=f:=HF;rw[e9] at h;exact h
     have B12:Hid (Kp bj wa (wa.setCell ⟨bj,3,none⟩ (int i64 1))):=Kp.set _ _ _;go_upto_region 21 with fail
     clear j0 j1 j2 j3 t3;generalize wa.setCell _ _=wb at *;have T12:=aj (T11.box B12 SJ UN);have M12:=aj (M11.gb (jm B12) (by have:=SJ.out;simp;omega));have J12:Hid (nI wb ⟨bj,0,none⟩ f):=by have h:=K12.jbc (i:=0) (o:=f) rfl;simp only[Nat.zero_mul] at h;exact h
     obtain⟨j0,j1,j2,j3⟩:=J12.out;have BA:Hid (Below _ wb (wb.alloc (Obj.cells #[int i64 f.ay,int i64 f.unit,int i64 f.kind,int i64 f.left] 93))):=aA;have TA:=aj (T12.below BA);have JA:=aj (nI.mk' (w:=wb) f rfl);have MA:=aj (M12.below BA);have SA:Hid (b3+2<=(wb.alloc (Obj.cells #[int i64 f.ay,int i64 f.unit,int i64 f.kind,int i64 f.left] 93)).heap.size):=by have h1:=TA.f.size;have h2:=TA.n;unfold Hid;omega
     go_wp2_with (at_builtin;refine Fp _ rfl _ _ rfl _ _ qs rfl TA.o wb.heap.size f rfl JA (by have:=QL.out;omega) SA ?_);intro g cap wE o8 g8 a8 l8;have TE:=aj (TA.left g8 o8 rfl (by simpa using a8));have ME:=aj (MA.gb g8 (λh=>by have:=(TA.o.block b3 h.symm).1;omega));clear o8 g8 a8 l8 j0 j1 j2 j3;have hq12:=QN.out;go_wp2;go_round
     case rel=>exact⟨q+1,by omega,by go_num,Y,es,_,HS,u1,u2,u3,u4,u5,_,_,rfl,rfl,TE,ME⟩
     case measure=>simp[intOf];omega
    case inl=>
     have ZE:Hid (Z=Wd.put ks Y o.ay o.kind c):=by
      unfold Hid;obtain⟨e1,e2,e3,-⟩:=oK (X.qs.take q) o;rw[hZ,<-HD.out,e1,e3]
     have CM:Hid (Tr ks X (q+1) Z (es++[⟨6,Y.next,c⟩]) qs):=by
      unfold Hid;rw[ZE.out];exact .come TR HO (by rw[HD.out];exact DL) (NI (l:=X.qs.take q) (by rw[HD.out];exact hc))
     obtain⟨nu,hnu⟩:∃nu,Wd.oC ks Y o.ay o.kind c=nu:=⟨_,rfl⟩;have ZU:Hid (Z.us=Y.us++[nu]/\nu.id=Y.next/\nu.at_=c):=by
      unfold Hid;rw[ZE.out,<-hnu];exact⟨rfl,rfl,rfl⟩
     obtain⟨m,hm⟩:∃m,Y.us.length=m:=⟨_,rfl⟩;have ZL:Hid (Z.us.length=m+1):=by unfold Hid;rw[ZU.out.1,<-hm];simp
     have ml:m<=40:=by rw[<-hm];exact KP.1.ul
     have NU:Hid (Z.us[m]? =some nu):=by unfold Hid;rw[ZU.out.1,<-hm];simp
     clear hc hZ hnu hm;go_upto_region 17 with fail
     (try rw[hbn])
     clear hbn;have UA:=aj (OZ.2.2.2.1.below BN);generalize w9.alloc _=wa at *;obtain⟨x0,x1,x2,x3,x4,x5,x6,x7,x8⟩:=XN.cells;obtain⟨g',c',e',-,-,hy⟩:=UA.l;injection e' with e1 e2 e3
     subst e1 e3;obtain⟨xu,rfl,hxl,hy⟩:=hy (by have h9:=ZL.out;rintro hn;rw[hn] at h9;simp at h9);obtain⟨y0,y1,y2,y3,y4,y5,y6,y7⟩:=hy m nu NU;have mw:IntKind.i64.wrap (m:Int)=(m:Int):=by rw[IntKind.wrap_i64];omega
     have mz:IntKind.i64.wrap ((Z.us.length:Int)-1)=(m:Int):=by rw[IntKind.wrap_i64,ZL.out];omega
     have ml2:(m:Int)<(Z.us.length:Int):=by rw[ZL.out];omega
     have ml3:m<Z.us.length:=by rw[ZL.out];omega
     clear hy hxl e2;go_upto_region 18 with fail
     clear x0 x1 x2 x3 x4 x5 x6 x7 x8 y0 y1 y2 y3 y4 y5 y6 y7 mw mz ml2 ml3;have BU:Hid (Below _ wa (wa.alloc (Obj.cells #[int i64 nu.id,int i64 nu.ay,int i64 nu.kind,int i64 nu.at_,int i64 nu.life,int i64 nu.load,int i64 nu.task,int i64 nu.goal] 74))):=aA;obtain⟨bu,hbu⟩:∃b,wa.heap.size=b:=⟨_,rfl⟩;have XU:=aj (fA.mk' (w:=wa) nu hbu)
     (try rw[hbu])
     clear hbu;generalize wa.alloc _=wb at *;have BNB:=aG BN BU;have T11:=aj (T10.below BNB);have M11:=aj (M10.below BNB);have XB:=aj (XN.below BU XN.lt);have OB:=aj (iJ (OZ.1.below BNB) (OZ.2.1.below BNB) (OZ.2.2.1.below BNB) (OZ.2.2.2.1.below BNB) (OZ.2.2.2.2.below BNB));obtain⟨y0,y1,y2,y3,y4,y5,y6,y7⟩:=XU.out;have y0':wb.cell? ⟨bu,0,none⟩=some (int i64 Y.next):=by rw[<-ZU.out.2.1];exact y0
     have y3':wb.cell? ⟨bu,3,none⟩=some (int i64 c):=by rw[<-ZU.out.2.2];exact y3
     clear y0 y1 y2 y3 y4 y5 y6 y7;have BE:Hid (Below _ wb (wb.alloc (Obj.cells #[int i64 6,int i64 Y.next,int i64 c] 169))):=aA;have TE:=aj (T11.below BE);have RC:Hid (uP (wb.alloc (Obj.cells #[int i64 6,int i64 Y.next,int i64 c] 169)) _ _):=uP.mk' ⟨6,Y.next,c⟩ rfl;have SB:Hid (b3+2<=(wb.alloc (Obj.cells #[int i64 6,int i64 Y.next,int i64 c] 169)).heap.size):=by have h1:=TE.f.size;have h2:=TE.n;unfold Hid;omega
     have ME:=aj (M11.below BE);have XE:=aj (XB.below BE XB.lt);have OE:=aj (iJ (OB.1.below BE) (OB.2.1.below BE) (OB.2.2.1.below BE) (OB.2.2.2.1.below BE) (OB.2.2.2.2.below BE));obtain⟨ea,ec,rfl⟩:=TE.e.len;go_upto_region 19 with(at_builtin;refine zD _ rfl _ _ rfl _ _ es rfl TE.e wb.heap.size ⟨6,Y.next,c⟩ rfl RC (by have:=QL.out;omega) SB ?_)
     intro g cap wE o8 g8 a8 l8;have EVN:Hid (∀k,(slice ea _ ec:Value).ownBlock=some k->b3+2<=k/\k<B):=λk hk=>⟨(TE.e.block k hk).1,UQ _ (by simp) k hk⟩
     have TF:=aj (TE.told g8 o8);have MF:=aj (ME.gb g8 (λh=>by have:=(EVN b3 h.symm).1;omega));have XF:=aj ((Fr.gb (S:=λk=>(slice ea es.length ec:Value).ownBlock=some k) g8 (λk hk=>hk)).wx XE (λh=>by have:=EVN bn h;have:=NB.out;omega));have OF:Hid (Ow wE B (slice n1 Z.gs.length m1) Z.gs/\Ow wE B (slice n2 Z.os.length m2) Z.os/\Ow wE B (slice n3 Z.gold.length m3) Z.gold/\fD wE B (slice (some xu) Z.us.length m4) Z.us/\fB wE B (slice n5 Z.qs.length m5) Z.qs):=⟨bJ OE.1 g8 (λk h1 h2=>by have:=(OE.1.block k h1).1;have:=EVN k h2;omega),bJ OE.2.1 g8 (λk h1 h2=>by have:=(OE.2.1.block k h1).1;have:=EVN k h2;omega),bJ OE.2.2.1 g8 (λk h1 h2=>by have:=(OE.2.2.1.block k h1).1;have:=EVN k h2;omega),bJ OE.2.2.2.1 g8 (λk h1 h2=>by have:=(OE.2.2.2.1.block k h1).1;have:=EVN k h2;omega),bJ OE.2.2.2.2 g8 (λk h1 h2=>by have:=(OE.2.2.2.2.block k h1).1;have:=EVN k h2;omega)⟩;clear o8 g8 a8 l8 y0' y3';obtain⟨x0,x1,x2,x3,x4,x5,x6,x7,x8⟩:=XF.cells;have zz:=TF.x.cells;obtain⟨t0,t1,t2,t3,t4,t5,t6,t7,t8⟩:=TF.x.cO;have KZ:=aj (dG wE w.heap.size (int i64 Z.turn) (int i64 Z.next) (int i64 Z.wide) (int i64 Z.high) (slice n1 Z.gs.length m1) (slice n2 Z.os.length m2) (slice n3 Z.gold.length m3) (slice (some xu) Z.us.length m4) (slice n5 Z.qs.length m5));have XZ:=aj (TF.x.put (int i64 Z.turn) (int i64 Z.next) (int i64 Z.wide) (int i64 Z.high) (slice n1 Z.gs.length m1) (slice n2 Z.os.length m2) (slice n3 Z.gold.length m3) (slice (some xu) Z.us.length m4) (slice n5 Z.qs.length m5));go_upto_region 22 with fail
     clear x0 x1 x2 x3 x4 x5 x6 x7 x8 zz t0 t1 t2 t3 t4 t5 t6 t7 t8;generalize World.setCell _ ⟨_,8,none⟩ _=wF at *;have TG:=aj (TF.puts S9 (UQ qv (by simp)) KZ XZ OF.1 OF.2.1 OF.2.2.1 OF.2.2.2.1 OF.2.2.2.2);have MG:=aj (MF.gb (jm KZ) (by have:=N3.out;simp;omega));have hq12:=QN.out;go_wp2;go_round
     case rel=>exact⟨q+1,by omega,by go_num,Z,_,_,CM,_,_,_,_,_,_,_,rfl,rfl,TG,MG⟩
     case measure=>simp[intOf];omega
open Go.Proofs.YtolfphmdmpehdaaGreatDoor.So
theorem zX(h:Wd.aP ks X≠0):cZ ks X l=Wd.aP ks X:=if_pos h
theorem Ir(h:Wd.aP ks X=0)(ht:1000000<=X.turn):cZ ks X l=4:=by unfold cZ;rw[if_neg (λk=>k h),if_pos ht]
theorem Iu(h:Wd.aP ks X=0)(ht:¬1000000<=X.turn):cZ ks X l=Od.faults l:=by unfold cZ;rw[if_neg (λk=>k h),if_neg ht]
def Dp(ks:List KV)(X:WV)(l:List bU)(w w':World)(v ev:Value):Prop:=
 (cZ ks X l≠0/\v=.agg #[int i64 0,int i64 0,int i64 0,int i64 0,slice none 0 0,slice none 0 0,slice none 0 0,slice none 0 0,slice none 0 0]/\ev=slice none 0 0)
 \/(cZ ks X l=0/\∃Y es,oh ks X l Y es/\Wo w' w.heap.size v Y/\ig w' w.heap.size ev es)
theorem vV(vk vw vl:Value)(ks:List KV)(X:WV)(l:List bU)(w:World)(hk:Kl w vk ks)(hb:∀k∈ks,k.b.size<=9223372036854775807)(hw:Wl w vw X)(hl:Bo w vl l)(hs:Sd w):
  Calls prog 27 #[vk,vw,vl] w λe w'=>∃v ev r,e=.returned (.tuple #[v,ev,r])/\Er r (cZ ks X l)/\Dp ks X l w w' v ev/\Below w.heap.size w w':=by
 have K:=aj (dJ (hk) (hb));have H:=aj (hw);have SD:=aj (dJ (hs) (hl));clear hs hl;obtain⟨p1,q1,p2,q2,p3,q3,p4,q4,p5,q5,rfl⟩:=aX hw;obtain⟨pk,qk,rfl,ck1,ck2,kc⟩:=hk;clear hb hw kc;go_enter func27,ntmps27;go_upto_region 1 with fail
 obtain⟨B0,X0,Z0⟩:=uD w (int i64 X.turn) (int i64 X.next) (int i64 X.wide) (int i64 X.high) (slice p1 X.gs.length q1) (slice p2 X.os.length q2) (slice p3 X.gold.length q3) (slice p4 X.us.length q4) (slice p5 X.qs.length q5);generalize ((w.alloc _).alloc _)=w0 at *;have xx:=X0.cells;go_wp2_with fail
 refine(gY _ _ ks X w0 (K.1.below B0) K.2 (H.below B0)).mono ?_;rintro e w1 ⟨r,rfl,hr,hb⟩;obtain⟨fw,hfw⟩:∃f,Wd.aP ks X=f:=⟨_,rfl⟩;have FW:=aj (hfw);rw[hfw] at hr;have B1:=aG B0 hb;have X1:=aj (X0.below hb X0.lt);have Z1:=aj (Z0.below hb Z0.lt);clear hb hfw xx X0 B0 Z0;rcases hr with⟨rfl,rfl⟩|⟨hf,rfl⟩
 case inr=>
  have HF:=aj (hf);clear hf;have zz:=Z1.cells;obtain⟨t0,t1,t2,t3,t4,t5,t6,t7,t8⟩:=Z1.cO;have KZ:=aj (fH w1 (w.heap.size+1));have yy:=(Z1.nJ).cells;go_wp2;clear zz t0 t1 t2 t3 t4 t5 t6 t7 t8;generalize World.setCell _ _ _=w9 at *;refine bodyPost_ret (v:=.tuple #[.agg _,slice none 0 0,.iface 85 (int i64 fw)]) (by simp[results,results27,go_sem,yy]) rfl ⟨_,_,_,rfl,by rw[zX (l:=l) (by rw[FW.out];exact HF.out),FW.out];exact Er.no HF,.inl ⟨by rw[zX (l:=l) (by rw[FW.out];exact HF.out),FW.out];exact HF,rfl,rfl⟩,KZ.below B1 B1.size (by omega)⟩
 have WR:=aj (bY FW);have xx:=X1.cells;by_cases htn:1000000<=X.turn
 case pos=>
  have SF:Hid (cZ ks X l=4):=Ir FW htn;have acS:=decide_eq_true htn;clear htn;have zz:=Z1.cells;obtain⟨t0,t1,t2,t3,t4,t5,t6,t7,t8⟩:=Z1.cO;have KZ:=aj (fH w1 (w.heap.size+1));have yy:=(Z1.nJ).cells;go_wp2;clear zz t0 t1 t2 t3 t4 t5 t6 t7 t8;generalize World.setCell _ _ _=wz at *;refine bodyPost_ret (v:=.tuple #[.agg _,slice none 0 0,.iface 85 (int i64 4)]) (by simp[results,results27,go_sem,yy]) rfl ⟨_,_,_,rfl,by rw[SF.out];exact Er.no (by decide),.inl ⟨by rw[SF.out];decide,rfl,rfl⟩,KZ.below B1 B1.size (by omega)⟩
 have SF:Hid (cZ ks X l=Od.faults l):=Iu FW htn;have TN:=aj (htn);go_wp2_with fail
 refine(TV _ _ _ ks X l w1 (K.1.below B1) (H.below B1) (SD.2.below B1) WR).mono ?_;rintro e w2 ⟨v,ur,r,rfl,hr,hg,hb⟩;have B2:=aG B1 hb;have X2:=aj (X1.below hb X1.lt);have Z2:=aj (Z1.below hb Z1.lt);have S1:Hid (w.heap.size+2<=w1.heap.size):=Z1.lt;clear hb xx X1 B1 Z1 htn;obtain⟨fo,hfo⟩:∃f,Od.faults l=f:=⟨_,rfl⟩;have FO:=aj (hfo);rw[hfo] at hr;clear hfo;rcases hr with⟨rfl,rfl⟩|⟨hf,rfl⟩
 case inr=>
  have HF:=aj (hf);rcases hg with⟨-,rfl,rfl⟩|⟨h,-⟩
  case inr=>rw[FO.out] at h;exact absurd h hf
  clear hf;have cc:=X2.cells;have dd:=X2.cO;have KB:=aj (fH w2 w.heap.size);go_upto_region 8 with fail
  clear cc dd;generalize World.setCell _ _ _=w3 at *;have B3:=aj (KB.below B2 B2.size aN);have Z3:=aj (Z2.kp KB (by omega));have zz:=Z3.cells;obtain⟨t0,t1,t2,t3,t4,t5,t6,t7,t8⟩:=Z3.cO;have KZ:=aj (fH w3 (w.heap.size+1));have yy:=(Z3.nJ).cells;go_wp2;clear zz t0 t1 t2 t3 t4 t5 t6 t7 t8;generalize World.setCell _ _ _=wz at *;refine bodyPost_ret (v:=.tuple #[.agg _,slice none 0 0,.iface 85 (int i64 fo)]) (by simp[results,results27,go_sem,yy]) rfl ⟨_,_,_,rfl,by rw[SF.out,FO.out];exact Er.no HF,.inl ⟨by rw[SF.out,FO.out];exact HF,rfl,rfl⟩,KZ.below B3 B3.size (by omega)⟩
 rcases hg with⟨h,-⟩|⟨-,out,hls,ho,-⟩
 case inl=>exact absurd FO h
 have LS:=aj (hls);obtain⟨A,hA⟩:∃A,(gv ks X out out.length).1=A:=⟨_,rfl⟩;have HA:=aj (hA);have AR:Hid (bH ks A):=by
  unfold Hid;rw[<-hA];exact qE WR (λo h=>(Od.jC FO).2 o (hls.mem h)) _
 rw[hA] at ho;clear hA hls;obtain⟨k1,k2,k3,k4,k5,rfl,o1,o2,o3,o4,o5⟩:=ho;obtain⟨a1,r1,rfl⟩:=o1.len;obtain⟨a2,r2,rfl⟩:=o2.len;obtain⟨a3,r3,rfl⟩:=o3.len;obtain⟨a4,r4,rfl⟩:=o4.len;obtain⟨a5,r5,rfl⟩:=o5.len;have OA:=aj (iJ (o1.mono S1) (o2.mono S1) (o3.mono S1) (o4.mono S1) (o5.mono S1));clear o1 o2 o3 o4 o5;have cc:=X2.cells;have dd:=X2.cO;have KB:=aj (dG w2 w.heap.size (int i64 A.turn) (int i64 A.next) (int i64 A.wide) (int i64 A.high) (slice a1 A.gs.length r1) (slice a2 A.os.length r2) (slice a3 A.gold.length r3) (slice a4 A.us.length r4) (slice a5 A.qs.length r5));have XB:=aj (X2.put (int i64 A.turn) (int i64 A.next) (int i64 A.wide) (int i64 A.high) (slice a1 A.gs.length r1) (slice a2 A.os.length r2) (slice a3 A.gold.length r3) (slice a4 A.us.length r4) (slice a5 A.qs.length r5));go_upto_region 9 with fail
 clear cc dd;generalize World.setCell _ _ _=w3 at *;have B3:=aj (KB.below B2 B2.size aN);have Z3:=aj (Z2.kp KB (by omega));have O3:=aj (iJ (OA.1.kp KB (by omega)) (OA.2.1.kp KB (by omega)) (OA.2.2.1.kp KB (by omega)) (OA.2.2.2.1.kp KB (by omega)) (OA.2.2.2.2.kp KB (by omega)));clear KB X2 B2 Z2 OA;obtain⟨bq,hbq⟩:∃b,w3.heap.size=b:=⟨_,rfl⟩;have BF:Hid (Below _ w3 (w3.alloc (Obj.cells #[.func (Fn.func 58) #[] #[],.func (Fn.func 59) #[] #[],.func (Fn.func 60) #[] #[],.func (Fn.func 61) #[] #[]] 111))):=aA;have SZ:Hid ((w3.alloc (Obj.cells #[.func (Fn.func 58) #[] #[],.func (Fn.func 59) #[] #[],.func (Fn.func 60) #[] #[],.func (Fn.func 61) #[] #[]] 111)).heap.size=bq+1):=by unfold Hid;rw[<-hbq];simp
 have CF0:Hid ((w3.alloc (Obj.cells #[.func (Fn.func 58) #[] #[],.func (Fn.func 59) #[] #[],.func (Fn.func 60) #[] #[],.func (Fn.func 61) #[] #[]] 111)).cell? ⟨bq,0,none⟩=some (.func (Fn.func 58) #[] #[])/\(w3.alloc (Obj.cells #[.func (Fn.func 58) #[] #[],.func (Fn.func 59) #[] #[],.func (Fn.func 60) #[] #[],.func (Fn.func 61) #[] #[]] 111)).cell? ⟨bq,1,none⟩=some (.func (Fn.func 59) #[] #[])/\(w3.alloc (Obj.cells #[.func (Fn.func 58) #[] #[],.func (Fn.func 59) #[] #[],.func (Fn.func 60) #[] #[],.func (Fn.func 61) #[] #[]] 111)).cell? ⟨bq,2,none⟩=some (.func (Fn.func 60) #[] #[])/\(w3.alloc (Obj.cells #[.func (Fn.func 58) #[] #[],.func (Fn.func 59) #[] #[],.func (Fn.func 60) #[] #[],.func (Fn.func 61) #[] #[]] 111)).cell? ⟨bq,3,none⟩=some (.func (Fn.func 61) #[] #[])):=by
  unfold Hid;rw[<-hbq];simp
 go_wp2_with fail
 (try rw[hbq])
 obtain⟨w5,hw5⟩:∃w5,(w3.alloc (Obj.cells #[.func (Fn.func 58) #[] #[],.func (Fn.func 59) #[] #[],.func (Fn.func 60) #[] #[],.func (Fn.func 61) #[] #[]] 111))=w5:=⟨_,rfl⟩;rw[hw5] at BF SZ CF0 ⊢;clear hw5;have NQ:Hid (w.heap.size+2<=bq):=by have h1:=O3.out;have h2:=Z3.lt;unfold Hid;omega
 clear hbq;obtain⟨Wn,Hn,ew,eh,G⟩:=WR.good;have WH:Hid (X.wide=(Wn:Nat)/\X.high=(Hn:Nat)/\A.wide=(Wn:Nat)/\A.high=(Hn:Nat)/\A.turn=X.turn):=by
  obtain⟨g1,g2,g3⟩:=tV (ks:=ks) (Y:=X) (out:=out) out.length;rw[HA.out] at g1 g2 g3;exact⟨ew,eh,by rw[g2,ew],by rw[g3,eh],g1⟩
 clear ew eh G;have T5:Hid (Nu A [] w.heap.size (w.heap.size+2) (bq+1) w5 (slice a1 A.gs.length r1) (slice a2 A.os.length r2) (slice a3 A.gold.length r3) (slice a4 A.us.length r4) (slice a5 A.qs.length r5) (slice none 0 0) w5):=
  ⟨XB.below BF XB.lt,O3.1.below BF,O3.2.1.below BF,O3.2.2.1.below BF,O3.2.2.2.1.below BF,O3.2.2.2.2.below BF,ig.nil _ _,Fr.below aB,⟨by omega,by have:=NQ.out;omega,SZ⟩⟩
 have Z5:=aj (Z3.below BF Z3.lt);have B5:=aG B3 BF;clear BF XB O3 Z3 B3;go_loopw [12,44] (λv12 j V=>∃n:Nat,n<=4/\j=int i64 (n:Nat)/\∃Y es,Ph ks Wn Hn A n Y es/\∃u1 u2 u3 u4 u5 ev,ev=v12/\Nu Y es w.heap.size (w.heap.size+2) (bq+1) w5 u1 u2 u3 u4 u5 ev V) (λ_ j _=>4-(intOf j).toNat)
 case atStart=>exact⟨0,by omega,rfl,A,[],.zero,_,_,_,_,_,_,rfl,T5⟩
 case round=>
 obtain⟨n,hn,rfl,Y,es,hp,u1,u2,u3,u4,u5,ev,rfl,hT⟩:=hrel;have PH:=aj (hp);have KP:=aj (hp.keep AR WH.2.2.1 WH.2.2.2.1);have TQ:=aj (hT);clear hp hT;have CQ:Hid (∀i u,i<4->w5.cell? _=some u->wr.cell? ⟨bq,i,none⟩=some u):=λi u _ h=>TQ.f.cell h (λe=>by have:=NQ.out;simp only at e;omega)
 have ZW:=aj (TQ.f.wx Z5 (by omega));have BW:=aj (B5.trans (TQ.f.low B5.size (λk hk=>by omega)));have SW:Hid (bq+1<=wr.heap.size):=by have:=TQ.f.size;have:=SZ.out;unfold Hid;omega
 obtain⟨g1,l1,rfl⟩:=TQ.o1.len;obtain⟨g2,l2,rfl⟩:=TQ.o2.len;obtain⟨g3,l3,rfl⟩:=TQ.o3.len;obtain⟨g4,l4,rfl⟩:=TQ.o4.len;obtain⟨g5,l5,rfl⟩:=TQ.o5.len;by_cases hne:n=4
 case pos=>
  subst hne;have xx:=TQ.x.cells;have t0:=TQ.x.thaw 0;have tb:X.turn<1000000:=by have:=TN.out;omega
  have tb0:0<=X.turn:=by have h9:=WR.nums;unfold Wd.b_ Wd.off at h9;simp at h9;omega
  have wt:IntKind.i64.wrap (Y.turn+1)=Y.turn+1:=by have h1:=KP.out.2.2.2.1;have h2:=WH.out.2.2.2.2;rw[IntKind.wrap_i64];omega
  have XS:Hid (Wx _ _ (int i64 (Y.turn+1)) _ _ _ _ _ _ _ _):=TQ.x.set0 _;have KS:Hid (Kp _ wr (wr.setCell ⟨w.heap.size,0,none⟩ (int i64 (Y.turn+1)))):=Kp.set _ _ _;go_upto_region 20 with fail
  clear xx t0 wt tb tb0;generalize (wr.setCell _ _)=ws at *;have xx:=XS.cells;have ZS:=aj (ZW.kp KS (by omega));have BS2:=aj (KS.below BW BW.size aN);have zz:=ZS.cells;obtain⟨t0,t1,t2,t3,t4,t5,t6,t7,t8⟩:=ZS.cO;have KZ:=aj (dG ws (w.heap.size+1) (int i64 (Y.turn+1)) (int i64 Y.next) (int i64 Y.wide) (int i64 Y.high) (slice g1 Y.gs.length l1) (slice g2 Y.os.length l2) (slice g3 Y.gold.length l3) (slice g4 Y.us.length l4) (slice g5 Y.qs.length l5));have yy:=(ZS.put (int i64 (Y.turn+1)) (int i64 Y.next) (int i64 Y.wide) (int i64 Y.high) (slice g1 Y.gs.length l1) (slice g2 Y.os.length l2) (slice g3 Y.gold.length l3) (slice g4 Y.us.length l4) (slice g5 Y.qs.length l5)).cells;go_wp2;clear xx zz t0 t1 t2 t3 t4 t5 t6 t7 t8;generalize World.setCell _ _ _=wt at *;have kp2:∀{T:TypeId} {size:Nat} {u:Value} {n:Nat} {cs:List Value} {base:Nat},w.heap.size+2<=base->wr.ownsRow base T size u n cs->wt.ownsRow base T size u n cs:=λhb h=>(Fr.kp KZ rfl).own ((Fr.kp KS rfl).own h (λk hk=>by have:=(World.ownsRow.lt h k hk).1;omega)) (λk hk=>by have:=(World.ownsRow.lt h k hk).1;omega)
  have hq:=NQ.out;refine bodyPost_ret (v:=.tuple #[.agg #[int i64 (Y.turn+1),int i64 Y.next,int i64 Y.wide,int i64 Y.high,slice g1 Y.gs.length l1,slice g2 Y.os.length l2,slice g3 Y.gold.length l3,slice g4 Y.us.length l4,slice g5 Y.qs.length l5],ev,.nilIface]) (by simp[results,results27,go_sem,yy]) rfl ⟨_,_,_,rfl,by rw[SF.out,FO.out];exact Er.nil,.inr ⟨by rw[SF.out,FO.out],{Y with turn:=Y.turn+1},es,⟨out,Wn,Hn,Y,LS,WH.1,WH.2.1,by rw[HA.out];exact PH,rfl⟩,?_,?_⟩,KZ.below BS2 BS2.size (by omega)⟩
  ·exact⟨_,_,_,_,_,rfl,Ow.mono (kp2 aN TQ.o1) (by omega),Ow.mono (kp2 aN TQ.o2) (by omega),Ow.mono (kp2 aN TQ.o3) (by omega),fD.mono (kp2 aN TQ.o4) (by omega),fB.mono (kp2 aN TQ.o5) (by omega)⟩
  ·exact ig.mono (kp2 (by omega) TQ.e) (by omega)
 case neg=>
 have hlt:n<4:=by omega
 have ne:∀{r:Value},Er r 0->r=.nilIface:=λh=>by
  rcases h with⟨-,e⟩|⟨h,-⟩
  ·exact e
  ·exact absurd rfl h
 have cs:=K.1.below BW;have ds:=SD.1.below BW;obtain⟨F,cf,eF,hcall⟩:∃F:FuncId,wr.cell? ⟨bq,n,none⟩=some (.func (Fn.func F) #[] #[])/\(∀args w,(callFunc F args).run prog w=.ok (.enter F args) w)/\Calls prog F #[slice pk ks.length qk,.agg #[int i64 Y.turn,int i64 Y.next,int i64 Y.wide,int i64 Y.high,slice g1 Y.gs.length l1,slice g2 Y.os.length l2,slice g3 Y.gold.length l3,slice g4 Y.us.length l4,slice g5 Y.qs.length l5]] wr λe w7=>∃v ev2,e=.returned (.tuple #[v,ev2,.nilIface])/\(∃Z fs,Ph ks Wn Hn A (n+1) Z (es++fs)/\Wo w7 wr.heap.size v Z/\ig w7 wr.heap.size ev2 fs)/\Below wr.heap.size wr w7:=by
  have k1:=KP.out.2.1;have k2:=KP.out.2.2.1;have hn4:n=0\/n=1\/n=2\/n=3:=by omega
  clear hne hn hlt;rcases hn4 with rfl|rfl|rfl|rfl
  ·refine⟨_,CQ 0 _ (by decide) CF0.1,λ_ _=>rfl,(NP _ _ ks Y wr cs K.2 TQ.wl ds).mono ?_⟩
   rintro e w7 ⟨v,ev2,r,rfl,hr,hd,hb⟩;rw[KP.out.1.zero] at hr;rw[ne hr];rcases hd with⟨h,-⟩|⟨-,T,e1,q1,ht,h1,h2⟩
   ·exact absurd KP.1.zero h
   ·have h0:=PH.out
    cases h0;exact⟨v,ev2,rfl,⟨_,e1,.one ht,h1,h2⟩,hb⟩
  ·refine⟨_,CQ 1 _ (by decide) CF0.2.1,λ_ _=>rfl,(RZ _ _ ks Y wr cs K.2 TQ.wl ds).mono ?_⟩
   rintro e w7 ⟨v,ev2,r,rfl,hr,hd,hb⟩;rw[KP.out.1.zero] at hr;rw[ne hr];rcases hd with⟨h,-⟩|⟨-,W',H',e1,e2,-,us,evs,hm,-,h1,h2⟩
   ·exact absurd KP.1.zero h
   ·obtain rfl:W'=Wn:=by omega
    obtain rfl:H'=Hn:=by omega
    exact⟨v,ev2,rfl,⟨_,evs,.two PH hm,h1,h2⟩,hb⟩
  ·refine⟨_,CQ 2 _ (by decide) CF0.2.2.1,λ_ _=>rfl,(Xk _ _ ks Y wr cs K.2 TQ.wl ds).mono ?_⟩
   rintro e w7 ⟨v,ev2,r,rfl,hr,hd,hb⟩;rw[KP.out.1.zero] at hr;rw[ne hr];rcases hd with⟨h,-⟩|⟨-,W',H',e1,e2,-,h1,h2⟩
   ·exact absurd KP.1.zero h
   ·obtain rfl:W'=Wn:=by omega
    obtain rfl:H'=Hn:=by omega
    exact⟨v,ev2,rfl,⟨_,_,.three PH,h1,h2⟩,hb⟩
  ·refine⟨_,CQ 3 _ (by decide) CF0.2.2.2,λ_ _=>rfl,(Np _ _ ks Y wr cs K.2 TQ.wl).mono ?_⟩
   rintro e w7 ⟨v,ev2,r,rfl,hr,hd,hb⟩;rw[KP.out.1.zero] at hr;rw[ne hr];rcases hd with⟨h,-⟩|⟨-,W',e1,-,-,h1,h2⟩
   ·exact absurd KP.1.zero h
   ·obtain rfl:W'=Wn:=by omega
    exact⟨v,ev2,rfl,⟨_,_,.four PH,h1,h2⟩,hb⟩
 clear hne hn ne cs ds;have hli:(n:Int)<4:=by omega
 have xx:=TQ.x.cells;go_wp2_with fail
 clear cf xx;refine hcall.mono ?_;clear hcall;rintro e w7 ⟨v,ev2,rfl,hnx,hb⟩;have NX:=aj (hnx);have T7:=aj (TQ.below hb);have S7:=aj (hb.size);clear hb hnx;obtain⟨Z,fs,hph,ho,hev⟩:=NX.out;have PN:=aj (hph);have LN:Hid (es.length+fs.length<=1000000):=by have h9:=(hph.keep AR.out WH.out.2.2.1 WH.out.2.2.2.1).2.2.2.2;rw[aC] at h9;unfold Hid;omega
 obtain⟨v1,v2,v3,v4,v5,rfl,o1,o2,o3,o4,o5⟩:=ho;obtain⟨m1,k1,rfl⟩:=o1.len;obtain⟨m2,k2,rfl⟩:=o2.len;obtain⟨m3,k3,rfl⟩:=o3.len;obtain⟨m4,k4,rfl⟩:=o4.len;obtain⟨m5,k5,rfl⟩:=o5.len;have sb:w.heap.size+2<=wr.heap.size:=by have:=SW.out;have:=NQ.out;omega
 have OZ:=aj (w_ (o1.mono sb) (o2.mono sb) (o3.mono sb) (o4.mono sb) (o5.mono sb) (hev.mono sb));clear o1 o2 o3 o4 o5 hev hph NX sb;obtain⟨bn,hbn⟩:∃b,w7.heap.size=b:=⟨_,rfl⟩;have BN:Hid (Below _ w7 (w7.alloc (Obj.cells #[int i64 Z.turn,int i64 Z.next,int i64 Z.wide,int i64 Z.high,slice m1 Z.gs.length k1,slice m2 Z.os.length k2,slice m3 Z.gold.length k3,slice m4 Z.us.length k4,slice m5 Z.qs.length k5] 29))):=aA;have XN:=aj (Wx.new (w:=w7) (int i64 Z.turn) (int i64 Z.next) (int i64 Z.wide) (int i64 Z.high) (slice m1 Z.gs.length k1) (slice m2 Z.os.length k2) (slice m3 Z.gold.length k3) (slice m4 Z.us.length k4) (slice m5 Z.qs.length k5) hbn);have NB:Hid (bq+1<=bn):=by rw[<-hbn];exact aJ SW S7
 go_upto_region 16 with fail
 (try rw[hbn])
 clear hbn;generalize w7.alloc _=w8 at *;have T8:=aj (T7.below BN);have O8:=aj (w_ (OZ.1.below BN) (OZ.2.1.below BN) (OZ.2.2.1.below BN) (OZ.2.2.2.1.below BN) (OZ.2.2.2.2.1.below BN) (OZ.2.2.2.2.2.below BN));have xx:=XN.cells;have zz:=T8.x.cells;obtain⟨t0,t1,t2,t3,t4,t5,t6,t7,t8⟩:=T8.x.cO;have KZ:=aj (dG w8 w.heap.size (int i64 Z.turn) (int i64 Z.next) (int i64 Z.wide) (int i64 Z.high) (slice m1 Z.gs.length k1) (slice m2 Z.os.length k2) (slice m3 Z.gold.length k3) (slice m4 Z.us.length k4) (slice m5 Z.qs.length k5));have XZ:=aj (T8.x.put (int i64 Z.turn) (int i64 Z.next) (int i64 Z.wide) (int i64 Z.high) (slice m1 Z.gs.length k1) (slice m2 Z.os.length k2) (slice m3 Z.gold.length k3) (slice m4 Z.us.length k4) (slice m5 Z.qs.length k5));go_upto_region 17 with fail
 clear xx zz t0 t1 t2 t3 t4 t5 t6 t7 t8;generalize World.setCell _ _ _=w9 at *;have T9:=aj (T8.puts KZ XZ O8.1 O8.2.1 O8.2.2.1 O8.2.2.2.1 O8.2.2.2.2.1);have E9:=aj (ig.l ((Fr.kp (S:=λk=>k=w.heap.size) KZ rfl).own O8.2.2.2.2.2 (λk hk=>by have:=(O8.2.2.2.2.2.block k hk).1;omega):ig w9 (w.heap.size+2) ev2 fs));have S9:Hid (bq+1<=w9.heap.size):=by have h1:=T9.f.size;have h2:=SZ.out;unfold Hid;omega
 go_wp2_with (at_builtin;refine Xg _ rfl _ _ rfl _ _ es rfl T9.e _ fs rfl E9 LN S9 ?_);intro ev' wE hE hG;have TE:=aj (T9.told hG hE);clear hE hG;go_wp2;go_round
 case rel=>exact⟨n+1,by omega,by go_num,Z,es++fs,PN,_,_,_,_,_,_,rfl,TE⟩
 case measure=>simp[intOf];omega
end
section
open Go.RowKit
variable {F:Int} {X:WV} {ks:List KV} {v:Value} {w w':World}
def Py(w:World)(v:Value)(ls:List (List bU)):Prop:=∃a c,v=slice a ls.length c/\ls.length<=c/\c<=9223372036854775807/\(ls≠[]->∃x,a=some x/\x.block<w.heap.size/\∀(i:Nat) l,ls[i]? =some l->∃u,w.cell? (x.add i)=some u/\Bo w u l)
theorem Py.below{ls:List (List bU)}(h:Py w v ls)(hb:Below w.heap.size w w'):Py w' v ls:=by
 obtain⟨a,c,h1,h2,h3,h4⟩:=h;refine⟨a,c,h1,h2,h3,λhn=>?_⟩;obtain⟨x,e,hx,hy⟩:=h4 hn;refine⟨x,e,fE hx hb.size,λi l hl=>?_⟩;obtain⟨u,c1,c2⟩:=hy i l hl;exact⟨u,by rw[hb.cell (by rw[add_block];exact hx)];exact c1,c2.below hb⟩
open Go.Proofs.YtolfphmdmpehdaaGreatDoor.So
inductive kS (ks:List KV) (X:WV) (ls:List (List bU)):Nat->WV->Prop
 |zero:kS ks X ls 0 X
 |turn {n:Nat} {Y Z:WV} {l:List bU} {es:List dZ}:kS ks X ls n Y->ls[n]? =some l->cZ ks Y l=0->oh ks Y l Z es->kS ks X ls (n+1) Z
def jQ(ks:List KV)(X:WV)(ls:List (List bU))(F:Int)(w w':World)(v:Value):Prop:=
 (F≠0/\v=.agg #[int i64 0,int i64 0,int i64 0,int i64 0,slice none 0 0,slice none 0 0,slice none 0 0,slice none 0 0,slice none 0 0]/\((Wd.aP ks X≠0/\F=Wd.aP ks X)\/(Wd.aP ks X=0/\200<ls.length/\F=4)\/(Wd.aP ks X=0/\ls.length<=200/\∃n Y l,kS ks X ls n Y/\ls[n]? =some l/\cZ ks Y l=F)))
 \/(F=0/\Wd.aP ks X=0/\ls.length<=200/\∃Y,kS ks X ls ls.length Y/\Wo w' w.heap.size v Y)
def Shw(w0:World)(z s k:Nat):Prop:=w0.heap.size<=k/\k<s/\k≠z/\k≠z+1
structure abw(K:Nat)(cs:Array Value)(ks:List KV)(X:WV)(ls:List (List bU))(w0:World)(z:Nat)(I:Nat->Nat->World->Prop):Prop where
 keep:∀n s W W',I n s W->Fr (λk=>k=z\/k=z+1\/s<=k) W W'->I n s W'
 up:∀n s t W,I n s W->s<=t->I n t W
 shows:∀n s Y v W,Wd.aP ks X=0/\ls.length<=200->kS ks X ls n Y->I n s W->Below w0.heap.size w0 W->z+2<=s/\s<=W.heap.size->Wo W s v Y->Calls prog K (#[v]++cs) W λe W'=>e=.returned (.tuple #[])/\I (n+1) W'.heap.size W'/\Fr (Shw w0 z s) W W'
structure Wt(w0:World)(z s:Nat)(Y:WV)(u1 u2 u3 u4 u5:Value)(V:World):Prop where
 x:Wx V z (int i64 Y.turn) (int i64 Y.next) (int i64 Y.wide) (int i64 Y.high) u1 u2 u3 u4 u5
 y:Wx V (z+1) (int i64 0) (int i64 0) (int i64 0) (int i64 0) (slice none 0 0) (slice none 0 0) (slice none 0 0) (slice none 0 0) (slice none 0 0)
 o1:Ow V s u1 Y.gs
 o2:Ow V s u2 Y.os
 o3:Ow V s u3 Y.gold
 o4:fD V s u4 Y.us
 o5:fB V s u5 Y.qs
 b:Below w0.heap.size w0 V
 n:w0.heap.size<=z/\z+2<=s
section
variable {w0 V V':World} {z s t:Nat} {Y Z:WV} {u1 u2 u3 u4 u5 k1 k2 k3 k4 k5:Value}
theorem Wt.below(h:Wt w0 z s Y u1 u2 u3 u4 u5 V)(hb:Below V.heap.size V V'):Wt w0 z s Y u1 u2 u3 u4 u5 V':=
 ⟨h.x.below hb h.x.lt,h.y.below hb h.y.lt,h.o1.below hb,h.o2.below hb,h.o3.below hb,h.o4.below hb,h.o5.below hb,h.b.trans (hb.mono h.b.size),h.n⟩
theorem Wt.shown(h:Wt w0 z s Y u1 u2 u3 u4 u5 V)(f:Fr (Shw w0 z s) V V'):Wt w0 z s Y u1 u2 u3 u4 u5 V':=
 ⟨f.wx h.x (λe=>e.2.2.1 rfl),f.wx h.y (λe=>e.2.2.2 rfl),f.own h.o1 (λb hb e=>by have:=(h.o1.block b hb).1;have:=e.2.1;omega),f.own h.o2 (λb hb e=>by have:=(h.o2.block b hb).1;have:=e.2.1;omega),f.own h.o3 (λb hb e=>by have:=(h.o3.block b hb).1;have:=e.2.1;omega),f.own h.o4 (λb hb e=>by have:=(h.o4.block b hb).1;have:=e.2.1;omega),f.own h.o5 (λb hb e=>by have:=(h.o5.block b hb).1;have:=e.2.1;omega),h.b.trans (f.low h.b.size (λk hk=>hk.1)),h.n⟩
theorem Wt.wl(h:Wt w0 z s Y u1 u2 u3 u4 u5 V):Wl V (.agg #[int i64 Y.turn,int i64 Y.next,int i64 Y.wide,int i64 Y.high,u1,u2,u3,u4,u5]) Y:=⟨u1,u2,u3,u4,u5,rfl,h.o1.ro,h.o2.ro,h.o3.ro,h.o4.l,h.o5.l⟩
theorem Wt.wo(h:Wt w0 z s Y u1 u2 u3 u4 u5 V):Wo V s (.agg #[int i64 Y.turn,int i64 Y.next,int i64 Y.wide,int i64 Y.high,u1,u2,u3,u4,u5]) Y:=⟨u1,u2,u3,u4,u5,rfl,h.o1,h.o2,h.o3,h.o4,h.o5⟩
theorem Ua(hy:Wx V (z+1) (int i64 0) (int i64 0) (int i64 0) (int i64 0) (slice none 0 0) (slice none 0 0) (slice none 0 0) (slice none 0 0) (slice none 0 0))(hb:Below w0.heap.size w0 V)(hn:w0.heap.size<=z/\z+2<=t)(hk:Kp z V V')(hx:Wx V' z (int i64 Z.turn) (int i64 Z.next) (int i64 Z.wide) (int i64 Z.high) k1 k2 k3 k4 k5)
  (p1:Ow V t k1 Z.gs) (p2:Ow V t k2 Z.os) (p3:Ow V t k3 Z.gold) (p4:fD V t k4 Z.us) (p5:fB V t k5 Z.qs):Wt w0 z t Z k1 k2 k3 k4 k5 V':=
 ⟨hx,hy.kp hk (by omega),iR p1 hk (by omega),iR p2 hk (by omega),iR p3 hk (by omega),iR p4 hk (by omega),iR p5 hk (by omega),hk.below hb hb.size hn.1,hn⟩
end
theorem NR(K:Nat)(eK:∀args w,(callFunc K args).run prog w=.ok (.enter K args) w)(cs:Array Value)(I:Nat->Nat->World->Prop)(vk vw vl:Value)(ks:List KV)(X:WV)(ls:List (List bU))(wa w:World)(hk:Kl wa vk ks)(hb:∀k∈ks,k.b.size<=9223372036854775807)(hw:Wl wa vw X)(hl:Py wa vl ls)(hs:Sd wa)(hB:Below wa.heap.size wa w)(hI:I 0 w.heap.size w)(hS:abw K cs ks X ls wa w.heap.size I):
  Calls prog 40 #[vk,vw,vl,.func (Fn.func K) #[] cs] w λe w'=>∃v r F,e=.returned (.tuple #[v,r])/\Er r F/\jQ ks X ls F w w' v/\Below wa.heap.size wa w'/\(F=0->∃s,I (ls.length+1) s w'):=by
 have KK:=aj (dJ hk hb);have H:=aj hw;have SD:=aj (dJ hs hl);have SS:=aj hS;have BA:=aj hB;have I0:=aj hI;have NZ:=aj (hB.size);obtain⟨pl,ql,rfl,cl1,cl2,-⟩:=hl;clear hs hS hB hI;obtain⟨p1,q1,p2,q2,p3,q3,p4,q4,p5,q5,rfl⟩:=aX hw;obtain⟨pk,qk,rfl,ck1,ck2,kc⟩:=hk;clear hb hw kc;go_enter func40,ntmps40;go_upto_region 1 with fail
 obtain⟨B0,X0,Z0⟩:=uD w (int i64 X.turn) (int i64 X.next) (int i64 X.wide) (int i64 X.high) (slice p1 X.gs.length q1) (slice p2 X.os.length q2) (slice p3 X.gold.length q3) (slice p4 X.us.length q4) (slice p5 X.qs.length q5);generalize ((w.alloc _).alloc _)=w0 at *;have BA0:=aj (BA.trans (B0.mono NZ));have xx:=X0.cells;go_wp2_with fail
 refine(gY _ _ ks X w0 (KK.1.below BA0) KK.2 (H.below BA0)).mono ?_;rintro e w1 ⟨r,rfl,hr,hb⟩;obtain⟨fw,hfw⟩:∃f,Wd.aP ks X=f:=⟨_,rfl⟩;have FW:=aj hfw;rw[hfw] at hr;have B1:=aG BA0 hb;have X1:=aj (X0.below hb X0.lt);have Z1:=aj (Z0.below hb Z0.lt);have I1:=aj (SS.keep _ _ _ _ (SS.keep _ _ _ _ I0 (Fr.below B0)) (Fr.below hb));clear hb hfw xx X0 B0 Z0 BA0 I0;rcases hr with⟨rfl,rfl⟩|⟨hf,rfl⟩
 case inr=>
  have HF:=aj hf;clear hf;have zz:=Z1.cells;have tt:=Z1.cO;have KZ:=aj (fH w1 (w.heap.size+1));have yy:=(Z1.nJ).cells;go_wp2;clear zz tt;generalize World.setCell _ _ _=w9 at *;refine bodyPost_ret (by simp[results,results40,go_sem,yy]) rfl ⟨_,_,fw,rfl,Er.no HF,.inl ⟨HF,rfl,.inl ⟨by rw[FW.out];exact HF,FW.symm⟩⟩,KZ.below B1 B1.size (by have:=NZ.out;omega),λh=>absurd h HF⟩
 have WR:=aj (bY FW);have xx:=X1.cells;by_cases hln:200<ls.length
 case pos=>
  have acB:(200:Int)<(ls.length:Int):=by omega
  have VJ:=aj hln;clear hln;have zz:=Z1.cells;have tt:=Z1.cO;have KZ:=aj (fH w1 (w.heap.size+1));have yy:=(Z1.nJ).cells;go_wp2;clear zz tt;generalize World.setCell _ _ _=wz at *;refine bodyPost_ret (by simp[results,results40,go_sem,yy]) rfl ⟨_,_,4,rfl,Er.no (by decide),.inl ⟨by decide,rfl,.inr (.inl ⟨FW,VJ,rfl⟩)⟩,KZ.below B1 B1.size (by have:=NZ.out;omega),λh=>absurd h (by decide)⟩
 have VJ:Hid (ls.length<=200):=aj (by omega);have acB:¬(200:Int)<(ls.length:Int):=by omega
 clear hln;go_wp2_with fail
 refine(jo _ X w1 (H.below B1) WR.len).mono ?_;rintro e w2 ⟨cu,rfl,⟨k1,k2,k3,k4,k5,rfl,⟨o1,o2,o3,o4,o5⟩,-⟩,hb⟩;obtain⟨a1,r1,rfl⟩:=o1.len;obtain⟨a2,r2,rfl⟩:=o2.len;obtain⟨a3,r3,rfl⟩:=o3.len;obtain⟨a4,r4,rfl⟩:=o4.len;obtain⟨a5,r5,rfl⟩:=o5.len;have B2:=aG B1 hb;have X2:=aj (X1.below hb X1.lt);have Z2:=aj (Z1.below hb Z1.lt);have S1:Hid (w.heap.size+2<=w1.heap.size):=Z1.lt;have S2:=aj hb.size;have OA:=aj (iJ o1 o2 o3 o4 o5);have I2:=aj (SS.keep _ _ _ _ I1 (Fr.below hb));clear hb xx X1 B1 Z1 o1 o2 o3 o4 o5 I1;have cc:=X2.cells;have dd:=X2.cO;have KB:=aj (dG w2 w.heap.size (int i64 X.turn) (int i64 X.next) (int i64 X.wide) (int i64 X.high) (slice a1 X.gs.length r1) (slice a2 X.os.length r2) (slice a3 X.gold.length r3) (slice a4 X.us.length r4) (slice a5 X.qs.length r5));have XB:=aj (X2.put (int i64 X.turn) (int i64 X.next) (int i64 X.wide) (int i64 X.high) (slice a1 X.gs.length r1) (slice a2 X.os.length r2) (slice a3 X.gold.length r3) (slice a4 X.us.length r4) (slice a5 X.qs.length r5));go_upto_region 7 with fail
 clear cc dd;generalize World.setCell _ _ _=w5 at *;have T5:=aj (Ua Z2 B2 ⟨NZ,S1⟩ KB XB OA.1 OA.2.1 OA.2.2.1 OA.2.2.2.1 OA.2.2.2.2);have I5:=aj (SS.up _ _ _ _ (SS.keep _ _ _ _ I2 (Fr.kp KB (.inl rfl))) (by have:=S1.out;omega:w.heap.size<=w1.heap.size));have SV:=aj (aJ S2 KB.size);clear KB X2 B2 Z2 OA XB I2;have xx:=T5.x.cells;go_wp2_with fail
 refine(SS.shows 0 _ X _ w5 ⟨FW,VJ⟩ .zero I5 T5.b ⟨T5.n.2,SV⟩ T5.wo).mono ?_;rintro e w6 ⟨rfl,hi,hf⟩;have T6:=aj (T5.shown hf);have I6:=aj hi;clear hi hf xx T5 I5;go_wp2_with fail
 go_loopw [35] (λj V=>∃n:Nat,n<=ls.length/\j=int i64 (n:Nat)/\∃Y,kS ks X ls n Y/\I (n+1) V.heap.size V/\∃s u1 u2 u3 u4 u5,Wt wa w.heap.size s Y u1 u2 u3 u4 u5 V) (λj _=>ls.length-(intOf j).toNat)
 case atStart=>exact⟨0,aZ _,rfl,X,.zero,I6,_,_,_,_,_,_,T6⟩
 case round=>
 obtain⟨n,hn,rfl,Y,hp,hi,s,u1,u2,u3,u4,u5,hT⟩:=hrel;have PR:=aj hp;have TQ:=aj hT;have IQ:=aj hi;clear hp hT hi T6 I6;obtain⟨g1,l1,rfl⟩:=TQ.o1.len;obtain⟨g2,l2,rfl⟩:=TQ.o2.len;obtain⟨g3,l3,rfl⟩:=TQ.o3.len;obtain⟨g4,l4,rfl⟩:=TQ.o4.len;obtain⟨g5,l5,rfl⟩:=TQ.o5.len;have SW:Hid (w.heap.size+2<=wr.heap.size):=TQ.y.lt;by_cases hne:n=ls.length
 case pos=>
  have PE:Hid (kS ks X ls ls.length Y):=by rw[<-hne];exact PR
  subst hne;have xx:=TQ.x.cells;have zz:=TQ.y.cells;have tt:=TQ.y.cO;have KZ:=aj (dG wr (w.heap.size+1) (int i64 Y.turn) (int i64 Y.next) (int i64 Y.wide) (int i64 Y.high) (slice g1 Y.gs.length l1) (slice g2 Y.os.length l2) (slice g3 Y.gold.length l3) (slice g4 Y.us.length l4) (slice g5 Y.qs.length l5));have yy:=(TQ.y.put (int i64 Y.turn) (int i64 Y.next) (int i64 Y.wide) (int i64 Y.high) (slice g1 Y.gs.length l1) (slice g2 Y.os.length l2) (slice g3 Y.gold.length l3) (slice g4 Y.us.length l4) (slice g5 Y.qs.length l5)).cells;go_wp2;clear xx zz tt;generalize World.setCell _ _ _=wt at *;have ZN:=TQ.n;have hNZ:=NZ.out;refine bodyPost_ret (by simp[results,results40,go_sem,yy]) rfl ⟨_,_,0,rfl,Er.nil,.inr ⟨rfl,FW,VJ,Y,PE,_,_,_,_,_,rfl,(TQ.o1.kp KZ (by omega)).mono (by omega),(TQ.o2.kp KZ (by omega)).mono (by omega),(TQ.o3.kp KZ (by omega)).mono (by omega),(TQ.o4.kp KZ (by omega)).mono (by omega),(TQ.o5.kp KZ (by omega)).mono (by omega)⟩,KZ.below TQ.b TQ.b.size (by omega),λ_=>⟨_,SS.keep _ _ _ _ IQ (Fr.kp KZ (.inr (.inl rfl)))⟩⟩
 case neg=>
 have hnl:n<ls.length:=by omega
 have aaC:(n:Int)<(ls.length:Int):=by omega
 have hl2:=VJ.out;obtain⟨l,hl⟩:∃l,ls[n]? =some l:=⟨_,aH hnl⟩;have HL:=aj hl;obtain⟨a',c',e',-,-,hy⟩:=SD.2.below TQ.b;injection e' with e1 e2 e3
 subst e1 e3;obtain⟨xl,rfl,-,hy⟩:=hy (by rintro hn;rw[hn] at hnl;simp at hnl);obtain⟨vo,cv,hvo⟩:=hy n l hl;have VO:=aj hvo;clear hy hl e2 hvo;have xx:=TQ.x.cells;go_wp2_with fail
 clear cv xx;refine(vV _ _ vo ks Y l wr (KK.1.below TQ.b) KK.2 TQ.wl VO (SD.1.below TQ.b)).mono ?_;rintro e w7 ⟨v,ev2,r,rfl,hr,hd,hb⟩;have T7:=aj (TQ.below hb);have I7:=aj (SS.keep _ _ _ _ IQ (Fr.below hb));have S7:=aj hb.size;clear hb;obtain⟨sf,hsf⟩:∃f,cZ ks Y l=f:=⟨_,rfl⟩;have SF:=aj hsf;rw[hsf] at hr;clear hsf;rcases hr with⟨rfl,rfl⟩|⟨hf,rfl⟩
 case inr=>
  have HF:=aj hf;rcases hd with⟨-,rfl,rfl⟩|⟨h,-⟩
  case inr=>rw[SF.out] at h;exact absurd h hf
  clear hf;have BN:Hid (Below _ w7 (w7.alloc (Obj.cells #[int i64 0,int i64 0,int i64 0,int i64 0,slice none 0 0,slice none 0 0,slice none 0 0,slice none 0 0,slice none 0 0] 29))):=aA;go_upto_region 13 with fail
  generalize w7.alloc _=w8 at *;have T8:=aj (T7.below BN);have zz:=T8.y.cells;have tt:=T8.y.cO;have KZ:=aj (fH w8 (w.heap.size+1));have yy:=(T8.y.nJ).cells;go_wp2;clear zz tt;generalize World.setCell _ _ _=wz at *;refine bodyPost_ret (by simp[results,results40,go_sem,yy]) rfl ⟨_,_,sf,rfl,Er.no HF,.inl ⟨HF,rfl,.inr (.inr ⟨FW,VJ,n,Y,l,PR,HL,SF⟩)⟩,KZ.below T8.b T8.b.size (by have:=NZ.out;omega),λh=>absurd h HF⟩
 rcases hd with⟨h,-⟩|⟨-,Z,es,hsr,ho,-⟩
 case inl=>exact absurd SF h
 have PN:Hid (kS ks X ls (n+1) Z):=.turn PR HL SF hsr;obtain⟨v1,v2,v3,v4,v5,rfl,o1,o2,o3,o4,o5⟩:=ho;obtain⟨m1,k1,rfl⟩:=o1.len;obtain⟨m2,k2,rfl⟩:=o2.len;obtain⟨m3,k3,rfl⟩:=o3.len;obtain⟨m4,k4,rfl⟩:=o4.len;obtain⟨m5,k5,rfl⟩:=o5.len;have OZ:=aj (iJ o1 o2 o3 o4 o5);clear o1 o2 o3 o4 o5 hsr;obtain⟨bn,hbn⟩:∃b,w7.heap.size=b:=⟨_,rfl⟩;have BN:=aj ((dU w7.heap.size w7).alloc aN (Obj.cells #[int i64 Z.turn,int i64 Z.next,int i64 Z.wide,int i64 Z.high,(slice m1 Z.gs.length k1),(slice m2 Z.os.length k2),(slice m3 Z.gold.length k3),(slice m4 Z.us.length k4),(slice m5 Z.qs.length k5)] 29));have XN:=aj (Wx.new (w:=w7) (int i64 Z.turn) (int i64 Z.next) (int i64 Z.wide) (int i64 Z.high) (slice m1 Z.gs.length k1) (slice m2 Z.os.length k2) (slice m3 Z.gold.length k3) (slice m4 Z.us.length k4) (slice m5 Z.qs.length k5) hbn);go_upto_region 14 with fail
 (try rw[hbn])
 clear hbn;generalize w7.alloc _=w8 at *;have T8:=aj (T7.below BN);have I8:=aj (SS.keep _ _ _ _ I7 (Fr.below BN));have O8:=aj (iJ (OZ.1.below BN) (OZ.2.1.below BN) (OZ.2.2.1.below BN) (OZ.2.2.2.1.below BN) (OZ.2.2.2.2.below BN));have xx:=XN.cells;have zz:=T8.x.cells;have tt:=T8.x.cO;have KZ:=aj (dG w8 w.heap.size (int i64 Z.turn) (int i64 Z.next) (int i64 Z.wide) (int i64 Z.high) (slice m1 Z.gs.length k1) (slice m2 Z.os.length k2) (slice m3 Z.gold.length k3) (slice m4 Z.us.length k4) (slice m5 Z.qs.length k5));have XZ:=aj (T8.x.put (int i64 Z.turn) (int i64 Z.next) (int i64 Z.wide) (int i64 Z.high) (slice m1 Z.gs.length k1) (slice m2 Z.os.length k2) (slice m3 Z.gold.length k3) (slice m4 Z.us.length k4) (slice m5 Z.qs.length k5));go_upto_region 15 with fail
 clear xx zz tt;generalize World.setCell _ _ _=w9 at *;have T9:=aj (Ua T8.y T8.b ⟨NZ,SW⟩ KZ XZ O8.1 O8.2.1 O8.2.2.1 O8.2.2.2.1 O8.2.2.2.2);have I9:=aj (SS.keep _ _ _ _ I8 (Fr.kp KZ (.inl rfl)));have S9:=aj (aJ S7 (aJ BN.size KZ.size));clear T7 T8 I7 I8 BN XN OZ O8 KZ XZ TQ IQ;have xx:=T9.x.cells;go_wp2_with fail
 refine(SS.shows (n+1) _ Z _ w9 ⟨FW,VJ⟩ PN I9 T9.b ⟨T9.n.2,S9⟩ T9.wo).mono ?_;rintro e w10 ⟨rfl,hi,hf⟩;have TX:=aj (T9.shown hf);have IX:=aj hi;clear hi hf xx T9 I9;go_wp2;go_round
 case rel=>exact⟨n+1,by omega,by go_num,Z,PN,IX,_,_,_,_,_,_,TX⟩
 case measure=>simp[intOf];omega
theorem jQ.shape{ls:List (List bU)}(h:jQ ks X ls F w w' v):∃i1 i2 i3 i4 a1 l1 b1 a2 l2 b2 a3 l3 b3 a4 l4 b4 a5 l5 b5,v=.agg #[int i64 i1,int i64 i2,int i64 i3,int i64 i4,slice a1 l1 b1,slice a2 l2 b2,slice a3 l3 b3,slice a4 l4 b4,slice a5 l5 b5]:=by
 rcases h with⟨-,rfl,-⟩|⟨-,-,-,Y,-,u1,u2,u3,u4,u5,rfl,h1,h2,h3,h4,h5⟩
 ·exact⟨_,_,_,_,_,_,_,_,_,_,_,_,_,_,_,_,_,_,_,rfl⟩
 ·obtain⟨p1,q1,rfl⟩:=h1.len
  obtain⟨p2,q2,rfl⟩:=h2.len;obtain⟨p3,q3,rfl⟩:=h3.len;obtain⟨p4,q4,rfl⟩:=h4.len;obtain⟨p5,q5,rfl⟩:=h5.len;exact⟨_,_,_,_,_,_,_,_,_,_,_,_,_,_,_,_,_,_,_,rfl⟩
theorem jQ.kp{ls:List (List bU)}{w0 w9:World}{z:Nat}(h:jQ ks X ls F w0 w' v)(k:Kp z w' w9)(hz:z<w0.heap.size)(hw:w.heap.size<=w0.heap.size):jQ ks X ls F w w9 v:=by
 rcases h with h|⟨h1,h2,h3,Y,h4,u1,u2,u3,u4,u5,h5,o1,o2,o3,o4,o5⟩
 ·exact .inl h
 ·exact .inr ⟨h1,h2,h3,Y,h4,u1,u2,u3,u4,u5,h5,(o1.kp k hz).mono hw,(o2.kp k hz).mono hw,(o3.kp k hz).mono hw,(o4.kp k hz).mono hw,(o5.kp k hz).mono hw⟩
theorem NT(v:Value)(Y:WV)(w:World)(h:Wl w v Y):Calls prog 42 #[v] w λe w'=>e=.returned (.tuple #[])/\Below w.heap.size w w':=by
 have B0:=(dU w.heap.size w).alloc aN;obtain⟨u1,u2,u3,u4,u5,rfl,-⟩:=h;go_enter func42,ntmps42;go_wp2;go_end0;exact⟨rfl,B0 _⟩
theorem Uc(vk vw vl:Value)(ks:List KV)(X:WV)(ls:List (List bU))(w:World)(hk:Kl w vk ks)(hb:∀k∈ks,k.b.size<=9223372036854775807)(hw:Wl w vw X)(hl:Py w vl ls)(hs:Sd w):
  Calls prog 14 #[vk,vw,vl] w λe w'=>∃v r F,e=.returned (.tuple #[v,r])/\Er r F/\jQ ks X ls F w w' v/\Below w.heap.size w w':=by
 have SE:∀V:World,abw 42 #[] ks X ls V V.heap.size (λ_ _ _=>True):=λV=>⟨λ_ _ _ _ _ _=>trivial,λ_ _ _ _ _ _=>trivial,λ_ _ Y v W _ _ _ _ _ ho=>(NT v Y W ho.l).mono λe w' ⟨he,hb⟩=>⟨he,trivial,Fr.below hb⟩⟩
 have W:=aj (λ(V:World) (b:Below w.heap.size w V)=>NR 42 (by intro args w;go_simp) #[] (λ_ _ _=>True) vk vw vl ks X ls V V (hk.below b) hb (hw.below b) (hl.below b) (hs.below b) aB trivial (SE V));clear SE;obtain⟨p1,q1,p2,q2,p3,q3,p4,q4,p5,q5,rfl⟩:=aX hw;clear hk hb hw hl hs;go_enter func14,ntmps14;go_upto_region 1 with fail
 obtain⟨B0,X0,Z0⟩:=uD w (int i64 X.turn) (int i64 X.next) (int i64 X.wide) (int i64 X.high) (slice p1 X.gs.length q1) (slice p2 X.os.length q2) (slice p3 X.gold.length q3) (slice p4 X.us.length q4) (slice p5 X.qs.length q5);generalize ((w.alloc _).alloc _)=w0 at *;have xx:=X0.cells;go_wp2_with fail
 refine(W w0 B0).mono ?_;rintro e w1 ⟨v,r,F,rfl,he,hp,hb,-⟩;obtain⟨i1,i2,i3,i4,a1,l1,b1,a2,l2,b2,a3,l3,b3,a4,l4,b4,a5,l5,b5,rfl⟩:=hp.shape;have Z1:=aj (Z0.below hb Z0.lt);have H:=aj (fQ he hp (B0.trans (hb.mono B0.size)));clear he hp hb xx X0;have zz:=Z1.cells;have tt:=Z1.cO;have KZ:=aj (dG w1 (w.heap.size+1) (int i64 i1) (int i64 i2) (int i64 i3) (int i64 i4) (slice a1 l1 b1) (slice a2 l2 b2) (slice a3 l3 b3) (slice a4 l4 b4) (slice a5 l5 b5));have yy:=(Z1.put (int i64 i1) (int i64 i2) (int i64 i3) (int i64 i4) (slice a1 l1 b1) (slice a2 l2 b2) (slice a3 l3 b3) (slice a4 l4 b4) (slice a5 l5 b5)).cells;go_wp2;clear zz tt;generalize World.setCell _ _ _=w9 at *;refine bodyPost_ret (v:=.tuple #[.agg #[int i64 i1,int i64 i2,int i64 i3,int i64 i4,slice a1 l1 b1,slice a2 l2 b2,slice a3 l3 b3,slice a4 l4 b4,slice a5 l5 b5],r]) (by simp[results,results14,go_sem,yy]) rfl ⟨_,_,_,rfl,H.1,H.2.1.kp KZ Z0.lt B0.size,KZ.below H.2.2 H.2.2.size (by omega)⟩
end
section
open Wy
variable {Hn Wn i n:Nat} {X Y:WV} {c c' left:Int} {cells:List Int} {evs:List dZ} {j:bM} {k:KV} {ks:List KV} {u:aI} {us us':List aI}
theorem NV{l:List Int}{p:Int->Bool}{F F':Int}(h:nU l n p c F)(h':nU l n p c' F'):c=c'/\F=F':=by
 have no:∀{m k:Nat} {c:Int},(rch l m n)[k]? =some c->p c=true->(rch l m n).any p=false->False:=λhk hp ha=>by
  rw[bK] at ha;exact ha _ (aT hk) hp
 rcases h with⟨e1,e2,h⟩|⟨e1,m,k,hm,hk,hp,ht,hj⟩
 ·rcases h' with⟨f1,f2,h'⟩|⟨f1,m',k',hm',hk',hp',ht',hj'⟩
  ·exact⟨by rw[e2,f2],by rw[e1,f1]⟩
  ·exact(no hk' hp' (h m' hm')).elim
 ·rcases h' with⟨f1,f2,h'⟩|⟨f1,m',k',hm',hk',hp',ht',hj'⟩
  ·exact(no hk hp (h' m hm)).elim
  ·have em:m=m':=by
    rcases Nat.lt_trichotomy m m' with hl|hl|hl
    ·exact(no hk hp (hj' m hl)).elim
    ·exact hl
    ·exact(no hk' hp' (hj m' hl)).elim
   subst em;have ek:k=k':=by
    rcases Nat.lt_trichotomy k k' with hl|hl|hl
    ·rw[bK] at ht'
     exact(ht' c (aT (by rw[eP,if_pos hl];exact hk)) hp).elim
    ·exact hl
    ·rw[bK] at ht
     exact(ht c' (aT (by rw[eP,if_pos hl];exact hk')) hp').elim
   subst ek;rw[hk] at hk';injection hk' with e
   exact⟨e,by rw[e1,f1]⟩
theorem vW{p:aI->Bool}(h:mM p us (i:Nat)):∃x,us[i]? =some x/\p x=true/\(us.take i).any p=false:=by
 rcases h with⟨e,-⟩|⟨k,x,e,h1,h2,h3⟩
 ·omega
 ·obtain rfl:i=k:=by omega
  exact⟨x,h1,h2,h3⟩
theorem NW{p:aI->Bool}{j:Nat}(h:mM p us (i:Nat))(k:mM p us (j:Nat)):i=j:=by
 obtain⟨x,x1,x2,x3⟩:=vW h;obtain⟨y,y1,y2,y3⟩:=vW k;rcases Nat.lt_trichotomy i j with hl|hl|hl
 ·rw[bK] at y3
  exact(y3 x (aT (by rw[eP,if_pos hl];exact x1)) x2).elim
 ·exact hl
 ·rw[bK] at x3
  exact(x3 y (aT (by rw[eP,if_pos hl];exact y1)) y2).elim
theorem yB{unit kind c F c' F':Int}(h:nV ks X unit kind c F)(h':nV ks X unit kind c' F'):c=c'/\F=F':=by
 have last:∀{c F:Int},(∃(i kn Wn Hn an:Nat) (u:aI) (k:KV) (l:List Int),mM (λu=>u.id==unit) X.us (i:Nat)/\X.us[i]? =some u/\kind=(kn:Nat)/\ks[kn]? =some k/\X.wide=(Wn:Nat)/\X.high=(Hn:Nat)/\Fd.Good Wn Hn X.gs X.os/\u.at_=(an:Nat)/\an<Wn*Hn
   /\Wy.dK (Fd.near Wn Hn) (λi _=>(X.gs.map λg=>Fd.onto g k.f).getD i 0) an (Wn*Hn) l/\nU l (Wn*Hn) (Gf X.us) c F)->X.us.any (λu=>u.id==unit)=true/\(0<=kind/\kind<(ks.length:Int)):=by
  rintro c F ⟨i,kn,Wn,Hn,an,u,k,l,h1,h2,h3,h4,-⟩;obtain⟨x,x1,x2,-⟩:=vW h1;refine⟨gK.2 ⟨x,aT x1,x2⟩,by omega,?_⟩;have:=(aK.1 h4).1;omega
 rcases h with⟨a1,a2,a3⟩|⟨a1,a2,a3,a4⟩|⟨a1,a2,a3,a4,a5⟩|⟨a1,a⟩
 ·rcases h' with⟨b1,b2,b3⟩|⟨b1,-⟩|⟨b1,-⟩|⟨b1,-⟩
  ·exact⟨by rw[a3,b3],by rw[a2,b2]⟩
  all_goals exact absurd b1 a1
 ·rcases h' with⟨b1,b2,b3⟩|⟨b1,b2,b3,b4⟩|⟨b1,b2,b3,b4,b5⟩|⟨b1,b⟩
  ·exact absurd a1 b1
  ·exact⟨by rw[a4,b4],by rw[a3,b3]⟩
  ·rw[a2] at b2;cases b2
  ·have:=(last b).1;rw[a2] at this;cases this
 ·rcases h' with⟨b1,b2,b3⟩|⟨b1,b2,b3,b4⟩|⟨b1,b2,b3,b4,b5⟩|⟨b1,b⟩
  ·exact absurd a1 b1
  ·rw[a2] at b2;cases b2
  ·exact⟨by rw[a5,b5],by rw[a4,b4]⟩
  ·exact absurd (last b).2 a3
 ·rcases h' with⟨b1,b2,b3⟩|⟨b1,b2,b3,b4⟩|⟨b1,b2,b3,b4,b5⟩|⟨b1,b⟩
  ·exact absurd a1 b1
  ·have:=(last a).1;rw[b2] at this;cases this
  ·exact absurd (last a).2 b3
  ·obtain⟨i,kn,Wn,Hn,an,u,k,l,h1,h2,h3,h4,h5,h6,-,h8,-,h10,h11⟩:=a
   obtain⟨i',kn',Wn',Hn',an',u',k',l',g1,g2,g3,g4,g5,g6,-,g8,-,g10,g11⟩:=b;obtain rfl:=NW h1 g1;rw[h2] at g2;injection g2 with e
   subst e;obtain rfl:kn=kn':=by omega
   rw[h4] at g4;injection g4 with e
   subst e;obtain rfl:Wn=Wn':=by omega
   obtain rfl:Hn=Hn':=by omega
   obtain rfl:an=an':=by omega
   obtain rfl:=Wy.dK.uniq h10 g10;exact NV h11 g11
theorem N_(h:Comes ks Y j c)(h':Comes ks Y j c'):c=c':=(yB h.1 h'.1).1
theorem yC(h:Comes ks Y j c)(h':pU ks Y j):False:=by
 obtain⟨c',F,h1,h2⟩:=h';obtain⟨rfl,rfl⟩:=yB h.1 h1;rcases h2 with h2|h2
 ·exact h2 rfl
 ·exact h2 h.2
theorem Yj{q:Nat}{es:List dZ}{qs:List bM}(t:Tr ks X q Y es qs):∀{Y':WV} {es':List dZ} {rE:List bM},Tr ks X q Y' es' rE->Y=Y'/\es=es'/\qs=rE:=by
 induction t with
 |zero=>intro Y' es' rE t';cases t';exact⟨rfl,rfl,rfl⟩
 | @wait q Y es qs j t0 ho hl ih=>
  intro Y' es' rE t';cases t' with
  |wait t1 ho1 hl1=>
   rw[ho] at ho1;injection ho1 with e;subst e
   obtain⟨rfl,rfl,rfl⟩:=ih t1;exact⟨rfl,rfl,rfl⟩
  |come t1 ho1 hl1 _=>rw[ho] at ho1;injection ho1 with e;subst e;exact absurd hl1 hl
  |stay t1 ho1 hl1 _=>rw[ho] at ho1;injection ho1 with e;subst e;exact absurd hl1 hl
 | @come q Y es qs j c t0 ho hl hc ih=>
  intro Y' es' rE t';cases t' with
  |wait t1 ho1 hl1=>rw[ho] at ho1;injection ho1 with e;subst e;exact absurd hl hl1
  |come t1 ho1 hl1 hc1=>
   rw[ho] at ho1;injection ho1 with e;subst e
   obtain⟨rfl,rfl,rfl⟩:=ih t1;obtain rfl:=N_ hc hc1;exact⟨rfl,rfl,rfl⟩
  |stay t1 ho1 hl1 hn=>
   rw[ho] at ho1;injection ho1 with e;subst e
   obtain⟨rfl,rfl,rfl⟩:=ih t1;exact(yC hc hn).elim
 | @stay q Y es qs j t0 ho hl hn ih=>
  intro Y' es' rE t';cases t' with
  |wait t1 ho1 hl1=>rw[ho] at ho1;injection ho1 with e;subst e;exact absurd hl hl1
  |come t1 ho1 hl1 hc1=>
   rw[ho] at ho1;injection ho1 with e;subst e
   obtain⟨rfl,rfl,rfl⟩:=ih t1;exact(yC hc1 hn).elim
  |stay t1 ho1 hl1 _=>
   rw[ho] at ho1;injection ho1 with e;subst e
   obtain⟨rfl,rfl,rfl⟩:=ih t1;exact⟨rfl,rfl,rfl⟩
open Go.RowKit
theorem vX(h:Goes ks X Wn Hn k i us left cells us'):∃(u:aI) (c:Nat) (gg:Int),us[i]? =some u/\gV ks {X with us:=us} Wn Hn u k c/\X.gs[c]? =some gg/\
  (((left<Fd.onto gg k.f\/us.any (λo=>o.at_==(c:Int))=true)/\cells=[]/\us'=us)\/(¬left<Fd.onto gg k.f/\us.any (λo=>o.at_==(c:Int))=false/\∃cells',cells=(c:Int)::cells'/\Goes ks X Wn Hn k i (us.set i {u with at_:=(c:Nat)}) (left-Fd.onto gg k.f) cells' us')):=by
 cases h with
 |stop hu hw hg h=>exact⟨_,_,_,hu,hw,hg,.inl ⟨h,rfl,rfl⟩⟩
 |step hu hw hg h1 h2 h3=>exact⟨_,_,_,hu,hw,hg,.inr ⟨h1,h2,_,rfl,h3⟩⟩
theorem sV(h:Moves ks X Wn Hn n us evs us'):(n=us.length/\evs=[]/\us'=us)\/∃(u u1:aI) (k:KV) (cells:List Int) (us1:List aI) (tu:List dZ),us[n]? =some u/\ks[u.kind.toNat]? =some k/\Goes ks X Wn Hn k n us k.n4 cells us1/\us1[n]? =some u1/\Moves ks X Wn Hn (n+1) (us1.set n (ends u1)) tu us'/\evs=cells.map (λc=>(⟨1,u.id,c⟩:dZ))++tu:=by
 cases h with
 |done h=>exact .inl ⟨h,rfl,rfl⟩
 |unit hu hk hg h1 hm=>exact .inr ⟨_,_,_,_,_,_,hu,hk,hg,h1,hm,rfl⟩
theorem Ud(h:mX ks X Wn Hn u k c)(h':mX ks X Wn Hn u k c'):c=c':=by
 rcases h with⟨h1,h2⟩|⟨h1,h2,h3⟩|⟨h1,h2,l,h3,h4⟩
 ·rcases h' with⟨g1,g2⟩|⟨g1,-⟩|⟨g1,-⟩
  ·rw[h2,g2]
  ·exact absurd h1 g1
  ·omega
 ·rcases h' with⟨g1,g2⟩|⟨g1,g2,g3⟩|⟨g1,g2,-⟩
  ·exact absurd g1 h1
  ·rw[h3,g3]
  ·exact absurd ⟨g1,g2⟩ h2
 ·rcases h' with⟨g1,g2⟩|⟨g1,g2,g3⟩|⟨g1,g2,l',g3,g4⟩
  ·omega
  ·exact absurd ⟨h1,h2⟩ g2
  ·have:l=l':=h3.1.uniq g3.1
   subst this;rw[h4,g4]
theorem yD{c c':Nat}(h:gV ks X Wn Hn u k c)(h':gV ks X Wn Hn u k c'):c=c':=by
 obtain⟨an,bn,l,h1,h2,-,h3,h4⟩:=h;obtain⟨an',bn',l',g1,g2,-,g3,g4⟩:=h';obtain rfl:an=an':=by omega
 obtain rfl:bn=bn':=by have:=Ud h2 g2;omega
 have:l=l':=h3.1.uniq g3.1;subst this;rcases h4 with⟨h4,h5⟩|⟨h4,h5⟩
 ·rcases g4 with⟨g4,g5⟩|⟨g4,-⟩
  ·rw[h5,g5]
  ·omega
 ·rcases g4 with⟨g4,-⟩|⟨-,g5⟩
  ·omega
  ·exact h5.uniq g5
theorem Oc(h:Goes ks X Wn Hn k i us left cells us'):∀{cells2:List Int} {us2:List aI},Goes ks X Wn Hn k i us left cells2 us2->cells=cells2/\us'=us2:=by
 induction h with
 |stop hu hw hg h=>
  intro cells2 us2 h';obtain⟨u',c',gg',hu',hw',hg',hh⟩:=vX h';rw[hu] at hu';injection hu' with hu'
  subst hu';obtain rfl:=yD hw hw';rw[hg] at hg';injection hg' with hg'
  subst hg';rcases hh with⟨-,h1,h2⟩|⟨h1,h2,-⟩
  ·exact⟨h1.symm,h2.symm⟩
  ·rcases h with h|h
   ·exact absurd h h1
   ·rw[h] at h2;cases h2
 |step hu hw hg h1 h2 h3 ih=>
  intro cells2 us2 h';obtain⟨u',c',gg',hu',hw',hg',hh⟩:=vX h';rw[hu] at hu';injection hu' with hu'
  subst hu';obtain rfl:=yD hw hw';rw[hg] at hg';injection hg' with hg'
  subst hg';rcases hh with⟨g1,-⟩|⟨-,-,cells',g1,g2⟩
  ·rcases g1 with g1|g1
   ·exact absurd g1 h1
   ·rw[h2] at g1;cases g1
  ·obtain⟨e1,e2⟩:=ih g2
   exact⟨by rw[g1,e1],e2⟩
theorem Iw(h:Moves ks X Wn Hn n us evs us'):∀{wW:List dZ} {us2:List aI},Moves ks X Wn Hn n us wW us2->evs=wW/\us'=us2:=by
 induction h with
 |done h=>
  intro wW us2 h';rcases sV h' with⟨-,h1,h2⟩|⟨u,u1,k,cells,us1,tu,hu,-⟩
  ·exact⟨h1.symm,h2.symm⟩
  ·have:=(aK.1 hu).1
   omega
 |unit hu hk hg h1 hm ih=>
  intro wW us2 h';rcases sV h' with⟨h2,-⟩|⟨u',u1',k',cells',us1',tu,hu',hk',hg',h1',hm',he⟩
  ·have:=(aK.1 hu).1
   omega
  ·rw[hu] at hu'
   injection hu' with hu'
   subst hu';rw[hk] at hk';injection hk' with hk'
   subst hk';obtain⟨e1,e2⟩:=Oc hg hg';subst e1;subst e2;rw[h1] at h1';injection h1' with h1'
   subst h1';obtain⟨e3,e4⟩:=ih hm';exact⟨by rw[he,e3],e4⟩
end
section
open Go.RowKit Go.Proofs.YtolfphmdmpehdaaGreatDoor.So
variable {X Y:WV} {es:List dZ} {ks:List KV} {l:List bU} {n:Nat}
theorem Yk{Wn Hn:Nat}{A:WV}(p:Ph ks Wn Hn A n Y es):∀{Y':WV} {es':List dZ},Ph ks Wn Hn A n Y' es'->Y=Y'/\es=es':=by
 induction p with
 |zero=>intro Y' es' q;cases q;exact⟨rfl,rfl⟩
 |one t=>
  intro Y' es' q;cases q with
  |one t'=>obtain⟨rfl,rfl,rfl⟩:=Yj t t';exact⟨rfl,rfl⟩
 |two p0 m ih=>
  intro Y' es' q;cases q with
  |two q0 m'=>
   obtain⟨rfl,rfl⟩:=ih q0;obtain⟨rfl,rfl⟩:=Iw m m';exact⟨rfl,rfl⟩
 |three p0 ih=>
  intro Y' es' q;cases q with
  |three q0=>obtain⟨rfl,rfl⟩:=ih q0;exact⟨rfl,rfl⟩
 |four p0 ih=>
  intro Y' es' q;cases q with
  |four q0=>obtain⟨rfl,rfl⟩:=ih q0;exact⟨rfl,rfl⟩
theorem Oe{Y':WV}{es':List dZ}(h:oh ks X l Y es)(h':oh ks X l Y' es'):Y=Y'/\es=es':=by
 obtain⟨out,Wn,Hn,Z,a1,a2,a3,a4,rfl⟩:=h;obtain⟨out',Wn',Hn',Z',b1,b2,b3,b4,rfl⟩:=h';obtain rfl:=a1.one b1;obtain rfl:Wn=Wn':=by omega
 obtain rfl:Hn=Hn':=by omega
 obtain⟨rfl,rfl⟩:=Yk a4 b4;exact⟨rfl,rfl⟩
theorem oL{ls:List (List bU)}(h:kS ks X ls n Y):∀{Y':WV},kS ks X ls n Y'->Y=Y':=by
 induction h with
 |zero=>intro Y' k;cases k;rfl
 |turn p hl hf hs ih=>
  intro Y' k;cases k with
  |turn p' hl' hf' hs'=>
   obtain rfl:=ih p';rw[hl] at hl';injection hl' with e
   subst e;exact(Oe hs hs').1
theorem Iy(hf:cZ ks X l=0)(h:oh ks X l Y es):Wd.aP ks Y=0/\Y.turn=X.turn+1:=by
 have hw:Wd.aP ks X=0:=by
  by_cases e:Wd.aP ks X=0
  ·exact e
  ·rw[zX e] at hf;exact absurd hf e
 have ht:¬1000000<=X.turn:=λe=>by rw[Ir hw e] at hf;cases hf
 have ho:Od.faults l=0:=by rw[Iu hw ht] at hf;exact hf
 have R:=bY hw;obtain⟨out,Wn,Hn,Z,a1,a2,a3,a4,rfl⟩:=h;obtain⟨g1,g2,g3⟩:=tV (ks:=ks) (Y:=X) (out:=out) out.length;have AR:=qE R (out:=out) (λo h=>(Od.jC ho).2 o (a1.mem h)) out.length;obtain⟨r,-,-,t,-⟩:=a4.keep AR (by rw[g2,a2]) (by rw[g3,a3]);have tx:=t.trans g1;refine⟨?_,by show Z.turn+1=_;rw[tx]⟩;obtain⟨W',H',e1,e2,G⟩:=r.good;refine Wd.fZ r.kinds (by show Fd.fault Z.wide Z.high Z.gs Z.os=0;rw[e1,e2];exact Fd.eU G) ?_ r.ul (λi u hu=>?_) r.ql (λj hj=>r.job hj)
 ·have hn:=r.nums
  unfold Wd.b_ at hn ⊢;simp only[Bool.or_eq_false_iff] at hn ⊢;refine⟨?_,hn.2⟩;have h1:=hn.1;unfold Wd.off at h1 ⊢;simp at h1 ⊢;omega
 ·obtain⟨k,F⟩:=r.fine hu
  exact⟨k,F.id1,F.id2,F.up,F.p,F.k0,F.kk,F.life,F.load,F.task,F.at_,F.goal,F.opn,F.rest⟩
end
namespace Wy
variable {i n t:Nat} {l p ss:List Int}
theorem uO.two{nb:Nat->List Int}{ss l:List Int}{t i:Nat}{p:List Int}(h:uO nb ss l t i p):∀k,k+1<p.length->∃x y:Nat,p[k]? =some (x:Int)/\p[k+1]? =some (y:Int)/\Nx nb ss l x y:=by
 induction h with
 |here=>intro k hk;simp at hk
 | @step i j p h1 h2 h3 ih=>
  intro k hk;cases k with
  |zero=>exact⟨i,j,rfl,by simpa using h3.head,h2⟩
  |succ k=>
   obtain⟨x,y,a1,a2,a3⟩:=ih k (by simpa using hk);exact⟨x,y,by simpa using a1,by simpa using a2,a3⟩
theorem uO.pos{nb:Nat->List Int}(h:uO nb ss l t i p):0<p.length:=by
 cases h<;>simp
theorem uO.cells{nb:Nat->List Int}(hn:∀(i j:Nat),i<n->(j:Int)∈nb i->j<n)(h:uO nb ss l t i p)(hi:i<n):∀(k:Nat) (x:Int),p[k]? =some x->∃y:Nat,x=y/\y<n:=by
 induction h with
 |here=>
  intro k x hx;cases k with
  |zero=>simp at hx;exact⟨t,hx.symm,hi⟩
  |succ k=>simp at hx
 | @step i j p h1 h2 h3 ih=>
  intro k x hx;cases k with
  |zero=>simp at hx;exact⟨i,hx.symm,hi⟩
  |succ k=>exact ih (hn i j hi h2.is.1) k x (by simpa using hx)
def aaD(nb:Nat->List Int)(st:Nat->Nat->Int)(l:List Int)(n:Nat):Bool:=(List.range n).all λi=>(nb i).all λx=>decide (¬(0<st i x.toNat/\0<=l.getD x.toNat 0)\/(0<=l.getD i 0/\l.getD i 0<=st i x.toNat+l.getD x.toNat 0))
theorem Du{nb:Nat->List Int}{st:Nat->Nat->Int}(h:aaD nb st l n=true):∀i,i<n->Shut nb st l i:=by
 intro i hi j x y hx hy hj h0 y0;unfold aaD at h;rw[lH] at h;have h1:=h i (List.mem_range.2 hi);rw[lH] at h1;have h2:=of_decide_eq_true (h1 j hj);rw[bF,qH hx,qH hy] at h2;rcases h2 with h2|h2
 ·exact absurd ⟨h0,y0⟩ h2
 ·exact h2
def s6:Nat->Nat->Int:=λ_ j=>(([0,1,0,0,3,0]:List Int).map λg=>Fd.onto g false).getD j 0
def s3:Nat->Nat->Int:=λi _=>(([0,3,0]:List Int).map λg=>Fd.onto g false).getD i 0
theorem three:dK (Fd.near 3 1) s3 0 3 [0,2,3]:=by
 have w0:Way (Fd.near 3 1) s3 0 0 0:=.here;have w1:Way _ s3 0 1 2:=Way.step (by decide) (by decide) w0;have w2:Way _ s3 0 2 3:=Way.step (by decide) (by decide) w1;refine FD rfl ?_ rfl ?_ (Du (by decide))
 ·intro i j hi hj
  obtain⟨t,h1,h2,-⟩:=Fd.rU (W:=3) (H:=1) (by decide) hi hj;omega
 ·intro i x hx
  match i,hx with
  |0,hx=>simp at hx;subst hx;exact .inr w0
  |1,hx=>simp at hx;subst hx;exact .inr w1
  |2,hx=>simp at hx;subst hx;exact .inr w2
  |i+3,hx=>simp at hx
end Wy
section
open Go.RowKit
variable {gold hg rF wd:Int} {gs os:List Int} {ks:List KV} {u1 u2:Value} {w:World} {z:Nat}
namespace Wd
def bare(wd hg:Int)(gs os:List Int):WV:=⟨0,1,wd,hg,gs,os,[],[],[]⟩
def h_(ks:List KV)(wd hg:Int)(gs os:List Int)(rF gold:Int):Int:=if ground ks (bare wd hg gs os)=0 then(if(1<=rF/\rF<=4)/\0<=gold/\gold<=1000000 then 0 else 1) else ground ks (bare wd hg gs os)
def begun(ks:List KV)(wd hg:Int)(gs os:List Int)(rF gold:Int):WV:=if h_ ks wd hg gs os rF gold=0 then⟨0,1,wd,hg,gs,os,List.replicate rF.toNat gold,[],[]⟩ else WV.zero
end Wd
theorem r_(h:Wd.h_ ks wd hg gs os rF gold≠0):Wd.begun ks wd hg gs os rF gold=WV.zero:=by unfold Wd.begun;rw[if_neg h]
theorem Dv(h:Wd.h_ ks wd hg gs os rF gold=0):Wd.begun ks wd hg gs os rF gold=⟨0,1,wd,hg,gs,os,List.replicate rF.toNat gold,[],[]⟩:=by unfold Wd.begun;rw[if_pos h]
structure Bx(w:World)(z:Nat)(wd hg:Int)(u1 u2:Value):Prop where
 c0:w.cell? ⟨z,0,none⟩=some (int i64 wd)
 c1:w.cell? ⟨z,1,none⟩=some (int i64 hg)
 c2:w.cell? ⟨z,2,none⟩=some u1
 c3:w.cell? ⟨z,3,none⟩=some u2
theorem Bx.lt(h:Bx w z wd hg u1 u2):z<w.heap.size:=cell_lt h.c0
theorem Bx.below{w':World}{n:Nat}(h:Bx w z wd hg u1 u2)(hb:Below n w w')(hn:z<n):Bx w' z wd hg u1 u2:=
 ⟨by rw[hb.cell (p:=⟨z,0,none⟩) hn];exact h.c0,by rw[hb.cell (p:=⟨z,1,none⟩) hn];exact h.c1,by rw[hb.cell (p:=⟨z,2,none⟩) hn];exact h.c2,by rw[hb.cell (p:=⟨z,3,none⟩) hn];exact h.c3⟩
theorem Bx.mk'(wd hg:Int)(u1 u2:Value)(hz:w.heap.size=z):Bx (w.alloc (.cells #[int i64 wd,int i64 hg,u1,u2] 25)) z wd hg u1 u2:=by
 subst hz;constructor<;>simp
theorem new_any(vk vf:Value)(ks:List KV)(wd hg:Int)(gs os:List Int)(rF gold:Int)(w:World)(hk:Kl w vk ks)(hb:∀k∈ks,k.b.size<=9223372036854775807)(hf:Fl w vf wd hg gs os):
  Calls prog 38 #[vk,vf,int i64 rF,int i64 gold] w λe w'=>∃u r,e=.returned (.tuple #[u,r])/\Er r (Wd.h_ ks wd hg gs os rF gold)/\Wo w' w.heap.size u (Wd.begun ks wd hg gs os rF gold)/\Below w.heap.size w w':=by
 have K:Hid (Kl w vk ks/\∀k∈ks,k.b.size<=9223372036854775807):=⟨hk,hb⟩;have F:=aj (hf);obtain⟨u1,u2,rfl,r1,r2⟩:=hf;obtain⟨p1,q1,rfl,-⟩:=r1;obtain⟨p2,q2,rfl,-⟩:=r2;clear hb hk;go_enter func38,ntmps38;go_upto_region 1 with fail
 have B0:Hid (Below _ w ((w.alloc (.cells #[int i64 wd,int i64 hg,slice p1 gs.length q1,slice p2 os.length q2] 25)).alloc (.cells #[int i64 0,int i64 0,int i64 0,int i64 0,slice none 0 0,slice none 0 0,slice none 0 0,slice none 0 0,slice none 0 0] 29))):=aA.alloc (by simp) _;have X0:Hid (Bx ((w.alloc _).alloc (.cells #[int i64 0,int i64 0,int i64 0,int i64 0,slice none 0 0,slice none 0 0,slice none 0 0,slice none 0 0,slice none 0 0] 29)) _ wd hg (slice p1 gs.length q1) (slice p2 os.length q2)):=(Bx.mk' _ _ _ _ rfl).below aA (by simp);have Z0:Hid (Wx ((w.alloc (.cells #[int i64 wd,int i64 hg,slice p1 gs.length q1,slice p2 os.length q2] 25)).alloc _) (w.heap.size+1) (int i64 0) (int i64 0) (int i64 0) (int i64 0) (slice none 0 0) (slice none 0 0) (slice none 0 0) (slice none 0 0) (slice none 0 0)):=Wx.new _ _ _ _ _ _ _ _ _ (by simp);have S0:Hid (w.heap.size+2<=((w.alloc (.cells #[int i64 wd,int i64 hg,slice p1 gs.length q1,slice p2 os.length q2] 25)).alloc (.cells #[int i64 0,int i64 0,int i64 0,int i64 0,slice none 0 0,slice none 0 0,slice none 0 0,slice none 0 0,slice none 0 0] 29)).heap.size):=by unfold Hid;simp
 generalize ((w.alloc _).alloc _)=w0 at *;obtain⟨x0,x1,x2,x3⟩:=X0.out;go_wp2_with fail
 refine(uz _ _ ks (Wd.bare wd hg gs os) w0 (K.1.below B0) K.2 (F.below B0)).mono ?_;rintro e w1 ⟨r,rfl,hr,hb1⟩;clear x0 x1 x2 x3;have B1:=aG B0 hb1;have X1:=aj (X0.below hb1 X0.lt);have Z1:=aj (Z0.below hb1 Z0.lt);have S1:=aj (aJ S0 hb1.size);clear hb1 B0 X0 Z0 S0;rcases hr with⟨hf,rfl⟩|⟨hf,rfl⟩
 case inr=>
  obtain⟨fe,hfe⟩:∃f,Wd.ground ks (Wd.bare wd hg gs os)=f:=⟨_,rfl⟩;have Kt:Hid (fe≠0):=by rw[<-hfe];exact hf
  have FE:Hid (Wd.h_ ks wd hg gs os rF gold=fe):=by unfold Hid Wd.h_;rw[if_neg hf];exact hfe
  rw[hfe];clear hf hfe;have zz:=Z1.cells;have tt:=Z1.cO;have KZ:=aj (fH w1 (w.heap.size+1));have yy:=(Z1.nJ).cells;go_wp2;clear zz tt;generalize World.setCell _ ⟨_,8,none⟩ _=w9 at *;refine bodyPost_ret (v:=.tuple #[.agg #[int i64 0,int i64 0,int i64 0,int i64 0,slice none 0 0,slice none 0 0,slice none 0 0,slice none 0 0,slice none 0 0],.iface 85 (int i64 fe)]) (by simp[results,results38,go_sem,yy]) rfl ⟨_,_,rfl,by rw[FE.out];exact Er.no Kt,by rw[r_ (by rw[FE.out];exact Kt.out)];exact oG _ _,KZ.below B1 B1.size (by omega)⟩
 have HF:=aj (hf);have NF:Hid (Wd.h_ ks wd hg gs os rF gold=if(1<=rF/\rF<=4)/\0<=gold/\gold<=1000000 then 0 else 1):=by unfold Hid Wd.h_;rw[if_pos hf]
 have GL:Hid (gs.length<=144/\os.length<=144):=by
  unfold Wd.ground at hf;split at hf
  ·obtain⟨Wn,Hn,-,-,G⟩:=Fd.pF hf
   have h1:=G.pos;have h2:=G.gl;have h3:=G.ol;unfold Wd.bare at h2 h3;exact⟨by simp only at h2;omega,by simp only at h3;omega⟩
  ·rename_i h0
   exact absurd hf h0
 clear hf;by_cases hp:1<=rF/\rF<=4
 case neg=>
  have t:=decide_eq_false hp;have Kt:Hid ((1:Int)≠0):=by unfold Hid;decide
  have FE:Hid (Wd.h_ ks wd hg gs os rF gold=1):=by unfold Hid;rw[NF.out,if_neg (λh=>hp h.1)]
  clear hp;go_wp2_with fail
  refine(dh rF 1 4 w1).mono ?_;rintro e w2 ⟨rfl,jS⟩;obtain rfl:=jS.symm;rw[t];clear t;have zz:=Z1.cells;have tt:=Z1.cO;have KZ:=aj (fH w1 (w.heap.size+1));have yy:=(Z1.nJ).cells;go_wp2;clear zz tt;generalize World.setCell _ ⟨_,8,none⟩ _=w9 at *;refine bodyPost_ret (v:=.tuple #[.agg #[int i64 0,int i64 0,int i64 0,int i64 0,slice none 0 0,slice none 0 0,slice none 0 0,slice none 0 0,slice none 0 0],.iface 85 (int i64 1)]) (by simp[results,results38,go_sem,yy]) rfl ⟨_,_,rfl,by rw[FE.out];exact Er.no Kt,by rw[r_ (by rw[FE.out];exact Kt.out)];exact oG _ _,KZ.below B1 B1.size (by omega)⟩
 have t:=decide_eq_true hp;go_wp2_with fail
 refine(dh rF 1 4 w1).mono ?_;rintro e w2 ⟨rfl,jS⟩;obtain rfl:=jS.symm;rw[t];clear t;by_cases hgd:0<=gold/\gold<=1000000
 case neg=>
  have t:=decide_eq_false hgd;have Kt:Hid ((1:Int)≠0):=by unfold Hid;decide
  have FE:Hid (Wd.h_ ks wd hg gs os rF gold=1):=by unfold Hid;rw[NF.out,if_neg (λh=>hgd h.2)]
  clear hgd hp;go_wp2_with fail
  refine(dh gold 0 1000000 w1).mono ?_;rintro e w2 ⟨rfl,jS⟩;obtain rfl:=jS.symm;rw[t];clear t;have zz:=Z1.cells;have tt:=Z1.cO;have KZ:=aj (fH w1 (w.heap.size+1));have yy:=(Z1.nJ).cells;go_wp2;clear zz tt;generalize World.setCell _ ⟨_,8,none⟩ _=w9 at *;refine bodyPost_ret (v:=.tuple #[.agg #[int i64 0,int i64 0,int i64 0,int i64 0,slice none 0 0,slice none 0 0,slice none 0 0,slice none 0 0,slice none 0 0],.iface 85 (int i64 1)]) (by simp[results,results38,go_sem,yy]) rfl ⟨_,_,rfl,by rw[FE.out];exact Er.no Kt,by rw[r_ (by rw[FE.out];exact Kt.out)];exact oG _ _,KZ.below B1 B1.size (by omega)⟩
 have t:=decide_eq_true hgd;have F0:Hid (Wd.h_ ks wd hg gs os rF gold=0):=by unfold Hid;rw[NF.out,if_pos ⟨hp,hgd⟩]
 go_wp2_with fail
 refine(dh gold 0 1000000 w1).mono ?_;rintro e w2 ⟨rfl,jS⟩;obtain rfl:=jS.symm;rw[t];clear t;obtain⟨n,rfl⟩:∃n:Nat,rF=n:=⟨rF.toNat,by omega⟩;have hn:0<n/\n<=4:=by omega
 have HN:=aj (hn);clear hp hgd hn;go_wp2_with fail
 have BA:Hid (Below _ w1 (w1.alloc (Obj.cells #[int i64 gold] 3))):=aA;have RA:Hid (Ro _ (slice (some ⟨w1.heap.size,0,none⟩) 1 1) [gold]):=Ro.EX gold rfl;generalize (w1.alloc _)=wa at *;refine(xP gold _ n wa RA (HN.1) (by have:=HN.out.2;omega)).mono ?_;rintro e w2 ⟨b,rfl,-,hbk,hb2⟩;have BW:=aG BA hb2;have B2:=aG B1 BW;have X2:=aj (X1.below BW X1.lt);have Z2:=aj (Z1.below BW Z1.lt);have S2:=aj (aJ S1 BW.size);have G2:Hid (Ro w2 (slice (some ⟨b,0,none⟩) n n) (List.replicate n gold)):=by
  unfold Hid;have:=hbk.ro (c:=n) (by simp) (by have:=HN.out.2;omega);simpa using this
 clear hb2 hbk B1 X1 Z1 S1 BA RA BW;obtain⟨x0,x1,x2,x3⟩:=X2.out;go_wp2_with fail
 have F2:=F.below B2;obtain⟨v1,v2,he,f1,f2⟩:=F2;injection he with he
 simp only[Array.mk.injEq,List.cons.injEq,and_true,true_and] at he;obtain⟨rfl,rfl⟩:=he;refine(jo _ ⟨0,1,wd,hg,gs,os,List.replicate n gold,[],[]⟩ w2 ⟨_,_,_,_,_,rfl,f1,f2,G2,⟨none,0,rfl,aU _,by omega,λh=>absurd rfl h⟩,⟨none,0,rfl,aU _,by omega,λh=>absurd rfl h⟩⟩ ⟨by have:=GL.out.1;simp only;omega,by have:=GL.out.2;simp only;omega,by have:=HN.out.2;simp only[jB];omega,by simp,by simp⟩).mono ?_;rintro e w3 ⟨u,rfl,ho,hb3⟩;clear f1 f2 x0 x1 x2 x3;have B3:=aG B2 hb3;have Z3:=aj (Z2.below hb3 Z2.lt);obtain⟨v1,v2,v3,v4,v5,rfl,o1,o2,o3,o4,o5⟩:=ho.wo.mono S2;have O3:=aj (iJ o1 o2 o3 o4 o5);obtain⟨a1,b1,rfl⟩:=o1.len;obtain⟨a2,b2,rfl⟩:=o2.len;obtain⟨a3,b3,rfl⟩:=o3.len;obtain⟨a4,b4,rfl⟩:=o4.len;obtain⟨a5,b5,rfl⟩:=o5.len;simp only[jB,aS] at O3 ⊢;clear ho hb3 o1 o2 o3 o4 o5 B2 X2 Z2 S2 G2;have zz:=Z3.cells;have tt:=Z3.cO;have KZ:=aj (dG w3 (w.heap.size+1) (int i64 0) (int i64 1) (int i64 wd) (int i64 hg) (slice a1 gs.length b1) (slice a2 os.length b2) (slice a3 n b3) (slice a4 0 b4) (slice a5 0 b5));have yy:=(Z3.put (int i64 0) (int i64 1) (int i64 wd) (int i64 hg) (slice a1 gs.length b1) (slice a2 os.length b2) (slice a3 n b3) (slice a4 0 b4) (slice a5 0 b5)).cells;go_wp2;clear zz tt;generalize World.setCell _ ⟨_,8,none⟩ _=w9 at *;refine bodyPost_ret (v:=.tuple #[.agg #[int i64 0,int i64 1,int i64 wd,int i64 hg,slice a1 gs.length b1,slice a2 os.length b2,slice a3 n b3,slice a4 0 b4,slice a5 0 b5],.nilIface]) (by simp[results,results38,go_sem,yy]) rfl ⟨_,_,rfl,by rw[F0.out];exact Er.nil,?_,KZ.below B3 B3.size (by omega)⟩;rw[Dv F0.out,bF];exact⟨_,_,_,_,_,rfl,(O3.1.kp KZ (by omega)).mono (by omega),(O3.2.1.kp KZ (by omega)).mono (by omega),(O3.2.2.1.kp KZ (by omega)).mono (by omega),(O3.2.2.2.1.kp KZ (by omega)).mono (by omega),(O3.2.2.2.2.kp KZ (by omega)).mono (by omega)⟩
end
namespace Fd
variable {W i r:Nat} {g o x:Int} {gs l os:List Int}
def abx(g:Int):UInt8:=if g=0 then 46 else if g=1 then 35 else if g=2 then 126 else 94
def wP(g o:Int):UInt8:=if o=0 then abx g else if o%10=0/\o<=90 then(48+(o/10).toNat).toUInt8 else 43
def iC(W:Nat)(gs os:List Int)(r c:Nat):List UInt8:=(List.range c).map λj=>wP (gs.getD (r*W+j) 0) (os.getD (r*W+j) 0)
def ni(W:Nat)(gs os:List Int):Nat->List UInt8
 |0=>[]
 |r+1=>ni W gs os r++(iC W gs os r W++[10])
theorem ny(W:Nat)(gs os:List Int)(r c:Nat):iC W gs os r (c+1)=iC W gs os r c++[wP (gs.getD (r*W+c) 0) (os.getD (r*W+c) 0)]:=by
 unfold iC;rw[List.range_succ,kH];rfl
structure St where
 c:Nat
 W:Nat
 H:Nat
 gs:List Int
 os:List Int
def st0:St:=⟨0,0,0,[],[]⟩
def meant(b:UInt8):Option (Int×Int):=
 if 49<=b.toNat/\b.toNat<=57 then some (0,((b.toNat:Int)-48)*10) else if b=46 then some (0,0) else if b=35 then some (1,0) else if b=126 then some (2,0) else if b=94 then some (3,0) else none
def step(s:St)(b:UInt8):Int ⊕ St:=
 if b=10 then(if s.c=0\/(0<s.H/\s.c≠s.W) then .inl 2 else .inr ⟨0,s.c,s.H+1,s.gs,s.os⟩)
 else match meant b with
  |none=>.inl 2
  |some (g,o)=>if 0<s.H/\s.c=s.W then .inl 2 else if s.c=12\/s.H=12 then .inl 4 else .inr ⟨s.c+1,s.W,s.H,s.gs++[g],s.os++[o]⟩
def run:St->Nat->List UInt8->(Nat×Int) ⊕ St
 |s,_,[]=>.inr s
 |s,i,b::bs=>match step s b with
  | .inl e=>.inl (i,e)
  | .inr s'=>run s' (i+1) bs
def parse(l:List UInt8):(Nat×Int) ⊕ St:=
 match run st0 0 l with
 | .inl x=>.inl x
 | .inr s=>if 0<s.c\/s.H=0 then .inl (l.length,2) else .inr s
theorem Ue(s:St)(i:Nat)(b:UInt8)(bs:List UInt8):run s i (b::bs)=match step s b with| .inl e=>.inl (i,e)| .inr s'=>run s' (i+1) bs:=rfl
def Iz(g o:Int):Prop:=0<=g/\g<=3/\0<=o/\o<=90/\o%10=0/\(0<o->g=0)
theorem Og{b:UInt8}(h:meant b=some (g,o)):wP g o=b/\Iz g o:=by
 unfold meant at h;split at h
 ·rename_i hb
  simp only[Option.some.injEq,Prod.mk.injEq] at h;obtain⟨rfl,rfl⟩:=h;have e1:(((b.toNat:Int)-48)*10)/10=(b.toNat:Int)-48:=by omega
  refine⟨?_,by unfold Iz;omega⟩;unfold wP;rw[if_neg (by omega),if_pos (by omega),e1,show 48+((b.toNat:Int)-48).toNat=b.toNat by omega];exact UInt8.ofNat_toNat
 ·split at h
  ·rename_i hb
   simp only[Option.some.injEq,Prod.mk.injEq] at h;obtain⟨rfl,rfl⟩:=h;exact⟨by rw[hb];rfl,by unfold Iz;omega⟩
  ·split at h
   ·rename_i hb
    simp only[Option.some.injEq,Prod.mk.injEq] at h;obtain⟨rfl,rfl⟩:=h;exact⟨by rw[hb];rfl,by unfold Iz;omega⟩
   ·split at h
    ·rename_i hb
     simp only[Option.some.injEq,Prod.mk.injEq] at h;obtain⟨rfl,rfl⟩:=h;exact⟨by rw[hb];rfl,by unfold Iz;omega⟩
    ·split at h
     ·rename_i hb
      simp only[Option.some.injEq,Prod.mk.injEq] at h;obtain⟨rfl,rfl⟩:=h;exact⟨by rw[hb];rfl,by unfold Iz;omega⟩
     ·cases h
theorem qU(h:i<l.length):(l++[x]).getD i 0=l.getD i 0:=by
 rw[dD,dD,iV h]
theorem oW(h:i=l.length):(l++[x]).getD i 0=x:=by
 subst h;rw[dD,jy aN];simp
theorem qV{c:Nat}(h1:r*W+c<=gs.length)(h2:r*W+c<=os.length):iC W (gs++[g]) (os++[o]) r c=iC W gs os r c:=by
 induction c with
 |zero=>rfl
 |succ c ih=>
  rw[ny,ny,ih (by omega) (by omega),qU (by omega),qU (by omega)]
theorem Dw(h1:r*W<=gs.length)(h2:r*W<=os.length):ni W (gs++[g]) (os++[o]) r=ni W gs os r:=by
 induction r with
 |zero=>rfl
 |succ r ih=>
  rw[Nat.add_mul] at h1 h2;simp only[ni];rw[ih (by omega) (by omega),qV (by omega) (by omega)]
theorem zY(W V:Nat)(gs os:List Int)(c:Nat):iC W gs os 0 c=iC V gs os 0 c:=by
 unfold iC;simp
structure Inv(s:St)(l:List UInt8):Prop where
 w0:s.H=0->s.W=0
 wp:0<s.H->0<s.W
 cw:0<s.H->s.c<=s.W
 c12:s.c<=12
 w12:s.W<=12
 h12:s.H<=12
 top:s.H=12->s.c=0
 gl:s.gs.length=s.H*s.W+s.c
 ol:s.os.length=s.H*s.W+s.c
 aby:∀(i:Nat) g o,s.gs[i]? =some g->s.os[i]? =some o->Iz g o
 text:l=ni s.W s.gs s.os s.H++iC s.W s.gs s.os s.H s.c
theorem inv0:Inv st0 []:=⟨λ_=>rfl,λh=>by simp[st0] at h,λh=>by simp[st0] at h,by simp[st0],by simp[st0],by simp[st0],λh=>by simp[st0] at h,rfl,rfl,λi g o h=>by simp[st0] at h,rfl⟩
theorem vY{y:Int}(h:(l++[x])[i]? =some y):(i<l.length/\l[i]? =some y)\/(i=l.length/\y=x):=by
 rcases Nat.lt_or_ge i l.length with h1|h1
 ·left;rw[iV h1] at h;exact⟨h1,h⟩
 ·right
  rw[jy h1] at h;have h2:i-l.length=0:=by
   rcases Nat.eq_zero_or_pos (i-l.length) with h2|h2
   ·exact h2
   ·rw[List.getElem?_eq_none (by simp;omega)] at h;cases h
  rw[h2] at h;simp at h;exact⟨by omega,h.symm⟩
theorem Inv.step{s s':St}{l:List UInt8}{b:UInt8}(h:Inv s l)(hs:step s b=.inr s'):Inv s' (l++[b]):=by
 unfold Fd.step at hs;split at hs
 ·rename_i hb
  subst hb;split at hs
  ·cases hs
  ·rename_i hc
   injection hs with hs
   subst hs;have hc0:0<s.c:=by omega
   have hcw:0<s.H->s.c=s.W:=by omega
   have hh:s.H≠12:=λe=>by have:=h.top e;omega
   have h12:=h.h12;have c12:=h.c12
   have el:s.H*s.W+s.c=(s.H+1)*s.c:=by
    rcases Nat.eq_zero_or_pos s.H with e|e
    ·rw[e];simp
    ·rw[<-hcw e,Nat.add_mul,Nat.one_mul]
   refine⟨by simp,by simp;exact hc0,by simp,by simp,c12,by show s.H+1<=12;omega,by simp,?_,?_,h.aby,?_⟩
   ·show s.gs.length=(s.H+1)*s.c+0;rw[h.gl,el];rfl
   ·show s.os.length=(s.H+1)*s.c+0;rw[h.ol,el];rfl
   ·show l++[10]=ni s.c s.gs s.os (s.H+1)++iC s.c s.gs s.os (s.H+1) 0
    rw[h.text];simp only[ni];rcases Nat.eq_zero_or_pos s.H with e|e
    ·rw[e,zY s.W s.c]
     simp[ni,iC]
    ·rw[<-hcw e]
     simp[iC]
 ·split at hs
  ·cases hs
  ·rename_i g o hm
   split at hs
   ·cases hs
   ·split at hs
    ·cases hs
    ·rename_i h1 h2
     injection hs with hs
     subst hs;obtain⟨e1,e2⟩:=Og hm;have cw:=h.cw;have c12:=h.c12;have h12:=h.h12
     refine⟨h.w0,h.wp,λhp=>?_,?_,h.w12,h.h12,λe=>?_,?_,?_,?_,?_⟩
     ·show s.c+1<=s.W;have:=cw hp;have:0<s.H:=hp;omega
     ·show s.c+1<=12;omega
     ·exfalso;have:s.H=12:=e;omega
     ·show(s.gs++[g]).length=s.H*s.W+(s.c+1);rw[aC,h.gl];rfl
     ·show(s.os++[o]).length=s.H*s.W+(s.c+1);rw[aC,h.ol];rfl
     ·intro i g' o' hg ho
      rcases vY hg with⟨l1,q1⟩|⟨l1,q1⟩
      ·rcases vY ho with⟨l2,q2⟩|⟨l2,q2⟩
       ·exact h.aby i g' o' q1 q2
       ·have:=h.gl;have:=h.ol;omega
      ·rcases vY ho with⟨l2,q2⟩|⟨l2,q2⟩
       ·have:=h.gl;have:=h.ol;omega
       ·rw[q1,q2];exact e2
     ·show l++[b]=ni s.W (s.gs++[g]) (s.os++[o]) s.H++iC s.W (s.gs++[g]) (s.os++[o]) s.H (s.c+1)
      have:=h.gl;have:=h.ol
      rw[Dw (by omega) (by omega),ny,qV (by omega) (by omega),oW (by omega),oW (by omega),e1,h.text,bT]
theorem Inv.run{s s':St}{l m:List UInt8}(h:Inv s l)(hs:run s i m=.inr s'):Inv s' (l++m):=by
 induction m generalizing s l i with
 |nil=>
  simp only[Fd.run] at hs;injection hs with hs
  subst hs;simpa using h
 |cons b bs ih=>
  rw[Ue] at hs;cases hb:Fd.step s b with
  |inl e=>rw[hb] at hs;cases hs
  |inr s1=>
   rw[hb] at hs;have:=ih (h.step hb) hs;rwa[bT] at this
section
variable {W H:Nat} {gs os:List Int} (G:Good W H gs os) (ht:∀o∈os,o<=90/\o%10=0)
include G ht
end
end Fd
section
variable {a c i t:Nat} {l out:List bU}
def SG:List Int:=[0,0,0,0,0,0,0,0]
def SO:List Int:=[0,0,0,0,0,0,30,0]
def S0:WV:=⟨0,1,4,2,SG,SO,[100,100],[],[]⟩
def S1:WV:=⟨0,2,4,2,SG,SO,[100,100],[⟨1,0,0,0,50,0,0,0⟩],[]⟩
def S2:WV:=⟨0,3,4,2,SG,SO,[100,100],[⟨1,0,0,0,50,0,0,0⟩,⟨2,0,1,1,10,0,0,0⟩],[]⟩
def S3:WV:=⟨0,4,4,2,SG,SO,[100,100],[⟨1,0,0,0,50,0,0,0⟩,⟨2,0,1,1,10,0,0,0⟩,⟨3,1,2,3,20,0,0,0⟩],[]⟩
theorem Uf:Fd.parse [46,46,46,46,10,46,46,51,46,10]=.inr ⟨0,4,2,SG,SO⟩:=by rfl
namespace So
def IC(o:bU):Bool:=decide (o.what=3)
theorem yE{l:List bU}:∀(q:Nat),q<=l.length->((kp l q).map Prod.fst).countP IC=(l.take q).countP IC
 |0,_=>by simp[kp]
 |q+1,h=>by
  have hq:q<l.length:=by omega
  have ih:=yE (l:=l) q (by omega);obtain⟨o,ho⟩:∃o,l[q]? =some o:=⟨_,aH hq⟩;rw[dM hq,List.countP_append,<-ih];have e:l[q]=o:=by have:=aH hq;rw[ho] at this;exact(dQ this).symm
  rw[e];by_cases hc:o.what=3\/lf l l.length o.ay o.unit=(q:Nat)
  ·rw[vO ho hc,kH,List.countP_append]
   rfl
  ·rw[YW ho hc]
   have h3:IC o=false:=by unfold IC;exact decide_eq_false (λh=>hc (.inl h))
   simp[h3]
theorem dA.PU(h:dA l out):out.countP IC=l.countP IC:=by
 obtain⟨S,p,r,rfl⟩:=h;have h1:=yE (l:=l) l.length aN;rw[rG] at h1;rw[<-h1];exact(p.map Prod.fst).countP_eq IC
theorem dA.has(h:dA l out){o:bU}(ho:l[i]? =some o)(h3:¬o.what=3)(hn:∀(k:Nat) x,i<k->k<l.length->l[k]? =some x->x.what=3\/x.ay≠o.ay\/x.unit≠o.unit):o∈out:=by
 obtain⟨S,p,r,rfl⟩:=h;have hi:i<l.length:=(aK.1 ho).1;exact jg.2 ⟨(o,i),p.mem_iff.2 (YX ho (.inr (zS ho h3 hi hn)) hi),rfl⟩
theorem dA.once(h:dA l out){k:Nat}{x y:bU}(hki:k<i)(hx:out[k]? =some x)(hy:out[i]? =some y)(h3:¬x.what=3)(h4:¬y.what=3)(hp:x.ay=y.ay):¬x.unit=y.unit:=by
 intro hu;obtain⟨S,p,r,rfl⟩:=h;rw[fG] at hx hy;obtain⟨a,ha,rfl⟩:=Option.map_eq_some_iff.1 hx;obtain⟨b,hb,rfl⟩:=Option.map_eq_some_iff.1 hy;obtain⟨-,-,ka⟩:=qc (p.mem_iff.1 (aT ha));obtain⟨-,-,kb⟩:=qc (p.mem_iff.1 (aT hb));have e1:=ka.resolve_left h3;have e2:=kb.resolve_left h4;rw[hp,hu,e2] at e1;have tg:S.Pairwise (λx y=>x.2≠y.2):=(p.symm.pairwise_iff (λ{a b} (h:a.2≠b.2)=>h.symm)).1 ((oJ (l:=l) l.length).imp (λh=>by omega));obtain⟨la,ea⟩:=aK.1 ha;obtain⟨lb,eb⟩:=aK.1 hb;have:=List.pairwise_iff_getElem.1 tg k i la lb hki;rw[ea,eb] at this;omega
def l0:List bU:=[⟨0,2,1,5⟩,⟨0,1,0,0⟩,⟨0,2,1,6⟩]
end So
namespace So
def Ro2(x y:bU):Prop:=¬EH y x/\(¬x.what=3->¬y.what=3->x.ay=y.ay->¬x.unit=y.unit)
theorem dA.lo(h:dA l out):out.Pairwise Ro2:=by
 rw[List.pairwise_iff_getElem];intro k i hk hi hki;refine⟨?_,λh3 h4 hp=>h.once hki (aH hk) (aH hi) h3 h4 hp⟩;obtain⟨S,p,r,rfl⟩:=h;simp only[lG] at hk hi;have:=List.pairwise_iff_getElem.1 r k i hk hi hki;simp only[List.getElem_map];rcases this with h|h
 ·exact Td h
 ·exact h.1
theorem Ug{out:List bU}(h:out.Pairwise Ro2):∀q,q<=out.length->(kp out q).map Prod.fst=out.take q
 |0,_=>by simp[kp]
 |q+1,hq=>by
  have hl:q<out.length:=by omega
  obtain⟨o,ho⟩:∃o,out[q]? =some o:=⟨_,aH hl⟩;have ih:=Ug h q (by omega);have hc:o.what=3\/lf out out.length o.ay o.unit=(q:Nat):=by
   by_cases h3:o.what=3
   ·exact .inl h3
   ·refine .inr (zS ho h3 hl λk x h1 h2 hx=>?_)
    by_cases hx3:x.what=3
    ·exact .inl hx3
    ·refine .inr ?_
     have:=(List.pairwise_iff_getElem.1 h q k hl h2 h1).2;have e1:out[q]=o:=by have:=aH hl;rw[ho] at this;exact(dQ this).symm
     have e2:out[k]=x:=by have:=aH h2;rw[hx] at this;exact(dQ this).symm
     rw[e1,e2] at this;by_cases hp:x.ay=o.ay
     ·exact .inr (λhu=>this h3 hx3 hp.symm hu.symm)
     ·exact .inl hp
  have e1:out[q]=o:=by have:=aH hl;rw[ho] at this;exact(dQ this).symm
  rw[vO ho hc,kH,ih,dM hl,e1];rfl
theorem zZ(h:out.Pairwise Ro2):dA out out:=by
 have e:=Ug h out.length aN;rw[rG] at e;refine⟨kp out out.length,List.Perm.refl _,?_,e.symm⟩;have h1:=oJ (l:=out) out.length;have h2:((kp out out.length).map Prod.fst).Pairwise Ro2:=by rw[e];exact h
 rw[List.pairwise_map] at h2;exact(h1.and h2).imp λ⟨a,b⟩=>.inr ⟨b.1,a⟩
theorem dA.fault(h:dA l out)(hf:Od.faults l=0):Od.faults out=0:=by
 obtain⟨h1,h2⟩:=Od.jC hf;exact Od.xK (aJ h.len h1) λo ho=>h2 o (h.mem ho)
def l1:List bU:=[⟨1,7,1,5⟩,⟨1,7,0,0⟩]
end So
open Go.Proofs.YtolfphmdmpehdaaGreatDoor.So Go.RowKit
namespace Wy
def snd(nb:Nat->List Int)(st:Nat->Nat->Int)(t:Nat)(l:List Int)(n:Nat):Bool:=(List.range n).all λi=>(decide (i=t)&&decide (l.getD i 0=0))||(nb i).any λx=>decide (0<=x)&&decide (0<st i x.toNat)&&decide (0<=l.getD x.toNat (-1))&&decide (l.getD i 0=st i x.toNat+l.getD x.toNat (-1))
theorem Oh{nb:Nat->List Int}{st:Nat->Nat->Int}{l:List Int}{n:Nat}(hn:l.length=n)(h:snd nb st t l n=true):Sound nb st t l:=by
 have key:∀(m i:Nat) (x:Int),l[i]? =some x->x<=(m:Int)->Way nb st t i x:=by
  intro m
  induction m using Nat.strongRecOn with
  |ind m ih=>
   intro i x hx hm;have hi:i<n:=by rw[<-hn];exact(aK.1 hx).1
   unfold snd at h;rw[lH] at h;have h1:=h i (List.mem_range.2 hi);have hg:l.getD i 0=x:=by rw[dD,hx];rfl
   rw[Bool.or_eq_true] at h1;rcases h1 with h1|h1
   ·rw[Bool.and_eq_true,decide_eq_true_eq,decide_eq_true_eq,hg] at h1
    obtain⟨rfl,rfl⟩:=h1;exact .here
   ·rw[gK] at h1
    obtain⟨y,hy,h2⟩:=h1;simp only[Bool.and_eq_true,decide_eq_true_eq,hg] at h2;obtain⟨⟨⟨h3,h4⟩,h5⟩,h6⟩:=h2;have hyl:∃z,l[y.toNat]? =some z/\l.getD y.toNat (-1)=z:=by
     rw[dD] at h5 ⊢;cases e:l[y.toNat]? with
     |none=>rw[e] at h5;simp at h5
     |some z=>exact⟨z,rfl,rfl⟩
    obtain⟨z,hz,ez⟩:=hyl;rw[ez] at h5 h6;have hz0:z<(m:Int):=by omega
    have hw:=ih z.toNat (by omega) y.toNat z hz (by omega);rw[h6];exact .step (by rw[Int.toNat_of_nonneg h3];exact hy) h4 hw
 intro i x hx;by_cases h0:0<=x
 ·exact .inr (key x.toNat i x hx (by omega))
 ·exact .inr (key 0 i x hx (by omega))
theorem qW{W H:Nat}{st:Nat->Nat->Int}{l:List Int}(hW:0<W)(h1:l.length=W*H)(h2:l[t]? =some 0)(h3:snd (Fd.near W H) st t l (W*H)=true)(h4:aaD (Fd.near W H) st l (W*H)=true):dK (Fd.near W H) st t (W*H) l:=by
 refine FD h1 ?_ h2 (Oh h1 h3) (Du h4);intro i j hi hj;obtain⟨t,h1,h2,-⟩:=Fd.rU (W:=W) (H:=H) hW hi hj;omega
theorem lX{l:List Int}(h:l.all (λx=>decide (x<0\/x+2<=2*told l))=true):Flat l:=by
 intro i x hx;rw[lH] at h;have:=h x (aT hx);simpa using this
theorem vZ{nb:Nat->List Int}{ss l:List Int}{j:Nat}(k:Nat)(h1:(nb i)[k]? =some (j:Int))(h2:pn ss l i j=true)(h3:((nb i).take k).any (pn ss l i)=false):Nx nb ss l i j:=⟨k,h1,h2,h3⟩
end Wy
open Wy
def OB:KV:=⟨⟨#[98,97,115,101]⟩,50,0,0,0,0,0,0,0,false,true⟩
def OD:KV:=⟨⟨#[100,105,103,103,101,114]⟩,10,0,0,0,2,0,0,20,false,false⟩
def OK:List KV:=[OB,OD]
def Zh:List Int:=SG.map λg=>Fd.onto g false
def ob:aI:=⟨1,0,0,0,50,0,0,0⟩
def od(a ld tk g:Int):aI:=⟨2,0,1,a,10,ld,tk,g⟩
def OW(tn:Int)(zi:Int)(gold:Int)(d:aI):WV:=⟨tn,3,4,2,SG,[0,0,0,0,0,0,zi,0],[gold],[ob,d],[]⟩
def l0:List Int:=[0,1,2,3,1,2,3,4]
def l6:List Int:=[3,2,1,2,2,1,0,1]
def l2:List Int:=[2,1,0,1,3,2,1,2]
def l1:List Int:=[1,0,1,2,2,1,2,3]
theorem abz:dK (Fd.near 4 2) (λ_ j=>Zh.getD j 0) 0 8 l0:=qW (W:=4) (H:=2) (by decide) rfl rfl (by decide+kernel) (by decide+kernel)
theorem acC:dK (Fd.near 4 2) (λ_ j=>Zh.getD j 0) 6 8 l6:=qW (W:=4) (H:=2) (by decide) rfl rfl (by decide+kernel) (by decide+kernel)
theorem abA:dK (Fd.near 4 2) (λi _=>Zh.getD i 0) 6 8 l6:=qW (W:=4) (H:=2) (by decide) rfl rfl (by decide+kernel) (by decide+kernel)
theorem abB:dK (Fd.near 4 2) (λi _=>Zh.getD i 0) 2 8 l2:=qW (W:=4) (H:=2) (by decide) rfl rfl (by decide+kernel) (by decide+kernel)
theorem abC:dK (Fd.near 4 2) (λi _=>Zh.getD i 0) 1 8 l1:=qW (W:=4) (H:=2) (by decide) rfl rfl (by decide+kernel) (by decide+kernel)
theorem aaE(tn zi gold:Int)(d:aI):gV OK (OW tn zi gold d) 4 2 ob OB 0:=⟨0,0,l0,rfl,.inl ⟨rfl,rfl⟩,by decide,⟨abz,lX (by decide+kernel)⟩,.inr ⟨by decide,.inl ⟨rfl,rfl⟩⟩⟩
theorem IE(tn zi gold:Int)(d:aI):Goes OK (OW tn zi gold d) 4 2 OB 0 [ob,d] OB.n4 [] [ob,d]:=
 .stop (u:=ob) (c:=0) (gg:=0) rfl (aaE tn zi gold d) rfl (.inl (by decide))
theorem z_(tn zi gold:Int){ld:Int}(h1:(ld==20||zi==0)=false)(h2:YP (Fd.near 4 2) Zh l6 6 a c)(h3:0<=l6.getD a 0):gV OK (OW tn zi gold (od a ld 2 6)) 4 2 (od a ld 2 6) OD c:=
 ⟨a,6,l6,rfl,.inr (.inl ⟨by simp[od],λh=>by
  have h9:nY (OW tn zi gold (od a ld 2 6)).os (od a ld 2 6) OD=(ld==20||zi==0):=rfl;rw[h9,h1] at h;exact Bool.noConfusion h.2,rfl⟩),by decide,⟨acC,lX (by decide+kernel)⟩,.inr ⟨h3,h2⟩⟩
theorem IG(tn zi gold:Int){l:List Int}(hl:dK (Fd.near 4 2) (λi _=>Zh.getD i 0) a 8 l)(hf:Flat l)(hh:mW OK [ob,od a 20 2 6] l (od a 20 2 6)=0)(h2:YP (Fd.near 4 2) Zh l0 0 a c)(h3:0<=l0.getD a 0):gV OK (OW tn zi gold (od a 20 2 6)) 4 2 (od a 20 2 6) OD c:=
 ⟨a,0,l0,rfl,.inr (.inr ⟨rfl,rfl,l,⟨hl,hf⟩,hh.symm⟩),by decide,⟨abz,lX (by decide+kernel)⟩,.inr ⟨h3,h2⟩⟩
theorem aaF:∃evs,Moves OK (OW 0 30 0 (od 1 0 2 6)) 4 2 0 [ob,od 1 0 2 6] evs [ob,od 6 0 2 6]:=by
 have g3:Goes OK (OW 0 30 0 (od 1 0 2 6)) 4 2 OD 1 [ob,od 6 0 2 6] 0 [] [ob,od 6 0 2 6]:=.stop (u:=od 6 0 2 6) (c:=6) (gg:=0) rfl (z_ 0 30 0 (a:=6) (by decide) (.inl ⟨rfl,rfl⟩) (by decide)) rfl (.inl (by decide));have g2:Goes OK (OW 0 30 0 (od 1 0 2 6)) 4 2 OD 1 [ob,od 2 0 2 6] 1 [6] [ob,od 6 0 2 6]:=.step (u:=od 2 0 2 6) (c:=6) (gg:=0) rfl (z_ 0 30 0 (a:=2) (by decide) (.inr ⟨by decide,vZ 2 (by decide+kernel) (by decide+kernel) (by decide+kernel)⟩) (by decide)) rfl (by decide) (by decide) g3;have g1:Goes OK (OW 0 30 0 (od 1 0 2 6)) 4 2 OD 1 [ob,od 1 0 2 6] OD.n4 [2,6] [ob,od 6 0 2 6]:=.step (u:=od 1 0 2 6) (c:=2) (gg:=0) rfl (z_ 0 30 0 (a:=1) (by decide) (.inr ⟨by decide,vZ 1 (by decide+kernel) (by decide+kernel) (by decide+kernel)⟩) (by decide)) rfl (by decide) (by decide) g2;exact⟨_,.unit (u:=ob) (k:=OB) (u1:=ob) rfl rfl (IE _ _ _ _) rfl (.unit (u:=od 1 0 2 6) (k:=OD) (u1:=od 6 0 2 6) rfl rfl g1 rfl (.done rfl))⟩
theorem aaG:∃evs,Moves OK (OW 1 20 0 (od 6 10 2 6)) 4 2 0 [ob,od 6 10 2 6] evs [ob,od 6 10 2 6]:=by
 have g1:Goes OK (OW 1 20 0 (od 6 10 2 6)) 4 2 OD 1 [ob,od 6 10 2 6] OD.n4 [] [ob,od 6 10 2 6]:=.stop (u:=od 6 10 2 6) (c:=6) (gg:=0) rfl (z_ 1 20 0 (a:=6) (by decide) (.inl ⟨rfl,rfl⟩) (by decide)) rfl (.inr (by decide));exact⟨_,.unit (u:=ob) (k:=OB) (u1:=ob) rfl rfl (IE _ _ _ _) rfl (.unit (u:=od 6 10 2 6) (k:=OD) (u1:=od 6 10 2 6) rfl rfl g1 rfl (.done rfl))⟩
theorem aaH:∃evs,Moves OK (OW 2 10 0 (od 6 20 2 6)) 4 2 0 [ob,od 6 20 2 6] evs [ob,od 1 20 2 6]:=by
 have g3:Goes OK (OW 2 10 0 (od 6 20 2 6)) 4 2 OD 1 [ob,od 1 20 2 6] 0 [] [ob,od 1 20 2 6]:=.stop (u:=od 1 20 2 6) (c:=0) (gg:=0) rfl (IG 2 10 0 (a:=1) abC (lX (by decide+kernel)) (by decide+kernel) (.inr ⟨by decide,vZ 0 (by decide+kernel) (by decide+kernel) (by decide+kernel)⟩) (by decide)) rfl (.inl (by decide));have g2:Goes OK (OW 2 10 0 (od 6 20 2 6)) 4 2 OD 1 [ob,od 2 20 2 6] 1 [1] [ob,od 1 20 2 6]:=.step (u:=od 2 20 2 6) (c:=1) (gg:=0) rfl (IG 2 10 0 (a:=2) abB (lX (by decide+kernel)) (by decide+kernel) (.inr ⟨by decide,vZ 0 (by decide+kernel) (by decide+kernel) (by decide+kernel)⟩) (by decide)) rfl (by decide) (by decide) g3;have g1:Goes OK (OW 2 10 0 (od 6 20 2 6)) 4 2 OD 1 [ob,od 6 20 2 6] OD.n4 [2,1] [ob,od 1 20 2 6]:=.step (u:=od 6 20 2 6) (c:=2) (gg:=0) rfl (IG 2 10 0 (a:=6) abA (lX (by decide+kernel)) (by decide+kernel) (.inr ⟨by decide,vZ 0 (by decide+kernel) (by decide+kernel) (by decide+kernel)⟩) (by decide)) rfl (by decide) (by decide) g2;exact⟨_,.unit (u:=ob) (k:=OB) (u1:=ob) rfl rfl (IE _ _ _ _) rfl (.unit (u:=od 6 20 2 6) (k:=OD) (u1:=od 1 20 2 6) rfl rfl g1 rfl (.done rfl))⟩
def oo:bU:=⟨0,2,2,6⟩
def OX:WV:=OW 0 30 0 (od 1 0 0 0)
theorem gv1:(gv OK OX [oo] 1).1=OW 0 30 0 (od 1 0 2 6):=by rfl
theorem acD:YR OK 4 2 (OW 0 30 0 (od 6 0 2 6))=OW 0 20 0 (od 6 10 2 6):=by rfl
theorem acE:YR OK 4 2 (OW 1 20 0 (od 6 10 2 6))=OW 1 10 0 (od 6 20 2 6):=by rfl
theorem acF:YR OK 4 2 (OW 2 10 0 (od 1 20 2 6))=OW 2 10 20 (od 1 0 2 6):=by rfl
theorem fgt(tn zi gold a ld:Int)(h:True):og OK 4 (OW tn zi gold (od a ld 2 6))=OW tn zi gold (od a ld 2 6):=by rfl
theorem Uh{A B C:WV}{us:List aI}{evs:List dZ}(hq:A.qs=[])(hm:Moves OK A 4 2 0 A.us evs us)(hb:{A with us:=us}=B)(hd:YR OK 4 2 B=C)(hf:og OK 4 C=C):∃es,Ph OK 4 2 A 4 C es:=by
 have t:Tr OK A A.qs.length A [] []:=by rw[hq];exact .zero
 have p1:Ph OK 4 2 A 1 {A with qs:=[]} []:=.one t;have e:{A with qs:=[]}=A:=by rw[<-hq]
 rw[e] at p1;have p2:=Ph.two p1 hm;rw[hb] at p2;have p3:=Ph.three p2;rw[hd] at p3;have p4:=Ph.four p3;rw[hf] at p4;exact⟨_,p4⟩
theorem step1:∃es,oh OK OX [oo] (OW 1 20 0 (od 6 10 2 6)) es:=by
 obtain⟨evs,hm⟩:=aaF;obtain⟨es,hp⟩:=Uh (A:=OW 0 30 0 (od 1 0 2 6)) rfl hm rfl acD (fgt _ _ _ _ _ trivial);exact⟨es,[oo],4,2,_,zZ (by simp),rfl,rfl,by rw[show[oo].length=1 from rfl,gv1];exact hp,rfl⟩
theorem step2:∃es,oh OK (OW 1 20 0 (od 6 10 2 6)) [] (OW 2 10 0 (od 6 20 2 6)) es:=by
 obtain⟨evs,hm⟩:=aaG;obtain⟨es,hp⟩:=Uh (A:=OW 1 20 0 (od 6 10 2 6)) rfl hm rfl acE (fgt _ _ _ _ _ trivial);exact⟨es,[],4,2,_,zZ (by simp),rfl,rfl,hp,rfl⟩
theorem step3:∃es,oh OK (OW 2 10 0 (od 6 20 2 6)) [] (OW 3 10 20 (od 1 0 2 6)) es:=by
 obtain⟨evs,hm⟩:=aaH;obtain⟨es,hp⟩:=Uh (A:=OW 2 10 0 (od 6 20 2 6)) rfl hm rfl acF (fgt _ _ _ _ _ trivial);exact⟨es,[],4,2,_,zZ (by simp),rfl,rfl,hp,rfl⟩
theorem abD:Wd.aP OK OX=0:=by decide+kernel
theorem Ui:cZ OK OX [oo]=0:=by decide+kernel
theorem Uj:cZ OK (OW 1 20 0 (od 6 10 2 6)) []=0:=by decide+kernel
theorem Uk:cZ OK (OW 2 10 0 (od 6 20 2 6)) []=0:=by decide+kernel
theorem abE:kS OK OX [[oo],[],[]] 0 OX:=.zero
theorem Zi:kS OK OX [[oo],[],[]] 1 (OW 1 20 0 (od 6 10 2 6)):=by
 obtain⟨es,h⟩:=step1;exact .turn .zero rfl Ui h
theorem Zj:kS OK OX [[oo],[],[]] 2 (OW 2 10 0 (od 6 20 2 6)):=by
 obtain⟨es,h⟩:=step2;exact .turn Zi rfl Uj h
theorem abG:kS OK OX [[oo],[],[]] 3 (OW 3 10 20 (od 1 0 2 6)):=by
 obtain⟨es,h⟩:=step3;exact .turn Zj rfl Uk h
theorem Ul{F:Int}{w w':World}{v r:Value}(hs:jQ OK OX [[oo],[],[]] F w w' v)(he:Er r F):r=.nilIface/\Wo w' w.heap.size v (OW 3 10 20 (od 1 0 2 6)):=by
 rcases hs with⟨hn,-,h1|h1|⟨-,-,n,Z,l,p,hl',hf⟩⟩|⟨rfl,h1,h2,B,h3,h4⟩
 ·exact absurd abD h1.1
 ·have:=h1.2.1;simp at this
 ·exfalso
  have hn2:n<3:=(aK.1 hl').1
  match n,hn2,hl',p with
  |0,_,h,p=>
   obtain rfl:=oL abE p;simp at h;subst h;exact hn (hf.symm.trans Ui)
  |1,_,h,p=>
   obtain rfl:=oL Zi p;simp at h;subst h;exact hn (hf.symm.trans Uj)
  |2,_,h,p=>
   obtain rfl:=oL Zj p;simp at h;subst h;exact hn (hf.symm.trans Uk)
 ·refine⟨?_,?_⟩
  ·rcases he with⟨-,h⟩|⟨h,-⟩
   ·exact h
   ·exact absurd rfl h
  ·rw[oL abG h3]
   exact h4
end
end Go.Proofs.YtolfphmdmpehdaaGreatDoor
