/- The calls of package path: the way. And more. -/
import Derived.Test.YtolfphmdmpehdaaGreatDoorZTopViews4
set_option linter.unusedVariables false
set_option linter.unusedSimpArgs false
set_option maxHeartbeats 16000000
set_option maxRecDepth 100000
open Go.Value (int slice)
open Go.IntKind (i64)
open Go.Proofs.Tryz
namespace Go.Proofs.YtolfphmdmpehdaaGreatDoor
section
open Go.RowKit Wy
variable {Hn Wn i n:Nat} {X:WV} {k:KV} {ks:List KV} {u:aI} {us us0:List aI}
theorem Xp(v:Value)(W H:Nat)(gs os:List Int)(a b:Nat)(fl:Bool)(w:World)(h:Fl w v W H gs os)(hs:Sd w)(G:Fd.Good W H gs os)(ha:a<W*H)(hb:b<W*H):
  Calls prog 234 #[v,int i64 (a:Nat),int i64 (b:Nat),.bool fl] w λe w'=>∃l,(dK (Fd.near W H) (λ_ j=>(gs.map λg=>Fd.onto g fl).getD j 0) b (W*H) l/\Flat l)/\
   ((l.getD a 0<0/\e=.returned (.tuple #[slice none 0 0,.iface 85 (int i64 7)]))\/(0<=l.getD a 0/\∃u p,e=.returned (.tuple #[u,.nilIface])/\Ro w' u p/\uO (Fd.near W H) (gs.map λg=>Fd.onto g fl) l b a p/\p.length<=1000))/\Below w.heap.size w w':=by
 have F0:=aj (h);have S0:=aj (hs);have G0:=aj (G);have A0:Hid (a<W*H/\b<W*H):=⟨ha,hb⟩;obtain⟨u1,u2,rfl,⟨a1,c,rfl,c1,c2,ca⟩,⟨b1,d,rfl,d1,d2,cb⟩⟩:=h;obtain⟨ss,hss⟩:∃ss,(gs.map λg=>Fd.onto g fl)=ss:=⟨_,rfl⟩;have Px:=aj (hss);have E0:Hid (Even (Fd.near W H) (λ_ j=>ss.getD j 0) (W*H)):=by rw[<-hss];exact JB G.w1 gs fl
 have T0:Hid (∀j,ss.getD j 0<=2):=by rw[<-hss];exact FV gs fl
 rw[hss];clear ca cb hs G ha hb hss;go_enter func234,ntmps234;go_wp2_with fail
 have b0:Below w.heap.size w ((w.alloc (Obj.cells #[int i64 W,int i64 H,slice a1 gs.length c,slice b1 os.length d] 25)).alloc (Obj.cells #[int i64 (a:Nat),int i64 (b:Nat)] 3)):=aA.alloc (by simp) _;refine(look_ok _ _ W H gs os _ fl _ (F0.below b0) G0 (S0.below b0) (Ro.aaX _ _ (by simp)) (by have:=A0.out;simp;omega)).mono ?_;rintro e w1 ⟨⟨v1,rfl,hL⟩,hb⟩;rw[Px.out] at hL;have B1:=aj (b0.trans (hb.mono (by simp;omega)));have L1:=aj (hL);obtain⟨p1,p2,rfl,⟨x1,k1,rfl,-⟩,⟨x2,k2,rfl,-⟩,-⟩:=hL;clear hb b0;go_wp2_with fail
 have b2:Below _ w1 (w1.alloc (Obj.cells #[slice (some x1) (W*H) k1,slice x2 ss.length k2] 296)):=aA;have X1:=Bl.mk' (w:=w1) (slice (some x1) (W*H) k1) (slice x2 ss.length k2) rfl;refine(RU _ _ b _ ss _ (L1.below b2) E0 A0.2 G0.pos.2 (Fd.uM W H)).mono ?_;rintro e w2 ⟨g,l,rfl,hbz,hbk,⟨hf,hfl⟩,hb⟩;have P:Hid (Ro w2 (slice (some ⟨g,0,none⟩) (W*H) (W*H)) l):=by
  have:=hbk.ro (c:=W*H) (by rw[hf.1];exact aU _) (by have:=G0.pos.2;omega);rw[hf.1] at this;exact this
 have HF:=aj (dJ hf hfl);have B2:=aj ((B1.trans (b2.mono B1.size)).trans (hb.mono (aJ B1.size b2.size)));have X2:=aj (X1.below hb X1.lt);have L2:=aj ((L1.below b2).below hb);have N0:=G0.pos.2;have ca:=hbk.cell (get_some hf.1 A0.1);have LB:=aj (JD hfl hf.1 N0);clear hbz hbk hb b2 X1 L1 B1 hf hfl;have a0:=A0.out.1;obtain⟨y,hy⟩:∃y,l.getD a 0=y:=⟨_,rfl⟩;have Hy:=aj (hy);rw[hy] at ca;clear hy;by_cases hd:y<0
 ·go_wp2
  go_ret2;exact⟨l,HF,.inl ⟨by rw[Hy.out];exact hd,rfl⟩,B2⟩
 ·go_wp2_with fail
  have O3:Hid (Ow _ _ (slice (some ⟨w2.heap.size,0,none⟩) 1 1) _):=Ow.one (a:Int) aN rfl;have B3:Hid (Below _ w2 (w2.alloc (Obj.cells #[int i64 (a:Nat)] 3))):=aA;generalize w2.alloc _=w3 at *;have Ya:Hid (0<=l.getD a 0):=by unfold Hid;rw[Hy.out];omega
  have Yb:=aj (LB a);clear ca hd;go_loopw [13,14] (λv i W'=>∃(k:Nat) (pre:List Int),i=int i64 (k:Nat)/\k<W*H/\0<=l.getD k 0/\Ow W' w2.heap.size v (pre++[(k:Int)])/\(∀p,uO (Fd.near W H) ss l b k p->uO (Fd.near W H) ss l b a (pre++p))/\Below w2.heap.size w2 W'/\(pre.length:Int)+l.getD k 0<=l.getD a 0) (λ_ i _=>(l.getD (intOf i).toNat 0).toNat)
  case atStart=>exact⟨a,[],rfl,a0,Ya,O3,λp hp=>hp,B3,by simp⟩
  case round=>
   obtain⟨k,pre,rfl,hk,hk0,ho,hp,hb,hm⟩:=hrel;clear O3 B3;have O:=aj (ho);have Pp:=aj (hp);have B:=aj (hb);have M:=aj (fQ hm hk0 hk);clear ho hp hb hm hk0;by_cases h0:k=b
   ·subst h0
    go_wp2;go_ret2;refine⟨l,HF,.inr ⟨Ya,_,_,rfl,O.ro,Pp _ .here,?_⟩,B2.trans (B.mono B2.size)⟩;have:=M.out;have:=Yb.out;simp;omega
   ·have hx:=QI E0 HF.1 hk M.2.1 h0
    have e0:(λx:Int=>∃j:Nat,x=j/\j<W*H)=λx:Int=>∃j:Nat,x=j/\j<W*H:=rfl
    have CN:Hid (Calls prog 259 #[.agg #[slice (some x1) (W*H) k1,slice x2 ss.length k2],slice (some ⟨g,0,none⟩) (W*H) (W*H),int i64 (k:Nat)] wr λe w'=>∃j:Nat,e=.returned (int i64 (j:Nat))/\j<W*H/\Nx (Fd.near W H) ss l k j/\Below wr.heap.size wr w'):=
     Xo _ _ (W*H) k (Fd.near W H) ss l wr (L2.below B) (P.below B) HF.1.1 hk N0 T0 LB (λx hx=>by obtain⟨j,h1,h2,-⟩:=E0.cell k x hk hx;exact⟨j,h1,h2⟩) hx
    obtain⟨y0,y1⟩:=X2.below B X2.lt;clear e0 hx;go_wp2_with fail
    refine Calls.mono CN ?_;rintro e w4 ⟨j,rfl,hj,hN,hb4⟩;have ba:Below _ w4 (w4.alloc (Obj.cells #[int i64 (j:Nat)] 3)):=aA;have O5:=aj ((O.below hb4).below ba);have B5:=aj ((B.trans (hb4.mono B.size)).trans (ba.mono (aJ B.size hb4.size)));have Cd:Hid ((w4.alloc (Obj.cells #[int i64 (j:Nat)] 3)).cell? ⟨w4.heap.size,0,none⟩=some (int i64 (j:Nat))):=by unfold Hid;simp
    have HN:=aj (hN);have is:=hN.is;have Ln:Hid ((pre++[(k:Int)]).length<=1000000000):=by
     have:=M.out;have:=Yb.out;unfold Hid;simp;omega
    have Q:Hid (∀p,uO (Fd.near W H) ss l b j p->uO (Fd.near W H) ss l b a ((pre++[(k:Int)])++p)):=λp hp=>by
     have:=Pp _ (.step h0 hN hp);rw[bT];exact this
    have M':Hid (((pre++[(k:Int)]).length:Int)+l.getD j 0<=l.getD a 0/\0<=l.getD j 0/\l.getD j 0<l.getD k 0):=by
     have:=M.out;unfold Hid;simp only[aC,dI,aS];omega
    clear hb4 ba O B CN hN is y0 y1 Pp;generalize pre++[(k:Int)]=pr at *;go_wp2_with (at_builtin;refine gG _ rfl _ _ rfl _ _ pr rfl O5 ⟨w4.heap.size,0,none⟩ (j:Nat) rfl Cd Ln B5.size ?_);intro g6 cap6 w6 o6 gr6 at6 lt6;have O6:=aj (o6);have B6:=aj (B5.trans (aB.grown gr6 B5.size (λk hk=>(O5.block k hk).1)));clear o6 gr6 at6 lt6 O5 B5 Cd;go_wp2;go_round
    case rel=>exact⟨j,pr,rfl,hj,M'.2.1,O6,Q,B6,M'.1⟩
    case measure=>
     have:=M'.out;show(l.getD (Int.toNat (j:Int)) 0).toNat<(l.getD (Int.toNat (k:Int)) 0).toNat;rw[bF,bF];omega
theorem Xq(v:Value)(W H:Nat)(gs os:List Int)(a b:Nat)(fl:Bool)(w:World)(h:Fl w v W H gs os)(hs:Sd w)(G:Fd.Good W H gs os)(ha:a<W*H)(hb:b<W*H):
  Calls prog 195 #[v,int i64 (a:Nat),int i64 (b:Nat),.bool fl] w λe w'=>∃l,(dK (Fd.near W H) (λ_ j=>(gs.map λg=>Fd.onto g fl).getD j 0) b (W*H) l/\Flat l)/\
   ((l.getD a 0<0/\e=.returned (.tuple #[int i64 0,.iface 85 (int i64 7)]))\/(0<=l.getD a 0/\∃j:Nat,e=.returned (.tuple #[int i64 (j:Nat),.nilIface])/\YP (Fd.near W H) (gs.map λg=>Fd.onto g fl) l b a j))/\Below w.heap.size w w':=by
 have F0:=aj (h);have S0:=aj (hs);have G0:=aj (G);have A0:Hid (a<W*H/\b<W*H):=⟨ha,hb⟩;obtain⟨u1,u2,rfl,⟨a1,c,rfl,c1,c2,ca⟩,⟨b1,d,rfl,d1,d2,cb⟩⟩:=h;obtain⟨ss,hss⟩:∃ss,(gs.map λg=>Fd.onto g fl)=ss:=⟨_,rfl⟩;have Px:=aj (hss);rw[hss];clear ca cb hs G ha hb hss;have b0:Hid (Below _ w (w.alloc (Obj.cells #[int i64 W,int i64 H,slice a1 gs.length c,slice b1 os.length d] 25))):=aA;go_enter func195,ntmps195;go_wp2_with fail
 refine(Xp _ W H gs os a b fl _ (F0.below b0) (S0.below b0) G0 A0.1 A0.2).mono ?_;rintro e w1 ⟨l,hl,he,hb⟩;rw[Px.out] at hl he;have B1:=aG b0 hb;have HL:=aj (hl);clear hb b0 hl;rcases he with⟨h0,rfl⟩|⟨h0,u,p,rfl,hu,hp,hlen⟩
 ·have H0:=aj (h0)
  clear h0;go_wp2;go_ret2;exact⟨l,HL,.inl ⟨H0,rfl⟩,B1⟩
 ·have H0:=aj (h0)
  have HP:=aj (hp);clear h0;by_cases hab:a=b
  ·subst hab
   obtain⟨ua,uc,rfl,-⟩:=hu;clear hp;go_wp2;go_ret2;exact⟨l,HL,.inr ⟨H0,a,rfl,.inl ⟨rfl,rfl⟩⟩,B1⟩
  ·obtain⟨j,h1,h2⟩:=hp.second hab
   have hl1:=(aK.1 h1).1;obtain⟨ua,uc,rfl,k1,k2,hc⟩:=hu;obtain⟨y,rfl,-,hy⟩:=hc (by intro e;rw[e] at hl1;simp at hl1);have HN:=aj (h2);have hne:¬(a:Int)=(b:Int):=by omega
   have c1':w1.cell? ⟨y.block,y.off+1,none⟩=some _:=hy 1 _ h1;clear hp hc hy h1 h2;go_wp2;go_ret2;exact⟨l,HL,.inr ⟨H0,j,rfl,.inr ⟨hab,HN⟩⟩,B1⟩
def gV(ks:List KV)(X:WV)(Wn Hn:Nat)(u:aI)(k:KV)(c:Nat):Prop:=
 ∃(an bn:Nat) (l:List Int),u.at_=an/\mX ks X Wn Hn u k (bn:Nat)/\bn<Wn*Hn/\(dK (Fd.near Wn Hn) (λ_ j=>(X.gs.map λg=>Fd.onto g k.f).getD j 0) bn (Wn*Hn) l/\Flat l)/\
  ((l.getD an 0<0/\c=an)\/(0<=l.getD an 0/\YP (Fd.near Wn Hn) (X.gs.map λg=>Fd.onto g k.f) l bn an c))
theorem aaj{gs:List Int}{fl:Bool}{l:List Int}{t j:Nat}(hW:0<Wn)(h:YP (Fd.near Wn Hn) (gs.map λg=>Fd.onto g fl) l t i j)(hi:i<Wn*Hn):j<Wn*Hn:=by
 rcases h with⟨-,rfl⟩|⟨-,h⟩
 ·exact hi
 ·exact(JB hW gs fl).lt i j hi h.is.1
theorem aak{c:Int}(h:mX ks X Wn Hn u k c)(hu:Fit ks (Wn*Hn) u)(hus:∀h∈X.us,Fit ks (Wn*Hn) h)(hg:0<=u.goal/\u.goal<(Wn*Hn:Nat)):∃bn:Nat,c=bn/\bn<Wn*Hn:=by
 have key:0<=c/\c<(Wn*Hn:Nat):=by
  rcases h with⟨-,rfl⟩|⟨-,-,rfl⟩|⟨-,-,l,-,rfl⟩
  ·exact hu.2
  ·exact hg
  ·unfold mW
   cases hh:homes ks X.us l u.ay with
   |nil=>exact hu.2
   |cons x0 tl=>
    have hm:=qL (λh=>l.getD h.at_.toNat 0) tl x0;rw[<-hh] at hm;exact(hus _ (List.mem_filter.1 hm).1).2
 exact⟨c.toNat,by omega,by omega⟩
theorem RV(vk vw:Value)(ks:List KV)(X:WV)(u:aI)(Wn Hn:Nat)(k:KV)(w:World)(hk:Kl w vk ks)(hw:Wl w vw X)(hs:Sd w)(G:Fd.Good Wn Hn X.gs X.os)(e1:X.wide=(Wn:Nat))(e2:X.high=(Hn:Nat))(hl:X.us.length<=1000000)
  (hu:Fit ks (Wn*Hn) u) (hk':ks[u.kind.toNat]? =some k) (hus:∀h∈X.us,Fit ks (Wn*Hn) h) (hg:0<=u.goal/\u.goal<(Wn*Hn:Nat)):
  Calls prog 156 #[vk,vw,u.val] w λe w'=>∃c:Nat,e=.returned (int i64 (c:Nat))/\gV ks X Wn Hn u k c/\c<Wn*Hn/\Below w.heap.size w w':=by
 obtain⟨kn,hkn⟩:∃n:Nat,u.kind=n:=⟨u.kind.toNat,by have:=hu.1;omega⟩;obtain⟨an,han⟩:∃n:Nat,u.at_=n:=⟨u.at_.toNat,by have:=hu.2;omega⟩;have hkl:kn<ks.length:=by have:=hu.1;omega
 have hkk:ks[kn]? =some k:=by rw[hkn,bF] at hk';exact hk'
 have H:=aj (hw);have K:=aj (hk);have S:=aj (hs);have GD:Hid (Fd.Good Wn Hn X.gs X.os/\X.wide=(Wn:Nat)/\X.high=(Hn:Nat)/\X.us.length<=1000000/\Fit ks (Wn*Hn) u/\ks[u.kind.toNat]? =some k/\(∀h∈X.us,Fit ks (Wn*Hn) h)/\(0<=u.goal/\u.goal<(Wn*Hn:Nat))/\an<Wn*Hn):=⟨G,e1,e2,hl,hu,hk',hus,hg,by have:=hu.2;omega⟩;obtain⟨p1,q1,p2,q2,p3,q3,p4,q4,p5,q5,rfl⟩:=aX hw;obtain⟨pk,qk,rfl,ck1,ck2,kc⟩:=hk;obtain⟨xk,rfl,hxl,hxc⟩:=kc (by intro h;subst h;simp at hkl);have KK:Hid (Kc w (xk.add (kn*11)) k/\(xk.add (kn*11)).block<w.heap.size):=⟨hxc kn k hkk,by rw[add_block];exact hxl⟩;have HE:=aj (dJ (hkn) (han));clear hw hs G e1 e2 hl hu hk' hus hg hkn han kc hxc hxl hkk;have UV:Hid (u.val=.agg _):=rfl;rw[UV.out];go_enter func156,ntmps156;go_upto_region 1 with fail
 have A0:Hid (Am w _ X (slice p1 X.gs.length q1) (slice p2 X.os.length q2) (slice p3 X.gold.length q3) (slice p4 X.us.length q4) (slice p5 X.qs.length q5) u):=Am.new X _ _ _ _ _ u;generalize ((w.alloc _).alloc _)=w0 at *;have CB:Hid (∀V,Am w V X _ _ _ _ _ u->(Am w V X (slice p1 X.gs.length q1) (slice p2 X.os.length q2) (slice p3 X.gold.length q3) (slice p4 X.us.length q4) (slice p5 X.qs.length q5) u/\V.cell? ⟨w.heap.size+1,3,none⟩=some _/\V.cell? ⟨w.heap.size+1,2,none⟩=some _/\V.cell? _=some _)):=λV h=>⟨h,by have:=h.u.c3;rw[aO,HE.out.2] at this;exact this,by have:=h.u.c2;rw[aO,HE.out.1] at this;exact this,(KK.1.below h.b KK.2).c9⟩
 refine aV [(true,0),(true,1),(true,2),(true,3),(true,4),(true,5),(true,6),(true,8),(true,9),(true,10),(true,11),(true,12),(true,13),(false,7),(false,14)] [(true,15),(true,16),(true,17),(true,18),(false,19)] (λV=>Am w V X _ _ (slice p3 X.gold.length q3) (slice p4 X.us.length q4) (slice p5 X.qs.length q5) u/\V.cell? ⟨w.heap.size+1,3,none⟩=some (int i64 (an:Nat))/\V.cell? ⟨w.heap.size+1,2,none⟩=some (int i64 (kn:Nat))/\V.cell? ⟨(xk.add (kn*11)).block,(xk.add (kn*11)).off+9,none⟩=some (.bool k.f)) (by kernel_rfl) (by kernel_rfl) (by kernel_rfl) (by decide+kernel) (by decide+kernel) (CB _ (A0.below (aB.drew))) ?_;have A1:Hid (Am w {w0 with drawn:=w0.drawn+1} X _ _ _ _ _ u):=A0.below (aB.drew);generalize ({w0 with drawn:=w0.drawn+1}:World)=w1 at *;clear A0;refine au rfl (.pointer (some ⟨w.heap.size,2,none⟩)) (by go_simp) (λV hV=>by go_simp) ?_;go_simp;refine au rfl (.agg #[int i64 X.wide,int i64 X.high,slice p1 X.gs.length q1,slice p2 X.os.length q2]) (by go_simp) (λV hV=>by obtain⟨⟨-,⟨x0,x1,x2,x3,x4,x5,x6,x7,x8⟩,⟨y0,y1,y2,y3,y4,y5,y6,y7⟩⟩,ca,VH,VI⟩:=hV;go_simp) ?_;go_simp;refine au rfl (.pointer (some ⟨w.heap.size+1,3,none⟩)) (by go_simp) (λV hV=>by go_simp) ?_;go_simp;refine au rfl (int i64 (an:Nat)) (by go_simp) (λV hV=>by obtain⟨-,ca,VH,VI⟩:=hV;go_simp) ?_;go_simp;refine au rfl (slice (some xk) ks.length qk) (by go_simp) (λV hV=>by go_simp) ?_;go_simp;refine au rfl (.agg #[int i64 X.turn,int i64 X.next,int i64 X.wide,int i64 X.high,slice p1 X.gs.length q1,slice p2 X.os.length q2,slice p3 X.gold.length q3,slice p4 X.us.length q4,slice p5 X.qs.length q5]) (by go_simp) (λV hV=>by obtain⟨⟨-,⟨x0,x1,x2,x3,x4,x5,x6,x7,x8⟩,⟨y0,y1,y2,y3,y4,y5,y6,y7⟩⟩,ca,VH,VI⟩:=hV;go_simp) ?_;go_simp;refine au rfl (.agg #[int i64 u.id,int i64 u.ay,int i64 u.kind,int i64 u.at_,int i64 u.life,int i64 u.load,int i64 u.task,int i64 u.goal]) (by go_simp) (λV hV=>by obtain⟨⟨-,⟨x0,x1,x2,x3,x4,x5,x6,x7,x8⟩,⟨y0,y1,y2,y3,y4,y5,y6,y7⟩⟩,ca,VH,VI⟩:=hV;go_simp) ?_;go_simp;refine au rfl (slice (some xk) ks.length qk) (by go_simp) (λV hV=>by go_simp) ?_;go_simp;refine au rfl (.pointer (some ⟨w.heap.size+1,2,none⟩)) (by go_simp) (λV hV=>by go_simp) ?_;go_simp;refine au rfl (int i64 (kn:Nat)) (by go_simp) (λV hV=>by obtain⟨-,ca,VH,VI⟩:=hV;go_simp) ?_;go_simp;refine au rfl (.pointer (some (xk.add (kn*11)))) (by go_simp) (λV hV=>by go_simp) ?_;go_simp;refine au rfl (.pointer (some ⟨(xk.add (kn*11)).block,(xk.add (kn*11)).off+9,none⟩)) (by go_simp) (λV hV=>by go_simp) ?_;go_simp;refine au rfl (.bool k.f) (by go_simp) (λV hV=>by obtain⟨-,ca,VH,VI⟩:=hV;go_simp) ?_;go_simp;refine dH rfl 196 #[slice (some xk) ks.length qk,.agg #[int i64 X.turn,int i64 X.next,int i64 X.wide,int i64 X.high,slice p1 X.gs.length q1,slice p2 X.os.length q2,slice p3 X.gold.length q3,slice p4 X.us.length q4,slice p5 X.qs.length q5],.agg #[int i64 u.id,int i64 u.ay,int i64 u.kind,int i64 u.at_,int i64 u.life,int i64 u.load,int i64 u.task,int i64 u.goal]] (by go_simp) (by go_simp) ?_;have AIM:Hid (Calls prog 196 #[slice (some xk) ks.length qk,.agg #[int i64 X.turn,int i64 X.next,int i64 X.wide,int i64 X.high,slice p1 X.gs.length q1,slice p2 X.os.length q2,slice p3 X.gold.length q3,slice p4 X.us.length q4,slice p5 X.qs.length q5],.agg #[int i64 u.id,int i64 u.ay,int i64 u.kind,int i64 u.at_,int i64 u.life,int i64 u.load,int i64 u.task,int i64 u.goal]] w1 λe w'=>∃c,e=.returned (int i64 c)/\mX ks X Wn Hn u k c/\Below w1.heap.size w1 w'):=by
  have h:=Xn _ _ ks X u Wn Hn k w1 (K.below A1.b) (H.below A1.b) (S.below A1.b) GD.1 GD.2.1 GD.2.2.1 GD.2.2.2.1 GD.2.2.2.2.1 GD.2.2.2.2.2.1 GD.2.2.2.2.2.2.1 GD.2.2.2.2.2.2.2.1;rw[UV.out] at h;exact h
 refine Calls.mono AIM ?_;rintro e w2 ⟨c0,rfl,ha,hb⟩;obtain⟨bn,rfl,hbn⟩:=aak ha GD.2.2.2.2.1 GD.2.2.2.2.2.2.1 GD.2.2.2.2.2.2.2.1;have A2:=aj (A1.below hb);have AS:=aj (dJ (ha) (hbn));refine⟨_,rfl,CB _ A2,?_⟩;clear hb ha hbn AIM A1;go_simp;refine dH rfl 195 #[.agg #[int i64 X.wide,int i64 X.high,slice p1 X.gs.length q1,slice p2 X.os.length q2],int i64 (an:Nat),int i64 (bn:Nat),.bool k.f] (by go_simp) (by go_simp) ?_;have FL:Hid (Fl w2 (.agg #[int i64 X.wide,int i64 X.high,slice p1 X.gs.length q1,slice p2 X.os.length q2]) (Wn:Nat) (Hn:Nat) X.gs X.os):=by
  have:=sN (H.below A2.b);rw[GD.out.2.1,GD.out.2.2.1] at this;rw[GD.out.2.1,GD.out.2.2.1];exact this
 refine(Xq _ Wn Hn X.gs X.os an bn k.f w2 FL (S.below A2.b) GD.1 GD.2.2.2.2.2.2.2.2 AS.2).mono ?_;rintro e w3 ⟨l,hl,hn,hb⟩;have A3:=aj (A2.below hb);clear hb FL A2;have NS:=aj (hl);clear hl;rcases hn with⟨hlt,rfl⟩|⟨hge,j,rfl,hnx⟩
 ·have WS:Hid (gV ks X Wn Hn u k an):=⟨an,bn,l,HE.2,AS.1,AS.2,NS,.inl ⟨hlt,rfl⟩⟩
  refine⟨_,rfl,CB _ A3,?_⟩;clear hlt;go_simp;refine aQ rfl (.tuple #[int i64 0,.iface 85 (int i64 7)]) (by go_simp) (λV hV=>by go_simp) ?_;go_simp;refine aQ rfl (int i64 0) (by go_simp) (λV hV=>by go_simp) ?_;go_simp;refine aQ rfl (.iface 85 (int i64 7)) (by go_simp) (λV hV=>by go_simp) ?_;go_simp;refine aQ rfl (int i64 0) (by go_simp) (λV hV=>by go_simp) ?_;go_simp;refine aW rfl (.iface 85 (int i64 7)) w3 (by go_simp) (by go_simp) trivial ?_;go_simp;unfold bC;obtain⟨-,ca,-,-⟩:=CB _ A3;go_wp2;go_ret;exact⟨an,rfl,WS,GD.2.2.2.2.2.2.2.2,A3.b⟩
 ·have WS:Hid (gV ks X Wn Hn u k j/\j<Wn*Hn):=⟨⟨an,bn,l,HE.2,AS.1,AS.2,NS,.inr ⟨hge,hnx⟩⟩,aaj GD.1.w1 hnx GD.2.2.2.2.2.2.2.2⟩
  refine⟨_,rfl,CB _ A3,?_⟩;clear hge hnx;go_simp;refine aQ rfl (.tuple #[int i64 (j:Nat),.nilIface]) (by go_simp) (λV hV=>by go_simp) ?_;go_simp;refine aQ rfl (int i64 (j:Nat)) (by go_simp) (λV hV=>by go_simp) ?_;go_simp;refine aQ rfl .nilIface (by go_simp) (λV hV=>by go_simp) ?_;go_simp;refine aQ rfl (int i64 (j:Nat)) (by go_simp) (λV hV=>by go_simp) ?_;go_simp;refine aW rfl .nilIface w3 (by go_simp) (by go_simp) trivial ?_;go_simp;unfold bC;go_wp2;go_ret;exact⟨j,rfl,WS.1,WS.2,A3.b⟩
theorem Xr(u:aI)(at_:Int)(b:Nat)(w:World)(hc:w.cell? ⟨b,0,none⟩=some (int i64 at_)):
  Calls prog 197 #[u.val,.pointer (some ⟨b,0,none⟩)] w λe w'=>e=.returned (.bool (u.at_==at_))/\Below w.heap.size w w':=by
 have hb:b<w.heap.size:=cell_lt hc;have hne:b≠w.heap.size:=by omega
 unfold aI.val;go_enter func197,ntmps197;go_wp2;go_ret;exact⟨rfl,aA⟩
theorem MJ(vw:Value)(X:WV)(at_:Int)(w:World)(hw:Wl w vw X):
  Calls prog 157 #[vw,int i64 at_] w λe w'=>e=.returned (.bool (X.us.any (λu=>u.at_==at_)))/\Below w.heap.size w w':=by
 have H:=aj (hw);obtain⟨p1,q1,p2,q2,p3,q3,p4,q4,p5,q5,rfl⟩:=aX hw;clear hw;go_enter func157,ntmps157;go_upto_region 1 with fail
 have B0:Hid (Below _ w ((w.alloc (Obj.cells #[int i64 X.turn,int i64 X.next,int i64 X.wide,int i64 X.high,slice p1 X.gs.length q1,slice p2 X.os.length q2,slice p3 X.gold.length q3,slice p4 X.us.length q4,slice p5 X.qs.length q5] 29)).alloc (Obj.cells #[int i64 at_] 3))):=aA.alloc (by simp) _;have C0:Hid (((w.alloc (Obj.cells #[int i64 X.turn,int i64 X.next,int i64 X.wide,int i64 X.high,slice p1 X.gs.length q1,slice p2 X.os.length q2,slice p3 X.gold.length q3,slice p4 X.us.length q4,slice p5 X.qs.length q5] 29)).alloc (Obj.cells #[int i64 at_] 3)).cell? ⟨w.heap.size+1,0,none⟩=some (int i64 at_)):=bD (by simp) rfl;have X0:Hid (Bw ((w.alloc _).alloc (Obj.cells #[int i64 at_] 3)) _ X (slice p1 X.gs.length q1) (slice p2 X.os.length q2) (slice p3 X.gold.length q3) (slice p4 X.us.length q4) (slice p5 X.qs.length q5)):=(Bw.mk' X _ _ _ _ _ rfl).below aA (by simp);generalize ((w.alloc _).alloc _)=w0 at *;have c7:=X0.c7;have US:=aj (H.slices.2.2.2.1);go_wp2_with fail
 refine(um 197 (by intro args w;go_simp) _ #[.pointer (some ⟨w.heap.size+1,0,none⟩)] X.us (λu=>u.at_==at_) w0 (US.below B0) (λV hV k=>Xr k at_ (w.heap.size+1) V (by rw[hV.cell (p:=⟨w.heap.size+1,0,none⟩) (cell_lt C0.out)];exact C0))).mono ?_;rintro e w1 ⟨rfl,hb1⟩;have B1:=aG B0 hb1;obtain⟨m,hm⟩:∃m,X.us.any (λu=>u.at_==at_)=m:=⟨_,rfl⟩;have HM:=aj (hm);rw[hm];clear hb1 hm c7;go_wp2;go_ret;exact⟨by rw[HM.out];rfl,B1⟩
theorem Gx(h:bH ks X)(G:Fd.Good Wn Hn X.gs X.os):∀u∈X.us,Fit ks (Wn*Hn) u/\(0<=u.goal/\u.goal<(Wn*Hn:Nat)):=by
 intro u hu;obtain⟨i,hi⟩:=List.mem_iff_getElem?.1 hu;obtain⟨k,f⟩:=h.fine hi;have h1:=f.at_;have h2:=f.goal;rw[G.gl] at h1 h2;exact⟨⟨f.k0,h1⟩,h2⟩
inductive Goes (ks:List KV) (X:WV) (Wn Hn:Nat) (k:KV) (i:Nat):List aI->Int->List Int->List aI->Prop where
 |stop {us:List aI} {left:Int} {u:aI} {c:Nat} {gg:Int} (hu:us[i]? =some u) (hw:gV ks {X with us:=us} Wn Hn u k c) (hg:X.gs[c]? =some gg) (h:left<Fd.onto gg k.f\/us.any (λo=>o.at_==(c:Int))=true):Goes ks X Wn Hn k i us left [] us
 |step {us us':List aI} {left:Int} {u:aI} {c:Nat} {gg:Int} {cells:List Int} (hu:us[i]? =some u) (hw:gV ks {X with us:=us} Wn Hn u k c) (hg:X.gs[c]? =some gg) (h1:¬left<Fd.onto gg k.f) (h2:us.any (λo=>o.at_==(c:Int))=false) (h3:Goes ks X Wn Hn k i (us.set i {u with at_:=(c:Nat)}) (left-Fd.onto gg k.f) cells us'):Goes ks X Wn Hn k i us left ((c:Int)::cells) us'
theorem vG{c:Nat}{gg:Int}(h:gV ks X Wn Hn u k c)(hg:X.gs[c]? =some gg)(hc:u.at_≠(c:Nat)):0<Fd.onto gg k.f:=by
 obtain⟨an,bn,l,ha,-,-,-,hh⟩:=h;rcases hh with⟨-,rfl⟩|⟨-,h⟩
 ·exact absurd ha hc
 ·rcases h with⟨-,rfl⟩|⟨-,h⟩
  ·exact absurd ha hc
  ·have:=h.is.2.1
   rw[dD,fG,hg] at this;exact this
theorem walk_any(vk:Value)(ks:List KV)(X:WV)(us:List aI)(g1 g2 g3 g5:Value)(g cap i:Nat)(rest:List Value)(u:aI)(k:KV)(Wn Hn:Nat)(w:World)(hk:Kl w vk ks)(hs:Sd w)(G:Fd.Good Wn Hn X.gs X.os)(e1:X.wide=(Wn:Nat))(e2:X.high=(Hn:Nat))
  (hst:∀V us',us'.length=us.length->Kp g w V->Ub V g us' rest->Wl V (.agg #[int i64 X.turn,int i64 X.next,int i64 X.wide,int i64 X.high,g1,g2,g3,slice (some ⟨g,0,none⟩) us.length cap,g5]) {X with us:=us'}/\Kl V vk ks/\Sd V) (hub:Ub w g us rest) (YT:us[i]? =some u) (hkk:ks[u.kind.toNat]? =some k) (Jr:us.length<=40) (hus:∀h∈us,Fit ks (Wn*Hn) h) (hg:0<=u.goal/\u.goal<(Wn*Hn:Nat)) (hsp:0<=k.n4/\k.n4<=4):
  Calls prog 107 #[vk,.agg #[int i64 X.turn,int i64 X.next,int i64 X.wide,int i64 X.high,g1,g2,g3,slice (some ⟨g,0,none⟩) us.length cap,g5],.pointer (some ⟨g,i*8,none⟩)] w λe w'=>∃v us' cells,e=.returned v/\Ow w' w.heap.size v cells/\Goes ks X Wn Hn k i us k.n4 cells us'/\Ub w' g us' rest/\Kp g w w'/\cells.length<=4/\(∃a,us'=us.set i {u with at_:=a}/\0<=a/\a<(Wn*Hn:Nat)):=by
 have hil:=(aK.1 YT).1;have hfu:=hus u (aT YT);obtain⟨kn,hkn⟩:∃n:Nat,u.kind=n:=⟨u.kind.toNat,by have:=hfu.1;omega⟩;have hkk':ks[kn]? =some k:=by rw[hkn,bF] at hkk;exact hkk
 have hkl:=(aK.1 hkk').1;have K:=aj (hk);have S:=aj (hs);have GD:Hid (Fd.Good Wn Hn X.gs X.os/\X.wide=(Wn:Nat)/\X.high=(Hn:Nat)/\ks[u.kind.toNat]? =some k/\us.length<=40/\(∀h∈us,Fit ks (Wn*Hn) h)/\(0<=u.goal/\u.goal<(Wn*Hn:Nat))/\us[i]? =some u/\Fit ks (Wn*Hn) u/\i<us.length):=⟨G,e1,e2,hkk,Jr,hus,hg,YT,hfu,hil⟩;have ST:=aj (hst);have UB:Hid (Ub w g us rest/\g<w.heap.size):=⟨hub,hub.lt⟩;obtain⟨pk,qk,rfl,ck1,ck2,kc⟩:=hk;obtain⟨xk,rfl,hxl,hxc⟩:=kc (by intro h;subst h;simp at hkl);have KK:Hid (Kc w (xk.add (kn*11)) k/\(xk.add (kn*11)).block<w.heap.size):=⟨hxc kn k hkk',by rw[add_block];exact hxl⟩;have HE:=aj (hkn);have SP:=aj (hsp);clear hs G e1 e2 hst hub YT hkk hus hg hsp hkn hkk' kc hxc hxl hfu;go_enter func107,ntmps107;go_upto_region 2 with fail
 have B0:Hid (Below _ w (w.alloc (Obj.cells #[int i64 X.turn,int i64 X.next,int i64 X.wide,int i64 X.high,g1,g2,g3,slice (some ⟨g,0,none⟩) us.length cap,g5] 29))):=aA;have X0:Hid (Bw _ w.heap.size X (g1) (g2) (g3) (slice (some ⟨g,0,none⟩) us.length cap) (g5)):=Bw.mk' X _ _ _ _ _ rfl;have Z0:Hid ((w.alloc (Obj.cells #[int i64 X.turn,int i64 X.next,int i64 X.wide,int i64 X.high,g1,g2,g3,slice (some ⟨g,0,none⟩) us.length cap,g5] 29)).heap.size=w.heap.size+1):=by unfold Hid;simp
 generalize (w.alloc _)=w0 at *;have U0:=aj (UB.1.below B0 UB.2);obtain⟨z0,z1,z2,z3,z4,z5,z6,z7,z8,z9,z10⟩:=KK.1.below B0 KK.2;have y2:w0.cell? ⟨g,i*8+2,none⟩=some (int i64 (kn:Nat)):=by have:=(U0.pV GD.2.2.2.2.2.2.2.1).c2;rw[HE.out] at this;exact this
 go_upto_region 3 with fail
 have BK:Hid (Below _ w0 (w0.alloc (Obj.cells #[.string k.b,int i64 k.n0,int i64 k.n1,int i64 k.n2,int i64 k.n3,int i64 k.n4,int i64 k.n5,int i64 k.n6,int i64 k.n7,.bool k.f,.bool k.t] 77))):=aA;have K1:=aj (qI k Z0);have Z1:Hid ((w0.alloc (Obj.cells #[.string k.b,int i64 k.n0,int i64 k.n1,int i64 k.n2,int i64 k.n3,int i64 k.n4,int i64 k.n5,int i64 k.n6,int i64 k.n7,.bool k.f,.bool k.t] 77)).heap.size=w.heap.size+2):=by have:=Z0.out;unfold Hid;simp;omega
 rw[Z0.out];generalize (w0.alloc _)=w1 at *;have B1:=aG B0 BK;have X1:=aj (X0.below BK X0.lt);have U1:=aj (U0.below BK U0.lt);clear z0 z1 z2 z3 z4 z5 z6 z7 z8 z9 z10 y2 B0 X0 Z0 U0 BK;have c5:w1.cell? ⟨w.heap.size+1,5,none⟩=some (int i64 k.n4):=by have:=K1.c5;rw[aO] at this;exact this
 go_upto_region 4 with fail
 clear c5;go_loopw [7,9] (λv7 v9 V=>∃(a left:Int) (cells:List Int) (cv:Value),cv=v7/\v9=int i64 left/\0<=left/\(cells.length:Int)+left<=4/\(0<=a/\a<(Wn*Hn:Nat))/\Ub V g (us.set i {u with at_:=a}) rest/\Ow V w1.heap.size cv cells/\Kp g w1 V/\(∀cells' us',Goes ks X Wn Hn k i (us.set i {u with at_:=a}) left cells' us'->Goes ks X Wn Hn k i us k.n4 (cells++cells') us')) (λ_ v9 _=>(intOf v9).toNat)
 case atStart=>
  have hset:us.set i {u with at_:=u.at_}=us:=by
   have h1:=GD.out.2.2.2.2.2.2.2.1;obtain⟨h2,h3⟩:=aK.1 h1;have:({u with at_:=u.at_}:aI)=us[i]:=by rw[h3]
   rw[this,List.set_getElem_self]
  exact⟨u.at_,k.n4,[],_,rfl,rfl,SP.1,by have:=SP.out.2;simp;omega,GD.2.2.2.2.2.2.2.2.1.2,by rw[hset];exact U1,Ow.nil _ _,Kp.refl _ _,λcells' us' h=>by rw[hset] at h;exact h⟩
 case round=>
  obtain⟨a,left,cells,cv,rfl,rfl,hl0,hcl,hab,hub,how,hkp,hgo⟩:=hrel;obtain⟨us1,MP⟩:∃l,us.set i {u with at_:=a}=l:=⟨_,rfl⟩;obtain⟨u1,hu1⟩:∃v:aI,{u with at_:=a}=v:=⟨_,rfl⟩;have hi1:us1[i]? =some u1:=by rw[<-MP,hu1,List.getElem?_set_self GD.out.2.2.2.2.2.2.2.2.2]
  have hln:us1.length=us.length:=by rw[<-MP,jA]
  have F1:Hid (us1[i]? =some u1/\us1.length=us.length/\{u with at_:=a}=u1/\us.set i {u with at_:=a}=us1/\Fit ks (Wn*Hn) u1/\(∀h∈us1,Fit ks (Wn*Hn) h)/\ks[u1.kind.toNat]? =some k/\(0<=u1.goal/\u1.goal<(Wn*Hn:Nat))):=by
   have hf:Fit ks (Wn*Hn) u1:=by rw[<-hu1];exact⟨GD.2.2.2.2.2.2.2.2.1.1,hab⟩
   refine⟨hi1,hln,hu1,MP,hf,λh hh=>?_,by rw[<-hu1];exact GD.2.2.2.1,by rw[<-hu1];exact GD.2.2.2.2.2.2.1⟩;rw[<-MP] at hh;rcases List.mem_or_eq_of_mem_set hh with hh|hh
   ·exact GD.2.2.2.2.2.1 h hh
   ·rw[hh,hu1];exact hf
  rw[MP] at hub hgo;have UB1:=aj (hub);have OC:=aj (how);have KP:=aj (hkp);have KW:=aj ((Kp.of B1).trans hkp);have HG:=aj (hgo);have XR:=aj (X1.kp9 hkp (by have:=UB.out.2;omega));have KR:=aj (K1.kp9 hkp (by have:=UB.out.2;show w.heap.size+1≠g;omega));clear hub how hkp hgo MP hu1 hi1 hln hab;have abj:cells.length<=4:=by omega
  have WL:Hid (∀V,Below wr.heap.size wr V->Wl V (.agg #[int i64 X.turn,int i64 X.next,int i64 X.wide,int i64 X.high,g1,g2,g3,slice (some ⟨g,0,none⟩) us.length cap,g5]) {X with us:=us1}/\Kl V (slice (some xk) ks.length qk) ks/\Sd V):=λV hb=>by
   have hkv:=KW.trans (Kp.of hb);exact ST V _ F1.2.1 hkv (UB1.below hb UB1.lt)
  have C4:Hid (∀V,Below wr.heap.size wr V->(Bw V w.heap.size X (g1) (g2) (g3) (slice (some ⟨g,0,none⟩) us.length cap) (g5)/\fA V ⟨g,i*8,none⟩ u1)):=λV hb=>⟨XR.below hb XR.lt,(UB1.below hb UB1.lt).pV F1.1⟩
  have DR:Hid (Below wr.heap.size wr {wr with drawn:=wr.drawn+1}):=aB.drew;go_upto_region 4 with fail
  refine aV [(true,0),(true,1),(true,2),(true,3),(true,4),(false,5)] [(false,6)] (λV=>Bw V _ X _ _ _ _ _/\fA V _ u1) (by kernel_rfl) (by kernel_rfl) (by kernel_rfl) (by decide+kernel) (by decide+kernel) (C4 _ DR) ?_;generalize ({wr with drawn:=wr.drawn+1}:World)=v1 at *;refine au rfl (slice (some xk) ks.length qk) (by go_simp) (λV hV=>by go_simp) ?_;go_simp;refine au rfl (.agg #[int i64 X.turn,int i64 X.next,int i64 X.wide,int i64 X.high,g1,g2,g3,slice (some ⟨g,0,none⟩) us.length cap,g5]) (by go_simp) (λV hV=>by obtain⟨⟨x0,x1,x2,x3,x4,x5,x6,x7,x8⟩,⟨y0,y1,y2,y3,y4,y5,y6,y7⟩⟩:=hV;go_simp) ?_;go_simp;refine au rfl (.pointer (some ⟨g,i*8,none⟩)) (by go_simp) (λV hV=>by go_simp) ?_;go_simp;refine au rfl (.pointer (some ⟨g,i*8,none⟩)) (by go_simp) (λV hV=>by go_simp) ?_;go_simp;refine au rfl (.agg #[int i64 u1.id,int i64 u1.ay,int i64 u1.kind,int i64 u1.at_,int i64 u1.life,int i64 u1.load,int i64 u1.task,int i64 u1.goal]) (by go_simp) (λV hV=>by obtain⟨⟨x0,x1,x2,x3,x4,x5,x6,x7,x8⟩,⟨y0,y1,y2,y3,y4,y5,y6,y7⟩⟩:=hV;go_simp) ?_;go_simp;refine dH rfl 156 #[slice (some xk) ks.length qk,.agg #[int i64 X.turn,int i64 X.next,int i64 X.wide,int i64 X.high,g1,g2,g3,slice (some ⟨g,0,none⟩) us.length cap,g5],.agg #[int i64 u1.id,int i64 u1.ay,int i64 u1.kind,int i64 u1.at_,int i64 u1.life,int i64 u1.load,int i64 u1.task,int i64 u1.goal]] (by go_simp) (by go_simp) ?_;have WI:Hid (Calls _ _ #[slice _ _ qk,.agg _,.agg _] v1 _):=
   RV _ _ ks _ u1 Wn Hn k v1 (WL v1 DR).2.1 (WL v1 DR).1 (WL v1 DR).2.2 GD.1 GD.2.1 GD.2.2.1 (by show us1.length<=1000000;rw[F1.out.2.1];omega) F1.2.2.2.2.1 F1.2.2.2.2.2.2.1 F1.2.2.2.2.2.1 F1.2.2.2.2.2.2.2
  refine Calls.mono WI ?_;rintro e v2 ⟨c,rfl,hws,hcn,hb⟩;have B2:=aG DR hb;have hgl:=GD.1.gl;obtain⟨gg,hgg⟩:∃x,X.gs[c]? =some x:=⟨_,aH (by omega)⟩;have WS:=aj (fQ hws hcn hgg);refine⟨_,rfl,C4 _ B2,?_⟩;clear hb hws hcn hgl hgg DR WI;go_simp;refine aW rfl (int i64 (c:Nat)) v2 (by go_simp) (by go_simp) trivial ?_;go_simp;unfold bC;obtain⟨⟨x0,x1,x2,x3,x4,x5,x6,x7,x8⟩,-⟩:=C4 _ B2;have c9:v2.cell? ⟨w.heap.size+1,9,none⟩=some (.bool k.f):=by have:=(KR.below B2 KR.lt).c9;rw[aO] at this;exact this
  have FL:Hid (Fl v2 (.agg #[int i64 X.wide,int i64 X.high,g1,g2]) (Wn:Nat) (Hn:Nat) X.gs X.os):=by
   have h9:=(WL v2 B2).1;have:=sN (X:={X with us:=us1}) h9;have e1:({X with us:=us1}:WV).wide=(Wn:Nat):=GD.2.1;have e2:({X with us:=us1}:WV).high=(Hn:Nat):=GD.2.2.1;rw[e1,e2] at this;rw[GD.out.2.1,GD.out.2.2.1];exact this
  go_wp2_with fail
  refine(yQ _ Wn Hn _ _ c gg _ v2 FL GD.1 WS.2.1 WS.2.2).mono ?_;rintro e v3 ⟨rfl,hb⟩;obtain⟨s,hs⟩:∃s,Fd.onto gg k.f=s:=⟨_,rfl⟩;have SS:=aj (hs);rw[hs];have B3:=aG B2 hb;clear hb hs x0 x1 x2 x3 x4 x5 x6 x7 x8 c9 FL B2;by_cases hsl:left<s
  ·have FIN:Hid (Goes ks X Wn Hn k i us k.n4 cells us1):=by
    have:=HG [] us1 (.stop F1.1 WS.1 WS.2.2 (.inl (by rw[SS.out];exact hsl)));rw[iK] at this;exact this
   go_wp2;go_ret;exact⟨cv,us1,cells,rfl,(OC.below B3).mono (by have:=Z1.out;omega),FIN,UB1.below B3 UB1.lt,KW.trans (Kp.of B3),abj,a,F1.2.2.2.1.symm,by have:=F1.out.2.2.2.2.1.2;rw[<-F1.out.2.2.1] at this;exact this⟩
  obtain⟨⟨x0,x1,x2,x3,x4,x5,x6,x7,x8⟩,-⟩:=C4 _ B3;go_wp2_with fail
  refine(MJ _ _ _ v3 (WL v3 B3).1).mono ?_;rintro e v4 ⟨rfl,hb⟩;have B4:=aG B3 hb;obtain⟨tk,htk⟩:∃t,us1.any (λu=>u.at_==(c:Int))=t:=⟨_,rfl⟩;have TK:=aj (htk);have hx1:({X with us:=us1}:WV).us.any _=tk:=htk;rw[hx1];clear hb htk hx1 x0 x1 x2 x3 x4 x5 x6 x7 x8 B3;cases tk with
  |true=>
   have FIN:Hid (Goes ks X Wn Hn k i us k.n4 cells us1):=by
    have:=HG [] us1 (.stop F1.1 WS.1 WS.2.2 (.inr TK));rw[iK] at this;exact this
   go_wp2;go_ret;exact⟨cv,us1,cells,rfl,(OC.below B4).mono (by have:=Z1.out;omega),FIN,UB1.below B4 UB1.lt,KW.trans (Kp.of B4),abj,a,F1.2.2.2.1.symm,by have:=F1.out.2.2.2.2.1.2;rw[<-F1.out.2.2.1] at this;exact this⟩
  |false=>
   have hne:u1.at_≠(c:Nat):=by
    have:=bK.1 TK u1 (aT F1.1);simpa using this
   have hs1:0<s:=by rw[<-SS.out];exact vG WS.1 WS.2.2 hne
   have U4:=aj (UB1.below B4 UB1.lt);have c3:=(U4.pV F1.1).c3;have t3:=U4.thaw (i*8+3);have U5:Hid (Ub _ g (us1.set i {u1 with at_:=(c:Nat)}) _):=U4.Ls F1.1 _;have K5:Hid (Kp g v4 (v4.setCell ⟨g,i*8+3,none⟩ (int i64 (c:Nat)))):=Kp.set _ _ _;have wsub:IntKind.i64.wrap (left-s)=left-s:=by rw[IntKind.wrap_i64];omega
   go_upto_region 9 with fail
   clear c3 t3 hne;generalize (v4.setCell _ _)=v5 at *;have P5:=aj ((KP.trans (Kp.of B4)).trans K5);have O5:=aj ((OC.below B4).kp K5 (by have:=UB.out.2;have:=Z1.out;omega));go_upto_region 10 with fail
   have BA:Hid (Below _ v5 (v5.alloc (Obj.cells #[int i64 (c:Nat)] 3))):=aA;have C6:Hid ((v5.alloc (Obj.cells #[.int _ _] 3)).cell? ⟨v5.heap.size,0,none⟩=some (int i64 (c:Nat))):=bD rfl rfl;have O6:=aj (O5.below BA);have S6:=aj (aJ P5.size BA.size);go_wp2_with (at_builtin;refine gG _ rfl _ _ rfl w1.heap.size _ cells rfl O6 _ (c:Nat) rfl C6 (by omega) S6 ?_);intro gg' gc v7 o7 g7 _ _;have O7:=aj (o7);have P7:=aj (JG (P5.trans (Kp.of BA)) g7 (λb hb=>(O6.block b hb).1));have U7:Hid (Ub v7 g (us1.set i {u1 with at_:=(c:Nat)}) rest):=by
    have h6:=U5.below BA U5.lt;unfold Ub at h6;unfold Hid Ub;rw[g7.block g (lt_of_block h6) (λe=>by have:=(O6.out.block g e.symm).1;have:=UB.out.2;have:=Z1.out;omega)];exact h6
   have US2:Hid (us1.set i {u1 with at_:=(c:Nat)}=us.set i {u with at_:=(c:Nat)}):=by
    unfold Hid;rw[<-F1.out.2.2.2.1,List.set_set,<-F1.out.2.2.1]
   have HG2:Hid (∀cells' us',Goes ks X Wn Hn k i (us.set i {u with at_:=(c:Nat)}) (left-s) cells' us'->Goes ks X Wn Hn k i us k.n4 ((cells++[(c:Int)])++cells') us'):=λcells' us' h=>by
    have h9:=HG ((c:Int)::cells') us' (.step F1.1 WS.1 WS.2.2 (by rw[SS.out];omega) TK (by rw[US2.out,SS.out];exact h));rw[bT];exact h9
   clear o7 g7 BA C6 O6 S6 O5 P5 U5 K5 U4;go_wp2;go_round
   case rel=>exact⟨(c:Nat),left-s,cells++[(c:Int)],_,rfl,rfl,by omega,by rw[aC];simp;omega,⟨by omega,by have:=WS.out.2.1;omega⟩,by rw[<-US2.out];exact U7,O7,P7,HG2⟩
   case measure=>simp[intOf];omega
def ends(u:aI):aI:=if u.task=1/\u.at_=u.goal then{u with task:=0,goal:=0} else u
inductive Moves (ks:List KV) (X:WV) (Wn Hn:Nat):Nat->List aI->List dZ->List aI->Prop where
 |done {n:Nat} {us:List aI} (h:n=us.length):Moves ks X Wn Hn n us [] us
 |unit {n:Nat} {us us1 us':List aI} {u u1:aI} {k:KV} {cells:List Int} {evs:List dZ} (hu:us[n]? =some u) (hk:ks[u.kind.toNat]? =some k) (hg:Goes ks X Wn Hn k n us k.n4 cells us1) (h1:us1[n]? =some u1) (hm:Moves ks X Wn Hn (n+1) (us1.set n (ends u1)) evs us'):Moves ks X Wn Hn n us (cells.map (λc=>(⟨1,u.id,c⟩:dZ))++evs) us'
def RY(ks:List KV)(X:WV)(w w':World)(v ev:Value):Prop:=
 (Wd.aP ks X≠0/\v=.agg #[int i64 0,int i64 0,int i64 0,int i64 0,slice none 0 0,slice none 0 0,slice none 0 0,slice none 0 0,slice none 0 0]/\ev=slice none 0 0)
 \/(Wd.aP ks X=0/\∃Wn Hn:Nat,X.wide=(Wn:Nat)/\X.high=(Hn:Nat)/\Fd.Good Wn Hn X.gs X.os/\∃us' evs,Moves ks X Wn Hn 0 X.us evs us'/\us'.length=X.us.length/\Wo w' w.heap.size v {X with us:=us'}/\ig w' w.heap.size ev evs)
def Alike(ks:List KV)(n:Nat)(us0 us:List aI):Prop:=us.length=us0.length/\∀(j:Nat) (v:aI),us[j]? =some v->∃u,us0[j]? =some u/\v.kind=u.kind/\v.id=u.id/\Fit ks n v/\(0<=v.goal/\v.goal<(n:Int))
theorem Alike.fits(h:Alike ks n us0 us):∀v∈us,Fit ks n v:=λv hv=>by
 obtain⟨j,hj⟩:=List.mem_iff_getElem?.1 hv;obtain⟨u,-,-,-,h1,-⟩:=h.2 j v hj;exact h1
theorem Alike.set(h:Alike ks n us0 us){v:aI}(hu:us[i]? =some u)(hk:v.kind=u.kind)(hi:v.id=u.id)(hf:Fit ks n v)(hg:0<=v.goal/\v.goal<(n:Int)):Alike ks n us0 (us.set i v):=by
 refine⟨by rw[jA];exact h.1,λj x hj=>?_⟩;by_cases hij:i=j
 ·subst hij
  rw[List.getElem?_set_self (aK.1 hu).1] at hj;injection hj with hj
  subst hj;obtain⟨u0,h1,h2,h3,-,-⟩:=h.2 i u hu;exact⟨u0,h1,by rw[hk,h2],by rw[hi,h3],hf,hg⟩
 ·rw[List.getElem?_set_ne hij] at hj
  exact h.2 j x hj
theorem RZ(vk vw:Value)(ks:List KV)(X:WV)(w:World)(hk:Kl w vk ks)(hb:∀k∈ks,k.b.size<=9223372036854775807)(hw:Wl w vw X)(hs:Sd w):
  Calls prog 59 #[vk,vw] w λe w'=>∃v ev r,e=.returned (.tuple #[v,ev,r])/\Er r (Wd.aP ks X)/\RY ks X w w' v ev/\Below w.heap.size w w':=by
 have K:Hid (Kl w vk ks/\∀k∈ks,k.b.size<=9223372036854775807):=⟨hk,hb⟩;have H:=aj (hw);have S:=aj (hs);obtain⟨p1,q1,p2,q2,p3,q3,p4,q4,p5,q5,rfl⟩:=aX hw;obtain⟨pk,qk,rfl,ck1,ck2,kc⟩:=hk;clear hb hw hs kc;go_enter func59,ntmps59;go_upto_region 1 with fail
 obtain⟨B0,X0,Z0⟩:=uD w (int i64 X.turn) (int i64 X.next) (int i64 X.wide) (int i64 X.high) (slice p1 X.gs.length q1) (slice p2 X.os.length q2) (slice p3 X.gold.length q3) (slice p4 X.us.length q4) (slice p5 X.qs.length q5);generalize ((w.alloc _).alloc _)=w0 at *;have xx:=X0.cells;go_wp2_with fail
 refine(gY _ _ ks X w0 (K.1.below B0) K.2 (H.below B0)).mono ?_;rintro e w1 ⟨r,rfl,hr,hb⟩;obtain⟨fw,hfw⟩:∃f,Wd.aP ks X=f:=⟨_,rfl⟩;have FW:=aj (hfw);rw[hfw] at hr;have B1:=aG B0 hb;have X1:=aj (X0.below hb X0.lt);have Z1:=aj (Z0.below hb Z0.lt);clear hb hfw xx X0 B0 Z0;rcases hr with⟨rfl,rfl⟩|⟨hf,rfl⟩
 case inr=>
  have HF:=aj (hf);clear hf;have zz:=Z1.cells;obtain⟨t0,t1,t2,t3,t4,t5,t6,t7,t8⟩:=Z1.cO;have KZ:=aj (fH w1 (w.heap.size+1));obtain⟨y0,y1,y2,y3,y4,y5,y6,y7,y8⟩:=(Z1.nJ).cells;go_wp2;clear zz t0 t1 t2 t3 t4 t5 t6 t7 t8;generalize World.setCell _ ⟨_,8,none⟩ _=w9 at *;refine bodyPost_ret (v:=.tuple #[.agg _,slice _ 0 0,.iface 85 (int i64 fw)]) (by simp[results,results59,go_sem,y0,y1,y2,y3,y4,y5,y6,y7,y8]) rfl ⟨_,_,_,rfl,by rw[FW.out];exact Er.no HF,.inl ⟨by rw[FW.out];exact HF,rfl,rfl⟩,KZ.below B1 B1.size (by omega)⟩
 have WR:=aj (bY FW);obtain⟨Wn,Hn,e1,e2,G⟩:=WR.good;have GD:=aj (fQ G e1 e2);clear e1 e2 G;have xx:=X1.cells;go_wp2_with fail
 refine(jo _ X w1 (H.below B1) WR.len).mono ?_;rintro e w2 ⟨cu,rfl,⟨k1,k2,k3,k4,k5,rfl,⟨o1,o2,o3,o4,o5⟩,-,-,d14,-,-,d24,-,d34,-,d45⟩,hb⟩;obtain⟨a1,r1,rfl⟩:=o1.len;obtain⟨a2,r2,rfl⟩:=o2.len;obtain⟨a3,r3,rfl⟩:=o3.len;obtain⟨a5,r5,rfl⟩:=o5.len;obtain⟨b1,hb1⟩:∃z,w1.heap.size=z:=⟨_,rfl⟩;rw[hb1] at o1 o2 o3 o4 o5;have BS:Hid (w.heap.size+1<b1/\b1<=w2.heap.size):=⟨by rw[<-hb1];exact Z1.lt,by rw[<-hb1];exact hb.size⟩;have X2:=aj (X1.below hb X1.lt);have Z2:=aj (Z1.below hb Z1.lt);have B2:=aG B1 hb;clear hb hb1 xx X1 Z1 B1;have zz:=X2.cells;obtain⟨t0,t1,t2,t3,t4,t5,t6,t7,t8⟩:=X2.cO;rcases o4.ub with⟨rfl,hnil⟩|⟨g,r4,rest,rfl,hbg,hkc,hcm,hcl,hub⟩
 ·
  have KZ:=aj (dG w2 w.heap.size (int i64 X.turn) (int i64 X.next) (int i64 X.wide) (int i64 X.high) (slice a1 X.gs.length r1) (slice a2 X.os.length r2) (slice a3 X.gold.length r3) (slice none 0 0) (slice a5 X.qs.length r5));have XE:=aj (X2.put (int i64 X.turn) (int i64 X.next) (int i64 X.wide) (int i64 X.high) (slice a1 X.gs.length r1) (slice a2 X.os.length r2) (slice a3 X.gold.length r3) (slice none 0 0) (slice a5 X.qs.length r5));have NIL:=aj (hnil);have O2:=aj (lM o1 o2 o3 o5);clear o1 o2 o3 o4 o5 d14 d24 d34 d45 hnil;go_upto_region 5 with fail
  clear zz t0 t1 t2 t3 t4 t5 t6 t7 t8;generalize World.setCell _ ⟨_,8,none⟩ _=w3 at *;have ZE:=aj (Z2.kp KZ (by omega));have BE:=aj (KZ.below B2 B2.size aN);have O3:Hid (Ow w3 b1 (slice a1 X.gs.length r1) X.gs/\Ow w3 b1 (slice a2 X.os.length r2) X.os/\Ow w3 b1 (slice a3 X.gold.length r3) X.gold/\fB w3 b1 (slice a5 X.qs.length r5) X.qs):=by
   have h:=BS.out.1;exact⟨O2.1.kp KZ (by omega),O2.2.1.kp KZ (by omega),O2.2.2.1.kp KZ (by omega),O2.2.2.2.kp KZ (by omega)⟩
  clear KZ X2 Z2 B2 O2;obtain⟨-,-,-,-,-,-,-,w7,-⟩:=XE.cells;go_upto_region 7 with fail
  clear w7;refine wp_loop_rounds 1 ?_;rw[rounds_succ];have xx:=XE.cells;have zz:=ZE.cells;obtain⟨t0,t1,t2,t3,t4,t5,t6,t7,t8⟩:=ZE.cO;have KZ:=aj (dG w3 (w.heap.size+1) (int i64 X.turn) (int i64 X.next) (int i64 X.wide) (int i64 X.high) (slice a1 X.gs.length r1) (slice a2 X.os.length r2) (slice a3 X.gold.length r3) (slice none 0 0) (slice a5 X.qs.length r5));obtain⟨y0,y1,y2,y3,y4,y5,y6,y7,y8⟩:=(ZE.put (int i64 X.turn) (int i64 X.next) (int i64 X.wide) (int i64 X.high) (slice a1 X.gs.length r1) (slice a2 X.os.length r2) (slice a3 X.gold.length r3) (slice none 0 0) (slice a5 X.qs.length r5)).cells;go_wp2;clear xx zz t0 t1 t2 t3 t4 t5 t6 t7 t8;generalize World.setCell _ ⟨_,8,none⟩ _=wz at *;refine bodyPost_ret (v:=.tuple #[.agg #[int i64 X.turn,int i64 X.next,int i64 X.wide,int i64 X.high,slice a1 X.gs.length r1,slice a2 X.os.length r2,slice a3 X.gold.length r3,slice none 0 0,slice a5 X.qs.length r5],slice none 0 0,.nilIface]) (by simp[results,results59,go_sem,y0,y1,y2,y3,y4,y5,y6,y7,y8]) rfl ⟨_,_,_,rfl,by rw[FW.out];exact Er.nil,.inr ⟨FW,Wn,Hn,GD.2.1,GD.2.2,GD.1,X.us,[],.done (by rw[NIL.out];rfl),rfl,?_,ig.nil _ _⟩,KZ.below BE BE.size (by omega)⟩;have h:=BS.out.1;exact⟨_,_,_,_,_,rfl,(O3.1.kp KZ (by omega)).mono (by omega),(O3.2.1.kp KZ (by omega)).mono (by omega),(O3.2.2.1.kp KZ (by omega)).mono (by omega),by rw[NIL.out];exact fD.nil _ _,(O3.2.2.2.kp KZ (by omega)).mono (by omega)⟩
 have KZ:=aj (dG w2 w.heap.size (int i64 X.turn) (int i64 X.next) (int i64 X.wide) (int i64 X.high) (slice a1 X.gs.length r1) (slice a2 X.os.length r2) (slice a3 X.gold.length r3) (slice (some ⟨g,0,none⟩) X.us.length r4) (slice a5 X.qs.length r5));have X3:=aj (X2.put (int i64 X.turn) (int i64 X.next) (int i64 X.wide) (int i64 X.high) (slice a1 X.gs.length r1) (slice a2 X.os.length r2) (slice a3 X.gold.length r3) (slice (some ⟨g,0,none⟩) X.us.length r4) (slice a5 X.qs.length r5));have O2:=aj (iJ o1 o2 o3 o5 hub);have DD:Hid ((∀b,((slice a1 X.gs.length r1)).ownBlock=some b->some g≠some b)/\(∀b,((slice a2 X.os.length r2)).ownBlock=some b->some g≠some b)/\(∀b,((slice a3 X.gold.length r3)).ownBlock=some b->some g≠some b)/\(∀b,((slice a5 X.qs.length r5)).ownBlock=some b->some g≠some b)):=⟨λb h e=>d14 b h e,λb h e=>d24 b h e,λb h e=>d34 b h e,λb h e=>d45 b e h⟩;have CP:=aj (lM hbg hkc hcm hcl);have hr4:r4<=9223372036854775807:=by unfold maxLen at hcm;omega
 have hr4':=hkc;have Jr:=WR.ul;clear o1 o2 o3 o4 o5 d14 d24 d34 d45 hbg hkc hcm hcl hub;go_upto_region 5 with fail
 clear zz t0 t1 t2 t3 t4 t5 t6 t7 t8;generalize World.setCell _ ⟨_,8,none⟩ _=w3 at *;have Z3:=aj (Z2.kp KZ (by omega));have B3:=aj (KZ.below B2 B2.size aN);have O3:Hid (Ow w3 b1 (slice a1 X.gs.length r1) X.gs/\Ow w3 b1 (slice a2 X.os.length r2) X.os/\Ow w3 b1 (slice a3 X.gold.length r3) X.gold/\fB w3 b1 (slice a5 X.qs.length r5) X.qs/\Ub w3 g X.us rest):=by
  have h:=BS.out.1;refine⟨O2.1.kp KZ (by omega),O2.2.1.kp KZ (by omega),O2.2.2.1.kp KZ (by omega),O2.2.2.2.1.kp KZ (by omega),?_⟩;have h9:=O2.out.2.2.2.2;unfold Ub at *;rw[KZ.out.block g (lt_of_block h9) (by have:=CP.out.1;omega)];exact h9
 clear KZ X2 Z2 B2 O2;have ST:Hid (∀V us',us'.length=X.us.length->Kp g w3 V->Ub V g us' rest->Wl V (.agg #[int i64 X.turn,int i64 X.next,int i64 X.wide,int i64 X.high,slice a1 X.gs.length r1,slice a2 X.os.length r2,slice a3 X.gold.length r3,slice (some ⟨g,0,none⟩) X.us.length r4,slice a5 X.qs.length r5]) {X with us:=us'}/\Kl V (slice pk ks.length qk) ks/\Sd V/\Wx V (w.heap.size) (int i64 X.turn) (int i64 X.next) (int i64 X.wide) (int i64 X.high) (slice a1 X.gs.length r1) (slice a2 X.os.length r2) (slice a3 X.gold.length r3) (slice (some ⟨g,0,none⟩) X.us.length r4) (slice a5 X.qs.length r5)/\Wx V (w.heap.size+1) (int i64 0) (int i64 0) (int i64 0) (int i64 0) (slice none 0 0) (slice none 0 0) (slice none 0 0) (slice none 0 0) (slice none 0 0)/\Below w.heap.size w V/\Ow V b1 (slice a1 X.gs.length r1) X.gs/\Ow V b1 (slice a2 X.os.length r2) X.os/\Ow V b1 (slice a3 X.gold.length r3) X.gold/\fB V b1 (slice a5 X.qs.length r5) X.qs):=λV us' hl hk hu=>by
  have hb:=hk.below B3 B3.size (by have:=CP.out.1;have:=BS.out.1;omega);have o1:Ow V b1 _ _:=bJ O3.1 (jm hk) DD.1;have o2:Ow V b1 _ _:=bJ O3.2.1 (jm hk) DD.2.1;have o3:Ow V b1 _ _:=bJ O3.2.2.1 (jm hk) DD.2.2.1;have o5:fB V b1 _ _:=bJ O3.2.2.2.1 (jm hk) DD.2.2.2;have hu':=hu.ZQ (base:=b1) (cap:=r4) CP.1 (by rw[hl];exact CP.2.1) CP.2.2.1 (by rw[hl];exact CP.2.2.2);rw[hl] at hu';exact⟨⟨_,_,_,_,_,rfl,o1.ro,o2.ro,o3.ro,hu'.l,o5.l⟩,K.1.below hb,S.below hb,X3.kp hk (by have:=CP.out.1;have:=BS.out.1;omega),Z3.kp hk (by have:=CP.out.1;have:=BS.out.1;omega),hb,o1,o2,o3,o5⟩
 obtain⟨-,-,-,-,-,-,-,w7,-⟩:=X3.cells;go_upto_region 7 with fail
 clear w7;have GL:=aj (O3.2.2.2.2.lt);go_loopw [8,25] (λv8 v25 V=>∃(n:Nat) (us1:List aI) (evs:List dZ) (ev:Value),ev=v8/\v25=int i64 (n:Nat)/\n<=X.us.length/\Alike ks (Wn*Hn) X.us us1/\Ub V g us1 rest/\ig V w3.heap.size ev evs/\evs.length<=4*n/\Kp g w3 V/\(∀tu us',Moves ks X Wn Hn n us1 tu us'->Moves ks X Wn Hn 0 X.us (evs++tu) us')) (λ_ v25 _=>X.us.length-(intOf v25).toNat)
 case atStart=>exact⟨0,X.us,[],_,rfl,rfl,aZ _,⟨rfl,λj v hj=>⟨v,hj,rfl,rfl,Gx WR GD.1 v (aT hj)⟩⟩,O3.2.2.2.2,ig.nil _ _,aU _,Kp.refl _ _,λ_ _ h=>h⟩
 case round=>
  obtain⟨n,us1,evs,ev,rfl,rfl,hn,hal,hub,hev,hel,hkp,hmo⟩:=hrel;have AL:=aj (hal);have U4:=aj (hub);have E4:Hid (ig wr w3.heap.size ev evs/\evs.length<=4*n):=⟨hev,hel⟩;have P4:=aj (hkp);have MO:=aj (hmo);have A4:=ST wr us1 hal.1 hkp hub;obtain⟨-,-,-,ax,az,ab,ao1,ao2,ao3,ao5⟩:=A4;clear hal hub hev hel hkp hmo;by_cases h0:n=X.us.length
  ·subst h0
   have hnl:¬(((X.us.length:Nat):Int)<(X.us.length:Nat)):=by omega
   have XE:=aj (ax);have ZE:=aj (az);have BE:=aj (ab);have OE:=aj (lM ao1 ao2 ao3 ao5);have UE:Hid (fD wr b1 (slice (some ⟨g,0,none⟩) X.us.length r4) us1):=by
    have hl:=AL.out.1;have:=U4.ZQ (base:=b1) (cap:=r4) CP.1 (by rw[hl];exact CP.2.1) CP.2.2.1 (by rw[hl];exact CP.2.2.2);rw[hl] at this;exact this
   have FIN:Hid (Moves ks X Wn Hn 0 X.us evs us1):=by
    have:=MO [] us1 (.done AL.1.symm);rw[iK] at this;exact this
   have B13:Hid (b1<=w3.heap.size):=by have:=CP.out.1;have:=GL.out;unfold Hid;omega
   clear ax az ab ao1 ao2 ao3 ao5;have xx:=XE.cells;have zz:=ZE.cells;obtain⟨t0,t1,t2,t3,t4,t5,t6,t7,t8⟩:=ZE.cO;have KZ:=aj (dG wr (w.heap.size+1) (int i64 X.turn) (int i64 X.next) (int i64 X.wide) (int i64 X.high) (slice a1 X.gs.length r1) (slice a2 X.os.length r2) (slice a3 X.gold.length r3) (slice (some ⟨g,0,none⟩) X.us.length r4) (slice a5 X.qs.length r5));obtain⟨y0,y1,y2,y3,y4,y5,y6,y7,y8⟩:=(ZE.put (int i64 X.turn) (int i64 X.next) (int i64 X.wide) (int i64 X.high) (slice a1 X.gs.length r1) (slice a2 X.os.length r2) (slice a3 X.gold.length r3) (slice (some ⟨g,0,none⟩) X.us.length r4) (slice a5 X.qs.length r5)).cells;go_wp2;clear xx zz t0 t1 t2 t3 t4 t5 t6 t7 t8;generalize World.setCell _ ⟨_,8,none⟩ _=wz at *;refine bodyPost_ret (v:=.tuple #[.agg #[int i64 X.turn,int i64 X.next,int i64 X.wide,int i64 X.high,slice a1 X.gs.length r1,slice a2 X.os.length r2,slice a3 X.gold.length r3,slice (some ⟨g,0,none⟩) X.us.length r4,slice a5 X.qs.length r5],ev,.nilIface]) (by simp[results,results59,go_sem,y0,y1,y2,y3,y4,y5,y6,y7,y8]) rfl ⟨_,_,_,rfl,by rw[FW.out];exact Er.nil,.inr ⟨FW,Wn,Hn,GD.2.1,GD.2.2,GD.1,us1,evs,FIN,AL.1,?_,?_⟩,KZ.below BE BE.size (by omega)⟩
   ·have h:=BS.out.1
    exact⟨_,_,_,_,_,rfl,(OE.1.kp KZ (by omega)).mono (by omega),(OE.2.1.kp KZ (by omega)).mono (by omega),(OE.2.2.1.kp KZ (by omega)).mono (by omega),(UE.kp KZ (by omega)).mono (by omega),(OE.2.2.2.kp KZ (by omega)).mono (by omega)⟩
   ·have h:=BS.out.1
    have h':=B13.out;exact(E4.1.kp9 KZ (by omega)).mono (by omega)
  ·have hnl:n<X.us.length:=by omega
   have hni:((n:Nat):Int)<(X.us.length:Nat):=by omega
   have hn1:n<us1.length:=by rw[AL.out.1];exact hnl
   obtain⟨u,hu⟩:∃u,us1[n]? =some u:=⟨_,aH hn1⟩;obtain⟨u0,hu0,huk,aal,hfit,hgoal⟩:=AL.2 n u hu;obtain⟨k,f0⟩:=WR.fine hu0;have hkk:ks[u.kind.toNat]? =some k:=by rw[huk];exact f0.kk
   have hsp:=lT WR.kinds (aT hkk);have UH:Hid (us1[n]? =some u/\ks[u.kind.toNat]? =some k/\Fit ks (Wn*Hn) u/\(0<=u.goal/\u.goal<(Wn*Hn:Nat))/\(0<=k.n4/\k.n4<=4)):=⟨hu,hkk,hfit,hgoal,hsp.2.2.1,hsp.2.2.2.1⟩;have WN:IntKind.i64.wrap ((n:Nat)+1:Int)=((n:Nat):Int)+1:=by rw[IntKind.wrap_i64];omega
   have BE:=aj (ab);have xx:=ax.cells;have WK:Hid (Calls prog 107 #[slice pk ks.length qk,.agg #[int i64 X.turn,int i64 X.next,int i64 X.wide,int i64 X.high,slice a1 X.gs.length r1,slice a2 X.os.length r2,slice a3 X.gold.length r3,slice (some ⟨g,0,none⟩) X.us.length r4,slice a5 X.qs.length r5],.pointer (some ⟨g,n*8,none⟩)] wr λe w'=>∃v us' cells,e=.returned v/\Ow w' wr.heap.size v cells/\Goes ks X Wn Hn k n us1 k.n4 cells us'/\Ub w' g us' rest/\Kp g wr w'/\cells.length<=4/\(∃a,us'=us1.set n {u with at_:=a}/\0<=a/\a<(Wn*Hn:Nat))):=by
    have h:=walk_any (slice pk ks.length qk) ks X us1 (slice a1 X.gs.length r1) (slice a2 X.os.length r2) (slice a3 X.gold.length r3) (slice a5 X.qs.length r5) g r4 n rest u k Wn Hn wr (K.1.below BE) (S.below BE) GD.1 GD.2.1 GD.2.2 (λV us' hl hk hu=>by
     have h9:=ST V us' (by rw[hl,AL.out.1]) (P4.trans hk) hu;rw[AL.out.1];exact⟨h9.1,h9.2.1,h9.2.2.1⟩) U4 UH.1 UH.2.1 (by rw[AL.out.1];exact Jr) AL.fits UH.2.2.2.1 UH.2.2.2.2
    rw[AL.out.1] at h;exact h
   clear ax az ab ao1 ao2 ao3 ao5 hu hu0 huk aal hfit hgoal f0 hkk hsp;go_wp2_with fail
   refine Calls.mono WK ?_;rintro e v2 ⟨cv,us2,cells,rfl,hoc,hgo,abk,aam,hc4,a,aan,ha⟩;obtain⟨u2,hu2⟩:∃v:aI,{u with at_:=a}=v:=⟨_,rfl⟩;have hi2:us2[n]? =some u2:=by rw[aan,hu2,List.getElem?_set_self hn1]
   have H2:Hid (us2[n]? =some u2/\us2.length=X.us.length/\Alike ks (Wn*Hn) X.us us2/\u2.id=u.id/\u2.kind=u.kind/\Fit ks (Wn*Hn) u2/\(0<=u2.goal/\u2.goal<(Wn*Hn:Nat))/\n<us2.length):=by
    have hf:Fit ks (Wn*Hn) u2:=by rw[<-hu2];exact⟨UH.2.2.1.1,ha⟩
    have hg2:0<=u2.goal/\u2.goal<(Wn*Hn:Nat):=by rw[<-hu2];exact UH.2.2.2.1
    have hal2:Alike ks (Wn*Hn) X.us us2:=by rw[aan,hu2];exact AL.set UH.1 (by rw[<-hu2]) (by rw[<-hu2]) hf hg2
    exact⟨hi2,hal2.1,hal2,by rw[<-hu2],by rw[<-hu2],hf,hg2,(aK.1 hi2).1⟩
   obtain⟨ac,cc,rfl⟩:=hoc.len;obtain⟨bo,hbo⟩:∃z,wr.heap.size=z:=⟨_,rfl⟩;rw[hbo] at hoc;have OC:=aj (hoc);have GO:Hid (Goes ks X Wn Hn k n us1 k.n4 cells us2/\cells.length<=4):=⟨hgo,hc4⟩;have U5:=aj (abk);have P5:=aj (P4.trans aam);have E5:=aj (E4.1.kp9 aam GL);have DE:Hid (∀b,ev.ownBlock=some b->(slice ac cells.length cc).ownBlock≠some b):=λb h1 h2=>by
    have:=(E4.1.block b h1).2;have:=(hoc.block b h2).1;omega
   have EL:=aj (E4.2);have hcc:cells.length<=cc/\cc<=9223372036854775807:=by
    obtain⟨a9,c9,h9,h8,h7,-⟩:=hoc.ro;injection h9 with _ _ h9
    subst h9;exact⟨h8,h7⟩
   obtain⟨acM,acN⟩:=hcc;clear hoc hgo abk aam aan ha hu2 hi2 hbo xx WK U4 P4 E4 BE;generalize wr=wo at *;go_upto_region 11 with fail
   go_loopw [8,37] (λv8 v37 V=>∃(m:Nat) (ev':Value),ev'=v8/\v37=int i64 (m:Nat)/\m<=cells.length/\Ub V g us2 rest/\ig V w3.heap.size ev' (evs++(cells.take m).map (λc=>(⟨1,u.id,c⟩:dZ)))/\Kp g w3 V/\Ow V bo (slice ac cells.length cc) cells/\(∀b,ev'.ownBlock=some b->(slice ac cells.length cc).ownBlock≠some b)) (λ_ v37 _=>cells.length-(intOf v37).toNat)
   case atStart=>exact⟨0,_,rfl,rfl,aZ _,U5,by simpa using E5.out,P5.out,OC.out,DE.out⟩
   case round=>
    obtain⟨m,ev',rfl,rfl,hm,hub,hev,hkp,hoc,hde⟩:=hrel;have U6:=aj (hub);have E6:=aj (hev);have P6:=aj (hkp);have O6:=aj (hoc);have D6:=aj (hde);clear hub hev hkp hoc hde U5 E5 P5 OC DE;obtain⟨y0,y1,y2,y3,y4,y5,y6,y7⟩:=U6.pV H2.1;by_cases h0:m=cells.length
    ·subst h0
     have hml:¬(((cells.length:Nat):Int)<(cells.length:Nat)):=by omega
     rw[List.take_of_length_le aN] at E6;obtain⟨wW,JV⟩:∃l,evs++cells.map (λc=>(⟨1,u.id,c⟩:dZ))=l:=⟨_,rfl⟩;rw[JV] at E6;have EL2:Hid (wW.length<=4*(n+1)):=by
      unfold Hid;rw[<-JV,aC,lG];have:=EL.out;have:=GO.out.2;omega
     have MO2:Hid (∀tu us',Moves ks X Wn Hn (n+1) (us2.set n (ends u2)) tu us'->Moves ks X Wn Hn 0 X.us (wW++tu) us'):=λtu us' h=>by
      have:=MO (cells.map (λc=>(⟨1,u.id,c⟩:dZ))++tu) us' (.unit UH.1 UH.2.1 GO.1 H2.1 h);rw[<-bT,JV] at this;exact this
     clear JV;have abl:Hid (us2.set n u2=us2):=by
      unfold Hid;obtain⟨h2,h3⟩:=aK.1 H2.1;rw[<-h3,List.set_getElem_self]
     go_upto_region 15 with fail
     by_cases ht:u2.task=1
     ·have ht':(u2.task==1)=true:=by rw[ht];rfl
      have C5:Hid (∀V,Below wr.heap.size wr V->fA V ⟨g,n*8,none⟩ u2):=λV hb=>(U6.below hb U6.lt).pV H2.1
      clear y0 y1 y2 y3 y4 y5 y6 y7;by_cases hg:u2.at_=u2.goal
      ·have hg':(u2.at_==u2.goal)=true:=by rw[hg];simp
       have EN:Hid (ends u2={u2 with task:=0,goal:=0}):=by unfold Hid ends;rw[if_pos ⟨ht,hg⟩]
       clear ht hg;refine aV [(true,0),(true,1),(true,2),(true,3),(true,4),(true,5),(true,6),(true,7),(true,8),(true,9),(true,10),(true,11),(true,12),(true,13),(true,14)] [(false,15)] (λV=>fA V ⟨g,n*8,none⟩ u2) (by kernel_rfl) (by kernel_rfl) (by kernel_rfl) (by decide+kernel) (by decide+kernel) (C5 _ (aB.drew)) ?_;have D1:Hid (Below wr.heap.size wr {wr with drawn:=wr.drawn+1}):=aB.drew;generalize ({wr with drawn:=wr.drawn+1}:World)=v7 at *;refine au rfl (.pointer (some ⟨g,n*8,none⟩)) (by go_simp) (λV hV=>by go_simp) ?_;go_simp;refine au rfl (.pointer (some ⟨g,n*8,none⟩)) (by go_simp) (λV hV=>by go_simp) ?_;go_simp;refine au rfl (.pointer (some ⟨g,n*8+6,none⟩)) (by go_simp) (λV hV=>by go_simp) ?_;go_simp;refine au rfl (int i64 u2.task) (by go_simp) (λV hV=>by obtain⟨y0,y1,y2,y3,y4,y5,y6,y7⟩:=hV;go_simp) ?_;go_simp;refine au rfl (.bool true) (by go_simp) (λV hV=>by go_simp) ?_;go_simp;refine au rfl (.bool true) (by go_simp) (λV hV=>by go_simp) ?_;go_simp;refine au rfl (.pointer (some ⟨g,n*8,none⟩)) (by go_simp) (λV hV=>by go_simp) ?_;go_simp;refine au rfl (.pointer (some ⟨g,n*8,none⟩)) (by go_simp) (λV hV=>by go_simp) ?_;go_simp;refine au rfl (.pointer (some ⟨g,n*8+3,none⟩)) (by go_simp) (λV hV=>by go_simp) ?_;go_simp;refine au rfl (int i64 u2.at_) (by go_simp) (λV hV=>by obtain⟨y0,y1,y2,y3,y4,y5,y6,y7⟩:=hV;go_simp) ?_;go_simp;refine au rfl (.pointer (some ⟨g,n*8,none⟩)) (by go_simp) (λV hV=>by go_simp) ?_;go_simp;refine au rfl (.pointer (some ⟨g,n*8,none⟩)) (by go_simp) (λV hV=>by go_simp) ?_;go_simp;refine au rfl (.pointer (some ⟨g,n*8+7,none⟩)) (by go_simp) (λV hV=>by go_simp) ?_;go_simp;refine au rfl (int i64 u2.goal) (by go_simp) (λV hV=>by obtain⟨y0,y1,y2,y3,y4,y5,y6,y7⟩:=hV;go_simp) ?_;go_simp;refine au rfl (.bool true) (by go_simp) (λV hV=>by go_simp) ?_;go_simp;unfold dw;refine aW rfl (.bool true) v7 (by go_simp) (by go_simp) trivial ?_;go_simp;unfold bC;have U7:=aj (U6.below D1 U6.lt);have c6:=(U7.pV H2.1).c6;have t6:=U7.thaw (n*8+6);have U8:=aj (U7.Qq H2.1 0);have hs8:(us2.set n _)[n]? =some {u2 with task:=0}:=List.getElem?_set_self H2.2.2.2.2.2.2.2;have c7:=(U8.pV hs8).c7;have t7:=U8.thaw (n*8+7);have U9:Hid (Ub ((v7.setCell ⟨g,n*8+6,none⟩ (int i64 0)).setCell ⟨g,n*8+7,none⟩ (int i64 0)) g (us2.set n {u2 with task:=0,goal:=0}) rest):=by
        have:=U8.Bj hs8 0;rw[List.set_set] at this;exact this
       have K9:Hid (Kp g v7 ((v7.setCell ⟨g,n*8+6,none⟩ (int i64 0)).setCell ⟨g,n*8+7,none⟩ (int i64 0))):=(Kp.set _ _ _).trans (Kp.set _ _ _);clear hs8;go_upto_region 17 with fail
       clear c6 t6 c7 t7 U8 U7;generalize ((v7.setCell _ _).setCell _ _)=v9 at *;have P9:=aj ((P6.trans (Kp.of D1)).trans K9);have E9:=aj ((E6.below D1).kp9 K9 GL);have AL9:Hid (Alike ks (Wn*Hn) X.us (us2.set n {u2 with task:=0,goal:=0})):=H2.2.2.1.set H2.1 rfl rfl ⟨H2.2.2.2.2.2.1.1,H2.2.2.2.2.2.1.2⟩ ⟨Int.le_refl _,by have:=H2.out.2.2.2.2.2.2.1;show(0:Int)<_;omega⟩;rw[EN.out] at MO2;clear ht' hg';go_wp2;go_round
       case rel=>exact⟨n+1,_,wW,_,rfl,by go_num,by omega,AL9,U9,E9,EL2,P9,MO2⟩
       case measure=>simp[intOf];omega
      ·have hg':(u2.at_==u2.goal)=false:=by rw[beq_eq_false_iff_ne];exact hg
       have EN:Hid (ends u2=u2):=by unfold Hid ends;rw[if_neg (λh=>hg h.2)]
       clear ht hg;refine aV [(true,0),(true,1),(true,2),(true,3),(true,4),(true,5),(true,6),(true,7),(true,8),(true,9),(true,10),(true,11),(true,12),(true,13),(true,14)] [(false,15)] (λV=>fA V ⟨g,n*8,none⟩ u2) (by kernel_rfl) (by kernel_rfl) (by kernel_rfl) (by decide+kernel) (by decide+kernel) (C5 _ (aB.drew)) ?_;have D1:Hid (Below wr.heap.size wr {wr with drawn:=wr.drawn+1}):=aB.drew;generalize ({wr with drawn:=wr.drawn+1}:World)=v7 at *;refine au rfl (.pointer (some ⟨g,n*8,none⟩)) (by go_simp) (λV hV=>by go_simp) ?_;go_simp;refine au rfl (.pointer (some ⟨g,n*8,none⟩)) (by go_simp) (λV hV=>by go_simp) ?_;go_simp;refine au rfl (.pointer (some ⟨g,n*8+6,none⟩)) (by go_simp) (λV hV=>by go_simp) ?_;go_simp;refine au rfl (int i64 u2.task) (by go_simp) (λV hV=>by obtain⟨y0,y1,y2,y3,y4,y5,y6,y7⟩:=hV;go_simp) ?_;go_simp;refine au rfl (.bool true) (by go_simp) (λV hV=>by go_simp) ?_;go_simp;refine au rfl (.bool true) (by go_simp) (λV hV=>by go_simp) ?_;go_simp;refine au rfl (.pointer (some ⟨g,n*8,none⟩)) (by go_simp) (λV hV=>by go_simp) ?_;go_simp;refine au rfl (.pointer (some ⟨g,n*8,none⟩)) (by go_simp) (λV hV=>by go_simp) ?_;go_simp;refine au rfl (.pointer (some ⟨g,n*8+3,none⟩)) (by go_simp) (λV hV=>by go_simp) ?_;go_simp;refine au rfl (int i64 u2.at_) (by go_simp) (λV hV=>by obtain⟨y0,y1,y2,y3,y4,y5,y6,y7⟩:=hV;go_simp) ?_;go_simp;refine au rfl (.pointer (some ⟨g,n*8,none⟩)) (by go_simp) (λV hV=>by go_simp) ?_;go_simp;refine au rfl (.pointer (some ⟨g,n*8,none⟩)) (by go_simp) (λV hV=>by go_simp) ?_;go_simp;refine au rfl (.pointer (some ⟨g,n*8+7,none⟩)) (by go_simp) (λV hV=>by go_simp) ?_;go_simp;refine au rfl (int i64 u2.goal) (by go_simp) (λV hV=>by obtain⟨y0,y1,y2,y3,y4,y5,y6,y7⟩:=hV;go_simp) ?_;go_simp;refine au rfl (.bool false) (by go_simp) (λV hV=>by go_simp) ?_;go_simp;unfold dw;refine aW rfl (.bool false) v7 (by go_simp) (by go_simp) trivial ?_;go_simp;unfold bC;have U9:=aj (U6.below D1 U6.lt);have P9:=aj (P6.trans (Kp.of D1));have E9:=aj (E6.below D1);rw[EN.out,abl.out] at MO2;clear ht' hg';go_wp2;go_round
       case rel=>exact⟨n+1,us2,wW,_,rfl,by go_num,by omega,H2.2.2.1,U9,E9,EL2,P9,MO2⟩
       case measure=>simp[intOf];omega
     ·have ht':(u2.task==1)=false:=by rw[beq_eq_false_iff_ne];exact ht
      have EN:Hid (ends u2=u2):=by unfold Hid ends;rw[if_neg (λh=>ht h.1)]
      rw[EN.out,abl.out] at MO2;clear ht;go_quiet (fail);clear y0 y1 y2 y3 y4 y5 y6 y7;go_wp2;go_round
      case rel=>exact⟨n+1,us2,wW,_,rfl,by go_num,by omega,H2.2.2.1,U6.below ⟨rfl,rfl,rfl,aU _,λ_ _=>rfl⟩ U6.lt,E6.below ⟨rfl,rfl,rfl,aU _,λ_ _=>rfl⟩,EL2,P6.trans (Kp.of ⟨rfl,rfl,rfl,aU _,λ_ _=>rfl⟩),MO2⟩
      case measure=>simp[intOf];omega
    ·have hml:m<cells.length:=by omega
     have hmi:((m:Nat):Int)<(cells.length:Nat):=by omega
     obtain⟨x,hx⟩:∃x,cells[m]? =some x:=⟨_,aH hml⟩;obtain⟨a9,c9,h9,-,-,hcl⟩:=O6.ro;obtain⟨xc,hxc,-,abm⟩:=hcl (by intro h;rw[h] at hml;simp at hml);injection h9 with h91 h92 h93
     subst h91;subst hxc;have cx:=abm m x hx;have WM:IntKind.i64.wrap ((m:Nat)+1:Int)=((m:Nat):Int)+1:=by rw[IntKind.wrap_i64];have:=GO.out.2;omega
     obtain⟨fs,hfs⟩:∃l,evs++(cells.take m).map (λc=>(⟨1,u.id,c⟩:dZ))=l:=⟨_,rfl⟩;have NX:Hid (evs++(cells.take (m+1)).map (λc=>(⟨1,u.id,c⟩:dZ))=fs++[⟨1,u.id,x⟩]):=by
      unfold Hid;obtain⟨q1',q2'⟩:=aK.1 hx;rw[dM q1',q2',kH,<-bT,hfs];rfl
     have FSL:Hid (fs.length<=1000):=by
      unfold Hid;rw[<-hfs,aC,lG,dP];have:=EL.out;have:=GO.out.2;omega
     rw[hfs] at E6;rw[H2.out.2.2.2.1] at y0;clear hcl h92 h93 abm hx hfs;have BA:Hid (Below _ wr (wr.alloc (Obj.cells #[int i64 1,int i64 u.id,int i64 x] 169))):=aA;have EC:Hid (uP (wr.alloc (Obj.cells #[.int _ 1,.int _ u.id,.int _ x] _)) _ _):=uP.mk' (⟨1,u.id,x⟩:dZ) rfl;have E7:=aj (E6.below BA);have SZ:=aj (aJ P6.size BA.size);go_wp2_with (at_builtin;refine zD _ rfl _ _ rfl w3.heap.size _ fs rfl E7 _ (⟨1,u.id,x⟩:dZ) rfl EC (by have:=FSL.out;omega) SZ ?_);intro gg gc v8 o8 g8 s8 _;have E8:=aj (o8);have P8:=aj (JG (P6.trans (Kp.of BA)) g8 (λb hb=>(E7.block b hb).1));have U8:Hid (Ub v8 g us2 rest):=by
      have h6:=U6.below BA U6.lt;unfold Ub at h6;unfold Hid Ub;rw[g8.block g (lt_of_block h6) (λe=>by have:=(E7.out.block g e.symm).1;have:=GL.out;omega)];exact h6
     have O8:Hid (Ow v8 bo (slice (some xc) cells.length cc) cells):=bJ (Ow.below O6 BA) g8 (λb h1 h2=>D6 b h2 h1);have D8:Hid (∀b,(slice (some ⟨gg,0,none⟩) (fs.length+1) gc).ownBlock=some b->(slice (some xc) cells.length cc).ownBlock≠some b):=λb h1 h2=>by
      have hgb:gg=b:=by injection h1
      rcases s8 with s8|s8
      ·exact D6 gg s8 (by rw[hgb];exact h2)
      ·have:=(O6.block b h2).2
       have hw:gg=wr.heap.size+1:=s8.trans (by simp);omega
     clear o8 g8 s8 BA EC E7 SZ y0 y1 y2 y3 y4 y5 y6 y7 cx;go_wp2;go_round
     case rel=>exact⟨m+1,_,rfl,by go_num,by omega,U8,by rw[NX.out];exact E8,P8,O8,D8⟩
     case measure=>simp[intOf];omega
end
section
open Wy
variable {Hn Wn i:Nat} {X:WV} {k:KV} {ks:List KV} {u v:aI} {us us':List aI}
theorem MR{c:Nat}(h:gV ks X Wn Hn u k c)(ht:u.task=0):u.at_=(c:Nat):=by
 obtain⟨an,bn,l,ha,acj,-,-,hh⟩:=h;have hb:(bn:Int)=u.at_:=by
  rcases acj with⟨-,h⟩|⟨h,-⟩|⟨h,-⟩
  ·exact h
  ·exact absurd ht h
  ·rw[ht] at h;cases h
 rcases hh with⟨-,rfl⟩|⟨-,h⟩
 ·exact ha
 ·rcases h with⟨-,rfl⟩|⟨h,-⟩
  ·exact ha
  ·exact absurd (by omega) h
structure Stat(u v:aI):Prop where
 id:v.id=u.id
 ay:v.ay=u.ay
 kind:v.kind=u.kind
 life:v.life=u.life
 load:v.load=u.load
 todo:(v.task=u.task/\v.goal=u.goal)\/(v.task=0/\v.goal=0)
 rest:u.task=0->v=u
structure MInv(ks:List KV)(X:WV)(Wn Hn:Nat)(us:List aI):Prop where
 len:us.length=X.us.length
 unit:∀(j:Nat) (v:aI),us[j]? =some v->∃u k gg,X.us[j]? =some u/\Stat u v/\ks[v.kind.toNat]? =some k/\0<=v.at_/\v.at_<(Wn*Hn:Nat)/\X.gs[v.at_.toNat]? =some gg/\0<Fd.onto gg k.f
 dist:∀(i j:Nat) (a b:aI),us[i]? =some a->us[j]? =some b->a.at_=b.at_->i=j
theorem vH{gs:List Int}{ahead:List aI}{a:Int}{fl:Bool}(h:Wd.open_ gs ahead a fl=true):0<Fd.onto (gs.getD a.toNat 0) fl/\∀u∈ahead,u.at_≠a:=by
 unfold Wd.open_ at h;rw[Bool.and_eq_true] at h;refine⟨of_decide_eq_true h.1,λu hu e=>?_⟩;have h2:=h.2;rw[Bool.not_eq_true',bK] at h2;exact h2 u hu (by simp[e])
theorem Gy(h:bH ks X)(G:Fd.Good Wn Hn X.gs X.os):MInv ks X Wn Hn X.us:=by
 refine⟨rfl,λj v hv=>?_,?_⟩
 ·obtain⟨k,f⟩:=h.fine hv
  have ha:=f.at_;have hgl:=G.gl;have hl:v.at_.toNat<X.gs.length:=by omega
  refine⟨v,k,X.gs[v.at_.toNat],hv,⟨rfl,rfl,rfl,rfl,rfl,.inl ⟨rfl,rfl⟩,λ_=>rfl⟩,f.kk,ha.1,by rw[<-G.gl];exact ha.2,aH hl,?_⟩;have:=(vH f.opn).1;rw[dD,aH hl] at this;exact this
 ·have key:∀(i j:Nat) (a b:aI),i<j->X.us[i]? =some a->X.us[j]? =some b->a.at_≠b.at_:=λi j a b hij ha hb=>by
   obtain⟨k,f⟩:=h.fine hb;exact(vH f.opn).2 a (aT (by rw[eP,if_pos hij];exact ha))
  intro i j a b ha hb e;rcases Nat.lt_trichotomy i j with hl|hl|hl
  ·exact absurd e (key i j a b hl ha hb)
  ·exact hl
  ·exact absurd e.symm (key j i b a hl hb ha)
theorem CU(h:MInv ks X Wn Hn us)(hu:us[i]? =some u)(hs:∀u0,X.us[i]? =some u0->Stat u0 u->Stat u0 v)
  (ha:(v.at_=u.at_)\/(∃k gg,ks[v.kind.toNat]? =some k/\0<=v.at_/\v.at_<(Wn*Hn:Nat)/\X.gs[v.at_.toNat]? =some gg/\0<Fd.onto gg k.f/\us.any (λo=>o.at_==v.at_)=false)) (hk:v.kind=u.kind):MInv ks X Wn Hn (us.set i v):=by
 have hil:=(aK.1 hu).1;refine⟨by rw[jA];exact h.len,λj x hx=>?_,λa b p q hp hq e=>?_⟩
 ·by_cases hij:i=j
  ·subst hij
   rw[List.getElem?_set_self hil] at hx;injection hx with hx
   subst hx;obtain⟨u0,k0,g0,h1,h2,h3,h4,h5,h6,h7⟩:=h.unit i u hu;rcases ha with ha|⟨k,gg,a1,a2,a3,a4,a5,-⟩
   ·exact⟨u0,k0,g0,h1,hs u0 h1 h2,by rw[hk];exact h3,by rw[ha];exact h4,by rw[ha];exact h5,by rw[ha];exact h6,h7⟩
   ·exact⟨u0,k,gg,h1,hs u0 h1 h2,a1,a2,a3,a4,a5⟩
  ·rw[List.getElem?_set_ne hij] at hx
   exact h.unit j x hx
 ·have other:∀(j:Nat) (o:aI),i≠j->us[j]? =some o->o.at_≠v.at_:=λj o hne ho e=>by
   rcases ha with ha|⟨k,gg,-,-,-,-,-,a6⟩
   ·exact hne (h.dist i j u o hu ho (by rw[<-ha,e]))
   ·have:=bK.1 a6 o (aT ho)
    simp[e] at this
  by_cases hia:i=a
  ·by_cases hib:i=b
   ·omega
   ·rw[List.getElem?_set_ne hib] at hq
    subst hia;rw[List.getElem?_set_self hil] at hp;injection hp with hp
    subst hp;exact absurd e.symm (other b q hib hq)
  ·rw[List.getElem?_set_ne hia] at hp
   by_cases hib:i=b
   ·subst hib
    rw[List.getElem?_set_self hil] at hq;injection hq with hq
    subst hq;exact absurd e (other a p hia hp)
   ·rw[List.getElem?_set_ne hib] at hq
    exact h.dist a b p q hp hq e
theorem MV{left:Int}{cells:List Int}(G:Fd.Good Wn Hn X.gs X.os)(h:Goes ks X Wn Hn k i us left cells us'):∀u,us[i]? =some u->ks[u.kind.toNat]? =some k->MInv ks X Wn Hn us->MInv ks X Wn Hn us':=by
 induction h with
 |stop=>intro u _ _ h;exact h
 | @step us us' left u0 c gg cells hu hw hg h1 h2 h3 ih=>
  intro u hu' hk hm;rw[hu] at hu';injection hu' with hu'
  subst hu';have hil:=(aK.1 hu).1;have hne:u0.at_≠(c:Nat):=by
   have:=bK.1 h2 u0 (aT hu);simpa using this
  have hcl:c<Wn*Hn:=by rw[<-G.gl];exact(aK.1 hg).1
  refine ih _ (List.getElem?_set_self hil) hk (CU hm hu (λu1 _ hs=>?_) (.inr ⟨k,gg,hk,by show(0:Int)<=(c:Nat);omega,by show((c:Nat):Int)<_;omega,by show X.gs[((c:Nat):Int).toNat]? =some gg;rw[bF];exact hg,vG hw hg hne,h2⟩) rfl);refine⟨hs.id,hs.ay,hs.kind,hs.life,hs.load,hs.todo,λht=>?_⟩;have hr:u0.task=0:=by rw[hs.rest ht];exact ht
  exact absurd (MR hw hr) hne
theorem MW(h:Stat u v):Stat u (ends v):=by
 unfold ends;split
 ·rename_i hc
  refine⟨h.id,h.ay,h.kind,h.life,h.load,.inr ⟨rfl,rfl⟩,λht=>?_⟩;have:=h.rest ht;rw[this,ht] at hc;exact absurd hc.1 (by decide)
 ·exact h
theorem JX(u:aI):(ends u).at_=u.at_/\(ends u).kind=u.kind:=by
 unfold ends;split<;>exact⟨rfl,rfl⟩
theorem Gz{n:Nat}{evs:List dZ}(G:Fd.Good Wn Hn X.gs X.os)(h:Moves ks X Wn Hn n us evs us'):MInv ks X Wn Hn us->MInv ks X Wn Hn us':=by
 induction h with
 |done h=>intro hm;exact hm
 |unit hu hk hg h1 hm ih=>
  intro hi;have h2:=MV G hg _ hu hk hi;exact ih (CU h2 h1 (λu0 _ hs=>MW hs) (.inl (JX _).1) (JX _).2)
theorem GH(h:bH ks X)(G:Fd.Good Wn Hn X.gs X.os)(e1:X.wide=(Wn:Nat))(e2:X.high=(Hn:Nat))(hm:MInv ks X Wn Hn us):Wd.aP ks {X with us:=us}=0:=by
 have hgp:0<X.gs.length:=by rw[G.gl];exact Nat.mul_pos G.w1 G.h1
 refine Wd.fZ h.kinds (by show Fd.fault X.wide X.high X.gs X.os=0;rw[e1,e2];exact Fd.eU G) h.nums (by show us.length<=40;rw[hm.len];exact h.ul) ?_ h.ql ?_
 ·intro i v hv
  have hv':us[i]? =some v:=hv;obtain⟨u,k,gg,hu,hs,hk,ha0,ha1,hgg,hon⟩:=hm.unit i v hv';obtain⟨k0,f⟩:=h.fine hu;obtain rfl:k0=k:=by
   have:=f.kk;rw[<-hs.kind,hk] at this;injection this with this
   exact this.symm
  refine⟨k0,by rw[hs.id];exact f.id1,by rw[hs.id];exact f.id2,?_,by rw[hs.ay];exact f.p,by rw[hs.kind];exact f.k0,hk,by rw[hs.life];exact f.life,by rw[hs.load];exact f.load,?_,⟨ha0,by show v.at_<(X.gs.length:Int);rw[G.gl];exact ha1⟩,?_,?_,?_⟩
  ·show Wd.dF us i v=false
   have hup:=f.up;cases i with
   |zero=>rfl
   |succ i=>
    simp only[Wd.dF] at hup ⊢;cases hx:us[i]? with
    |none=>rfl
    |some x=>
     obtain⟨x0,-,-,hx0,hsx,-⟩:=hm.unit i x hx;rw[hx0] at hup;show decide (v.id<=x.id)=false;rw[hs.id,hsx.id];exact hup
  ·rcases hs.todo with⟨t1,-⟩|⟨t1,-⟩
   ·rw[t1];exact f.task
   ·rw[t1];exact⟨Int.le_refl _,by decide⟩
  ·show 0<=v.goal/\v.goal<(X.gs.length:Int)
   rcases hs.todo with⟨-,t1⟩|⟨-,t1⟩
   ·rw[t1];exact f.goal
   ·rw[t1];exact⟨Int.le_refl _,Int.ofNat_lt.2 hgp⟩
  ·show Wd.open_ X.gs (us.take i) v.at_ k0.f=true
   unfold Wd.open_;rw[Bool.and_eq_true];refine⟨decide_eq_true (by rw[dD,hgg];exact hon),?_⟩;rw[Bool.not_eq_true',bK];intro p hp e;obtain⟨j,hj⟩:=List.mem_iff_getElem?.1 hp;have hjl:j<i:=by
    have:=(aK.1 hj).1;rw[dP] at this;omega
   rw[eP,if_pos hjl] at hj;have:=hm.dist j i p v hj hv' (by simpa using e);omega
  ·rcases hs.todo with⟨t1,t2⟩|⟨-,t2⟩
   ·rw[t1,t2];exact f.rest
   ·exact .inl t2
 ·intro j hj
  have hx:=h.job hj;cases hf:X.us.find? (λu=>u.id==j.unit) with
  |none=>
   unfold Wd.aY at hx;rw[hf] at hx;cases hx
  |some u1=>
   have hm1:=List.mem_of_find?_eq_some hf;have hi1:u1.id=j.unit:=by simpa using List.find?_some hf
   obtain⟨j1,hj1⟩:=List.mem_iff_getElem?.1 hm1;have hl1:j1<us.length:=by rw[hm.len];exact(aK.1 hj1).1
   obtain⟨v1,hv1⟩:∃v,us[j1]? =some v:=⟨_,aH hl1⟩;obtain⟨x1,-,-,hx1,hs1,-⟩:=hm.unit j1 v1 hv1;rw[hj1] at hx1;injection hx1 with hx1
   subst hx1;have hsome:(us.find? (λu=>u.id==j.unit)).isSome=true:=List.find?_isSome.2 ⟨v1,aT hv1,by simp[hs1.id,hi1]⟩;obtain⟨y0,hy0⟩:=Option.isSome_iff_exists.1 hsome;obtain⟨j0,hj0⟩:=List.mem_iff_getElem?.1 (List.mem_of_find?_eq_some hy0);have hi0:y0.id=j.unit:=by simpa using List.find?_some hy0
   obtain⟨x0,-,-,hx0,hs0,-⟩:=hm.unit j0 y0 hj0;have:=uH h hx0 hj1 (by rw[<-hs0.id,hi0,hi1]);subst this;rw[hx0] at hj1;injection hj1 with hj1
   subst hj1;unfold Wd.aY at hx ⊢;rw[hf] at hx;have hy1:({X with us:=us}:WV).us.find? _=some y0:=hy0;rw[hy1];simp only[hs0.kind,hs0.ay];exact hx
end
section
open Go.RowKit
theorem mY(x m:Int)(w:World)(h1: -m<=x)(h2:x<=m)(m0:0<=m)(m1:m<=2000000000000):
  Calls prog 224 #[int i64 x,int i64 m] w λe w'=>e=.returned (.bool true)/\w'=w:=by
 go_enter func224,ntmps224;go_wp2;go_ret;exact⟨rfl,rfl⟩
end
namespace Ma
def Sq(r n:Int):Prop:=0<=r/\r*r<=n/\n<(r+1)*(r+1)
def pw(k:Nat):Int:=2^k
theorem zH:pw 0=1:=rfl
theorem tK(k:Nat):pw (k+1)=2*pw k:=by unfold pw;rw[Int.pow_succ];omega
theorem R_(k:Nat):1<=pw k:=by
 induction k with
 |zero=>rw[zH];omega
 |succ k ih=>rw[tK];omega
theorem Xt(a b:Nat)(h:a<=b):pw a<=pw b:=by
 induction b with
 |zero=>have:a=0:=by omega
        subst this;exact Int.le_refl _
 |succ b ih=>
  by_cases e:a=b+1
  ·subst e;exact Int.le_refl _
  ·have:=ih (by omega)
   have p:=R_ b;rw[tK];omega
theorem YU:pw 32=4294967296:=by unfold pw;decide
theorem nZ(a b:Int)(h0:0<=a)(h:a<=b):a*a<=b*b:=
 Int.mul_le_mul h h h0 (by omega)
theorem MX(r d:Int):(r+d)*(r+d)=r*r+2*(r*d)+d*d:=by
 rw[Int.add_mul,Int.mul_add,Int.mul_add,Int.mul_comm d r];omega
theorem qM(a b:Int)(h0:0<=b)(h:a*a<b*b):a<b:=by
 by_cases hc:a<b
 ·exact hc
 ·have:=nZ b a h0 (by omega)
  omega
theorem Si(a b:Int)(h0:0<=b)(h:a*a<=b*b):a<=b:=by
 have e:=MX b 1;have:a<b+1:=qM a (b+1) (by omega) (by omega);omega
theorem GI(r n:Int)(h:r*r<=n)(hn:n<=9223372036854775807):r<=3037000499:=by
 have:=qM r 3037000500 (by omega) (by omega);omega
theorem CY(x n:Int)(hx:0<x):x<=n/x↔x*x<=n:=Int.le_ediv_iff_mul_le hx
end Ma
section
open Go.RowKit
theorem Xu(k:Nat):Ma.pw (k+1)/2=Ma.pw k:=by rw[Ma.tK];omega
theorem Sj(n:Int)(w:World)(h0:0<=n)(h1:n<=9223372036854775807):
  Calls prog 225 #[int i64 n] w λe w'=>∃r,Ma.Sq r n/\e=.returned (.tuple #[int i64 r,.nilIface])/\w'=w:=by
 go_enter func225,ntmps225;go_wp2;go_loop [4,5] (λroot bit=>∃(k:Nat) (r b:Int),k<=32/\root=int i64 r/\bit=int i64 b/\b=Ma.pw k/2/\0<=r/\r*r<=n/\n<(r+Ma.pw k)*(r+Ma.pw k)) (λ_ bit=>(intOf bit).toNat)
 case atStart=>exact⟨32,0,2147483648,by omega,rfl,rfl,by rw[Ma.YU];omega,by omega,by omega,by rw[Ma.YU];omega⟩
 case round=>
  obtain⟨k,r,b,hk,rfl,rfl,hb,hr,hl,hu⟩:=hrel;by_cases hz:k=0
  ·subst hz
   have hb0:b=0:=by rw[hb,Ma.zH];omega
   subst hb0;clear hb;rw[Ma.zH] at hu;go_wp2;go_ret2;exact⟨r,⟨hr,hl,hu⟩,rfl,rfl⟩
  ·obtain⟨j,rfl⟩:∃j,k=j+1:=⟨k-1,by omega⟩
   have hp:=Ma.R_ j;have hq:=Ma.Xt j 31 (by omega);have e31:Ma.pw 31=2147483648:=by unfold Ma.pw;decide
   rw[e31] at hq;clear e31;rw[Xu] at hb;rw[Ma.tK] at hu;have hb1:0<b:=by omega
   have hb2:b<=2147483648:=by omega
   have hr2:=Ma.GI r n hl h1;have hsum:r+2*Ma.pw j=r+b+b:=by omega
   rw[hsum] at hu;clear hsum;have Hb:=aj (hb);have HH:Hid (b/2=Ma.pw j/2):=by rw[hb];rfl
   clear hb hp hq;have Hu:=aj (hu);have Hl:=aj (hl);clear hu hl;by_cases ht:r+b<=n/(r+b)
   ·have Ht:=aj ((Ma.CY (r+b) n (by omega)).1 ht)
    go_wp2;go_round
    case rel=>exact⟨j,r+b,b/2,by omega,rfl,rfl,HH,by omega,Ht,by rw[<-Hb];exact Hu⟩
    case measure=>simp[intOf];omega
   ·have Ht:Hid (n<(r+b)*(r+b)):=by
     have:=mt (Ma.CY (r+b) n (by omega)).2 ht;unfold Hid;omega
    go_wp2;go_round
    case rel=>exact⟨j,r,b/2,by omega,rfl,rfl,HH,by omega,Hl,by rw[<-Hb];exact Ht⟩
    case measure=>simp[intOf];omega
def In6(x:Int):Prop:= -1000000<=x/\x<=1000000
section
variable (a b c d:Int) (w:World)
theorem acn:(Instr.index 275 (.agg #[int i64 a,int i64 b,int i64 c,int i64 d]) (int i64 0)).run prog w=.ok (int i64 a) w:=by kernel_rfl
theorem aco:(Instr.index 275 (.agg #[int i64 a,int i64 b,int i64 c,int i64 d]) (int i64 1)).run prog w=.ok (int i64 b) w:=by kernel_rfl
theorem acp:(Instr.index 275 (.agg #[int i64 a,int i64 b,int i64 c,int i64 d]) (int i64 2)).run prog w=.ok (int i64 c) w:=by kernel_rfl
theorem acr:(Instr.index 275 (.agg #[int i64 a,int i64 b,int i64 c,int i64 d]) (int i64 3)).run prog w=.ok (int i64 d) w:=by kernel_rfl
end
theorem sqb(x:Int)(h1: -2000000<=x)(h2:x<=2000000):0<=x*x/\x*x<=4000000000000:=by
 rcases Int.le_total 0 x with h|h
 ·exact⟨Int.mul_nonneg h h,Ma.nZ x _ h h2⟩
 ·have e:x*x=(-x)*(-x):=by rw[Int.neg_mul_neg]
  rw[e];exact⟨Int.mul_nonneg (by omega) (by omega),Ma.nZ _ 2000000 (by omega) (by omega)⟩
theorem GK(a b c d:Int)(w:World)(ha:In6 a)(hb:In6 b)(hc:In6 c)(hd:In6 d):
  Calls prog 184 #[int i64 a,int i64 b,int i64 c,int i64 d] w λe w'=>∃r,Ma.Sq r ((a-c)*(a-c)+(b-d)*(b-d))/\e=.returned (.tuple #[int i64 r,.nilIface])/\w'=w:=by
 obtain⟨ha1,ha2⟩:=ha;obtain⟨hb1,hb2⟩:=hb;obtain⟨hc1,hc2⟩:=hc;obtain⟨hd1,hd2⟩:=hd;have i0:=acn a b c d;have i1:=aco a b c d;have i2:=acp a b c d;have i3:=acr a b c d;go_enter func184,ntmps184;go_wp2;go_loop [19] (λi=>∃k:Nat,k<=4/\i=int i64 k) (λi=>4-(intOf i).toNat)
 case atStart=>exact⟨0,by omega,rfl⟩
 case round=>
  obtain⟨k,hk,rfl⟩:=hrel
  match k,hk with
  |0,_=>
   go_wp2_with (go_at_call 224;refine(mY _ _ _ (by omega) (by omega) (by omega) (by omega)).mono ?_;rintro e w' ⟨rfl,rfl⟩);go_round
   case rel=>exact⟨1,by omega,rfl⟩
   case measure=>simp[intOf]
  |1,_=>
   go_wp2_with (go_at_call 224;refine(mY _ _ _ (by omega) (by omega) (by omega) (by omega)).mono ?_;rintro e w' ⟨rfl,rfl⟩);go_round
   case rel=>exact⟨2,by omega,rfl⟩
   case measure=>simp[intOf]
  |2,_=>
   go_wp2_with (go_at_call 224;refine(mY _ _ _ (by omega) (by omega) (by omega) (by omega)).mono ?_;rintro e w' ⟨rfl,rfl⟩);go_round
   case rel=>exact⟨3,by omega,rfl⟩
   case measure=>simp[intOf]
  |3,_=>
   go_wp2_with (go_at_call 224;refine(mY _ _ _ (by omega) (by omega) (by omega) (by omega)).mono ?_;rintro e w' ⟨rfl,rfl⟩);go_round
   case rel=>exact⟨4,by omega,rfl⟩
   case measure=>simp[intOf]
  |4,_=>
   have s1:=sqb (a-c) (by omega) (by omega);have s2:=sqb (b-d) (by omega) (by omega);obtain⟨s10,s11⟩:=s1;obtain⟨s20,s21⟩:=s2;go_wp2_with (go_at_call 225;refine(Sj _ _ (by omega) (by omega)).mono ?_;rintro e w' ⟨r,hr,rfl,rfl⟩);go_ret2;exact⟨r,hr,rfl,rfl⟩
end
section
variable {W n:Nat} {X:WV} {k:KV} {ks:List KV} {l us:List aI} {lost:List Int} {m t:Int} {u:aI}
def rt:Nat->Int->Int
 |0,_=>0
 |k+1,n=>if((k:Int)+1)*((k:Int)+1)<=n then(k:Int)+1 else rt k n
theorem rt_eq:∀(k:Nat) (r n:Int),Ma.Sq r n->r<=k->rt k n=r
 |0,r,n,h,hk=>by
  have:=h.1;show(0:Int)=r;omega
 |k+1,r,n,h,hk=>by
  unfold rt;split
  ·rename_i hc
   have:=Ma.qM ((k:Int)+1) (r+1) (by have:=h.1;omega) (by have:=h.2.2;omega);omega
  ·rename_i hc
   have:=Ma.qM r ((k:Int)+1) (by omega) (by have:=h.2.1;omega);exact rt_eq k r n h (by omega)
theorem YV:∀(k:Nat) (n:Int),0<=rt k n/\rt k n<=k
 |0,n=>by unfold rt;omega
 |k+1,n=>by
  unfold rt;have:=YV k n;split<;>omega
def pY(W a b:Nat):Int:=rt 200 ((((a%W:Nat):Int)-((b%W:Nat):Int))*(((a%W:Nat):Int)-((b%W:Nat):Int))+(((a/W:Nat):Int)-((b/W:Nat):Int))*(((a/W:Nat):Int)-((b/W:Nat):Int)))
theorem tN(W a b:Nat):0<=pY W a b/\pY W a b<=200:=YV 200 _
theorem xX(x:Int)(m:Int)(h1: -m<=x)(h2:x<=m):x*x<=m*m:=by
 rcases Int.le_total 0 x with h|h
 ·exact Ma.nZ x m h h2
 ·have e:x*x=(-x)*(-x):=by rw[Int.neg_mul_neg]
  rw[e];exact Ma.nZ _ m (by omega) (by omega)
theorem JY{a b:Nat}{r:Int}(hW:W<=12)(ha:a<=144)(hb:b<=144)(hW0:0<W)
  (h:Ma.Sq r ((((a%W:Nat):Int)-((b%W:Nat):Int))*(((a%W:Nat):Int)-((b%W:Nat):Int))+(((a/W:Nat):Int)-((b/W:Nat):Int))*(((a/W:Nat):Int)-((b/W:Nat):Int)))):pY W a b=r:=by
 unfold pY;refine rt_eq _ r _ h ?_;have a1:=Nat.mod_lt a hW0;have b1:=Nat.mod_lt b hW0;have a2:=Nat.div_le_self a W;have b2:=Nat.div_le_self b W;generalize a/W=x at *;generalize b/W=y at *;generalize a%W=x' at *;generalize b%W=y' at *;have s1:=xX ((x':Int)-(y':Int)) 12 (by omega) (by omega);have s2:=xX ((x:Int)-(y:Int)) 144 (by omega) (by omega);have:=h.2.1;exact Ma.Si r _ (by omega) (by omega)
theorem je(h:n<=144):In6 (n:Nat):=⟨by omega,by omega⟩
def mZ(W:Nat)(u o:aI):Int:=pY W u.at_.toNat o.at_.toNat
def qN(W:Nat)(u:aI)(rng:Int)(o:aI):Bool:=(o.ay==u.ay)||decide (rng<mZ W u o)
def qO(W:Nat)(u:aI)(rng:Int)(us:List aI):List aI:=us.filter (λo=> !qN W u rng o)
def vI(W:Nat)(u o:aI):Int:=mZ W u o*2000000+o.life
def vJ(W:Nat)(u a b:aI):Int:=if mZ W u a-mZ W u b=0 then a.life-b.life else mZ W u a-mZ W u b
theorem Sr{a b:aI}(ha:0<=a.life/\a.life<=1000000)(hb:0<=b.life/\b.life<=1000000):vJ W u a b<0↔vI W u a<vI W u b:=by
 unfold vJ vI;have h1:=tN W u.at_.toNat a.at_.toNat;have h2:=tN W u.at_.toNat b.at_.toNat;unfold mZ;split<;>omega
def zI(W:Nat)(u:aI)(k:KV)(us:List aI)(t:Int):Prop:=
 (k.n1=0/\t= -1)\/(k.n1≠0/\qO W u k.n2 us=[]/\t= -1)
 \/(k.n1≠0/\∃x0 tl,qO W u k.n2 us=x0::tl/\mM (λo=>o.id==(kN (vI W u) x0 tl).id) us t)
theorem aao(h:bH ks X)(ht:zI W u k X.us t):
  (t= -1/\(k.n1=0\/qO W u k.n2 X.us=[]))\/(k.n1≠0/\∃(tn:Nat) (x:aI) (x0:aI) (tl:List aI),t=tn/\X.us[tn]? =some x/\qO W u k.n2 X.us=x0::tl/\x=kN (vI W u) x0 tl):=by
 rcases ht with⟨h1,h2⟩|⟨-,h1,h2⟩|⟨h1,x0,tl,h2,h3⟩
 ·exact .inl ⟨h2,.inl h1⟩
 ·exact .inl ⟨h2,.inr h1⟩
 ·have hm:=qL (vI W u) tl x0
  rw[<-h2] at hm;have hm':=(List.mem_filter.1 hm).1;obtain⟨j,hj⟩:=List.mem_iff_getElem?.1 hm';rcases h3 with⟨-,h3⟩|⟨tn,x,rfl,hx,hid,-⟩
  ·have:=bK.1 h3 _ hm'
   simp at this
  ·have acs:x.id=(kN (vI W u) x0 tl).id:=by simpa using hid
   have:=uH h hx hj acs;subst this;rw[hx] at hj;injection hj with hj
   exact .inr ⟨h1,tn,x,x0,tl,rfl,hx,h2,hj⟩
def Sv(p:aI->Bool):List aI->Int
 |[]=> -1
 |x::l=>if p x then 0 else if Sv p l= -1 then -1 else Sv p l+1
theorem CZ(p:aI->Bool):∀l,mM p l (Sv p l)
 |[]=>.inl ⟨rfl,rfl⟩
 |x::l=>by
  unfold Sv;cases hp:p x with
  |true=>exact .inr ⟨0,x,by simp,rfl,hp,rfl⟩
  |false=>
   rw[if_neg (by simp)];rcases CZ p l with⟨h1,h2⟩|⟨k,y,h1,h2,h3,h4⟩
   ·rw[if_pos h1]
    exact .inl ⟨rfl,by rw[List.any_cons,hp,h2];rfl⟩
   ·rw[if_neg (by omega)]
    exact .inr ⟨k+1,y,by omega,by rw[List.getElem?_cons_succ];exact h2,h3,by rw[List.take_succ_cons,List.any_cons,hp,h4];rfl⟩
def tgt(W:Nat)(u:aI)(k:KV)(us:List aI):Int:=
 if k.n1=0 then -1 else match qO W u k.n2 us with
  |[]=> -1
  |x0::tl=>Sv (λo=>o.id==(kN (vI W u) x0 tl).id) us
theorem abn(h:zI W u k us t):t=tgt W u k us:=by
 unfold tgt;rcases h with⟨h1,h2⟩|⟨h1,h2,h3⟩|⟨h1,x0,tl,h2,h3⟩
 ·rw[if_pos h1];exact h2
 ·rw[if_neg h1,h2];exact h3
 ·rw[if_neg h1,h2]
  exact h3.one (CZ _ _)
def sO(ks:List KV)(W:Nat)(us:List aI)(u:aI):Int:=match ks[u.kind.toNat]? with
 |none=> -1
 |some k=>tgt W u k us
def sQ(ks:List KV)(u:aI):Int:=match ks[u.kind.toNat]? with
 |none=>0
 |some k=>k.n1
def stk(ks:List KV)(W:Nat)(us:List aI)(s:List Int×List dZ)(u:aI):List Int×List dZ:=
 if sO ks W us u= -1 then s else(s.1.set (sO ks W us u).toNat (s.1.getD (sO ks W us u).toNat 0+sQ ks u),s.2++[⟨2,u.id,(us[(sO ks W us u).toNat]?.map aI.id).getD 0⟩])
def strikes(ks:List KV)(W:Nat)(us l:List aI):List Int×List dZ:=l.foldl (stk ks W us) (List.replicate us.length 0,[])
theorem qP(h:l[n]? =some u):strikes ks W us (l.take (n+1))=stk ks W us (strikes ks W us (l.take n)) u:=by
 obtain⟨hi,e⟩:=aK.1 h;unfold strikes;rw[dM hi,List.foldl_append,e];rfl
theorem Xv{s:List Int×List dZ}:(stk ks W us s u).1.length=s.1.length:=by
 unfold stk;split
 ·rfl
 ·simp
theorem sS{ks:List KV}{W:Nat}{us:List aI}:∀(l:List aI) (s:List Int×List dZ),(l.foldl (stk ks W us) s).1.length=s.1.length
 |[],s=>rfl
 |u::l,s=>by
  rw[List.foldl_cons,sS l,Xv]
theorem gZ:(strikes ks W us l).1.length=us.length:=by
 unfold strikes;rw[sS];simp
def GR(m:Int)(l:List Int):Prop:=∀x∈l,0<=x/\x<=m
theorem GR.at_{l:List Int}(h:GR m l)(hm:0<=m)(i:Nat):0<=l.getD i 0/\l.getD i 0<=m:=by
 rw[dD];cases hi:l[i]? with
 |none=>simp;omega
 |some x=>simp;exact h x (aT hi)
theorem SC{s:List Int×List dZ}(hm:0<=m)(h:GR m s.1)(hh:0<=sQ ks u/\sQ ks u<=1000):GR (m+1000) (stk ks W us s u).1:=by
 unfold stk;split
 ·intro x hx
  have:=h x hx;omega
 ·intro x hx
  have h0:=h.at_ hm (sO ks W us u).toNat;rcases List.mem_or_eq_of_mem_set hx with hx|hx
  ·have:=h x hx
   omega
  ·omega
theorem SH(h:Kd.bg (ks.map KV.k)=0)(u:aI):0<=sQ ks u/\sQ ks u<=1000:=by
 unfold sQ;split
 ·omega
 ·rename_i k hk
  have:=lT h (aT hk);omega
theorem kC{ks:List KV}{W:Nat}{us:List aI}(h:Kd.bg (ks.map KV.k)=0):∀(n:Nat),n<=us.length->GR (1000*(n:Int)) (strikes ks W us (us.take n)).1
 |0,_=>by
  intro x hx;have:x∈List.replicate us.length (0:Int):=hx;have:=List.eq_of_mem_replicate this;omega
 |n+1,hn=>by
  obtain⟨u,hu⟩:∃u,us[n]? =some u:=⟨_,aH (by omega)⟩;rw[qP hu];have h9:=kC (ks:=ks) (W:=W) (us:=us) h n (by omega);have h8:=SC (W:=W) (us:=us) (m:=1000*(n:Int)) (by omega) h9 (SH h u);intro x hx;have:=h8 x hx;omega
def hurt(us:List aI)(lost:List Int):List aI:=us.zipWith (λu n=>{u with life:=u.life-n}) lost
def n_(us:List aI)(lost:List Int)(n:Nat):List aI:=hurt (us.take n) (lost.take n)++us.drop n
theorem GX(us:List aI)(lost:List Int):n_ us lost 0=us:=by simp[n_,hurt]
theorem MZ(hl:lost.length=us.length):n_ us lost us.length=hurt us lost:=by
 unfold n_;rw[List.take_of_length_le aN,List.take_of_length_le (by omega),List.drop_of_length_le aN,iK]
theorem kP(hl:lost.length=us.length):(hurt us lost).length=us.length:=by
 unfold hurt;rw[List.length_zipWith,hl,Nat.min_self]
theorem C_(hl:lost.length=us.length)(hu:us[n]? =some u):(n_ us lost n)[n]? =some u:=by
 have hn:=(aK.1 hu).1;unfold n_;have h1:(hurt (us.take n) (lost.take n)).length=n:=by rw[kP (by simp[hl]),dP];omega
 rw[jy (by omega),h1,Nat.sub_self,mF,Nat.add_zero];exact hu
theorem GZ{x:Int}(hl:lost.length=us.length)(hu:us[n]? =some u)(hx:lost[n]? =some x):(n_ us lost n).set n {u with life:=u.life-x}=n_ us lost (n+1):=by
 obtain⟨hn,e1⟩:=aK.1 hu;obtain⟨hn2,e2⟩:=aK.1 hx;have h1:(hurt (us.take n) (lost.take n)).length=n:=by rw[kP (by simp[hl]),dP];omega
 unfold n_;rw[List.set_append_right _ _ (by omega),h1,Nat.sub_self,List.drop_eq_getElem_cons hn,List.set_cons_zero];rw[dM hn,dM hn2,e1,e2];unfold hurt;rw[List.zipWith_append (by simp[hl])];simp
open Go.RowKit
theorem M_(H:Int)(u1 u2:Value)(Wn a b:Nat)(w:World)(h1:0<Wn)(h2:Wn<=12)(ha:a<=144)(hb:b<=144):
  Calls prog 202 #[.agg #[int i64 (Wn:Nat),int i64 H,u1,u2],int i64 (a:Nat),int i64 (b:Nat)] w λe w'=>e=.returned (int i64 (pY Wn a b))/\Below w.heap.size w w':=by
 obtain⟨ca,hca⟩:∃n,a%Wn=n:=⟨_,rfl⟩;obtain⟨ra,hra⟩:∃n,a/Wn=n:=⟨_,rfl⟩;obtain⟨cb,hcb⟩:∃n,b%Wn=n:=⟨_,rfl⟩;obtain⟨rb,hrb⟩:∃n,b/Wn=n:=⟨_,rfl⟩;have hw:¬(Wn:Int)=0:=by omega
 have e1:(a:Int)%(Wn:Int)=(ca:Nat):=by rw[<-hca];rfl
 have e2:(a:Int)/(Wn:Int)=(ra:Nat):=by rw[<-hra];rfl
 have e3:(b:Int)%(Wn:Int)=(cb:Nat):=by rw[<-hcb];rfl
 have e4:(b:Int)/(Wn:Int)=(rb:Nat):=by rw[<-hrb];rfl
 have l1:ra<=144:=by rw[<-hra];exact aJ (Nat.div_le_self _ _) ha
 have l2:rb<=144:=by rw[<-hrb];exact aJ (Nat.div_le_self _ _) hb
 have l3:ca<=144:=by rw[<-hca];exact aJ (Nat.mod_le _ _) ha
 have l4:cb<=144:=by rw[<-hcb];exact aJ (Nat.mod_le _ _) hb
 have FR:Hid (∀r,Ma.Sq r (((ca:Int)-(cb:Nat))*((ca:Int)-(cb:Nat))+((ra:Int)-(rb:Nat))*((ra:Int)-(rb:Nat)))->pY Wn a b=r):=by
  intro r hr;refine JY h2 ha hb h1 ?_;rw[hca,hra,hcb,hrb];exact hr
 have FO:Hid (∀W,Calls prog 184 #[int i64 (ca:Nat),int i64 (ra:Nat),int i64 (cb:Nat),int i64 (rb:Nat)] W λe w'=>e=.returned (.tuple #[int i64 (pY Wn a b),.nilIface])/\w'=W):=λW=>by
  refine(GK _ _ _ _ W (je l3) (je l1) (je l4) (je l2)).mono ?_;rintro e w' ⟨r,hr,rfl,rfl⟩;rw[FR.out r hr];exact⟨rfl,rfl⟩
 clear hca hra hcb hrb FR;have B0:Hid (Below _ w (w.alloc (Obj.cells #[int i64 (Wn:Nat),int i64 H,u1,u2] 25))):=aA;have c0:(w.alloc (Obj.cells #[int i64 (Wn:Nat),int i64 H,u1,u2] 25)).cell? ⟨w.heap.size,0,none⟩=some (int i64 (Wn:Nat)):=by simp
 obtain⟨f,hf⟩:∃f,pY Wn a b=f:=⟨_,rfl⟩;rw[hf] at FO ⊢;clear hf;go_enter func202,ntmps202;go_upto_region 1 with fail
 generalize (w.alloc _)=w0 at *;go_quiet ((go_at_call 184;exact Calls.quiet_of_same (FO _)));go_wp2;go_ret;exact⟨rfl,⟨B0.os,B0.tape,B0.output,B0.size,B0.block⟩⟩
theorem Xw(x y:Int)(b:Nat)(w:World)(h0:w.cell? ⟨b,0,none⟩=some (int i64 x))(h1:w.cell? ⟨b,1,none⟩=some (int i64 y)):
  Calls prog 187 #[slice (some ⟨b,0,none⟩) 2 2] w λe w'=>e=.returned (int i64 (if x=0 then y else x))/\w'=w:=by
 by_cases hx:x=0
 ·subst hx
  by_cases hy:y=0
  ·subst hy
   go_enter func187,ntmps187;go_wp2;refine wp_loop_rounds 3 ?_;rw[rounds_succ];go_wp2;rw[rounds_succ];go_wp2;rw[rounds_succ];go_wp2;go_ret;exact⟨rfl,rfl⟩
  ·have hyb:=beq_eq_false_iff_ne.2 hy
   go_enter func187,ntmps187;go_wp2;refine wp_loop_rounds 2 ?_;rw[rounds_succ];go_wp2;rw[rounds_succ];go_wp2;go_ret;exact⟨by simp,rfl⟩
 ·have hxb:=beq_eq_false_iff_ne.2 hx
  go_enter func187,ntmps187;go_wp2;refine wp_loop_rounds 1 ?_;rw[rounds_succ];go_wp2;go_ret;exact⟨by simp,rfl⟩
def G_(u:aI):Prop:=0<=u.at_/\u.at_<=144
structure Tb(w:World)(bw bu:Nat)(X:WV)(u1 u2 u3 u4 u5:Value)(u:aI):Prop where
 x:Bw w bw X u1 u2 u3 u4 u5
 u:fA w ⟨bu,0,none⟩ u
theorem Tb.below{w V:World}{bw bu:Nat}{u1 u2 u3 u4 u5:Value}(h:Tb w bw bu X u1 u2 u3 u4 u5 u)(hb:Below n w V)(h1:bw<n)(h2:bu<n):Tb V bw bu X u1 u2 u3 u4 u5 u:=
 ⟨h.x.below hb h1,h.u.below hb h2⟩
theorem Hq(X:WV)(u o:aI)(Wn bw bu:Nat)(u1 u2 u3 u4 u5:Value)(w:World)(hT:Tb w bw bu X u1 u2 u3 u4 u5 u)(hW:X.wide=(Wn:Nat))(h1:0<Wn)(h2:Wn<=12)(hu:G_ u)(ho:G_ o):
  Calls prog 201 #[o.val,.pointer (some ⟨bw,0,none⟩),.pointer (some ⟨bu,0,none⟩)] w λe w'=>e=.returned (int i64 (mZ Wn u o))/\Below w.heap.size w w':=by
 obtain⟨an,han⟩:∃n:Nat,u.at_=n:=⟨u.at_.toNat,by have:=hu.1;omega⟩;obtain⟨cn,hcn⟩:∃n:Nat,o.at_=n:=⟨o.at_.toNat,by have:=ho.1;omega⟩;have FU:Hid (mZ Wn u o=pY Wn an cn):=by unfold Hid mZ;rw[han,hcn];rfl
 have LL:Hid (0<Wn/\Wn<=12/\an<=144/\cn<=144):=⟨h1,h2,by have:=hu.2;omega,by have:=ho.2;omega⟩;have HE:=aj (fQ han hcn hW);have T0:=aj (hT);have B0:Hid (Below _ w (w.alloc (Obj.cells #[int i64 o.id,int i64 o.ay,int i64 o.kind,int i64 o.at_,int i64 o.life,int i64 o.load,int i64 o.task,int i64 o.goal] 74))):=aA;have O0:Hid (fA _ ⟨w.heap.size,0,none⟩ o):=fA.mk' o rfl;clear hT han hcn hW h1 h2 hu ho;unfold aI.val;go_enter func201,ntmps201;go_upto_region 1 with fail
 generalize (w.alloc _)=w0 at *;have T1:=T0.below B0 T0.x.lt T0.u.lt;obtain⟨x0,x1,x2,x3,x4,x5,x6,x7,x8⟩:=T1.x;obtain⟨y0,y1,y2,y3,y4,y5,y6,y7⟩:=T1.u;obtain⟨q0,q1,q2,q3,q4,q5,q6,q7⟩:=O0;rw[HE.out.1] at y3;rw[HE.out.2.1] at q3;rw[HE.out.2.2] at x2;clear T1;go_wp2_with fail
 refine(M_ _ _ _ Wn an cn w0 LL.1 LL.2.1 LL.2.2.1 LL.2.2.2).mono ?_;rintro e w1 ⟨rfl,hb⟩;have B1:=aG B0 hb;clear hb x0 x1 x2 x3 x4 x5 x6 x7 x8 y0 y1 y2 y3 y4 y5 y6 y7 q0 q1 q2 q3 q4 q5 q6 q7;obtain⟨f,hf⟩:∃f,pY Wn an cn=f:=⟨_,rfl⟩;rw[hf] at FU ⊢;clear hf;go_wp2;go_ret;exact⟨by rw[FU.out];rfl,B1⟩
theorem Xx(X:WV)(u o:aI)(Wn bw bu bf bk:Nat)(rng:Int)(u1 u2 u3 u4 u5:Value)(w:World)(hT:Tb w bw bu X u1 u2 u3 u4 u5 u)(hF:w.cell? ⟨bf,0,none⟩=some (.func (Fn.func 201) #[] #[.pointer (some ⟨bw,0,none⟩),.pointer (some ⟨bu,0,none⟩)]))(hK:w.cell? ⟨bk,3,none⟩=some (int i64 rng))(hW:X.wide=(Wn:Nat))(h1:0<Wn)(h2:Wn<=12)(hu:G_ u)(ho:G_ o):
  Calls prog 203 #[o.val,.pointer (some ⟨bu,0,none⟩),.pointer (some ⟨bf,0,none⟩),.pointer (some ⟨bk,0,none⟩)] w λe w'=>e=.returned (.bool (qN Wn u rng o))/\Below w.heap.size w w':=by
 have T0:=aj (hT);have GG:Hid (X.wide=(Wn:Nat)/\0<Wn/\Wn<=12/\G_ u/\G_ o):=⟨hW,h1,h2,hu,ho⟩;have CF:=aj (lM hF hK (cell_lt hF) (cell_lt hK));have B0:Hid (Below _ w (w.alloc (Obj.cells #[int i64 o.id,int i64 o.ay,int i64 o.kind,int i64 o.at_,int i64 o.life,int i64 o.load,int i64 o.task,int i64 o.goal] 74))):=aA;have O0:Hid (fA _ ⟨w.heap.size,0,none⟩ o):=fA.mk' o rfl;have CB:Hid (∀V,Below w.heap.size w V->fA V ⟨w.heap.size,0,none⟩ o->(V.cell? ⟨w.heap.size,1,none⟩=some (int i64 o.ay)/\V.cell? ⟨bu,1,none⟩=some (int i64 u.ay)/\V.cell? ⟨bf,0,none⟩=some (.func (Fn.func 201) #[] #[.pointer (some ⟨bw,0,none⟩),.pointer (some ⟨bu,0,none⟩)])/\V.cell? ⟨bk,3,none⟩=some (int i64 rng)/\fA V ⟨w.heap.size,0,none⟩ o/\Tb V bw bu X u1 u2 u3 u4 u5 u)):=λV hb h0=>
  ⟨by have:=h0.c1;rw[aO] at this;exact this,by have:=(T0.u.below hb T0.u.lt).c1;rw[aO] at this;exact this,by rw[hb.cell (p:=⟨bf,0,none⟩) CF.out.2.2.1];exact CF.1,by rw[hb.cell (p:=⟨bk,3,none⟩) CF.out.2.2.2];exact CF.2.1,h0,T0.below hb T0.x.lt T0.u.lt⟩
 clear hT hF hK hW h1 h2 hu ho;unfold aI.val;go_enter func203,ntmps203;go_upto_region 1 with fail
 generalize (w.alloc _)=w0 at *;by_cases hp:o.ay=u.ay
 ·have S1:Hid (qN Wn u rng o=true):=by unfold Hid qN;rw[hp];simp
  obtain⟨d1,d2,d3,d4,⟨q0,q1,q2,q3,q4,q5,q6,q7⟩,-⟩:=CB w0 B0 O0;rw[hp] at d1 q1;go_quiet (fail);go_wp2;go_ret;exact⟨by rw[S1.out];rfl,⟨B0.os,B0.tape,B0.output,B0.size,B0.block⟩⟩
 ·have hp':(o.ay==u.ay)=false:=by rw[beq_eq_false_iff_ne];exact hp
  have S1:Hid (qN Wn u rng o=decide (rng<mZ Wn u o)):=by unfold Hid qN;rw[hp'];rfl
  clear hp;refine aV [(true,0),(true,1),(true,2),(true,3),(true,4),(true,5),(true,6),(true,7),(true,9),(true,10),(false,8)] [(true,11),(true,12),(false,13)] (λV=>(V.cell? _=some _/\V.cell? _=some _/\V.cell? _=some _/\V.cell? _=some _/\fA V _ o/\Tb V bw bu X u1 u2 u3 u4 u5 u)) (by kernel_rfl) (by kernel_rfl) (by kernel_rfl) (by decide+kernel) (by decide+kernel) (CB _ B0.drew (O0.below (aB.drew) O0.lt)) ?_;have B1:Hid (Below _ w {w0 with drawn:=w0.drawn+1}):=B0.drew;have O1:Hid (fA {w0 with drawn:=w0.drawn+1} _ o):=O0.below (aB.drew) O0.lt;generalize ({w0 with drawn:=w0.drawn+1}:World)=w1 at *;clear B0 O0;refine au rfl (.pointer (some ⟨w.heap.size,1,none⟩)) (by go_simp) (λV hV=>by go_simp) ?_;go_simp;refine au rfl (int i64 o.ay) (by go_simp) (λV hV=>by obtain⟨d1,d2,d3,d4,⟨q0,q1,q2,q3,q4,q5,q6,q7⟩,-⟩:=hV;go_simp) ?_;go_simp;refine au rfl (.pointer (some ⟨bu,1,none⟩)) (by go_simp) (λV hV=>by go_simp) ?_;go_simp;refine au rfl (int i64 u.ay) (by go_simp) (λV hV=>by obtain⟨d1,d2,d3,d4,⟨q0,q1,q2,q3,q4,q5,q6,q7⟩,-⟩:=hV;go_simp) ?_;go_simp;refine au rfl (.bool false) (by go_simp) (λV hV=>by go_simp) ?_;go_simp;refine au rfl (.bool false) (by go_simp) (λV hV=>by go_simp) ?_;go_simp;refine au rfl (.func (Fn.func 201) #[] #[.pointer (some ⟨bw,0,none⟩),.pointer (some ⟨bu,0,none⟩)]) (by go_simp) (λV hV=>by obtain⟨d1,d2,d3,d4,⟨q0,q1,q2,q3,q4,q5,q6,q7⟩,-⟩:=hV;go_simp) ?_;go_simp;refine au rfl (.agg #[int i64 o.id,int i64 o.ay,int i64 o.kind,int i64 o.at_,int i64 o.life,int i64 o.load,int i64 o.task,int i64 o.goal]) (by go_simp) (λV hV=>by obtain⟨d1,d2,d3,d4,⟨q0,q1,q2,q3,q4,q5,q6,q7⟩,-⟩:=hV;go_simp) ?_;go_simp;refine au rfl (.pointer (some ⟨bk,3,none⟩)) (by go_simp) (λV hV=>by go_simp) ?_;go_simp;refine au rfl (int i64 rng) (by go_simp) (λV hV=>by obtain⟨d1,d2,d3,d4,⟨q0,q1,q2,q3,q4,q5,q6,q7⟩,-⟩:=hV;go_simp) ?_;go_simp;refine dH rfl 201 (#[o.val]++ #[.pointer (some ⟨bw,0,none⟩),.pointer (some ⟨bu,0,none⟩)]) (by go_simp) (by go_simp;rfl) ?_;refine(Hq X u o Wn bw bu _ _ _ _ _ w1 (T0.below B1 T0.x.lt T0.u.lt) GG.1 GG.2.1 GG.2.2.1 GG.2.2.2.1 GG.2.2.2.2).mono ?_;rintro e w2 ⟨rfl,hb⟩;have B2:=aG B1 hb;refine⟨_,rfl,CB _ B2 (O1.below hb O1.lt),?_⟩;clear hb B1 O1;go_simp;obtain⟨t,ht⟩:∃t,mZ Wn u o=t:=⟨_,rfl⟩;rw[ht] at S1 ⊢;clear ht;refine aQ rfl (.bool (decide (rng<t))) (by go_simp) (λV hV=>by go_simp) ?_;go_simp;refine aQ rfl (.bool (decide (rng<t))) (by go_simp) (λV hV=>by go_simp) ?_;go_simp;refine aW rfl (.bool (decide (rng<t))) w2 (by go_simp) (by go_simp) trivial ?_;go_simp;unfold bC;go_wp2;go_ret;exact⟨by rw[S1.out];rfl,B2⟩
theorem Xy(X:WV)(u a b:aI)(Wn bw bu bf:Nat)(u1 u2 u3 u4 u5:Value)(w:World)(hT:Tb w bw bu X u1 u2 u3 u4 u5 u)(hF:w.cell? ⟨bf,0,none⟩=some (.func (Fn.func 201) #[] #[.pointer (some ⟨bw,0,none⟩),.pointer (some ⟨bu,0,none⟩)]))(hW:X.wide=(Wn:Nat))(h1:0<Wn)(h2:Wn<=12)(hu:G_ u)(ha:G_ a)(hb:G_ b)(la:0<=a.life/\a.life<=1000000)(lb:0<=b.life/\b.life<=1000000):
  Calls prog 205 #[a.val,b.val,.pointer (some ⟨bf,0,none⟩)] w λe w'=>e=.returned (int i64 (vJ Wn u a b))/\Below w.heap.size w w':=by
 have T0:=aj (hT);have GG:=aj (w_ hW h1 h2 hu ha hb);have CF:=aj (dJ hF (cell_lt hF));have wl:IntKind.i64.wrap (a.life-b.life)=a.life-b.life:=by rw[IntKind.wrap_i64];omega
 have wf:IntKind.i64.wrap (mZ Wn u a-mZ Wn u b)=mZ Wn u a-mZ Wn u b:=by
  have g1:=tN Wn u.at_.toNat a.at_.toNat;have g2:=tN Wn u.at_.toNat b.at_.toNat;unfold mZ;rw[IntKind.wrap_i64];omega
 have B0:Hid (Below w.heap.size w ((w.alloc (Obj.cells #[int i64 a.id,int i64 a.ay,int i64 a.kind,int i64 a.at_,int i64 a.life,int i64 a.load,int i64 a.task,int i64 a.goal] 74)).alloc (Obj.cells #[int i64 b.id,int i64 b.ay,int i64 b.kind,int i64 b.at_,int i64 b.life,int i64 b.load,int i64 b.task,int i64 b.goal] 74))):=aA.alloc (by simp) _;have A0:Hid (fA ((w.alloc (Obj.cells #[int i64 a.id,int i64 a.ay,int i64 a.kind,int i64 a.at_,int i64 a.life,int i64 a.load,int i64 a.task,int i64 a.goal] 74)).alloc (Obj.cells #[int i64 b.id,int i64 b.ay,int i64 b.kind,int i64 b.at_,int i64 b.life,int i64 b.load,int i64 b.task,int i64 b.goal] 74)) ⟨w.heap.size,0,none⟩ a):=(fA.mk' a rfl).below aA (by simp);have V0:Hid (fA ((w.alloc (Obj.cells #[int i64 a.id,int i64 a.ay,int i64 a.kind,int i64 a.at_,int i64 a.life,int i64 a.load,int i64 a.task,int i64 a.goal] 74)).alloc (Obj.cells #[int i64 b.id,int i64 b.ay,int i64 b.kind,int i64 b.at_,int i64 b.life,int i64 b.load,int i64 b.task,int i64 b.goal] 74)) ⟨w.heap.size+1,0,none⟩ b):=fA.mk' b (by simp);have CB:Hid (∀V,Below w.heap.size w V->fA V ⟨w.heap.size,0,none⟩ a->fA V ⟨w.heap.size+1,0,none⟩ b->(V.cell? ⟨bf,0,none⟩=some (.func (Fn.func 201) #[] #[.pointer (some ⟨bw,0,none⟩),.pointer (some ⟨bu,0,none⟩)])/\fA V ⟨w.heap.size,0,none⟩ a/\fA V ⟨w.heap.size+1,0,none⟩ b/\V.cell? ⟨w.heap.size,4,none⟩=some (int i64 a.life)/\V.cell? ⟨w.heap.size+1,4,none⟩=some (int i64 b.life))):=λV hb h0 h1=>
  ⟨by rw[hb.cell (p:=⟨bf,0,none⟩) CF.out.2];exact CF.1,h0,h1,by have:=h0.c4;rw[aO] at this;exact this,by have:=h1.c4;rw[aO] at this;exact this⟩
 clear hT hF hW h1 h2 hu ha hb la lb;unfold aI.val;go_enter func205,ntmps205;go_upto_region 1 with fail
 generalize ((w.alloc _).alloc _)=w0 at *;refine aV [(true,0),(true,1),(true,3),(true,4),(true,7),(true,8),(true,9),(true,10),(true,11),(false,2),(false,5),(true,6),(false,12),(false,13)] [(false,14)] (λV=>(V.cell? _=some _/\fA V _ a/\fA V _ b/\V.cell? _=some _/\V.cell? _=some _)) (by kernel_rfl) (by kernel_rfl) (by kernel_rfl) (by decide+kernel) (by decide+kernel) (CB _ B0.drew (A0.below (aB.drew) A0.lt) (V0.below (aB.drew) V0.lt)) ?_;have B1:Hid (Below _ w {w0 with drawn:=w0.drawn+1}):=B0.drew;have A1:Hid (fA {w0 with drawn:=w0.drawn+1} _ a):=A0.below (aB.drew) A0.lt;have V1:Hid (fA {w0 with drawn:=w0.drawn+1} _ b):=V0.below (aB.drew) V0.lt;generalize ({w0 with drawn:=w0.drawn+1}:World)=w1 at *;clear B0 A0 V0;refine au rfl (.func (Fn.func 201) #[] #[.pointer (some ⟨bw,0,none⟩),.pointer (some ⟨bu,0,none⟩)]) (by go_simp) (λV hV=>by obtain⟨d1,⟨q0,q1,q2,q3,q4,q5,q6,q7⟩,⟨r0,r1,r2,r3,r4,r5,r6,r7⟩,d2,d3⟩:=hV;go_simp) ?_;go_simp;refine au rfl (.agg #[int i64 a.id,int i64 a.ay,int i64 a.kind,int i64 a.at_,int i64 a.life,int i64 a.load,int i64 a.task,int i64 a.goal]) (by go_simp) (λV hV=>by obtain⟨d1,⟨q0,q1,q2,q3,q4,q5,q6,q7⟩,⟨r0,r1,r2,r3,r4,r5,r6,r7⟩,d2,d3⟩:=hV;go_simp) ?_;go_simp;refine au rfl (.func (Fn.func 201) #[] #[.pointer (some ⟨bw,0,none⟩),.pointer (some ⟨bu,0,none⟩)]) (by go_simp) (λV hV=>by obtain⟨d1,⟨q0,q1,q2,q3,q4,q5,q6,q7⟩,⟨r0,r1,r2,r3,r4,r5,r6,r7⟩,d2,d3⟩:=hV;go_simp) ?_;go_simp;refine au rfl (.agg #[int i64 b.id,int i64 b.ay,int i64 b.kind,int i64 b.at_,int i64 b.life,int i64 b.load,int i64 b.task,int i64 b.goal]) (by go_simp) (λV hV=>by obtain⟨d1,⟨q0,q1,q2,q3,q4,q5,q6,q7⟩,⟨r0,r1,r2,r3,r4,r5,r6,r7⟩,d2,d3⟩:=hV;go_simp) ?_;go_simp;refine au rfl (.pointer (some ⟨w.heap.size,4,none⟩)) (by go_simp) (λV hV=>by go_simp) ?_;go_simp;refine au rfl (int i64 a.life) (by go_simp) (λV hV=>by obtain⟨d1,⟨q0,q1,q2,q3,q4,q5,q6,q7⟩,⟨r0,r1,r2,r3,r4,r5,r6,r7⟩,d2,d3⟩:=hV;go_simp) ?_;go_simp;refine au rfl (.pointer (some ⟨w.heap.size+1,4,none⟩)) (by go_simp) (λV hV=>by go_simp) ?_;go_simp;refine au rfl (int i64 b.life) (by go_simp) (λV hV=>by obtain⟨d1,⟨q0,q1,q2,q3,q4,q5,q6,q7⟩,⟨r0,r1,r2,r3,r4,r5,r6,r7⟩,d2,d3⟩:=hV;go_simp) ?_;go_simp;refine au rfl (int i64 (a.life-b.life)) (by go_simp) (λV hV=>by go_simp) ?_;go_simp;refine dH rfl 201 (#[a.val]++ #[.pointer (some ⟨bw,0,none⟩),.pointer (some ⟨bu,0,none⟩)]) (by go_simp) (by go_simp;rfl) ?_;refine(Hq X u a Wn bw bu _ _ _ _ _ w1 (T0.below B1 T0.x.lt T0.u.lt) GG.1 GG.2.1 GG.2.2.1 GG.2.2.2.1 GG.2.2.2.2.1).mono ?_;rintro e w2 ⟨rfl,hb⟩;have B2:=aG B1 hb;have A2:=aj (A1.below hb A1.lt);have V2:=aj (V1.below hb V1.lt);refine⟨_,rfl,CB _ B2 A2 V2,?_⟩;clear hb B1 A1 V1;go_simp;refine dH rfl 201 (#[b.val]++ #[.pointer (some ⟨bw,0,none⟩),.pointer (some ⟨bu,0,none⟩)]) (by go_simp) (by go_simp;rfl) ?_;refine(Hq X u b Wn bw bu _ _ _ _ _ w2 (T0.below B2 T0.x.lt T0.u.lt) GG.1 GG.2.1 GG.2.2.1 GG.2.2.2.1 GG.2.2.2.2.2).mono ?_;rintro e w3 ⟨rfl,hb⟩;have B3:=aG B2 hb;have A3:=aj (A2.below hb A2.lt);have V3:=aj (V2.below hb V2.lt);refine⟨_,rfl,CB _ B3 A3 V3,?_⟩;clear hb B2 A2 V2;go_simp;obtain⟨fa,hfa⟩:∃t,mZ Wn u a=t:=⟨_,rfl⟩;obtain⟨fb,hfb⟩:∃t,mZ Wn u b=t:=⟨_,rfl⟩;have SO:Hid (vJ Wn u a b=if fa-fb=0 then a.life-b.life else fa-fb):=by unfold Hid vJ;rw[hfa,hfb]
 rw[hfa,hfb] at wf;rw[hfa,hfb];clear hfa hfb;refine au rfl (int i64 (fa-fb)) (by go_simp) (λV hV=>by go_simp) ?_;go_simp;have BA:Hid (Below _ w3 (w3.alloc (Obj.cells #[int i64 (fa-fb),int i64 (a.life-b.life)] 3))):=aA;have s0:(w3.alloc (Obj.cells #[int i64 (fa-fb),int i64 (a.life-b.life)] 3)).cell? ⟨w3.heap.size,0,none⟩=some (int i64 (fa-fb)):=by simp
 have s1:(w3.alloc (Obj.cells #[int i64 (fa-fb),int i64 (a.life-b.life)] 3)).cell? ⟨w3.heap.size,1,none⟩=some (int i64 (a.life-b.life)):=by simp
 refine fF rfl (slice (some ⟨w3.heap.size,0,none⟩) 2 2) _ (by go_simp) (by go_simp) (CB _ (B3.trans (BA.mono B3.size)) (A3.below BA A3.lt) (V3.below BA V3.lt)) ?_;go_simp;generalize (w3.alloc _)=w4 at *;have B4:=aG B3 BA;have A4:=aj (A3.below BA A3.lt);have V4:=aj (V3.below BA V3.lt);refine dH rfl 187 #[slice (some ⟨w3.heap.size,0,none⟩) 2 2] (by go_simp) (by go_simp) ?_;refine(Xw _ _ _ w4 s0 s1).mono ?_;rintro e w5 ⟨rfl,rfl⟩;refine⟨_,rfl,CB _ B4 A4 V4,?_⟩;rw[<-SO.out];obtain⟨t,ht⟩:∃t,vJ Wn u a b=t:=⟨_,rfl⟩;have ST:=aj (ht);rw[ht];clear ht SO s0 s1 BA;go_simp;refine aW rfl (int i64 t) w5 (by go_simp) (by go_simp) trivial ?_;go_simp;unfold bC;go_wp2;go_ret;exact⟨by rw[ST.out];rfl,B4⟩
theorem SK(m:aI)(W:World):(Instr.field 74 (.agg #[int i64 m.id,int i64 m.ay,int i64 m.kind,int i64 m.at_,int i64 m.life,int i64 m.load,int i64 m.task,int i64 m.goal]) 0).run prog W=.ok (int i64 m.id) W:=by kernel_rfl
theorem H_(vk vw:Value)(ks:List KV)(X:WV)(u:aI)(Wn:Nat)(k:KV)(w:World)(hk:Kl w vk ks)(hw:Wl w vw X)(e1:X.wide=(Wn:Nat))(h1:0<Wn)(h2:Wn<=12)(hl:X.us.length<=1000000)
  (hu:G_ u) (hk0:0<=u.kind) (hk':ks[u.kind.toNat]? =some k) (hus:∀h∈X.us,G_ h/\0<=h.life/\h.life<=1000000):
  Calls prog 160 #[vk,vw,u.val] w λe w'=>∃t,e=.returned (int i64 t)/\zI Wn u k X.us t/\Below w.heap.size w w':=by
 obtain⟨kn,hkn⟩:∃n:Nat,u.kind=n:=⟨u.kind.toNat,by omega⟩;have hkk:ks[kn]? =some k:=by rw[hkn,bF] at hk';exact hk'
 have hkl:kn<ks.length:=(aK.1 hkk).1;have H:Hid (Wl w vw X):=hw;have GD:Hid (X.wide=(Wn:Nat)/\0<Wn/\Wn<=12/\G_ u/\X.us.length<=1000000/\∀h∈X.us,G_ h/\0<=h.life/\h.life<=1000000):=⟨e1,h1,h2,hu,hl,hus⟩;obtain⟨p1,q1,p2,q2,p3,q3,p4,q4,p5,q5,rfl⟩:=aX hw;obtain⟨pk,qk,rfl,ck1,ck2,kc⟩:=hk;obtain⟨xk,rfl,hxl,hxc⟩:=kc (by intro h;subst h;simp at hkl);have KK:Hid (Kc w (xk.add (kn*11)) k/\(xk.add (kn*11)).block<w.heap.size):=⟨hxc kn k hkk,by rw[add_block];exact hxl⟩;have HE:Hid (u.kind=(kn:Nat)):=hkn;clear hw e1 h1 h2 hl hu hk0 hk' hus hkn kc hxc hxl hkk;unfold aI.val;go_enter func160,ntmps160;go_upto_region 1 with fail
 have B0:Hid (Below w.heap.size w ((w.alloc (Obj.cells #[int i64 X.turn,int i64 X.next,int i64 X.wide,int i64 X.high,slice p1 X.gs.length q1,slice p2 X.os.length q2,slice p3 X.gold.length q3,slice p4 X.us.length q4,slice p5 X.qs.length q5] 29)).alloc (Obj.cells #[int i64 u.id,int i64 u.ay,int i64 u.kind,int i64 u.at_,int i64 u.life,int i64 u.load,int i64 u.task,int i64 u.goal] 74))):=aA.alloc (by simp) _;have T0:Hid (Tb ((w.alloc (Obj.cells #[int i64 X.turn,int i64 X.next,int i64 X.wide,int i64 X.high,slice p1 X.gs.length q1,slice p2 X.os.length q2,slice p3 X.gold.length q3,slice p4 X.us.length q4,slice p5 X.qs.length q5] 29)).alloc (Obj.cells #[int i64 u.id,int i64 u.ay,int i64 u.kind,int i64 u.at_,int i64 u.life,int i64 u.load,int i64 u.task,int i64 u.goal] 74)) w.heap.size (w.heap.size+1) X (slice p1 X.gs.length q1) (slice p2 X.os.length q2) (slice p3 X.gold.length q3) (slice p4 X.us.length q4) (slice p5 X.qs.length q5) u):=⟨(Bw.mk' X _ _ _ _ _ rfl).below aA (by simp),fA.mk' u (by simp)⟩;have Z0:Hid (((w.alloc (Obj.cells #[int i64 X.turn,int i64 X.next,int i64 X.wide,int i64 X.high,slice p1 X.gs.length q1,slice p2 X.os.length q2,slice p3 X.gold.length q3,slice p4 X.us.length q4,slice p5 X.qs.length q5] 29)).alloc (Obj.cells #[int i64 u.id,int i64 u.ay,int i64 u.kind,int i64 u.at_,int i64 u.life,int i64 u.load,int i64 u.task,int i64 u.goal] 74)).heap.size=w.heap.size+2):=by unfold Hid;simp
 generalize ((w.alloc (Obj.cells #[int i64 X.turn,int i64 X.next,int i64 X.wide,int i64 X.high,slice p1 X.gs.length q1,slice p2 X.os.length q2,slice p3 X.gold.length q3,slice p4 X.us.length q4,slice p5 X.qs.length q5] 29)).alloc (Obj.cells #[int i64 u.id,int i64 u.ay,int i64 u.kind,int i64 u.at_,int i64 u.life,int i64 u.load,int i64 u.task,int i64 u.goal] 74))=w0 at *;obtain⟨z0,z1,z2,z3,z4,z5,z6,z7,z8,z9,z10⟩:=KK.1.below B0 KK.2;obtain⟨y0,y1,y2,y3,y4,y5,y6,y7⟩:=T0.u;rw[HE.out] at y2;go_upto_region 2 with fail
 have BK:Hid (Below w0.heap.size w0 (w0.alloc (Obj.cells #[.string k.b,int i64 k.n0,int i64 k.n1,int i64 k.n2,int i64 k.n3,int i64 k.n4,int i64 k.n5,int i64 k.n6,int i64 k.n7,.bool k.f,.bool k.t] 77))):=aA;have K1:Hid (Kc (w0.alloc (Obj.cells #[.string k.b,int i64 k.n0,int i64 k.n1,int i64 k.n2,int i64 k.n3,int i64 k.n4,int i64 k.n5,int i64 k.n6,int i64 k.n7,.bool k.f,.bool k.t] 77)) ⟨w.heap.size+2,0,none⟩ k):=qI k Z0;have Z1:Hid ((w0.alloc (Obj.cells #[.string k.b,int i64 k.n0,int i64 k.n1,int i64 k.n2,int i64 k.n3,int i64 k.n4,int i64 k.n5,int i64 k.n6,int i64 k.n7,.bool k.f,.bool k.t] 77)).heap.size=w.heap.size+3):=by have:=Z0.out;unfold Hid;simp;omega
 rw[Z0.out];generalize (w0.alloc (Obj.cells #[.string k.b,int i64 k.n0,int i64 k.n1,int i64 k.n2,int i64 k.n3,int i64 k.n4,int i64 k.n5,int i64 k.n6,int i64 k.n7,.bool k.f,.bool k.t] 77))=w1 at *;have B1:Hid (Below w.heap.size w w1):=B0.trans (BK.mono B0.size);have T1:Hid (Tb w1 (w.heap.size) (w.heap.size+1) X (slice p1 X.gs.length q1) (slice p2 X.os.length q2) (slice p3 X.gold.length q3) (slice p4 X.us.length q4) (slice p5 X.qs.length q5) u):=T0.below BK T0.x.lt T0.u.lt;clear z0 z1 z2 z3 z4 z5 z6 z7 z8 z9 z10 y0 y1 y2 y3 y4 y5 y6 y7 B0 BK T0 Z0;have c2:w1.cell? ⟨w.heap.size+2,2,none⟩=some (int i64 k.n1):=by have:=K1.c2;rw[aO] at this;exact this
 by_cases h0:k.n1=0
 ·have N1:Hid (k.n1=0):=h0
  rw[h0] at c2;go_wp2;go_ret;exact⟨-1,rfl,.inl ⟨N1,rfl⟩,B1⟩
 have N1:Hid (k.n1≠0):=h0;have h0':(k.n1==0)=false:=by rw[beq_eq_false_iff_ne];exact h0
 clear h0;have sf:∀(a:Addr) (f:Fn) (x y:Array Value) (w:World) (m:Mode),(store a (.func f x y) m).run prog w=stored prog w a (.func f x y) m:=λa f x y w m=>run_store _ w a _ m rfl
 go_upto_region 5 with fail
 clear sf;have BF:Hid (Below w1.heap.size w1 (w1.alloc (Obj.cells #[.func (Fn.func 201) #[] #[.pointer (some ⟨w.heap.size,0,none⟩),.pointer (some ⟨w.heap.size+1,0,none⟩)]] 262))):=aA;have F2:Hid ((w1.alloc (Obj.cells #[.func (Fn.func 201) #[] #[.pointer (some ⟨w.heap.size,0,none⟩),.pointer (some ⟨w.heap.size+1,0,none⟩)]] 262)).cell? ⟨w.heap.size+3,0,none⟩=some (.func (Fn.func 201) #[] #[.pointer (some ⟨w.heap.size,0,none⟩),.pointer (some ⟨w.heap.size+1,0,none⟩)])):=bD Z1 rfl;have Z2:Hid (w.heap.size+3<(w1.alloc (Obj.cells #[.func (Fn.func 201) #[] #[.pointer (some ⟨w.heap.size,0,none⟩),.pointer (some ⟨w.heap.size+1,0,none⟩)]] 262)).heap.size):=by have:=Z1.out;unfold Hid;simp;omega
 rw[Z1.out];generalize (w1.alloc (Obj.cells #[.func (Fn.func 201) #[] #[.pointer (some ⟨w.heap.size,0,none⟩),.pointer (some ⟨w.heap.size+1,0,none⟩)]] 262))=w2 at *;have B2:Hid (Below w.heap.size w w2):=B1.trans (BF.mono B1.size);have T2:Hid (Tb w2 (w.heap.size) (w.heap.size+1) X (slice p1 X.gs.length q1) (slice p2 X.os.length q2) (slice p3 X.gold.length q3) (slice p4 X.us.length q4) (slice p5 X.qs.length q5) u):=T1.below BF T1.x.lt T1.u.lt;have K2:Hid (w2.cell? ⟨w.heap.size+2,3,none⟩=some (int i64 k.n2)):=by have:=(K1.below BF K1.lt).c3;rw[aO] at this;exact this
 clear c2 B1 T1 K1 Z1 BF h0';obtain⟨x0,x1,x2,x3,x4,x5,x6,x7,x8⟩:=T2.x;have US:Hid (oP w (slice p4 X.us.length q4) X.us):=H.slices.2.2.2.1;go_wp2_with fail
 refine(clone_any _ X.us w2 (US.below B2) GD.2.2.2.2.1).mono ?_;rintro e w3 ⟨v,rfl,ho,hb⟩;have O3:Hid (fD w3 w2.heap.size v X.us):=ho;have B3:Hid (Below w2.heap.size w2 w3):=hb;have TT:Hid (∀W,Below w2.heap.size w2 W->Tb W (w.heap.size) (w.heap.size+1) X (slice p1 X.gs.length q1) (slice p2 X.os.length q2) (slice p3 X.gold.length q3) (slice p4 X.us.length q4) (slice p5 X.qs.length q5) u/\W.cell? ⟨w.heap.size+3,0,none⟩=some (.func (Fn.func 201) #[] #[.pointer (some ⟨w.heap.size,0,none⟩),.pointer (some ⟨w.heap.size+1,0,none⟩)])/\W.cell? ⟨w.heap.size+2,3,none⟩=some (int i64 k.n2)):=λW hW=>
  ⟨T2.below hW T2.x.lt T2.u.lt,by rw[hW.cell (p:=⟨w.heap.size+3,0,none⟩) Z2.out];exact F2,by rw[hW.cell (p:=⟨w.heap.size+2,3,none⟩) (show w.heap.size+2<w2.heap.size by have:=Z2.out;omega)];exact K2⟩
 have PR:Hid (∀W,Below w2.heap.size w2 W->∀h∈X.us,Calls prog 203 (#[h.val]++ #[.pointer (some ⟨w.heap.size+1,0,none⟩),.pointer (some ⟨w.heap.size+3,0,none⟩),.pointer (some ⟨w.heap.size+2,0,none⟩)]) W λe w'=>e=.returned (.bool (qN Wn u k.n2 h))/\Below W.heap.size W w'):=λW hW h hh=>
  Xx X u h Wn _ _ _ _ k.n2 _ _ _ _ _ W (TT W hW).1 (TT W hW).2.1 (TT W hW).2.2 GD.1 GD.2.1 GD.2.2.1 GD.2.2.2.1 (GD.2.2.2.2.2 h hh).1
 clear ho hb x0 x1 x2 x3 x4 x5 x6 x7 x8 F2 K2;go_wp2_with fail
 refine(del_any 203 (by intro args w;go_simp) v #[.pointer (some ⟨w.heap.size+1,0,none⟩),.pointer (some ⟨w.heap.size+3,0,none⟩),.pointer (some ⟨w.heap.size+2,0,none⟩)] X.us (qN Wn u k.n2) w3 w2.heap.size O3 B3.size GD.2.2.2.2.1 (λW hW h hh=>PR W (B3.trans hW) h hh)).mono ?_;rintro e w4 ⟨v4,rfl,ho,hb⟩;have B4:Hid (Below w2.heap.size w2 w4):=B3.trans hb;have L4:Hid (oP w4 v4 (qO Wn u k.n2 X.us)):=ho.l;obtain⟨a4,c4,rfl⟩:=ho.len;obtain⟨hs,JU⟩:∃hs,qO Wn u k.n2 X.us=hs:=⟨_,rfl⟩;have HS:Hid (qO Wn u k.n2 X.us=hs):=JU;have e4:(X.us.filter (λo=> !qN Wn u k.n2 o)).length=hs.length:=by rw[<-JU];rfl
 rw[JU,e4] at L4;rw[e4];clear ho hb e4 JU O3 B3 PR;have BW:Hid (Below w.heap.size w w4):=B2.trans (B4.mono B2.size);cases hs with
 |nil=>
  simp only[aS];go_wp2;go_ret;exact⟨-1,rfl,.inr (.inl ⟨N1,HS,rfl⟩),BW⟩
 |cons f0 tl=>
  have HM:Hid (∀h∈f0::tl,h∈X.us):=λh hh=>by rw[<-HS.out] at hh;exact(List.mem_filter.1 hh).1
  have TL:Hid (tl.length<=1000000):=by
   have h1:(qO Wn u k.n2 X.us).length<=X.us.length:=List.length_filter_le _ _;rw[HS.out,dI] at h1;have h2:=GD.out.2.2.2.2.1;unfold Hid;omega
  have hne:(((f0::tl).length:Nat):Int)≠0:=by rw[dI];omega
  have hne':((((f0::tl).length:Nat):Int)==0)=false:=by rw[beq_eq_false_iff_ne];exact hne
  obtain⟨n,hn⟩:∃n,(f0::tl).length=n:=⟨_,rfl⟩;have HN:Hid ((f0::tl).length=n):=hn;rw[hn] at hne hne' ⊢;clear hn;have L5:Hid (oP w4 (slice a4 n c4) (f0::tl)):=by rw[<-HN.out];exact L4
  clear L4;go_upto_region 10 with fail
  have BX:Hid (∀V,Below w2.heap.size w2 V->Bw V (w.heap.size) X (slice p1 X.gs.length q1) (slice p2 X.os.length q2) (slice p3 X.gold.length q3) (slice p4 X.us.length q4) (slice p5 X.qs.length q5)):=λV hV=>(TT V hV).1.x
  refine aV [(true,0),(true,1),(true,2),(false,3),(true,4),(false,5)] [(false,6)] (λV=>Bw V (w.heap.size) X (slice p1 X.gs.length q1) (slice p2 X.os.length q2) (slice p3 X.gold.length q3) (slice p4 X.us.length q4) (slice p5 X.qs.length q5)) (by kernel_rfl) (by kernel_rfl) (by kernel_rfl) (by decide+kernel) (by decide+kernel) (BX _ B4.drew) ?_;have B5:Hid (Below w2.heap.size w2 {w4 with drawn:=w4.drawn+1}):=B4.drew;have L6:Hid (oP {w4 with drawn:=w4.drawn+1} (slice a4 n c4) (f0::tl)):=L5.below (aB.drew);generalize ({w4 with drawn:=w4.drawn+1}:World)=w5 at *;clear B4 L5 BW;refine au rfl (.agg #[int i64 X.turn,int i64 X.next,int i64 X.wide,int i64 X.high,slice p1 X.gs.length q1,slice p2 X.os.length q2,slice p3 X.gold.length q3,slice p4 X.us.length q4,slice p5 X.qs.length q5]) (by go_simp) (λV hV=>by obtain⟨x0,x1,x2,x3,x4,x5,x6,x7,x8⟩:=hV;go_simp) ?_;go_simp;refine au rfl (slice a4 n c4) (by go_simp) (λV hV=>by go_simp) ?_;go_simp;refine au rfl (.func (Fn.func 205) #[] #[.pointer (some ⟨w.heap.size+3,0,none⟩)]) (by go_simp) (λV hV=>by go_simp) ?_;go_simp;refine dH rfl 206 #[slice a4 n c4,.func (Fn.func 205) #[] #[.pointer (some ⟨w.heap.size+3,0,none⟩)]] (by go_simp) (by go_simp) ?_;refine(JR 205 (by intro args w;go_simp) _ #[.pointer (some ⟨w.heap.size+3,0,none⟩)] f0 tl (vI Wn u) (vJ Wn u) w5 L6 TL (λa ha b hb=>Sr (GD.2.2.2.2.2 a (HM a ha)).2 (GD.2.2.2.2.2 b (HM b hb)).2) (λW hW a ha b hb=>?_)).mono ?_
  ·have hWW:=B5.trans (hW.mono B5.size)
   exact Xy X u a b Wn _ _ _ _ _ _ _ _ W (TT W hWW).1 (TT W hWW).2.1 GD.1 GD.2.1 GD.2.2.1 GD.2.2.2.1 (GD.2.2.2.2.2 a (HM a ha)).1 (GD.2.2.2.2.2 b (HM b hb)).1 (GD.2.2.2.2.2 a (HM a ha)).2 (GD.2.2.2.2.2 b (HM b hb)).2
  rintro e w6 ⟨rfl,hb⟩;have B6:Hid (Below w2.heap.size w2 w6):=B5.trans (hb.mono B5.size);refine⟨_,rfl,BX _ B6,?_⟩;clear hb L6 B5;obtain⟨m,hm⟩:∃m,kN (vI Wn u) f0 tl=m:=⟨_,rfl⟩;have MM:Hid (kN (vI Wn u) f0 tl=m):=hm;rw[hm];clear hm;unfold aI.val;have hfi:=λW=>SK m W
  go_simp;refine au rfl (int i64 m.id) (by go_simp) (λV hV=>by go_simp) ?_;go_simp;refine dH rfl 113 #[.agg #[int i64 X.turn,int i64 X.next,int i64 X.wide,int i64 X.high,slice p1 X.gs.length q1,slice p2 X.os.length q2,slice p3 X.gold.length q3,slice p4 X.us.length q4,slice p5 X.qs.length q5],int i64 m.id] (by go_simp) (by go_simp) ?_;refine(rO _ X m.id w6 (H.below (B2.trans (B6.mono B2.size)))).mono ?_;rintro e w7 ⟨r,rfl,hf,hb⟩;have B7:Hid (Below w2.heap.size w2 w7):=B6.trans (hb.mono B6.size);have RR:Hid (zI Wn u k X.us r):=.inr (.inr ⟨N1,f0,tl,HS,by rw[MM.out];exact hf⟩);refine⟨_,rfl,BX _ B7,?_⟩;clear hb hf hfi;go_simp;refine aW rfl (int i64 r) w7 (by go_simp) (by go_simp) trivial ?_;go_simp;unfold bC;go_wp2;go_ret;exact⟨r,rfl,RR,B2.trans (B7.mono B2.size)⟩
theorem Na(h:bH ks X):∀u∈X.us,G_ u/\0<=u.life/\u.life<=1000000:=by
 intro u hu;obtain⟨i,hi⟩:=List.mem_iff_getElem?.1 hu;obtain⟨k,f⟩:=h.fine hi;obtain⟨Wn,Hn,e1,e2,G⟩:=h.good;have h1:=f.at_;have h2:=f.life;have h3:=lT h.kinds (aT f.kk);have h4:=G.gl;have h5:=G.pos.2;exact⟨⟨h1.1,by omega⟩,by omega,by omega⟩
theorem Ia(hk:ks[u.kind.toNat]? =some k):sO ks W us u=tgt W u k us:=by
 unfold sO;rw[hk]
theorem vK(hk:ks[u.kind.toNat]? =some k):sQ ks u=k.n1:=by
 unfold sQ;rw[hk]
theorem Df(vk:Value)(ks:List KV)(X:WV)(us:List aI)(g1 g2 g3 g5:Value)(g cap Wn:Nat)(rest:List Value)(w:World)(hX:bH ks X)(hus:X.us=us)(hW:X.wide=(Wn:Nat))(h1:0<Wn)(h2:Wn<=12)(hne:us≠[])
  (hk:Kl w vk ks) (hw:Wl w (.agg #[int i64 X.turn,int i64 X.next,int i64 X.wide,int i64 X.high,g1,g2,g3,slice (some ⟨g,0,none⟩) us.length cap,g5]) X) (hub:Ub w g us rest):
  Calls prog 110 #[vk,.agg #[int i64 X.turn,int i64 X.next,int i64 X.wide,int i64 X.high,g1,g2,g3,slice (some ⟨g,0,none⟩) us.length cap,g5]] w λe w'=>∃ev,e=.returned ev/\ig w' w.heap.size ev (strikes ks Wn us us).2/\Ub w' g (hurt us (strikes ks Wn us us).1) rest/\Kp g w w':=by
 obtain⟨xu,hxu⟩:∃x:Addr,(⟨g,0,none⟩:Addr)=x:=⟨_,rfl⟩;have HXU:=aj (hxu);have HUB:=aj (hub);have K:=aj (hk);have R:=aj (w_ hX hus hW h1 h2 hne);have FT:Hid (∀h∈us,G_ h/\0<=h.life/\h.life<=1000000):=by rw[<-hus];exact Na hX
 have Jr:us.length<=40:=by rw[<-hus];exact hX.ul
 have UC:Hid (∀(i:Nat) k,us[i]? =some k->fA w (xu.add (i*8)) k):=λi k hi=>by
  rw[<-hxu,Addr.add_lit,aO];exact hub.pV hi
 have UL:Hid (xu.block<w.heap.size/\g<w.heap.size):=⟨by rw[<-hxu];exact hub.lt,hub.lt⟩;have hcap:us.length<=cap/\cap<=9223372036854775807:=by
  obtain⟨a,c,he,h1,h2,-⟩:=hw.slices.2.2.2.1;injection he with _ _ he
  subst he;rw[hus] at h1;exact⟨h1,h2⟩
 obtain⟨hcap1,hcap2⟩:=hcap;have hlen:=List.length_pos_iff.2 hne;have HL:=aj (hlen);rw[hxu] at hw ⊢;have H:=aj (hw);obtain⟨pk,qk,rfl,ck1,ck2,kc⟩:=hk;have abo:ks≠[]:=by
  intro h;obtain⟨u,hu⟩:∃u,us[0]? =some u:=⟨_,aH hlen⟩;rw[<-hus] at hu;obtain⟨k,f⟩:=hX.fine hu;have:=f.kk;rw[h] at this;simp at this
 obtain⟨xk,rfl,hxl,hxc⟩:=kc abo;have KC:=aj (dJ hxc hxl);clear hub hX hus hW h1 h2 hne hw kc abo hxc hxl hxu hlen;go_enter func110,ntmps110;go_upto_region 2 with fail
 have B0:Hid (Below _ w (w.alloc (Obj.cells #[int i64 X.turn,int i64 X.next,int i64 X.wide,int i64 X.high,g1,g2,g3,slice (some xu) us.length cap,g5] 29))):=aA;have X0:Hid (Bw _ w.heap.size X g1 g2 g3 (slice (some xu) us.length cap) g5):=Bw.mk' X _ _ _ _ _ rfl;generalize (w.alloc _)=w0 at *;have x7:=X0.c7;obtain⟨w1,hmk,hbk,hb1,hs1⟩:=Rq us.length w0 (by omega);go_upto_region 3 with fail
 have BK:=aj (hbk);have B1:=aG B0 hb1;have X1:=aj (X0.below hb1 X0.lt);obtain⟨lb,hlb⟩:∃z,w0.heap.size=z:=⟨_,rfl⟩;have Nb:Hid (w.heap.size<lb/\w1.heap.size=lb+1):=⟨by rw[<-hlb];exact X0.lt,by rw[<-hlb];exact hs1⟩;rw[hlb] at BK ⊢;clear hmk hbk hb1 hs1 x7 hlb B0 X0;have x7:=X1.c7;go_upto_region 4 with fail
 clear x7;go_loopw [5,19] (λv5 v19 V=>∃(n:Nat) (ev:Value),v19=int i64 (n:Nat)/\ev=v5/\n<=us.length/\Bk V lb (strikes ks Wn us (us.take n)).1 #[]/\ig V w1.heap.size ev (strikes ks Wn us (us.take n)).2/\(strikes ks Wn us (us.take n)).2.length<=n/\Kp lb w1 V) (λ_ v19 _=>us.length-(intOf v19).toNat)
 case atStart=>exact⟨0,_,rfl,rfl,aZ _,BK,ig.nil _ _,aU _,Kp.refl _ _⟩
 case round=>
  obtain⟨n,ev,rfl,rfl,hn,hbk,hev,hel,hkp⟩:=hrel;have L1:=aj (hbk);have E1:=aj (dJ hev hel);have KP:=aj (hkp);have BL:=aj (hkp.below aB (by have:=Nb.out.2;omega) aN);have BB:=aj (B1.trans (BL.mono (by have:=Nb.out.1;omega)));have XR:=aj (X1.below BL Nb.1);clear hbk hev hel hkp BK;by_cases h0:n=us.length
  ·subst h0
   have hx9:=HXU.out;subst hx9;have hnl:¬(((us.length:Nat):Int)<(us.length:Nat)):=by omega
   rw[List.take_of_length_le aN] at L1 E1;obtain⟨ls,hls⟩:∃l,(strikes ks Wn us us).1=l:=⟨_,rfl⟩;obtain⟨es,hes⟩:∃l,(strikes ks Wn us us).2=l:=⟨_,rfl⟩;have LS:Hid (ls.length=us.length/\GR 40000 ls/\(strikes ks Wn us us).1=ls/\(strikes ks Wn us us).2=es):=⟨by rw[<-hls];exact gZ,by
    have:=kC (W:=Wn) (us:=us) R.1.kinds us.length aN;rw[List.take_of_length_le aN,hls] at this;intro x hx;have:=this x hx;omega,hls,hes⟩
   rw[hls] at L1;rw[hes] at E1;generalize wr=w2 at *;have UB:=aj (HUB.below BB HUB.lt);have NG:Hid (g<w.heap.size/\w.heap.size<lb):=⟨UL.2,Nb.1⟩;clear hls hes hnl;go_upto_region 12 with fail
   go_loopw [56] (λv56 V=>∃(n:Nat),v56=int i64 (n:Nat)/\n<=us.length/\Ub V g (n_ us ls n) rest/\Kp g w2 V) (λv56 _=>us.length-(intOf v56).toNat)
   case atStart=>exact⟨0,rfl,aZ _,by rw[GX];exact UB,Kp.refl _ _⟩
   case round=>
    obtain⟨n,rfl,hn,hub,hkp⟩:=hrel;have U2:=aj (hub);have P2:=aj (hkp);have L2:=aj (L1.kp hkp (by have:=NG.out;omega));have X2:=aj (XR.kp9 hkp (by have:=NG.out;omega));clear hub hkp;by_cases h0:n=us.length
    ·subst h0
     have hnl:¬(((us.length:Nat):Int)<(us.length:Nat)):=by omega
     go_wp2;go_ret;refine⟨ev,rfl,?_,?_,?_⟩
     ·rw[LS.out.2.2.2]
      exact(E1.1.kp9 P2 (by have:=NG.out;have:=Nb.out.2;omega)).mono (by have:=Nb.out;omega)
     ·have:=U2.out
      rw[MZ LS.out.1] at this;rw[LS.out.2.2.1];exact this
     ·exact(Kp.of BB).trans P2
    ·have hnl:n<us.length:=by omega
     have hni:((n:Nat):Int)<(us.length:Nat):=by omega
     obtain⟨u,hu⟩:∃u,us[n]? =some u:=⟨_,aH hnl⟩;obtain⟨x,hx⟩:∃x,ls[n]? =some x:=⟨_,aH (by rw[LS.out.1];exact hnl)⟩;have xb:=LS.2.1 x (aT hx);have ub:=(FT u (aT hu)).2;have wsub:IntKind.i64.wrap (u.life-x)=u.life-x:=by rw[IntKind.wrap_i64];omega
     have WN:IntKind.i64.wrap ((n:Nat)+1:Int)=((n:Nat):Int)+1:=by rw[IntKind.wrap_i64];omega
     have cl:=L2.cell hx;have x7:=X2.c7;have c4:=(U2.pV (C_ LS.1 hu)).c4;have t4:=U2.thaw (n*8+4);have U3:Hid (Ub (wr.setCell ⟨g,n*8+4,none⟩ (int i64 (u.life-x))) g (n_ us ls (n+1)) rest):=by
      unfold Hid;rw[<-GZ LS.out.1 hu hx];exact U2.Wq (C_ LS.1 hu) _
     have P3:Hid (Kp g w2 (wr.setCell ⟨g,n*8+4,none⟩ (int i64 (u.life-x)))):=P2.trans (Kp.set _ _ _);clear xb ub hu hx;go_wp2;go_round
     case rel=>exact⟨n+1,by go_num,by omega,U3,P3⟩
     case measure=>simp[intOf];omega
  ·have hnl:n<us.length:=by omega
   have hni:((n:Nat):Int)<(us.length:Nat):=by omega
   obtain⟨u,hu⟩:∃u,us[n]? =some u:=⟨_,aH hnl⟩;obtain⟨k,fu⟩:=R.1.fine (show X.us[n]? =some u by rw[R.out.2.1];exact hu);obtain⟨kn,hkn⟩:∃n:Nat,u.kind=n:=⟨u.kind.toNat,by have:=fu.k0.1;omega⟩;have hkk:ks[kn]? =some k:=by have:=fu.kk;rw[hkn,bF] at this;exact this
   have hkl:=(aK.1 hkk).1;have UK:=aj (lM hu hkn fu.kk fu.k0.1);have KK:Hid (Kc w (xk.add (kn*11)) k/\(xk.add (kn*11)).block<w.heap.size):=⟨KC.1 kn k hkk,by rw[add_block];exact KC.2⟩;have NX:=qP (ks:=ks) (W:=Wn) (us:=us) hu;have WN:IntKind.i64.wrap ((n:Nat)+1:Int)=((n:Nat):Int)+1:=by rw[IntKind.wrap_i64];omega
   obtain⟨y0,y1,y2,y3,y4,y5,y6,y7⟩:=(UC n u hu).below BB (by rw[add_block];exact UL.1);clear hu fu hkn hkk;have NXH:=aj (NX);clear NX;go_upto_region 6 with fail
   have BA:Hid (Below _ wr (wr.alloc (Obj.cells #[int i64 u.id,int i64 u.ay,int i64 u.kind,int i64 u.at_,int i64 u.life,int i64 u.load,int i64 u.task,int i64 u.goal] 74))):=aA;obtain⟨bu,hbu⟩:∃z,wr.heap.size=z:=⟨_,rfl⟩;have U2:=aj (fA.mk' u hbu);have VB:Hid (∀b,ev.ownBlock=some b->b<bu):=λb hb=>by rw[<-hbu];exact(E1.1.block b hb).2
   have BUL:Hid (w1.heap.size<=bu):=by unfold Hid;rw[<-hbu];exact KP.size
   rw[hbu];generalize (wr.alloc _)=w2 at *;have B2:=aG BB BA;have L2:=aj (L1.below BA);have E2:=aj (E1.1.below BA);have P2:=aj (KP.trans (Kp.of BA));have X2:=aj (XR.below BA XR.lt);clear y0 y1 y2 y3 y4 y5 y6 y7 hbu BA BB L1 KP XR BL;obtain⟨x0,x1,x2,x3,x4,x5,x6,x7,x8⟩:=X2.out;obtain⟨y0,y1,y2,y3,y4,y5,y6,y7⟩:=U2.out;go_wp2_with fail
   refine(H_ _ _ ks X u Wn k w2 (K.below B2) (H.below B2) R.2.2.1 R.2.2.2.1 R.2.2.2.2.1 (by rw[R.out.2.1];omega) (FT u (aT UK.1)).1 UK.2.2.2 UK.2.2.1 (by rw[R.out.2.1];exact FT)).mono ?_;rintro e w3 ⟨t,rfl,ht,hb⟩;have TQ:Hid (t=sO ks Wn us u):=by unfold Hid;rw[Ia UK.out.2.2.1];rw[R.out.2.1] at ht;exact abn ht
   have TW:=aao R.1 ht;rw[R.out.2.1] at TW;have B3:=aG B2 hb;have L3:=aj (L2.below hb);have E3:=aj (E2.below hb);have P3:=aj (P2.trans (Kp.of hb));have X3:=aj (X2.below hb X2.lt);have U3:=aj (U2.below hb U2.lt);clear hb ht x0 x1 x2 x3 x4 x5 x6 x7 x8 y0 y1 y2 y3 y4 y5 y6 y7 B2 L2 E2 P2 X2 U2;rcases TW with⟨rfl,-⟩|⟨hn1,tn,x,f0,tl,rfl,hx,-,-⟩
   ·have SAME:Hid (strikes ks Wn us (us.take (n+1))=strikes ks Wn us (us.take n)):=by
     unfold Hid;rw[NXH.out];unfold stk;rw[<-TQ.out,if_pos rfl]
    go_wp2;go_round
    case rel=>exact⟨n+1,_,by go_num,rfl,by omega,by rw[SAME.out];exact L3,by rw[SAME.out];exact E3,by rw[SAME.out];have:=E1.out.2;omega,P3⟩
    case measure=>simp[intOf];omega
   ·have htl:=(aK.1 hx).1
    obtain⟨ls,hls⟩:∃l,(strikes ks Wn us (us.take n)).1=l:=⟨_,rfl⟩;obtain⟨es,hes⟩:∃l,(strikes ks Wn us (us.take n)).2=l:=⟨_,rfl⟩;have hll:ls.length=us.length:=by rw[<-hls];exact gZ
    obtain⟨ln,hln⟩:∃x,ls[tn]? =some x:=⟨_,aH (by omega)⟩;have UPT:=kC (W:=Wn) (us:=us) R.1.kinds n hn;rw[hls] at UPT;have lnb:=UPT ln (aT hln);have abp:=SH R.1.kinds u;rw[vK UK.out.2.2.1] at abp;have acO:IntKind.i64.wrap (ln+k.n1)=ln+k.n1:=by rw[IntKind.wrap_i64];omega
    have NEW:Hid (strikes ks Wn us (us.take (n+1))=(ls.set tn (ln+k.n1),es++[⟨2,u.id,x.id⟩])):=by
     unfold Hid;rw[NXH.out];unfold stk;rw[<-TQ.out,if_neg (by omega),bF,vK UK.out.2.2.1,hls,hes,hx,dD,hln];rfl
    rw[hls] at L3;rw[hes] at E3;have EL:Hid (es.length<=n):=by rw[<-hes];exact E1.2
    have htn:¬((tn:Nat):Int)= -1:=by omega
    have htb:(((tn:Nat):Int)== -1)=false:=by rw[beq_eq_false_iff_ne];exact htn
    have UT:Hid (fA w (xu.add (tn*8)) x/\(xu.add (tn*8)).block<w.heap.size):=⟨UC tn x hx,by rw[add_block];exact UL.1⟩;have htu:((tn:Nat):Int)<(us.length:Nat):=by omega
    have LNB:Hid (ls.length=us.length/\ls[tn]? =some ln):=⟨hll,hln⟩;clear hx NXH UPT lnb abp hn1 E1 hls hes hll hln TQ htn;go_upto_region 8 with fail
    have CB:Hid (∀V,Below w.heap.size w V->Bk V lb ls #[]->fA V ⟨bu,0,none⟩ u->(V.cell? ⟨lb,tn,none⟩=some (int i64 ln)/\V.cell? ⟨bu,2,none⟩=some (int i64 (kn:Nat))/\V.cell? ⟨(xk.add (kn*11)).block,(xk.add (kn*11)).off+2,none⟩=some (int i64 k.n1))):=λV hb hl hu=>⟨hl.cell LNB.2,by have:=hu.c2;rw[aO,UK.out.2.1] at this;exact this,(KK.1.below hb KK.2).c2⟩
    refine aV [(true,0),(true,1),(true,2),(true,3),(true,4),(true,5),(true,6),(true,7),(true,8),(true,9),(true,10),(true,11)] [(false,12)] (λV=>V.cell? ⟨lb,tn,none⟩=some (int i64 ln)/\V.cell? ⟨bu,2,none⟩=some (int i64 (kn:Nat))/\V.cell? ⟨(xk.add (kn*11)).block,(xk.add (kn*11)).off+2,none⟩=some (int i64 k.n1)) (by kernel_rfl) (by kernel_rfl) (by kernel_rfl) (by decide+kernel) (by decide+kernel) (CB _ B3.drew (L3.below (aB.drew)) (U3.below (aB.drew) U3.lt)) ?_;have D4:Hid (Below w3.heap.size w3 {w3 with drawn:=w3.drawn+1}):=aB.drew;generalize ({w3 with drawn:=w3.drawn+1}:World)=w4 at *;have B4:=aG B3 D4;have L4:=aj (L3.below D4);have E4:=aj (E3.below D4);have P4:=aj (P3.trans (Kp.of D4));have X4:=aj (X3.below D4 X3.lt);have U4:=aj (U3.below D4 U3.lt);clear B3 L3 E3 P3 X3 U3 D4;refine au rfl (slice (some ⟨lb,0,none⟩) us.length us.length) (by go_simp) (λV hV=>by go_simp) ?_;go_simp;refine au rfl (int i64 (tn:Nat)) (by go_simp) (λV hV=>by go_simp) ?_;go_simp;refine au rfl (.pointer (some ⟨lb,tn,none⟩)) (by go_simp) (λV hV=>by go_simp) ?_;go_simp;refine au rfl (int i64 ln) (by go_simp) (λV hV=>by obtain⟨d1,d2,d3⟩:=hV;go_simp) ?_;go_simp;refine au rfl (slice (some xk) ks.length qk) (by go_simp) (λV hV=>by go_simp) ?_;go_simp;refine au rfl (.pointer (some ⟨bu,2,none⟩)) (by go_simp) (λV hV=>by go_simp) ?_;go_simp;refine au rfl (int i64 (kn:Nat)) (by go_simp) (λV hV=>by obtain⟨d1,d2,d3⟩:=hV;go_simp) ?_;go_simp;refine au rfl (.pointer (some (xk.add (kn*11)))) (by go_simp) (λV hV=>by go_simp) ?_;go_simp;refine au rfl (.pointer (some ⟨(xk.add (kn*11)).block,(xk.add (kn*11)).off+2,none⟩)) (by go_simp) (λV hV=>by go_simp) ?_;go_simp;refine au rfl (int i64 k.n1) (by go_simp) (λV hV=>by obtain⟨d1,d2,d3⟩:=hV;go_simp) ?_;go_simp;refine au rfl (int i64 (ln+k.n1)) (by go_simp) (λV hV=>by go_simp) ?_;go_simp;refine au rfl (.pointer (some ⟨lb,tn,none⟩)) (by go_simp) (λV hV=>by go_simp) ?_;go_simp;unfold dw;have t4:=L4.thaw tn;have c4:=L4.cell LNB.2;have L5:Hid (Bk (w4.setCell ⟨lb,tn,none⟩ (int i64 (ln+k.n1))) lb (ls.set tn (ln+k.n1)) #[]):=L4.set tn _ (by rw[LNB.out.1];omega);have K5:Hid (Kp lb w4 (w4.setCell ⟨lb,tn,none⟩ (int i64 (ln+k.n1)))):=Kp.set _ _ _;refine iH rfl (w4.setCell ⟨lb,tn,none⟩ (int i64 (ln+k.n1))) (by go_simp) (by go_simp) trivial ?_;go_simp;clear t4 c4;generalize (w4.setCell _ _)=w5 at *;have B5:=aj (K5.below B4 B4.size (by have:=Nb.out.1;omega));have E5:=aj (E4.kp9 K5 (by have:=Nb.out.2;omega));have P5:=aj (P4.trans K5);have X5:=aj (X4.kp9 K5 (by have:=Nb.out.1;omega));have U5:=aj (U4.kp9 K5 (by have:=Nb.out.2;have:=BUL.out;show bu≠lb;omega));unfold bC;clear B4 L4 E4 P4 X4 U4 K5 CB;go_upto_region 9 with fail
    have CB:Hid (∀V,Below w.heap.size w V->Bw V w.heap.size X g1 g2 g3 (slice (some xu) us.length cap) g5->fA V ⟨bu,0,none⟩ u->(V.cell? ⟨bu,0,none⟩=some (int i64 u.id)/\V.cell? ⟨w.heap.size,7,none⟩=some (slice (some xu) us.length cap)/\V.cell? (xu.add (tn*8))=some (int i64 x.id))):=λV hb hx hu=>⟨hu.c0,hx.c7,(UT.1.below hb UT.2).c0⟩
    refine aV [(true,0),(true,1),(true,2),(true,3),(true,4),(true,5),(true,6),(true,7),(true,8),(true,9),(false,10),(false,11)] [(false,12)] (λV=>V.cell? ⟨bu,0,none⟩=some (int i64 u.id)/\V.cell? ⟨w.heap.size,7,none⟩=some (slice (some xu) us.length cap)/\V.cell? (xu.add (tn*8))=some (int i64 x.id)) (by kernel_rfl) (by kernel_rfl) (by kernel_rfl) (by decide+kernel) (by decide+kernel) (CB _ B5.drew (X5.below (aB.drew) X5.lt) (U5.below (aB.drew) U5.lt)) ?_;have D6:Hid (Below w5.heap.size w5 {w5 with drawn:=w5.drawn+1}):=aB.drew;generalize ({w5 with drawn:=w5.drawn+1}:World)=w6 at *;have B6:=aG B5 D6;have L6:=aj (L5.below D6);have E6:=aj (E5.below D6);have P6:=aj (P5.trans (Kp.of D6));have X6:=aj (X5.below D6 X5.lt);have U6:=aj (U5.below D6 U5.lt);clear B5 L5 E5 P5 X5 U5 D6;refine au rfl (ev) (by go_simp) (λV hV=>by go_simp) ?_;go_simp;refine au rfl (.pointer (some ⟨bu,0,none⟩)) (by go_simp) (λV hV=>by go_simp) ?_;go_simp;refine au rfl (int i64 u.id) (by go_simp) (λV hV=>by obtain⟨d1,d2,d3⟩:=hV;go_simp) ?_;go_simp;refine au rfl (.pointer (some ⟨w.heap.size,7,none⟩)) (by go_simp) (λV hV=>by go_simp) ?_;go_simp;refine au rfl (slice (some xu) us.length cap) (by go_simp) (λV hV=>by obtain⟨d1,d2,d3⟩:=hV;go_simp) ?_;go_simp;refine au rfl (int i64 (tn:Nat)) (by go_simp) (λV hV=>by go_simp) ?_;go_simp;refine au rfl (.pointer (some (xu.add (tn*8)))) (by go_simp) (λV hV=>by go_simp) ?_;go_simp;refine au rfl (.pointer (some (xu.add (tn*8)))) (by go_simp) (λV hV=>by go_simp) ?_;go_simp;refine au rfl (int i64 x.id) (by go_simp) (λV hV=>by obtain⟨d1,d2,d3⟩:=hV;go_simp) ?_;go_simp;refine au rfl (.agg #[int i64 2,int i64 u.id,int i64 x.id]) (by go_simp) (λV hV=>by go_simp) ?_;go_simp;have BA:Hid (Below _ w6 (w6.alloc (Obj.cells #[int i64 2,int i64 u.id,int i64 x.id] 169))):=aA;have EC:Hid (uP (w6.alloc (Obj.cells #[.int _ 2,.int _ u.id,.int _ x.id] _)) _ _):=uP.mk' ⟨2,u.id,x.id⟩ rfl;refine fF rfl (slice (some ⟨w6.heap.size,0,none⟩) 1 1) (w6.alloc (Obj.cells #[int i64 2,int i64 u.id,int i64 x.id] 169)) (by go_simp) (by go_simp) (CB _ (B6.trans (BA.mono B6.size)) (X6.below BA X6.lt) (U6.below BA U6.lt)) ?_;go_simp;generalize (w6.alloc _)=w7 at *;have B7:=aG B6 BA;have L7:=aj (L6.below BA);have E7:=aj (E6.below BA);have P7:=aj (P6.trans (Kp.of BA));have X7:=aj (X6.below BA X6.lt);have U7:=aj (U6.below BA U6.lt);clear B6 L6 E6 P6 X6 U6 BA;obtain⟨gg,gc,w8,hr,ho8,hg8,-,-⟩:=Rt w7 58 w1.heap.size ev es E7.out _ _ EC.out (by have:=EL.out;omega) P7.size;have GB:Hid (∀b,ev.ownBlock=some b->w1.heap.size<=b):=λb hb=>(E7.block b hb).1
    have BG:=aj (aB.grown hg8 P7.size (λb hb=>GB b hb));have B8:=aj (B7.trans (BG.mono (by have:=Nb.out;omega)));have L8:=aj (L7.low BG (by have:=Nb.out.2;omega));have P8:=aj (JG P7 hg8 (λb hb=>GB b hb));have X8:=aj (X7.below BG (by have:=Nb.out;omega));have O8:=aj (ho8);have U8:=aj (U7.gb hg8 (λe=>Nat.lt_irrefl _ (VB bu e)));refine fF rfl _ w8 (by go_simp) (jO _ _ _ _ rfl _ _ (by go_simp) (by go_simp) hr) (CB _ B8 X8 U8) ?_;clear hr ho8 hg8 B7 L7 E7 P7 X7 U7 BG GB EC;go_simp;unfold dw;refine aW rfl (slice (some ⟨gg,0,none⟩) (es.length+1) gc) w8 (by go_simp) (by go_simp) trivial ?_;go_simp;unfold bC;go_wp2;go_round
    case rel=>exact⟨n+1,_,by go_num,rfl,by omega,by rw[NEW.out];exact L8,by rw[NEW.out];exact O8,by rw[NEW.out];have:=EL.out;simp;omega,P8⟩
    case measure=>simp[intOf];omega
theorem Ib(vk:Value)(t n W H:Int)(g1 g2 g3 g5:Value)(a:Option Addr)(c:Nat)(w:World):
  Calls prog 110 #[vk,.agg #[int i64 t,int i64 n,int i64 W,int i64 H,g1,g2,g3,slice a 0 c,g5]] w λe w'=>e=.returned (slice none 0 0)/\Below w.heap.size w w':=by
 go_enter func110,ntmps110;go_upto_region 2 with fail
 have B0:Hid (Below _ w (w.alloc (Obj.cells #[int i64 t,int i64 n,int i64 W,int i64 H,g1,g2,g3,slice a 0 c,g5] 29))):=aA;have x7:(w.alloc (Obj.cells #[int i64 t,int i64 n,int i64 W,int i64 H,g1,g2,g3,slice a 0 c,g5] 29)).cell? ⟨w.heap.size,7,none⟩=some (slice a 0 c):=by simp
 have xl:w.heap.size<(w.alloc (Obj.cells #[int i64 t,int i64 n,int i64 W,int i64 H,g1,g2,g3,slice a 0 c,g5] 29)).heap.size:=by simp
 generalize (w.alloc _)=w0 at *;obtain⟨w1,abq,-,hb1,-⟩:=Rq 0 w0 (by omega);have hmk:(Instr.makeSlice 23 (.int _ 0) (.int _ 0)).run _ w0=.ok _ w1:=abq;clear abq;go_upto_region 3 with fail
 have y7:w1.cell? ⟨w.heap.size,7,none⟩=some (slice a 0 c):=by rw[hb1.cell (p:=⟨w.heap.size,7,none⟩) xl];exact x7
 have B1:=aG B0 hb1;clear hmk x7 xl hb1 B0;go_wp2;refine wp_loop_rounds 1 ?_;rw[rounds_succ];go_wp2;refine wp_loop_rounds 1 ?_;rw[rounds_succ];go_wp2;go_ret;exact⟨rfl,B1⟩
end
end Go.Proofs.YtolfphmdmpehdaaGreatDoor
