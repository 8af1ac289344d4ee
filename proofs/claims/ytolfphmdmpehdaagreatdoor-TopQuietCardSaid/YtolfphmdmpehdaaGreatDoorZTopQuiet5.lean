/- move.home: the cell of the nearest unit of its player that trains. And more. -/
import Derived.Test.YtolfphmdmpehdaaGreatDoorZTopQuiet4
set_option linter.unusedVariables false
set_option maxHeartbeats 16000000
set_option maxRecDepth 100000
open Go.Value (int slice)
open Go.IntKind (i64)
namespace Go.Proofs.YtolfphmdmpehdaaGreatDoor
open Go.RowKit
structure Hm(w V:World)(vk:Value)(X:WV)(u1 u2 u3 u4 u5:Value)(u:aC):Prop where
 b:Below w.heap.size w V
 k:V.cell? ⟨w.heap.size,0,none⟩=some vk
 x:Bw V (w.heap.size+1) X u1 u2 u3 u4 u5
 u:dB V ⟨w.heap.size+2,0,none⟩ u
theorem Hm.below{w V V':World}{vk:Value}{X:WV}{u1 u2 u3 u4 u5:Value}{u:aC}{n:Nat}(h:Hm w V vk X u1 u2 u3 u4 u5 u)(hb:Below n V V')(hn:w.heap.size+3<=n):Hm w V' vk X u1 u2 u3 u4 u5 u:=
 ⟨h.b.trans (hb.mono (by omega)),by rw[hb.cell (p:=⟨w.heap.size,0,none⟩) (show w.heap.size<n by omega)];exact h.k,h.x.below hb (by omega),h.u.below hb (show w.heap.size+2<n by omega)⟩
theorem Hm.sz{w V:World}{vk:Value}{X:WV}{u1 u2 u3 u4 u5:Value}{u:aC}(h:Hm w V vk X u1 u2 u3 u4 u5 u):w.heap.size+3<=V.heap.size:=h.u.lt
theorem OY{w w':World}{b n c z:Nat}{xs:List Int}(h:Ro w (slice (some ⟨b,0,none⟩) n c) xs)(k:Kp z w w')(hn:b≠z):Ro w' (slice (some ⟨b,0,none⟩) n c) xs:=by
 obtain⟨a,c',he,h1,h2,h3⟩:=h;injection he with e1 e2 e3
 subst e1;refine⟨_,_,by rw[e2,e3],h1,h2,λhx=>?_⟩;obtain⟨x,hx1,hx2,hx3⟩:=h3 hx;injection hx1 with hx1
 subst hx1;refine⟨_,rfl,Nat.lt_of_lt_of_le hx2 k.size,λi y hi=>?_⟩;have:=hx3 i y hi;rw[Addr.add_lit] at this ⊢;have hc:=World.cell?_of_block (a:=⟨b,0+i,none⟩) (k.block b hx2 hn);rw[hc];exact this
def homes(ks:List KV)(us:List aC)(l:List Int)(pl:Int):List aC:=us.filter (λh=> !jm ks l pl h)
def jo(ks:List KV)(us:List aC)(l:List Int)(u:aC):Int:=
 match homes ks us l u.aA with
 |[]=>u.at_
 |x0::tl=>(ig (λh=>l.getD h.at_.toNat 0) x0 tl).at_
def Fit(ks:List KV)(n:Nat)(h:aC):Prop:=(0<=h.kind/\h.kind<(ks.length:Int))/\(0<=h.at_/\h.at_<(n:Int))
theorem II{nb:Nat->List Int}{st:Nat->Nat->Int}{t n:Nat}{l:List Int}(h:Wy.bD nb st t n l/\Wy.Flat l)(hn:n<=144):∀x∈l,-1<=x/\x<=1000000:=by
 intro x hx;obtain⟨i,hi⟩:=List.mem_iff_getElem?.1 hx;have h1:=(h.1.2 i x hi).ge;have h2:=Aa h.2 h.1.1 hn i;rw[List.getD_eq_getElem?_getD,hi] at h2;simp at h2;exact⟨h1,by omega⟩
theorem IJ(m:aC)(W:World):(Instr.field 74 (.agg #[int i64 m.id,int i64 m.aA,int i64 m.kind,int i64 m.at_,int i64 m.life,int i64 m.load,int i64 m.task,int i64 m.goal]) 3).run Tryz.prog W=.ok (int i64 m.at_) W:=by kernel_rfl
theorem IK(vk vw:Value)(ks:List KV)(X:WV)(u:aC)(Wn Hn:Nat)(k:KV)(w:World)(hk:Kl w vk ks)(hw:Wl w vw X)(hs:Sd w)(G:Fd.Good Wn Hn X.gs X.os)(e1:X.wide=(Wn:Nat))(e2:X.high=(Hn:Nat))(hl:X.us.length<=1000000)
  (hu:Fit ks (Wn*Hn) u) (hk':ks[u.kind.toNat]? =some k) (hus:∀h∈X.us,Fit ks (Wn*Hn) h):
  Calls Tryz.prog 236 #[vk,vw,u.val] w λe w'=>∃l,e=.returned (int i64 (jo ks X.us l u))/\(Wy.bD (Fd.near Wn Hn) (λi _=>(X.gs.map λg=>Fd.onto g k.f).getD i 0) u.at_.toNat (Wn*Hn) l/\Wy.Flat l)/\Below w.heap.size w w':=by
 obtain⟨kn,hkn⟩:∃n:Nat,u.kind=n:=⟨u.kind.toNat,by have:=hu.1;omega⟩;obtain⟨an,han⟩:∃n:Nat,u.at_=n:=⟨u.at_.toNat,by have:=hu.2;omega⟩;have hkl:kn<ks.length:=by have:=hu.1;omega
 have hkk:ks[kn]? =some k:=by rw[hkn,Int.toNat_natCast] at hk';exact hk'
 have ea:u.at_.toNat=an:=by rw[han];rfl
 rw[ea];obtain⟨ss,hss⟩:∃ss,(X.gs.map λg=>Fd.onto g k.f)=ss:=⟨_,rfl⟩;have Fb:Hid ((X.gs.map λg=>Fd.onto g k.f)=ss):=hss;rw[hss];clear hss;have H:Hid (Wl w vw X):=hw;have S:Hid (Sd w):=hs;have GD:Hid (Fd.Good Wn Hn X.gs X.os/\X.wide=(Wn:Nat)/\X.high=(Hn:Nat)/\an<Wn*Hn/\X.us.length<=1000000/\∀h∈X.us,Fit ks (Wn*Hn) h):=⟨G,e1,e2,by have:=hu.2;omega,hl,hus⟩;have KL0:Hid (Kl w vk ks):=hk;obtain⟨p1,q1,p2,q2,p3,q3,p4,q4,p5,q5,rfl⟩:=aV hw;obtain⟨pk,qk,rfl,ck1,ck2,kc⟩:=hk;obtain⟨xk,rfl,hxl,hxc⟩:=kc (by intro h;subst h;simp at hkl);have KK:Hid (Kc w (xk.add (kn*11)) k/\(xk.add (kn*11)).block<w.heap.size):=⟨hxc kn k hkk,by rw[add_block];exact hxl⟩;have HE:Hid (u.kind=(kn:Nat)/\u.at_=(an:Nat)):=⟨hkn,han⟩;clear hw hs G e1 e2 hl hu hk' hus hkn han ea kc hxc hxl hkk;unfold aC.val;go_enter Tryz.func236,Tryz.ntmps236;go_upto_region 1 with fail
 have M0:Hid (Hm w (((w.alloc (Obj.cells #[slice (some xk) ks.length qk] 22)).alloc (Obj.cells #[int i64 X.turn,int i64 X.next,int i64 X.wide,int i64 X.high,slice p1 X.gs.length q1,slice p2 X.os.length q2,slice p3 X.gold.length q3,slice p4 X.us.length q4,slice p5 X.qs.length q5] 29)).alloc (Obj.cells #[int i64 u.id,int i64 u.aA,int i64 u.kind,int i64 u.at_,int i64 u.life,int i64 u.load,int i64 u.task,int i64 u.goal] 74)) (slice (some xk) ks.length qk) X (slice p1 X.gs.length q1) (slice p2 X.os.length q2) (slice p3 X.gold.length q3) (slice p4 X.us.length q4) (slice p5 X.qs.length q5) u):=by
  refine⟨(((Below.refl _ _).alloc (Nat.le_refl _) _).alloc (by simp) _).alloc (by simp;omega) _,?_,?_,dB.mk' u (by simp)⟩
  ·have h1:(w.alloc (Obj.cells #[slice (some xk) ks.length qk] 22)).cell? ⟨w.heap.size,0,none⟩=some (slice (some xk) ks.length qk):=dh rfl rfl
   exact Lib.cell?_alloc_some _ (Lib.cell?_alloc_some _ h1)
  ·exact(Bw.mk' X _ _ _ _ _ (by simp)).below ((Below.refl _ _).alloc (Nat.le_refl _) _) (by simp)
 generalize (((w.alloc (Obj.cells #[slice (some xk) ks.length qk] 22)).alloc (Obj.cells #[int i64 X.turn,int i64 X.next,int i64 X.wide,int i64 X.high,slice p1 X.gs.length q1,slice p2 X.os.length q2,slice p3 X.gold.length q3,slice p4 X.us.length q4,slice p5 X.qs.length q5] 29)).alloc (Obj.cells #[int i64 u.id,int i64 u.aA,int i64 u.kind,int i64 u.at_,int i64 u.life,int i64 u.load,int i64 u.task,int i64 u.goal] 74))=w0 at *;have CB:Hid (∀V,Hm w V (slice (some xk) ks.length qk) X (slice p1 X.gs.length q1) (slice p2 X.os.length q2) (slice p3 X.gold.length q3) (slice p4 X.us.length q4) (slice p5 X.qs.length q5) u->Hm w V (slice (some xk) ks.length qk) X (slice p1 X.gs.length q1) (slice p2 X.os.length q2) (slice p3 X.gold.length q3) (slice p4 X.us.length q4) (slice p5 X.qs.length q5) u/\V.cell? ⟨w.heap.size+2,3,none⟩=some (int i64 (an:Nat))/\V.cell? ⟨w.heap.size+2,2,none⟩=some (int i64 (kn:Nat))/\V.cell? ⟨(xk.add (kn*11)).block,(xk.add (kn*11)).off+9,none⟩=some (.bool k.f)):=λV h=>⟨h,by have:=h.u.c3;rw[HE.out.2] at this;exact this,by have:=h.u.c2;rw[HE.out.1] at this;exact this,(KK.out.1.below h.b KK.out.2).c9⟩
 go_cut [7,8] (λv7 v8 V=>v8=.nilIface/\∃bf b l,v7=.pointer (some ⟨bf,0,none⟩)/\V.cell? ⟨bf,0,none⟩=some (slice (some ⟨b,0,none⟩) (Wn*Hn) (Wn*Hn))/\Ro V (slice (some ⟨b,0,none⟩) (Wn*Hn) (Wn*Hn)) l/\(Wy.bD (Fd.near Wn Hn) (λi _=>ss.getD i 0) an (Wn*Hn) l/\Wy.Flat l)/\Hm w V (slice (some xk) ks.length qk) X (slice p1 X.gs.length q1) (slice p2 X.os.length q2) (slice p3 X.gold.length q3) (slice p4 X.us.length q4) (slice p5 X.qs.length q5) u)
 case first=>
  refine nJ 14 [(true,0),(true,1),(true,2),(true,3),(true,4),(true,5),(true,6),(true,7),(true,8),(true,9),(false,10),(true,11),(true,12),(true,13)] [(false,15)] [(false,16)] (λV=>Hm w V (slice (some xk) ks.length qk) X (slice p1 X.gs.length q1) (slice p2 X.os.length q2) (slice p3 X.gold.length q3) (slice p4 X.us.length q4) (slice p5 X.qs.length q5) u/\V.cell? ⟨w.heap.size+2,3,none⟩=some (int i64 (an:Nat))/\V.cell? ⟨w.heap.size+2,2,none⟩=some (int i64 (kn:Nat))/\V.cell? ⟨(xk.add (kn*11)).block,(xk.add (kn*11)).off+9,none⟩=some (.bool k.f)) (by kernel_rfl) (by kernel_rfl) (by kernel_rfl) (by decide+kernel) (by decide+kernel) (CB.out _ (M0.out.below ((Below.refl _ _).drew) M0.out.sz)) ?_;have M1:Hid (Hm w {w0 with drawn:=w0.drawn+1} (slice (some xk) ks.length qk) X (slice p1 X.gs.length q1) (slice p2 X.os.length q2) (slice p3 X.gold.length q3) (slice p4 X.us.length q4) (slice p5 X.qs.length q5) u):=M0.out.below ((Below.refl _ _).drew) M0.out.sz;generalize ({w0 with drawn:=w0.drawn+1}:World)=w1 at *;clear M0;refine bZ rfl (.pointer (some ⟨w.heap.size+1,2,none⟩)) (by go_simp) (λV hV=>by go_simp) ?_;go_simp;refine bZ rfl (.agg #[int i64 X.wide,int i64 X.high,slice p1 X.gs.length q1,slice p2 X.os.length q2]) (by go_simp) (λV hV=>by obtain⟨⟨-,hk0,⟨x0,x1,x2,x3,x4,x5,x6,x7,x8⟩,-⟩,ca,K_,La⟩:=hV;go_simp) ?_;go_simp;refine bZ rfl (.pointer (some ⟨w.heap.size+2,3,none⟩)) (by go_simp) (λV hV=>by go_simp) ?_;go_simp;refine bZ rfl (int i64 (an:Nat)) (by go_simp) (λV hV=>by obtain⟨⟨-,hk0,⟨x0,x1,x2,x3,x4,x5,x6,x7,x8⟩,-⟩,ca,K_,La⟩:=hV;go_simp) ?_;go_simp;refine bZ rfl (slice (some xk) ks.length qk) (by go_simp) (λV hV=>by obtain⟨⟨-,hk0,⟨x0,x1,x2,x3,x4,x5,x6,x7,x8⟩,-⟩,ca,K_,La⟩:=hV;go_simp) ?_;go_simp;refine bZ rfl (.pointer (some ⟨w.heap.size+2,2,none⟩)) (by go_simp) (λV hV=>by go_simp) ?_;go_simp;refine bZ rfl (int i64 (kn:Nat)) (by go_simp) (λV hV=>by obtain⟨⟨-,hk0,⟨x0,x1,x2,x3,x4,x5,x6,x7,x8⟩,-⟩,ca,K_,La⟩:=hV;go_simp) ?_;go_simp;refine bZ rfl (.pointer (some (xk.add (kn*11)))) (by go_simp) (λV hV=>by go_simp) ?_;go_simp;refine bZ rfl (.pointer (some ⟨(xk.add (kn*11)).block,(xk.add (kn*11)).off+9,none⟩)) (by go_simp) (λV hV=>by go_simp) ?_;go_simp;refine bZ rfl (.bool k.f) (by go_simp) (λV hV=>by obtain⟨⟨-,hk0,⟨x0,x1,x2,x3,x4,x5,x6,x7,x8⟩,-⟩,ca,K_,La⟩:=hV;go_simp) ?_;go_simp;refine xR rfl 260 #[.agg #[int i64 X.wide,int i64 X.high,slice p1 X.gs.length q1,slice p2 X.os.length q2],int i64 (an:Nat),.bool k.f] (by go_simp) (by go_simp) ?_ rfl (.pointer (some ⟨w1.heap.size,0,none⟩)) (w1.alloc (Obj.cells #[slice none 0 0] 23)) (by go_simp) (by go_simp) (CB.out _ (M1.out.below ((Below.refl _ _).alloc (Nat.le_refl _) _) M1.out.sz)) ?_
  ·have FL:Hid (Fl w1 (.agg #[int i64 X.wide,int i64 X.high,slice p1 X.gs.length q1,slice p2 X.os.length q2]) (Wn:Nat) (Hn:Nat) X.gs X.os):=by
    have:=oJ (H.out.below M1.out.b);rw[GD.out.2.1,GD.out.2.2.1] at this;rw[GD.out.2.1,GD.out.2.2.1];exact this
   refine(Ak _ Wn Hn X.gs X.os an k.f w1 FL.out (S.out.below M1.out.b) GD.out.1 GD.out.2.2.2.1).mono ?_;rintro e w2 ⟨b,l,rfl,hb0,hro,hf,hb⟩;rw[Fb.out] at hf;have M2:Hid (Hm w w2 (slice (some xk) ks.length qk) X (slice p1 X.gs.length q1) (slice p2 X.os.length q2) (slice p3 X.gold.length q3) (slice p4 X.us.length q4) (slice p5 X.qs.length q5) u):=M1.out.below hb M1.out.sz;have R2:Hid (Ro w2 (slice (some ⟨b,0,none⟩) (Wn*Hn) (Wn*Hn)) l):=hro;have FF:Hid (Wy.bD (Fd.near Wn Hn) (λi _=>ss.getD i 0) an (Wn*Hn) l/\Wy.Flat l):=hf;have BL:Hid (b<w2.heap.size):=by
    obtain⟨a9,c9,he9,-,-,h9⟩:=hro;injection he9 with he9
    obtain⟨x9,hx9,hx8,-⟩:=h9 (by intro h;have h8:=hf.1.1;rw[h] at h8;have:=GD.out.2.2.2.1;simp at h8;omega);rw[<-he9] at hx9;injection hx9 with hx9
    rw[<-hx9] at hx8;exact hx8
   refine⟨_,rfl,CB.out _ M2.out,?_⟩;clear hb hb0 hro hf M1 FL;go_simp;refine bZ rfl (.tuple #[slice (some ⟨b,0,none⟩) (Wn*Hn) (Wn*Hn),.nilIface]) (by go_simp) (λV hV=>by go_simp) ?_;go_simp;refine bZ rfl (slice (some ⟨b,0,none⟩) (Wn*Hn) (Wn*Hn)) (by go_simp) (λV hV=>by go_simp) ?_;go_simp;refine bZ rfl .nilIface (by go_simp) (λV hV=>by go_simp) ?_;go_simp;have BQ:Hid (Below w2.heap.size w2 (w2.alloc (Obj.cells #[slice none 0 0] 23))):=(Below.refl _ _).alloc (Nat.le_refl _) _;obtain⟨bf,hbf⟩:∃z,w2.heap.size=z:=⟨_,rfl⟩;have bc0:(w2.alloc (Obj.cells #[slice none 0 0] 23)).cell? ⟨bf,0,none⟩=some (slice none 0 0):=dh hbf rfl;have bb0:(w2.alloc (Obj.cells #[slice none 0 0] 23)).heap[bf]? =some (.cells #[slice none 0 0] 23 (0,0)):=by subst hbf;exact heap_alloc_new _ _
   refine xU rfl (.pointer (some ⟨w2.heap.size,0,none⟩)) (w2.alloc (Obj.cells #[slice none 0 0] 23)) (by go_simp) (by go_simp) (CB.out _ (M2.out.below BQ.out M2.out.sz)) ?_;rw[hbf];go_simp;generalize (w2.alloc (Obj.cells #[slice none 0 0] 23))=w6 at *;have M6:Hid (Hm w w6 (slice (some xk) ks.length qk) X (slice p1 X.gs.length q1) (slice p2 X.os.length q2) (slice p3 X.gold.length q3) (slice p4 X.us.length q4) (slice p5 X.qs.length q5) u):=M2.out.below BQ.out M2.out.sz;have R6:Hid (Ro w6 (slice (some ⟨b,0,none⟩) (Wn*Hn) (Wn*Hn)) l):=R2.out.below BQ.out;have NB:Hid (w.heap.size+3<=bf/\b≠bf):=⟨by rw[<-hbf];exact M2.out.sz,by have:=BL.out;omega⟩;have bb:w6.heap[bf]? =some (.cells #[slice none 0 0] 23 (0,0)):=bb0;have bc:w6.cell? ⟨bf,0,none⟩=some (slice none 0 0):=by simp[World.cell?,bb]
   have bz:w6.frozen? ⟨bf,0,none⟩=false:=by simp[World.frozen?,bb]
   clear M2 R2 BQ hbf bc0 bb0 BL;have KS:Hid (Kp bf w6 (w6.setCell ⟨bf,0,none⟩ (slice (some ⟨b,0,none⟩) (Wn*Hn) (Wn*Hn)))):=Kp.set _ _ _;have MS:Hid (Hm w (w6.setCell ⟨bf,0,none⟩ (slice (some ⟨b,0,none⟩) (Wn*Hn) (Wn*Hn))) (slice (some xk) ks.length qk) X (slice p1 X.gs.length q1) (slice p2 X.os.length q2) (slice p3 X.gold.length q3) (slice p4 X.us.length q4) (slice p5 X.qs.length q5) u):=M6.out.below (n:=w.heap.size+3) (KS.out.below (Below.refl _ _) M6.out.sz NB.out.1) (Nat.le_refl _);have RS:Hid (Ro (w6.setCell ⟨bf,0,none⟩ (slice (some ⟨b,0,none⟩) (Wn*Hn) (Wn*Hn))) (slice (some ⟨b,0,none⟩) (Wn*Hn) (Wn*Hn)) l):=OY R6.out KS.out NB.out.2;have CS:Hid ((w6.setCell ⟨bf,0,none⟩ (slice (some ⟨b,0,none⟩) (Wn*Hn) (Wn*Hn))).cell? ⟨bf,0,none⟩=some (slice (some ⟨b,0,none⟩) (Wn*Hn) (Wn*Hn))):=by
    have h9:=heap_setCell_same _ bf 0 _ _ (slice (some ⟨b,0,none⟩) (Wn*Hn) (Wn*Hn)) bb;unfold Hid;simp[World.cell?,h9]
   clear KS bb;refine pF rfl (w6.setCell ⟨bf,0,none⟩ (slice (some ⟨b,0,none⟩) (Wn*Hn) (Wn*Hn))) (by go_simp) (by go_simp) (CB.out _ MS.out) ?_;go_simp;generalize (w6.setCell ⟨bf,0,none⟩ (slice (some ⟨b,0,none⟩) (Wn*Hn) (Wn*Hn)))=w9 at *;unfold aW;refine aN rfl .nilIface w9 (by go_simp) (by go_simp) trivial ?_;go_simp;unfold aP;go_wp2_with fail
   go_meet
   case rel=>exact⟨rfl,bf,b,l,rfl,CS.out,RS.out,FF.out,MS.out⟩
  ·have BQ:Hid (Below w1.heap.size w1 (w1.alloc (Obj.cells #[slice none 0 0] 23))):=(Below.refl _ _).alloc (Nat.le_refl _) _
   obtain⟨bf,hbf⟩:∃z,w1.heap.size=z:=⟨_,rfl⟩;have bc0:(w1.alloc (Obj.cells #[slice none 0 0] 23)).cell? ⟨bf,0,none⟩=some (slice none 0 0):=dh hbf rfl;have bz0:(w1.alloc (Obj.cells #[slice none 0 0] 23)).heap[bf]? =some (.cells #[slice none 0 0] 23 (0,0)):=by subst hbf;exact heap_alloc_new _ _
   rw[hbf];go_simp;generalize (w1.alloc (Obj.cells #[slice none 0 0] 23))=w2 at *;have M2:Hid (Hm w w2 (slice (some xk) ks.length qk) X (slice p1 X.gs.length q1) (slice p2 X.os.length q2) (slice p3 X.gold.length q3) (slice p4 X.us.length q4) (slice p5 X.qs.length q5) u):=M1.out.below BQ.out M1.out.sz;have BF:Hid (w.heap.size+3<=bf/\bf<w2.heap.size/\w2.heap[bf]? =some (.cells #[slice none 0 0] 23 (0,0))):=⟨by rw[<-hbf];exact M1.out.sz,lt_of_block bz0,bz0⟩;clear M1 BQ hbf bc0 bz0;refine bF rfl 260 #[.agg #[int i64 X.wide,int i64 X.high,slice p1 X.gs.length q1,slice p2 X.os.length q2],int i64 (an:Nat),.bool k.f] (by go_simp) (by go_simp) ?_;have FL:Hid (Fl w2 (.agg #[int i64 X.wide,int i64 X.high,slice p1 X.gs.length q1,slice p2 X.os.length q2]) (Wn:Nat) (Hn:Nat) X.gs X.os):=by
    have:=oJ (H.out.below M2.out.b);rw[GD.out.2.1,GD.out.2.2.1] at this;rw[GD.out.2.1,GD.out.2.2.1];exact this
   refine(Ak _ Wn Hn X.gs X.os an k.f w2 FL.out (S.out.below M2.out.b) GD.out.1 GD.out.2.2.2.1).mono ?_;rintro e w6 ⟨b,l,rfl,hb0,hro,hf,hb⟩;rw[Fb.out] at hf;have M6:Hid (Hm w w6 (slice (some xk) ks.length qk) X (slice p1 X.gs.length q1) (slice p2 X.os.length q2) (slice p3 X.gold.length q3) (slice p4 X.us.length q4) (slice p5 X.qs.length q5) u):=M2.out.below hb M2.out.sz;have R6:Hid (Ro w6 (slice (some ⟨b,0,none⟩) (Wn*Hn) (Wn*Hn)) l):=hro;have FF:Hid (Wy.bD (Fd.near Wn Hn) (λi _=>ss.getD i 0) an (Wn*Hn) l/\Wy.Flat l):=hf;have bb:w6.heap[bf]? =some (.cells #[slice none 0 0] 23 (0,0)):=by rw[hb.block bf BF.out.2.1];exact BF.out.2.2
   have bc:w6.cell? ⟨bf,0,none⟩=some (slice none 0 0):=by simp[World.cell?,bb]
   have bz:w6.frozen? ⟨bf,0,none⟩=false:=by simp[World.frozen?,bb]
   have NB:Hid (w.heap.size+3<=bf/\b≠bf):=⟨BF.out.1,by have:=BF.out.2.1;omega⟩;refine⟨_,rfl,CB.out _ M6.out,?_⟩;clear hb hb0 hro hf M2 FL BF;go_simp;refine ay rfl (.tuple #[slice (some ⟨b,0,none⟩) (Wn*Hn) (Wn*Hn),.nilIface]) (by go_simp) (λV hV=>by go_simp) ?_;go_simp;refine ay rfl (slice (some ⟨b,0,none⟩) (Wn*Hn) (Wn*Hn)) (by go_simp) (λV hV=>by go_simp) ?_;go_simp;refine ay rfl .nilIface (by go_simp) (λV hV=>by go_simp) ?_;go_simp;have KS:Hid (Kp bf w6 (w6.setCell ⟨bf,0,none⟩ (slice (some ⟨b,0,none⟩) (Wn*Hn) (Wn*Hn)))):=Kp.set _ _ _;have MS:Hid (Hm w (w6.setCell ⟨bf,0,none⟩ (slice (some ⟨b,0,none⟩) (Wn*Hn) (Wn*Hn))) (slice (some xk) ks.length qk) X (slice p1 X.gs.length q1) (slice p2 X.os.length q2) (slice p3 X.gold.length q3) (slice p4 X.us.length q4) (slice p5 X.qs.length q5) u):=M6.out.below (n:=w.heap.size+3) (KS.out.below (Below.refl _ _) M6.out.sz NB.out.1) (Nat.le_refl _);have RS:Hid (Ro (w6.setCell ⟨bf,0,none⟩ (slice (some ⟨b,0,none⟩) (Wn*Hn) (Wn*Hn))) (slice (some ⟨b,0,none⟩) (Wn*Hn) (Wn*Hn)) l):=OY R6.out KS.out NB.out.2;have CS:Hid ((w6.setCell ⟨bf,0,none⟩ (slice (some ⟨b,0,none⟩) (Wn*Hn) (Wn*Hn))).cell? ⟨bf,0,none⟩=some (slice (some ⟨b,0,none⟩) (Wn*Hn) (Wn*Hn))):=by
    have h9:=heap_setCell_same _ bf 0 _ _ (slice (some ⟨b,0,none⟩) (Wn*Hn) (Wn*Hn)) bb;unfold Hid;simp[World.cell?,h9]
   clear KS bb;refine pF rfl (w6.setCell ⟨bf,0,none⟩ (slice (some ⟨b,0,none⟩) (Wn*Hn) (Wn*Hn))) (by go_simp) (by go_simp) (CB.out _ MS.out) ?_;go_simp;generalize (w6.setCell ⟨bf,0,none⟩ (slice (some ⟨b,0,none⟩) (Wn*Hn) (Wn*Hn)))=w9 at *;unfold aW;refine aN rfl .nilIface w9 (by go_simp) (by go_simp) trivial ?_;go_simp;unfold aP;go_wp2_with fail
   go_meet
   case rel=>exact⟨rfl,bf,b,l,rfl,CS.out,RS.out,FF.out,MS.out⟩
 case rest=>
  obtain⟨rfl,bf,b,l,rfl,hcf,hro,Lj,hm⟩:=hcut;have M1:Hid (Hm w wc (slice (some xk) ks.length qk) X (slice p1 X.gs.length q1) (slice p2 X.os.length q2) (slice p3 X.gold.length q3) (slice p4 X.us.length q4) (slice p5 X.qs.length q5) u):=hm;have RF:=aj (eU hro hcf);have FF:Hid (Wy.bD (Fd.near Wn Hn) (λi _=>ss.getD i 0) an (Wn*Hn) l/\Wy.Flat l):=Lj;clear hcf hro Lj hm M0 CB;obtain⟨x0,x1,x2,x3,x4,x5,x6,x7,x8⟩:=M1.out.x;have US:Hid (jF w (slice p4 X.us.length q4) X.us):=H.out.slices.2.2.2.1;go_wp2_with fail
  refine(clone_any _ X.us wc (US.out.below M1.out.b) GD.out.2.2.2.2.1).mono ?_;rintro e w2 ⟨v,rfl,ho,hb⟩;have O2:Hid (dQ w2 wc.heap.size v X.us):=ho;have B2:Hid (Below wc.heap.size wc w2):=hb;have LL:Hid (l.length=Wn*Hn):=FF.out.1.1;have ZS:Hid (w.heap.size+3<=wc.heap.size/\bf<wc.heap.size):=⟨M1.out.sz,cell_lt RF.out.2⟩;have PR:Hid (∀W,Below wc.heap.size wc W->∀h∈X.us,Calls Tryz.prog 261 (#[h.val]++ #[.pointer (some ⟨w.heap.size+2,0,none⟩),.pointer (some ⟨w.heap.size,0,none⟩),.pointer (some ⟨bf,0,none⟩)]) W λe w'=>e=.returned (.bool (jm ks l u.aA h))/\Below W.heap.size W w'):=λW hW h hh=>by
   have fit:=GD.out.2.2.2.2.2 h hh;have z1:=ZS.out.1;refine IG ks l h u.aA (w.heap.size+2) w.heap.size bf _ _ W ?_ ?_ ?_ ((KL0.out.below M1.out.b).below hW) (RF.out.1.below hW) fit.1 (by rw[LL.out];exact fit.2)
   ·rw[hW.cell (p:=⟨w.heap.size+2,1,none⟩) (show w.heap.size+2<wc.heap.size by omega)]
    exact M1.out.u.c1
   ·rw[hW.cell (p:=⟨w.heap.size,0,none⟩) (show w.heap.size<wc.heap.size by omega)]
    exact M1.out.k
   ·rw[hW.cell (p:=⟨bf,0,none⟩) ZS.out.2]
    exact RF.out.2
  clear ho hb x0 x1 x2 x3 x4 x5 x6 x7 x8;go_wp2_with fail
  refine(del_any 261 (by intro args w;go_simp) v #[.pointer (some ⟨w.heap.size+2,0,none⟩),.pointer (some ⟨w.heap.size,0,none⟩),.pointer (some ⟨bf,0,none⟩)] X.us (jm ks l u.aA) w2 wc.heap.size O2.out B2.out.size GD.out.2.2.2.2.1 (λW hW h hh=>PR.out W (B2.out.trans hW) h hh)).mono ?_;rintro e w3 ⟨v3,rfl,ho,hb⟩;have B3:Hid (Below wc.heap.size wc w3):=B2.out.trans hb;have L3:Hid (jF w3 v3 (homes ks X.us l u.aA)):=ho.l;obtain⟨a3,c3,rfl⟩:=ho.len;obtain⟨hs,Ar⟩:∃hs,homes ks X.us l u.aA=hs:=⟨_,rfl⟩;have HS:Hid (homes ks X.us l u.aA=hs):=Ar;have e3:(X.us.filter (λk=> !jm ks l u.aA k)).length=hs.length:=by rw[<-Ar];rfl
  rw[Ar,e3] at L3;rw[e3];clear ho hb e3 Ar O2 B2;have UB:Hid (dB w3 ⟨w.heap.size+2,0,none⟩ u):=M1.out.u.below B3.out (show w.heap.size+2<wc.heap.size by have:=ZS.out.1;omega);have BW:Hid (Below w.heap.size w w3):=M1.out.b.trans (B3.out.mono (by have:=ZS.out.1;omega));cases hs with
  |nil=>
   have HA:Hid (jo ks X.us l u=u.at_):=by unfold Hid jo;rw[HS.out]
   obtain⟨q0',q1',q2',q3',q4',q5',q6',q7'⟩:=UB.out;simp only[List.length_nil];go_wp2;go_ret;exact⟨l,by rw[HA.out];rfl,FF.out,BW.out⟩
  |cons y0 tl=>
   have HA:Hid (jo ks X.us l u=(ig (λh=>l.getD h.at_.toNat 0) y0 tl).at_):=by unfold Hid jo;rw[HS.out]
   have HM:Hid (∀h∈y0::tl,h∈X.us):=λh hh=>by rw[<-HS.out] at hh;exact(List.mem_filter.1 hh).1
   have TL:Hid (tl.length<=1000000):=by
    have h1:(homes ks X.us l u.aA).length<=X.us.length:=List.length_filter_le _ _;rw[HS.out,List.length_cons] at h1;have h2:=GD.out.2.2.2.2.1;unfold Hid;omega
   have hne:(((y0::tl).length:Nat):Int)≠0:=by rw[List.length_cons];omega
   have hne':((((y0::tl).length:Nat):Int)==0)=false:=by rw[beq_eq_false_iff_ne];exact hne
   obtain⟨n,hn⟩:∃n,(y0::tl).length=n:=⟨_,rfl⟩;have HN:Hid ((y0::tl).length=n):=hn;rw[hn] at hne hne' ⊢;clear hn;have L4:Hid (jF w3 (slice a3 n c3) (y0::tl)):=by rw[<-HN.out];exact L3.out
   clear L3;go_wp2_with fail
   refine(Nb 262 (by intro args w;go_simp) _ #[.pointer (some ⟨bf,0,none⟩)] y0 tl (λh=>l.getD h.at_.toNat 0) w3 L4.out TL.out (λW hW a ha b hb=>?_)).mono ?_
   ·have fa:=(GD.out.2.2.2.2.2 a (HM.out a ha)).2
    have fb:=(GD.out.2.2.2.2.2 b (HM.out b hb)).2;refine Dc l a b bf _ W ?_ ((RF.out.1.below B3.out).below hW) (II FF.out GD.out.1.pos.2) (by rw[LL.out];exact fa) (by rw[LL.out];exact fb);rw[hW.cell (p:=⟨bf,0,none⟩) (Nat.lt_of_lt_of_le ZS.out.2 B3.out.size),B3.out.cell (p:=⟨bf,0,none⟩) ZS.out.2];exact RF.out.2
   ·rintro e w4 ⟨rfl,hb⟩
    have B4:Hid (Below w.heap.size w w4):=BW.out.trans (hb.mono BW.out.size);obtain⟨m,hm⟩:∃m,ig (λh=>l.getD h.at_.toNat 0) y0 tl=m:=⟨_,rfl⟩;rw[hm] at HA ⊢;clear hb hm;unfold aC.val;have hfa:=λW=>IJ m W
    go_wp2;go_ret;exact⟨l,by rw[HA.out];rfl,FF.out,B4.out⟩
structure Am(w V:World)(X:WV)(u1 u2 u3 u4 u5:Value)(u:aC):Prop where
 b:Below w.heap.size w V
 x:Bw V w.heap.size X u1 u2 u3 u4 u5
 u:dB V ⟨w.heap.size+1,0,none⟩ u
theorem Am.below{w V V':World}{X:WV}{u1 u2 u3 u4 u5:Value}{u:aC}(h:Am w V X u1 u2 u3 u4 u5 u)(hb:Below V.heap.size V V'):Am w V' X u1 u2 u3 u4 u5 u:=
 ⟨h.b.trans (hb.mono h.b.size),h.x.below hb h.x.lt,h.u.below hb h.u.lt⟩
theorem Am.new{w:World}(X:WV)(u1 u2 u3 u4 u5:Value)(u:aC):Am w ((w.alloc (Obj.cells #[int i64 X.turn,int i64 X.next,int i64 X.wide,int i64 X.high,u1,u2,u3,u4,u5] 29)).alloc (Obj.cells #[int i64 u.id,int i64 u.aA,int i64 u.kind,int i64 u.at_,int i64 u.life,int i64 u.load,int i64 u.task,int i64 u.goal] 74)) X u1 u2 u3 u4 u5 u:=
 ⟨((Below.refl _ _).alloc (Nat.le_refl _) _).alloc (by simp) _,(Bw.mk' X _ _ _ _ _ rfl).below ((Below.refl _ _).alloc (Nat.le_refl _) _) (by simp),dB.mk' u (by simp)⟩
def jP(os:List Int)(u:aC)(k:KV):Bool:=(u.load==k.n7)||(os.getD u.goal.toNat 0==0)
theorem xW(vk vw:Value)(ks:List KV)(X:WV)(u:aC)(k:KV)(w:World)(hk:Kl w vk ks)(hw:Wl w vw X)(h1:0<=u.kind/\u.kind<(ks.length:Int))(hk':ks[u.kind.toNat]? =some k)(h2:0<=u.goal/\u.goal<(X.os.length:Int)):
  Calls Tryz.prog 235 #[vk,vw,u.val] w λe w'=>e=.returned (.bool (jP X.os u k))/\Below w.heap.size w w':=by
 obtain⟨kn,hkn⟩:∃n:Nat,u.kind=n:=⟨u.kind.toNat,by omega⟩;obtain⟨gn,hgn⟩:∃n:Nat,u.goal=n:=⟨u.goal.toNat,by omega⟩;have hkl:kn<ks.length:=by omega
 have hgl:gn<X.os.length:=by omega
 have hkk:ks[kn]? =some k:=by rw[hkn,Int.toNat_natCast] at hk';exact hk'
 have DU:Hid (jP X.os u k=((u.load==k.n7)||(X.os[gn]==0))):=by unfold Hid jP;rw[hgn,Int.toNat_natCast,List.getD_eq_getElem?_getD,List.getElem?_eq_getElem hgl];rfl
 have H:=aj (hw);obtain⟨p1,q1,p2,q2,p3,q3,p4,q4,p5,q5,rfl⟩:=aV hw;obtain⟨pk,qk,rfl,ck1,ck2,kc⟩:=hk;obtain⟨xk,rfl,hxl,hxc⟩:=kc (by intro h;subst h;simp at hkl);have KK:Hid (Kc w (xk.add (kn*11)) k/\(xk.add (kn*11)).block<w.heap.size):=⟨hxc kn k hkk,by rw[add_block];exact hxl⟩;have HE:Hid (u.kind=(kn:Nat)/\u.goal=(gn:Nat)):=⟨hkn,hgn⟩;clear hw h1 hk' h2 hkn hgn kc hxc hxl hkk;unfold aC.val;go_enter Tryz.func235,Tryz.ntmps235;go_upto_region 1 with fail
 have A0:Hid (Am w _ X (slice p1 X.gs.length q1) (slice p2 X.os.length q2) (slice p3 X.gold.length q3) (slice p4 X.us.length q4) (slice p5 X.qs.length q5) u):=Am.new X _ _ _ _ _ u;generalize ((w.alloc _).alloc _)=w0 at *;obtain⟨x0,x1,x2,x3,x4,x5,x6,x7,x8⟩:=A0.out.x;obtain⟨y0,y1,y2,y3,y4,y5,y6,y7⟩:=A0.out.u;rw[HE.out.1] at y2;rw[HE.out.2] at y7;have c8:=(KK.out.1.below A0.out.b KK.out.2).c8;obtain⟨ao,co,he,-,-,hoc⟩:=(H.out.below A0.out.b).slices.2.1;obtain⟨xo,hxo,-,Ua⟩:=hoc (by intro h;rw[h] at hgl;simp at hgl);injection he with he1 he2 he3
 subst he1;subst hxo;have cg:=Ua gn _ (List.getElem?_eq_getElem hgl);clear hoc Ua he2 he3;have BB:=aj (A0.out.b);by_cases hd:u.load=k.n7
 ·have D1:Hid (jP X.os u k=true):=by unfold Hid;rw[DU.out,hd];simp
  rw[hd] at y5;go_quiet (fail);go_wp2;go_ret;exact⟨by rw[D1.out];rfl,⟨BB.out.os,BB.out.tape,BB.out.output,BB.out.size,BB.out.block⟩⟩
 ·have hd':(u.load==k.n7)=false:=by rw[beq_eq_false_iff_ne];exact hd
  by_cases hg:X.os[gn]=0
  ·have D1:Hid (jP X.os u k=true):=by unfold Hid;rw[DU.out,hg];simp
   rw[hg] at cg;go_quiet (fail);go_wp2;go_ret;exact⟨by rw[D1.out];rfl,⟨BB.out.os,BB.out.tape,BB.out.output,BB.out.size,BB.out.block⟩⟩
  ·have hg':(X.os[gn]==0)=false:=by rw[beq_eq_false_iff_ne];exact hg
   have D1:Hid (jP X.os u k=false):=by unfold Hid;rw[DU.out,hd',hg'];rfl
   go_quiet (fail);go_wp2;go_ret;exact⟨by rw[D1.out];first|rfl|simp[hg'],⟨BB.out.os,BB.out.tape,BB.out.output,BB.out.size,BB.out.block⟩⟩
def iL(ks:List KV)(X:WV)(Wn Hn:Nat)(u:aC)(k:KV)(c:Int):Prop:=
 (u.task=0/\c=u.at_)\/(u.task≠0/\¬(u.task=2/\jP X.os u k=true)/\c=u.goal)\/
  (u.task=2/\jP X.os u k=true/\∃l,(Wy.bD (Fd.near Wn Hn) (λi _=>(X.gs.map λg=>Fd.onto g k.f).getD i 0) u.at_.toNat (Wn*Hn) l/\Wy.Flat l)/\c=jo ks X.us l u)
theorem Nc(vk vw:Value)(ks:List KV)(X:WV)(u:aC)(Wn Hn:Nat)(k:KV)(w:World)(hk:Kl w vk ks)(hw:Wl w vw X)(hs:Sd w)(G:Fd.Good Wn Hn X.gs X.os)(e1:X.wide=(Wn:Nat))(e2:X.high=(Hn:Nat))(hl:X.us.length<=1000000)
  (hu:Fit ks (Wn*Hn) u) (hk':ks[u.kind.toNat]? =some k) (hus:∀h∈X.us,Fit ks (Wn*Hn) h) (hg:0<=u.goal/\u.goal<(Wn*Hn:Nat)):
  Calls Tryz.prog 196 #[vk,vw,u.val] w λe w'=>∃c,e=.returned (int i64 c)/\iL ks X Wn Hn u k c/\Below w.heap.size w w':=by
 have H:=aj (hw);have K:=aj (hk);have S:=aj (hs);have GD:Hid (Fd.Good Wn Hn X.gs X.os/\X.wide=(Wn:Nat)/\X.high=(Hn:Nat)/\X.us.length<=1000000/\Fit ks (Wn*Hn) u/\ks[u.kind.toNat]? =some k/\(∀h∈X.us,Fit ks (Wn*Hn) h)/\0<=u.goal/\u.goal<(X.os.length:Int)):=⟨G,e1,e2,hl,hu,hk',hus,hg.1,by rw[G.ol];exact hg.2⟩;obtain⟨p1,q1,p2,q2,p3,q3,p4,q4,p5,q5,rfl⟩:=aV hw;obtain⟨pk,qk,rfl,ck1,ck2,-⟩:=hk;clear hw hs G e1 e2 hl hu hk' hus hg;have UV:Hid (u.val=.agg _):=rfl;rw[UV.out];go_enter Tryz.func196,Tryz.ntmps196;go_upto_region 1 with fail
 have A0:Hid (Am w _ X (slice p1 X.gs.length q1) (slice p2 X.os.length q2) (slice p3 X.gold.length q3) (slice p4 X.us.length q4) (slice p5 X.qs.length q5) u):=Am.new X _ _ _ _ _ u;generalize ((w.alloc _).alloc _)=w0 at *;obtain⟨x0,x1,x2,x3,x4,x5,x6,x7,x8⟩:=A0.out.x;obtain⟨y0,y1,y2,y3,y4,y5,y6,y7⟩:=A0.out.u;by_cases h0:u.task=0
 ·have T0:=aj (h0)
  rw[h0] at y6;clear h0;go_wp2;go_ret;exact⟨u.at_,rfl,.inl ⟨T0.out,rfl⟩,A0.out.b⟩
 have T0:Hid (u.task≠0):=h0;have h0':(u.task==0)=false:=by rw[beq_eq_false_iff_ne];exact h0
 by_cases h2:u.task=2
 ·have T2:=aj (h2)
  have h2':(u.task==2)=true:=by rw[h2];rfl
  clear h0 h2;have ID:Hid (Calls Tryz.prog 235 #[slice pk ks.length qk,.agg #[int i64 X.turn,int i64 X.next,int i64 X.wide,int i64 X.high,slice p1 X.gs.length q1,slice p2 X.os.length q2,slice p3 X.gold.length q3,slice p4 X.us.length q4,slice p5 X.qs.length q5],.agg #[int i64 u.id,int i64 u.aA,int i64 u.kind,int i64 u.at_,int i64 u.life,int i64 u.load,int i64 u.task,int i64 u.goal]] w0 λe w'=>e=.returned (.bool (jP X.os u k))/\Below w0.heap.size w0 w'):=by
   have h:=xW _ _ ks X u k w0 (K.out.below A0.out.b) (H.out.below A0.out.b) GD.out.2.2.2.2.1.1 GD.out.2.2.2.2.2.1 GD.out.2.2.2.2.2.2.2;rw[UV.out] at h;exact h
  go_wp2_with fail
  refine Calls.mono ID.out ?_;rintro e w1 ⟨rfl,hb⟩;have A1:=aj (A0.out.below hb);obtain⟨dn,hdn⟩:∃d,jP X.os u k=d:=⟨_,rfl⟩;have DN:=aj (hdn);rw[hdn];clear hb hdn A0 x0 x1 x2 x3 x4 x5 x6 x7 x8 y0 y1 y2 y3 y4 y5 y6 y7;obtain⟨x0,x1,x2,x3,x4,x5,x6,x7,x8⟩:=A1.out.x;obtain⟨y0,y1,y2,y3,y4,y5,y6,y7⟩:=A1.out.u;cases dn with
  |true=>
   have hh:=IK _ _ ks X u Wn Hn k w1 (K.out.below A1.out.b) (H.out.below A1.out.b) (S.out.below A1.out.b) GD.out.1 GD.out.2.1 GD.out.2.2.1 GD.out.2.2.2.1 GD.out.2.2.2.2.1 GD.out.2.2.2.2.2.1 GD.out.2.2.2.2.2.2.1;rw[UV.out] at hh;have HH:Hid _:=hh;clear hh;go_wp2_with fail
   refine Calls.mono HH.out ?_;rintro e w2 ⟨l,rfl,hf,hb⟩;have F:Hid (iL ks X Wn Hn u k _):=.inr (.inr ⟨T2.out,DN.out,l,hf,rfl⟩);have B2:=aj (A1.out.b.trans (hb.mono A1.out.b.size));obtain⟨c,hc⟩:∃c,jo ks X.us l u=c:=⟨_,rfl⟩;rw[hc] at F ⊢;clear hb hf hc x0 x1 x2 x3 x4 x5 x6 x7 x8 y0 y1 y2 y3 y4 y5 y6 y7;go_wp2;go_ret;exact⟨c,rfl,F.out,B2.out⟩
  |false=>
   go_wp2;go_ret;exact⟨u.goal,rfl,.inr (.inl ⟨T0.out,λh=>(by have h9:=h.2;rw[DN.out] at h9;cases h9),rfl⟩),A1.out.b⟩
 ·have h2':(u.task==2)=false:=by rw[beq_eq_false_iff_ne];exact h2
  have T2:Hid (u.task≠2):=h2;clear h0 h2;go_wp2;go_ret;exact⟨u.goal,rfl,.inr (.inl ⟨T0.out,λh=>T2.out h.1,rfl⟩),A0.out.b⟩
open Wy
theorem IU:∀args w,(callFunc 277 args).run Tryz.prog w=.ok (.enter 277 args) w:=by
 intro args w;go_simp
theorem Ud(z n:Nat)(u1 u2:Value)(ss:List Int)(i j:Nat)(w:World)(X:Bl w z u1 u2)(hu:Ro w u2 ss)(hl:ss.length=n)(hi:i<n):
  Calls Tryz.prog 277 #[int i64 (i:Nat),int i64 (j:Nat),.pointer (some ⟨z,0,none⟩)] w λe w'=>e=.returned (int i64 (ss.getD i 0))/\w'=w:=by
 obtain⟨a,c,rfl,c1,c2,ca⟩:=hu;obtain⟨x,rfl,-,hx⟩:=ca (by intro e;rw[e] at hl;simp at hl;omega);have e:ss[i]? =some (ss.getD i 0):=by rw[List.getD_eq_getElem?_getD,List.getElem?_eq_getElem (by omega)];rfl
 have cx:=hx i _ e;have x1:=X.c1;generalize ss.getD i 0=s at *;rw[hl] at *;clear hx ca e X;go_enter Tryz.func277,Tryz.ntmps277;go_wp2;go_ret;exact⟨rfl,rfl⟩
theorem IV(v:Value)(n t:Nat)(nb:Nat->List Int)(ss:List Int)(w:World)(h:Ld w v n nb ss)(E:Even nb (λ_ j=>ss.getD j 0) n)(ht:t<n)(hn:n<=144)(h4:∀i,(nb i).length<=4):
  Calls Tryz.prog 258 #[v,int i64 (t:Nat)] w λe w'=>∃b l,e=.returned (slice (some ⟨b,0,none⟩) n n)/\w.heap.size<=b/\Bk w' b l #[]/\(bD nb (λ_ j=>ss.getD j 0) t n l/\Flat l)/\Below w.heap.size w w':=by
 have L0:=aj (h);have E0:=aj (E);have T0:Hid (t<n/\n<=144/\∀i,(nb i).length<=4):=⟨ht,hn,h4⟩;obtain⟨u1,u2,rfl,hb1,hr2,hl⟩:=h;have R2:Hid (Ro w u2 ss/\ss.length=n):=⟨hr2,hl⟩;obtain⟨x1,c1,e1,-⟩:=hb1;obtain⟨x2,c2,e2,-⟩:=hr2;clear ht hn h4 E hl;have b0:Below _ w (w.alloc (Obj.cells #[u1,u2] 296)):=(Below.refl _ _).alloc (Nat.le_refl _) _;have X0:Hid (Bl _ w.heap.size u1 u2):=Bl.mk' u1 u2 rfl;have B0:=aj (b0);clear b0;have hon:∀w' (i j:Nat),i<n->j<n->Below (w.alloc (Obj.cells #[u1,u2] 296)).heap.size (w.alloc (Obj.cells #[u1,u2] 296)) w'->Calls Tryz.prog 277 #[int i64 (i:Nat),int i64 (j:Nat),.pointer (some ⟨w.heap.size,0,none⟩)] w' λe w''=>e=.returned (int i64 ((λ_ j=>ss.getD j 0) j i))/\w''=w':=λw' i j hi hj hb=>
  Ud _ n u1 u2 ss i j w' (X0.out.below hb X0.out.lt) ((R2.out.1.below B0.out).below hb) R2.out.2 hi
 have Ho:=aj (hon);clear hon;subst e1;subst e2;go_enter Tryz.func258,Tryz.ntmps258;go_wp2_with fail
 refine(qW _ IU _ _ n t nb ss _ _ (L0.out.below B0.out) E0.out T0.out.1 T0.out.2.1 T0.out.2.2 Ho.out).mono ?_;rintro e w1 ⟨b,l,rfl,hbz,hbk,hf,hb⟩;have P:=aj (jD (Nat.le_trans B0.out.size hbz) hbk hf (B0.out.trans (hb.mono B0.out.size)));clear hbz hbk hf hb Ho;go_wp2;go_ret;exact⟨b,l,rfl,P.out.1,P.out.2.1,P.out.2.2.1,P.out.2.2.2⟩
theorem xX:∀args w,(callFunc 278 args).run Tryz.prog w=.ok (.enter 278 args) w:=by
 intro args w;go_simp
theorem Qz(z1 z2 z3 n:Nat)(u1 u2 uf:Value)(ss l:List Int)(i x:Nat)(w:World)(X:Bl w z1 u1 u2)(hu:Ro w u2 ss)(hf:Ro w uf l)(hl:ss.length=n)(hm:l.length=n)(c2:w.cell? ⟨z2,0,none⟩=some uf)(c3:w.cell? ⟨z3,0,none⟩=some (int i64 (i:Nat)))
  (hi:i<n) (hx:x<n) (hn:n<=144) (bs:∀j,ss.getD j 0<=2) (bl:∀j,l.getD j 0<=288):
  Calls Tryz.prog 278 #[int i64 (x:Nat),.pointer (some ⟨z1,0,none⟩),.pointer (some ⟨z2,0,none⟩),.pointer (some ⟨z3,0,none⟩)] w λe w'=>e=.returned (.bool (pn ss l i x))/\∃q,w'=w.drewN q:=by
 obtain⟨a,c,rfl,e1,e2,ca⟩:=hu;obtain⟨a',c',rfl,e1',e2',ca'⟩:=hf;obtain⟨y,rfl,-,hy⟩:=ca (by intro e;rw[e] at hl;simp at hl;omega);obtain⟨y',rfl,-,hy'⟩:=ca' (by intro e;rw[e] at hm;simp at hm;omega);have cs:=hy x _ (get_some hl hx);have cd:=hy' x _ (get_some hm hx);have ce:=hy' i _ (get_some hm hi);have P:Hid (pn ss l i x=(decide (0<ss.getD x 0)&&(decide (0<=l.getD x 0)&&decide (ss.getD x 0+l.getD x 0=l.getD i 0)))):=by unfold Hid pn;rw[Int.toNat_natCast]
 have b1:=bs x;have b2:=bl x;have x1:=X.c1;rw[hl] at e1 x1;rw[hm] at e1' c2;generalize ss.getD x 0=s at *;generalize l.getD x 0=d at *;generalize l.getD i 0=f at *;clear hy hy' ca ca' X hl hm bs bl;by_cases h1:0<s
 ·by_cases h2:0<=d
  ·by_cases h3:s+d=f
   ·have R:Hid (pn ss l i x=true):=by unfold Hid;rw[P.out,decide_eq_true h1,decide_eq_true h2,decide_eq_true h3];rfl
    clear P;go_enter Tryz.func278,Tryz.ntmps278;go_wp2;go_quiet (fail);go_wp2;go_ret;exact⟨by rw[R.out];rfl,_,rfl⟩
   ·have R:Hid (pn ss l i x=false):=by unfold Hid;rw[P.out,decide_eq_true h1,decide_eq_true h2,decide_eq_false h3];rfl
    have h3':(s+d==f)=false:=by simpa using h3
    clear P;go_enter Tryz.func278,Tryz.ntmps278;go_wp2;go_quiet (fail);go_wp2;go_ret;exact⟨by rw[R.out];rfl,_,rfl⟩
  ·have R:Hid (pn ss l i x=false):=by unfold Hid;rw[P.out,decide_eq_true h1,decide_eq_false h2];rfl
   have h2':=decide_eq_false h2;clear P;go_enter Tryz.func278,Tryz.ntmps278;go_wp2;go_quiet (fail);go_wp2;go_ret;exact⟨by rw[R.out];rfl,_,rfl⟩
 ·have R:Hid (pn ss l i x=false):=by unfold Hid;rw[P.out,decide_eq_false h1];rfl
  have h1':=decide_eq_false h1;clear P;go_enter Tryz.func278,Tryz.ntmps278;go_wp2;go_quiet (fail);go_wp2;go_ret;exact⟨by rw[R.out];rfl,_,rfl⟩
theorem Nh(v uf:Value)(n i:Nat)(nb:Nat->List Int)(ss l:List Int)(w:World)(h:Ld w v n nb ss)(hf:Ro w uf l)(hm:l.length=n)(hi:i<n)(hn:n<=144)(bs:∀j,ss.getD j 0<=2)(bl:∀j,l.getD j 0<=288)
  (E:∀x,x∈nb i->∃j:Nat,x=j/\j<n) (hx:∃x∈nb i,pn ss l i x=true):
  Calls Tryz.prog 259 #[v,uf,int i64 (i:Nat)] w λe w'=>∃j:Nat,e=.returned (int i64 (j:Nat))/\j<n/\Nx nb ss l i j/\Below w.heap.size w w':=by
 obtain⟨r,hr⟩:=Qj (pn ss l i) (nb i);obtain⟨k,j,rfl,hj,hk,hN⟩:=Qk E hr hx;have HN:Hid (j<n/\Nx nb ss l i j):=⟨hj,hN⟩;obtain⟨u1,u2,rfl,⟨x,c,rfl,c1,c2,hb⟩,hr2,hl⟩:=h;obtain⟨ui,O_,Yf⟩:=hb i hi;have k0:w.heap.size<=w.heap.size:=Nat.le_refl _;generalize hw1:w.alloc (Obj.cells #[slice (some x) n c,u2] 296)=w1;have b1:Below w.heap.size w w1:=by rw[<-hw1];exact(Below.refl _ _).alloc (Nat.le_refl _) _
 have X1:Bl w1 w.heap.size (slice (some x) n c) u2:=by rw[<-hw1];exact Bl.mk' _ _ rfl
 have z1:w1.heap.size=w.heap.size+1:=by rw[<-hw1];simp
 generalize hw2:w1.alloc (Obj.cells #[uf] 23)=w2;have b2:Below w1.heap.size w1 w2:=by rw[<-hw2];exact(Below.refl _ _).alloc (Nat.le_refl _) _
 have d2:w2.cell? ⟨w.heap.size+1,0,none⟩=some uf:=by rw[<-hw2,<-z1];simp
 have z2:w2.heap.size=w.heap.size+1+1:=by rw[<-hw2];simp[z1]
 generalize hw3:w2.alloc (Obj.cells #[int i64 (i:Nat)] 3)=w3;have b3:Below w2.heap.size w2 w3:=by rw[<-hw3];exact(Below.refl _ _).alloc (Nat.le_refl _) _
 have d3:w3.cell? ⟨w.heap.size+1+1,0,none⟩=some (int i64 (i:Nat)):=by rw[<-hw3,<-z2];simp
 have b03:=(b1.trans (b2.mono b1.size)).trans (b3.mono (Nat.le_trans b1.size b2.size));have X3:=(X1.below b2 X1.lt).below b3 (Nat.lt_of_lt_of_le X1.lt b2.size);have d2':w3.cell? ⟨w.heap.size+1,0,none⟩=some uf:=by rw[b3.cell (p:=⟨w.heap.size+1,0,none⟩) (by rw[z2];exact Nat.lt_succ_self _)];exact d2
 have ri3:=Yf.below b03;have YJ:w3.cell? (x.add i)=some ui:=by rw[b03.cell (p:=x.add i) (cell_lt O_)];exact O_
 have CI:Hid (∀m,Calls Tryz.prog 165 #[ui,.func (Fn.func 278) #[] #[.pointer (some ⟨w.heap.size,0,none⟩),.pointer (some ⟨w.heap.size+1,0,none⟩),.pointer (some ⟨w.heap.size+1+1,0,none⟩)]] (w3.drewN m) λe w'=>e=.returned (int i64 (k:Nat))/\∃q,w'=(w3.drewN m).drewN q):=by
  intro m;refine(uJ 278 xX ui _ _ (pn ss l i) _ (ri3.drewN m) ?_).mono ?_
  ·intro m' y hy
   obtain⟨y',rfl,hy'⟩:=E y hy;rw[show(#[int i64 (y':Nat)]++ #[Value.pointer (some ⟨w.heap.size,0,none⟩),Value.pointer (some ⟨w.heap.size+1,0,none⟩),Value.pointer (some ⟨w.heap.size+1+1,0,none⟩)]:Array Value)= #[int i64 (y':Nat),.pointer (some ⟨w.heap.size,0,none⟩),.pointer (some ⟨w.heap.size+1,0,none⟩),.pointer (some ⟨w.heap.size+1+1,0,none⟩)] from rfl];refine(Qz _ _ _ n _ u2 uf ss l i y' _ (X3.below (_root_.Go.below_drewN (_root_.Go.below_drewN (Below.refl _ _) _) _) X3.lt) (((hr2.below b03).drewN m).drewN m') (((hf.below b03).drewN m).drewN m') hl hm d2' d3 hi hy' hn bs bl).mono ?_;rintro e w' ⟨h1,q,h2⟩;exact⟨h1,m'+q,by rw[h2,World.drewN_drewN]⟩
  ·rintro e w' ⟨r,rfl,h2,q,h3⟩
   exact⟨by rw[GV h2 hr],q,h3⟩
 have B3:=aj (b03);have Hw:Hid (((w.alloc (Obj.cells #[slice (some x) n c,u2] 296)).alloc (Obj.cells #[uf] 23)).alloc (Obj.cells #[int i64 (i:Nat)] 3)=w3):=by unfold Hid;rw[hw1,hw2,hw3]
 obtain⟨ai,ci,rfl,g1,g2,ca⟩:=ri3;have hkl:=(List.getElem?_eq_some_iff.1 hk).1;obtain⟨yi,rfl,-,hyi⟩:=ca (by intro e;rw[e] at hkl;simp at hkl);have ck:=hyi k _ hk;have x0:=X3.c0;obtain⟨af,cf,rfl,-⟩:=hf;obtain⟨a2,cc2,rfl,-⟩:=hr2;clear hm hl hr hx hN hb Yf O_ k0 hw1 b1 X1 z1 hw2 b2 d2 z2 hw3 b3 b03 X3 d2' ca hyi hk E bs bl hj;go_enter Tryz.func259,Tryz.ntmps259;go_wp2_with fail
 rw[Hw.out];go_quiet ((go_at_call 165;exact Calls.quiet_of (CI.out _)));go_wp2;go_ret;exact⟨j,rfl,HN.out.1,HN.out.2,_root_.Go.below_drewN B3.out _⟩
theorem Nj(v:Value)(W H:Nat)(gs os:List Int)(a b:Nat)(fl:Bool)(w:World)(h:Fl w v W H gs os)(hs:Sd w)(G:Fd.Good W H gs os)(ha:a<W*H)(hb:b<W*H):
  Calls Tryz.prog 234 #[v,int i64 (a:Nat),int i64 (b:Nat),.bool fl] w λe w'=>∃l,(bD (Fd.near W H) (λ_ j=>(gs.map λg=>Fd.onto g fl).getD j 0) b (W*H) l/\Flat l)/\
   ((l.getD a 0<0/\e=.returned (.tuple #[slice none 0 0,.iface 85 (int i64 7)]))\/(0<=l.getD a 0/\∃u p,e=.returned (.tuple #[u,.nilIface])/\Ro w' u p/\oH (Fd.near W H) (gs.map λg=>Fd.onto g fl) l b a p/\p.length<=1000))/\Below w.heap.size w w':=by
 have F0:=aj (h);have S0:=aj (hs);have G0:=aj (G);have A0:Hid (a<W*H/\b<W*H):=⟨ha,hb⟩;obtain⟨u1,u2,rfl,⟨a1,c,rfl,c1,c2,ca⟩,⟨b1,d,rfl,d1,d2,cb⟩⟩:=h;obtain⟨ss,hss⟩:∃ss,(gs.map λg=>Fd.onto g fl)=ss:=⟨_,rfl⟩;have Fb:=aj (hss);have E0:Hid (Even (Fd.near W H) (λ_ j=>ss.getD j 0) (W*H)):=by rw[<-hss];exact z_ G.w1 gs fl
 have T0:Hid (∀j,ss.getD j 0<=2):=by rw[<-hss];exact xC gs fl
 rw[hss];clear ca cb hs G ha hb hss;go_enter Tryz.func234,Tryz.ntmps234;go_wp2_with fail
 have b0:Below w.heap.size w ((w.alloc (Obj.cells #[int i64 W,int i64 H,slice a1 gs.length c,slice b1 os.length d] 25)).alloc (Obj.cells #[int i64 (a:Nat),int i64 (b:Nat)] 3)):=((Below.refl _ _).alloc (Nat.le_refl _) _).alloc (by simp) _;refine(look_ok _ _ W H gs os _ fl _ (F0.out.below b0) G0.out (S0.out.below b0) (Ro.Vx _ _ (by simp)) (by have:=A0.out;simp;omega)).mono ?_;rintro e w1 ⟨⟨v1,rfl,hL⟩,hb⟩;rw[Fb.out] at hL;have B1:=aj (b0.trans (hb.mono (by simp;omega)));have L1:=aj (hL);obtain⟨p1,p2,rfl,⟨x1,k1,rfl,-⟩,⟨x2,k2,rfl,-⟩,-⟩:=hL;clear hb b0;go_wp2_with fail
 have b2:Below _ w1 (w1.alloc (Obj.cells #[slice (some x1) (W*H) k1,slice x2 ss.length k2] 296)):=(Below.refl _ _).alloc (Nat.le_refl _) _;have X1:=Bl.mk' (w:=w1) (slice (some x1) (W*H) k1) (slice x2 ss.length k2) rfl;refine(IV _ _ b _ ss _ (L1.out.below b2) E0.out A0.out.2 G0.out.pos.2 (Fd.oD W H)).mono ?_;rintro e w2 ⟨g,l,rfl,hbz,hbk,⟨hf,hfl⟩,hb⟩;have P:Hid (Ro w2 (slice (some ⟨g,0,none⟩) (W*H) (W*H)) l):=by
  have:=hbk.ro (c:=W*H) (by rw[hf.1];exact Nat.le_refl _) (by have:=G0.out.pos.2;omega);rw[hf.1] at this;exact this
 have HF:=aj (eU hf hfl);have B2:=aj ((B1.out.trans (b2.mono B1.out.size)).trans (hb.mono (Nat.le_trans B1.out.size b2.size)));have X2:=aj (X1.below hb X1.lt);have L2:=aj ((L1.out.below b2).below hb);have N0:=G0.out.pos.2;have ca:=hbk.cell (get_some hf.1 A0.out.1);have LB:=aj (Aa hfl hf.1 N0);clear hbz hbk hb b2 X1 L1 B1 hf hfl;have a0:=A0.out.1;obtain⟨y,hy⟩:∃y,l.getD a 0=y:=⟨_,rfl⟩;have Hy:=aj (hy);rw[hy] at ca;clear hy;by_cases hd:y<0
 ·go_wp2
  go_ret2;exact⟨l,HF,.inl ⟨by rw[Hy.out];exact hd,rfl⟩,B2⟩
 ·go_wp2_with fail
  have O3:Hid (Ow _ _ (slice (some ⟨w2.heap.size,0,none⟩) 1 1) _):=Ow.one (a:Int) (Nat.le_refl _) rfl;have B3:Hid (Below _ w2 (w2.alloc (Obj.cells #[int i64 (a:Nat)] 3))):=(Below.refl _ _).alloc (Nat.le_refl _) _;generalize w2.alloc _=w3 at *;have Ya:Hid (0<=l.getD a 0):=by unfold Hid;rw[Hy.out];omega
  have Yb:=aj (LB.out a);clear ca hd;go_loopw [13,14] (λv i W'=>∃(k:Nat) (pre:List Int),i=int i64 (k:Nat)/\k<W*H/\0<=l.getD k 0/\Ow W' w2.heap.size v (pre++[(k:Int)])/\(∀p,oH (Fd.near W H) ss l b k p->oH (Fd.near W H) ss l b a (pre++p))/\Below w2.heap.size w2 W'/\(pre.length:Int)+l.getD k 0<=l.getD a 0) (λ_ i _=>(l.getD (intOf i).toNat 0).toNat)
  case atStart=>exact⟨a,[],rfl,a0,Ya,O3,λp hp=>hp,B3,by simp⟩
  case round=>
   obtain⟨k,pre,rfl,hk,hk0,ho,hp,hb,hm⟩:=hrel;clear O3 B3;have O:=aj (ho);have Pp:=aj (hp);have B:=aj (hb);have M:=aj (iG hm hk0 hk);clear ho hp hb hm hk0;by_cases h0:k=b
   ·subst h0
    go_wp2;go_ret2;refine⟨l,HF,.inr ⟨Ya,_,_,rfl,O.out.ro,Pp.out _ .here,?_⟩,B2.out.trans (B.out.mono B2.out.size)⟩;have:=M.out;have:=Yb.out;simp;omega
   ·have hx:=GX E0.out HF.out.1 hk M.out.2.1 h0
    have e0:(λx:Int=>∃j:Nat,x=j/\j<W*H)=λx:Int=>∃j:Nat,x=j/\j<W*H:=rfl
    have CN:Hid (Calls Tryz.prog 259 #[.agg #[slice (some x1) (W*H) k1,slice x2 ss.length k2],slice (some ⟨g,0,none⟩) (W*H) (W*H),int i64 (k:Nat)] wr λe w'=>∃j:Nat,e=.returned (int i64 (j:Nat))/\j<W*H/\Nx (Fd.near W H) ss l k j/\Below wr.heap.size wr w'):=
     Nh _ _ (W*H) k (Fd.near W H) ss l wr (L2.out.below B.out) (P.out.below B.out) HF.out.1.1 hk N0 T0.out LB.out (λx hx=>by obtain⟨j,h1,h2,-⟩:=E0.out.cell k x hk hx;exact⟨j,h1,h2⟩) hx
    obtain⟨y0,y1⟩:=X2.out.below B.out X2.out.lt;clear e0 hx;go_wp2_with fail
    refine Calls.mono CN.out ?_;rintro e w4 ⟨j,rfl,hj,hN,hb4⟩;have ba:Below _ w4 (w4.alloc (Obj.cells #[int i64 (j:Nat)] 3)):=(Below.refl _ _).alloc (Nat.le_refl _) _;have O5:=aj ((O.out.below hb4).below ba);have B5:=aj ((B.out.trans (hb4.mono B.out.size)).trans (ba.mono (Nat.le_trans B.out.size hb4.size)));have Cd:Hid ((w4.alloc (Obj.cells #[int i64 (j:Nat)] 3)).cell? ⟨w4.heap.size,0,none⟩=some (int i64 (j:Nat))):=by unfold Hid;simp
    have HN:=aj (hN);have is:=hN.is;have Ln:Hid ((pre++[(k:Int)]).length<=1000000000):=by
     have:=M.out;have:=Yb.out;unfold Hid;simp;omega
    have Q:Hid (∀p,oH (Fd.near W H) ss l b j p->oH (Fd.near W H) ss l b a ((pre++[(k:Int)])++p)):=λp hp=>by
     have:=Pp.out _ (.step h0 hN hp);rw[List.append_assoc];exact this
    have M':Hid (((pre++[(k:Int)]).length:Int)+l.getD j 0<=l.getD a 0/\0<=l.getD j 0/\l.getD j 0<l.getD k 0):=by
     have:=M.out;unfold Hid;simp only[List.length_append,List.length_cons,List.length_nil];omega
    clear hb4 ba O B CN hN is y0 y1 Pp;generalize pre++[(k:Int)]=pr at *;go_wp2_with (at_builtin;refine gJ _ rfl _ _ rfl _ _ pr rfl O5.out ⟨w4.heap.size,0,none⟩ (j:Nat) rfl Cd.out Ln.out B5.out.size ?_);intro g6 cap6 w6 o6 gr6 at6 lt6;have O6:=aj (o6);have B6:=aj (B5.out.trans ((Below.refl _ _).grown gr6 B5.out.size (λk hk=>(O5.out.block k hk).1)));clear o6 gr6 at6 lt6 O5 B5 Cd;go_wp2;go_round
    case rel=>exact⟨j,pr,rfl,hj,M'.out.2.1,O6,Q,B6,M'.out.1⟩
    case measure=>
     have:=M'.out;show(l.getD (Int.toNat (j:Int)) 0).toNat<(l.getD (Int.toNat (k:Int)) 0).toNat;rw[Int.toNat_natCast,Int.toNat_natCast];omega
theorem Nk(v:Value)(W H:Nat)(gs os:List Int)(a b:Nat)(fl:Bool)(w:World)(h:Fl w v W H gs os)(hs:Sd w)(G:Fd.Good W H gs os)(ha:a<W*H)(hb:b<W*H):
  Calls Tryz.prog 195 #[v,int i64 (a:Nat),int i64 (b:Nat),.bool fl] w λe w'=>∃l,(bD (Fd.near W H) (λ_ j=>(gs.map λg=>Fd.onto g fl).getD j 0) b (W*H) l/\Flat l)/\
   ((l.getD a 0<0/\e=.returned (.tuple #[int i64 0,.iface 85 (int i64 7)]))\/(0<=l.getD a 0/\∃j:Nat,e=.returned (.tuple #[int i64 (j:Nat),.nilIface])/\OU (Fd.near W H) (gs.map λg=>Fd.onto g fl) l b a j))/\Below w.heap.size w w':=by
 have F0:=aj (h);have S0:=aj (hs);have G0:=aj (G);have A0:Hid (a<W*H/\b<W*H):=⟨ha,hb⟩;obtain⟨u1,u2,rfl,⟨a1,c,rfl,c1,c2,ca⟩,⟨b1,d,rfl,d1,d2,cb⟩⟩:=h;obtain⟨ss,hss⟩:∃ss,(gs.map λg=>Fd.onto g fl)=ss:=⟨_,rfl⟩;have Fb:=aj (hss);rw[hss];clear ca cb hs G ha hb hss;have b0:Hid (Below _ w (w.alloc (Obj.cells #[int i64 W,int i64 H,slice a1 gs.length c,slice b1 os.length d] 25))):=(Below.refl _ _).alloc (Nat.le_refl _) _;go_enter Tryz.func195,Tryz.ntmps195;go_wp2_with fail
 refine(Nj _ W H gs os a b fl _ (F0.out.below b0.out) (S0.out.below b0.out) G0.out A0.out.1 A0.out.2).mono ?_;rintro e w1 ⟨l,hl,he,hb⟩;rw[Fb.out] at hl he;have B1:=aj (b0.out.trans (hb.mono b0.out.size));have HL:=aj (hl);clear hb b0 hl;rcases he with⟨h0,rfl⟩|⟨h0,u,p,rfl,hu,hp,hlen⟩
 ·have H0:=aj (h0)
  clear h0;go_wp2;go_ret2;exact⟨l,HL,.inl ⟨H0,rfl⟩,B1⟩
 ·have H0:=aj (h0)
  have HP:=aj (hp);clear h0;by_cases hab:a=b
  ·subst hab
   obtain⟨ua,uc,rfl,-⟩:=hu;clear hp;go_wp2;go_ret2;exact⟨l,HL,.inr ⟨H0,a,rfl,.inl ⟨rfl,rfl⟩⟩,B1⟩
  ·obtain⟨j,h1,h2⟩:=hp.second hab
   have hl1:=(List.getElem?_eq_some_iff.1 h1).1;obtain⟨ua,uc,rfl,k1,k2,hc⟩:=hu;obtain⟨y,rfl,-,hy⟩:=hc (by intro e;rw[e] at hl1;simp at hl1);have HN:=aj (h2);have hne:¬(a:Int)=(b:Int):=by omega
   have c1':w1.cell? ⟨y.block,y.off+1,none⟩=some _:=hy 1 _ h1;clear hp hc hy h1 h2;go_wp2;go_ret2;exact⟨l,HL,.inr ⟨H0,j,rfl,.inr ⟨hab,HN⟩⟩,B1⟩
def dO(ks:List KV)(X:WV)(Wn Hn:Nat)(u:aC)(k:KV)(c:Nat):Prop:=
 ∃(an bn:Nat) (l:List Int),u.at_=an/\iL ks X Wn Hn u k (bn:Nat)/\bn<Wn*Hn/\(bD (Fd.near Wn Hn) (λ_ j=>(X.gs.map λg=>Fd.onto g k.f).getD j 0) bn (Wn*Hn) l/\Flat l)/\
  ((l.getD an 0<0/\c=an)\/(0<=l.getD an 0/\OU (Fd.near Wn Hn) (X.gs.map λg=>Fd.onto g k.f) l bn an c))
theorem QA{Wn Hn:Nat}{gs:List Int}{fl:Bool}{l:List Int}{t i j:Nat}(hW:0<Wn)(h:OU (Fd.near Wn Hn) (gs.map λg=>Fd.onto g fl) l t i j)(hi:i<Wn*Hn):j<Wn*Hn:=by
 rcases h with⟨-,rfl⟩|⟨-,h⟩
 ·exact hi
 ·exact(z_ hW gs fl).lt i j hi h.is.1
theorem QC{ks:List KV}{X:WV}{Wn Hn:Nat}{u:aC}{k:KV}{c:Int}(h:iL ks X Wn Hn u k c)(hu:Fit ks (Wn*Hn) u)(hus:∀h∈X.us,Fit ks (Wn*Hn) h)(hg:0<=u.goal/\u.goal<(Wn*Hn:Nat)):∃bn:Nat,c=bn/\bn<Wn*Hn:=by
 have key:0<=c/\c<(Wn*Hn:Nat):=by
  rcases h with⟨-,rfl⟩|⟨-,-,rfl⟩|⟨-,-,l,-,rfl⟩
  ·exact hu.2
  ·exact hg
  ·unfold jo
   cases hh:homes ks X.us l u.aA with
   |nil=>exact hu.2
   |cons x0 tl=>
    have hm:=lN (λh=>l.getD h.at_.toNat 0) tl x0;rw[<-hh] at hm;exact(hus _ (List.mem_filter.1 hm).1).2
 exact⟨c.toNat,by omega,by omega⟩
theorem IW(vk vw:Value)(ks:List KV)(X:WV)(u:aC)(Wn Hn:Nat)(k:KV)(w:World)(hk:Kl w vk ks)(hw:Wl w vw X)(hs:Sd w)(G:Fd.Good Wn Hn X.gs X.os)(e1:X.wide=(Wn:Nat))(e2:X.high=(Hn:Nat))(hl:X.us.length<=1000000)
  (hu:Fit ks (Wn*Hn) u) (hk':ks[u.kind.toNat]? =some k) (hus:∀h∈X.us,Fit ks (Wn*Hn) h) (hg:0<=u.goal/\u.goal<(Wn*Hn:Nat)):
  Calls Tryz.prog 156 #[vk,vw,u.val] w λe w'=>∃c:Nat,e=.returned (int i64 (c:Nat))/\dO ks X Wn Hn u k c/\c<Wn*Hn/\Below w.heap.size w w':=by
 obtain⟨kn,hkn⟩:∃n:Nat,u.kind=n:=⟨u.kind.toNat,by have:=hu.1;omega⟩;obtain⟨an,han⟩:∃n:Nat,u.at_=n:=⟨u.at_.toNat,by have:=hu.2;omega⟩;have hkl:kn<ks.length:=by have:=hu.1;omega
 have hkk:ks[kn]? =some k:=by rw[hkn,Int.toNat_natCast] at hk';exact hk'
 have H:Hid (Wl w vw X):=hw;have K:Hid (Kl w vk ks):=hk;have S:Hid (Sd w):=hs;have GD:Hid (Fd.Good Wn Hn X.gs X.os/\X.wide=(Wn:Nat)/\X.high=(Hn:Nat)/\X.us.length<=1000000/\Fit ks (Wn*Hn) u/\ks[u.kind.toNat]? =some k/\(∀h∈X.us,Fit ks (Wn*Hn) h)/\(0<=u.goal/\u.goal<(Wn*Hn:Nat))/\an<Wn*Hn):=⟨G,e1,e2,hl,hu,hk',hus,hg,by have:=hu.2;omega⟩;obtain⟨p1,q1,p2,q2,p3,q3,p4,q4,p5,q5,rfl⟩:=aV hw;obtain⟨pk,qk,rfl,ck1,ck2,kc⟩:=hk;obtain⟨xk,rfl,hxl,hxc⟩:=kc (by intro h;subst h;simp at hkl);have KK:Hid (Kc w (xk.add (kn*11)) k/\(xk.add (kn*11)).block<w.heap.size):=⟨hxc kn k hkk,by rw[add_block];exact hxl⟩;have HE:Hid (u.kind=(kn:Nat)/\u.at_=(an:Nat)):=⟨hkn,han⟩;clear hw hs G e1 e2 hl hu hk' hus hg hkn han kc hxc hxl hkk;have UV:Hid (u.val=.agg #[int i64 u.id,int i64 u.aA,int i64 u.kind,int i64 u.at_,int i64 u.life,int i64 u.load,int i64 u.task,int i64 u.goal]):=rfl;rw[UV.out];go_enter Tryz.func156,Tryz.ntmps156;go_upto_region 1 with fail
 have A0:Hid (Am w ((w.alloc (Obj.cells #[int i64 X.turn,int i64 X.next,int i64 X.wide,int i64 X.high,slice p1 X.gs.length q1,slice p2 X.os.length q2,slice p3 X.gold.length q3,slice p4 X.us.length q4,slice p5 X.qs.length q5] 29)).alloc (Obj.cells #[int i64 u.id,int i64 u.aA,int i64 u.kind,int i64 u.at_,int i64 u.life,int i64 u.load,int i64 u.task,int i64 u.goal] 74)) X (slice p1 X.gs.length q1) (slice p2 X.os.length q2) (slice p3 X.gold.length q3) (slice p4 X.us.length q4) (slice p5 X.qs.length q5) u):=Am.new X _ _ _ _ _ u;generalize ((w.alloc (Obj.cells #[int i64 X.turn,int i64 X.next,int i64 X.wide,int i64 X.high,slice p1 X.gs.length q1,slice p2 X.os.length q2,slice p3 X.gold.length q3,slice p4 X.us.length q4,slice p5 X.qs.length q5] 29)).alloc (Obj.cells #[int i64 u.id,int i64 u.aA,int i64 u.kind,int i64 u.at_,int i64 u.life,int i64 u.load,int i64 u.task,int i64 u.goal] 74))=w0 at *;have CB:Hid (∀V,Am w V X (slice p1 X.gs.length q1) (slice p2 X.os.length q2) (slice p3 X.gold.length q3) (slice p4 X.us.length q4) (slice p5 X.qs.length q5) u->(Am w V X (slice p1 X.gs.length q1) (slice p2 X.os.length q2) (slice p3 X.gold.length q3) (slice p4 X.us.length q4) (slice p5 X.qs.length q5) u/\V.cell? ⟨w.heap.size+1,3,none⟩=some (int i64 (an:Nat))/\V.cell? ⟨w.heap.size+1,2,none⟩=some (int i64 (kn:Nat))/\V.cell? ⟨(xk.add (kn*11)).block,(xk.add (kn*11)).off+9,none⟩=some (.bool k.f))):=λV h=>⟨h,by have:=h.u.c3;rw[Nat.zero_add,HE.out.2] at this;exact this,by have:=h.u.c2;rw[Nat.zero_add,HE.out.1] at this;exact this,(KK.out.1.below h.b KK.out.2).c9⟩
 refine aH [(true,0),(true,1),(true,2),(true,3),(true,4),(true,5),(true,6),(true,8),(true,9),(true,10),(true,11),(true,12),(true,13),(false,7),(false,14)] [(true,15),(true,16),(true,17),(true,18),(false,19)] (λV=>Am w V X (slice p1 X.gs.length q1) (slice p2 X.os.length q2) (slice p3 X.gold.length q3) (slice p4 X.us.length q4) (slice p5 X.qs.length q5) u/\V.cell? ⟨w.heap.size+1,3,none⟩=some (int i64 (an:Nat))/\V.cell? ⟨w.heap.size+1,2,none⟩=some (int i64 (kn:Nat))/\V.cell? ⟨(xk.add (kn*11)).block,(xk.add (kn*11)).off+9,none⟩=some (.bool k.f)) (by kernel_rfl) (by kernel_rfl) (by kernel_rfl) (by decide+kernel) (by decide+kernel) (CB.out _ (A0.out.below ((Below.refl _ _).drew))) ?_;have A1:Hid (Am w {w0 with drawn:=w0.drawn+1} X (slice p1 X.gs.length q1) (slice p2 X.os.length q2) (slice p3 X.gold.length q3) (slice p4 X.us.length q4) (slice p5 X.qs.length q5) u):=A0.out.below ((Below.refl _ _).drew);generalize ({w0 with drawn:=w0.drawn+1}:World)=w1 at *;clear A0;refine ay rfl (.pointer (some ⟨w.heap.size,2,none⟩)) (by go_simp) (λV hV=>by go_simp) ?_;go_simp;refine ay rfl (.agg #[int i64 X.wide,int i64 X.high,slice p1 X.gs.length q1,slice p2 X.os.length q2]) (by go_simp) (λV hV=>by obtain⟨⟨-,⟨x0,x1,x2,x3,x4,x5,x6,x7,x8⟩,⟨y0,y1,y2,y3,y4,y5,y6,y7⟩⟩,ca,K_,La⟩:=hV;go_simp) ?_;go_simp;refine ay rfl (.pointer (some ⟨w.heap.size+1,3,none⟩)) (by go_simp) (λV hV=>by go_simp) ?_;go_simp;refine ay rfl (int i64 (an:Nat)) (by go_simp) (λV hV=>by obtain⟨-,ca,K_,La⟩:=hV;go_simp) ?_;go_simp;refine ay rfl (slice (some xk) ks.length qk) (by go_simp) (λV hV=>by go_simp) ?_;go_simp;refine ay rfl (.agg #[int i64 X.turn,int i64 X.next,int i64 X.wide,int i64 X.high,slice p1 X.gs.length q1,slice p2 X.os.length q2,slice p3 X.gold.length q3,slice p4 X.us.length q4,slice p5 X.qs.length q5]) (by go_simp) (λV hV=>by obtain⟨⟨-,⟨x0,x1,x2,x3,x4,x5,x6,x7,x8⟩,⟨y0,y1,y2,y3,y4,y5,y6,y7⟩⟩,ca,K_,La⟩:=hV;go_simp) ?_;go_simp;refine ay rfl (.agg #[int i64 u.id,int i64 u.aA,int i64 u.kind,int i64 u.at_,int i64 u.life,int i64 u.load,int i64 u.task,int i64 u.goal]) (by go_simp) (λV hV=>by obtain⟨⟨-,⟨x0,x1,x2,x3,x4,x5,x6,x7,x8⟩,⟨y0,y1,y2,y3,y4,y5,y6,y7⟩⟩,ca,K_,La⟩:=hV;go_simp) ?_;go_simp;refine ay rfl (slice (some xk) ks.length qk) (by go_simp) (λV hV=>by go_simp) ?_;go_simp;refine ay rfl (.pointer (some ⟨w.heap.size+1,2,none⟩)) (by go_simp) (λV hV=>by go_simp) ?_;go_simp;refine ay rfl (int i64 (kn:Nat)) (by go_simp) (λV hV=>by obtain⟨-,ca,K_,La⟩:=hV;go_simp) ?_;go_simp;refine ay rfl (.pointer (some (xk.add (kn*11)))) (by go_simp) (λV hV=>by go_simp) ?_;go_simp;refine ay rfl (.pointer (some ⟨(xk.add (kn*11)).block,(xk.add (kn*11)).off+9,none⟩)) (by go_simp) (λV hV=>by go_simp) ?_;go_simp;refine ay rfl (.bool k.f) (by go_simp) (λV hV=>by obtain⟨-,ca,K_,La⟩:=hV;go_simp) ?_;go_simp;refine bF rfl 196 #[slice (some xk) ks.length qk,.agg #[int i64 X.turn,int i64 X.next,int i64 X.wide,int i64 X.high,slice p1 X.gs.length q1,slice p2 X.os.length q2,slice p3 X.gold.length q3,slice p4 X.us.length q4,slice p5 X.qs.length q5],.agg #[int i64 u.id,int i64 u.aA,int i64 u.kind,int i64 u.at_,int i64 u.life,int i64 u.load,int i64 u.task,int i64 u.goal]] (by go_simp) (by go_simp) ?_;have Yg:Hid (Calls Tryz.prog 196 #[slice (some xk) ks.length qk,.agg #[int i64 X.turn,int i64 X.next,int i64 X.wide,int i64 X.high,slice p1 X.gs.length q1,slice p2 X.os.length q2,slice p3 X.gold.length q3,slice p4 X.us.length q4,slice p5 X.qs.length q5],.agg #[int i64 u.id,int i64 u.aA,int i64 u.kind,int i64 u.at_,int i64 u.life,int i64 u.load,int i64 u.task,int i64 u.goal]] w1 λe w'=>∃c,e=.returned (int i64 c)/\iL ks X Wn Hn u k c/\Below w1.heap.size w1 w'):=by
  have h:=Nc _ _ ks X u Wn Hn k w1 (K.out.below A1.out.b) (H.out.below A1.out.b) (S.out.below A1.out.b) GD.out.1 GD.out.2.1 GD.out.2.2.1 GD.out.2.2.2.1 GD.out.2.2.2.2.1 GD.out.2.2.2.2.2.1 GD.out.2.2.2.2.2.2.1 GD.out.2.2.2.2.2.2.2.1;rw[UV.out] at h;exact h
 refine Calls.mono Yg.out ?_;rintro e w2 ⟨c0,rfl,ha,hb⟩;obtain⟨bn,rfl,hbn⟩:=QC ha GD.out.2.2.2.2.1 GD.out.2.2.2.2.2.2.1 GD.out.2.2.2.2.2.2.2.1;have A2:Hid (Am w w2 X (slice p1 X.gs.length q1) (slice p2 X.os.length q2) (slice p3 X.gold.length q3) (slice p4 X.us.length q4) (slice p5 X.qs.length q5) u):=A1.out.below hb;have AS:Hid (iL ks X Wn Hn u k (bn:Nat)/\bn<Wn*Hn):=⟨ha,hbn⟩;refine⟨_,rfl,CB.out _ A2.out,?_⟩;clear hb ha hbn Yg A1;go_simp;refine bF rfl 195 #[.agg #[int i64 X.wide,int i64 X.high,slice p1 X.gs.length q1,slice p2 X.os.length q2],int i64 (an:Nat),int i64 (bn:Nat),.bool k.f] (by go_simp) (by go_simp) ?_;have FL:Hid (Fl w2 (.agg #[int i64 X.wide,int i64 X.high,slice p1 X.gs.length q1,slice p2 X.os.length q2]) (Wn:Nat) (Hn:Nat) X.gs X.os):=by
  have:=oJ (H.out.below A2.out.b);rw[GD.out.2.1,GD.out.2.2.1] at this;rw[GD.out.2.1,GD.out.2.2.1];exact this
 refine(Nk _ Wn Hn X.gs X.os an bn k.f w2 FL.out (S.out.below A2.out.b) GD.out.1 GD.out.2.2.2.2.2.2.2.2 AS.out.2).mono ?_;rintro e w3 ⟨l,hl,hn,hb⟩;have A3:Hid (Am w w3 X (slice p1 X.gs.length q1) (slice p2 X.os.length q2) (slice p3 X.gold.length q3) (slice p4 X.us.length q4) (slice p5 X.qs.length q5) u):=A2.out.below hb;clear hb FL A2;have NS:Hid (bD (Fd.near Wn Hn) (λ_ j=>(X.gs.map λg=>Fd.onto g k.f).getD j 0) bn (Wn*Hn) l/\Flat l):=hl;clear hl;rcases hn with⟨hlt,rfl⟩|⟨hge,j,rfl,hnx⟩
 ·have WS:Hid (dO ks X Wn Hn u k an):=⟨an,bn,l,HE.out.2,AS.out.1,AS.out.2,NS.out,.inl ⟨hlt,rfl⟩⟩
  refine⟨_,rfl,CB.out _ A3.out,?_⟩;clear hlt;go_simp;refine bY rfl (.tuple #[int i64 0,.iface 85 (int i64 7)]) (by go_simp) (λV hV=>by go_simp) ?_;go_simp;refine bY rfl (int i64 0) (by go_simp) (λV hV=>by go_simp) ?_;go_simp;refine bY rfl (.iface 85 (int i64 7)) (by go_simp) (λV hV=>by go_simp) ?_;go_simp;refine bY rfl (int i64 0) (by go_simp) (λV hV=>by go_simp) ?_;go_simp;refine aN rfl (.iface 85 (int i64 7)) w3 (by go_simp) (by go_simp) trivial ?_;go_simp;unfold aP;obtain⟨-,ca,-,-⟩:=CB.out _ A3.out;go_wp2;go_ret;exact⟨an,rfl,WS.out,GD.out.2.2.2.2.2.2.2.2,A3.out.b⟩
 ·have WS:Hid (dO ks X Wn Hn u k j/\j<Wn*Hn):=⟨⟨an,bn,l,HE.out.2,AS.out.1,AS.out.2,NS.out,.inr ⟨hge,hnx⟩⟩,QA GD.out.1.w1 hnx GD.out.2.2.2.2.2.2.2.2⟩
  refine⟨_,rfl,CB.out _ A3.out,?_⟩;clear hge hnx;go_simp;refine bY rfl (.tuple #[int i64 (j:Nat),.nilIface]) (by go_simp) (λV hV=>by go_simp) ?_;go_simp;refine bY rfl (int i64 (j:Nat)) (by go_simp) (λV hV=>by go_simp) ?_;go_simp;refine bY rfl .nilIface (by go_simp) (λV hV=>by go_simp) ?_;go_simp;refine bY rfl (int i64 (j:Nat)) (by go_simp) (λV hV=>by go_simp) ?_;go_simp;refine aN rfl .nilIface w3 (by go_simp) (by go_simp) trivial ?_;go_simp;unfold aP;go_wp2;go_ret;exact⟨j,rfl,WS.out.1,WS.out.2,A3.out.b⟩
theorem Nl(u:aC)(at_:Int)(b:Nat)(w:World)(hc:w.cell? ⟨b,0,none⟩=some (int i64 at_)):
  Calls Tryz.prog 197 #[u.val,.pointer (some ⟨b,0,none⟩)] w λe w'=>e=.returned (.bool (u.at_==at_))/\Below w.heap.size w w':=by
 have hb:b<w.heap.size:=cell_lt hc;have hne:b≠w.heap.size:=by omega
 unfold aC.val;go_enter Tryz.func197,Tryz.ntmps197;go_wp2;go_ret;exact⟨rfl,(Below.refl _ _).alloc (Nat.le_refl _) _⟩
theorem Df(vw:Value)(X:WV)(at_:Int)(w:World)(hw:Wl w vw X):
  Calls Tryz.prog 157 #[vw,int i64 at_] w λe w'=>e=.returned (.bool (X.us.any (λu=>u.at_==at_)))/\Below w.heap.size w w':=by
 have H:Hid (Wl w vw X):=hw;obtain⟨p1,q1,p2,q2,p3,q3,p4,q4,p5,q5,rfl⟩:=aV hw;clear hw;go_enter Tryz.func157,Tryz.ntmps157;go_upto_region 1 with fail
 have B0:Hid (Below w.heap.size w ((w.alloc (Obj.cells #[int i64 X.turn,int i64 X.next,int i64 X.wide,int i64 X.high,slice p1 X.gs.length q1,slice p2 X.os.length q2,slice p3 X.gold.length q3,slice p4 X.us.length q4,slice p5 X.qs.length q5] 29)).alloc (Obj.cells #[int i64 at_] 3))):=((Below.refl _ _).alloc (Nat.le_refl _) _).alloc (by simp) _;have C0:Hid (((w.alloc (Obj.cells #[int i64 X.turn,int i64 X.next,int i64 X.wide,int i64 X.high,slice p1 X.gs.length q1,slice p2 X.os.length q2,slice p3 X.gold.length q3,slice p4 X.us.length q4,slice p5 X.qs.length q5] 29)).alloc (Obj.cells #[int i64 at_] 3)).cell? ⟨w.heap.size+1,0,none⟩=some (int i64 at_)):=dh (by simp) rfl;have X0:Hid (Bw ((w.alloc (Obj.cells #[int i64 X.turn,int i64 X.next,int i64 X.wide,int i64 X.high,slice p1 X.gs.length q1,slice p2 X.os.length q2,slice p3 X.gold.length q3,slice p4 X.us.length q4,slice p5 X.qs.length q5] 29)).alloc (Obj.cells #[int i64 at_] 3)) w.heap.size X (slice p1 X.gs.length q1) (slice p2 X.os.length q2) (slice p3 X.gold.length q3) (slice p4 X.us.length q4) (slice p5 X.qs.length q5)):=(Bw.mk' X _ _ _ _ _ rfl).below ((Below.refl _ _).alloc (Nat.le_refl _) _) (by simp);generalize ((w.alloc (Obj.cells #[int i64 X.turn,int i64 X.next,int i64 X.wide,int i64 X.high,slice p1 X.gs.length q1,slice p2 X.os.length q2,slice p3 X.gold.length q3,slice p4 X.us.length q4,slice p5 X.qs.length q5] 29)).alloc (Obj.cells #[int i64 at_] 3))=w0 at *;have c7:=X0.out.c7;have US:Hid (jF w (slice p4 X.us.length q4) X.us):=H.out.slices.2.2.2.1;go_wp2_with fail
 refine(kX 197 (by intro args w;go_simp) _ #[.pointer (some ⟨w.heap.size+1,0,none⟩)] X.us (λu=>u.at_==at_) w0 (US.out.below B0.out) (λV hV k=>Nl k at_ (w.heap.size+1) V (by rw[hV.cell (p:=⟨w.heap.size+1,0,none⟩) (cell_lt C0.out)];exact C0.out))).mono ?_;rintro e w1 ⟨rfl,hb1⟩;have B1:Hid (Below w.heap.size w w1):=B0.out.trans (hb1.mono B0.out.size);obtain⟨m,hm⟩:∃m,X.us.any (λu=>u.at_==at_)=m:=⟨_,rfl⟩;have HM:Hid (X.us.any (λu=>u.at_==at_)=m):=hm;rw[hm];clear hb1 hm c7;go_wp2;go_ret;exact⟨by rw[HM.out];rfl,B1.out⟩
theorem xY{ks:List KV}{X:WV}(h:aQ ks X){Wn Hn:Nat}(G:Fd.Good Wn Hn X.gs X.os):∀u∈X.us,Fit ks (Wn*Hn) u/\(0<=u.goal/\u.goal<(Wn*Hn:Nat)):=by
 intro u hu;obtain⟨i,hi⟩:=List.mem_iff_getElem?.1 hu;obtain⟨k,f⟩:=h.fine hi;have h1:=f.at_;have h2:=f.goal;rw[G.gl] at h1 h2;exact⟨⟨f.k0,h1⟩,h2⟩
inductive Goes (ks:List KV) (X:WV) (Wn Hn:Nat) (k:KV) (i:Nat):List aC->Int->List Int->List aC->Prop where
 |stop {us:List aC} {left:Int} {u:aC} {c:Nat} {gg:Int} (hu:us[i]? =some u) (hw:dO ks {X with us:=us} Wn Hn u k c) (hg:X.gs[c]? =some gg) (h:left<Fd.onto gg k.f\/us.any (λo=>o.at_==(c:Int))=true):Goes ks X Wn Hn k i us left [] us
 |step {us us':List aC} {left:Int} {u:aC} {c:Nat} {gg:Int} {cells:List Int} (hu:us[i]? =some u) (hw:dO ks {X with us:=us} Wn Hn u k c) (hg:X.gs[c]? =some gg) (h1:¬left<Fd.onto gg k.f) (h2:us.any (λo=>o.at_==(c:Int))=false) (h3:Goes ks X Wn Hn k i (us.set i {u with at_:=(c:Nat)}) (left-Fd.onto gg k.f) cells us'):Goes ks X Wn Hn k i us left ((c:Int)::cells) us'
theorem pG{ks:List KV}{X:WV}{Wn Hn:Nat}{u:aC}{k:KV}{c:Nat}{gg:Int}(h:dO ks X Wn Hn u k c)(hg:X.gs[c]? =some gg)(hc:u.at_≠(c:Nat)):0<Fd.onto gg k.f:=by
 obtain⟨an,bn,l,ha,-,-,-,hh⟩:=h;rcases hh with⟨-,rfl⟩|⟨-,h⟩
 ·exact absurd ha hc
 ·rcases h with⟨-,rfl⟩|⟨-,h⟩
  ·exact absurd ha hc
  ·have:=h.is.2.1
   rw[List.getD_eq_getElem?_getD,List.getElem?_map,hg] at this;exact this
theorem walk_any(vk:Value)(ks:List KV)(X:WV)(us:List aC)(g1 g2 g3 g5:Value)(g cap i:Nat)(rest:List Value)(u:aC)(k:KV)(Wn Hn:Nat)(w:World)(hk:Kl w vk ks)(hs:Sd w)(G:Fd.Good Wn Hn X.gs X.os)(e1:X.wide=(Wn:Nat))(e2:X.high=(Hn:Nat))
  (hst:∀V us',us'.length=us.length->Kp g w V->Ub V g us' rest->Wl V (.agg #[int i64 X.turn,int i64 X.next,int i64 X.wide,int i64 X.high,g1,g2,g3,slice (some ⟨g,0,none⟩) us.length cap,g5]) {X with us:=us'}/\Kl V vk ks/\Sd V) (hub:Ub w g us rest) (O_:us[i]? =some u) (hkk:ks[u.kind.toNat]? =some k) (zQ:us.length<=40) (hus:∀h∈us,Fit ks (Wn*Hn) h) (hg:0<=u.goal/\u.goal<(Wn*Hn:Nat)) (hsp:0<=k.n4/\k.n4<=4):
  Calls Tryz.prog 107 #[vk,.agg #[int i64 X.turn,int i64 X.next,int i64 X.wide,int i64 X.high,g1,g2,g3,slice (some ⟨g,0,none⟩) us.length cap,g5],.pointer (some ⟨g,i*8,none⟩)] w λe w'=>∃v us' cells,e=.returned v/\Ow w' w.heap.size v cells/\Goes ks X Wn Hn k i us k.n4 cells us'/\Ub w' g us' rest/\Kp g w w'/\cells.length<=4/\(∃a,us'=us.set i {u with at_:=a}/\0<=a/\a<(Wn*Hn:Nat)):=by
 have hil:=(List.getElem?_eq_some_iff.1 O_).1;have hfu:=hus u (List.mem_of_getElem? O_);obtain⟨kn,hkn⟩:∃n:Nat,u.kind=n:=⟨u.kind.toNat,by have:=hfu.1;omega⟩;have hkk':ks[kn]? =some k:=by rw[hkn,Int.toNat_natCast] at hkk;exact hkk
 have hkl:=(List.getElem?_eq_some_iff.1 hkk').1;have K:=aj (hk);have S:=aj (hs);have GD:Hid (Fd.Good Wn Hn X.gs X.os/\X.wide=(Wn:Nat)/\X.high=(Hn:Nat)/\ks[u.kind.toNat]? =some k/\us.length<=40/\(∀h∈us,Fit ks (Wn*Hn) h)/\(0<=u.goal/\u.goal<(Wn*Hn:Nat))/\us[i]? =some u/\Fit ks (Wn*Hn) u/\i<us.length):=⟨G,e1,e2,hkk,zQ,hus,hg,O_,hfu,hil⟩;have ST:=aj (hst);have UB:Hid (Ub w g us rest/\g<w.heap.size):=⟨hub,hub.lt⟩;obtain⟨pk,qk,rfl,ck1,ck2,kc⟩:=hk;obtain⟨xk,rfl,hxl,hxc⟩:=kc (by intro h;subst h;simp at hkl);have KK:Hid (Kc w (xk.add (kn*11)) k/\(xk.add (kn*11)).block<w.heap.size):=⟨hxc kn k hkk',by rw[add_block];exact hxl⟩;have HE:=aj (hkn);have SP:=aj (hsp);clear hs G e1 e2 hst hub O_ hkk hus hg hsp hkn hkk' kc hxc hxl hfu;go_enter Tryz.func107,Tryz.ntmps107;go_upto_region 2 with fail
 have B0:Hid (Below _ w (w.alloc (Obj.cells #[int i64 X.turn,int i64 X.next,int i64 X.wide,int i64 X.high,g1,g2,g3,slice (some ⟨g,0,none⟩) us.length cap,g5] 29))):=(Below.refl _ _).alloc (Nat.le_refl _) _;have X0:Hid (Bw _ w.heap.size X (g1) (g2) (g3) (slice (some ⟨g,0,none⟩) us.length cap) (g5)):=Bw.mk' X _ _ _ _ _ rfl;have Z0:Hid ((w.alloc (Obj.cells #[int i64 X.turn,int i64 X.next,int i64 X.wide,int i64 X.high,g1,g2,g3,slice (some ⟨g,0,none⟩) us.length cap,g5] 29)).heap.size=w.heap.size+1):=by unfold Hid;simp
 generalize (w.alloc _)=w0 at *;have U0:=aj (UB.out.1.below B0.out UB.out.2);obtain⟨z0,z1,z2,z3,z4,z5,z6,z7,z8,z9,z10⟩:=KK.out.1.below B0.out KK.out.2;have y2:w0.cell? ⟨g,i*8+2,none⟩=some (int i64 (kn:Nat)):=by have:=(U0.out.kQ GD.out.2.2.2.2.2.2.2.1).c2;rw[HE.out] at this;exact this
 go_upto_region 3 with fail
 have BK:Hid (Below _ w0 (w0.alloc (Obj.cells #[.string k.b,int i64 k.n0,int i64 k.n1,int i64 k.n2,int i64 k.n3,int i64 k.n4,int i64 k.n5,int i64 k.n6,int i64 k.n7,.bool k.f,.bool k.t] 77))):=(Below.refl _ _).alloc (Nat.le_refl _) _;have K1:=aj (lK k Z0.out);have Z1:Hid ((w0.alloc (Obj.cells #[.string k.b,int i64 k.n0,int i64 k.n1,int i64 k.n2,int i64 k.n3,int i64 k.n4,int i64 k.n5,int i64 k.n6,int i64 k.n7,.bool k.f,.bool k.t] 77)).heap.size=w.heap.size+2):=by have:=Z0.out;unfold Hid;simp;omega
 rw[Z0.out];generalize (w0.alloc _)=w1 at *;have B1:=aj (B0.out.trans (BK.out.mono B0.out.size));have X1:=aj (X0.out.below BK.out X0.out.lt);have U1:=aj (U0.out.below BK.out U0.out.lt);clear z0 z1 z2 z3 z4 z5 z6 z7 z8 z9 z10 y2 B0 X0 Z0 U0 BK;have c5:w1.cell? ⟨w.heap.size+1,5,none⟩=some (int i64 k.n4):=by have:=K1.out.c5;rw[Nat.zero_add] at this;exact this
 go_upto_region 4 with fail
 clear c5;go_loopw [7,9] (λv7 v9 V=>∃(a left:Int) (cells:List Int) (cv:Value),cv=v7/\v9=int i64 left/\0<=left/\(cells.length:Int)+left<=4/\(0<=a/\a<(Wn*Hn:Nat))/\Ub V g (us.set i {u with at_:=a}) rest/\Ow V w1.heap.size cv cells/\Kp g w1 V/\(∀cells' us',Goes ks X Wn Hn k i (us.set i {u with at_:=a}) left cells' us'->Goes ks X Wn Hn k i us k.n4 (cells++cells') us')) (λ_ v9 _=>(intOf v9).toNat)
 case atStart=>
  have hset:us.set i {u with at_:=u.at_}=us:=by
   have h1:=GD.out.2.2.2.2.2.2.2.1;obtain⟨h2,h3⟩:=List.getElem?_eq_some_iff.1 h1;have:({u with at_:=u.at_}:aC)=us[i]:=by rw[h3]
   rw[this,List.set_getElem_self]
  exact⟨u.at_,k.n4,[],_,rfl,rfl,SP.out.1,by have:=SP.out.2;simp;omega,GD.out.2.2.2.2.2.2.2.2.1.2,by rw[hset];exact U1.out,Ow.nil _ _,Kp.refl _ _,λcells' us' h=>by rw[hset] at h;exact h⟩
 case round=>
  obtain⟨a,left,cells,cv,rfl,rfl,hl0,hcl,hab,hub,how,hkp,hgo⟩:=hrel;obtain⟨us1,Dh⟩:∃l,us.set i {u with at_:=a}=l:=⟨_,rfl⟩;obtain⟨u1,hu1⟩:∃v:aC,{u with at_:=a}=v:=⟨_,rfl⟩;have hi1:us1[i]? =some u1:=by rw[<-Dh,hu1,List.getElem?_set_self GD.out.2.2.2.2.2.2.2.2.2]
  have hln:us1.length=us.length:=by rw[<-Dh,List.length_set]
  have F1:Hid (us1[i]? =some u1/\us1.length=us.length/\{u with at_:=a}=u1/\us.set i {u with at_:=a}=us1/\Fit ks (Wn*Hn) u1/\(∀h∈us1,Fit ks (Wn*Hn) h)/\ks[u1.kind.toNat]? =some k/\(0<=u1.goal/\u1.goal<(Wn*Hn:Nat))):=by
   have hf:Fit ks (Wn*Hn) u1:=by rw[<-hu1];exact⟨GD.out.2.2.2.2.2.2.2.2.1.1,hab⟩
   refine⟨hi1,hln,hu1,Dh,hf,λh hh=>?_,by rw[<-hu1];exact GD.out.2.2.2.1,by rw[<-hu1];exact GD.out.2.2.2.2.2.2.1⟩;rw[<-Dh] at hh;rcases List.mem_or_eq_of_mem_set hh with hh|hh
   ·exact GD.out.2.2.2.2.2.1 h hh
   ·rw[hh,hu1];exact hf
  rw[Dh] at hub hgo;have UB1:=aj (hub);have OC:=aj (how);have KP:=aj (hkp);have KW:=aj ((Kp.of B1.out).trans hkp);have HG:=aj (hgo);have XR:=aj (X1.out.kp9 hkp (by have:=UB.out.2;omega));have KR:=aj (K1.out.kp9 hkp (by have:=UB.out.2;show w.heap.size+1≠g;omega));clear hub how hkp hgo Dh hu1 hi1 hln hab;have Ue:cells.length<=4:=by omega
  have WL:Hid (∀V,Below wr.heap.size wr V->Wl V (.agg #[int i64 X.turn,int i64 X.next,int i64 X.wide,int i64 X.high,g1,g2,g3,slice (some ⟨g,0,none⟩) us.length cap,g5]) {X with us:=us1}/\Kl V (slice (some xk) ks.length qk) ks/\Sd V):=λV hb=>by
   have hkv:=KW.out.trans (Kp.of hb);exact ST.out V _ F1.out.2.1 hkv (UB1.out.below hb UB1.out.lt)
  have C4:Hid (∀V,Below wr.heap.size wr V->(Bw V w.heap.size X (g1) (g2) (g3) (slice (some ⟨g,0,none⟩) us.length cap) (g5)/\dB V ⟨g,i*8,none⟩ u1)):=λV hb=>⟨XR.out.below hb XR.out.lt,(UB1.out.below hb UB1.out.lt).kQ F1.out.1⟩
  have DR:Hid (Below wr.heap.size wr {wr with drawn:=wr.drawn+1}):=(Below.refl _ _).drew;go_upto_region 4 with fail
  refine aH [(true,0),(true,1),(true,2),(true,3),(true,4),(false,5)] [(false,6)] (λV=>Bw V _ X _ _ _ _ _/\dB V _ u1) (by kernel_rfl) (by kernel_rfl) (by kernel_rfl) (by decide+kernel) (by decide+kernel) (C4.out _ DR.out) ?_;generalize ({wr with drawn:=wr.drawn+1}:World)=v1 at *;refine ay rfl (slice (some xk) ks.length qk) (by go_simp) (λV hV=>by go_simp) ?_;go_simp;refine ay rfl (.agg #[int i64 X.turn,int i64 X.next,int i64 X.wide,int i64 X.high,g1,g2,g3,slice (some ⟨g,0,none⟩) us.length cap,g5]) (by go_simp) (λV hV=>by obtain⟨⟨x0,x1,x2,x3,x4,x5,x6,x7,x8⟩,⟨y0,y1,y2,y3,y4,y5,y6,y7⟩⟩:=hV;go_simp) ?_;go_simp;refine ay rfl (.pointer (some ⟨g,i*8,none⟩)) (by go_simp) (λV hV=>by go_simp) ?_;go_simp;refine ay rfl (.pointer (some ⟨g,i*8,none⟩)) (by go_simp) (λV hV=>by go_simp) ?_;go_simp;refine ay rfl (.agg #[int i64 u1.id,int i64 u1.aA,int i64 u1.kind,int i64 u1.at_,int i64 u1.life,int i64 u1.load,int i64 u1.task,int i64 u1.goal]) (by go_simp) (λV hV=>by obtain⟨⟨x0,x1,x2,x3,x4,x5,x6,x7,x8⟩,⟨y0,y1,y2,y3,y4,y5,y6,y7⟩⟩:=hV;go_simp) ?_;go_simp;refine bF rfl 156 #[slice (some xk) ks.length qk,.agg #[int i64 X.turn,int i64 X.next,int i64 X.wide,int i64 X.high,g1,g2,g3,slice (some ⟨g,0,none⟩) us.length cap,g5],.agg #[int i64 u1.id,int i64 u1.aA,int i64 u1.kind,int i64 u1.at_,int i64 u1.life,int i64 u1.load,int i64 u1.task,int i64 u1.goal]] (by go_simp) (by go_simp) ?_;have WI:Hid (Calls _ _ #[slice _ _ qk,.agg _,.agg _] v1 _):=
   IW _ _ ks _ u1 Wn Hn k v1 (WL.out v1 DR.out).2.1 (WL.out v1 DR.out).1 (WL.out v1 DR.out).2.2 GD.out.1 GD.out.2.1 GD.out.2.2.1 (by show us1.length<=1000000;rw[F1.out.2.1];omega) F1.out.2.2.2.2.1 F1.out.2.2.2.2.2.2.1 F1.out.2.2.2.2.2.1 F1.out.2.2.2.2.2.2.2
  refine Calls.mono WI.out ?_;rintro e v2 ⟨c,rfl,hws,hcn,hb⟩;have B2:=aj (DR.out.trans (hb.mono DR.out.size));have hgl:=GD.out.1.gl;obtain⟨gg,hgg⟩:∃x,X.gs[c]? =some x:=⟨_,List.getElem?_eq_getElem (by omega)⟩;have WS:=aj (iG hws hcn hgg);refine⟨_,rfl,C4.out _ B2.out,?_⟩;clear hb hws hcn hgl hgg DR WI;go_simp;refine aN rfl (int i64 (c:Nat)) v2 (by go_simp) (by go_simp) trivial ?_;go_simp;unfold aP;obtain⟨⟨x0,x1,x2,x3,x4,x5,x6,x7,x8⟩,-⟩:=C4.out _ B2.out;have c9:v2.cell? ⟨w.heap.size+1,9,none⟩=some (.bool k.f):=by have:=(KR.out.below B2.out KR.out.lt).c9;rw[Nat.zero_add] at this;exact this
  have FL:Hid (Fl v2 (.agg #[int i64 X.wide,int i64 X.high,g1,g2]) (Wn:Nat) (Hn:Nat) X.gs X.os):=by
   have h9:=(WL.out v2 B2.out).1;have:=oJ (X:={X with us:=us1}) h9;have e1:({X with us:=us1}:WV).wide=(Wn:Nat):=GD.out.2.1;have e2:({X with us:=us1}:WV).high=(Hn:Nat):=GD.out.2.2.1;rw[e1,e2] at this;rw[GD.out.2.1,GD.out.2.2.1];exact this
  go_wp2_with fail
  refine(rZ _ Wn Hn _ _ c gg _ v2 FL.out GD.out.1 WS.out.2.1 WS.out.2.2).mono ?_;rintro e v3 ⟨rfl,hb⟩;obtain⟨s,hs⟩:∃s,Fd.onto gg k.f=s:=⟨_,rfl⟩;have SS:=aj (hs);rw[hs];have B3:=aj (B2.out.trans (hb.mono B2.out.size));clear hb hs x0 x1 x2 x3 x4 x5 x6 x7 x8 c9 FL B2;by_cases hsl:left<s
  ·have FIN:Hid (Goes ks X Wn Hn k i us k.n4 cells us1):=by
    have:=HG.out [] us1 (.stop F1.out.1 WS.out.1 WS.out.2.2 (.inl (by rw[SS.out];exact hsl)));rw[List.append_nil] at this;exact this
   go_wp2;go_ret;exact⟨cv,us1,cells,rfl,(OC.out.below B3.out).mono (by have:=Z1.out;omega),FIN.out,UB1.out.below B3.out UB1.out.lt,KW.out.trans (Kp.of B3.out),Ue,a,F1.out.2.2.2.1.symm,by have:=F1.out.2.2.2.2.1.2;rw[<-F1.out.2.2.1] at this;exact this⟩
  obtain⟨⟨x0,x1,x2,x3,x4,x5,x6,x7,x8⟩,-⟩:=C4.out _ B3.out;go_wp2_with fail
  refine(Df _ _ _ v3 (WL.out v3 B3.out).1).mono ?_;rintro e v4 ⟨rfl,hb⟩;have B4:=aj (B3.out.trans (hb.mono B3.out.size));obtain⟨tk,htk⟩:∃t,us1.any (λu=>u.at_==(c:Int))=t:=⟨_,rfl⟩;have TK:=aj (htk);have hx1:({X with us:=us1}:WV).us.any _=tk:=htk;rw[hx1];clear hb htk hx1 x0 x1 x2 x3 x4 x5 x6 x7 x8 B3;cases tk with
  |true=>
   have FIN:Hid (Goes ks X Wn Hn k i us k.n4 cells us1):=by
    have:=HG.out [] us1 (.stop F1.out.1 WS.out.1 WS.out.2.2 (.inr TK.out));rw[List.append_nil] at this;exact this
   go_wp2;go_ret;exact⟨cv,us1,cells,rfl,(OC.out.below B4.out).mono (by have:=Z1.out;omega),FIN.out,UB1.out.below B4.out UB1.out.lt,KW.out.trans (Kp.of B4.out),Ue,a,F1.out.2.2.2.1.symm,by have:=F1.out.2.2.2.2.1.2;rw[<-F1.out.2.2.1] at this;exact this⟩
  |false=>
   have hne:u1.at_≠(c:Nat):=by
    have:=List.any_eq_false.1 TK.out u1 (List.mem_of_getElem? F1.out.1);simpa using this
   have hs1:0<s:=by rw[<-SS.out];exact pG WS.out.1 WS.out.2.2 hne
   have U4:=aj (UB1.out.below B4.out UB1.out.lt);have c3:=(U4.out.kQ F1.out.1).c3;have t3:=U4.out.thaw (i*8+3);have U5:Hid (Ub _ g (us1.set i {u1 with at_:=(c:Nat)}) _):=U4.out.BI F1.out.1 _;have K5:Hid (Kp g v4 (v4.setCell ⟨g,i*8+3,none⟩ (int i64 (c:Nat)))):=Kp.set _ _ _;have wsub:IntKind.i64.wrap (left-s)=left-s:=by rw[IntKind.wrap_i64];omega
   go_upto_region 9 with fail
   clear c3 t3 hne;generalize (v4.setCell _ _)=v5 at *;have P5:=aj ((KP.out.trans (Kp.of B4.out)).trans K5.out);have O5:=aj ((OC.out.below B4.out).kp K5.out (by have:=UB.out.2;have:=Z1.out;omega));go_upto_region 10 with fail
   have BA:Hid (Below _ v5 (v5.alloc (Obj.cells #[int i64 (c:Nat)] 3))):=(Below.refl _ _).alloc (Nat.le_refl _) _;have C6:Hid ((v5.alloc (Obj.cells #[.int _ _] 3)).cell? ⟨v5.heap.size,0,none⟩=some (int i64 (c:Nat))):=dh rfl rfl;have O6:=aj (O5.out.below BA.out);have S6:=aj (Nat.le_trans P5.out.size BA.out.size);go_wp2_with (at_builtin;refine gJ _ rfl _ _ rfl w1.heap.size _ cells rfl O6.out _ (c:Nat) rfl C6.out (by omega) S6.out ?_);intro Yh gc v7 o7 g7 _ _;have O7:=aj (o7);have P7:=aj (Ae (P5.out.trans (Kp.of BA.out)) g7 (λb hb=>(O6.out.block b hb).1));have U7:Hid (Ub v7 g (us1.set i {u1 with at_:=(c:Nat)}) rest):=by
    have h6:=U5.out.below BA.out U5.out.lt;unfold Ub at h6;unfold Hid Ub;rw[g7.block g (lt_of_block h6) (λe=>by have:=(O6.out.block g e.symm).1;have:=UB.out.2;have:=Z1.out;omega)];exact h6
   have US2:Hid (us1.set i {u1 with at_:=(c:Nat)}=us.set i {u with at_:=(c:Nat)}):=by
    unfold Hid;rw[<-F1.out.2.2.2.1,List.set_set,<-F1.out.2.2.1]
   have HG2:Hid (∀cells' us',Goes ks X Wn Hn k i (us.set i {u with at_:=(c:Nat)}) (left-s) cells' us'->Goes ks X Wn Hn k i us k.n4 ((cells++[(c:Int)])++cells') us'):=λcells' us' h=>by
    have h9:=HG.out ((c:Int)::cells') us' (.step F1.out.1 WS.out.1 WS.out.2.2 (by rw[SS.out];omega) TK.out (by rw[US2.out,SS.out];exact h));rw[List.append_assoc];exact h9
   clear o7 g7 BA C6 O6 S6 O5 P5 U5 K5 U4;go_wp2;go_round
   case rel=>exact⟨(c:Nat),left-s,cells++[(c:Int)],_,rfl,rfl,by omega,by rw[List.length_append];simp;omega,⟨by omega,by have:=WS.out.2.1;omega⟩,by rw[<-US2.out];exact U7.out,O7.out,P7.out,HG2.out⟩
   case measure=>simp[intOf];omega
def ends(u:aC):aC:=if u.task=1/\u.at_=u.goal then{u with task:=0,goal:=0} else u
inductive Moves (ks:List KV) (X:WV) (Wn Hn:Nat):Nat->List aC->List bM->List aC->Prop where
 |done {n:Nat} {us:List aC} (h:n=us.length):Moves ks X Wn Hn n us [] us
 |unit {n:Nat} {us us1 us':List aC} {u u1:aC} {k:KV} {cells:List Int} {evs:List bM} (hu:us[n]? =some u) (hk:ks[u.kind.toNat]? =some k) (hg:Goes ks X Wn Hn k n us k.n4 cells us1) (h1:us1[n]? =some u1) (hm:Moves ks X Wn Hn (n+1) (us1.set n (ends u1)) evs us'):Moves ks X Wn Hn n us (cells.map (λc=>(⟨1,u.id,c⟩:bM))++evs) us'
def IY(ks:List KV)(X:WV)(w w':World)(v ev:Value):Prop:=
 (Wd.aF ks X≠0/\v=.agg #[int i64 0,int i64 0,int i64 0,int i64 0,slice none 0 0,slice none 0 0,slice none 0 0,slice none 0 0,slice none 0 0]/\ev=slice none 0 0)
 \/(Wd.aF ks X=0/\∃Wn Hn:Nat,X.wide=(Wn:Nat)/\X.high=(Hn:Nat)/\Fd.Good Wn Hn X.gs X.os/\∃us' evs,Moves ks X Wn Hn 0 X.us evs us'/\us'.length=X.us.length/\Wo w' w.heap.size v {X with us:=us'}/\dY w' w.heap.size ev evs)
def Alike(ks:List KV)(n:Nat)(us0 us:List aC):Prop:=us.length=us0.length/\∀(j:Nat) (v:aC),us[j]? =some v->∃u,us0[j]? =some u/\v.kind=u.kind/\v.id=u.id/\Fit ks n v/\(0<=v.goal/\v.goal<(n:Int))
theorem Alike.fits{ks:List KV}{n:Nat}{us0 us:List aC}(h:Alike ks n us0 us):∀v∈us,Fit ks n v:=λv hv=>by
 obtain⟨j,hj⟩:=List.mem_iff_getElem?.1 hv;obtain⟨u,-,-,-,h1,-⟩:=h.2 j v hj;exact h1
theorem Alike.set{ks:List KV}{n:Nat}{us0 us:List aC}(h:Alike ks n us0 us){i:Nat}{u v:aC}(hu:us[i]? =some u)(hk:v.kind=u.kind)(hi:v.id=u.id)(hf:Fit ks n v)(hg:0<=v.goal/\v.goal<(n:Int)):Alike ks n us0 (us.set i v):=by
 refine⟨by rw[List.length_set];exact h.1,λj x hj=>?_⟩;by_cases hij:i=j
 ·subst hij
  rw[List.getElem?_set_self (List.getElem?_eq_some_iff.1 hu).1] at hj;injection hj with hj
  subst hj;obtain⟨u0,h1,h2,h3,-,-⟩:=h.2 i u hu;exact⟨u0,h1,by rw[hk,h2],by rw[hi,h3],hf,hg⟩
 ·rw[List.getElem?_set_ne hij] at hj
  exact h.2 j x hj
theorem IZ(vk vw:Value)(ks:List KV)(X:WV)(w:World)(hk:Kl w vk ks)(hb:∀k∈ks,k.b.size<=9223372036854775807)(hw:Wl w vw X)(hs:Sd w):
  Calls Tryz.prog 59 #[vk,vw] w λe w'=>∃v ev r,e=.returned (.tuple #[v,ev,r])/\Er r (Wd.aF ks X)/\IY ks X w w' v ev/\Below w.heap.size w w':=by
 have K:Hid (Kl w vk ks/\∀k∈ks,k.b.size<=9223372036854775807):=⟨hk,hb⟩;have H:=aj (hw);have S:=aj (hs);obtain⟨p1,q1,p2,q2,p3,q3,p4,q4,p5,q5,rfl⟩:=aV hw;obtain⟨pk,qk,rfl,ck1,ck2,kc⟩:=hk;clear hb hw hs kc;go_enter Tryz.func59,Tryz.ntmps59;go_upto_region 1 with fail
 obtain⟨B0,X0,Z0⟩:=n_ w (int i64 X.turn) (int i64 X.next) (int i64 X.wide) (int i64 X.high) (slice p1 X.gs.length q1) (slice p2 X.os.length q2) (slice p3 X.gold.length q3) (slice p4 X.us.length q4) (slice p5 X.qs.length q5);generalize ((w.alloc _).alloc _)=w0 at *;obtain⟨x0,x1,x2,x3,x4,x5,x6,x7,x8⟩:=X0.out.cells;go_wp2_with fail
 refine(dI _ _ ks X w0 (K.out.1.below B0.out) K.out.2 (H.out.below B0.out)).mono ?_;rintro e w1 ⟨r,rfl,hr,hb⟩;obtain⟨fw,hfw⟩:∃f,Wd.aF ks X=f:=⟨_,rfl⟩;have FW:=aj (hfw);rw[hfw] at hr;have B1:=aj (B0.out.trans (hb.mono B0.out.size));have X1:=aj (X0.out.below hb X0.out.lt);have Z1:=aj (Z0.out.below hb Z0.out.lt);clear hb hfw x0 x1 x2 x3 x4 x5 x6 x7 x8 X0 B0 Z0;rcases hr with⟨rfl,rfl⟩|⟨hf,rfl⟩
 case inr=>
  have HF:=aj (hf);clear hf;obtain⟨z0,z1,z2,z3,z4,z5,z6,z7,z8⟩:=Z1.out.cells;obtain⟨t0,t1,t2,t3,t4,t5,t6,t7,t8⟩:=Z1.out.bC;have KZ:=aj (dF w1 (w.heap.size+1));obtain⟨y0,y1,y2,y3,y4,y5,y6,y7,y8⟩:=(Z1.out.jJ).cells;go_wp2;clear z0 z1 z2 z3 z4 z5 z6 z7 z8 t0 t1 t2 t3 t4 t5 t6 t7 t8;generalize World.setCell _ ⟨_,8,none⟩ _=w9 at *;refine bodyPost_ret (v:=.tuple #[.agg _,slice _ 0 0,.iface 85 (int i64 fw)]) (by simp[results,Tryz.results59,go_sem,y0,y1,y2,y3,y4,y5,y6,y7,y8]) rfl ⟨_,_,_,rfl,by rw[FW.out];exact Er.no HF.out,.inl ⟨by rw[FW.out];exact HF.out,rfl,rfl⟩,KZ.out.below B1.out B1.out.size (by omega)⟩
 have WR:=aj (aY FW.out);obtain⟨Wn,Hn,e1,e2,G⟩:=WR.out.good;have GD:=aj (iG G e1 e2);clear e1 e2 G;obtain⟨x0,x1,x2,x3,x4,x5,x6,x7,x8⟩:=X1.out.cells;go_wp2_with fail
 refine(gy _ X w1 (H.out.below B1.out) WR.out.len).mono ?_;rintro e w2 ⟨cu,rfl,⟨k1,k2,k3,k4,k5,rfl,⟨o1,o2,o3,o4,o5⟩,-,-,d14,-,-,d24,-,d34,-,d45⟩,hb⟩;obtain⟨a1,r1,rfl⟩:=o1.len;obtain⟨a2,r2,rfl⟩:=o2.len;obtain⟨a3,r3,rfl⟩:=o3.len;obtain⟨a5,r5,rfl⟩:=o5.len;obtain⟨b1,hb1⟩:∃z,w1.heap.size=z:=⟨_,rfl⟩;rw[hb1] at o1 o2 o3 o4 o5;have BS:Hid (w.heap.size+1<b1/\b1<=w2.heap.size):=⟨by rw[<-hb1];exact Z1.out.lt,by rw[<-hb1];exact hb.size⟩;have X2:=aj (X1.out.below hb X1.out.lt);have Z2:=aj (Z1.out.below hb Z1.out.lt);have B2:=aj (B1.out.trans (hb.mono B1.out.size));clear hb hb1 x0 x1 x2 x3 x4 x5 x6 x7 x8 X1 Z1 B1;obtain⟨z0,z1,z2,z3,z4,z5,z6,z7,z8⟩:=X2.out.cells;obtain⟨t0,t1,t2,t3,t4,t5,t6,t7,t8⟩:=X2.out.bC;rcases o4.ub with⟨rfl,hnil⟩|⟨g,r4,rest,rfl,hbg,hkc,hcm,hcl,hub⟩
 ·
  have KZ:=aj (bP w2 w.heap.size (int i64 X.turn) (int i64 X.next) (int i64 X.wide) (int i64 X.high) (slice a1 X.gs.length r1) (slice a2 X.os.length r2) (slice a3 X.gold.length r3) (slice none 0 0) (slice a5 X.qs.length r5));have XE:=aj (X2.out.put (int i64 X.turn) (int i64 X.next) (int i64 X.wide) (int i64 X.high) (slice a1 X.gs.length r1) (slice a2 X.os.length r2) (slice a3 X.gold.length r3) (slice none 0 0) (slice a5 X.qs.length r5));have NIL:=aj (hnil);have O2:=aj (jD o1 o2 o3 o5);clear o1 o2 o3 o4 o5 d14 d24 d34 d45 hnil;go_upto_region 5 with fail
  clear z0 z1 z2 z3 z4 z5 z6 z7 z8 t0 t1 t2 t3 t4 t5 t6 t7 t8;generalize World.setCell _ ⟨_,8,none⟩ _=w3 at *;have ZE:=aj (Z2.out.kp KZ.out (by omega));have BE:=aj (KZ.out.below B2.out B2.out.size (Nat.le_refl _));have O3:Hid (Ow w3 b1 (slice a1 X.gs.length r1) X.gs/\Ow w3 b1 (slice a2 X.os.length r2) X.os/\Ow w3 b1 (slice a3 X.gold.length r3) X.gold/\dK w3 b1 (slice a5 X.qs.length r5) X.qs):=by
   have h:=BS.out.1;exact⟨O2.out.1.kp KZ.out (by omega),O2.out.2.1.kp KZ.out (by omega),O2.out.2.2.1.kp KZ.out (by omega),O2.out.2.2.2.kp KZ.out (by omega)⟩
  clear KZ X2 Z2 B2 O2;obtain⟨-,-,-,-,-,-,-,w7,-⟩:=XE.out.cells;go_upto_region 7 with fail
  clear w7;refine wp_loop_rounds 1 ?_;rw[rounds_succ];obtain⟨x0,x1,x2,x3,x4,x5,x6,x7,x8⟩:=XE.out.cells;obtain⟨z0,z1,z2,z3,z4,z5,z6,z7,z8⟩:=ZE.out.cells;obtain⟨t0,t1,t2,t3,t4,t5,t6,t7,t8⟩:=ZE.out.bC;have KZ:=aj (bP w3 (w.heap.size+1) (int i64 X.turn) (int i64 X.next) (int i64 X.wide) (int i64 X.high) (slice a1 X.gs.length r1) (slice a2 X.os.length r2) (slice a3 X.gold.length r3) (slice none 0 0) (slice a5 X.qs.length r5));obtain⟨y0,y1,y2,y3,y4,y5,y6,y7,y8⟩:=(ZE.out.put (int i64 X.turn) (int i64 X.next) (int i64 X.wide) (int i64 X.high) (slice a1 X.gs.length r1) (slice a2 X.os.length r2) (slice a3 X.gold.length r3) (slice none 0 0) (slice a5 X.qs.length r5)).cells;go_wp2;clear x0 x1 x2 x3 x4 x5 x6 x7 x8 z0 z1 z2 z3 z4 z5 z6 z7 z8 t0 t1 t2 t3 t4 t5 t6 t7 t8;generalize World.setCell _ ⟨_,8,none⟩ _=wz at *;refine bodyPost_ret (v:=.tuple #[.agg #[int i64 X.turn,int i64 X.next,int i64 X.wide,int i64 X.high,slice a1 X.gs.length r1,slice a2 X.os.length r2,slice a3 X.gold.length r3,slice none 0 0,slice a5 X.qs.length r5],slice none 0 0,.nilIface]) (by simp[results,Tryz.results59,go_sem,y0,y1,y2,y3,y4,y5,y6,y7,y8]) rfl ⟨_,_,_,rfl,by rw[FW.out];exact Er.nil,.inr ⟨FW.out,Wn,Hn,GD.out.2.1,GD.out.2.2,GD.out.1,X.us,[],.done (by rw[NIL.out];rfl),rfl,?_,dY.nil _ _⟩,KZ.out.below BE.out BE.out.size (by omega)⟩;have h:=BS.out.1;exact⟨_,_,_,_,_,rfl,(O3.out.1.kp KZ.out (by omega)).mono (by omega),(O3.out.2.1.kp KZ.out (by omega)).mono (by omega),(O3.out.2.2.1.kp KZ.out (by omega)).mono (by omega),by rw[NIL.out];exact dQ.nil _ _,(O3.out.2.2.2.kp KZ.out (by omega)).mono (by omega)⟩
 have KZ:=aj (bP w2 w.heap.size (int i64 X.turn) (int i64 X.next) (int i64 X.wide) (int i64 X.high) (slice a1 X.gs.length r1) (slice a2 X.os.length r2) (slice a3 X.gold.length r3) (slice (some ⟨g,0,none⟩) X.us.length r4) (slice a5 X.qs.length r5));have X3:=aj (X2.out.put (int i64 X.turn) (int i64 X.next) (int i64 X.wide) (int i64 X.high) (slice a1 X.gs.length r1) (slice a2 X.os.length r2) (slice a3 X.gold.length r3) (slice (some ⟨g,0,none⟩) X.us.length r4) (slice a5 X.qs.length r5));have O2:=aj (fK o1 o2 o3 o5 hub);have DD:Hid ((∀b,((slice a1 X.gs.length r1)).ownBlock=some b->some g≠some b)/\(∀b,((slice a2 X.os.length r2)).ownBlock=some b->some g≠some b)/\(∀b,((slice a3 X.gold.length r3)).ownBlock=some b->some g≠some b)/\(∀b,((slice a5 X.qs.length r5)).ownBlock=some b->some g≠some b)):=⟨λb h e=>d14 b h e,λb h e=>d24 b h e,λb h e=>d34 b h e,λb h e=>d45 b e h⟩;have CP:=aj (jD hbg hkc hcm hcl);have hr4:r4<=9223372036854775807:=by unfold maxLen at hcm;omega
 have hr4':=hkc;have zQ:=WR.out.ul;clear o1 o2 o3 o4 o5 d14 d24 d34 d45 hbg hkc hcm hcl hub;go_upto_region 5 with fail
 clear z0 z1 z2 z3 z4 z5 z6 z7 z8 t0 t1 t2 t3 t4 t5 t6 t7 t8;generalize World.setCell _ ⟨_,8,none⟩ _=w3 at *;have Z3:=aj (Z2.out.kp KZ.out (by omega));have B3:=aj (KZ.out.below B2.out B2.out.size (Nat.le_refl _));have O3:Hid (Ow w3 b1 (slice a1 X.gs.length r1) X.gs/\Ow w3 b1 (slice a2 X.os.length r2) X.os/\Ow w3 b1 (slice a3 X.gold.length r3) X.gold/\dK w3 b1 (slice a5 X.qs.length r5) X.qs/\Ub w3 g X.us rest):=by
  have h:=BS.out.1;refine⟨O2.out.1.kp KZ.out (by omega),O2.out.2.1.kp KZ.out (by omega),O2.out.2.2.1.kp KZ.out (by omega),O2.out.2.2.2.1.kp KZ.out (by omega),?_⟩;have h9:=O2.out.2.2.2.2;unfold Ub at *;rw[KZ.out.block g (lt_of_block h9) (by have:=CP.out.1;omega)];exact h9
 clear KZ X2 Z2 B2 O2;have ST:Hid (∀V us',us'.length=X.us.length->Kp g w3 V->Ub V g us' rest->Wl V (.agg #[int i64 X.turn,int i64 X.next,int i64 X.wide,int i64 X.high,slice a1 X.gs.length r1,slice a2 X.os.length r2,slice a3 X.gold.length r3,slice (some ⟨g,0,none⟩) X.us.length r4,slice a5 X.qs.length r5]) {X with us:=us'}/\Kl V (slice pk ks.length qk) ks/\Sd V/\Wx V (w.heap.size) (int i64 X.turn) (int i64 X.next) (int i64 X.wide) (int i64 X.high) (slice a1 X.gs.length r1) (slice a2 X.os.length r2) (slice a3 X.gold.length r3) (slice (some ⟨g,0,none⟩) X.us.length r4) (slice a5 X.qs.length r5)/\Wx V (w.heap.size+1) (int i64 0) (int i64 0) (int i64 0) (int i64 0) (slice none 0 0) (slice none 0 0) (slice none 0 0) (slice none 0 0) (slice none 0 0)/\Below w.heap.size w V/\Ow V b1 (slice a1 X.gs.length r1) X.gs/\Ow V b1 (slice a2 X.os.length r2) X.os/\Ow V b1 (slice a3 X.gold.length r3) X.gold/\dK V b1 (slice a5 X.qs.length r5) X.qs):=λV us' hl hk hu=>by
  have hb:=hk.below B3.out B3.out.size (by have:=CP.out.1;have:=BS.out.1;omega);have o1:Ow V b1 _ _:=bK O3.out.1 (ny hk) DD.out.1;have o2:Ow V b1 _ _:=bK O3.out.2.1 (ny hk) DD.out.2.1;have o3:Ow V b1 _ _:=bK O3.out.2.2.1 (ny hk) DD.out.2.2.1;have o5:dK V b1 _ _:=bK O3.out.2.2.2.1 (ny hk) DD.out.2.2.2;have hu':=hu.Ql (base:=b1) (cap:=r4) CP.out.1 (by rw[hl];exact CP.out.2.1) CP.out.2.2.1 (by rw[hl];exact CP.out.2.2.2);rw[hl] at hu';exact⟨⟨_,_,_,_,_,rfl,o1.ro,o2.ro,o3.ro,hu'.l,o5.l⟩,K.out.1.below hb,S.out.below hb,X3.out.kp hk (by have:=CP.out.1;have:=BS.out.1;omega),Z3.out.kp hk (by have:=CP.out.1;have:=BS.out.1;omega),hb,o1,o2,o3,o5⟩
 obtain⟨-,-,-,-,-,-,-,w7,-⟩:=X3.out.cells;go_upto_region 7 with fail
 clear w7;have GL:=aj (O3.out.2.2.2.2.lt);go_loopw [8,25] (λv8 v25 V=>∃(n:Nat) (us1:List aC) (evs:List bM) (ev:Value),ev=v8/\v25=int i64 (n:Nat)/\n<=X.us.length/\Alike ks (Wn*Hn) X.us us1/\Ub V g us1 rest/\dY V w3.heap.size ev evs/\evs.length<=4*n/\Kp g w3 V/\(∀nK us',Moves ks X Wn Hn n us1 nK us'->Moves ks X Wn Hn 0 X.us (evs++nK) us')) (λ_ v25 _=>X.us.length-(intOf v25).toNat)
 case atStart=>exact⟨0,X.us,[],_,rfl,rfl,Nat.zero_le _,⟨rfl,λj v hj=>⟨v,hj,rfl,rfl,xY WR.out GD.out.1 v (List.mem_of_getElem? hj)⟩⟩,O3.out.2.2.2.2,dY.nil _ _,Nat.le_refl _,Kp.refl _ _,λ_ _ h=>h⟩
 case round=>
  obtain⟨n,us1,evs,ev,rfl,rfl,hn,hal,hub,hev,hel,hkp,hmo⟩:=hrel;have AL:=aj (hal);have U4:=aj (hub);have E4:Hid (dY wr w3.heap.size ev evs/\evs.length<=4*n):=⟨hev,hel⟩;have P4:=aj (hkp);have MO:=aj (hmo);have A4:=ST.out wr us1 hal.1 hkp hub;obtain⟨-,-,-,ax,az,ab,ao1,ao2,ao3,ao5⟩:=A4;clear hal hub hev hel hkp hmo;by_cases h0:n=X.us.length
  ·subst h0
   have hnl:¬(((X.us.length:Nat):Int)<(X.us.length:Nat)):=by omega
   have XE:=aj (ax);have ZE:=aj (az);have BE:=aj (ab);have OE:=aj (jD ao1 ao2 ao3 ao5);have UE:Hid (dQ wr b1 (slice (some ⟨g,0,none⟩) X.us.length r4) us1):=by
    have hl:=AL.out.1;have:=U4.out.Ql (base:=b1) (cap:=r4) CP.out.1 (by rw[hl];exact CP.out.2.1) CP.out.2.2.1 (by rw[hl];exact CP.out.2.2.2);rw[hl] at this;exact this
   have FIN:Hid (Moves ks X Wn Hn 0 X.us evs us1):=by
    have:=MO.out [] us1 (.done AL.out.1.symm);rw[List.append_nil] at this;exact this
   have B13:Hid (b1<=w3.heap.size):=by have:=CP.out.1;have:=GL.out;unfold Hid;omega
   clear ax az ab ao1 ao2 ao3 ao5;obtain⟨x0,x1,x2,x3,x4,x5,x6,x7,x8⟩:=XE.out.cells;obtain⟨z0,z1,z2,z3,z4,z5,z6,z7,z8⟩:=ZE.out.cells;obtain⟨t0,t1,t2,t3,t4,t5,t6,t7,t8⟩:=ZE.out.bC;have KZ:=aj (bP wr (w.heap.size+1) (int i64 X.turn) (int i64 X.next) (int i64 X.wide) (int i64 X.high) (slice a1 X.gs.length r1) (slice a2 X.os.length r2) (slice a3 X.gold.length r3) (slice (some ⟨g,0,none⟩) X.us.length r4) (slice a5 X.qs.length r5));obtain⟨y0,y1,y2,y3,y4,y5,y6,y7,y8⟩:=(ZE.out.put (int i64 X.turn) (int i64 X.next) (int i64 X.wide) (int i64 X.high) (slice a1 X.gs.length r1) (slice a2 X.os.length r2) (slice a3 X.gold.length r3) (slice (some ⟨g,0,none⟩) X.us.length r4) (slice a5 X.qs.length r5)).cells;go_wp2;clear x0 x1 x2 x3 x4 x5 x6 x7 x8 z0 z1 z2 z3 z4 z5 z6 z7 z8 t0 t1 t2 t3 t4 t5 t6 t7 t8;generalize World.setCell _ ⟨_,8,none⟩ _=wz at *;refine bodyPost_ret (v:=.tuple #[.agg #[int i64 X.turn,int i64 X.next,int i64 X.wide,int i64 X.high,slice a1 X.gs.length r1,slice a2 X.os.length r2,slice a3 X.gold.length r3,slice (some ⟨g,0,none⟩) X.us.length r4,slice a5 X.qs.length r5],ev,.nilIface]) (by simp[results,Tryz.results59,go_sem,y0,y1,y2,y3,y4,y5,y6,y7,y8]) rfl ⟨_,_,_,rfl,by rw[FW.out];exact Er.nil,.inr ⟨FW.out,Wn,Hn,GD.out.2.1,GD.out.2.2,GD.out.1,us1,evs,FIN.out,AL.out.1,?_,?_⟩,KZ.out.below BE.out BE.out.size (by omega)⟩
   ·have h:=BS.out.1
    exact⟨_,_,_,_,_,rfl,(OE.out.1.kp KZ.out (by omega)).mono (by omega),(OE.out.2.1.kp KZ.out (by omega)).mono (by omega),(OE.out.2.2.1.kp KZ.out (by omega)).mono (by omega),(UE.out.kp KZ.out (by omega)).mono (by omega),(OE.out.2.2.2.kp KZ.out (by omega)).mono (by omega)⟩
   ·have h:=BS.out.1
    have h':=B13.out;exact(E4.out.1.kp9 KZ.out (by omega)).mono (by omega)
  ·have hnl:n<X.us.length:=by omega
   have hni:((n:Nat):Int)<(X.us.length:Nat):=by omega
   have hn1:n<us1.length:=by rw[AL.out.1];exact hnl
   obtain⟨u,hu⟩:∃u,us1[n]? =some u:=⟨_,List.getElem?_eq_getElem hn1⟩;obtain⟨u0,hu0,Yi,QD,hfit,hgoal⟩:=AL.out.2 n u hu;obtain⟨k,f0⟩:=WR.out.fine hu0;have hkk:ks[u.kind.toNat]? =some k:=by rw[Yi];exact f0.kk
   have hsp:=jY WR.out.kinds (List.mem_of_getElem? hkk);have UH:Hid (us1[n]? =some u/\ks[u.kind.toNat]? =some k/\Fit ks (Wn*Hn) u/\(0<=u.goal/\u.goal<(Wn*Hn:Nat))/\(0<=k.n4/\k.n4<=4)):=⟨hu,hkk,hfit,hgoal,hsp.2.2.1,hsp.2.2.2.1⟩;have WN:IntKind.i64.wrap ((n:Nat)+1:Int)=((n:Nat):Int)+1:=by rw[IntKind.wrap_i64];omega
   have BE:=aj (ab);obtain⟨x0,x1,x2,x3,x4,x5,x6,x7,x8⟩:=ax.cells;have WK:Hid (Calls Tryz.prog 107 #[slice pk ks.length qk,.agg #[int i64 X.turn,int i64 X.next,int i64 X.wide,int i64 X.high,slice a1 X.gs.length r1,slice a2 X.os.length r2,slice a3 X.gold.length r3,slice (some ⟨g,0,none⟩) X.us.length r4,slice a5 X.qs.length r5],.pointer (some ⟨g,n*8,none⟩)] wr λe w'=>∃v us' cells,e=.returned v/\Ow w' wr.heap.size v cells/\Goes ks X Wn Hn k n us1 k.n4 cells us'/\Ub w' g us' rest/\Kp g wr w'/\cells.length<=4/\(∃a,us'=us1.set n {u with at_:=a}/\0<=a/\a<(Wn*Hn:Nat))):=by
    have h:=walk_any (slice pk ks.length qk) ks X us1 (slice a1 X.gs.length r1) (slice a2 X.os.length r2) (slice a3 X.gold.length r3) (slice a5 X.qs.length r5) g r4 n rest u k Wn Hn wr (K.out.1.below BE.out) (S.out.below BE.out) GD.out.1 GD.out.2.1 GD.out.2.2 (λV us' hl hk hu=>by
     have h9:=ST.out V us' (by rw[hl,AL.out.1]) (P4.out.trans hk) hu;rw[AL.out.1];exact⟨h9.1,h9.2.1,h9.2.2.1⟩) U4.out UH.out.1 UH.out.2.1 (by rw[AL.out.1];exact zQ) AL.out.fits UH.out.2.2.2.1 UH.out.2.2.2.2
    rw[AL.out.1] at h;exact h
   clear ax az ab ao1 ao2 ao3 ao5 hu hu0 Yi QD hfit hgoal f0 hkk hsp;go_wp2_with fail
   refine Calls.mono WK.out ?_;rintro e v2 ⟨cv,us2,cells,rfl,hoc,hgo,Uf,QE,hc4,a,QF,ha⟩;obtain⟨u2,hu2⟩:∃v:aC,{u with at_:=a}=v:=⟨_,rfl⟩;have hi2:us2[n]? =some u2:=by rw[QF,hu2,List.getElem?_set_self hn1]
   have H2:Hid (us2[n]? =some u2/\us2.length=X.us.length/\Alike ks (Wn*Hn) X.us us2/\u2.id=u.id/\u2.kind=u.kind/\Fit ks (Wn*Hn) u2/\(0<=u2.goal/\u2.goal<(Wn*Hn:Nat))/\n<us2.length):=by
    have hf:Fit ks (Wn*Hn) u2:=by rw[<-hu2];exact⟨UH.out.2.2.1.1,ha⟩
    have hg2:0<=u2.goal/\u2.goal<(Wn*Hn:Nat):=by rw[<-hu2];exact UH.out.2.2.2.1
    have hal2:Alike ks (Wn*Hn) X.us us2:=by rw[QF,hu2];exact AL.out.set UH.out.1 (by rw[<-hu2]) (by rw[<-hu2]) hf hg2
    exact⟨hi2,hal2.1,hal2,by rw[<-hu2],by rw[<-hu2],hf,hg2,(List.getElem?_eq_some_iff.1 hi2).1⟩
   obtain⟨ac,cc,rfl⟩:=hoc.len;obtain⟨bo,Yj⟩:∃z,wr.heap.size=z:=⟨_,rfl⟩;rw[Yj] at hoc;have OC:=aj (hoc);have GO:Hid (Goes ks X Wn Hn k n us1 k.n4 cells us2/\cells.length<=4):=⟨hgo,hc4⟩;have U5:=aj (Uf);have P5:=aj (P4.out.trans QE);have E5:=aj (E4.out.1.kp9 QE GL.out);have DE:Hid (∀b,ev.ownBlock=some b->(slice ac cells.length cc).ownBlock≠some b):=λb h1 h2=>by
    have:=(E4.out.1.block b h1).2;have:=(hoc.block b h2).1;omega
   have EL:=aj (E4.out.2);have hcc:cells.length<=cc/\cc<=9223372036854775807:=by
    obtain⟨a9,c9,h9,h8,h7,-⟩:=hoc.ro;injection h9 with _ _ h9
    subst h9;exact⟨h8,h7⟩
   obtain⟨YK,YM⟩:=hcc;clear hoc hgo Uf QE QF ha hu2 hi2 Yj x0 x1 x2 x3 x4 x5 x6 x7 x8 WK U4 P4 E4 BE;generalize wr=wo at *;go_upto_region 11 with fail
   go_loopw [8,37] (λv8 v37 V=>∃(m:Nat) (ev':Value),ev'=v8/\v37=int i64 (m:Nat)/\m<=cells.length/\Ub V g us2 rest/\dY V w3.heap.size ev' (evs++(cells.take m).map (λc=>(⟨1,u.id,c⟩:bM)))/\Kp g w3 V/\Ow V bo (slice ac cells.length cc) cells/\(∀b,ev'.ownBlock=some b->(slice ac cells.length cc).ownBlock≠some b)) (λ_ v37 _=>cells.length-(intOf v37).toNat)
   case atStart=>exact⟨0,_,rfl,rfl,Nat.zero_le _,U5.out,by simpa using E5.out,P5.out,OC.out,DE.out⟩
   case round=>
    obtain⟨m,ev',rfl,rfl,hm,hub,hev,hkp,hoc,hde⟩:=hrel;have U6:=aj (hub);have E6:=aj (hev);have P6:=aj (hkp);have O6:=aj (hoc);have D6:=aj (hde);clear hub hev hkp hoc hde U5 E5 P5 OC DE;obtain⟨y0,y1,y2,y3,y4,y5,y6,y7⟩:=U6.out.kQ H2.out.1;by_cases h0:m=cells.length
    ·subst h0
     have hml:¬(((cells.length:Nat):Int)<(cells.length:Nat)):=by omega
     rw[List.take_of_length_le (Nat.le_refl _)] at E6;obtain⟨qH,Au⟩:∃l,evs++cells.map (λc=>(⟨1,u.id,c⟩:bM))=l:=⟨_,rfl⟩;rw[Au] at E6;have EL2:Hid (qH.length<=4*(n+1)):=by
      unfold Hid;rw[<-Au,List.length_append,List.length_map];have:=EL.out;have:=GO.out.2;omega
     have MO2:Hid (∀nK us',Moves ks X Wn Hn (n+1) (us2.set n (ends u2)) nK us'->Moves ks X Wn Hn 0 X.us (qH++nK) us'):=λnK us' h=>by
      have:=MO.out (cells.map (λc=>(⟨1,u.id,c⟩:bM))++nK) us' (.unit UH.out.1 UH.out.2.1 GO.out.1 H2.out.1 h);rw[<-List.append_assoc,Au] at this;exact this
     clear Au;have Ug:Hid (us2.set n u2=us2):=by
      unfold Hid;obtain⟨h2,h3⟩:=List.getElem?_eq_some_iff.1 H2.out.1;rw[<-h3,List.set_getElem_self]
     go_upto_region 15 with fail
     by_cases ht:u2.task=1
     ·have ht':(u2.task==1)=true:=by rw[ht];rfl
      have C5:Hid (∀V,Below wr.heap.size wr V->dB V ⟨g,n*8,none⟩ u2):=λV hb=>(U6.out.below hb U6.out.lt).kQ H2.out.1
      clear y0 y1 y2 y3 y4 y5 y6 y7;by_cases hg:u2.at_=u2.goal
      ·have hg':(u2.at_==u2.goal)=true:=by rw[hg];simp
       have EN:Hid (ends u2={u2 with task:=0,goal:=0}):=by unfold Hid ends;rw[if_pos ⟨ht,hg⟩]
       clear ht hg;refine aH [(true,0),(true,1),(true,2),(true,3),(true,4),(true,5),(true,6),(true,7),(true,8),(true,9),(true,10),(true,11),(true,12),(true,13),(true,14)] [(false,15)] (λV=>dB V ⟨g,n*8,none⟩ u2) (by kernel_rfl) (by kernel_rfl) (by kernel_rfl) (by decide+kernel) (by decide+kernel) (C5.out _ ((Below.refl _ _).drew)) ?_;have D1:Hid (Below wr.heap.size wr {wr with drawn:=wr.drawn+1}):=(Below.refl _ _).drew;generalize ({wr with drawn:=wr.drawn+1}:World)=v7 at *;refine ay rfl (.pointer (some ⟨g,n*8,none⟩)) (by go_simp) (λV hV=>by go_simp) ?_;go_simp;refine ay rfl (.pointer (some ⟨g,n*8,none⟩)) (by go_simp) (λV hV=>by go_simp) ?_;go_simp;refine ay rfl (.pointer (some ⟨g,n*8+6,none⟩)) (by go_simp) (λV hV=>by go_simp) ?_;go_simp;refine ay rfl (int i64 u2.task) (by go_simp) (λV hV=>by obtain⟨y0,y1,y2,y3,y4,y5,y6,y7⟩:=hV;go_simp) ?_;go_simp;refine ay rfl (.bool true) (by go_simp) (λV hV=>by go_simp) ?_;go_simp;refine ay rfl (.bool true) (by go_simp) (λV hV=>by go_simp) ?_;go_simp;refine ay rfl (.pointer (some ⟨g,n*8,none⟩)) (by go_simp) (λV hV=>by go_simp) ?_;go_simp;refine ay rfl (.pointer (some ⟨g,n*8,none⟩)) (by go_simp) (λV hV=>by go_simp) ?_;go_simp;refine ay rfl (.pointer (some ⟨g,n*8+3,none⟩)) (by go_simp) (λV hV=>by go_simp) ?_;go_simp;refine ay rfl (int i64 u2.at_) (by go_simp) (λV hV=>by obtain⟨y0,y1,y2,y3,y4,y5,y6,y7⟩:=hV;go_simp) ?_;go_simp;refine ay rfl (.pointer (some ⟨g,n*8,none⟩)) (by go_simp) (λV hV=>by go_simp) ?_;go_simp;refine ay rfl (.pointer (some ⟨g,n*8,none⟩)) (by go_simp) (λV hV=>by go_simp) ?_;go_simp;refine ay rfl (.pointer (some ⟨g,n*8+7,none⟩)) (by go_simp) (λV hV=>by go_simp) ?_;go_simp;refine ay rfl (int i64 u2.goal) (by go_simp) (λV hV=>by obtain⟨y0,y1,y2,y3,y4,y5,y6,y7⟩:=hV;go_simp) ?_;go_simp;refine ay rfl (.bool true) (by go_simp) (λV hV=>by go_simp) ?_;go_simp;unfold aW;refine aN rfl (.bool true) v7 (by go_simp) (by go_simp) trivial ?_;go_simp;unfold aP;have U7:=aj (U6.out.below D1.out U6.out.lt);have c6:=(U7.out.kQ H2.out.1).c6;have t6:=U7.out.thaw (n*8+6);have U8:=aj (U7.out.Gm H2.out.1 0);have hs8:(us2.set n _)[n]? =some {u2 with task:=0}:=List.getElem?_set_self H2.out.2.2.2.2.2.2.2;have c7:=(U8.out.kQ hs8).c7;have t7:=U8.out.thaw (n*8+7);have U9:Hid (Ub ((v7.setCell ⟨g,n*8+6,none⟩ (int i64 0)).setCell ⟨g,n*8+7,none⟩ (int i64 0)) g (us2.set n {u2 with task:=0,goal:=0}) rest):=by
        have:=U8.out.wS hs8 0;rw[List.set_set] at this;exact this
       have K9:Hid (Kp g v7 ((v7.setCell ⟨g,n*8+6,none⟩ (int i64 0)).setCell ⟨g,n*8+7,none⟩ (int i64 0))):=(Kp.set _ _ _).trans (Kp.set _ _ _);clear hs8;go_upto_region 17 with fail
       clear c6 t6 c7 t7 U8 U7;generalize ((v7.setCell _ _).setCell _ _)=v9 at *;have P9:=aj ((P6.out.trans (Kp.of D1.out)).trans K9.out);have E9:=aj ((E6.out.below D1.out).kp9 K9.out GL.out);have AL9:Hid (Alike ks (Wn*Hn) X.us (us2.set n {u2 with task:=0,goal:=0})):=H2.out.2.2.1.set H2.out.1 rfl rfl ⟨H2.out.2.2.2.2.2.1.1,H2.out.2.2.2.2.2.1.2⟩ ⟨Int.le_refl _,by have:=H2.out.2.2.2.2.2.2.1;show(0:Int)<_;omega⟩;rw[EN.out] at MO2;clear ht' hg';go_wp2;go_round
       case rel=>exact⟨n+1,_,qH,_,rfl,by go_num,by omega,AL9.out,U9.out,E9.out,EL2.out,P9.out,MO2.out⟩
       case measure=>simp[intOf];omega
      ·have hg':(u2.at_==u2.goal)=false:=by rw[beq_eq_false_iff_ne];exact hg
       have EN:Hid (ends u2=u2):=by unfold Hid ends;rw[if_neg (λh=>hg h.2)]
       clear ht hg;refine aH [(true,0),(true,1),(true,2),(true,3),(true,4),(true,5),(true,6),(true,7),(true,8),(true,9),(true,10),(true,11),(true,12),(true,13),(true,14)] [(false,15)] (λV=>dB V ⟨g,n*8,none⟩ u2) (by kernel_rfl) (by kernel_rfl) (by kernel_rfl) (by decide+kernel) (by decide+kernel) (C5.out _ ((Below.refl _ _).drew)) ?_;have D1:Hid (Below wr.heap.size wr {wr with drawn:=wr.drawn+1}):=(Below.refl _ _).drew;generalize ({wr with drawn:=wr.drawn+1}:World)=v7 at *;refine ay rfl (.pointer (some ⟨g,n*8,none⟩)) (by go_simp) (λV hV=>by go_simp) ?_;go_simp;refine ay rfl (.pointer (some ⟨g,n*8,none⟩)) (by go_simp) (λV hV=>by go_simp) ?_;go_simp;refine ay rfl (.pointer (some ⟨g,n*8+6,none⟩)) (by go_simp) (λV hV=>by go_simp) ?_;go_simp;refine ay rfl (int i64 u2.task) (by go_simp) (λV hV=>by obtain⟨y0,y1,y2,y3,y4,y5,y6,y7⟩:=hV;go_simp) ?_;go_simp;refine ay rfl (.bool true) (by go_simp) (λV hV=>by go_simp) ?_;go_simp;refine ay rfl (.bool true) (by go_simp) (λV hV=>by go_simp) ?_;go_simp;refine ay rfl (.pointer (some ⟨g,n*8,none⟩)) (by go_simp) (λV hV=>by go_simp) ?_;go_simp;refine ay rfl (.pointer (some ⟨g,n*8,none⟩)) (by go_simp) (λV hV=>by go_simp) ?_;go_simp;refine ay rfl (.pointer (some ⟨g,n*8+3,none⟩)) (by go_simp) (λV hV=>by go_simp) ?_;go_simp;refine ay rfl (int i64 u2.at_) (by go_simp) (λV hV=>by obtain⟨y0,y1,y2,y3,y4,y5,y6,y7⟩:=hV;go_simp) ?_;go_simp;refine ay rfl (.pointer (some ⟨g,n*8,none⟩)) (by go_simp) (λV hV=>by go_simp) ?_;go_simp;refine ay rfl (.pointer (some ⟨g,n*8,none⟩)) (by go_simp) (λV hV=>by go_simp) ?_;go_simp;refine ay rfl (.pointer (some ⟨g,n*8+7,none⟩)) (by go_simp) (λV hV=>by go_simp) ?_;go_simp;refine ay rfl (int i64 u2.goal) (by go_simp) (λV hV=>by obtain⟨y0,y1,y2,y3,y4,y5,y6,y7⟩:=hV;go_simp) ?_;go_simp;refine ay rfl (.bool false) (by go_simp) (λV hV=>by go_simp) ?_;go_simp;unfold aW;refine aN rfl (.bool false) v7 (by go_simp) (by go_simp) trivial ?_;go_simp;unfold aP;have U9:=aj (U6.out.below D1.out U6.out.lt);have P9:=aj (P6.out.trans (Kp.of D1.out));have E9:=aj (E6.out.below D1.out);rw[EN.out,Ug.out] at MO2;clear ht' hg';go_wp2;go_round
       case rel=>exact⟨n+1,us2,qH,_,rfl,by go_num,by omega,H2.out.2.2.1,U9.out,E9.out,EL2.out,P9.out,MO2.out⟩
       case measure=>simp[intOf];omega
     ·have ht':(u2.task==1)=false:=by rw[beq_eq_false_iff_ne];exact ht
      have EN:Hid (ends u2=u2):=by unfold Hid ends;rw[if_neg (λh=>ht h.1)]
      rw[EN.out,Ug.out] at MO2;clear ht;go_quiet (fail);clear y0 y1 y2 y3 y4 y5 y6 y7;go_wp2;go_round
      case rel=>exact⟨n+1,us2,qH,_,rfl,by go_num,by omega,H2.out.2.2.1,U6.out.below ⟨rfl,rfl,rfl,Nat.le_refl _,λ_ _=>rfl⟩ U6.out.lt,E6.out.below ⟨rfl,rfl,rfl,Nat.le_refl _,λ_ _=>rfl⟩,EL2.out,P6.out.trans (Kp.of ⟨rfl,rfl,rfl,Nat.le_refl _,λ_ _=>rfl⟩),MO2.out⟩
      case measure=>simp[intOf];omega
    ·have hml:m<cells.length:=by omega
     have hmi:((m:Nat):Int)<(cells.length:Nat):=by omega
     obtain⟨x,hx⟩:∃x,cells[m]? =some x:=⟨_,List.getElem?_eq_getElem hml⟩;obtain⟨a9,c9,h9,-,-,hcl⟩:=O6.out.ro;obtain⟨xc,hxc,-,Uh⟩:=hcl (by intro h;rw[h] at hml;simp at hml);injection h9 with h91 h92 h93
     subst h91;subst hxc;have cx:=Uh m x hx;have WM:IntKind.i64.wrap ((m:Nat)+1:Int)=((m:Nat):Int)+1:=by rw[IntKind.wrap_i64];have:=GO.out.2;omega
     obtain⟨fs,hfs⟩:∃l,evs++(cells.take m).map (λc=>(⟨1,u.id,c⟩:bM))=l:=⟨_,rfl⟩;have NX:Hid (evs++(cells.take (m+1)).map (λc=>(⟨1,u.id,c⟩:bM))=fs++[⟨1,u.id,x⟩]):=by
      unfold Hid;obtain⟨q1',q2'⟩:=List.getElem?_eq_some_iff.1 hx;rw[List.take_succ_eq_append_getElem q1',q2',List.map_append,<-List.append_assoc,hfs];rfl
     have YN:Hid (fs.length<=1000):=by
      unfold Hid;rw[<-hfs,List.length_append,List.length_map,List.length_take];have:=EL.out;have:=GO.out.2;omega
     rw[hfs] at E6;rw[H2.out.2.2.2.1] at y0;clear hcl h92 h93 Uh hx hfs;have BA:Hid (Below _ wr (wr.alloc (Obj.cells #[int i64 1,int i64 u.id,int i64 x] 169))):=(Below.refl _ _).alloc (Nat.le_refl _) _;have EC:Hid (oK (wr.alloc (Obj.cells #[.int _ 1,.int _ u.id,.int _ x] _)) _ _):=oK.mk' (⟨1,u.id,x⟩:bM) rfl;have E7:=aj (E6.out.below BA.out);have SZ:=aj (Nat.le_trans P6.out.size BA.out.size);go_wp2_with (at_builtin;refine sV _ rfl _ _ rfl w3.heap.size _ fs rfl E7.out _ (⟨1,u.id,x⟩:bM) rfl EC.out (by have:=YN.out;omega) SZ.out ?_);intro gg gc v8 o8 g8 s8 _;have E8:=aj (o8);have P8:=aj (Ae (P6.out.trans (Kp.of BA.out)) g8 (λb hb=>(E7.out.block b hb).1));have U8:Hid (Ub v8 g us2 rest):=by
      have h6:=U6.out.below BA.out U6.out.lt;unfold Ub at h6;unfold Hid Ub;rw[g8.block g (lt_of_block h6) (λe=>by have:=(E7.out.block g e.symm).1;have:=GL.out;omega)];exact h6
     have O8:Hid (Ow v8 bo (slice (some xc) cells.length cc) cells):=bK (Ow.below O6.out BA.out) g8 (λb h1 h2=>D6.out b h2 h1);have D8:Hid (∀b,(slice (some ⟨gg,0,none⟩) (fs.length+1) gc).ownBlock=some b->(slice (some xc) cells.length cc).ownBlock≠some b):=λb h1 h2=>by
      have hgb:gg=b:=by injection h1
      rcases s8 with s8|s8
      ·exact D6.out gg s8 (by rw[hgb];exact h2)
      ·have:=(O6.out.block b h2).2
       have hw:gg=wr.heap.size+1:=s8.trans (by simp);omega
     clear o8 g8 s8 BA EC E7 SZ y0 y1 y2 y3 y4 y5 y6 y7 cx;go_wp2;go_round
     case rel=>exact⟨m+1,_,rfl,by go_num,by omega,U8.out,by rw[NX.out];exact E8.out,P8.out,O8.out,D8.out⟩
     case measure=>simp[intOf];omega
end Go.Proofs.YtolfphmdmpehdaaGreatDoor
namespace Go.Proofs.YtolfphmdmpehdaaGreatDoor
open Wy
theorem qZ{ks:List KV}{X:WV}{Wn Hn:Nat}{u:aC}{k:KV}{c:Nat}(h:dO ks X Wn Hn u k c)(ht:u.task=0):u.at_=(c:Nat):=by
 obtain⟨an,bn,l,ha,WO,-,-,hh⟩:=h;have hb:(bn:Int)=u.at_:=by
  rcases WO with⟨-,h⟩|⟨h,-⟩|⟨h,-⟩
  ·exact h
  ·exact absurd ht h
  ·rw[ht] at h;cases h
 rcases hh with⟨-,rfl⟩|⟨-,h⟩
 ·exact ha
 ·rcases h with⟨-,rfl⟩|⟨h,-⟩
  ·exact ha
  ·exact absurd (by omega) h
theorem Di{ks:List KV}{X:WV}{Wn Hn:Nat}{k:KV}{i:Nat}{us us':List aC}{left:Int}{cells:List Int}{u:aC}(hu:us[i]? =some u)(ht:u.task=0)(h:Goes ks X Wn Hn k i us left cells us'):cells=[]/\us'=us:=by
 cases h with
 |stop=>exact⟨rfl,rfl⟩
 |step hu' hw hg h1 h2 h3=>
  rw[hu] at hu';injection hu' with hu'
  subst hu';have:=List.any_eq_false.1 h2 u (List.mem_of_getElem? hu);rw[qZ hw ht] at this;simp at this
theorem Dj{u:aC}(ht:u.task=0):ends u=u:=by
 unfold ends;rw[if_neg];rintro⟨h,-⟩;rw[ht] at h;cases h
theorem xZ{ks:List KV}{X:WV}{Wn Hn:Nat}{n:Nat}{us us':List aC}{evs:List bM}(h:Moves ks X Wn Hn n us evs us'):(∀u∈us,u.task=0)->evs=[]/\us'=us:=by
 induction h with
 |done h=>intro _;exact⟨rfl,rfl⟩
 |unit hu hk hg h1 hm ih=>
  intro hr;have htu:=hr _ (List.mem_of_getElem? hu);obtain⟨rfl,rfl⟩:=Di hu htu hg;rw[hu] at h1;injection h1 with h1
  subst h1;obtain⟨hi,e⟩:=List.getElem?_eq_some_iff.1 hu;rw[Dj htu,<-e,List.set_getElem_self] at ih;obtain⟨rfl,rfl⟩:=ih hr;exact⟨rfl,rfl⟩
structure Stat(u v:aC):Prop where
 id:v.id=u.id
 aA:v.aA=u.aA
 kind:v.kind=u.kind
 life:v.life=u.life
 load:v.load=u.load
 todo:(v.task=u.task/\v.goal=u.goal)\/(v.task=0/\v.goal=0)
 rest:u.task=0->v=u
structure MInv(ks:List KV)(X:WV)(Wn Hn:Nat)(us:List aC):Prop where
 len:us.length=X.us.length
 unit:∀(j:Nat) (v:aC),us[j]? =some v->∃u k gg,X.us[j]? =some u/\Stat u v/\ks[v.kind.toNat]? =some k/\0<=v.at_/\v.at_<(Wn*Hn:Nat)/\X.gs[v.at_.toNat]? =some gg/\0<Fd.onto gg k.f
 dist:∀(i j:Nat) (a b:aC),us[i]? =some a->us[j]? =some b->a.at_=b.at_->i=j
theorem pI{gs:List Int}{ahead:List aC}{a:Int}{fl:Bool}(h:Wd.open_ gs ahead a fl=true):0<Fd.onto (gs.getD a.toNat 0) fl/\∀u∈ahead,u.at_≠a:=by
 unfold Wd.open_ at h;rw[Bool.and_eq_true] at h;refine⟨of_decide_eq_true h.1,λu hu e=>?_⟩;have h2:=h.2;rw[Bool.not_eq_true',List.any_eq_false] at h2;exact h2 u hu (by simp[e])
theorem yj{ks:List KV}{X:WV}{Wn Hn:Nat}(h:aQ ks X)(G:Fd.Good Wn Hn X.gs X.os):MInv ks X Wn Hn X.us:=by
 refine⟨rfl,λj v hv=>?_,?_⟩
 ·obtain⟨k,f⟩:=h.fine hv
  have ha:=f.at_;have hgl:=G.gl;have hl:v.at_.toNat<X.gs.length:=by omega
  refine⟨v,k,X.gs[v.at_.toNat],hv,⟨rfl,rfl,rfl,rfl,rfl,.inl ⟨rfl,rfl⟩,λ_=>rfl⟩,f.kk,ha.1,by rw[<-G.gl];exact ha.2,List.getElem?_eq_getElem hl,?_⟩;have:=(pI f.opn).1;rw[List.getD_eq_getElem?_getD,List.getElem?_eq_getElem hl] at this;exact this
 ·have key:∀(i j:Nat) (a b:aC),i<j->X.us[i]? =some a->X.us[j]? =some b->a.at_≠b.at_:=λi j a b hij ha hb=>by
   obtain⟨k,f⟩:=h.fine hb;exact(pI f.opn).2 a (List.mem_of_getElem? (by rw[List.getElem?_take,if_pos hij];exact ha))
  intro i j a b ha hb e;rcases Nat.lt_trichotomy i j with hl|hl|hl
  ·exact absurd e (key i j a b hl ha hb)
  ·exact hl
  ·exact absurd e.symm (key j i b a hl hb ha)
theorem vK{ks:List KV}{X:WV}{Wn Hn:Nat}{us:List aC}{i:Nat}{u v:aC}(h:MInv ks X Wn Hn us)(hu:us[i]? =some u)(hs:∀u0,X.us[i]? =some u0->Stat u0 u->Stat u0 v)
  (ha:(v.at_=u.at_)\/(∃k gg,ks[v.kind.toNat]? =some k/\0<=v.at_/\v.at_<(Wn*Hn:Nat)/\X.gs[v.at_.toNat]? =some gg/\0<Fd.onto gg k.f/\us.any (λo=>o.at_==v.at_)=false)) (hk:v.kind=u.kind):MInv ks X Wn Hn (us.set i v):=by
 have hil:=(List.getElem?_eq_some_iff.1 hu).1;refine⟨by rw[List.length_set];exact h.len,λj x hx=>?_,λa b p q hp hq e=>?_⟩
 ·by_cases hij:i=j
  ·subst hij
   rw[List.getElem?_set_self hil] at hx;injection hx with hx
   subst hx;obtain⟨u0,k0,g0,h1,h2,h3,h4,h5,h6,h7⟩:=h.unit i u hu;rcases ha with ha|⟨k,gg,a1,a2,a3,a4,a5,-⟩
   ·exact⟨u0,k0,g0,h1,hs u0 h1 h2,by rw[hk];exact h3,by rw[ha];exact h4,by rw[ha];exact h5,by rw[ha];exact h6,h7⟩
   ·exact⟨u0,k,gg,h1,hs u0 h1 h2,a1,a2,a3,a4,a5⟩
  ·rw[List.getElem?_set_ne hij] at hx
   exact h.unit j x hx
 ·have other:∀(j:Nat) (o:aC),i≠j->us[j]? =some o->o.at_≠v.at_:=λj o hne ho e=>by
   rcases ha with ha|⟨k,gg,-,-,-,-,-,a6⟩
   ·exact hne (h.dist i j u o hu ho (by rw[<-ha,e]))
   ·have:=List.any_eq_false.1 a6 o (List.mem_of_getElem? ho)
    simp[e] at this
  by_cases hia:i=a
  ·by_cases hib:i=b
   ·omega
   ·rw[List.getElem?_set_ne hib] at hq
    subst hia;rw[List.getElem?_set_self hil] at hp;injection hp with hp
    subst hp;exact absurd e.symm (other b q hib hq)
  ·rw[List.getElem?_set_ne hia] at hp
   by_cases hib:i=b
   ·subst hib
    rw[List.getElem?_set_self hil] at hq;injection hq with hq
    subst hq;exact absurd e (other a p hia hp)
   ·rw[List.getElem?_set_ne hib] at hq
    exact h.dist a b p q hp hq e
theorem Dk{ks:List KV}{X:WV}{Wn Hn:Nat}{k:KV}{i:Nat}{us us':List aC}{left:Int}{cells:List Int}(G:Fd.Good Wn Hn X.gs X.os)(h:Goes ks X Wn Hn k i us left cells us'):∀u,us[i]? =some u->ks[u.kind.toNat]? =some k->MInv ks X Wn Hn us->MInv ks X Wn Hn us':=by
 induction h with
 |stop=>intro u _ _ h;exact h
 | @step us us' left u0 c gg cells hu hw hg h1 h2 h3 ih=>
  intro u hu' hk hm;rw[hu] at hu';injection hu' with hu'
  subst hu';have hil:=(List.getElem?_eq_some_iff.1 hu).1;have hne:u0.at_≠(c:Nat):=by
   have:=List.any_eq_false.1 h2 u0 (List.mem_of_getElem? hu);simpa using this
  have hcl:c<Wn*Hn:=by rw[<-G.gl];exact(List.getElem?_eq_some_iff.1 hg).1
  refine ih _ (List.getElem?_set_self hil) hk (vK hm hu (λu1 _ hs=>?_) (.inr ⟨k,gg,hk,by show(0:Int)<=(c:Nat);omega,by show((c:Nat):Int)<_;omega,by show X.gs[((c:Nat):Int).toNat]? =some gg;rw[Int.toNat_natCast];exact hg,pG hw hg hne,h2⟩) rfl);refine⟨hs.id,hs.aA,hs.kind,hs.life,hs.load,hs.todo,λht=>?_⟩;have hr:u0.task=0:=by rw[hs.rest ht];exact ht
  exact absurd (qZ hw hr) hne
theorem Dl{u v:aC}(h:Stat u v):Stat u (ends v):=by
 unfold ends;split
 ·rename_i hc
  refine⟨h.id,h.aA,h.kind,h.life,h.load,.inr ⟨rfl,rfl⟩,λht=>?_⟩;have:=h.rest ht;rw[this,ht] at hc;exact absurd hc.1 (by decide)
 ·exact h
theorem Aw(u:aC):(ends u).at_=u.at_/\(ends u).kind=u.kind:=by
 unfold ends;split<;>exact⟨rfl,rfl⟩
theorem yt{ks:List KV}{X:WV}{Wn Hn:Nat}{n:Nat}{us us':List aC}{evs:List bM}(G:Fd.Good Wn Hn X.gs X.os)(h:Moves ks X Wn Hn n us evs us'):MInv ks X Wn Hn us->MInv ks X Wn Hn us':=by
 induction h with
 |done h=>intro hm;exact hm
 |unit hu hk hg h1 hm ih=>
  intro hi;have h2:=Dk G hg _ hu hk hi;exact ih (vK h2 h1 (λu0 _ hs=>Dl hs) (.inl (Aw _).1) (Aw _).2)
theorem yw{ks:List KV}{X:WV}{Wn Hn:Nat}{us:List aC}(h:aQ ks X)(G:Fd.Good Wn Hn X.gs X.os)(e1:X.wide=(Wn:Nat))(e2:X.high=(Hn:Nat))(hm:MInv ks X Wn Hn us):Wd.aF ks {X with us:=us}=0:=by
 have Vp:0<X.gs.length:=by rw[G.gl];exact Nat.mul_pos G.w1 G.h1
 refine Wd.dR h.kinds (by show Fd.fault X.wide X.high X.gs X.os=0;rw[e1,e2];exact Fd.dH G) h.nums (by show us.length<=40;rw[hm.len];exact h.ul) ?_ h.ql ?_
 ·intro i v hv
  have hv':us[i]? =some v:=hv;obtain⟨u,k,gg,hu,hs,hk,ha0,ha1,hgg,hon⟩:=hm.unit i v hv';obtain⟨k0,f⟩:=h.fine hu;obtain rfl:k0=k:=by
   have:=f.kk;rw[<-hs.kind,hk] at this;injection this with this
   exact this.symm
  refine⟨k0,by rw[hs.id];exact f.id1,by rw[hs.id];exact f.id2,?_,by rw[hs.aA];exact f.p,by rw[hs.kind];exact f.k0,hk,by rw[hs.life];exact f.life,by rw[hs.load];exact f.load,?_,⟨ha0,by show v.at_<(X.gs.length:Int);rw[G.gl];exact ha1⟩,?_,?_,?_⟩
  ·show Wd.bH us i v=false
   have hup:=f.up;cases i with
   |zero=>rfl
   |succ i=>
    simp only[Wd.bH] at hup ⊢;cases hx:us[i]? with
    |none=>rfl
    |some x=>
     obtain⟨x0,-,-,hx0,hsx,-⟩:=hm.unit i x hx;rw[hx0] at hup;show decide (v.id<=x.id)=false;rw[hs.id,hsx.id];exact hup
  ·rcases hs.todo with⟨t1,-⟩|⟨t1,-⟩
   ·rw[t1];exact f.task
   ·rw[t1];exact⟨Int.le_refl _,by decide⟩
  ·show 0<=v.goal/\v.goal<(X.gs.length:Int)
   rcases hs.todo with⟨-,t1⟩|⟨-,t1⟩
   ·rw[t1];exact f.goal
   ·rw[t1];exact⟨Int.le_refl _,Int.ofNat_lt.2 Vp⟩
  ·show Wd.open_ X.gs (us.take i) v.at_ k0.f=true
   unfold Wd.open_;rw[Bool.and_eq_true];refine⟨decide_eq_true (by rw[List.getD_eq_getElem?_getD,hgg];exact hon),?_⟩;rw[Bool.not_eq_true',List.any_eq_false];intro p hp e;obtain⟨j,hj⟩:=List.mem_iff_getElem?.1 hp;have hjl:j<i:=by
    have:=(List.getElem?_eq_some_iff.1 hj).1;rw[List.length_take] at this;omega
   rw[List.getElem?_take,if_pos hjl] at hj;have:=hm.dist j i p v hj hv' (by simpa using e);omega
  ·rcases hs.todo with⟨t1,t2⟩|⟨-,t2⟩
   ·rw[t1,t2];exact f.rest
   ·exact .inl t2
 ·intro j hj
  have hx:=h.job hj;cases hf:X.us.find? (λu=>u.id==j.unit) with
  |none=>
   unfold Wd.aJ at hx;rw[hf] at hx;cases hx
  |some u1=>
   have hm1:=List.mem_of_find?_eq_some hf;have hi1:u1.id=j.unit:=by simpa using List.find?_some hf
   obtain⟨j1,hj1⟩:=List.mem_iff_getElem?.1 hm1;have hl1:j1<us.length:=by rw[hm.len];exact(List.getElem?_eq_some_iff.1 hj1).1
   obtain⟨v1,hv1⟩:∃v,us[j1]? =some v:=⟨_,List.getElem?_eq_getElem hl1⟩;obtain⟨x1,-,-,hx1,hs1,-⟩:=hm.unit j1 v1 hv1;rw[hj1] at hx1;injection hx1 with hx1
   subst hx1;have hsome:(us.find? (λu=>u.id==j.unit)).isSome=true:=List.find?_isSome.2 ⟨v1,List.mem_of_getElem? hv1,by simp[hs1.id,hi1]⟩;obtain⟨y0,hy0⟩:=Option.isSome_iff_exists.1 hsome;obtain⟨j0,hj0⟩:=List.mem_iff_getElem?.1 (List.mem_of_find?_eq_some hy0);have hi0:y0.id=j.unit:=by simpa using List.find?_some hy0
   obtain⟨x0,-,-,hx0,hs0,-⟩:=hm.unit j0 y0 hj0;have:=sH h hx0 hj1 (by rw[<-hs0.id,hi0,hi1]);subst this;rw[hx0] at hj1;injection hj1 with hj1
   subst hj1;unfold Wd.aJ at hx ⊢;rw[hf] at hx;have hy1:({X with us:=us}:WV).us.find? _=some y0:=hy0;rw[hy1];simp only[hs0.kind,hs0.aA];exact hx
end Go.Proofs.YtolfphmdmpehdaaGreatDoor
namespace Go.Proofs.YtolfphmdmpehdaaGreatDoor
open Go.RowKit
theorem jq(x m:Int)(w:World)(h1: -m<=x)(h2:x<=m)(m0:0<=m)(m1:m<=2000000000000):
  Calls Tryz.prog 224 #[int i64 x,int i64 m] w λe w'=>e=.returned (.bool true)/\w'=w:=by
 go_enter Tryz.func224,Tryz.ntmps224;go_wp2;go_ret;exact⟨rfl,rfl⟩
end Go.Proofs.YtolfphmdmpehdaaGreatDoor
namespace Go.Proofs.YtolfphmdmpehdaaGreatDoor.Ma
def Sq(r n:Int):Prop:=0<=r/\r*r<=n/\n<(r+1)*(r+1)
def pw(k:Nat):Int:=2^k
theorem sZ:pw 0=1:=rfl
theorem nN(k:Nat):pw (k+1)=2*pw k:=by unfold pw;rw[Int.pow_succ];omega
theorem I_(k:Nat):1<=pw k:=by
 induction k with
 |zero=>rw[sZ];omega
 |succ k ih=>rw[nN];omega
theorem Np(a b:Nat)(h:a<=b):pw a<=pw b:=by
 induction b with
 |zero=>have:a=0:=by omega
        subst this;exact Int.le_refl _
 |succ b ih=>
  by_cases e:a=b+1
  ·subst e;exact Int.le_refl _
  ·have:=ih (by omega)
   have p:=I_ b;rw[nN];omega
theorem Pg:pw 32=4294967296:=by unfold pw;decide
theorem jQ(a b:Int)(h0:0<=a)(h:a<=b):a*a<=b*b:=
 Int.mul_le_mul h h h0 (by omega)
theorem Dn(r d:Int):(r+d)*(r+d)=r*r+2*(r*d)+d*d:=by
 rw[Int.add_mul,Int.mul_add,Int.mul_add,Int.mul_comm d r];omega
theorem lQ(a b:Int)(h0:0<=b)(h:a*a<b*b):a<b:=by
 by_cases hc:a<b
 ·exact hc
 ·have:=jQ b a h0 (by omega)
  omega
theorem Ja(a b:Int)(h0:0<=b)(h:a*a<=b*b):a<=b:=by
 have e:=Dn b 1;have:a<b+1:=lQ a (b+1) (by omega) (by omega);omega
theorem yx(r n:Int)(h:r*r<=n)(hn:n<=9223372036854775807):r<=3037000499:=by
 have:=lQ r 3037000500 (by omega) (by omega);omega
theorem vM(x n:Int)(hx:0<x):x<=n/x↔x*x<=n:=Int.le_ediv_iff_mul_le hx
end Go.Proofs.YtolfphmdmpehdaaGreatDoor.Ma
namespace Go.Proofs.YtolfphmdmpehdaaGreatDoor
open Go.RowKit
theorem Nq(k:Nat):Ma.pw (k+1)/2=Ma.pw k:=by rw[Ma.nN];omega
theorem Jb(n:Int)(w:World)(h0:0<=n)(h1:n<=9223372036854775807):
  Calls Tryz.prog 225 #[int i64 n] w λe w'=>∃r,Ma.Sq r n/\e=.returned (.tuple #[int i64 r,.nilIface])/\w'=w:=by
 go_enter Tryz.func225,Tryz.ntmps225;go_wp2;go_loop [4,5] (λroot bit=>∃(k:Nat) (r b:Int),k<=32/\root=int i64 r/\bit=int i64 b/\b=Ma.pw k/2/\0<=r/\r*r<=n/\n<(r+Ma.pw k)*(r+Ma.pw k)) (λ_ bit=>(intOf bit).toNat)
 case atStart=>exact⟨32,0,2147483648,by omega,rfl,rfl,by rw[Ma.Pg];omega,by omega,by omega,by rw[Ma.Pg];omega⟩
 case round=>
  obtain⟨k,r,b,hk,rfl,rfl,hb,hr,hl,hu⟩:=hrel;by_cases hz:k=0
  ·subst hz
   have hb0:b=0:=by rw[hb,Ma.sZ];omega
   subst hb0;clear hb;rw[Ma.sZ] at hu;go_wp2;go_ret2;exact⟨r,⟨hr,hl,hu⟩,rfl,rfl⟩
  ·obtain⟨j,rfl⟩:∃j,k=j+1:=⟨k-1,by omega⟩
   have hp:=Ma.I_ j;have hq:=Ma.Np j 31 (by omega);have e31:Ma.pw 31=2147483648:=by unfold Ma.pw;decide
   rw[e31] at hq;clear e31;rw[Nq] at hb;rw[Ma.nN] at hu;have hb1:0<b:=by omega
   have hb2:b<=2147483648:=by omega
   have hr2:=Ma.yx r n hl h1;have hsum:r+2*Ma.pw j=r+b+b:=by omega
   rw[hsum] at hu;clear hsum;have Hb:=aj (hb);have HH:Hid (b/2=Ma.pw j/2):=by rw[hb];rfl
   clear hb hp hq;have Hu:=aj (hu);have Hl:=aj (hl);clear hu hl;by_cases ht:r+b<=n/(r+b)
   ·have Ht:=aj ((Ma.vM (r+b) n (by omega)).1 ht)
    go_wp2;go_round
    case rel=>exact⟨j,r+b,b/2,by omega,rfl,rfl,HH,by omega,Ht,by rw[<-Hb];exact Hu⟩
    case measure=>simp[intOf];omega
   ·have Ht:Hid (n<(r+b)*(r+b)):=by
     have:=mt (Ma.vM (r+b) n (by omega)).2 ht;unfold Hid;omega
    go_wp2;go_round
    case rel=>exact⟨j,r,b/2,by omega,rfl,rfl,HH,by omega,Hl,by rw[<-Hb];exact Ht⟩
    case measure=>simp[intOf];omega
def In6(x:Int):Prop:= -1000000<=x/\x<=1000000
section
variable (a b c d:Int) (w:World)
theorem WQ:(Instr.index 275 (.agg #[int i64 a,int i64 b,int i64 c,int i64 d]) (int i64 0)).run Tryz.prog w=.ok (int i64 a) w:=by kernel_rfl
theorem WU:(Instr.index 275 (.agg #[int i64 a,int i64 b,int i64 c,int i64 d]) (int i64 1)).run Tryz.prog w=.ok (int i64 b) w:=by kernel_rfl
theorem WW:(Instr.index 275 (.agg #[int i64 a,int i64 b,int i64 c,int i64 d]) (int i64 2)).run Tryz.prog w=.ok (int i64 c) w:=by kernel_rfl
theorem WX:(Instr.index 275 (.agg #[int i64 a,int i64 b,int i64 c,int i64 d]) (int i64 3)).run Tryz.prog w=.ok (int i64 d) w:=by kernel_rfl
end
theorem Yk(x:Int)(h1: -2000000<=x)(h2:x<=2000000):0<=x*x/\x*x<=4000000000000:=by
 rcases Int.le_total 0 x with h|h
 ·exact⟨Int.mul_nonneg h h,Ma.jQ x _ h h2⟩
 ·have e:x*x=(-x)*(-x):=by rw[Int.neg_mul_neg]
  rw[e];exact⟨Int.mul_nonneg (by omega) (by omega),Ma.jQ _ 2000000 (by omega) (by omega)⟩
theorem QG(a b c d:Int)(w:World)(ha:In6 a)(hb:In6 b)(hc:In6 c)(hd:In6 d):
  Calls Tryz.prog 184 #[int i64 a,int i64 b,int i64 c,int i64 d] w λe w'=>∃r,Ma.Sq r ((a-c)*(a-c)+(b-d)*(b-d))/\e=.returned (.tuple #[int i64 r,.nilIface])/\w'=w:=by
 obtain⟨ha1,ha2⟩:=ha;obtain⟨hb1,hb2⟩:=hb;obtain⟨hc1,hc2⟩:=hc;obtain⟨hd1,hd2⟩:=hd;have i0:=WQ a b c d;have i1:=WU a b c d;have i2:=WW a b c d;have i3:=WX a b c d;go_enter Tryz.func184,Tryz.ntmps184;go_wp2;go_loop [19] (λi=>∃k:Nat,k<=4/\i=int i64 k) (λi=>4-(intOf i).toNat)
 case atStart=>exact⟨0,by omega,rfl⟩
 case round=>
  obtain⟨k,hk,rfl⟩:=hrel
  match k,hk with
  |0,_=>
   go_wp2_with (go_at_call 224;refine(jq _ _ _ (by omega) (by omega) (by omega) (by omega)).mono ?_;rintro e w' ⟨rfl,rfl⟩);go_round
   case rel=>exact⟨1,by omega,rfl⟩
   case measure=>simp[intOf]
  |1,_=>
   go_wp2_with (go_at_call 224;refine(jq _ _ _ (by omega) (by omega) (by omega) (by omega)).mono ?_;rintro e w' ⟨rfl,rfl⟩);go_round
   case rel=>exact⟨2,by omega,rfl⟩
   case measure=>simp[intOf]
  |2,_=>
   go_wp2_with (go_at_call 224;refine(jq _ _ _ (by omega) (by omega) (by omega) (by omega)).mono ?_;rintro e w' ⟨rfl,rfl⟩);go_round
   case rel=>exact⟨3,by omega,rfl⟩
   case measure=>simp[intOf]
  |3,_=>
   go_wp2_with (go_at_call 224;refine(jq _ _ _ (by omega) (by omega) (by omega) (by omega)).mono ?_;rintro e w' ⟨rfl,rfl⟩);go_round
   case rel=>exact⟨4,by omega,rfl⟩
   case measure=>simp[intOf]
  |4,_=>
   have s1:=Yk (a-c) (by omega) (by omega);have s2:=Yk (b-d) (by omega) (by omega);obtain⟨s10,s11⟩:=s1;obtain⟨s20,s21⟩:=s2;go_wp2_with (go_at_call 225;refine(Jb _ _ (by omega) (by omega)).mono ?_;rintro e w' ⟨r,hr,rfl,rfl⟩);go_ret2;exact⟨r,hr,rfl,rfl⟩
end Go.Proofs.YtolfphmdmpehdaaGreatDoor
namespace Go.Proofs.YtolfphmdmpehdaaGreatDoor
def rt:Nat->Int->Int
 |0,_=>0
 |k+1,n=>if((k:Int)+1)*((k:Int)+1)<=n then(k:Int)+1 else rt k n
theorem rt_eq:∀(k:Nat) (r n:Int),Ma.Sq r n->r<=k->rt k n=r
 |0,r,n,h,hk=>by
  have:=h.1;show(0:Int)=r;omega
 |k+1,r,n,h,hk=>by
  unfold rt;split
  ·rename_i hc
   have:=Ma.lQ ((k:Int)+1) (r+1) (by have:=h.1;omega) (by have:=h.2.2;omega);omega
  ·rename_i hc
   have:=Ma.lQ r ((k:Int)+1) (by omega) (by have:=h.2.1;omega);exact rt_eq k r n h (by omega)
theorem Pj:∀(k:Nat) (n:Int),0<=rt k n/\rt k n<=k
 |0,n=>by unfold rt;omega
 |k+1,n=>by
  unfold rt;have:=Pj k n;split<;>omega
def pJ(W a b:Nat):Int:=rt 200 ((((a%W:Nat):Int)-((b%W:Nat):Int))*(((a%W:Nat):Int)-((b%W:Nat):Int))+(((a/W:Nat):Int)-((b/W:Nat):Int))*(((a/W:Nat):Int)-((b/W:Nat):Int)))
theorem nO(W a b:Nat):0<=pJ W a b/\pJ W a b<=200:=Pj 200 _
theorem ru(x:Int)(m:Int)(h1: -m<=x)(h2:x<=m):x*x<=m*m:=by
 rcases Int.le_total 0 x with h|h
 ·exact Ma.jQ x m h h2
 ·have e:x*x=(-x)*(-x):=by rw[Int.neg_mul_neg]
  rw[e];exact Ma.jQ _ m (by omega) (by omega)
theorem Nr{W a b:Nat}{r:Int}(hW:W<=12)(ha:a<=144)(hb:b<=144)(hW0:0<W)
  (h:Ma.Sq r ((((a%W:Nat):Int)-((b%W:Nat):Int))*(((a%W:Nat):Int)-((b%W:Nat):Int))+(((a/W:Nat):Int)-((b/W:Nat):Int))*(((a/W:Nat):Int)-((b/W:Nat):Int)))):pJ W a b=r:=by
 unfold pJ;refine rt_eq _ r _ h ?_;have a1:=Nat.mod_lt a hW0;have b1:=Nat.mod_lt b hW0;have a2:=Nat.div_le_self a W;have b2:=Nat.div_le_self b W;generalize a/W=x at *;generalize b/W=y at *;generalize a%W=x' at *;generalize b%W=y' at *;have s1:=ru ((x':Int)-(y':Int)) 12 (by omega) (by omega);have s2:=ru ((x:Int)-(y:Int)) 144 (by omega) (by omega);have:=h.2.1;exact Ma.Ja r _ (by omega) (by omega)
theorem j_{n:Nat}(h:n<=144):In6 (n:Nat):=⟨by omega,by omega⟩
def jr(W:Nat)(u o:aC):Int:=pJ W u.at_.toNat o.at_.toNat
def lS(W:Nat)(u:aC)(rng:Int)(o:aC):Bool:=(o.aA==u.aA)||decide (rng<jr W u o)
def lT(W:Nat)(u:aC)(rng:Int)(us:List aC):List aC:=us.filter (λo=> !lS W u rng o)
def pK(W:Nat)(u o:aC):Int:=jr W u o*2000000+o.life
def pO(W:Nat)(u a b:aC):Int:=if jr W u a-jr W u b=0 then a.life-b.life else jr W u a-jr W u b
theorem Jc{W:Nat}{u a b:aC}(ha:0<=a.life/\a.life<=1000000)(hb:0<=b.life/\b.life<=1000000):pO W u a b<0↔pK W u a<pK W u b:=by
 unfold pO pK;have h1:=nO W u.at_.toNat a.at_.toNat;have h2:=nO W u.at_.toNat b.at_.toNat;unfold jr;split<;>omega
def tq(W:Nat)(u:aC)(k:KV)(us:List aC)(t:Int):Prop:=
 (k.n1=0/\t= -1)\/(k.n1≠0/\lT W u k.n2 us=[]/\t= -1)
 \/(k.n1≠0/\∃x0 tl,lT W u k.n2 us=x0::tl/\jg (λo=>o.id==(ig (pK W u) x0 tl).id) us t)
theorem QH{ks:List KV}{X:WV}(h:aQ ks X){W:Nat}{u:aC}{k:KV}{t:Int}(ht:tq W u k X.us t):
  (t= -1/\(k.n1=0\/lT W u k.n2 X.us=[]))\/(k.n1≠0/\∃(tn:Nat) (x:aC) (x0:aC) (tl:List aC),t=tn/\X.us[tn]? =some x/\lT W u k.n2 X.us=x0::tl/\x=ig (pK W u) x0 tl):=by
 rcases ht with⟨h1,h2⟩|⟨-,h1,h2⟩|⟨h1,x0,tl,h2,h3⟩
 ·exact .inl ⟨h2,.inl h1⟩
 ·exact .inl ⟨h2,.inr h1⟩
 ·have hm:=lN (pK W u) tl x0
  rw[<-h2] at hm;have hm':=(List.mem_filter.1 hm).1;obtain⟨j,hj⟩:=List.mem_iff_getElem?.1 hm';rcases h3 with⟨-,h3⟩|⟨tn,x,rfl,hx,hid,-⟩
  ·have:=List.any_eq_false.1 h3 _ hm'
   simp at this
  ·have WY:x.id=(ig (pK W u) x0 tl).id:=by simpa using hid
   have:=sH h hx hj WY;subst this;rw[hx] at hj;injection hj with hj
   exact .inr ⟨h1,tn,x,x0,tl,rfl,hx,h2,hj⟩
def Jd(p:aC->Bool):List aC->Int
 |[]=> -1
 |x::l=>if p x then 0 else if Jd p l= -1 then -1 else Jd p l+1
theorem vN(p:aC->Bool):∀l,jg p l (Jd p l)
 |[]=>.inl ⟨rfl,rfl⟩
 |x::l=>by
  unfold Jd;cases hp:p x with
  |true=>exact .inr ⟨0,x,by simp,rfl,hp,rfl⟩
  |false=>
   rw[if_neg (by simp)];rcases vN p l with⟨h1,h2⟩|⟨k,y,h1,h2,h3,h4⟩
   ·rw[if_pos h1]
    exact .inl ⟨rfl,by rw[List.any_cons,hp,h2];rfl⟩
   ·rw[if_neg (by omega)]
    exact .inr ⟨k+1,y,by omega,by rw[List.getElem?_cons_succ];exact h2,h3,by rw[List.take_succ_cons,List.any_cons,hp,h4];rfl⟩
def tgt(W:Nat)(u:aC)(k:KV)(us:List aC):Int:=
 if k.n1=0 then -1 else match lT W u k.n2 us with
  |[]=> -1
  |x0::tl=>Jd (λo=>o.id==(ig (pK W u) x0 tl).id) us
theorem Ui{W:Nat}{u:aC}{k:KV}{us:List aC}{t:Int}(h:tq W u k us t):t=tgt W u k us:=by
 unfold tgt;rcases h with⟨h1,h2⟩|⟨h1,h2,h3⟩|⟨h1,x0,tl,h2,h3⟩
 ·rw[if_pos h1];exact h2
 ·rw[if_neg h1,h2];exact h3
 ·rw[if_neg h1,h2]
  exact h3.one (vN _ _)
def lU(ks:List KV)(W:Nat)(us:List aC)(u:aC):Int:=match ks[u.kind.toNat]? with
 |none=> -1
 |some k=>tgt W u k us
def nC(ks:List KV)(u:aC):Int:=match ks[u.kind.toNat]? with
 |none=>0
 |some k=>k.n1
def stk(ks:List KV)(W:Nat)(us:List aC)(s:List Int×List bM)(u:aC):List Int×List bM:=
 if lU ks W us u= -1 then s else(s.1.set (lU ks W us u).toNat (s.1.getD (lU ks W us u).toNat 0+nC ks u),s.2++[⟨2,u.id,(us[(lU ks W us u).toNat]?.map aC.id).getD 0⟩])
def strikes(ks:List KV)(W:Nat)(us l:List aC):List Int×List bM:=l.foldl (stk ks W us) (List.replicate us.length 0,[])
theorem lV{ks:List KV}{W:Nat}{us l:List aC}{n:Nat}{u:aC}(h:l[n]? =some u):strikes ks W us (l.take (n+1))=stk ks W us (strikes ks W us (l.take n)) u:=by
 obtain⟨hi,e⟩:=List.getElem?_eq_some_iff.1 h;unfold strikes;rw[List.take_succ_eq_append_getElem hi,List.foldl_append,e];rfl
theorem Ns{ks:List KV}{W:Nat}{us:List aC}{s:List Int×List bM}{u:aC}:(stk ks W us s u).1.length=s.1.length:=by
 unfold stk;split
 ·rfl
 ·simp
theorem nD{ks:List KV}{W:Nat}{us:List aC}:∀(l:List aC) (s:List Int×List bM),(l.foldl (stk ks W us) s).1.length=s.1.length
 |[],s=>rfl
 |u::l,s=>by
  rw[List.foldl_cons,nD l,Ns]
theorem dU{ks:List KV}{W:Nat}{us l:List aC}:(strikes ks W us l).1.length=us.length:=by
 unfold strikes;rw[nD];simp
def yA(m:Int)(l:List Int):Prop:=∀x∈l,0<=x/\x<=m
theorem yA.at_{m:Int}{l:List Int}(h:yA m l)(hm:0<=m)(i:Nat):0<=l.getD i 0/\l.getD i 0<=m:=by
 rw[List.getD_eq_getElem?_getD];cases hi:l[i]? with
 |none=>simp;omega
 |some x=>simp;exact h x (List.mem_of_getElem? hi)
theorem Je{ks:List KV}{W:Nat}{us:List aC}{s:List Int×List bM}{u:aC}{m:Int}(hm:0<=m)(h:yA m s.1)(hh:0<=nC ks u/\nC ks u<=1000):yA (m+1000) (stk ks W us s u).1:=by
 unfold stk;split
 ·intro x hx
  have:=h x hx;omega
 ·intro x hx
  have h0:=h.at_ hm (lU ks W us u).toNat;rcases List.mem_or_eq_of_mem_set hx with hx|hx
  ·have:=h x hx
   omega
  ·omega
theorem Jf{ks:List KV}(h:Kd.aG (ks.map KV.k)=0)(u:aC):0<=nC ks u/\nC ks u<=1000:=by
 unfold nC;split
 ·omega
 ·rename_i k hk
  have:=jY h (List.mem_of_getElem? hk);omega
theorem gV{ks:List KV}{W:Nat}{us:List aC}(h:Kd.aG (ks.map KV.k)=0):∀(n:Nat),n<=us.length->yA (1000*(n:Int)) (strikes ks W us (us.take n)).1
 |0,_=>by
  intro x hx;have:x∈List.replicate us.length (0:Int):=hx;have:=List.eq_of_mem_replicate this;omega
 |n+1,hn=>by
  obtain⟨u,hu⟩:∃u,us[n]? =some u:=⟨_,List.getElem?_eq_getElem (by omega)⟩;rw[lV hu];have h9:=gV (ks:=ks) (W:=W) (us:=us) h n (by omega);have h8:=Je (W:=W) (us:=us) (m:=1000*(n:Int)) (by omega) h9 (Jf h u);intro x hx;have:=h8 x hx;omega
def hurt(us:List aC)(lost:List Int):List aC:=us.zipWith (λu n=>{u with life:=u.life-n}) lost
def jR(us:List aC)(lost:List Int)(n:Nat):List aC:=hurt (us.take n) (lost.take n)++us.drop n
theorem yB(us:List aC)(lost:List Int):jR us lost 0=us:=by simp[jR,hurt]
theorem Dp{us:List aC}{lost:List Int}(hl:lost.length=us.length):jR us lost us.length=hurt us lost:=by
 unfold jR;rw[List.take_of_length_le (Nat.le_refl _),List.take_of_length_le (by omega),List.drop_of_length_le (Nat.le_refl _),List.append_nil]
theorem iq{us:List aC}{lost:List Int}(hl:lost.length=us.length):(hurt us lost).length=us.length:=by
 unfold hurt;rw[List.length_zipWith,hl,Nat.min_self]
theorem vO{us:List aC}{lost:List Int}{n:Nat}{u:aC}(hl:lost.length=us.length)(hu:us[n]? =some u):(jR us lost n)[n]? =some u:=by
 have hn:=(List.getElem?_eq_some_iff.1 hu).1;unfold jR;have h1:(hurt (us.take n) (lost.take n)).length=n:=by rw[iq (by simp[hl]),List.length_take];omega
 rw[List.getElem?_append_right (by omega),h1,Nat.sub_self,List.getElem?_drop,Nat.add_zero];exact hu
theorem yC{us:List aC}{lost:List Int}{n:Nat}{u:aC}{x:Int}(hl:lost.length=us.length)(hu:us[n]? =some u)(hx:lost[n]? =some x):(jR us lost n).set n {u with life:=u.life-x}=jR us lost (n+1):=by
 obtain⟨hn,e1⟩:=List.getElem?_eq_some_iff.1 hu;obtain⟨hn2,e2⟩:=List.getElem?_eq_some_iff.1 hx;have h1:(hurt (us.take n) (lost.take n)).length=n:=by rw[iq (by simp[hl]),List.length_take];omega
 unfold jR;rw[List.set_append_right _ _ (by omega),h1,Nat.sub_self,List.drop_eq_getElem_cons hn,List.set_cons_zero];rw[List.take_succ_eq_append_getElem hn,List.take_succ_eq_append_getElem hn2,e1,e2];unfold hurt;rw[List.zipWith_append (by simp[hl])];simp
open Go.RowKit
theorem Du(H:Int)(u1 u2:Value)(Wn a b:Nat)(w:World)(h1:0<Wn)(h2:Wn<=12)(ha:a<=144)(hb:b<=144):
  Calls Tryz.prog 202 #[.agg #[int i64 (Wn:Nat),int i64 H,u1,u2],int i64 (a:Nat),int i64 (b:Nat)] w λe w'=>e=.returned (int i64 (pJ Wn a b))/\Below w.heap.size w w':=by
 obtain⟨ca,hca⟩:∃n,a%Wn=n:=⟨_,rfl⟩;obtain⟨ra,hra⟩:∃n,a/Wn=n:=⟨_,rfl⟩;obtain⟨cb,hcb⟩:∃n,b%Wn=n:=⟨_,rfl⟩;obtain⟨rb,hrb⟩:∃n,b/Wn=n:=⟨_,rfl⟩;have hw:¬(Wn:Int)=0:=by omega
 have e1:(a:Int)%(Wn:Int)=(ca:Nat):=by rw[<-hca];rfl
 have e2:(a:Int)/(Wn:Int)=(ra:Nat):=by rw[<-hra];rfl
 have e3:(b:Int)%(Wn:Int)=(cb:Nat):=by rw[<-hcb];rfl
 have e4:(b:Int)/(Wn:Int)=(rb:Nat):=by rw[<-hrb];rfl
 have l1:ra<=144:=by rw[<-hra];exact Nat.le_trans (Nat.div_le_self _ _) ha
 have l2:rb<=144:=by rw[<-hrb];exact Nat.le_trans (Nat.div_le_self _ _) hb
 have l3:ca<=144:=by rw[<-hca];exact Nat.le_trans (Nat.mod_le _ _) ha
 have l4:cb<=144:=by rw[<-hcb];exact Nat.le_trans (Nat.mod_le _ _) hb
 have FR:Hid (∀r,Ma.Sq r (((ca:Int)-(cb:Nat))*((ca:Int)-(cb:Nat))+((ra:Int)-(rb:Nat))*((ra:Int)-(rb:Nat)))->pJ Wn a b=r):=by
  intro r hr;refine Nr h2 ha hb h1 ?_;rw[hca,hra,hcb,hrb];exact hr
 have FO:Hid (∀W,Calls Tryz.prog 184 #[int i64 (ca:Nat),int i64 (ra:Nat),int i64 (cb:Nat),int i64 (rb:Nat)] W λe w'=>e=.returned (.tuple #[int i64 (pJ Wn a b),.nilIface])/\w'=W):=λW=>by
  refine(QG _ _ _ _ W (j_ l3) (j_ l1) (j_ l4) (j_ l2)).mono ?_;rintro e w' ⟨r,hr,rfl,rfl⟩;rw[FR.out r hr];exact⟨rfl,rfl⟩
 clear hca hra hcb hrb FR;have B0:Hid (Below _ w (w.alloc (Obj.cells #[int i64 (Wn:Nat),int i64 H,u1,u2] 25))):=(Below.refl _ _).alloc (Nat.le_refl _) _;have c0:(w.alloc (Obj.cells #[int i64 (Wn:Nat),int i64 H,u1,u2] 25)).cell? ⟨w.heap.size,0,none⟩=some (int i64 (Wn:Nat)):=by simp
 obtain⟨f,hf⟩:∃f,pJ Wn a b=f:=⟨_,rfl⟩;rw[hf] at FO ⊢;clear hf;go_enter Tryz.func202,Tryz.ntmps202;go_upto_region 1 with fail
 generalize (w.alloc _)=w0 at *;go_quiet ((go_at_call 184;exact Calls.quiet_of_same (FO.out _)));go_wp2;go_ret;exact⟨rfl,⟨B0.out.os,B0.out.tape,B0.out.output,B0.out.size,B0.out.block⟩⟩
end Go.Proofs.YtolfphmdmpehdaaGreatDoor
