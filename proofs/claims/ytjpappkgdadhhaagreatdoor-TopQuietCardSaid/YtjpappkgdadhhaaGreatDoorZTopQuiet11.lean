/- marchtop.one: the fact of package marchtop tells true. And more. -/
import Derived.Test.YtjpappkgdadhhaaGreatDoorZTopQuiet10
import Derived.Deep.SlicePairs
import Derived.OpenShut
import Derived.RangeFuncRecord
set_option linter.unusedVariables false
set_option maxHeartbeats 64000000
set_option maxRecDepth 100000
namespace Go.Proofs.YtjpappkgdadhhaaGreatDoor
open Go.Value (int slice)
open Go.IntKind (i64)
open Go.RowKit Go.Proofs.YtjpappkgdadhhaaGreatDoor.So
namespace One
def X0:WV:=⟨0,1,4,2,SG,SO,[0],[],[]⟩
def X1:WV:=⟨0,2,4,2,SG,SO,[0],[ob],[]⟩
theorem f0:Wd.d_ OK 4 2 SG SO 1 0=0:=by decide+kernel
theorem f1:Wd.dN OK X0 0 0 0=0:=by decide+kernel
theorem f2:Wd.dN OK X1 0 1 1=0:=by decide+kernel
theorem e0:Wd.begun OK 4 2 SG SO 1 0=X0:=vY f0
theorem e1:Wd.placed OK X0 0 0 0=X1:=(jO f1).trans rfl
theorem e2:Wd.placed OK X1 0 1 1=OX:=(jO f2).trans rfl
theorem names:∀k∈OK,k.b.size<=9223372036854775807:=by
 intro k hk;unfold OK at hk;rcases List.mem_cons.1 hk with rfl|hk
 ·decide
 rcases List.mem_cons.1 hk with rfl|hk
 ·decide
 ·cases hk
theorem ez{r:Value}(h:Er r 0):r=.nilIface:=by
 rcases h with⟨-,h⟩|⟨h,-⟩
 ·exact h
 ·exact absurd rfl h
theorem Uz{w:World}{z:Nat}(hz:w.heap.size=z):Kl (w.alloc (.cells #[.string ⟨#[98,97,115,101]⟩,int i64 50,int i64 0,int i64 0,int i64 0,int i64 0,int i64 0,int i64 0,int i64 0,.bool false,.bool true,.string ⟨#[100,105,103,103,101,114]⟩,int i64 10,int i64 0,int i64 0,int i64 0,int i64 2,int i64 0,int i64 0,int i64 20,.bool false,.bool false] 37)) (slice (some ⟨z,0,none⟩) 2 2) OK:=by
 subst hz;refine⟨_,2,rfl,Nat.le_refl _,by omega,λ_=>⟨_,rfl,by simp,λi k hi=>?_⟩⟩;have hl:i<2:=(List.getElem?_eq_some_iff.1 hi).1;rw[Addr.add_lit,Nat.zero_add]
 match i,hl,hi with
 |0,_,hi=>injection hi with hi;subst hi;constructor<;>simp[OB]
 |1,_,hi=>injection hi with hi;subst hi;constructor<;>simp[OD]
theorem UD(w:World):wU (w.alloc (Obj.cells #[int i64 0,int i64 2,int i64 2,int i64 6] 53)) (slice (some ⟨w.heap.size,0,none⟩) 1 1) [oo]:=by
 refine⟨_,_,rfl,by decide,by decide,λ_=>⟨⟨w.heap.size,0,none⟩,rfl,by simp,λi k hk=>?_⟩⟩;have hn:=heap_alloc_new w (Obj.cells #[int i64 0,int i64 2,int i64 2,int i64 6] 53)
 match i,hk with
 |0,hk=>simp[oo] at hk;subst hk;refine⟨?_,?_,?_,?_⟩<;>(simp only[World.cell?,Addr.add_lit,hn];rfl)
 |i+1,hk=>simp at hk
theorem UJ(w:World)(v:Value)(hv:wU w v [oo]):Fb (w.alloc (Obj.cells #[v,slice none 0 0,slice none 0 0] 54)) (slice (some ⟨w.heap.size,0,none⟩) 3 3) [[oo],[],[]]:=by
 have hn:=heap_alloc_new w (Obj.cells #[v,slice none 0 0,slice none 0 0] 54);have hb:Below w.heap.size w (w.alloc (Obj.cells #[v,slice none 0 0,slice none 0 0] 54)):=(Below.refl _ _).alloc (Nat.le_refl _) _;have ol:∀W,wU W (slice none 0 0) []:=λW=>⟨none,0,rfl,Nat.le_refl _,by omega,λh=>absurd rfl h⟩
 refine⟨_,_,rfl,by decide,by decide,λ_=>⟨⟨w.heap.size,0,none⟩,rfl,by simp,λi l hl=>?_⟩⟩
 match i,hl with
 |0,hl=>simp at hl;subst hl;exact⟨_,by simp only[World.cell?,Addr.add_lit,hn];rfl,hv.below hb⟩
 |1,hl=>simp at hl;subst hl;exact⟨_,by simp only[World.cell?,Addr.add_lit,hn];rfl,ol _⟩
 |2,hl=>simp at hl;subst hl;exact⟨_,by simp only[World.cell?,Addr.add_lit,hn];rfl,ol _⟩
 |i+3,hl=>simp at hl
end One
theorem one_any(w:World)(hsd:Sd w):Calls Tryz.prog 5 #[] w λe w'=>e=.returned (.bool true)/\Below w.heap.size w w':=by
 have Vh:Hid (Sd w):=hsd;clear hsd;go_enter Tryz.func5,Tryz.ntmps5;go_upto_region 2 with fail
 have KL:Hid (Kl (w.alloc (Obj.cells #[.string ⟨#[98,97,115,101]⟩,int i64 50,int i64 0,int i64 0,int i64 0,int i64 0,int i64 0,int i64 0,int i64 0,.bool false,.bool true,.string ⟨#[100,105,103,103,101,114]⟩,int i64 10,int i64 0,int i64 0,int i64 0,int i64 2,int i64 0,int i64 0,int i64 20,.bool false,.bool false] 37)) (slice (some ⟨w.heap.size,0,none⟩) 2 2) OK):=One.Uz rfl;have B0:Hid (Below w.heap.size w (w.alloc (Obj.cells #[.string ⟨#[98,97,115,101]⟩,int i64 50,int i64 0,int i64 0,int i64 0,int i64 0,int i64 0,int i64 0,int i64 0,.bool false,.bool true,.string ⟨#[100,105,103,103,101,114]⟩,int i64 10,int i64 0,int i64 0,int i64 0,int i64 2,int i64 0,int i64 0,int i64 20,.bool false,.bool false] 37))):=(Below.refl _ _).alloc (Nat.le_refl _) _;generalize w.alloc (Obj.cells #[.string ⟨#[98,97,115,101]⟩,int i64 50,int i64 0,int i64 0,int i64 0,int i64 0,int i64 0,int i64 0,int i64 0,.bool false,.bool true,.string ⟨#[100,105,103,103,101,114]⟩,int i64 10,int i64 0,int i64 0,int i64 0,int i64 2,int i64 0,int i64 0,int i64 20,.bool false,.bool false] 37)=w0 at *;obtain⟨zk,Xn⟩:∃z,w.heap.size=z:=⟨_,rfl⟩;have Zp:Hid (w.heap.size=zk):=Xn;rw[Xn] at KL ⊢;clear Xn;go_wp2_with fail
 refine(parse_any ⟨#[46,46,46,46,10,46,46,51,46,10]⟩ w0 (by decide)).mono ?_;rintro e w1 ⟨hs,hb⟩;have hp:Fd.parse (⟨#[46,46,46,46,10,46,46,51,46,10]⟩:ByteArray).data.toList=.inr ⟨0,4,2,SG,SO⟩:=JZ;rcases hs with⟨i,f,h1,-⟩|⟨st,u1,u2,h1,h2,r1,r2⟩
 ·rw[hp] at h1;cases h1
 rw[hp] at h1;injection h1 with h1
 subst h1;subst h2;have RO:Hid (Ro w1 u1 SG/\Ro w1 u2 SO):=⟨r1,r2⟩;obtain⟨p1,q1,rfl,-⟩:=r1;obtain⟨p2,q2,rfl,-⟩:=r2;have B1:Hid (Below w0.heap.size w0 w1):=hb;clear hb hp;have l8:SG.length=8:=rfl;have l8':SO.length=8:=rfl;rw[l8,l8'] at *;clear l8 l8';go_upto_region 3 with fail
 have BA:Hid (Below w1.heap.size w1 (w1.alloc (Obj.cells #[int i64 4,int i64 2,slice p1 8 q1,slice p2 8 q2] 25))):=(Below.refl _ _).alloc (Nat.le_refl _) _;obtain⟨zf,Xo⟩:∃z,w1.heap.size=z:=⟨_,rfl⟩;have X2:Hid (Bx (w1.alloc (Obj.cells #[int i64 4,int i64 2,slice p1 8 q1,slice p2 8 q2] 25)) zf 4 2 (slice p1 8 q1) (slice p2 8 q2)):=Bx.mk' _ _ _ _ Xo;have FL:Hid (Fl (w1.alloc (Obj.cells #[int i64 4,int i64 2,slice p1 8 q1,slice p2 8 q2] 25)) (.agg #[int i64 4,int i64 2,slice p1 8 q1,slice p2 8 q2]) 4 2 SG SO):=⟨_,_,rfl,RO.out.1.below BA.out,RO.out.2.below BA.out⟩;have B2:Hid (Below w0.heap.size w0 (w1.alloc (Obj.cells #[int i64 4,int i64 2,slice p1 8 q1,slice p2 8 q2] 25))):=B1.out.trans (BA.out.mono B1.out.size);rw[Xo];generalize (w1.alloc (Obj.cells #[int i64 4,int i64 2,slice p1 8 q1,slice p2 8 q2] 25))=w2 at *;clear BA B1 RO Xo;obtain⟨f0,f1,f2,f3⟩:=X2.out;go_wp2_with fail
 refine(new_any _ _ OK 4 2 SG SO 1 0 w2 (KL.out.below B2.out) One.names FL.out).mono ?_;rintro e w3 ⟨u,r,rfl,hr,ho,hb⟩;rw[One.f0] at hr;rw[One.e0] at ho;obtain rfl:=One.ez hr;have B3:Hid (Below w0.heap.size w0 w3):=B2.out.trans (hb.mono B2.out.size);have L3:Hid (Wl w3 u One.X0):=ho.l;clear hr hb f0 f1 f2 f3 X2 FL B2;obtain⟨y1,y2,y3,y4,y5,rfl,o1,o2,o3,o4,o5⟩:=ho;obtain⟨a1,b1,rfl⟩:=o1.len;obtain⟨a2,b2,rfl⟩:=o2.len;obtain⟨a3,b3,rfl⟩:=o3.len;obtain⟨a4,b4,rfl⟩:=o4.len;obtain⟨a5,b5,rfl⟩:=o5.len;have L3':Hid (Wl w3 (.agg #[int i64 0,int i64 1,int i64 4,int i64 2,slice a1 8 b1,slice a2 8 b2,slice a3 1 b3,slice a4 0 b4,slice a5 0 b5]) One.X0):=L3.out;clear L3 o1 o2 o3 o4 o5;have g1:One.X0.turn=0/\One.X0.next=1/\One.X0.wide=4/\One.X0.high=2/\One.X0.gs.length=8/\One.X0.os.length=8/\One.X0.gold.length=1/\One.X0.us.length=0/\One.X0.qs.length=0:=⟨rfl,rfl,rfl,rfl,rfl,rfl,rfl,rfl,rfl⟩;obtain⟨g1,g2,g3,g4,g5,g6,g7,g8,g9⟩:=g1;simp only[g1,g2,g3,g4,g5,g6,g7,g8,g9];clear g1 g2 g3 g4 g5 g6 g7 g8 g9;go_upto_region 4 with fail
 have BA:Hid (Below w3.heap.size w3 (w3.alloc (Obj.cells #[int i64 0,int i64 1,int i64 4,int i64 2,slice a1 8 b1,slice a2 8 b2,slice a3 1 b3,slice a4 0 b4,slice a5 0 b5] 29))):=(Below.refl _ _).alloc (Nat.le_refl _) _;obtain⟨z,hz⟩:∃z,w3.heap.size=z:=⟨_,rfl⟩;have XA0:Hid (Wx (w3.alloc (Obj.cells #[int i64 0,int i64 1,int i64 4,int i64 2,slice a1 8 b1,slice a2 8 b2,slice a3 1 b3,slice a4 0 b4,slice a5 0 b5] 29)) z (int i64 0) (int i64 1) (int i64 4) (int i64 2) (slice a1 8 b1) (slice a2 8 b2) (slice a3 1 b3) (slice a4 0 b4) (slice a5 0 b5)):=Wx.new _ _ _ _ _ _ _ _ _ hz;have LA0:Hid (Wl (w3.alloc (Obj.cells #[int i64 0,int i64 1,int i64 4,int i64 2,slice a1 8 b1,slice a2 8 b2,slice a3 1 b3,slice a4 0 b4,slice a5 0 b5] 29)) (.agg #[int i64 0,int i64 1,int i64 4,int i64 2,slice a1 8 b1,slice a2 8 b2,slice a3 1 b3,slice a4 0 b4,slice a5 0 b5]) One.X0):=L3'.out.below BA.out;have BA0:Hid (Below w0.heap.size w0 (w3.alloc (Obj.cells #[int i64 0,int i64 1,int i64 4,int i64 2,slice a1 8 b1,slice a2 8 b2,slice a3 1 b3,slice a4 0 b4,slice a5 0 b5] 29))):=B3.out.trans (BA.out.mono B3.out.size);have NZ:Hid (w0.heap.size<=z):=by rw[<-hz];exact B3.out.size
 rw[hz];generalize w3.alloc (Obj.cells #[int i64 0,int i64 1,int i64 4,int i64 2,slice a1 8 b1,slice a2 8 b2,slice a3 1 b3,slice a4 0 b4,slice a5 0 b5] 29)=s0 at *;clear BA L3' B3 hz;obtain⟨x0,x1,x2,x3,x4,x5,x6,x7,x8⟩:=XA0.out.cells;go_wp2_with fail
 refine(mO _ _ OK One.X0 0 0 0 s0 (KL.out.below BA0.out) One.names LA0.out).mono ?_;rintro e v0 ⟨u,r,rfl,hr,ho,hb⟩;rw[One.f1] at hr;rw[One.e1] at ho;obtain rfl:=One.ez hr;have BV:Hid (Below w0.heap.size w0 v0):=BA0.out.trans (hb.mono BA0.out.size);have XV:Hid (Wx v0 z (int i64 0) (int i64 1) (int i64 4) (int i64 2) (slice a1 8 b1) (slice a2 8 b2) (slice a3 1 b3) (slice a4 0 b4) (slice a5 0 b5)):=XA0.out.below hb XA0.out.lt;have LV:Hid (Wo v0 s0.heap.size u One.X1/\z<s0.heap.size):=⟨ho,XA0.out.lt⟩;clear hr hb x0 x1 x2 x3 x4 x5 x6 x7 x8 XA0 LA0 BA0;obtain⟨y1,y2,y3,y4,y5,rfl,o1,o2,o3,o4,o5⟩:=ho;obtain⟨c1,d1,rfl⟩:=o1.len;obtain⟨c2,d2,rfl⟩:=o2.len;obtain⟨c3,d3,rfl⟩:=o3.len;obtain⟨c4,d4,rfl⟩:=o4.len;obtain⟨c5,d5,rfl⟩:=o5.len;have Rl:Hid (Wo v0 s0.heap.size (.agg #[int i64 0,int i64 2,int i64 4,int i64 2,slice c1 8 d1,slice c2 8 d2,slice c3 1 d3,slice c4 1 d4,slice c5 0 d5]) One.X1/\z<s0.heap.size):=LV.out;clear LV o1 o2 o3 o4 o5;have g1:One.X1.turn=0/\One.X1.next=2/\One.X1.wide=4/\One.X1.high=2/\One.X1.gs.length=8/\One.X1.os.length=8/\One.X1.gold.length=1/\One.X1.us.length=1/\One.X1.qs.length=0:=⟨rfl,rfl,rfl,rfl,rfl,rfl,rfl,rfl,rfl⟩;obtain⟨g1,g2,g3,g4,g5,g6,g7,g8,g9⟩:=g1;simp only[g1,g2,g3,g4,g5,g6,g7,g8,g9];clear g1 g2 g3 g4 g5 g6 g7 g8 g9;obtain⟨x0,x1,x2,x3,x4,x5,x6,x7,x8⟩:=XV.out.cells;obtain⟨t0,t1,t2,t3,t4,t5,t6,t7,t8⟩:=XV.out.bG;have KW:Hid (Kp z v0 (((((((((v0.setCell ⟨z,0,none⟩ (int i64 0)).setCell ⟨z,1,none⟩ (int i64 2)).setCell ⟨z,2,none⟩ (int i64 4)).setCell ⟨z,3,none⟩ (int i64 2)).setCell ⟨z,4,none⟩ (slice c1 8 d1)).setCell ⟨z,5,none⟩ (slice c2 8 d2)).setCell ⟨z,6,none⟩ (slice c3 1 d3)).setCell ⟨z,7,none⟩ (slice c4 1 d4)).setCell ⟨z,8,none⟩ (slice c5 0 d5))):=aQ _ _ _ _ _ _ _ _ _ _ _;have XA1:Hid (Wx (((((((((v0.setCell ⟨z,0,none⟩ (int i64 0)).setCell ⟨z,1,none⟩ (int i64 2)).setCell ⟨z,2,none⟩ (int i64 4)).setCell ⟨z,3,none⟩ (int i64 2)).setCell ⟨z,4,none⟩ (slice c1 8 d1)).setCell ⟨z,5,none⟩ (slice c2 8 d2)).setCell ⟨z,6,none⟩ (slice c3 1 d3)).setCell ⟨z,7,none⟩ (slice c4 1 d4)).setCell ⟨z,8,none⟩ (slice c5 0 d5)) z (int i64 0) (int i64 2) (int i64 4) (int i64 2) (slice c1 8 d1) (slice c2 8 d2) (slice c3 1 d3) (slice c4 1 d4) (slice c5 0 d5)):=XV.out.put (int i64 0) (int i64 2) (int i64 4) (int i64 2) (slice c1 8 d1) (slice c2 8 d2) (slice c3 1 d3) (slice c4 1 d4) (slice c5 0 d5);have LA1:Hid (Wl (((((((((v0.setCell ⟨z,0,none⟩ (int i64 0)).setCell ⟨z,1,none⟩ (int i64 2)).setCell ⟨z,2,none⟩ (int i64 4)).setCell ⟨z,3,none⟩ (int i64 2)).setCell ⟨z,4,none⟩ (slice c1 8 d1)).setCell ⟨z,5,none⟩ (slice c2 8 d2)).setCell ⟨z,6,none⟩ (slice c3 1 d3)).setCell ⟨z,7,none⟩ (slice c4 1 d4)).setCell ⟨z,8,none⟩ (slice c5 0 d5)) (.agg #[int i64 0,int i64 2,int i64 4,int i64 2,slice c1 8 d1,slice c2 8 d2,slice c3 1 d3,slice c4 1 d4,slice c5 0 d5]) One.X1):=(Rl.out.1.kp KW.out Rl.out.2).l;have BA1:Hid (Below w0.heap.size w0 (((((((((v0.setCell ⟨z,0,none⟩ (int i64 0)).setCell ⟨z,1,none⟩ (int i64 2)).setCell ⟨z,2,none⟩ (int i64 4)).setCell ⟨z,3,none⟩ (int i64 2)).setCell ⟨z,4,none⟩ (slice c1 8 d1)).setCell ⟨z,5,none⟩ (slice c2 8 d2)).setCell ⟨z,6,none⟩ (slice c3 1 d3)).setCell ⟨z,7,none⟩ (slice c4 1 d4)).setCell ⟨z,8,none⟩ (slice c5 0 d5))):=KW.out.below BV.out BV.out.size NZ.out;go_upto_region 5 with fail
 clear x0 x1 x2 x3 x4 x5 x6 x7 x8 t0 t1 t2 t3 t4 t5 t6 t7 t8 XV Rl BV KW;generalize ((((((((v0.setCell ⟨z,0,none⟩ (int i64 0)).setCell ⟨z,1,none⟩ (int i64 2)).setCell ⟨z,2,none⟩ (int i64 4)).setCell ⟨z,3,none⟩ (int i64 2)).setCell ⟨z,4,none⟩ (slice c1 8 d1)).setCell ⟨z,5,none⟩ (slice c2 8 d2)).setCell ⟨z,6,none⟩ (slice c3 1 d3)).setCell ⟨z,7,none⟩ (slice c4 1 d4)).setCell ⟨z,8,none⟩ (slice c5 0 d5)=s1 at *;obtain⟨x0,x1,x2,x3,x4,x5,x6,x7,x8⟩:=XA1.out.cells;go_wp2_with fail
 refine(mO _ _ OK One.X1 0 1 1 s1 (KL.out.below BA1.out) One.names LA1.out).mono ?_;rintro e v1 ⟨u,r,rfl,hr,ho,hb⟩;rw[One.f2] at hr;rw[One.e2] at ho;obtain rfl:=One.ez hr;have BV:Hid (Below w0.heap.size w0 v1):=BA1.out.trans (hb.mono BA1.out.size);have XV:Hid (Wx v1 z (int i64 0) (int i64 2) (int i64 4) (int i64 2) (slice c1 8 d1) (slice c2 8 d2) (slice c3 1 d3) (slice c4 1 d4) (slice c5 0 d5)):=XA1.out.below hb XA1.out.lt;have LV:Hid (Wo v1 s1.heap.size u OX/\z<s1.heap.size):=⟨ho,XA1.out.lt⟩;clear hr hb x0 x1 x2 x3 x4 x5 x6 x7 x8 XA1 LA1 BA1;obtain⟨y1,y2,y3,y4,y5,rfl,o1,o2,o3,o4,o5⟩:=ho;obtain⟨m1,n1,rfl⟩:=o1.len;obtain⟨m2,n2,rfl⟩:=o2.len;obtain⟨m3,n3,rfl⟩:=o3.len;obtain⟨m4,n4,rfl⟩:=o4.len;obtain⟨m5,n5,rfl⟩:=o5.len;have Rl:Hid (Wo v1 s1.heap.size (.agg #[int i64 0,int i64 3,int i64 4,int i64 2,slice m1 8 n1,slice m2 8 n2,slice m3 1 n3,slice m4 2 n4,slice m5 0 n5]) OX/\z<s1.heap.size):=LV.out;clear LV o1 o2 o3 o4 o5;have g1:OX.turn=0/\OX.next=3/\OX.wide=4/\OX.high=2/\OX.gs.length=8/\OX.os.length=8/\OX.gold.length=1/\OX.us.length=2/\OX.qs.length=0:=⟨rfl,rfl,rfl,rfl,rfl,rfl,rfl,rfl,rfl⟩;obtain⟨g1,g2,g3,g4,g5,g6,g7,g8,g9⟩:=g1;simp only[g1,g2,g3,g4,g5,g6,g7,g8,g9];clear g1 g2 g3 g4 g5 g6 g7 g8 g9;obtain⟨x0,x1,x2,x3,x4,x5,x6,x7,x8⟩:=XV.out.cells;obtain⟨t0,t1,t2,t3,t4,t5,t6,t7,t8⟩:=XV.out.bG;have KW:Hid (Kp z v1 (((((((((v1.setCell ⟨z,0,none⟩ (int i64 0)).setCell ⟨z,1,none⟩ (int i64 3)).setCell ⟨z,2,none⟩ (int i64 4)).setCell ⟨z,3,none⟩ (int i64 2)).setCell ⟨z,4,none⟩ (slice m1 8 n1)).setCell ⟨z,5,none⟩ (slice m2 8 n2)).setCell ⟨z,6,none⟩ (slice m3 1 n3)).setCell ⟨z,7,none⟩ (slice m4 2 n4)).setCell ⟨z,8,none⟩ (slice m5 0 n5))):=aQ _ _ _ _ _ _ _ _ _ _ _;have XA2:Hid (Wx (((((((((v1.setCell ⟨z,0,none⟩ (int i64 0)).setCell ⟨z,1,none⟩ (int i64 3)).setCell ⟨z,2,none⟩ (int i64 4)).setCell ⟨z,3,none⟩ (int i64 2)).setCell ⟨z,4,none⟩ (slice m1 8 n1)).setCell ⟨z,5,none⟩ (slice m2 8 n2)).setCell ⟨z,6,none⟩ (slice m3 1 n3)).setCell ⟨z,7,none⟩ (slice m4 2 n4)).setCell ⟨z,8,none⟩ (slice m5 0 n5)) z (int i64 0) (int i64 3) (int i64 4) (int i64 2) (slice m1 8 n1) (slice m2 8 n2) (slice m3 1 n3) (slice m4 2 n4) (slice m5 0 n5)):=XV.out.put (int i64 0) (int i64 3) (int i64 4) (int i64 2) (slice m1 8 n1) (slice m2 8 n2) (slice m3 1 n3) (slice m4 2 n4) (slice m5 0 n5);have LA2:Hid (Wl (((((((((v1.setCell ⟨z,0,none⟩ (int i64 0)).setCell ⟨z,1,none⟩ (int i64 3)).setCell ⟨z,2,none⟩ (int i64 4)).setCell ⟨z,3,none⟩ (int i64 2)).setCell ⟨z,4,none⟩ (slice m1 8 n1)).setCell ⟨z,5,none⟩ (slice m2 8 n2)).setCell ⟨z,6,none⟩ (slice m3 1 n3)).setCell ⟨z,7,none⟩ (slice m4 2 n4)).setCell ⟨z,8,none⟩ (slice m5 0 n5)) (.agg #[int i64 0,int i64 3,int i64 4,int i64 2,slice m1 8 n1,slice m2 8 n2,slice m3 1 n3,slice m4 2 n4,slice m5 0 n5]) OX):=(Rl.out.1.kp KW.out Rl.out.2).l;have BA2:Hid (Below w0.heap.size w0 (((((((((v1.setCell ⟨z,0,none⟩ (int i64 0)).setCell ⟨z,1,none⟩ (int i64 3)).setCell ⟨z,2,none⟩ (int i64 4)).setCell ⟨z,3,none⟩ (int i64 2)).setCell ⟨z,4,none⟩ (slice m1 8 n1)).setCell ⟨z,5,none⟩ (slice m2 8 n2)).setCell ⟨z,6,none⟩ (slice m3 1 n3)).setCell ⟨z,7,none⟩ (slice m4 2 n4)).setCell ⟨z,8,none⟩ (slice m5 0 n5))):=KW.out.below BV.out BV.out.size NZ.out;go_upto_region 6 with fail
 clear x0 x1 x2 x3 x4 x5 x6 x7 x8 t0 t1 t2 t3 t4 t5 t6 t7 t8 XV Rl BV KW;generalize ((((((((v1.setCell ⟨z,0,none⟩ (int i64 0)).setCell ⟨z,1,none⟩ (int i64 3)).setCell ⟨z,2,none⟩ (int i64 4)).setCell ⟨z,3,none⟩ (int i64 2)).setCell ⟨z,4,none⟩ (slice m1 8 n1)).setCell ⟨z,5,none⟩ (slice m2 8 n2)).setCell ⟨z,6,none⟩ (slice m3 1 n3)).setCell ⟨z,7,none⟩ (slice m4 2 n4)).setCell ⟨z,8,none⟩ (slice m5 0 n5)=s2 at *;go_upto_region 7 with fail
 have BO:Hid (Below s2.heap.size s2 (s2.alloc (Obj.cells #[int i64 0,int i64 2,int i64 2,int i64 6] 53))):=(Below.refl _ _).alloc (Nat.le_refl _) _;obtain⟨zo,Xp⟩:∃z,s2.heap.size=z:=⟨_,rfl⟩;have OL:Hid (wU (s2.alloc (Obj.cells #[int i64 0,int i64 2,int i64 2,int i64 6] 53)) (slice (some ⟨zo,0,none⟩) 1 1) [oo]):=by rw[<-Xp];exact One.UD s2
 have X6:Hid (Wx (s2.alloc (Obj.cells #[int i64 0,int i64 2,int i64 2,int i64 6] 53)) z (int i64 0) (int i64 3) (int i64 4) (int i64 2) (slice m1 8 n1) (slice m2 8 n2) (slice m3 1 n3) (slice m4 2 n4) (slice m5 0 n5)):=XA2.out.below BO.out XA2.out.lt;have L6:Hid (Wl (s2.alloc (Obj.cells #[int i64 0,int i64 2,int i64 2,int i64 6] 53)) (.agg #[int i64 0,int i64 3,int i64 4,int i64 2,slice m1 8 n1,slice m2 8 n2,slice m3 1 n3,slice m4 2 n4,slice m5 0 n5]) OX):=LA2.out.below BO.out;have B6:Hid (Below w0.heap.size w0 (s2.alloc (Obj.cells #[int i64 0,int i64 2,int i64 2,int i64 6] 53))):=BA2.out.trans (BO.out.mono BA2.out.size);rw[Xp];generalize s2.alloc (Obj.cells #[int i64 0,int i64 2,int i64 2,int i64 6] 53)=w6 at *;clear BO Xp XA2 LA2 BA2;have BL:Hid (Below w6.heap.size w6 (w6.alloc (Obj.cells #[slice (some ⟨zo,0,none⟩) 1 1,slice none 0 0,slice none 0 0] 54))):=(Below.refl _ _).alloc (Nat.le_refl _) _;have LL:Hid (Fb (w6.alloc (Obj.cells #[slice (some ⟨zo,0,none⟩) 1 1,slice none 0 0,slice none 0 0] 54)) (slice (some ⟨w6.heap.size,0,none⟩) 3 3) [[oo],[],[]]):=One.UJ w6 _ OL.out;have B7:Hid (Below w0.heap.size w0 (w6.alloc (Obj.cells #[slice (some ⟨zo,0,none⟩) 1 1,slice none 0 0,slice none 0 0] 54))):=B6.out.trans (BL.out.mono B6.out.size);have L7:Hid (Wl (w6.alloc (Obj.cells #[slice (some ⟨zo,0,none⟩) 1 1,slice none 0 0,slice none 0 0] 54)) (.agg #[int i64 0,int i64 3,int i64 4,int i64 2,slice m1 8 n1,slice m2 8 n2,slice m3 1 n3,slice m4 2 n4,slice m5 0 n5]) OX):=L6.out.below BL.out;obtain⟨x0,x1,x2,x3,x4,x5,x6,x7,x8⟩:=X6.out.cells;go_wp2_with fail
 refine(vW _ _ _ OK OX [[oo],[],[]] _ (KL.out.below B7.out) One.names L7.out LL.out ((Vh.out.below B0.out).below B7.out)).mono ?_;rintro e w8 ⟨v,r,FF,rfl,hr,hf,hb⟩;obtain⟨rfl,ho⟩:=Kv hf hr;have B8:Hid (Below w0.heap.size w0 w8):=B7.out.trans (hb.mono B7.out.size);have G8:Hid (Wl w8 v (OW 3 10 20 (od 1 0 2 6))):=ho.l;clear hr hf hb x0 x1 x2 x3 x4 x5 x6 x7 x8 X6 L6 B6 BL LL B7 L7 OL;obtain⟨y1,y2,y3,y4,y5,rfl,o1,o2,o3,o4,o5⟩:=ho;obtain⟨r1,s1,rfl⟩:=o1.len;obtain⟨r2,s2,rfl⟩:=o2.len;obtain⟨r3,s3,rfl⟩:=o3.len;obtain⟨r4,s4,rfl⟩:=o4.len;obtain⟨r5,s5,rfl⟩:=o5.len;obtain⟨ya,yc,ye,-,-,yq⟩:=o3.ro;injection ye with e1 e2 e3
 subst e1 e3;obtain⟨yg,rfl,ylt,yq⟩:=yq (by simp[OW]);have c20:=yq 0 20 rfl;have ey:yg.add 0=yg:=by simp[Addr.add]
 rw[ey] at c20;have YL:Hid (w8.cell? yg=some (int i64 20)/\yg.block<w8.heap.size):=⟨c20,ylt⟩;clear o1 o2 o3 o4 o5 yq c20 ylt e2 ey G8;have g1:(OW 3 10 20 (od 1 0 2 6)).turn=3/\(OW 3 10 20 (od 1 0 2 6)).next=3/\(OW 3 10 20 (od 1 0 2 6)).wide=4/\(OW 3 10 20 (od 1 0 2 6)).high=2/\(OW 3 10 20 (od 1 0 2 6)).gs.length=8/\(OW 3 10 20 (od 1 0 2 6)).os.length=8/\(OW 3 10 20 (od 1 0 2 6)).gold.length=1/\(OW 3 10 20 (od 1 0 2 6)).us.length=2/\(OW 3 10 20 (od 1 0 2 6)).qs.length=0:=⟨rfl,rfl,rfl,rfl,rfl,rfl,rfl,rfl,rfl⟩
 obtain⟨g1,g2,g3,g4,g5,g6,g7,g8,g9⟩:=g1;simp only[g1,g2,g3,g4,g5,g6,g7,g8,g9];clear g1 g2 g3 g4 g5 g6 g7 g8 g9;go_upto_region 8 with fail
 have BF:Hid (Below w8.heap.size w8 (w8.alloc (Obj.cells #[int i64 3,int i64 3,int i64 4,int i64 2,slice r1 8 s1,slice r2 8 s2,slice (some yg) 1 s3,slice r4 2 s4,slice r5 0 s5] 29))):=(Below.refl _ _).alloc (Nat.le_refl _) _;obtain⟨zz,hzz⟩:∃z,w8.heap.size=z:=⟨_,rfl⟩;have XF:Hid (Wx (w8.alloc (Obj.cells #[int i64 3,int i64 3,int i64 4,int i64 2,slice r1 8 s1,slice r2 8 s2,slice (some yg) 1 s3,slice r4 2 s4,slice r5 0 s5] 29)) zz (int i64 3) (int i64 3) (int i64 4) (int i64 2) (slice r1 8 s1) (slice r2 8 s2) (slice (some yg) 1 s3) (slice r4 2 s4) (slice r5 0 s5)):=Wx.new _ _ _ _ _ _ _ _ _ hzz;have B9:Hid (Below w0.heap.size w0 (w8.alloc (Obj.cells #[int i64 3,int i64 3,int i64 4,int i64 2,slice r1 8 s1,slice r2 8 s2,slice (some yg) 1 s3,slice r4 2 s4,slice r5 0 s5] 29))):=B8.out.trans (BF.out.mono B8.out.size);have c20:(w8.alloc (Obj.cells #[int i64 3,int i64 3,int i64 4,int i64 2,slice r1 8 s1,slice r2 8 s2,slice (some yg) 1 s3,slice r4 2 s4,slice r5 0 s5] 29)).cell? yg=some (int i64 20):=by rw[BF.out.cell YL.out.2];exact YL.out.1
 rw[hzz];generalize w8.alloc (Obj.cells #[int i64 3,int i64 3,int i64 4,int i64 2,slice r1 8 s1,slice r2 8 s2,slice (some yg) 1 s3,slice r4 2 s4,slice r5 0 s5] 29)=w9 at *;clear BF hzz B8 YL;obtain⟨x0,x1,x2,x3,x4,x5,x6,x7,x8⟩:=XF.out.cells;have BZ:Hid (Below w.heap.size w w9):=B0.out.trans (B9.out.mono B0.out.size);have GL:Hid True:=trivial;go_wp2;go_ret;exact⟨rfl,by first|exact BZ.out|(rw[<-Zp.out];exact BZ.out)⟩
end Go.Proofs.YtjpappkgdadhhaaGreatDoor
namespace Go.Proofs.YtjpappkgdadhhaaGreatDoor
open Go.Value (int slice)
open Go.IntKind (i64)
open Go.ChangeShapes Go.WideShapes Go.ChangeAt Go.RowKit
theorem Fb.take{w:World}{a:Option Addr}{n c:Nat}{ls:List (List aO)}(h:Fb w (slice a n c) ls){k:Nat}(hk:k<=ls.length):Fb w (slice a k c) (ls.take k):=by
 obtain⟨a',c',e,h2,h3,h4⟩:=h;injection e with e1 e2 e3
 subst e1 e3;have hl:(ls.take k).length=k:=by rw[List.length_take];omega
 refine⟨a,c,by rw[hl],by omega,h3,λhn=>?_⟩;obtain⟨x,ex,hx,hy⟩:=h4 (by rintro rfl;simp at hn);refine⟨x,ex,hx,λi l hi=>hy i l ?_⟩;rw[List.getElem?_take] at hi;split at hi
 ·exact hi
 ·cases hi
end Go.Proofs.YtjpappkgdadhhaaGreatDoor
namespace Go.Proofs.YtjpappkgdadhhaaGreatDoor
open Go.Value (int slice)
open Go.IntKind (i64)
open Go.RowKit Go.Proofs.YtjpappkgdadhhaaGreatDoor.So
structure Quiet(ks:List KV)(X:WV):Prop where
 w:Wd.aF ks X=0
 q:X.qs=[]
 u:∀x∈X.us,x.task=0/\x.load=0/\∀k,ks[x.kind.toNat]? =some k->k.n1=0
theorem wB{ks:List KV}{X:WV}(h:Quiet ks X):∀q,tk ks X q=(X,[])
 |0=>rfl
 |q+1=>by
  have ih:=wB h q;rw[tk,ih];simp only;split
  ·rfl
  ·rename_i u hu
   have hy:bM ks X u=0:=by
    unfold bM;rw[if_neg];rintro⟨h1,-⟩;have:=(h.u u (List.mem_of_getElem? hu)).1;omega
   rw[if_neg (by rw[hy];omega)]
theorem wC{ks:List KV}{Wn Hn:Nat}{X:WV}(h:Quiet ks X):∀q,br ks Wn Hn X q=(X,[])
 |0=>rfl
 |q+1=>by
  have ih:=wC (Wn:=Wn) (Hn:=Hn) h q;rw[br,ih];simp only;split
  ·rfl
  ·rename_i u hu
   have hy:brings ks Wn Hn X u=false:=by
    unfold brings;rw[(h.u u (List.mem_of_getElem? hu)).2.1];simp
   rw[if_neg (by rw[hy];simp)]
theorem EI{ks:List KV}{Wn Hn:Nat}{X:WV}(h:Quiet ks X):Iq ks Wn Hn X=X:=by
 unfold Iq;rw[wB h];simp only;rw[wC h]
theorem EJ{ks:List KV}{W:Nat}{us:List aC}{s:List Int×List bT}{u:aC}(h:∀k,ks[u.kind.toNat]? =some k->k.n1=0):stk ks W us s u=s:=by
 unfold stk;rw[if_pos];unfold lK;cases hk:ks[u.kind.toNat]? with
 |none=>rfl
 |some k=>simp only;unfold tgt;rw[if_pos (h k hk)]
theorem qg{ks:List KV}{W:Nat}{us:List aC}:∀(l:List aC) (s:List Int×List bT),(∀x∈l,∀k,ks[x.kind.toNat]? =some k->k.n1=0)->l.foldl (stk ks W us) s=s
 |[],s,_=>rfl
 |u::l,s,h=>by rw[List.foldl_cons,EJ (h u (by simp)),qg l s (λx hx=>h x (by simp[hx]))]
theorem rM:∀us:List aC,hurt us (List.replicate us.length 0)=us
 |[]=>rfl
 |u::us=>by
  have:=rM us;unfold hurt at this ⊢;rw[List.length_cons,List.replicate_succ,List.zipWith_cons_cons,this]
  congr 1
  obtain⟨a,b,c,d,e,f,g,i⟩:=u;simp
theorem t_{ks:List KV}{W:Nat}{X:WV}(h:Quiet ks X):iq ks W X=X:=by
 have hs:struck ks W X=X.us:=by
  unfold struck strikes;rw[qg X.us _ (λx hx=>(h.u x hx).2.2)];exact rM X.us
 have hst:stays ks W X=X.us:=by
  unfold stays;rw[hs];refine List.filter_eq_self.2 (λu hu=>?_);obtain⟨i,hi⟩:=List.mem_iff_getElem?.1 hu;obtain⟨k,F⟩:=(bC h.w).fine hi;have:=F.life.1;unfold bP;simp;omega
 unfold iq;rw[hst,h.q];obtain⟨a,b,c,d,e,f,g,i,j⟩:=X;have:=h.q;simp at this;subst this;rfl
theorem quiet_step{ks:List KV}{X Y:WV}{es:List bT}(h:Quiet ks X)(s:jZ ks X [] Y es):Y={X with turn:=X.turn+1}:=by
 obtain⟨out,Wn,Hn,Z,a1,a2,a3,a4,rfl⟩:=s;obtain rfl:=a1.one (nH (by simp));have ea:(gv ks X [] ([]:List aO).length).1=X:=rfl;rw[ea] at a4;have t0:Tr ks X X.qs.length X [] []:=by rw[h.q];exact .zero
 have eX:{X with qs:=[]}=X:=by rw[<-h.q]
 suffices Z=X by rw[this]
 cases a4 with
 |four p3=>
  cases p3 with
  |three p2=>
   cases p2 with
   |two p1 m=>
    cases p1 with
    |one t=>
     obtain⟨e1,e2,e3⟩:=AY t t0;obtain rfl:=e1.symm;subst e2 e3;rw[eX] at m;obtain⟨-,rfl⟩:=xZ m (λu hu=>(h.u u hu).1);rw[eX];show iq ks Wn (Iq ks Wn Hn X)=X;rw[EI h,t_ h]
theorem zy{ks:List KV}{X Y:WV}{es:List bT}(h:Quiet ks X)(hf:bH ks X []=0)(s:jZ ks X [] Y es):Quiet ks Y:=by
 have hw:=(yY hf s).1;obtain rfl:=quiet_step h s;exact⟨hw,h.q,h.u⟩
theorem qh{ks:List KV}{X:WV}{ls:List (List aO)}(h:Quiet ks X)(hl:∀l∈ls,l=[]){n:Nat}{Y:WV}(p:iw ks X ls n Y):Quiet ks Y/\Y={X with turn:=X.turn+(n:Int)}:=by
 induction p with
 |zero=>exact⟨h,by simp⟩
 | @turn n Y Z l es p hl' hf hs ih=>
  obtain rfl:=hl l (List.mem_of_getElem? hl');refine⟨zy ih.1 hf hs,?_⟩;rw[quiet_step ih.1 hs,ih.2];simp only
  congr 1
  omega
theorem zA{ks:List KV}{X:WV}(h:Quiet ks X){m:Nat}(hm:m<=10)(ht:X.turn<=900000){F:Int}{w w':World}{v r:Value}(hs:pV ks X (List.replicate m []) F w w' v)(he:Er r F):r=.nilIface/\Wo w' w.heap.size v {X with turn:=X.turn+(m:Int)}/\Wd.aF ks {X with turn:=X.turn+(m:Int)}=0:=by
 have hall:∀l∈List.replicate m ([]:List aO),l=[]:=λl hl=>(List.mem_replicate.1 hl).2
 rcases hs with⟨hn,-,h1|h1|⟨-,-,n,Z,l,p,hl',hf⟩⟩|⟨rfl,h1,h2,B,h3,h4⟩
 ·exact absurd h.w h1.1
 ·have:=h1.2.1;simp at this;omega
 ·obtain⟨q1,q2⟩:=qh h hall p
  obtain rfl:=hall l (List.mem_of_getElem? hl');have hn2:=(List.getElem?_eq_some_iff.1 hl').1;simp at hn2;exact absurd ((yZ q1.w (by rw[q2];simp only;omega)).symm.trans hf).symm hn
 ·obtain⟨q1,q2⟩:=qh h hall h3
  rw[List.length_replicate] at q2;subst q2;refine⟨?_,h4,q1.w⟩;rcases he with⟨-,h⟩|⟨h,-⟩
  ·exact h
  ·exact absurd rfl h
theorem KG:(Tryz.prog.info? 54).map (λi=>(i.zero,i.size,i.bytes))=some (some (slice none 0 0),1,24):=by kernel_rfl
theorem Rq(n:Nat)(w:World)(h:n<=1000):∃w',(Instr.makeSlice 38 (int i64 (n:Nat)) (int i64 (n:Nat))).run Tryz.prog w=.ok (slice (some ⟨w.heap.size,0,none⟩) n n) w'/\Fb w' (slice (some ⟨w.heap.size,0,none⟩) n n) (List.replicate n [])/\Below w.heap.size w w':=by
 obtain⟨i0,hi,hz0,hz1,hz2⟩:=info_parts KG;have hr:=run_make (P:=Tryz.prog) w 38 54 i0 (slice none 0 0) Tryz.underlying38 hi hz0 .i64 .i64 (n:Nat) (n:Nat) (by omega) (Int.le_refl _) (by rw[hz2];omega) (by omega);refine⟨_,hr,?_,(Below.refl _ _).alloc (Nat.le_refl _) _⟩;refine⟨_,n,by rw[List.length_replicate],by rw[List.length_replicate];exact Nat.le_refl _,by omega,λhn=>⟨_,rfl,by simp,λi l hl=>?_⟩⟩;obtain⟨hil,e⟩:=List.getElem?_eq_some_iff.1 hl;rw[List.length_replicate] at hil;rw[List.getElem_replicate] at e;subst e;refine⟨slice none 0 0,?_,⟨none,0,rfl,Nat.le_refl _,by omega,λh=>absurd rfl h⟩⟩;have hn:=heap_alloc_new w (Obj.cells (madeCells #[slice none 0 0] n) 54);rw[hz1,Int.toNat_natCast,Nat.mul_one];have ec:(slice none 0 0).cells= #[slice none 0 0]:=rfl;rw[ec,Addr.add_lit,Nat.zero_add];simp only[World.cell?,hn];simp[madeCells,hil,Nat.mod_one]
end Go.Proofs.YtjpappkgdadhhaaGreatDoor
namespace Go.Proofs.YtjpappkgdadhhaaGreatDoor
open Go.Value (int slice)
open Go.IntKind (i64)
def iy(ks:List KV)(n:Int):Option KV:=if n<0 then none else ks[n.toNat]?
def fF(ks:List KV)(u:aC):Bool:=match iy ks u.kind with
 |none=>true
 |some k=>decide (u.aA<0\/3<u.aA\/u.life<0\/k.n0<u.life)
def jc(ks:List KV)(u:aC):Int:=match iy ks u.kind with
 |none=>0
 |some k=>(k.n5*u.life).tdiv k.n0
def dB(ks:List KV)(us:List aC)(j:Int):Int:=us.foldl (λs u=>if u.aA=j then s+jc ks u else s) 0
def dI(ks:List KV)(us:List aC):List Int:=[dB ks us 0,dB ks us 1,dB ks us 2,dB ks us 3]
theorem zB(ks:List KV)(i:Nat):iy ks (i:Int)=ks[i]? :=by
 unfold iy;rw[if_neg (by omega)];rfl
theorem lV{ks:List KV}{us:List aC}{n:Nat}{u:aC}(h:us[n]? =some u)(j:Int):dB ks (us.take (n+1)) j=if u.aA=j then dB ks (us.take n) j+jc ks u else dB ks (us.take n) j:=by
 obtain⟨hi,e⟩:=List.getElem?_eq_some_iff.1 h;unfold dB;rw[List.take_succ_eq_append_getElem hi,List.foldl_append,e];rfl
theorem qj{ks:List KV}{u:aC}(h:fF ks u=false):∃(i:Nat) (k:KV),u.kind=i/\ks[i]? =some k/\0<=u.aA/\u.aA<=3/\0<=u.life/\u.life<=k.n0/\jc ks u=(k.n5*u.life).tdiv k.n0:=by
 unfold fF at h;cases hk:iy ks u.kind with
 |none=>rw[hk] at h;cases h
 |some k=>
  rw[hk] at h;have h2:=of_decide_eq_false h;unfold iy at hk;split at hk
  ·cases hk
  ·refine⟨u.kind.toNat,k,by omega,hk,by omega,by omega,by omega,by omega,?_⟩
   unfold jc iy;rw[if_neg (by assumption),hk]
theorem part_le{p l m:Int}(h1:0<=p)(h2:p<=1000)(h3:0<=l)(h4:l<=m)(h5:0<m):0<=(p*l).tdiv m/\(p*l).tdiv m<=1000:=by
 have h6:0<=p*l:=Int.mul_nonneg h1 h3;rw[Int.tdiv_eq_ediv_of_nonneg h6];refine⟨Int.ediv_nonneg h6 (by omega),?_⟩;have h7:p*l<=1000*m:=Int.mul_le_mul h2 h4 h3 (by decide)
 calc p*l/m<=1000*m/m:=Int.ediv_le_ediv h5 h7
  _=1000:=Int.mul_ediv_cancel _ (by omega)
theorem iP{ks:List KV}(hk:∀k∈ks,0<=k.n5/\k.n5<=1000/\0<k.n0){us:List aC}(hu:us.any (fF ks)=false)(j:Int):∀n,n<=us.length->0<=dB ks (us.take n) j/\dB ks (us.take n) j<=1000*n
 |0,_=>by simp[dB]
 |n+1,h=>by
  have ih:=iP hk hu j n (by omega);obtain⟨u,e⟩:∃u,us[n]? =some u:=⟨_,List.getElem?_eq_getElem (by omega)⟩;have hb:fF ks u=false:=by
   rw[List.any_eq_false] at hu;have:=hu u (List.mem_of_getElem? e);simpa using this
  obtain⟨i,k,_,h2,_,_,h5,h6,h7⟩:=qj hb;have h8:=hk k (List.mem_of_getElem? h2);have h9:=part_le h8.1 h8.2.1 h5 h6 h8.2.2;rw[lV e,h7];split<;>omega
open Go.RowKit
theorem UM{B:Nat}{w W:World}(h:Below B w W):∀n,Below B w (W.drewN n)
 |0=>h
 |n+1=>(UM h n).drew
theorem EM(v:Value)(ks:List KV)(u:aC)(b:Nat)(w:World)(h:Kl w v ks)(hc:w.cell? ⟨b,0,none⟩=some v):
 Calls Tryz.prog 23 #[u.val,.pointer (some ⟨b,0,none⟩)] w λe w'=>e=.returned (.bool (fF ks u))/\Below w.heap.size w w':=by
 have hl:=cell_lt hc;obtain⟨R,hR⟩:∃R,fF ks u=R:=⟨_,rfl⟩;have HR:Hid (fF ks u=R):=hR;rw[hR];clear hR;obtain⟨a,c,rfl,c1,c2,hx⟩:=h;obtain⟨id,aA,kind,at_,life,load,task,goal⟩:=u;unfold aC.val;have hw:IntKind.i64.wrap ((ks.length:Int)-1)=(ks.length:Int)-1:=by
  simp[IntKind.wrap,IntKind.bits,IntKind.signed];omega
 by_cases h1:0<=aA/\aA<=3
 ·obtain⟨h1a,h1b⟩:=h1
  by_cases h2:0<=kind/\kind<=(ks.length:Int)-1
  ·obtain⟨i,rfl⟩:∃i:Nat,kind=i:=⟨kind.toNat,by omega⟩
   have hi:i<ks.length:=by omega
   have hi':(i:Int)<(ks.length:Int):=by omega
   obtain⟨k,hk⟩:∃k,ks[i]? =some k:=⟨_,List.getElem?_eq_getElem hi⟩;obtain⟨x,rfl,hx1,hx2⟩:=hx (by rintro rfl;simp at hi);have KC:=hx2 i k hk;have q1:w.cell? ⟨(x.add (i*11)).block,(x.add (i*11)).off+1,none⟩=some (int i64 k.n0):=KC.c1;have RB:Hid (R=decide (life<0\/k.n0<life)):=by
    unfold Hid;rw[<-HR.out];unfold fF;rw[zB,hk];simp only
    congr 1
    exact propext (by omega)
   generalize k.n0=m at *;have hx3:(x.add (i*11)).block<w.heap.size:=by rw[add_block];exact hx1
   have q1':∀o,(w.alloc o).cell? ⟨(x.add (i*11)).block,(x.add (i*11)).off+1,none⟩=some (int i64 m):=λo=>by rw[((Below.refl w.heap.size w).alloc (Nat.le_refl _) o).cell (p:=⟨(x.add (i*11)).block,(x.add (i*11)).off+1,none⟩) hx3];exact q1
   clear hx2 hk KC HR hx;by_cases h3:0<=life/\life<=m
   ·obtain⟨h3a,h3b⟩:=h3
    have E:Hid (R=false):=by unfold Hid;rw[RB.out,decide_eq_false (by omega)]
    go_enter Tryz.func23,Tryz.ntmps23;go_wp2_with fail
    go_quiet (first|(go_at_call 24;exact Calls.quiet_of_same (iR _ _ _ _ (by omega) (by omega)))|(go_at_call 24;exact Calls.quiet_of_same (jK _ _ _ _ (by omega))));go_wp2;go_ret;exact⟨by rw[E.out];rfl,UM ((Below.refl _ _).alloc (Nat.le_refl _) _) _⟩
   ·have E:Hid (R=true):=by unfold Hid;rw[RB.out,decide_eq_true (by omega)]
    go_enter Tryz.func23,Tryz.ntmps23;go_wp2_with fail
    go_quiet (first|(go_at_call 24;exact Calls.quiet_of_same (iR _ _ _ _ (by omega) (by omega)))|(go_at_call 24;exact Calls.quiet_of_same (jK _ _ _ _ (by omega))));go_wp2;go_ret;exact⟨by rw[E.out];rfl,UM ((Below.refl _ _).alloc (Nat.le_refl _) _) _⟩
  ·have E:Hid (R=true):=by
    unfold Hid;rw[<-HR.out];unfold fF;have:iy ks kind=none:=by
     unfold iy;split
     ·rfl
     ·exact List.getElem?_eq_none (by omega)
    rw[this]
   clear hx;go_enter Tryz.func23,Tryz.ntmps23;go_wp2_with fail
   go_quiet (first|(go_at_call 24;exact Calls.quiet_of_same (iR _ _ _ _ (by omega) (by omega)))|(go_at_call 24;exact Calls.quiet_of_same (jK _ _ _ _ (by omega))));go_wp2;go_ret;exact⟨by rw[E.out];rfl,UM ((Below.refl _ _).alloc (Nat.le_refl _) _) _⟩
 ·have E:Hid (R=true):=by
   unfold Hid;rw[<-HR.out];unfold fF;split
   ·rfl
   ·exact decide_eq_true (by simp only;omega)
  clear hx;go_enter Tryz.func23,Tryz.ntmps23;go_wp2_with fail
  go_quiet (first|(go_at_call 24;exact Calls.quiet_of_same (iR _ _ _ _ (by omega) (by omega)))|(go_at_call 24;exact Calls.quiet_of_same (jK _ _ _ _ (by omega))));go_wp2;go_ret;exact⟨by rw[E.out];rfl,UM ((Below.refl _ _).alloc (Nat.le_refl _) _) _⟩
theorem Om:∀args w,(callFunc 23 args).run Tryz.prog w=.ok (.enter 23 args) w:=by
 intro args w;go_simp
theorem Rt(w:World):(Instr.makeSlice 23 (int i64 4) (int i64 4)).run Tryz.prog w=.ok (slice (some ⟨w.heap.size,0,none⟩) 4 4) (w.alloc (.cells #[int i64 0,int i64 0,int i64 0,int i64 0] 3)):=by kernel_rfl
theorem EP(v:Value)(ks:List KV)(y:Value)(us:List aC)(w:World)(h:Kl w v ks)(hb:∀k∈ks,k.b.size<=9223372036854775807)(hu:jd w y us):
 Calls Tryz.prog 11 #[v,y] w λe w'=>∃(r u:Value),e=.returned (.tuple #[r,u])/\Below w.heap.size w w'/\
  ((Kd.aH (ks.map KV.k)≠0/\Ro w' r []/\Er u (Kd.aH (ks.map KV.k)))\/
   (Kd.aH (ks.map KV.k)=0/\40<us.length/\Ro w' r []/\Er u 4)\/
   (Kd.aH (ks.map KV.k)=0/\us.length<=40/\us.any (fF ks)=true/\Ro w' r []/\Er u 1)\/
   (Kd.aH (ks.map KV.k)=0/\us.length<=40/\us.any (fF ks)=false/\Ro w' r (dI ks us)/\Er u 0)):=by
 have K0:Hid (Kl w v ks):=h;have U0:Hid (jd w y us):=hu;have CA:Hid (∀W,Below w.heap.size w W->Calls Tryz.prog 22 #[v] W λe w'=>∃u,e=.returned u/\Er u (Kd.aH (ks.map KV.k))/\Below W.heap.size W w'):=λW hW=>nP v ks W (h.below hW) hb
 have KR:Hid (Kd.aH (ks.map KV.k)=0->ks.length<=8/\∀k∈ks,0<=k.n5/\k.n5<=1000/\0<k.n0/\k.n0<=1000):=iG;generalize Kd.aH (ks.map KV.k)=R at *;have Rn:∀W:World,Ro W (slice none 0 0) []:=λW=>⟨none,0,rfl,Nat.le_refl _,by omega,λh=>absurd rfl h⟩
 have RN:Hid (∀W:World,Ro W (slice none 0 0) []):=Rn;clear hb Rn;obtain⟨a,c,rfl,c1,c2,-⟩:=h;obtain⟨au,cu,rfl,cu1,cu2,-⟩:=hu;go_enter Tryz.func11,Tryz.ntmps11;go_wp2_with fail
 have B0:Below w.heap.size w (w.alloc (Obj.cells #[slice a ks.length c] 22)):=(Below.refl _ _).alloc (Nat.le_refl _) _;have hc0:(w.alloc (Obj.cells #[slice a ks.length c] 22)).cell? ⟨w.heap.size,0,none⟩=some (slice a ks.length c):=by simp
 have hz0:w.heap.size<(w.alloc (Obj.cells #[slice a ks.length c] 22)).heap.size:=by simp
 refine(CA.out _ B0).mono ?_;rintro e w1 ⟨u,rfl,hu,b1⟩;have B1:Hid (Below w.heap.size w w1):=B0.trans (b1.mono B0.size);have hc1:w1.cell? ⟨w.heap.size,0,none⟩=some (slice a ks.length c):=by rw[b1.cell (p:=⟨w.heap.size,0,none⟩) hz0];exact hc0
 clear CA b1 B0 hc0 hz0;rcases hu with⟨h0,rfl⟩|⟨h0,rfl⟩
 ·have H0:Hid (R=0):=h0
  clear h0;by_cases h40:40<us.length
  ·have h40':(40:Int)<(us.length:Int):=by omega
   go_wp2;go_ret2;exact⟨_,_,rfl,B1,.inr (.inl ⟨H0,h40,RN.out _,Er.no (by decide)⟩)⟩
  ·have h40':¬(40:Int)<(us.length:Int):=by omega
   have hl40:us.length<=40:=by omega
   go_wp2_with fail
   have hl1:=cell_lt hc1;refine(kQ 23 Om _ _ us (fF ks) _ (U0.out.below B1.out) ?_).mono ?_
   ·intro W hW k
    exact EM _ ks k w.heap.size W (K0.out.below (B1.out.trans (hW.mono B1.out.size))) (by rw[hW.cell (p:=⟨w.heap.size,0,none⟩) hl1];exact hc1)
   ·rintro e w2 ⟨rfl,b2⟩
    have B2:Hid (Below w.heap.size w w2):=B1.out.trans (b2.mono B1.out.size);have hc2:w2.cell? ⟨w.heap.size,0,none⟩=some (slice a ks.length c):=by rw[b2.cell (p:=⟨w.heap.size,0,none⟩) hl1];exact hc1
    clear b2 hc1 hl1;cases hA:us.any (fF ks) with
    |true=>
     have HA:Hid (us.any (fF ks)=true):=hA;clear hA;go_wp2;go_ret2;exact⟨_,_,rfl,B2,.inr (.inr (.inl ⟨H0,hl40,HA,RN.out _,Er.no (by decide)⟩))⟩
    |false=>
     have HA:Hid (us.any (fF ks)=false):=hA;clear hA;have KR2:Hid (ks.length<=8/\∀k∈ks,0<=k.n5/\k.n5<=1000/\0<k.n0/\k.n0<=1000):=KR.out H0.out;have hm:=Rt w2;have hlt:w.heap.size<w2.heap.size:=cell_lt hc2;have hl0:w.heap.size<=w2.heap.size:=by omega
     have BB:Hid (Below w2.heap.size w2 (w2.alloc (Obj.cells #[int i64 0,int i64 0,int i64 0,int i64 0] 3))):=(Below.refl _ _).alloc (Nat.le_refl _) _;have BK:Hid (Bk (w2.alloc (Obj.cells #[int i64 0,int i64 0,int i64 0,int i64 0] 3)) w2.heap.size (dI ks []) #[]):=by
      unfold Hid Bk;rw[World.alloc_heap_new];rfl
     have HC:Hid (w2.cell? ⟨w.heap.size,0,none⟩=some (slice a ks.length c)):=hc2;clear hc2 KR RN;go_wp2_with fail
     go_loopw [29] (λj W'=>∃n:Nat,n<=us.length/\j=int i64 (n:Nat)/\Bk W' w2.heap.size (dI ks (us.take n)) #[]/\Below w2.heap.size w2 W') (λj _=>us.length-(intOf j).toNat)
     case atStart=>exact⟨0,Nat.zero_le _,rfl,BK,BB⟩
     case round=>
      obtain⟨n,hn,rfl,hbk,hbb⟩:=hrel;have Bk1:Hid (Bk wr w2.heap.size (dI ks (us.take n)) #[]):=hbk;have Bb1:Hid (Below w2.heap.size w2 wr):=hbb;have Bw:Hid (Below w.heap.size w wr):=B2.out.trans (hbb.mono hl0);clear hbk hbb;by_cases hne:n=us.length
      ·subst hne
       go_wp2;go_ret2;refine⟨_,_,rfl,Bw,.inr (.inr (.inr ⟨H0,hl40,HA,?_,Er.nil⟩))⟩;have:=Bk1.out.ro (c:=4) (by simp[dI]) (by omega);rw[List.take_of_length_le (Nat.le_refl _)] at this;exact this
      ·have hnl:n<us.length:=by omega
       have QX:(n:Int)<(us.length:Int):=by omega
       obtain⟨u,hu⟩:∃u,us[n]? =some u:=⟨_,List.getElem?_eq_getElem hnl⟩;have hbad:fF ks u=false:=by
        have:=HA.out;rw[List.any_eq_false] at this;simpa using this u (List.mem_of_getElem? hu)
       obtain⟨i,k,hki,hk,hp0,hp3,hl0',hlm,hwo⟩:=qj hbad;have kb:=KR2.out.2 k (List.mem_of_getElem? hk);have hil:i<ks.length:=(List.getElem?_eq_some_iff.1 hk).1;have WB:=iP (λk hk=>⟨(KR2.out.2 k hk).1,(KR2.out.2 k hk).2.1,(KR2.out.2 k hk).2.2.1⟩) HA.out u.aA n hn;have WN:Hid (∀j,dB ks (us.take (n+1)) j=if u.aA=j then dB ks (us.take n) j+jc ks u else dB ks (us.take n) j):=lV hu;obtain⟨p,hpp⟩:∃p:Nat,u.aA=p:=⟨u.aA.toNat,by omega⟩;have hp4:p<4:=by omega
       have Wd:Hid ((dI ks (us.take n))[p]? =some (dB ks (us.take n) u.aA)):=by
        unfold Hid dI;rw[hpp]
        match p,hp4 with
        |0,_=>rfl
        |1,_=>rfl
        |2,_=>rfl
        |3,_=>rfl
       have Ws:Hid ((dI ks (us.take n)).set p (dB ks (us.take n) u.aA+jc ks u)=dI ks (us.take (n+1))):=by
        unfold Hid dI;rw[WN.out 0,WN.out 1,WN.out 2,WN.out 3,hpp]
        match p,hp4 with
        |0,_=>rfl
        |1,_=>rfl
        |2,_=>rfl
        |3,_=>rfl
       have PL:=part_le kb.1 kb.2.1 hl0' hlm kb.2.2.1;have ML:0<=k.n5*u.life/\k.n5*u.life<=1000000:=⟨Int.mul_nonneg kb.1 hl0',by
        have:k.n5*u.life<=1000*1000:=Int.mul_le_mul kb.2.1 (by omega) hl0' (by decide);omega⟩
       obtain⟨hm1,hm2⟩:=ML;obtain⟨hq1,hq2⟩:=PL;obtain⟨hb1,hb2⟩:=WB;rw[hwo] at Ws;generalize dB ks (us.take n) u.aA=sm at *;have Uc:=U0.out.below Bw.out;obtain⟨au',cu',e,-,-,Yi⟩:=Uc;injection e with e1 e2 e3
       subst e1 e3;obtain⟨xu,rfl,Zq,hxu⟩:=Yi (by rintro rfl;simp at hnl);have UC:=hxu n u hu;have Kk:=K0.out.below Bw.out;obtain⟨a',c',e,-,-,hkx⟩:=Kk;injection e with e1 e2 e3
       subst e1 e3;obtain⟨xk,rfl,uZ,hxk⟩:=hkx (by rintro rfl;simp at hil);have KC:=hxk i k hk;have hcl:wr.cell? ⟨w.heap.size,0,none⟩=some (slice (some xk) ks.length c):=by rw[Bb1.out.cell (p:=⟨w.heap.size,0,none⟩) hlt];exact HC.out
       have Zr:(i:Int)<(ks.length:Int):=by omega
       clear hxu Yi hkx hxk hu hk hbad hwo WN e2 hnl hn;have hs:=Bk1.out.lt;obtain⟨id,aA,kind,at_,life,load,task,goal⟩:=u;obtain⟨Vj,n0,n1,n2,n3,n4,n5,n6,n7,kf,kt⟩:=k;simp only at hki hpp hl0' hlm kb hm1 hm2 hq1 hq2 Ws Wd;subst hki hpp;obtain⟨g1,g2,g3,g4⟩:=kb;obtain⟨m,em⟩:∃m,n5*life=m:=⟨_,rfl⟩;rw[em] at hm1 hm2 hq1 hq2 Ws;obtain⟨qq,eq⟩:∃qq,m.tdiv n0=qq:=⟨_,rfl⟩;rw[eq] at hq1 hq2 Ws;have Em:Hid (n5*life=m):=em;have Eq:Hid (m.tdiv n0=qq):=eq;have Bo:Hid (Kc wr (xk.add (i*11)) ⟨Vj,n0,n1,n2,n3,n4,n5,n6,n7,kf,kt⟩):=KC;have hcl':Hid (wr.cell? ⟨w.heap.size,0,none⟩=some (slice (some xk) ks.length c)):=hcl;obtain⟨u0,u1,u2,u3,u4,u5,u6,u7⟩:=UC;simp only at u0 u1 u2 u3 u4 u5 u6 u7;have Hs1:Hid (w2.heap.size<wr.heap.size):=hs;have Hxk:Hid (xk.block<wr.heap.size):=uZ;clear em eq KC hcl hs uZ;go_upto_region 13 with fail
       have b3:Below wr.heap.size wr (wr.alloc (Obj.cells #[int i64 id,int i64 (p:Nat),int i64 (i:Nat),int i64 at_,int i64 life,int i64 load,int i64 task,int i64 goal] 35)):=(Below.refl _ _).alloc (Nat.le_refl _) _;have X3:=dJ.mk' (w:=wr) ⟨id,(p:Nat),(i:Nat),at_,life,load,task,goal⟩ rfl;simp only at X3;clear u0 u1 u2 u3 u4 u5 u6 u7;generalize wr.alloc (Obj.cells #[int i64 id,int i64 (p:Nat),int i64 (i:Nat),int i64 at_,int i64 life,int i64 load,int i64 task,int i64 goal] 35)=w3 at *;have B3:Hid (Below wr.heap.size wr w3):=b3;have hcl:w3.cell? ⟨w.heap.size,0,none⟩=some (slice (some xk) ks.length c):=by rw[b3.cell (p:=⟨w.heap.size,0,none⟩) (cell_lt hcl'.out)];exact hcl'.out
       have KC:=Bo.out.below b3 (by rw[add_block];exact Hxk.out);obtain⟨k0,k1,k2,k3,k4,k5,k6,k7,k8,k9,k10⟩:=KC;simp only at k0 k1 k2 k3 k4 k5 k6 k7 k8 k9 k10;have x1:w3.cell? ⟨wr.heap.size,1,none⟩=some (int i64 (p:Nat)):=X3.c1;have x2:w3.cell? ⟨wr.heap.size,2,none⟩=some (int i64 (i:Nat)):=X3.c2;have x4:w3.cell? ⟨wr.heap.size,4,none⟩=some (int i64 life):=X3.c4;have Y3:Hid (wr.heap.size<w3.heap.size/\w3.cell? ⟨wr.heap.size,1,none⟩=some (int i64 (p:Nat))/\w3.cell? ⟨wr.heap.size,4,none⟩=some (int i64 life)):=⟨X3.lt,x1,x4⟩;clear X3 b3;go_upto_region 14 with fail
       have b4:Below w3.heap.size w3 (w3.alloc (Obj.cells #[.string Vj,int i64 n0,int i64 n1,int i64 n2,int i64 n3,int i64 n4,int i64 n5,int i64 n6,int i64 n7,.bool kf,.bool kt] 37)):=(Below.refl _ _).alloc (Nat.le_refl _) _;have X4:=Kc.mk' (w:=w3) ⟨Vj,n0,n1,n2,n3,n4,n5,n6,n7,kf,kt⟩ rfl;simp only at X4;clear k0 k1 k2 k3 k4 k5 k6 k7 k8 k9 k10 x1 x2 x4 hcl;generalize w3.alloc (Obj.cells #[.string Vj,int i64 n0,int i64 n1,int i64 n2,int i64 n3,int i64 n4,int i64 n5,int i64 n6,int i64 n7,.bool kf,.bool kt] 37)=w4 at *;have B4:Hid (Below wr.heap.size wr w4):=B3.out.trans (b4.mono B3.out.size);have x1:w4.cell? ⟨wr.heap.size,1,none⟩=some (int i64 (p:Nat)):=by rw[b4.cell (p:=⟨wr.heap.size,1,none⟩) Y3.out.1];exact Y3.out.2.1
       have x4:w4.cell? ⟨wr.heap.size,4,none⟩=some (int i64 life):=by rw[b4.cell (p:=⟨wr.heap.size,4,none⟩) Y3.out.1];exact Y3.out.2.2
       have z1:w4.cell? ⟨w3.heap.size,1,none⟩=some (int i64 n0):=X4.c1;have z6:w4.cell? ⟨w3.heap.size,6,none⟩=some (int i64 n5):=X4.c6;have Bk4:Hid (Bk w4 w2.heap.size (dI ks (us.take n)) #[]):=Bk1.out.low B4.out Hs1.out;have y0:w4.cell? ⟨w2.heap.size,p,none⟩=some (int i64 sm):=Bk4.out.cell Wd.out;have y1:w4.frozen? ⟨w2.heap.size,p,none⟩=false:=Bk4.out.thaw p;have hn0:n0≠0:=by omega
       have hp4':(p:Int)<4:=by omega
       have em:n5*life=m:=Em.out;have eq:m.tdiv n0=qq:=Eq.out;have hsm:sm<=1000000:=by omega
       clear X4 b4 Y3;go_region
       all_goals
        go_wp2;refine⟨⟨n+1,by omega,by go_num,?_,?_⟩,by simp[intOf];omega⟩
        ·have:=Bk4.out.set p (sm+qq) (by simpa[dI] using hp4)
         rw[Ws.out] at this;exact this
        ·exact(((Bb1.out.trans (B4.out.mono Bb1.out.size)).setCell (p:=⟨w2.heap.size,p,none⟩) (Nat.le_refl _) _).drew)
 ·have H0:Hid (R≠0):=h0
  clear h0;go_wp2;go_ret2;exact⟨_,_,rfl,B1,.inl ⟨H0,RN.out _,Er.no H0⟩⟩
namespace Sc
def points(ks:List KV)(X:WV):List Int:=List.zipWith (λg x=>g+10*x) X.gold (dI ks X.us)
theorem iC{ks:List KV}{X:WV}(h:X.gold.length<=4):(points ks X).length=X.gold.length:=by
 unfold points dI;simp;omega
theorem zC{ks:List KV}{X:WV}{i:Nat}{g x:Int}(hg:X.gold[i]? =some g)(hx:(dI ks X.us)[i]? =some x):(points ks X)[i]? =some (g+10*x):=by
 unfold points;rw[List.getElem?_zipWith,hg,hx]
end Sc
structure Ru(ks:List KV)(X:WV):Prop where
 k:Kd.aH (ks.map KV.k)=0
 ul:X.us.length<=40
 bad:X.us.any (fF ks)=false
 gl:X.gold.length<=4
 gold:∀g∈X.gold,0<=g/\g<=1000000
 worth:∀(i:Nat) x,(dI ks X.us)[i]? =some x->0<=x/\x<=40000
 wl:∀i,i<X.gold.length->∃x,(dI ks X.us)[i]? =some x
theorem Oo{ks:List KV}{X:WV}(h:Wd.aF ks X=0):Ru ks X:=by
 have R:=bC h;have n:=R.nums;unfold Wd.aX at n;simp only[Bool.or_eq_false_iff,Bool.not_eq_false',decide_eq_true_eq] at n;obtain⟨-,-,⟨g1,g2⟩,g3⟩:=n;have gl:X.gold.length<=4:=by omega
 have kr:=iG R.kinds;have bad:X.us.any (fF ks)=false:=by
  rw[List.any_eq_false];intro u hu;obtain⟨i,hi⟩:=List.mem_iff_getElem?.1 hu;obtain⟨k,F⟩:=R.fine hi;have e:iy ks u.kind=some k:=by
   unfold iy;rw[if_neg (by have:=F.k0;omega)];exact F.kk
  unfold fF;rw[e];simp only[decide_eq_true_eq];have:=F.p;have:=F.life;omega
 refine⟨R.kinds,R.ul,bad,gl,λg hg=>?_,λi x hx=>?_,λi hi=>?_⟩
 ·rw[List.any_eq_false] at g3
  have:=g3 g hg;unfold Wd.off at this;simp at this;exact this
 ·have wb:∀j,0<=dB ks X.us j/\dB ks X.us j<=40000:=λj=>by
   have:=iP (λk hk=>⟨(kr.2 k hk).1,(kr.2 k hk).2.1,(kr.2 k hk).2.2.1⟩) bad j X.us.length (Nat.le_refl _);rw[List.take_of_length_le (Nat.le_refl _)] at this;have:=R.ul;omega
  unfold dI at hx
  match i,hx with
  |0,hx=>simp at hx;rw[<-hx];exact wb 0
  |1,hx=>simp at hx;rw[<-hx];exact wb 1
  |2,hx=>simp at hx;rw[<-hx];exact wb 2
  |3,hx=>simp at hx;rw[<-hx];exact wb 3
  |n+4,hx=>simp at hx
 ·exact⟨_,List.getElem?_eq_getElem (by unfold dI;simp;omega)⟩
theorem qm(vk vw:Value)(ks:List KV)(X:WV)(w:World)(hk:Kl w vk ks)(hb:∀k∈ks,k.b.size<=9223372036854775807)(hw:Wl w vw X):
 Calls Tryz.prog 8 #[vk,vw] w λe w'=>∃(r u:Value),e=.returned (.tuple #[r,u])/\Below w.heap.size w w'/\
  ((Wd.aF ks X≠0/\Ro w' r []/\Er u (Wd.aF ks X))\/(Wd.aF ks X=0/\Ro w' r (Sc.points ks X)/\Er u 0)):=by
 have K:Hid (Kl w vk ks/\∀k∈ks,k.b.size<=9223372036854775807):=⟨hk,hb⟩;have W0:Hid (Wl w vw X):=hw;have PF:Hid (Wd.aF ks X=0->Ru ks X):=Oo;obtain⟨v1,v2,v3,v4,v5,rfl,r1,r2,hg,hu,r5⟩:=hw;have U0:Hid (jd w v4 X.us):=hu;have G0:Hid (Ro w v3 X.gold):=hg;obtain⟨ag,cg,rfl,cg1,cg2,-⟩:=hg;clear r1 r2 r5 hu hk hb;go_enter Tryz.func8,Tryz.ntmps8;obtain⟨z,hz⟩:∃z,w.heap.size=z:=⟨_,rfl⟩;have HZ:Hid (w.heap.size=z):=hz;have X0:Hid (Bw (w.alloc (Obj.cells #[int i64 X.turn,int i64 X.next,int i64 X.wide,int i64 X.high,v1,v2,slice ag X.gold.length cg,v4,v5] 29)) z X v1 v2 (slice ag X.gold.length cg) v4 v5):=Bw.mk' (w:=w) X v1 v2 (slice ag X.gold.length cg) v4 v5 hz;have B0:Hid (Below w.heap.size w (w.alloc (Obj.cells #[int i64 X.turn,int i64 X.next,int i64 X.wide,int i64 X.high,v1,v2,slice ag X.gold.length cg,v4,v5] 29))):=(Below.refl _ _).alloc (Nat.le_refl _) _;go_upto_region 1 with fail
 clear hz;generalize (w.alloc (Obj.cells #[int i64 X.turn,int i64 X.next,int i64 X.wide,int i64 X.high,v1,v2,slice ag X.gold.length cg,v4,v5] 29))=w1 at *;obtain⟨x0,x1,x2,x3,x4,x5,x6,x7,x8⟩:=X0.out;go_wp2_with fail
 refine(dR _ _ ks X w1 (K.out.1.below B0.out) K.out.2 (W0.out.below B0.out)).mono ?_;rintro e w2 ⟨r,rfl,hr,b2⟩;have B2:Hid (Below w.heap.size w w2):=B0.out.trans (b2.mono B0.out.size);have X2:Hid (Bw w2 z X v1 v2 (slice ag X.gold.length cg) v4 v5):=X0.out.below b2 X0.out.lt;clear b2 x0 x1 x2 x3 x4 x5 x6 x7 x8 X0;rcases hr with⟨h0,rfl⟩|⟨h0,rfl⟩
 case inr=>
  have H0:Hid (Wd.aF ks X≠0):=h0;clear h0;go_wp2;go_ret2;exact⟨_,_,rfl,by first|exact B2.out|(rw[<-HZ.out];exact B2.out),.inl ⟨H0.out,⟨none,0,rfl,Nat.le_refl _,by omega,λh=>absurd rfl h⟩,Er.no H0.out⟩⟩
 case inl=>
  have F:Hid (Ru ks X):=PF.out h0;have H0:Hid (Wd.aF ks X=0):=h0;clear PF h0;have x7:=X2.out.c7;go_wp2_with fail
  refine(EP _ ks _ X.us w2 (K.out.1.below B2.out) K.out.2 (U0.out.below B2.out)).mono ?_;rintro e w3 ⟨r,u,rfl,b3,hr⟩;have B3:Hid (Below w.heap.size w w3):=B2.out.trans (b3.mono B2.out.size);have X3:Hid (Bw w3 z X v1 v2 (slice ag X.gold.length cg) v4 v5):=X2.out.below b3 X2.out.lt;clear b3 x7;rcases hr with⟨h,-⟩|⟨-,h,-⟩|⟨-,-,h,-⟩|⟨-,-,-,hr,he⟩
  ·exact absurd F.out.k h
  ·have:=F.out.ul;omega
  ·rw[F.out.bad] at h;cases h
  obtain rfl:u=.nilIface:=by
   rcases he with⟨-,e⟩|⟨h,-⟩
   ·exact e
   ·exact absurd rfl h
  have RW:Hid (Ro w3 r (dI ks X.us)):=hr;have lw:(dI ks X.us).length=4:=rfl;obtain⟨ar,cr,rfl,-,-,hwc⟩:=hr;obtain⟨xr,rfl,hxl,hxr⟩:=hwc (by simp[dI]);have WC:Hid (xr.block<w3.heap.size/\∀(i:Nat) d,(dI ks X.us)[i]? =some d->w3.cell? (xr.add i)=some (int i64 d)):=⟨hxl,hxr⟩;rw[lw];clear hwc hxl hxr he lw;have gl:=F.out.gl;obtain⟨w4,hm,hbk,hbb,hs⟩:=Il X.gold.length w3 (by omega);have BK:Hid (Bk w4 w3.heap.size (List.replicate X.gold.length 0) #[]):=hbk;have BB:Hid (Below w3.heap.size w3 w4):=hbb;have x6:=X3.out.c6;have x6':=(X3.out.below BB.out X3.out.lt).c6;obtain⟨b,hb⟩:∃b,w3.heap.size=b:=⟨_,rfl⟩;have HB:Hid (w3.heap.size=b):=hb;rw[hb] at BK hm;clear hbk hbb hs hb;go_wp2_with fail
  clear hm x6 x6';go_loopw [35] (λj V=>∃n:Nat,n<=X.gold.length/\j=int i64 (n:Nat)/\Bk V b ((Sc.points ks X).take n++List.replicate (X.gold.length-n) 0) #[]/\Below b w3 V) (λj _=>X.gold.length-(intOf j).toNat)
  case atStart=>exact⟨0,Nat.zero_le _,rfl,by simpa using BK.out,by rw[<-HB.out];exact BB.out⟩
  case round=>
   obtain⟨n,hn,rfl,hb1,hB⟩:=hrel;have B1:Hid (Bk wr b ((Sc.points ks X).take n++List.replicate (X.gold.length-n) 0) #[]):=hb1;have V1:Hid (Below b w3 wr):=hB;have BR:Hid (Below w.heap.size w wr):=B3.out.trans (by rw[<-HB.out] at hB;exact hB.mono B3.out.size);clear hb1 hB;by_cases hne:n=X.gold.length
   ·subst hne
    go_wp2;go_ret2;refine⟨_,_,rfl,by first|exact BR.out|(rw[<-HZ.out];exact BR.out),.inr ⟨H0.out,?_,Er.nil⟩⟩;have:=B1.out.ro (c:=X.gold.length) (by simp[Sc.iC gl]) (by omega);rw[Nat.sub_self,List.replicate_zero,List.append_nil,List.take_of_length_le (by rw[Sc.iC gl];exact Nat.le_refl _),Sc.iC gl] at this;exact this
   ·have hnl:n<X.gold.length:=by omega
    have QX:(n:Int)<(X.gold.length:Int):=by omega
    have hn4:(n:Int)<4:=by omega
    obtain⟨g,hg⟩:∃g,X.gold[n]? =some g:=⟨_,List.getElem?_eq_getElem hnl⟩;obtain⟨x,hx⟩:=F.out.wl n hnl;have gb:=F.out.gold g (List.mem_of_getElem? hg);have xb:=F.out.worth n x hx;have PG:Hid ((Sc.points ks X)[n]? =some (g+10*x)):=Sc.zC hg hx;obtain⟨a',c',e',-,-,hy⟩:=G0.out.below BR.out;injection e' with e1 e2 e3
    subst e1 e3;obtain⟨y,rfl,-,hy⟩:=hy (by rintro hn;rw[hn] at hnl;simp at hnl);have cy:=hy n g hg;have cx:wr.cell? (xr.add n)=some (int i64 x):=by
     rw[V1.out.cell (by rw[add_block,<-HB.out];exact WC.out.1)];exact WC.out.2 n x hx
    have tz:=B1.out.thaw n;have l9:((Sc.points ks X).take n).length=n:=by rw[List.length_take,Sc.iC gl];omega
    have cz:=B1.out.cell (i:=n) (d:=0) (by
     rw[List.getElem?_append_right (by omega),l9,Nat.sub_self,List.getElem?_replicate,if_pos (by omega)])
    have SZ:Hid (Bk (wr.setCell ⟨b,n,none⟩ (int i64 (g+10*x))) b ((Sc.points ks X).take (n+1)++List.replicate (X.gold.length-(n+1)) 0) #[]):=by
     have h9:=B1.out.set n (g+10*x) (by simp[Sc.iC gl];omega);have e9:((Sc.points ks X).take n++List.replicate (X.gold.length-n) 0).set n (g+10*x)=(Sc.points ks X).take (n+1)++List.replicate (X.gold.length-(n+1)) 0:=by
      rw[List.set_append_right _ _ (by omega),l9,Nat.sub_self,List.take_add_one,PG.out];have:X.gold.length-n=(X.gold.length-(n+1))+1:=by omega
      rw[this,List.replicate_succ];simp
     rw[e9] at h9;exact h9
    have w10:IntKind.i64.wrap (10*x)=10*x:=by rw[IntKind.wrap_i64];omega
    have wgx:IntKind.i64.wrap (g+10*x)=g+10*x:=by rw[IntKind.wrap_i64];omega
    clear hy hg hx e2 l9;go_wp2;exact⟨⟨n+1,by omega,by go_num,SZ.out,V1.out.setCell (p:=⟨b,n,none⟩) (Nat.le_refl _) _⟩,by simp[intOf];omega⟩
theorem lW(u v:Value)(xs ys:List Int)(w:World)(hu:Ro w u xs)(hv:Ro w v ys):
 Calls Tryz.prog 9 #[u,v] w λe w'=>e=.returned (.bool (decide (xs=ys)))/\∃n,w'=w.drewN n:=by
 obtain⟨a,c,rfl,hc1,hc2,ha⟩:=hu;obtain⟨b,d,rfl,hd1,hd2,hb⟩:=hv;have Ha:Hid (Cells w a xs):=ha;have Hb:Hid (Cells w b ys):=hb;clear ha hb;by_cases hl:xs.length=ys.length
 ·have Hl:Hid (xs.length=ys.length):=hl
  rw[<-hl] at hd1 ⊢;clear hl;go_enter Tryz.func9,Tryz.ntmps9;go_wp2_with fail
  go_loopw [5] (λi W=>∃(k q:Nat),k<=xs.length/\i=int i64 (k:Nat)/\xs.take k=ys.take k/\W=w.drewN q) (λi _=>xs.length-(intOf i).toNat)
  case atStart=>exact⟨0,0,Nat.zero_le _,rfl,by simp,rfl⟩
  case round=>
   obtain⟨k,q,hk,rfl,ht,rfl⟩:=hrel;have Ht:Hid (xs.take k=ys.take k):=ht;clear ht;by_cases h0:k=xs.length
   ·subst h0
    go_wp2;go_ret;refine⟨?_,q,rfl⟩;have e:=Ht.out;rw[List.take_of_length_le (Nat.le_refl _),Hl.out,List.take_of_length_le (Nat.le_refl _)] at e;simp[e]
   ·have hkx:k<xs.length:=by omega
    have hky:k<ys.length:=by rw[<-Hl.out];exact hkx
    obtain⟨x,rfl,-,hx⟩:=Ha.out (by intro h;rw[h] at hkx;simp at hkx);obtain⟨y,rfl,-,hy⟩:=Hb.out (by intro h;rw[h] at hky;simp at hky);have cx:=hx k xs[k] (List.getElem?_eq_getElem hkx);have cy:=hy k ys[k] (List.getElem?_eq_getElem hky);have Te:Hid (xs.take (k+1)=ys.take (k+1)↔xs[k]=ys[k]):=by
     unfold Hid;rw[List.take_succ_eq_append_getElem hkx,List.take_succ_eq_append_getElem hky,Ht.out];exact⟨λh=>(List.cons.inj (List.append_cancel_left h)).1,λh=>by rw[h]⟩
    generalize xs[k]=p at *;generalize ys[k]=r at *;clear hx hy;by_cases hpr:p=r
    ·subst hpr
     go_wp2;go_quiet (fail);go_wp2;go_round
     case rel=>exact⟨k+1,q+nq,by omega,by go_num,by first|exact Te.out.2 rfl|exact Te.out.2 trivial,rfl⟩
     case measure=>simp[intOf];omega
    ·go_wp2
     go_quiet (fail);go_wp2;go_ret;refine⟨?_,q+nq,by rw[World.drewN_drewN]⟩;have:xs≠ys:=λh=>hpr (Te.out.1 (by rw[h]))
     simp[this]
 ·go_enter Tryz.func9,Tryz.ntmps9
  go_wp2;go_ret;refine⟨?_,0,rfl⟩;have:xs≠ys:=λh=>hl (by rw[h])
  simp[this]
theorem zD(u v:Value)(W H:Int)(gs os:List Int)(w:World)(hu:Fl w u W H gs os)(hv:Fl w v W H gs os):
 Calls Tryz.prog 21 #[u,v] w λe w'=>e=.returned (.bool true)/\Below w.heap.size w w':=by
 obtain⟨a1,a2,rfl,ha1,ha2⟩:=hu;obtain⟨b1,b2,rfl,hb1,hb2⟩:=hv;have A1:Hid (Ro w a1 gs):=ha1;have A2:Hid (Ro w a2 os):=ha2;have B1:Hid (Ro w b1 gs):=hb1;have B2:Hid (Ro w b2 os):=hb2;clear ha1 ha2 hb1 hb2;go_enter Tryz.func21,Tryz.ntmps21;go_wp2_with fail
 have K0:Below w.heap.size w ((w.alloc (Obj.cells #[int i64 W,int i64 H,a1,a2] 25)).alloc (Obj.cells #[int i64 W,int i64 H,b1,b2] 25)):=((Below.refl _ _).alloc (Nat.le_refl _) _).alloc (by simp) _;have X0:=(Bf.mk' (w:=w) W H a1 a2 rfl).below ((Below.refl _ _).alloc (Nat.le_refl _) (Obj.cells #[int i64 W,int i64 H,b1,b2] 25)) (by simp);have Y0:=Bf.mk' (w:=w.alloc (Obj.cells #[int i64 W,int i64 H,a1,a2] 25)) (z:=w.heap.size+1) W H b1 b2 (by simp);generalize (w.alloc (Obj.cells #[int i64 W,int i64 H,a1,a2] 25)).alloc (Obj.cells #[int i64 W,int i64 H,b1,b2] 25)=w0 at *;refine(lW _ _ gs gs _ (A1.out.below K0) (B1.out.below K0)).mono ?_;rintro e w1 ⟨rfl,q1,hq1⟩;rw[decide_eq_true rfl];have k1:Below w0.heap.size w0 w1:=by rw[hq1];exact _root_.Go.below_drewN (Below.refl _ _) _
 have K1:Below w.heap.size w w1:=K0.trans (k1.mono K0.size);have X1:Hid (Bf w1 w.heap.size W H a1 a2):=X0.below k1 X0.lt;have Y1:Hid (Bf w1 (w.heap.size+1) W H b1 b2):=Y0.below k1 Y0.lt;clear hq1 k1 X0 Y0 K0;obtain⟨x0,x1,x2,x3⟩:=X1.out;obtain⟨y0,y1,y2,y3⟩:=Y1.out;have K1':Hid (Below w.heap.size w w1):=K1;clear K1;go_wp2_with fail
 refine(lW _ _ os os _ (A2.out.below K1'.out) (B2.out.below K1'.out)).mono ?_;rintro e w2 ⟨rfl,q2,hq2⟩;rw[decide_eq_true rfl];have k2:Below w1.heap.size w1 w2:=by rw[hq2];exact _root_.Go.below_drewN (Below.refl _ _) _
 have K2:Hid (Below w.heap.size w w2):=K1'.out.trans (k2.mono K1'.out.size);have X2:Hid (Bf w2 w.heap.size W H a1 a2):=X1.out.below k2 X1.out.lt;have Y2:Hid (Bf w2 (w.heap.size+1) W H b1 b2):=Y1.out.below k2 Y1.out.lt;clear hq2 k2 x0 x1 x2 x3 y0 y1 y2 y3 X1 Y1 K1';obtain⟨x0,x1,x2,x3⟩:=X2.out;obtain⟨y0,y1,y2,y3⟩:=Y2.out;go_wp2;go_ret;exact⟨rfl,K2⟩
theorem ES(u v:Value)(xs:List Int)(w:World)(hu:Ro w u xs)(hv:Ro w v xs):
 Calls Tryz.prog 9 #[u,v] w λe w'=>e=.returned (.bool true)/\Below w.heap.size w w':=
 (lW u v xs xs w hu hv).mono λe w' ⟨h1,q,h2⟩=>⟨by rw[h1,decide_eq_true rfl],by rw[h2];exact _root_.Go.below_drewN (Below.refl _ _) _⟩
theorem wG(u v:Value)(W:WV)(w:World)(hu:Wl w u W)(hv:Wl w v W):
 Calls Tryz.prog 10 #[u,v] w λe w'=>e=.returned (.bool true)/\Below w.heap.size w w':=by
 obtain⟨u1,u2,u3,u4,u5,rfl,g1,g2,g3,g4,g5⟩:=hu;obtain⟨v1,v2,v3,v4,v5,rfl,k1,k2,k3,k4,k5⟩:=hv;obtain⟨a4,c4,rfl,gl4,gc4,ga4⟩:=g4;obtain⟨b4,d4,rfl,kl4,kc4,ka4⟩:=k4;obtain⟨a5,c5,rfl,gl5,gc5,ga5⟩:=g5;obtain⟨b5,d5,rfl,kl5,kc5,ka5⟩:=k5;have R:Hid (Ro w u1 W.gs/\Ro w u2 W.os/\Ro w u3 W.gold/\Ro w v1 W.gs/\Ro w v2 W.os/\Ro w v3 W.gold):=⟨g1,g2,g3,k1,k2,k3⟩;have GU:Hid (W.us≠[]->∃x,a4=some x/\x.block<w.heap.size/\∀(i:Nat) k,W.us[i]? =some k->dJ w (x.add (i*8)) k):=ga4;have KU:Hid (W.us≠[]->∃x,b4=some x/\x.block<w.heap.size/\∀(i:Nat) k,W.us[i]? =some k->dJ w (x.add (i*8)) k):=ka4;have GJ:Hid (W.qs≠[]->∃x,a5=some x/\x.block<w.heap.size/\∀(i:Nat) k,W.qs[i]? =some k->jJ w (x.add (i*4)) k):=ga5;have KJ:Hid (W.qs≠[]->∃x,b5=some x/\x.block<w.heap.size/\∀(i:Nat) k,W.qs[i]? =some k->jJ w (x.add (i*4)) k):=ka5;have zQ:W.us.length<=9223372036854775807:=by omega
 have uh:W.qs.length<=9223372036854775807:=by omega
 clear g1 g2 g3 k1 k2 k3 ga4 ka4 ga5 ka5 gl4 gc4 kl4 kc4 gl5 gc5 kl5 kc5;go_enter Tryz.func10,Tryz.ntmps10;go_wp2_with fail
 have K0:Below w.heap.size w ((w.alloc (Obj.cells #[int i64 W.turn,int i64 W.next,int i64 W.wide,int i64 W.high,u1,u2,u3,slice a4 W.us.length c4,slice a5 W.qs.length c5] 29)).alloc (Obj.cells #[int i64 W.turn,int i64 W.next,int i64 W.wide,int i64 W.high,v1,v2,v3,slice b4 W.us.length d4,slice b5 W.qs.length d5] 29)):=((Below.refl _ _).alloc (Nat.le_refl _) _).alloc (by simp) _;have X0:=(Bw.mk' (w:=w) W u1 u2 u3 (slice a4 W.us.length c4) (slice a5 W.qs.length c5) rfl).below ((Below.refl _ _).alloc (Nat.le_refl _) (Obj.cells #[int i64 W.turn,int i64 W.next,int i64 W.wide,int i64 W.high,v1,v2,v3,slice b4 W.us.length d4,slice b5 W.qs.length d5] 29)) (by simp);have Y0:=Bw.mk' (w:=w.alloc (Obj.cells #[int i64 W.turn,int i64 W.next,int i64 W.wide,int i64 W.high,u1,u2,u3,slice a4 W.us.length c4,slice a5 W.qs.length c5] 29)) (z:=w.heap.size+1) W v1 v2 v3 (slice b4 W.us.length d4) (slice b5 W.qs.length d5) (by simp);generalize ((w.alloc (Obj.cells #[int i64 W.turn,int i64 W.next,int i64 W.wide,int i64 W.high,u1,u2,u3,slice a4 W.us.length c4,slice a5 W.qs.length c5] 29)).alloc (Obj.cells #[int i64 W.turn,int i64 W.next,int i64 W.wide,int i64 W.high,v1,v2,v3,slice b4 W.us.length d4,slice b5 W.qs.length d5] 29))=w0 at *;refine(zD _ _ W.wide W.high W.gs W.os w0 ⟨_,_,rfl,R.out.1.below K0,R.out.2.1.below K0⟩ ⟨_,_,rfl,R.out.2.2.2.1.below K0,R.out.2.2.2.2.1.below K0⟩).mono ?_;rintro e w1 ⟨rfl,hb1⟩;have K1:Hid (Below w.heap.size w w1):=K0.trans (hb1.mono K0.size);have X1:Hid (Bw w1 w.heap.size W u1 u2 u3 (slice a4 W.us.length c4) (slice a5 W.qs.length c5)):=X0.below hb1 X0.lt;have Y1:Hid (Bw w1 (w.heap.size+1) W v1 v2 v3 (slice b4 W.us.length d4) (slice b5 W.qs.length d5)):=Y0.below hb1 Y0.lt;clear K0 X0 Y0 hb1;obtain⟨x0,x1,x2,x3,x4,x5,x6,x7,x8⟩:=X1.out;obtain⟨y0,y1,y2,y3,y4,y5,y6,y7,y8⟩:=Y1.out;go_wp2_with fail
 refine(ES _ _ W.gold w1 (R.out.2.2.1.below K1.out) (R.out.2.2.2.2.2.below K1.out)).mono ?_;rintro e w2 ⟨rfl,hb2⟩;have K2':Hid (Below w.heap.size w w2):=K1.out.trans (hb2.mono K1.out.size);have X2:Hid (Bw w2 w.heap.size W u1 u2 u3 (slice a4 W.us.length c4) (slice a5 W.qs.length c5)):=X1.out.below hb2 X1.out.lt;have Y2:Hid (Bw w2 (w.heap.size+1) W v1 v2 v3 (slice b4 W.us.length d4) (slice b5 W.qs.length d5)):=Y1.out.below hb2 Y1.out.lt;clear hb2 x0 x1 x2 x3 x4 x5 x6 x7 x8 y0 y1 y2 y3 y4 y5 y6 y7 y8 X1 Y1 K1;obtain⟨x0,x1,x2,x3,x4,x5,x6,x7,x8⟩:=X2.out;obtain⟨y0,y1,y2,y3,y4,y5,y6,y7,y8⟩:=Y2.out;go_wp2;clear x0 x1 x2 x3 x4 x5 x6 x7 x8 y0 y1 y2 y3 y4 y5 y6 y7 y8;go_loopw [7] (λi W'=>∃k:Nat,k<=W.us.length/\i=int i64 (k:Nat)/\Bw W' w.heap.size W u1 u2 u3 (slice a4 W.us.length c4) (slice a5 W.qs.length c5)/\Bw W' (w.heap.size+1) W v1 v2 v3 (slice b4 W.us.length d4) (slice b5 W.qs.length d5)/\Below w.heap.size w W') (λi _=>W.us.length-(intOf i).toNat)
 case atStart=>exact⟨0,Nat.zero_le _,rfl,X2.out,Y2.out,K2'.out⟩
 case round=>
  obtain⟨k,hk,rfl,hX,hY,hB⟩:=hrel;have XB:Hid (Bw wr w.heap.size W u1 u2 u3 (slice a4 W.us.length c4) (slice a5 W.qs.length c5)):=hX;have YB:Hid (Bw wr (w.heap.size+1) W v1 v2 v3 (slice b4 W.us.length d4) (slice b5 W.qs.length d5)):=hY;have B:Hid (Below w.heap.size w wr):=hB;clear hX hY hB X2 Y2 K2';by_cases h0:k=W.us.length
  ·subst h0
   have x7:=XB.out.c7;clear hk;go_wp2;clear x7;go_loopw [8] (λi W'=>∃k:Nat,k<=W.qs.length/\i=int i64 (k:Nat)/\Bw W' w.heap.size W u1 u2 u3 (slice a4 W.us.length c4) (slice a5 W.qs.length c5)/\Bw W' (w.heap.size+1) W v1 v2 v3 (slice b4 W.us.length d4) (slice b5 W.qs.length d5)/\Below w.heap.size w W') (λi _=>W.qs.length-(intOf i).toNat)
   case atStart=>exact⟨0,Nat.zero_le _,rfl,XB.out,YB.out,B.out⟩
   case round=>
    obtain⟨k,hk,rfl,hX,hY,hB⟩:=hrel;have XB:Hid (Bw wr w.heap.size W u1 u2 u3 (slice a4 W.us.length c4) (slice a5 W.qs.length c5)):=hX;have YB:Hid (Bw wr (w.heap.size+1) W v1 v2 v3 (slice b4 W.us.length d4) (slice b5 W.qs.length d5)):=hY;have B:Hid (Below w.heap.size w wr):=hB;clear hX hY hB;by_cases h0:k=W.qs.length
    ·subst h0
     have x8:=XB.out.c8;clear hk;go_wp2;go_ret;exact⟨rfl,B.out⟩
    ·have hlt:k<W.qs.length:=by omega
     have Xq:((k:Nat):Int)<(W.qs.length:Nat):=by omega
     obtain⟨o,ho⟩:∃o,W.qs[k]? =some o:=⟨_,List.getElem?_eq_getElem hlt⟩;have hne:W.qs≠[]:=by intro e;rw[e] at hlt;simp at hlt
     obtain⟨x,rfl,hx,hxc⟩:=GJ.out hne;obtain⟨y,rfl,hy,UO⟩:=KJ.out hne;obtain⟨q0,q1,q2,q3⟩:=(hxc k o ho).below B.out (by rw[add_block];exact hx);obtain⟨r0,r1,r2,r3⟩:=(UO k o ho).below B.out (by rw[add_block];exact hy);have x8:=XB.out.c8;have y8:=YB.out.c8;clear hxc UO hne ho hx hy;go_wp2;go_quiet (fail);go_wp2;go_round
     case rel=>exact⟨k+1,by omega,by go_num,XB.out.below (_root_.Go.below_drewN (Below.refl _ _) _) XB.out.lt,YB.out.below (_root_.Go.below_drewN (Below.refl _ _) _) YB.out.lt,_root_.Go.below_drewN B.out _⟩
     case measure=>simp[intOf];omega
  ·have hlt:k<W.us.length:=by omega
   have Xq:((k:Nat):Int)<(W.us.length:Nat):=by omega
   obtain⟨o,ho⟩:∃o,W.us[k]? =some o:=⟨_,List.getElem?_eq_getElem hlt⟩;have hne:W.us≠[]:=by intro e;rw[e] at hlt;simp at hlt
   obtain⟨x,rfl,hx,hxc⟩:=GU.out hne;obtain⟨y,rfl,hy,UO⟩:=KU.out hne;obtain⟨q0,q1,q2,q3,q4,q5,q6,q7⟩:=(hxc k o ho).below B.out (by rw[add_block];exact hx);obtain⟨r0,r1,r2,r3,r4,r5,r6,r7⟩:=(UO k o ho).below B.out (by rw[add_block];exact hy);have x7:=XB.out.c7;have y7:=YB.out.c7;clear hxc UO hne ho hx hy;go_wp2;go_quiet (fail);go_wp2;go_round
   case rel=>exact⟨k+1,by omega,by go_num,XB.out.below (_root_.Go.below_drewN (Below.refl _ _) _) XB.out.lt,YB.out.below (_root_.Go.below_drewN (Below.refl _ _) _) YB.out.lt,_root_.Go.below_drewN B.out _⟩
   case measure=>simp[intOf];omega
open Go.ChangeAt Go.ChangeShapes Go.WideShapes
theorem KH{H:Type}:∀d:DataW H,1<=Rows.uptoBulk d
 | .lit (.string bytes)=>by simp[Rows.uptoBulk]
 | .lit (.int _ _)=>by simp[Rows.uptoBulk]
 | .lit (.bool _)=>by simp[Rows.uptoBulk]
 | .lit (.float .f32 _)=>by simp[Rows.uptoBulk]
 | .lit (.float .f64 _)=>by simp[Rows.uptoBulk]
 | .lit .nil=>by simp[Rows.uptoBulk]
 | .nil=>by simp[Rows.uptoBulk]
 | .ptr d=>by simp[Rows.uptoBulk]
 | .slice _ _=>by simp[Rows.uptoBulk]
 | .agg _=>by simp[Rows.uptoBulk]
 | .iface _ _=>by simp[Rows.uptoBulk]
 | .map _=>by simp[Rows.uptoBulk]
 | .held _=>by simp[Rows.uptoBulk]
theorem wH{H:Type}:∀ds:List (DataW H),ds.length<=Rows.uptoBulkAll ds
 |[]=>by simp
 |d::ds=>by
  have h1:=KH d;have h2:=wH ds;simp only[Rows.uptoBulkAll,List.length_cons];omega
theorem kM{H:Type}(es sp:List (DataW H)):es.length<=Rows.uptoBulk (.slice es sp):=by
 have:=wH es;simp only[Rows.uptoBulk];omega
theorem in64_of_wf{n:Int}(h:(Lit.int i64 n).wf=true):Wd.In64 n:=by
 unfold Wd.In64;simp only[Lit.wf,Bool.and_eq_true,decide_eq_true_eq] at h;have h1:IntKind.i64.min= -9223372036854775808:=by decide
 have h2:IntKind.i64.max=9223372036854775807:=by decide
 omega
theorem kN{H:Type}{enc:TypeId×Value->H}{W:World}{base:Nat}{held:Bool}{fuel:Nat}{v:Value}{y:DataW H×List MemPlace}(h:DataW.trod enc Tryz.prog W base (λ_=>true) held fuel 23 [v]=some y):
 ∃zs,Ro W v zs/\(∀n∈zs,Wd.In64 n)/\zs.length<=Rows.uptoBulk y.1:=by
 rcases open_ints Tryz.underlying23 Tryz.underlying3 (by kernel_rfl) h with⟨hcs,rfl⟩|⟨x,l,c,zs,hcs,_,hl,hm,hz,rfl,hcell,hwz⟩
 ·simp at hcs
  subst hcs;exact⟨_,zM.ro (.inl ⟨rfl,rfl,rfl,rfl⟩),by simp,by simp⟩
 ·simp at hcs
  subst hcs;refine⟨_,zM.ro (zs:=zs) (.inr ⟨_,rfl,hl,hm,by simpa using hz,hcell,hwz⟩),λn hn=>in64_of_wf (hwz n (List.mem_of_mem_take hn)),?_⟩;have:=kM (H:=H) (lits .i64 (zs.take l)) (lits .i64 (zs.drop l));simpa[lits] using this
theorem Oq:∃f0 f1 f2 f3 f4 f5 f6 f7:Field,Tryz.prog.underlying 35=some (.struct #[f0,f1,f2,f3,f4,f5,f6,f7])/\f0.offset=0/\f0.type=3/\f1.offset=1/\f1.type=3/\f2.offset=2/\f2.type=3/\f3.offset=3/\f3.type=3/\f4.offset=4/\f4.type=3/\f5.offset=5/\f5.type=3/\f6.offset=6/\f6.type=3/\f7.offset=7/\f7.type=3:=⟨_,_,_,_,_,_,_,_,Tryz.underlying35,rfl,rfl,rfl,rfl,rfl,rfl,rfl,rfl,rfl,rfl,rfl,rfl,rfl,rfl,rfl,rfl⟩
theorem ET{H:Type}{enc:TypeId×Value->H}{W:World}{base:Nat}{held:Bool}{fuel:Nat}{cs:List Value}{y:DataW H×List MemPlace}(h:DataW.trod enc Tryz.prog W base (λ_=>true) held fuel 35 cs=some y):
 ∃k:aC,cs=[int i64 k.id,int i64 k.aA,int i64 k.kind,int i64 k.at_,int i64 k.life,int i64 k.load,int i64 k.task,int i64 k.goal]/\∀n∈Wd.uw k,Wd.In64 n:=by
 obtain⟨f0,f1,f2,f3,f4,f5,f6,f7,he,o0,t0,o1,t1,o2,t2,o3,t3,o4,t4,o5,t5,o6,t6,o7,t7⟩:=Oq;obtain⟨xs,m,-,-,hlen,hxl,hf⟩:=DataW.trod_struct he h;have uo:Tryz.prog.cellsOf 3=1:=by kernel_rfl
 have EX:Tryz.prog.cellsOf 35=8:=by kernel_rfl
 rw[EX] at hlen
 match cs,hlen with
 |[v0,v1,v2,v3,v4,v5,v6,v7],_=>
  have hx:xs.length=8:=hxl
  match xs,hx with
  |[x0,x1,x2,x3,x4,x5,x6,x7],_=>
   have g0:=hf 0 f0 rfl;rw[o0,t0,uo] at g0;have g1:=hf 1 f1 rfl;rw[o1,t1,uo] at g1;have g2:=hf 2 f2 rfl;rw[o2,t2,uo] at g2;have g3:=hf 3 f3 rfl;rw[o3,t3,uo] at g3;have g4:=hf 4 f4 rfl;rw[o4,t4,uo] at g4;have g5:=hf 5 f5 rfl;rw[o5,t5,uo] at g5;have g6:=hf 6 f6 rfl;rw[o6,t6,uo] at g6;have g7:=hf 7 f7 rfl;rw[o7,t7,uo] at g7;obtain⟨m0,e0,-,w0⟩:=DataW.trod_int Tryz.underlying3 g0;obtain⟨m1,e1,-,w1⟩:=DataW.trod_int Tryz.underlying3 g1;obtain⟨m2,e2,-,w2⟩:=DataW.trod_int Tryz.underlying3 g2;obtain⟨m3,e3,-,w3⟩:=DataW.trod_int Tryz.underlying3 g3;obtain⟨m4,e4,-,w4⟩:=DataW.trod_int Tryz.underlying3 g4;obtain⟨m5,e5,-,w5⟩:=DataW.trod_int Tryz.underlying3 g5;obtain⟨m6,e6,-,w6⟩:=DataW.trod_int Tryz.underlying3 g6;obtain⟨m7,e7,-,w7⟩:=DataW.trod_int Tryz.underlying3 g7;simp at e0 e1 e2 e3 e4 e5 e6 e7;subst e0 e1 e2 e3 e4 e5 e6 e7;refine⟨⟨m0,m1,m2,m3,m4,m5,m6,m7⟩,rfl,?_⟩;intro n hn;simp only[Wd.uw,List.mem_cons,List.not_mem_nil,or_false] at hn;rcases hn with rfl|rfl|rfl|rfl|rfl|rfl|rfl|rfl
   ·exact in64_of_wf w0
   ·exact in64_of_wf w1
   ·exact in64_of_wf w2
   ·exact in64_of_wf w3
   ·exact in64_of_wf w4
   ·exact in64_of_wf w5
   ·exact in64_of_wf w6
   ·exact in64_of_wf w7
theorem zF{H:Type}{enc:TypeId×Value->H}{W:World}{base:Nat}{held:Bool}{fuel:Nat}{v:Value}{y:DataW H×List MemPlace}(h:DataW.trod enc Tryz.prog W base (λ_=>true) held fuel 26 [v]=some y):
 ∃ks:List aC,jd W v ks/\(∀k∈ks,∀n∈Wd.uw k,Wd.In64 n)/\ks.length<=Rows.uptoBulk y.1:=by
 have EX:Tryz.prog.cellsOf 35=8:=by kernel_rfl
 rcases Go.Deep.open_slice Tryz.underlying26 h with⟨hcs,-⟩|⟨a,len,cap,m,q,D,Pl,hcs,hb,hl,hm,hmm,rfl,hx⟩
 ·simp at hcs
  subst hcs;exact⟨[],⟨none,0,rfl,Nat.le_refl _,by omega,λh=>absurd rfl h⟩,by simp,by simp⟩
 ·simp at hcs
  subst hcs;have hlm:len<=m:=by rw[hmm];simp;exact hl
  have each:∀i,i<len->∃k:aC,dJ W (a.add (i*8)) k/\(∀n∈Wd.uw k,Wd.In64 n):=by
   intro i hi;obtain⟨cs',h1,h2⟩:=hx i (by omega);obtain⟨k,rfl,hk⟩:=ET h2;rw[EX] at h1;obtain⟨-,-,hcell⟩:=World.cells?_some h1;refine⟨k,?_,hk⟩;generalize a.add (i*8)=y at *;exact⟨hcell 0 (by decide),hcell 1 (by decide),hcell 2 (by decide),hcell 3 (by decide),hcell 4 (by decide),hcell 5 (by decide),hcell 6 (by decide),hcell 7 (by decide)⟩
  have inh:Inhabited aC:=⟨⟨0,0,0,0,0,0,0,0⟩⟩;obtain⟨q,hq⟩:=Go.Deep.choose_lt each;refine⟨(List.range len).map q,⟨some a,cap,by simp,by simpa using hl,by unfold maxLen at hm;omega,λhn=>⟨a,rfl,?_,λi k hk=>?_⟩⟩,?_,?_⟩
  ·have h0:0<len:=by
    rcases Nat.eq_zero_or_pos len with h|h
    ·subst h;simp at hn
    ·exact h
   have:=(hq 0 h0).1.lt;rwa[add_block] at this
  ·have hi:i<len:=by
    have:=(List.getElem?_eq_some_iff.1 hk).1;simpa using this
   rw[List.getElem?_map,List.getElem?_range hi] at hk;injection hk with hk
   subst hk;exact(hq i hi).1
  ·intro k hk
   obtain⟨i,hi,rfl⟩:=List.mem_map.1 hk;exact(hq i (List.mem_range.1 hi)).2
  ·have:=kM ((List.range len).map D) ((List.range (m-len)).map λj=>D (len+j))
   simpa using this
theorem Ot:∃f0 f1 f2 f3:Field,Tryz.prog.underlying 60=some (.struct #[f0,f1,f2,f3])/\f0.offset=0/\f0.type=3/\f1.offset=1/\f1.type=3/\f2.offset=2/\f2.type=3/\f3.offset=3/\f3.type=3:=⟨_,_,_,_,Tryz.underlying60,rfl,rfl,rfl,rfl,rfl,rfl,rfl,rfl⟩
theorem EZ{H:Type}{enc:TypeId×Value->H}{W:World}{base:Nat}{held:Bool}{fuel:Nat}{cs:List Value}{y:DataW H×List MemPlace}(h:DataW.trod enc Tryz.prog W base (λ_=>true) held fuel 60 cs=some y):
 ∃k:aP,cs=[int i64 k.aA,int i64 k.unit,int i64 k.kind,int i64 k.left]/\∀n∈Wd.uy k,Wd.In64 n:=by
 obtain⟨f0,f1,f2,f3,he,o0,t0,o1,t1,o2,t2,o3,t3⟩:=Ot;obtain⟨xs,m,-,-,hlen,hxl,hf⟩:=DataW.trod_struct he h;have uo:Tryz.prog.cellsOf 3=1:=by kernel_rfl
 have EX:Tryz.prog.cellsOf 60=4:=by kernel_rfl
 rw[EX] at hlen
 match cs,hlen with
 |[v0,v1,v2,v3],_=>
  have hx:xs.length=4:=hxl
  match xs,hx with
  |[x0,x1,x2,x3],_=>
   have g0:=hf 0 f0 rfl;rw[o0,t0,uo] at g0;have g1:=hf 1 f1 rfl;rw[o1,t1,uo] at g1;have g2:=hf 2 f2 rfl;rw[o2,t2,uo] at g2;have g3:=hf 3 f3 rfl;rw[o3,t3,uo] at g3;obtain⟨m0,e0,-,w0⟩:=DataW.trod_int Tryz.underlying3 g0;obtain⟨m1,e1,-,w1⟩:=DataW.trod_int Tryz.underlying3 g1;obtain⟨m2,e2,-,w2⟩:=DataW.trod_int Tryz.underlying3 g2;obtain⟨m3,e3,-,w3⟩:=DataW.trod_int Tryz.underlying3 g3;simp at e0 e1 e2 e3;subst e0 e1 e2 e3;refine⟨⟨m0,m1,m2,m3⟩,rfl,?_⟩;intro n hn;simp only[Wd.uy,List.mem_cons,List.not_mem_nil,or_false] at hn;rcases hn with rfl|rfl|rfl|rfl
   ·exact in64_of_wf w0
   ·exact in64_of_wf w1
   ·exact in64_of_wf w2
   ·exact in64_of_wf w3
theorem zG{H:Type}{enc:TypeId×Value->H}{W:World}{base:Nat}{held:Bool}{fuel:Nat}{v:Value}{y:DataW H×List MemPlace}(h:DataW.trod enc Tryz.prog W base (λ_=>true) held fuel 27 [v]=some y):
 ∃ks:List aP,KO W v ks/\(∀k∈ks,∀n∈Wd.uy k,Wd.In64 n)/\ks.length<=Rows.uptoBulk y.1:=by
 have EX:Tryz.prog.cellsOf 60=4:=by kernel_rfl
 rcases Go.Deep.open_slice Tryz.underlying27 h with⟨hcs,-⟩|⟨a,len,cap,m,q,D,Pl,hcs,hb,hl,hm,hmm,rfl,hx⟩
 ·simp at hcs
  subst hcs;exact⟨[],⟨none,0,rfl,Nat.le_refl _,by omega,λh=>absurd rfl h⟩,by simp,by simp⟩
 ·simp at hcs
  subst hcs;have hlm:len<=m:=by rw[hmm];simp;exact hl
  have each:∀i,i<len->∃k:aP,jJ W (a.add (i*4)) k/\(∀n∈Wd.uy k,Wd.In64 n):=by
   intro i hi;obtain⟨cs',h1,h2⟩:=hx i (by omega);obtain⟨k,rfl,hk⟩:=EZ h2;rw[EX] at h1;obtain⟨-,-,hcell⟩:=World.cells?_some h1;refine⟨k,?_,hk⟩;generalize a.add (i*4)=y at *;exact⟨hcell 0 (by decide),hcell 1 (by decide),hcell 2 (by decide),hcell 3 (by decide)⟩
  have inh:Inhabited aP:=⟨⟨0,0,0,0⟩⟩;obtain⟨q,hq⟩:=Go.Deep.choose_lt each;refine⟨(List.range len).map q,⟨some a,cap,by simp,by simpa using hl,by unfold maxLen at hm;omega,λhn=>⟨a,rfl,?_,λi k hk=>?_⟩⟩,?_,?_⟩
  ·have h0:0<len:=by
    rcases Nat.eq_zero_or_pos len with h|h
    ·subst h;simp at hn
    ·exact h
   have:=(hq 0 h0).1.lt;rwa[add_block] at this
  ·have hi:i<len:=by
    have:=(List.getElem?_eq_some_iff.1 hk).1;simpa using this
   rw[List.getElem?_map,List.getElem?_range hi] at hk;injection hk with hk
   subst hk;exact(hq i hi).1
  ·intro k hk
   obtain⟨i,hi,rfl⟩:=List.mem_map.1 hk;exact(hq i (List.mem_range.1 hi)).2
  ·have:=kM ((List.range len).map D) ((List.range (m-len)).map λj=>D (len+j))
   simpa using this
theorem zH:∃f0 f1 f2 f3 f4 f5:Field,Tryz.prog.underlying 29=some (.struct #[f0,f1,f2,f3,f4,f5])/\f0.offset=0/\f0.type=3/\f1.offset=1/\f1.type=3/\f2.offset=2/\f2.type=25/\f3.offset=6/\f3.type=23/\f4.offset=7/\f4.type=26/\f5.offset=8/\f5.type=27:=⟨_,_,_,_,_,_,Tryz.underlying29,rfl,rfl,rfl,rfl,rfl,rfl,rfl,rfl,rfl,rfl,rfl,rfl⟩
theorem zI:∃f0 f1 f2 f3:Field,Tryz.prog.underlying 25=some (.struct #[f0,f1,f2,f3])/\f0.offset=0/\f0.type=3/\f1.offset=1/\f1.type=3/\f2.offset=2/\f2.type=23/\f3.offset=3/\f3.type=23:=⟨_,_,_,_,Tryz.underlying25,rfl,rfl,rfl,rfl,rfl,rfl,rfl,rfl⟩
theorem zJ{w:World}{v:Value}{xs:List Int}(h:Ro w v xs):Wd.In64 (xs.length:Int):=by
 obtain⟨a,c,-,h1,h2,-⟩:=h;unfold Wd.In64;omega
theorem ug{H:Type}{enc:TypeId×Value->H}{W:World}{base:Nat}{held:Bool}{fuel:Nat}{cs:List Value}{y:DataW H×List MemPlace}(h:DataW.trod enc Tryz.prog W base (λ_=>true) held fuel 29 cs=some y):
 ∃X:WV,Wl W (.agg cs.toArray) X/\(∀n∈Wd.nums X,Wd.In64 n)/\(Rows.uptoBulk y.1<=1048576->Fp X):=by
 obtain⟨f0,f1,f2,f3,f4,f5,he,o0,t0,o1,t1,o2,t2,o3,t3,o4,t4,o5,t5⟩:=zH;obtain⟨xs,m,-,rfl,hlen,hxl,hf⟩:=DataW.trod_struct he h;have uo:Tryz.prog.cellsOf 3=1:=by kernel_rfl
 have Zt:Tryz.prog.cellsOf 25=4:=by kernel_rfl
 have Xr:Tryz.prog.cellsOf 23=1:=by kernel_rfl
 have Zu:Tryz.prog.cellsOf 26=1:=by kernel_rfl
 have Zv:Tryz.prog.cellsOf 27=1:=by kernel_rfl
 have EX:Tryz.prog.cellsOf 29=9:=by kernel_rfl
 rw[EX] at hlen
 match cs,hlen with
 |[v0,v1,v2,v3,v4,v5,v6,v7,v8],_=>
  have hx:xs.length=6:=hxl
  match xs,hx with
  |[x0,x1,x2,x3,x4,x5],_=>
   have g0:=hf 0 f0 rfl;rw[o0,t0,uo] at g0;have g1:=hf 1 f1 rfl;rw[o1,t1,uo] at g1;have g2:=hf 2 f2 rfl;rw[o2,t2,Zt] at g2;have g3:=hf 3 f3 rfl;rw[o3,t3,Xr] at g3;have g4:=hf 4 f4 rfl;rw[o4,t4,Zu] at g4;have g5:=hf 5 f5 rfl;rw[o5,t5,Zv] at g5;obtain⟨m0,e0,-,w0⟩:=DataW.trod_int Tryz.underlying3 g0;obtain⟨m1,e1,-,w1⟩:=DataW.trod_int Tryz.underlying3 g1;obtain⟨r0,r1,r2,r3,he',p0,s0,p1,s1,p2,s2,p3,s3⟩:=zI;obtain⟨ys,m',-,rfl,hlen',hyl,hg⟩:=DataW.trod_struct he' g2;have hy:ys.length=4:=hyl
   match ys,hy with
   |[y0,y1,y2,y3],_=>
    have k0:=hg 0 r0 rfl;rw[p0,s0,uo] at k0;have k1:=hg 1 r1 rfl;rw[p1,s1,uo] at k1;have k2:=hg 2 r2 rfl;rw[p2,s2,Xr] at k2;have k3:=hg 3 r3 rfl;rw[p3,s3,Xr] at k3;obtain⟨m2,e2,-,w2⟩:=DataW.trod_int Tryz.underlying3 k0;obtain⟨m3,e3,-,w3⟩:=DataW.trod_int Tryz.underlying3 k1;simp at e0 e1 e2 e3;subst e0 e1 e2 e3;obtain⟨gs,hgs,igs,bgs⟩:=kN k2;obtain⟨os,hos,Zw,bos⟩:=kN k3;obtain⟨gold,Pq,UR,Yj⟩:=kN g3;obtain⟨us,hus,Zx,bus⟩:=zF g4;obtain⟨qs,Ov,Zy,bqs⟩:=zG g5;have lu:Wd.In64 (us.length:Int):=by
     obtain⟨a,c,-,h1,h2,-⟩:=hus;unfold Wd.In64;omega
    have lq:Wd.In64 (qs.length:Int):=by
     obtain⟨a,c,-,h1,h2,-⟩:=Ov;unfold Wd.In64;omega
    refine⟨⟨m0,m1,m2,m3,gs,os,gold,us,qs⟩,⟨_,_,_,_,_,rfl,hgs,hos,Pq,hus,Ov⟩,?_,?_⟩
    ·intro n hn
     simp only[Wd.nums,List.mem_append,List.mem_cons,List.not_mem_nil,or_false,List.mem_flatMap] at hn;rcases hn with(((((rfl|rfl|rfl|rfl)|(rfl|hn))|(rfl|hn))|(rfl|hn))|(rfl|⟨u,hu,hn⟩))|(rfl|⟨u,hu,hn⟩)
     ·exact in64_of_wf w0
     ·exact in64_of_wf w1
     ·exact in64_of_wf w2
     ·exact in64_of_wf w3
     ·exact zJ hgs
     ·exact igs _ hn
     ·exact zJ hos
     ·exact Zw _ hn
     ·exact zJ Pq
     ·exact UR _ hn
     ·exact lu
     ·exact Zx u hu n hn
     ·exact lq
     ·exact Zy u hu n hn
    ·intro hb
     simp only[Rows.uptoBulk,Rows.uptoBulkAll,List.map_cons,List.map_nil] at hb;exact⟨by simp only;omega,by simp only;omega,by simp only;omega,by simp only;omega,by simp only;omega⟩
theorem KI{H:Type}{enc:TypeId×Value->H}{W:World}{base b0:Nat}{held:Bool}{v:Value}{d:DataW H}{p:List MemPlace}(hv:Value.okWide Tryz.prog W .any b0 29 v)(h:DataW.Trod enc Tryz.prog W base (λ_=>true) held 29 v d p):
 ∃X:WV,Wl W v X/\(∀n∈Wd.nums X,Wd.In64 n)/\(Rows.uptoBulk d<=1048576->Fp X):=by
 obtain⟨cs,rfl,hsz⟩:=okWide_struct Tryz.underlying29 hv;obtain⟨fuel,hf⟩:=h;have:=ug hf;simpa[Value.cells] using this
theorem wI:∃f0 f1 f2 f3 f4 f5 f6 f7 f8 f9 f10:Field,Tryz.prog.underlying 37=some (.struct #[f0,f1,f2,f3,f4,f5,f6,f7,f8,f9,f10])/\
 f0.offset=0/\f0.type=9/\f1.offset=1/\f1.type=3/\f2.offset=2/\f2.type=3/\f3.offset=3/\f3.type=3/\f4.offset=4/\f4.type=3/\f5.offset=5/\f5.type=3/\f6.offset=6/\f6.type=3/\f7.offset=7/\f7.type=3/\f8.offset=8/\f8.type=3/\f9.offset=9/\f9.type=4/\f10.offset=10/\f10.type=4:=⟨_,_,_,_,_,_,_,_,_,_,_,Tryz.underlying37,rfl,rfl,rfl,rfl,rfl,rfl,rfl,rfl,rfl,rfl,rfl,rfl,rfl,rfl,rfl,rfl,rfl,rfl,rfl,rfl,rfl,rfl⟩
theorem E_{H:Type}{enc:TypeId×Value->H}{W:World}{base:Nat}{held:Bool}{fuel:Nat}{cs:List Value}{y:DataW H×List MemPlace}(h:DataW.trod enc Tryz.prog W base (λ_=>true) held fuel 37 cs=some y):
 ∃k:KV,cs=[.string k.b,int i64 k.n0,int i64 k.n1,int i64 k.n2,int i64 k.n3,int i64 k.n4,int i64 k.n5,int i64 k.n6,int i64 k.n7,.bool k.f,.bool k.t]/\k.b.size<=maxLen:=by
 obtain⟨f0,f1,f2,f3,f4,f5,f6,f7,f8,f9,f10,he,o0,t0,o1,t1,o2,t2,o3,t3,o4,t4,o5,t5,o6,t6,o7,t7,o8,t8,o9,t9,o10,t10⟩:=wI;obtain⟨xs,n,-,-,hlen,hxl,hf⟩:=DataW.trod_struct he h;have cs9:Tryz.prog.cellsOf 9=1:=by kernel_rfl
 have cs3:Tryz.prog.cellsOf 3=1:=by kernel_rfl
 have cs4:Tryz.prog.cellsOf 4=1:=by kernel_rfl
 have EX:Tryz.prog.cellsOf 37=11:=by kernel_rfl
 rw[EX] at hlen
 match cs,hlen with
 |[v0,v1,v2,v3,v4,v5,v6,v7,v8,v9,v10],_=>
  have hx11:xs.length=11:=hxl
  match xs,hx11 with
  |[x0,x1,x2,x3,x4,x5,x6,x7,x8,x9,x10],_=>
   have g0:=hf 0 f0 rfl;rw[o0,t0,cs9] at g0;have g1:=hf 1 f1 rfl;rw[o1,t1,cs3] at g1;have g2:=hf 2 f2 rfl;rw[o2,t2,cs3] at g2;have g3:=hf 3 f3 rfl;rw[o3,t3,cs3] at g3;have g4:=hf 4 f4 rfl;rw[o4,t4,cs3] at g4;have g5:=hf 5 f5 rfl;rw[o5,t5,cs3] at g5;have g6:=hf 6 f6 rfl;rw[o6,t6,cs3] at g6;have g7:=hf 7 f7 rfl;rw[o7,t7,cs3] at g7;have g8:=hf 8 f8 rfl;rw[o8,t8,cs3] at g8;have g9:=hf 9 f9 rfl;rw[o9,t9,cs4] at g9;have g10:=hf 10 f10 rfl;rw[o10,t10,cs4] at g10;obtain⟨b,e0,-,hb⟩:=DataW.trod_string Tryz.underlying9 g0;obtain⟨m1,e1,-,-⟩:=DataW.trod_int Tryz.underlying3 g1;obtain⟨m2,e2,-,-⟩:=DataW.trod_int Tryz.underlying3 g2;obtain⟨m3,e3,-,-⟩:=DataW.trod_int Tryz.underlying3 g3;obtain⟨m4,e4,-,-⟩:=DataW.trod_int Tryz.underlying3 g4;obtain⟨m5,e5,-,-⟩:=DataW.trod_int Tryz.underlying3 g5;obtain⟨m6,e6,-,-⟩:=DataW.trod_int Tryz.underlying3 g6;obtain⟨m7,e7,-,-⟩:=DataW.trod_int Tryz.underlying3 g7;obtain⟨m8,e8,-,-⟩:=DataW.trod_int Tryz.underlying3 g8;obtain⟨bf,e9,-⟩:=DataW.trod_bool Tryz.underlying4 g9;obtain⟨bt,e10,-⟩:=DataW.trod_bool Tryz.underlying4 g10;simp at e0 e1 e2 e3 e4 e5 e6 e7 e8 e9 e10;subst e0 e1 e2 e3 e4 e5 e6 e7 e8 e9 e10;exact⟨⟨b,m1,m2,m3,m4,m5,m6,m7,m8,bf,bt⟩,rfl,hb⟩
theorem zK{H:Type}{enc:TypeId×Value->H}{W:World}{base:Nat}{held:Bool}{fuel:Nat}{v:Value}{y:DataW H×List MemPlace}(h:DataW.trod enc Tryz.prog W base (λ_=>true) held fuel 22 [v]=some y):
 ∃ks:List KV,Kl W v ks/\∀k∈ks,k.b.size<=maxLen:=by
 have EX:Tryz.prog.cellsOf 37=11:=by kernel_rfl
 rcases Go.Deep.open_slice Tryz.underlying22 h with⟨hcs,-⟩|⟨a,len,cap,m,n,D,Pl,hcs,hb,hl,hm,hmm,-,hx⟩
 ·simp at hcs
  subst hcs;exact⟨[],⟨none,0,rfl,Nat.le_refl _,by omega,λh=>absurd rfl h⟩,by simp⟩
 ·simp at hcs
  subst hcs;have hlm:len<=m:=by rw[hmm];simp;exact hl
  have each:∀i,i<len->∃k:KV,Kc W (a.add (i*11)) k/\k.b.size<=maxLen:=by
   intro i hi;obtain⟨cs',h1,h2⟩:=hx i (by omega);obtain⟨k,rfl,hk⟩:=E_ h2;rw[EX] at h1;obtain⟨-,-,hcell⟩:=World.cells?_some h1;refine⟨k,?_,hk⟩;generalize a.add (i*11)=y at *;exact⟨hcell 0 (by decide),hcell 1 (by decide),hcell 2 (by decide),hcell 3 (by decide),hcell 4 (by decide),hcell 5 (by decide),hcell 6 (by decide),hcell 7 (by decide),hcell 8 (by decide),hcell 9 (by decide),hcell 10 (by decide)⟩
  have inh:Inhabited KV:=⟨⟨ByteArray.empty,0,0,0,0,0,0,0,0,false,false⟩⟩;obtain⟨q,hq⟩:=Go.Deep.choose_lt each;refine⟨(List.range len).map q,⟨some a,cap,by simp,by simpa using hl,by unfold maxLen at hm;omega,λhn=>⟨a,rfl,?_,λi k hk=>?_⟩⟩,?_⟩
  ·have h0:0<len:=by
    rcases Nat.eq_zero_or_pos len with h|h
    ·subst h;simp at hn
    ·exact h
   have:=(hq 0 h0).1.lt;rwa[add_block] at this
  ·have hi:i<len:=by
    have:=(List.getElem?_eq_some_iff.1 hk).1;simpa using this
   rw[List.getElem?_map,List.getElem?_range hi] at hk;injection hk with hk
   subst hk;exact(hq i hi).1
  ·intro k hk
   obtain⟨i,hi,rfl⟩:=List.mem_map.1 hk;exact(hq i (List.mem_range.1 hi)).2
theorem KN{H:Type}{enc:TypeId×Value->H}{W:World}{base b0:Nat}{held:Bool}{v:Value}{d:DataW H}{p:List MemPlace}(hv:Value.okWide Tryz.prog W .any b0 22 v)(h:DataW.Trod enc Tryz.prog W base (λ_=>true) held 22 v d p):
 ∃ks:List KV,Kl W v ks/\∀k∈ks,k.b.size<=maxLen:=by
 obtain⟨a,len,cap,rfl⟩:=okWide_slice Tryz.underlying22 hv;obtain⟨fuel,hf⟩:=h;exact zK hf
end Go.Proofs.YtjpappkgdadhhaaGreatDoor
namespace Go.Proofs.YtjpappkgdadhhaaGreatDoor.topQuiet
open Go.Value (int slice)
open Go.IntKind (i64)
open Go.RowKit Go.Proofs.YtjpappkgdadhhaaGreatDoor.So
theorem walk(vk:Value)(ks:List KV)(vw:Value)(X:WV)(m:Int)(w:World)
 (h0:Kl w vk ks/\∀k∈ks,k.b.size<=maxLen) (h1:Wl w vw X/\∀n∈Wd.nums X,Wd.In64 n) (hsd:Sd w):
 Calls Tryz.prog 3 #[vk,vw,int i64 m] w λe w'=>e=.returned (.bool true)/\Below w.heap.size w w':=by
 have K:Hid (Kl w vk ks/\∀k∈ks,k.b.size<=9223372036854775807):=⟨h0.1,λk hk=>by have:=h0.2 k hk;unfold maxLen at this;omega⟩;have H:Hid (Wl w vw X):=h1.1;have Vh:Hid (Sd w):=hsd;obtain⟨p1,q1,p2,q2,p3,q3,p4,q4,p5,q5,rfl⟩:=bD h1.1;obtain⟨pk,qk,rfl,kc1,kc2,-⟩:=h0.1;have US:Hid (jd w (slice p4 X.us.length q4) X.us):=H.out.slices.2.2.2.1;obtain⟨ua9,uc9,Zz,uc1,uc2,-⟩:=US.out;injection Zz with ue1 ue2 ue3
 subst ue1 ue3;clear h0 h1 hsd ue2;go_enter Tryz.func3,Tryz.ntmps3;go_upto_region 1 with fail
 have B0:Hid (Below w.heap.size w (w.alloc (Obj.cells #[int i64 X.turn,int i64 X.next,int i64 X.wide,int i64 X.high,slice p1 X.gs.length q1,slice p2 X.os.length q2,slice p3 X.gold.length q3,slice p4 X.us.length q4,slice p5 X.qs.length q5] 29))):=(Below.refl _ _).alloc (Nat.le_refl _) _;have X0:Hid (Bw (w.alloc (Obj.cells #[int i64 X.turn,int i64 X.next,int i64 X.wide,int i64 X.high,slice p1 X.gs.length q1,slice p2 X.os.length q2,slice p3 X.gold.length q3,slice p4 X.us.length q4,slice p5 X.qs.length q5] 29)) w.heap.size X (slice p1 X.gs.length q1) (slice p2 X.os.length q2) (slice p3 X.gold.length q3) (slice p4 X.us.length q4) (slice p5 X.qs.length q5)):=Bw.mk' X _ _ _ _ _ rfl;generalize w.alloc (Obj.cells #[int i64 X.turn,int i64 X.next,int i64 X.wide,int i64 X.high,slice p1 X.gs.length q1,slice p2 X.os.length q2,slice p3 X.gold.length q3,slice p4 X.us.length q4,slice p5 X.qs.length q5] 29)=w0 at *;go_wp2_with fail
 refine(one_any w0 (Vh.out.below B0.out)).mono ?_;rintro e w1 ⟨rfl,hb⟩;have B1:Hid (Below w.heap.size w w1):=B0.out.trans (hb.mono B0.out.size);have X1:Hid (Bw w1 w.heap.size X (slice p1 X.gs.length q1) (slice p2 X.os.length q2) (slice p3 X.gold.length q3) (slice p4 X.us.length q4) (slice p5 X.qs.length q5)):=X0.out.below hb X0.out.lt;clear hb X0 B0;obtain⟨x0,x1,x2,x3,x4,x5,x6,x7,x8⟩:=X1.out;go_wp2_with fail
 refine(dR _ _ ks X w1 (K.out.1.below B1.out) K.out.2 (H.out.below B1.out)).mono ?_;rintro e w2 ⟨r,rfl,hr,hb⟩;have B2:Hid (Below w.heap.size w w2):=B1.out.trans (hb.mono B1.out.size);have X2:Hid (Bw w2 w.heap.size X (slice p1 X.gs.length q1) (slice p2 X.os.length q2) (slice p3 X.gold.length q3) (slice p4 X.us.length q4) (slice p5 X.qs.length q5)):=X1.out.below hb X1.out.lt;clear hb x0 x1 x2 x3 x4 x5 x6 x7 x8 X1 B1;obtain⟨f,hf⟩:∃f,Wd.aF ks X=f:=⟨_,rfl⟩;rw[hf] at hr;rcases hr with⟨rfl,rfl⟩|⟨hn,rfl⟩
 case inr=>
  clear hf hn;go_wp2;go_ret;exact⟨rfl,B2.out⟩
 have WF:Hid (Wd.aF ks X=0):=hf;clear hf;by_cases hm0:m<0
 case pos=>
  go_wp2;go_ret;exact⟨rfl,B2.out⟩
 by_cases hm1:10<m
 case pos=>
  go_wp2;go_ret;exact⟨rfl,B2.out⟩
 obtain⟨x0,x1,x2,x3,x4,x5,x6,x7,x8⟩:=X2.out;by_cases ht:900000<X.turn
 case pos=>
  go_wp2;go_ret;exact⟨rfl,B2.out⟩
 by_cases hq:0<X.qs.length
 case pos=>
  have hq':(0:Int)<(X.qs.length:Int):=by omega
  go_wp2;go_ret;exact⟨rfl,B2.out⟩
 have hq':¬(0:Int)<(X.qs.length:Int):=by omega
 obtain⟨mn,rfl⟩:∃n:Nat,m=(n:Nat):=⟨m.toNat,by omega⟩;have hq0:X.qs.length=0:=by omega
 have QN:Hid (X.qs=[]):=List.length_eq_zero_iff.1 hq0;have TT:Hid (X.turn<=900000/\mn<=10):=⟨by omega,by omega⟩;have tb:Hid (0<=X.turn):=by
  have hn:=(bC WF.out).nums;unfold Wd.aX at hn;simp only[Bool.or_eq_false_iff] at hn;have h9:=hn.1;unfold Wd.off at h9;simp at h9;unfold Hid;omega
 clear hq hq0;go_wp2_with fail
 clear x0 x1 x2 x3 x4 x5 x6 x7 x8;go_loopw [9] (λj W=>∃n:Nat,n<=X.us.length/\j=int i64 (n:Nat)/\(∀x∈X.us.take n,x.task=0/\x.load=0/\∀k,ks[x.kind.toNat]? =some k->k.n1=0)/\W=w2) (λj _=>X.us.length-(intOf j).toNat)
 case atStart=>exact⟨0,Nat.zero_le _,rfl,by simp,rfl⟩
 case round=>
 obtain⟨n,hn,rfl,hall,rfl⟩:=hrel;have AL:Hid (∀x∈X.us.take n,x.task=0/\x.load=0/\∀k,ks[x.kind.toNat]? =some k->k.n1=0):=hall;clear hall;obtain⟨x0,x1,x2,x3,x4,x5,x6,x7,x8⟩:=X2.out;by_cases hne:n=X.us.length
 case neg=>
  have hnl:n<X.us.length:=by omega
  have QX:(n:Int)<(X.us.length:Int):=by omega
  obtain⟨u,hu⟩:∃u,X.us[n]? =some u:=⟨_,List.getElem?_eq_getElem hnl⟩;obtain⟨k,F⟩:=(bC WF.out).fine hu;have TK:Hid (X.us.take (n+1)=X.us.take n++[u]):=by unfold Hid;rw[List.take_add_one,hu];rfl
  obtain⟨ua,uq,ue,-,-,AZ⟩:=US.out.below B2.out;injection ue with ue1 ue2 ue3
  subst ue1 ue3;obtain⟨yu,rfl,-,AZ⟩:=AZ (by rintro h;rw[h] at hu;simp at hu);obtain⟨c0,c1,c2,c3,c4,c5,c6,c7⟩:=AZ n u hu;obtain⟨kn,hkn⟩:∃kn:Nat,u.kind=(kn:Nat):=⟨u.kind.toNat,by have:=F.k0;omega⟩;have UY:ks[kn]? =some k:=by have:=F.kk;rw[hkn,Int.toNat_natCast] at this;exact this
  have knl:(kn:Int)<(ks.length:Int):=by have:=F.k0;omega
  have HK:Hid (ks[u.kind.toNat]? =some k):=F.kk;have ld:=F.load.1;obtain⟨ka,kq,ke,-,-,A_⟩:=K.out.1.below B2.out;injection ke with ke1 ke2 ke3
  subst ke1 ke3;obtain⟨yk,rfl,-,A_⟩:=A_ (by rintro h;rw[h] at UY;simp at UY);obtain⟨e0,e1,e2,e3,e4,e5,e6,e7,e8,e9,e10⟩:=A_ kn k UY;rw[hkn] at c2;have kf:Hid (0<=k.n1):=by
   have h9:=(bC WF.out).kinds;unfold Kd.aH at h9;split at h9
   ·omega
   ·have h2:=gX h9 k.k (List.mem_map.2 ⟨k,List.mem_of_getElem? UY,rfl⟩)
    unfold Kd.dw at h2;split at h2
    ·omega
    ·rename_i h3
     rw[Bool.not_eq_true,List.any_eq_false] at h3;have:=h3 k.n1 (by simp[KV.k]);simp only[decide_eq_true_eq] at this;unfold Hid;omega
  clear F AZ A_ hu UY ue2 ke2;by_cases h1:u.task=0
  case neg=>
   have h1b:(u.task==0)=false:=beq_eq_false_iff_ne.2 h1;go_wp2;go_ret;exact⟨rfl,B2.out⟩
  have h1b:(u.task==0)=true:=beq_iff_eq.2 h1;by_cases h2:0<u.load
  case pos=>
   go_wp2;go_ret;exact⟨rfl,B2.out⟩
  by_cases h3:0<k.n1
  case pos=>
   go_wp2;go_ret;exact⟨rfl,B2.out⟩
  have AN:Hid (∀x∈X.us.take (n+1),x.task=0/\x.load=0/\∀k,ks[x.kind.toNat]? =some k->k.n1=0):=by
   intro x hx;rw[TK.out] at hx;rcases List.mem_append.1 hx with hx|hx
   ·exact AL.out x hx
   ·simp at hx
    subst hx;refine⟨h1,by omega,λk' hk'=>?_⟩;rw[HK.out] at hk';injection hk' with hk'
    subst hk';have:=kf.out;omega
  go_wp2;go_roundw
  case rel=>exact⟨n+1,by omega,by go_num,AN.out,by first|rfl|trivial⟩
  case measure=>simp[intOf];omega
 have QU:Hid (Quiet ks X):=⟨WF.out,QN.out,λx hx=>AL.out x (by rw[hne,List.take_length];exact hx)⟩;have hnn:¬(n:Int)<(X.us.length:Int):=by omega
 clear AL;obtain⟨w3,hmk,hol,hbl⟩:=Rq mn wr (by have:=TT.out;omega);have B3:Hid (Below w.heap.size w w3):=B2.out.trans (hbl.mono B2.out.size);have X3:Hid (Bw w3 w.heap.size X (slice p1 X.gs.length q1) (slice p2 X.os.length q2) (slice p3 X.gold.length q3) (slice p4 X.us.length q4) (slice p5 X.qs.length q5)):=X2.out.below hbl X2.out.lt;have OL:Hid (Fb w3 (slice (some ⟨wr.heap.size,0,none⟩) mn mn) (List.replicate mn [])):=hol;clear hol hbl;go_upto_region 13 with fail
 clear hmk x0 x1 x2 x3 x4 x5 x6 x7 x8;obtain⟨x0,x1,x2,x3,x4,x5,x6,x7,x8⟩:=X3.out;go_wp2_with fail
 refine(vW _ _ _ ks X (List.replicate mn []) w3 (K.out.1.below B3.out) K.out.2 (H.out.below B3.out) OL.out (Vh.out.below B3.out)).mono ?_;rintro e w5 ⟨v,r,F,rfl,hr,hs,hb⟩;obtain⟨rfl,hwo,hwf⟩:=zA QU.out TT.out.2 TT.out.1 hs hr;have B5:Hid (Below w.heap.size w w5):=B3.out.trans (hb.mono B3.out.size);have X5:Hid (Bw w5 w.heap.size X (slice p1 X.gs.length q1) (slice p2 X.os.length q2) (slice p3 X.gold.length q3) (slice p4 X.us.length q4) (slice p5 X.qs.length q5)):=X3.out.below hb X3.out.lt;clear hr hs hb x0 x1 x2 x3 x4 x5 x6 x7 x8 X3 B3 OL X2 B2;obtain⟨T,hT⟩:∃T,X.turn+(mn:Int)=T:=⟨_,rfl⟩;rw[hT] at hwo hwf;have WT:Hid (Wd.aF ks {X with turn:=T}=0):=hwf;have LT0:=hwo.l;obtain⟨s1,l1,s2,l2,s3,l3,s4,l4,s5,l5,hv⟩:=bD hwo.l;subst hv;have LT:Hid (Wl w5 (.agg #[int i64 T,int i64 X.next,int i64 X.wide,int i64 X.high,slice s1 X.gs.length l1,slice s2 X.os.length l2,slice s3 X.gold.length l3,slice s4 X.us.length l4,slice s5 X.qs.length l5]) {X with turn:=T}):=LT0;clear hwo hwf LT0 hT;go_upto_region 14 with fail
 obtain⟨zt,U_⟩:∃z,w5.heap.size=z:=⟨_,rfl⟩;have BA:Hid (Below w5.heap.size w5 (w5.alloc (Obj.cells #[int i64 T,int i64 X.next,int i64 X.wide,int i64 X.high,slice s1 X.gs.length l1,slice s2 X.os.length l2,slice s3 X.gold.length l3,slice s4 X.us.length l4,slice s5 X.qs.length l5] 29))):=(Below.refl _ _).alloc (Nat.le_refl _) _;have YX:Hid (Wx (w5.alloc (Obj.cells #[int i64 T,int i64 X.next,int i64 X.wide,int i64 X.high,slice s1 X.gs.length l1,slice s2 X.os.length l2,slice s3 X.gold.length l3,slice s4 X.us.length l4,slice s5 X.qs.length l5] 29)) zt (int i64 T) (int i64 X.next) (int i64 X.wide) (int i64 X.high) (slice s1 X.gs.length l1) (slice s2 X.os.length l2) (slice s3 X.gold.length l3) (slice s4 X.us.length l4) (slice s5 X.qs.length l5)):=Wx.new _ _ _ _ _ _ _ _ _ U_;have B6:Hid (Below w.heap.size w (w5.alloc (Obj.cells #[int i64 T,int i64 X.next,int i64 X.wide,int i64 X.high,slice s1 X.gs.length l1,slice s2 X.os.length l2,slice s3 X.gold.length l3,slice s4 X.us.length l4,slice s5 X.qs.length l5] 29))):=B5.out.trans (BA.out.mono B5.out.size);have X6:Hid (Bw (w5.alloc (Obj.cells #[int i64 T,int i64 X.next,int i64 X.wide,int i64 X.high,slice s1 X.gs.length l1,slice s2 X.os.length l2,slice s3 X.gold.length l3,slice s4 X.us.length l4,slice s5 X.qs.length l5] 29)) w.heap.size X (slice p1 X.gs.length q1) (slice p2 X.os.length q2) (slice p3 X.gold.length q3) (slice p4 X.us.length q4) (slice p5 X.qs.length q5)):=X5.out.below BA.out X5.out.lt;have ZL:Hid (w5.heap.size=zt/\w.heap.size<zt):=⟨U_,by rw[<-U_];exact X5.out.lt⟩;rw[U_];generalize w5.alloc (Obj.cells #[int i64 T,int i64 X.next,int i64 X.wide,int i64 X.high,slice s1 X.gs.length l1,slice s2 X.os.length l2,slice s3 X.gold.length l3,slice s4 X.us.length l4,slice s5 X.qs.length l5] 29)=w6 at *;clear U_ X5 B5;obtain⟨x0,x1,x2,x3,x4,x5,x6,x7,x8⟩:=X6.out;go_wp2_with fail
 refine(qm _ _ ks X w6 (K.out.1.below B6.out) K.out.2 (H.out.below B6.out)).mono ?_;rintro e w7 ⟨ra,ua,rfl,hb,hs⟩;obtain⟨hro,hu⟩:Ro w7 ra (Sc.points ks X)/\Er ua 0:=by
  rcases hs with⟨h,-⟩|⟨-,h⟩
  ·exact absurd WF.out h
  ·exact h
 obtain rfl:=One.ez hu;have PA:Hid (Ro w7 ra (Sc.points ks X)):=hro;have B7:Hid (Below w.heap.size w w7):=B6.out.trans (hb.mono B6.out.size);have X7:Hid (Bw w7 w.heap.size X (slice p1 X.gs.length q1) (slice p2 X.os.length q2) (slice p3 X.gold.length q3) (slice p4 X.us.length q4) (slice p5 X.qs.length q5)):=X6.out.below hb X6.out.lt;have YX7:Hid (Wx w7 zt (int i64 T) (int i64 X.next) (int i64 X.wide) (int i64 X.high) (slice s1 X.gs.length l1) (slice s2 X.os.length l2) (slice s3 X.gold.length l3) (slice s4 X.us.length l4) (slice s5 X.qs.length l5)):=YX.out.below hb YX.out.lt;have D7:Hid (Below w5.heap.size w5 w7):=BA.out.trans (hb.mono BA.out.size);clear hs hu hro hb x0 x1 x2 x3 x4 x5 x6 x7 x8 X6 B6 YX BA;obtain⟨x0,x1,x2,x3,x4,x5,x6,x7,x8⟩:=YX7.out.cells;go_wp2_with fail
 refine(qm _ _ ks {X with turn:=T} w7 (K.out.1.below B7.out) K.out.2 (LT.out.below D7.out)).mono ?_;rintro e w8 ⟨rb,ub,rfl,hb,hs⟩;obtain⟨hro,hu⟩:Ro w8 rb (Sc.points ks X)/\Er ub 0:=by
  rcases hs with⟨h,-⟩|⟨-,h⟩
  ·exact absurd WT.out h
  ·exact h
 obtain rfl:=One.ez hu;have PB:Hid (Ro w8 ra (Sc.points ks X)/\Ro w8 rb (Sc.points ks X)):=⟨PA.out.below hb,hro⟩;have B8:Hid (Below w.heap.size w w8):=B7.out.trans (hb.mono B7.out.size);have X8:Hid (Bw w8 w.heap.size X (slice p1 X.gs.length q1) (slice p2 X.os.length q2) (slice p3 X.gold.length q3) (slice p4 X.us.length q4) (slice p5 X.qs.length q5)):=X7.out.below hb X7.out.lt;have YX8:Hid (Wx w8 zt (int i64 T) (int i64 X.next) (int i64 X.wide) (int i64 X.high) (slice s1 X.gs.length l1) (slice s2 X.os.length l2) (slice s3 X.gold.length l3) (slice s4 X.us.length l4) (slice s5 X.qs.length l5)):=YX7.out.below hb YX7.out.lt;have D8:Hid (Below w5.heap.size w5 w8):=D7.out.trans (hb.mono D7.out.size);clear hs hu hro hb x0 x1 x2 x3 x4 x5 x6 x7 x8 X7 B7 YX7 D7 PA;go_wp2_with fail
 refine(lW _ _ _ _ w8 PB.out.1 PB.out.2).mono ?_;rintro e w9 ⟨rfl,qn,hq9⟩;have hb:Below w8.heap.size w8 w9:=by rw[hq9];exact⟨rfl,rfl,rfl,Nat.le_refl _,λ_ _=>rfl⟩
 have B9:Hid (Below w.heap.size w w9):=B8.out.trans (hb.mono B8.out.size);have X9:Hid (Bw w9 w.heap.size X (slice p1 X.gs.length q1) (slice p2 X.os.length q2) (slice p3 X.gold.length q3) (slice p4 X.us.length q4) (slice p5 X.qs.length q5)):=X8.out.below hb X8.out.lt;have YX9:Hid (Wx w9 zt (int i64 T) (int i64 X.next) (int i64 X.wide) (int i64 X.high) (slice s1 X.gs.length l1) (slice s2 X.os.length l2) (slice s3 X.gold.length l3) (slice s4 X.us.length l4) (slice s5 X.qs.length l5)):=YX8.out.below hb YX8.out.lt;have D9:Hid (Below w5.heap.size w5 w9):=D8.out.trans (hb.mono D8.out.size);have dt:decide (Sc.points ks X=Sc.points ks X)=true:=decide_eq_true rfl;rw[dt];clear hb hq9 X8 B8 YX8 D8 PB dt;obtain⟨x0,x1,x2,x3,x4,x5,x6,x7,x8⟩:=X9.out;obtain⟨y0,y1,y2,y3,y4,y5,y6,y7,y8⟩:=YX9.out.cells;obtain⟨t0,t1,t2,t3,t4,t5,t6,t7,t8⟩:=YX9.out.bG;have KW:Hid (Kp zt w9 (w9.setCell ⟨zt,0,none⟩ (int i64 X.turn))):=Kp.set _ _ _;have YS:Hid (Wx (w9.setCell ⟨zt,0,none⟩ (int i64 X.turn)) zt (int i64 X.turn) (int i64 X.next) (int i64 X.wide) (int i64 X.high) (slice s1 X.gs.length l1) (slice s2 X.os.length l2) (slice s3 X.gold.length l3) (slice s4 X.us.length l4) (slice s5 X.qs.length l5)):=YX9.out.set0 _;have XS9:Hid (Bw (w9.setCell ⟨zt,0,none⟩ (int i64 X.turn)) w.heap.size X (slice p1 X.gs.length q1) (slice p2 X.os.length q2) (slice p3 X.gold.length q3) (slice p4 X.us.length q4) (slice p5 X.qs.length q5)):=X9.out.kp9 KW.out (by have:=ZL.out;omega);have BS:Hid (Below w.heap.size w (w9.setCell ⟨zt,0,none⟩ (int i64 X.turn))):=KW.out.below B9.out B9.out.size (by have:=ZL.out;omega);have DS:Hid (Below w5.heap.size w5 (w9.setCell ⟨zt,0,none⟩ (int i64 X.turn))):=KW.out.below D9.out D9.out.size (by have:=ZL.out;omega);go_upto_region 18 with fail
 clear x0 x1 x2 x3 x4 x5 x6 x7 x8 y0 y1 y2 y3 y4 y5 y6 y7 y8 t0 t1 t2 t3 t4 t5 t6 t7 t8 X9 B9 YX9 D9 KW;generalize w9.setCell ⟨zt,0,none⟩ (int i64 X.turn)=w10 at *;have LX:Hid (Wl w10 (.agg #[int i64 X.turn,int i64 X.next,int i64 X.wide,int i64 X.high,slice s1 X.gs.length l1,slice s2 X.os.length l2,slice s3 X.gold.length l3,slice s4 X.us.length l4,slice s5 X.qs.length l5]) X):=by
  obtain⟨a1,a2,a3,a4,a5,e,r1,r2,r3,r4,r5⟩:=LT.out.below DS.out;injection e with e
  simp at e;obtain⟨rfl,rfl,rfl,rfl,rfl⟩:=e;exact⟨_,_,_,_,_,rfl,r1,r2,r3,r4,r5⟩
 obtain⟨x0,x1,x2,x3,x4,x5,x6,x7,x8⟩:=XS9.out;obtain⟨y0,y1,y2,y3,y4,y5,y6,y7,y8⟩:=YS.out.cells;go_wp2_with fail
 refine(wG _ _ X w10 LX.out (H.out.below BS.out)).mono ?_;rintro e w11 ⟨rfl,hb⟩;have B11:Hid (Below w.heap.size w w11):=BS.out.trans (hb.mono BS.out.size);clear hb x0 x1 x2 x3 x4 x5 x6 x7 x8 y0 y1 y2 y3 y4 y5 y6 y7 y8;go_wp2;go_ret;exact⟨rfl,B11.out⟩
end Go.Proofs.YtjpappkgdadhhaaGreatDoor.topQuiet
namespace Go.Proofs.YtjpappkgdadhhaaGreatDoor
open Go.Value (int slice)
open Go.IntKind (i64)
open Go.ChangeShapes Go.WideShapes Go.ChangeAt Go.RowKit
theorem Bc:Tryz.prog.globalNamed "marchland/field.sides" =some 1:=by kernel_rfl
theorem Ou:(Tryz.prog.globals[1]?).map (·.type)=some 182:=by kernel_rfl
theorem Bd:Tryz.prog.cellsOf 181=2:=by kernel_rfl
theorem Rw:Tryz.prog.cellsOf 3=1:=by kernel_rfl
theorem len2{α:Type}{l:List α}(h:l.length=2):∃a b,l=[a,b]:=by
 match l,h with
 |[a,b],_=>exact⟨a,b,rfl⟩
theorem Xt{α:Type}{l:List α}(h:l.length=4):∃a b c d,l=[a,b,c,d]:=by
 match l,h with
 |[a,b,c,d],_=>exact⟨a,b,c,d,rfl⟩
theorem jw{w:World}{fuel:Nat}{cs:List Value}{a b:Int}{y:DataW Unit×List MemPlace}(h:DataW.trod (λ_=>()) Tryz.prog w 0 (λ_=>true) false fuel 181 cs=some y)(hy:y.1=.agg [.lit (.int .i64 a),.lit (.int .i64 b)]):cs=[int i64 a,int i64 b]:=by
 obtain⟨y0,y1,n,hx,hl,h0,h1⟩:=trod_struct2 Tryz.underlying181 h;obtain⟨p,e0,f0,-⟩:=DataW.trod_int Tryz.underlying3 h0;obtain⟨q,e1,f1,-⟩:=DataW.trod_int Tryz.underlying3 h1;rw[hx,f0,f1] at hy;simp only[DataW.agg.injEq,List.cons.injEq,DataW.lit.injEq,Lit.int.injEq,true_and,and_true] at hy;obtain⟨rfl,rfl⟩:=hy;dsimp only at e0 e1;rw[Rw] at e0 e1;rw[Bd] at hl;obtain⟨c0,c1,rfl⟩:=len2 hl;simp at e0 e1;rw[e0,e1]
theorem zL{w:World}(h:laidMet Tryz.prog [("marchland/field.sides",Rows.laid_marchland_field_sides)] w):Sd w:=by
 obtain⟨ps,⟨g,t,cs,fuel,p,q,h1,h2,h3,h4,-,-⟩,-,-⟩:=h;obtain rfl:=Option.some.inj (Bc.symm.trans h1);obtain rfl:=Option.some.inj (Ou.symm.trans h2);obtain⟨xs,m,-,hx,hl,hn,hi⟩:=DataW.trod_array Tryz.underlying182 h4;have hd:xs.map (·.1)=[.agg [.lit (.int .i64 0),.lit (.int .i64 (-1))],.agg [.lit (.int .i64 (-1)),.lit (.int .i64 0)],.agg [.lit (.int .i64 1),.lit (.int .i64 0)],.agg [.lit (.int .i64 0),.lit (.int .i64 1)]]:=by
  have e:Rows.laid_marchland_field_sides=DataW.agg (xs.map (·.1)):=congrArg Prod.fst hx;unfold Rows.laid_marchland_field_sides at e;injection e with e
  exact e.symm
 obtain⟨x0,x1,x2,x3,rfl⟩:=Xt hn;simp only[List.map_cons,List.map_nil,List.cons.injEq,and_true] at hd;obtain⟨d0,d1,d2,d3⟩:=hd;have i0:=jw (hi 0 (by decide)) d0;have i1:=jw (hi 1 (by decide)) d1;have i2:=jw (hi 2 (by decide)) d2;have i3:=jw (hi 3 (by decide)) d3;rw[Bd] at i0 i1 i2 i3;have ec:∀k:Nat,w.cell? ⟨1,k,none⟩=cs.toList[k]? :=λk=>by
  have e:=World.var?_cell Bc h3 k;rw[e,Array.getElem?_toList]
 have g0:∀k a b,(cs.toList.drop (k*2)).take 2=[int i64 a,int i64 b]->cs.toList[k*2]? =some (int i64 a)/\cs.toList[k*2+1]? =some (int i64 b):=by
  intro k a b e;constructor
  ·have:=congrArg (λl=>l[0]?) e
   simpa[List.getElem?_take,List.getElem?_drop] using this
  ·have:=congrArg (λl=>l[1]?) e
   simpa[List.getElem?_take,List.getElem?_drop] using this
 have j0:=g0 0 _ _ i0;have j1:=g0 1 _ _ i1;have j2:=g0 2 _ _ i2;have j3:=g0 3 _ _ i3;exact⟨(ec 0).trans j0.1,(ec 1).trans j0.2,(ec 2).trans j1.1,(ec 3).trans j1.2,(ec 4).trans j2.1,(ec 5).trans j2.2,(ec 6).trans j3.1,(ec 7).trans j3.2⟩
end Go.Proofs.YtjpappkgdadhhaaGreatDoor
