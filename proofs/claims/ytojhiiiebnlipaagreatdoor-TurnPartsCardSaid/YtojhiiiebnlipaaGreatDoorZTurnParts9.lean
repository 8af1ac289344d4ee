/- turn.Play. And more. -/
import Derived.Test.YtojhiiiebnlipaaGreatDoorZTurnParts8
import Derived.Deep.SlicePairs
import Derived.OpenShut
set_option linter.unusedVariables false
set_option maxHeartbeats 64000000
set_option maxRecDepth 100000
namespace Go.Proofs.YtojhiiiebnlipaaGreatDoor
open Go.Value (int slice)
open Go.IntKind (i64)
open Go.RowKit Go.Proofs.YtojhiiiebnlipaaGreatDoor.So
inductive bT (ks:List KV) (X:WV) (ls:List (List aV)):Nat->WV->Prop
 |zero:bT ks X ls 0 X
 |turn {n:Nat} {Y Z:WV} {l:List aV} {es:List b_}:bT ks X ls n Y->ls[n]? =some l->bH ks Y l=0->vM ks Y l Z es->bT ks X ls (n+1) Z
def jS(ks:List KV)(X:WV)(ls:List (List aV))(F:Int)(w w':World)(v:Value):Prop:=
 (F≠0/\v=.agg #[int i64 0,int i64 0,int i64 0,int i64 0,slice none 0 0,slice none 0 0,slice none 0 0,slice none 0 0,slice none 0 0]/\((Wd.aG ks X≠0/\F=Wd.aG ks X)\/(Wd.aG ks X=0/\200<ls.length/\F=4)\/(Wd.aG ks X=0/\ls.length<=200/\∃n Y l,bT ks X ls n Y/\ls[n]? =some l/\bH ks Y l=F)))
 \/(F=0/\Wd.aG ks X=0/\ls.length<=200/\∃Y,bT ks X ls ls.length Y/\Wo w' w.heap.size v Y)
theorem dN(vk vw vl:Value)(ks:List KV)(X:WV)(ls:List (List aV))(w:World)(hk:Kl w vk ks)(hb:∀k∈ks,k.b.size<=9223372036854775807)(hw:Wl w vw X)(hl:mW w vl ls)(hs:Sd w):
 Calls Tryz.prog 20 #[vk,vw,vl] w λe w'=>∃v r F,e=.returned (.tuple #[v,r])/\Er r F/\jS ks X ls F w w' v/\Below w.heap.size w w':=by
 have K:Hid (Kl w vk ks/\∀k∈ks,k.b.size<=9223372036854775807):=⟨hk,hb⟩;have H:=aj (hw);have SD:Hid (Sd w/\mW w vl ls):=⟨hs,hl⟩;obtain⟨pl,ql,rfl,cl1,cl2,-⟩:=hl;clear hs;obtain⟨p1,q1,p2,q2,p3,q3,p4,q4,p5,q5,rfl⟩:=aN hw;obtain⟨pk,qk,rfl,ck1,ck2,kc⟩:=hk;clear hb hw kc;go_enter Tryz.func20,Tryz.ntmps20;go_upto_region 1 with fail
 have B0:Hid (Below w.heap.size w ((w.alloc (Obj.cells #[int i64 X.turn,int i64 X.next,int i64 X.wide,int i64 X.high,slice p1 X.gs.length q1,slice p2 X.os.length q2,slice p3 X.gold.length q3,slice p4 X.us.length q4,slice p5 X.qs.length q5] 29)).alloc (Obj.cells #[int i64 0,int i64 0,int i64 0,int i64 0,slice none 0 0,slice none 0 0,slice none 0 0,slice none 0 0,slice none 0 0] 29))):=((Below.refl _ _).alloc (Nat.le_refl _) _).alloc (by simp) _;have X0:Hid (Wx ((w.alloc (Obj.cells #[int i64 X.turn,int i64 X.next,int i64 X.wide,int i64 X.high,slice p1 X.gs.length q1,slice p2 X.os.length q2,slice p3 X.gold.length q3,slice p4 X.us.length q4,slice p5 X.qs.length q5] 29)).alloc (Obj.cells #[int i64 0,int i64 0,int i64 0,int i64 0,slice none 0 0,slice none 0 0,slice none 0 0,slice none 0 0,slice none 0 0] 29)) (w.heap.size) (int i64 X.turn) (int i64 X.next) (int i64 X.wide) (int i64 X.high) (slice p1 X.gs.length q1) (slice p2 X.os.length q2) (slice p3 X.gold.length q3) (slice p4 X.us.length q4) (slice p5 X.qs.length q5)):=(Wx.new (int i64 X.turn) (int i64 X.next) (int i64 X.wide) (int i64 X.high) (slice p1 X.gs.length q1) (slice p2 X.os.length q2) (slice p3 X.gold.length q3) (slice p4 X.us.length q4) (slice p5 X.qs.length q5) rfl).below ((Below.refl _ _).alloc (Nat.le_refl _) _) (by simp);have Z0:Hid (Wx ((w.alloc (Obj.cells #[int i64 X.turn,int i64 X.next,int i64 X.wide,int i64 X.high,slice p1 X.gs.length q1,slice p2 X.os.length q2,slice p3 X.gold.length q3,slice p4 X.us.length q4,slice p5 X.qs.length q5] 29)).alloc (Obj.cells #[int i64 0,int i64 0,int i64 0,int i64 0,slice none 0 0,slice none 0 0,slice none 0 0,slice none 0 0,slice none 0 0] 29)) (w.heap.size+1) (int i64 0) (int i64 0) (int i64 0) (int i64 0) (slice none 0 0) (slice none 0 0) (slice none 0 0) (slice none 0 0) (slice none 0 0)):=Wx.new (int i64 0) (int i64 0) (int i64 0) (int i64 0) (slice none 0 0) (slice none 0 0) (slice none 0 0) (slice none 0 0) (slice none 0 0) (by simp);generalize ((w.alloc _).alloc _)=w0 at *;obtain⟨x0,x1,x2,x3,x4,x5,x6,x7,x8⟩:=X0.out.cells;go_wp2_with fail
 refine(fF _ _ ks X w0 (K.out.1.below B0.out) K.out.2 (H.out.below B0.out)).mono ?_;rintro e w1 ⟨r,rfl,hr,hb⟩;obtain⟨fw,hfw⟩:∃f,Wd.aG ks X=f:=⟨_,rfl⟩;have FW:=aj (hfw);rw[hfw] at hr;have B1:=aj (B0.out.trans (hb.mono B0.out.size));have X1:=aj (X0.out.below hb X0.out.lt);have Z1:=aj (Z0.out.below hb Z0.out.lt);clear hb hfw x0 x1 x2 x3 x4 x5 x6 x7 x8 X0 B0 Z0;rcases hr with⟨rfl,rfl⟩|⟨hf,rfl⟩
 case inr=>
  have HF:=aj (hf);clear hf;obtain⟨z0,z1,z2,z3,z4,z5,z6,z7,z8⟩:=Z1.out.cells;obtain⟨t0,t1,t2,t3,t4,t5,t6,t7,t8⟩:=Z1.out.aT;have KZ:Hid (Kp _ w1 (((((((((w1.setCell _ (int i64 0)).setCell _ (int i64 0)).setCell _ (int i64 0)).setCell _ (int i64 0)).setCell _ (slice none 0 0)).setCell _ (slice none 0 0)).setCell _ (slice none 0 0)).setCell _ (slice none 0 0)).setCell ⟨w.heap.size+1,8,none⟩ (slice none 0 0))):=aK _ _ _ _ _ _ _ _ _ _ _;obtain⟨y0,y1,y2,y3,y4,y5,y6,y7,y8⟩:=(Z1.out.put (int i64 0) (int i64 0) (int i64 0) (int i64 0) (slice none 0 0) (slice none 0 0) (slice none 0 0) (slice none 0 0) (slice none 0 0)).cells;go_wp2;clear z0 z1 z2 z3 z4 z5 z6 z7 z8 t0 t1 t2 t3 t4 t5 t6 t7 t8;generalize (((((((((w1.setCell _ _).setCell _ _).setCell _ _).setCell _ _).setCell _ _).setCell _ _).setCell _ _).setCell _ _).setCell _ _)=w9 at *;refine bodyPost_ret (by simp[results,Tryz.results20,go_sem,y0,y1,y2,y3,y4,y5,y6,y7,y8]) rfl ⟨_,_,fw,rfl,Er.no HF.out,.inl ⟨HF.out,rfl,.inl ⟨by rw[FW.out];exact HF.out,FW.out.symm⟩⟩,KZ.out.below B1.out B1.out.size (by omega)⟩
 have WR:=aj (dw FW.out);obtain⟨x0,x1,x2,x3,x4,x5,x6,x7,x8⟩:=X1.out.cells;by_cases hln:200<ls.length
 case pos=>
  have VG:(200:Int)<(ls.length:Int):=by omega
  have Oj:=aj (hln);clear hln;obtain⟨z0,z1,z2,z3,z4,z5,z6,z7,z8⟩:=Z1.out.cells;obtain⟨t0,t1,t2,t3,t4,t5,t6,t7,t8⟩:=Z1.out.aT;have KZ:Hid (Kp _ w1 (((((((((w1.setCell _ (int i64 0)).setCell _ (int i64 0)).setCell _ (int i64 0)).setCell _ (int i64 0)).setCell _ (slice none 0 0)).setCell _ (slice none 0 0)).setCell _ (slice none 0 0)).setCell _ (slice none 0 0)).setCell ⟨w.heap.size+1,8,none⟩ (slice none 0 0))):=aK _ _ _ _ _ _ _ _ _ _ _;obtain⟨y0,y1,y2,y3,y4,y5,y6,y7,y8⟩:=(Z1.out.put (int i64 0) (int i64 0) (int i64 0) (int i64 0) (slice none 0 0) (slice none 0 0) (slice none 0 0) (slice none 0 0) (slice none 0 0)).cells;go_wp2;clear z0 z1 z2 z3 z4 z5 z6 z7 z8 t0 t1 t2 t3 t4 t5 t6 t7 t8;generalize (((((((((w1.setCell _ _).setCell _ _).setCell _ _).setCell _ _).setCell _ _).setCell _ _).setCell _ _).setCell _ _).setCell _ _)=wz at *;refine bodyPost_ret (by simp[results,Tryz.results20,go_sem,y0,y1,y2,y3,y4,y5,y6,y7,y8]) rfl ⟨_,_,4,rfl,Er.no (by decide),.inl ⟨by decide,rfl,.inr (.inl ⟨FW.out,Oj.out,rfl⟩)⟩,KZ.out.below B1.out B1.out.size (by omega)⟩
 have Oj:Hid (ls.length<=200):=by unfold Hid;omega
 have VG:¬(200:Int)<(ls.length:Int):=by omega
 clear hln;go_wp2_with fail
 refine(ig _ X w1 (H.out.below B1.out) WR.out.len).mono ?_;rintro e w2 ⟨cu,rfl,⟨k1,k2,k3,k4,k5,rfl,⟨o1,o2,o3,o4,o5⟩,-⟩,hb⟩;obtain⟨a1,r1,rfl⟩:=o1.len;obtain⟨a2,r2,rfl⟩:=o2.len;obtain⟨a3,r3,rfl⟩:=o3.len;obtain⟨a4,r4,rfl⟩:=o4.len;obtain⟨a5,r5,rfl⟩:=o5.len;have B2:=aj (B1.out.trans (hb.mono B1.out.size));have X2:=aj (X1.out.below hb X1.out.lt);have Z2:=aj (Z1.out.below hb Z1.out.lt);have S1:Hid (w.heap.size+2<=w1.heap.size):=Z1.out.lt;have OA:Hid (Ow w2 (w.heap.size+2) (slice a1 X.gs.length r1) X.gs/\Ow w2 (w.heap.size+2) (slice a2 X.os.length r2) X.os/\Ow w2 (w.heap.size+2) (slice a3 X.gold.length r3) X.gold/\bZ w2 (w.heap.size+2) (slice a4 X.us.length r4) X.us/\bM w2 (w.heap.size+2) (slice a5 X.qs.length r5) X.qs):=⟨o1.mono S1.out,o2.mono S1.out,o3.mono S1.out,o4.mono S1.out,o5.mono S1.out⟩;clear hb x0 x1 x2 x3 x4 x5 x6 x7 x8 X1 B1 Z1 o1 o2 o3 o4 o5;obtain⟨c0,c1,c2,c3,c4,c5,c6,c7,c8⟩:=X2.out.cells;obtain⟨d0,d1,d2,d3,d4,d5,d6,d7,d8⟩:=X2.out.aT;have KB:Hid (Kp _ w2 (((((((((w2.setCell _ (int i64 X.turn)).setCell _ (int i64 X.next)).setCell _ (int i64 X.wide)).setCell _ (int i64 X.high)).setCell _ (slice a1 X.gs.length r1)).setCell _ (slice a2 X.os.length r2)).setCell _ (slice a3 X.gold.length r3)).setCell _ (slice a4 X.us.length r4)).setCell ⟨w.heap.size,8,none⟩ (slice a5 X.qs.length r5))):=aK _ _ _ _ _ _ _ _ _ _ _;have XB:=aj (X2.out.put (int i64 X.turn) (int i64 X.next) (int i64 X.wide) (int i64 X.high) (slice a1 X.gs.length r1) (slice a2 X.os.length r2) (slice a3 X.gold.length r3) (slice a4 X.us.length r4) (slice a5 X.qs.length r5));go_upto_region 7 with fail
 clear c0 c1 c2 c3 c4 c5 c6 c7 c8 d0 d1 d2 d3 d4 d5 d6 d7 d8;generalize (((((((((w2.setCell _ _).setCell _ _).setCell _ _).setCell _ _).setCell _ _).setCell _ _).setCell _ _).setCell _ _).setCell _ _)=w5 at *;have B5:=aj (KB.out.below B2.out B2.out.size (Nat.le_refl _));have Z5:=aj (Z2.out.kp KB.out (by omega));obtain⟨be,hbe⟩:∃b,w5.heap.size=b:=⟨_,rfl⟩;have SZ:Hid (w5.heap.size=be/\w.heap.size+2<=be):=⟨hbe,by rw[<-hbe];exact Z5.out.lt⟩;have T5:Hid (yD X [] w.heap.size (w.heap.size+2) be w5 (slice a1 X.gs.length r1) (slice a2 X.os.length r2) (slice a3 X.gold.length r3) (slice a4 X.us.length r4) (slice a5 X.qs.length r5) (slice none 0 0) w5):=⟨XB.out,OA.out.1.kp KB.out (by omega),OA.out.2.1.kp KB.out (by omega),OA.out.2.2.1.kp KB.out (by omega),OA.out.2.2.2.1.kp KB.out (by omega),OA.out.2.2.2.2.kp KB.out (by omega),dL.nil _ _,Fr.below (Below.refl _ _),⟨by omega,SZ.out.2,hbe⟩⟩;clear hbe KB X2 B2 Z2 OA XB;go_wp2_with fail
 go_loopw [30] (λj V=>∃n:Nat,n<=ls.length/\j=int i64 (n:Nat)/\∃Y,bT ks X ls n Y/\∃u1 u2 u3 u4 u5,yD Y [] w.heap.size (w.heap.size+2) be w5 u1 u2 u3 u4 u5 (slice none 0 0) V) (λj _=>ls.length-(intOf j).toNat)
 case atStart=>exact⟨0,Nat.zero_le _,rfl,X,.zero,_,_,_,_,_,T5.out⟩
 case round=>
 obtain⟨n,hn,rfl,Y,hp,u1,u2,u3,u4,u5,hT⟩:=hrel;have PR:=aj (hp);have TQ:=aj (hT);clear hp hT;have ZW:=aj (TQ.out.f.wx Z5.out (by omega));have BW:=aj (B5.out.trans (TQ.out.f.low B5.out.size (λk hk=>by omega)));have SW:Hid (w.heap.size+2<=wr.heap.size):=ZW.out.lt;obtain⟨g1,l1,rfl⟩:=TQ.out.o1.len;obtain⟨g2,l2,rfl⟩:=TQ.out.o2.len;obtain⟨g3,l3,rfl⟩:=TQ.out.o3.len;obtain⟨g4,l4,rfl⟩:=TQ.out.o4.len;obtain⟨g5,l5,rfl⟩:=TQ.out.o5.len;by_cases hne:n=ls.length
 case pos=>
  have PE:Hid (bT ks X ls ls.length Y):=by rw[<-hne];exact PR.out
  subst hne;obtain⟨x0,x1,x2,x3,x4,x5,x6,x7,x8⟩:=TQ.out.x.cells;obtain⟨z0,z1,z2,z3,z4,z5,z6,z7,z8⟩:=ZW.out.cells;obtain⟨t0,t1,t2,t3,t4,t5,t6,t7,t8⟩:=ZW.out.aT;have KZ:Hid (Kp _ wr (((((((((wr.setCell _ (int i64 Y.turn)).setCell _ (int i64 Y.next)).setCell _ (int i64 Y.wide)).setCell _ (int i64 Y.high)).setCell _ (slice g1 Y.gs.length l1)).setCell _ (slice g2 Y.os.length l2)).setCell _ (slice g3 Y.gold.length l3)).setCell _ (slice g4 Y.us.length l4)).setCell ⟨w.heap.size+1,8,none⟩ (slice g5 Y.qs.length l5))):=aK _ _ _ _ _ _ _ _ _ _ _;obtain⟨y0,y1,y2,y3,y4,y5,y6,y7,y8⟩:=(ZW.out.put (int i64 Y.turn) (int i64 Y.next) (int i64 Y.wide) (int i64 Y.high) (slice g1 Y.gs.length l1) (slice g2 Y.os.length l2) (slice g3 Y.gold.length l3) (slice g4 Y.us.length l4) (slice g5 Y.qs.length l5)).cells;go_wp2;clear x0 x1 x2 x3 x4 x5 x6 x7 x8 z0 z1 z2 z3 z4 z5 z6 z7 z8 t0 t1 t2 t3 t4 t5 t6 t7 t8;generalize (((((((((wr.setCell _ _).setCell _ _).setCell _ _).setCell _ _).setCell _ _).setCell _ _).setCell _ _).setCell _ _).setCell _ _)=wt at *;refine bodyPost_ret (v:=.tuple #[.agg #[int i64 Y.turn,int i64 Y.next,int i64 Y.wide,int i64 Y.high,slice g1 Y.gs.length l1,slice g2 Y.os.length l2,slice g3 Y.gold.length l3,slice g4 Y.us.length l4,slice g5 Y.qs.length l5],.nilIface]) (by simp[results,Tryz.results20,go_sem,y0,y1,y2,y3,y4,y5,y6,y7,y8]) rfl ⟨_,_,0,rfl,Er.nil,.inr ⟨rfl,FW.out,Oj.out,Y,PE.out,?_⟩,KZ.out.below BW.out BW.out.size (by omega)⟩;exact⟨_,_,_,_,_,rfl,(TQ.out.o1.kp KZ.out (by omega)).mono (by omega),(TQ.out.o2.kp KZ.out (by omega)).mono (by omega),(TQ.out.o3.kp KZ.out (by omega)).mono (by omega),(TQ.out.o4.kp KZ.out (by omega)).mono (by omega),(TQ.out.o5.kp KZ.out (by omega)).mono (by omega)⟩
 case neg=>
 have hnl:n<ls.length:=by omega
 have Yv:(n:Int)<(ls.length:Int):=by omega
 have hl2:=Oj.out;obtain⟨l,hl⟩:∃l,ls[n]? =some l:=⟨_,List.getElem?_eq_getElem hnl⟩;have HL:=aj (hl);obtain⟨a',c',e',-,-,hy⟩:=SD.out.2.below BW.out;injection e' with e1 e2 e3
 subst e1 e3;obtain⟨xl,rfl,-,hy⟩:=hy (by rintro hn;rw[hn] at hnl;simp at hnl);obtain⟨vo,cv,Xb⟩:=hy n l hl;have VO:=aj (Xb);clear hy hl e2 Xb;obtain⟨x0,x1,x2,x3,x4,x5,x6,x7,x8⟩:=TQ.out.x.cells;go_wp2_with fail
 clear cv x0 x1 x2 x3 x4 x5 x6 x7 x8;refine(qh _ _ vo ks Y l wr (K.out.1.below BW.out) K.out.2 TQ.out.wl VO.out (SD.out.1.below BW.out)).mono ?_;rintro e w7 ⟨v,ev2,r,rfl,hr,hd,hb⟩;have T7:=aj (TQ.out.below hb);have B7:=aj (BW.out.trans (hb.mono BW.out.size));have Z7:=aj (ZW.out.below hb ZW.out.lt);clear hb;obtain⟨sf,hsf⟩:∃f,bH ks Y l=f:=⟨_,rfl⟩;have SF:=aj (hsf);rw[hsf] at hr;clear hsf;rcases hr with⟨rfl,rfl⟩|⟨hf,rfl⟩
 case inr=>
  have HF:=aj (hf);rcases hd with⟨-,rfl,rfl⟩|⟨h,-⟩
  case inr=>rw[SF.out] at h;exact absurd h hf
  clear hf;have BN:Hid (Below _ w7 (w7.alloc (Obj.cells #[int i64 0,int i64 0,int i64 0,int i64 0,slice none 0 0,slice none 0 0,slice none 0 0,slice none 0 0,slice none 0 0] 29))):=(Below.refl _ _).alloc (Nat.le_refl _) _;go_upto_region 12 with fail
  generalize w7.alloc _=w8 at *;have B8:=aj (B7.out.trans (BN.out.mono B7.out.size));have Z8:=aj (Z7.out.below BN.out Z7.out.lt);obtain⟨z0,z1,z2,z3,z4,z5,z6,z7,z8⟩:=Z8.out.cells;obtain⟨t0,t1,t2,t3,t4,t5,t6,t7,t8⟩:=Z8.out.aT;have KZ:Hid (Kp _ w8 (((((((((w8.setCell _ (int i64 0)).setCell _ (int i64 0)).setCell _ (int i64 0)).setCell _ (int i64 0)).setCell _ (slice none 0 0)).setCell _ (slice none 0 0)).setCell _ (slice none 0 0)).setCell _ (slice none 0 0)).setCell ⟨w.heap.size+1,8,none⟩ (slice none 0 0))):=aK _ _ _ _ _ _ _ _ _ _ _;obtain⟨y0,y1,y2,y3,y4,y5,y6,y7,y8⟩:=(Z8.out.put (int i64 0) (int i64 0) (int i64 0) (int i64 0) (slice none 0 0) (slice none 0 0) (slice none 0 0) (slice none 0 0) (slice none 0 0)).cells;go_wp2;clear z0 z1 z2 z3 z4 z5 z6 z7 z8 t0 t1 t2 t3 t4 t5 t6 t7 t8;generalize (((((((((w8.setCell _ _).setCell _ _).setCell _ _).setCell _ _).setCell _ _).setCell _ _).setCell _ _).setCell _ _).setCell _ _)=wz at *;refine bodyPost_ret (by simp[results,Tryz.results20,go_sem,y0,y1,y2,y3,y4,y5,y6,y7,y8]) rfl ⟨_,_,sf,rfl,Er.no HF.out,.inl ⟨HF.out,rfl,.inr (.inr ⟨FW.out,Oj.out,n,Y,l,PR.out,HL.out,SF.out⟩)⟩,KZ.out.below B8.out B8.out.size (by omega)⟩
 rcases hd with⟨h,-⟩|⟨-,Z,es,hsr,ho,-⟩
 case inl=>exact absurd SF.out h
 have PN:Hid (bT ks X ls (n+1) Z):=.turn PR.out HL.out SF.out hsr;obtain⟨v1,v2,v3,v4,v5,rfl,o1,o2,o3,o4,o5⟩:=ho;obtain⟨m1,k1,rfl⟩:=o1.len;obtain⟨m2,k2,rfl⟩:=o2.len;obtain⟨m3,k3,rfl⟩:=o3.len;obtain⟨m4,k4,rfl⟩:=o4.len;obtain⟨m5,k5,rfl⟩:=o5.len;have OZ:Hid (Ow w7 (w.heap.size+2) (slice m1 Z.gs.length k1) Z.gs/\Ow w7 (w.heap.size+2) (slice m2 Z.os.length k2) Z.os/\Ow w7 (w.heap.size+2) (slice m3 Z.gold.length k3) Z.gold/\bZ w7 (w.heap.size+2) (slice m4 Z.us.length k4) Z.us/\bM w7 (w.heap.size+2) (slice m5 Z.qs.length k5) Z.qs):=⟨o1.mono SW.out,o2.mono SW.out,o3.mono SW.out,o4.mono SW.out,o5.mono SW.out⟩;clear o1 o2 o3 o4 o5 hsr;obtain⟨bn,hbn⟩:∃b,w7.heap.size=b:=⟨_,rfl⟩;have BN:Hid (Below _ w7 (w7.alloc (Obj.cells #[int i64 Z.turn,int i64 Z.next,int i64 Z.wide,int i64 Z.high,slice m1 Z.gs.length k1,slice m2 Z.os.length k2,slice m3 Z.gold.length k3,slice m4 Z.us.length k4,slice m5 Z.qs.length k5] 29))):=(Below.refl _ _).alloc (Nat.le_refl _) _;have XN:=aj (Wx.new (w:=w7) (int i64 Z.turn) (int i64 Z.next) (int i64 Z.wide) (int i64 Z.high) (slice m1 Z.gs.length k1) (slice m2 Z.os.length k2) (slice m3 Z.gold.length k3) (slice m4 Z.us.length k4) (slice m5 Z.qs.length k5) hbn);go_upto_region 13 with fail
 (try rw[hbn])
 clear hbn;generalize w7.alloc _=w8 at *;have T8:=aj (T7.out.below BN.out);have O8:Hid (Ow w8 (w.heap.size+2) (slice m1 Z.gs.length k1) Z.gs/\Ow w8 (w.heap.size+2) (slice m2 Z.os.length k2) Z.os/\Ow w8 (w.heap.size+2) (slice m3 Z.gold.length k3) Z.gold/\bZ w8 (w.heap.size+2) (slice m4 Z.us.length k4) Z.us/\bM w8 (w.heap.size+2) (slice m5 Z.qs.length k5) Z.qs):=⟨OZ.out.1.below BN.out,OZ.out.2.1.below BN.out,OZ.out.2.2.1.below BN.out,OZ.out.2.2.2.1.below BN.out,OZ.out.2.2.2.2.below BN.out⟩;obtain⟨x0,x1,x2,x3,x4,x5,x6,x7,x8⟩:=XN.out.cells;obtain⟨z0,z1,z2,z3,z4,z5,z6,z7,z8⟩:=T8.out.x.cells;obtain⟨t0,t1,t2,t3,t4,t5,t6,t7,t8⟩:=T8.out.x.aT;have KZ:Hid (Kp _ w8 (((((((((w8.setCell _ (int i64 Z.turn)).setCell _ (int i64 Z.next)).setCell _ (int i64 Z.wide)).setCell _ (int i64 Z.high)).setCell _ (slice m1 Z.gs.length k1)).setCell _ (slice m2 Z.os.length k2)).setCell _ (slice m3 Z.gold.length k3)).setCell _ (slice m4 Z.us.length k4)).setCell ⟨w.heap.size,8,none⟩ (slice m5 Z.qs.length k5))):=aK _ _ _ _ _ _ _ _ _ _ _;have XZ:=aj (T8.out.x.put (int i64 Z.turn) (int i64 Z.next) (int i64 Z.wide) (int i64 Z.high) (slice m1 Z.gs.length k1) (slice m2 Z.os.length k2) (slice m3 Z.gold.length k3) (slice m4 Z.us.length k4) (slice m5 Z.qs.length k5));go_upto_region 14 with fail
 clear x0 x1 x2 x3 x4 x5 x6 x7 x8 z0 z1 z2 z3 z4 z5 z6 z7 z8 t0 t1 t2 t3 t4 t5 t6 t7 t8;generalize (((((((((w8.setCell _ _).setCell _ _).setCell _ _).setCell _ _).setCell _ _).setCell _ _).setCell _ _).setCell _ _).setCell _ _)=w9 at *;have T9:=aj (T8.out.puts KZ.out XZ.out O8.out.1 O8.out.2.1 O8.out.2.2.1 O8.out.2.2.2.1 O8.out.2.2.2.2);go_wp2;go_round
 case rel=>exact⟨n+1,by omega,by go_num,Z,PN.out,_,_,_,_,_,T9.out⟩
 case measure=>simp[intOf];omega
end Go.Proofs.YtojhiiiebnlipaaGreatDoor
namespace Go.Proofs.YtojhiiiebnlipaaGreatDoor
open Go.Value (int slice)
open Go.IntKind (i64)
open Wy
theorem DJ{l:List Int}{n:Nat}{p:Int->Bool}{c F c' F':Int}(h:jg l n p c F)(h':jg l n p c' F'):c=c'/\F=F':=by
 have no:∀{m k:Nat} {c:Int},(rch l m n)[k]? =some c->p c=true->(rch l m n).any p=false->False:=λhk hp ha=>by
  rw[List.any_eq_false] at ha;exact ha _ (List.mem_of_getElem? hk) hp
 rcases h with⟨e1,e2,h⟩|⟨e1,m,k,hm,hk,hp,ht,hj⟩
 ·rcases h' with⟨f1,f2,h'⟩|⟨f1,m',k',hm',hk',hp',ht',hj'⟩
  ·exact⟨by rw[e2,f2],by rw[e1,f1]⟩
  ·exact(no hk' hp' (h m' hm')).elim
 ·rcases h' with⟨f1,f2,h'⟩|⟨f1,m',k',hm',hk',hp',ht',hj'⟩
  ·exact(no hk hp (h' m hm)).elim
  ·have em:m=m':=by
    rcases Nat.lt_trichotomy m m' with hl|hl|hl
    ·exact(no hk hp (hj' m hl)).elim
    ·exact hl
    ·exact(no hk' hp' (hj m' hl)).elim
   subst em;have ek:k=k':=by
    rcases Nat.lt_trichotomy k k' with hl|hl|hl
    ·rw[List.any_eq_false] at ht'
     exact(ht' c (List.mem_of_getElem? (by rw[List.getElem?_take,if_pos hl];exact hk)) hp).elim
    ·exact hl
    ·rw[List.any_eq_false] at ht
     exact(ht c' (List.mem_of_getElem? (by rw[List.getElem?_take,if_pos hl];exact hk')) hp').elim
   subst ek;rw[hk] at hk';injection hk' with e
   exact⟨e,by rw[e1,f1]⟩
theorem qj{p:aB->Bool}{us:List aB}{i:Nat}(h:jq p us (i:Nat)):∃x,us[i]? =some x/\p x=true/\(us.take i).any p=false:=by
 rcases h with⟨e,-⟩|⟨k,x,e,h1,h2,h3⟩
 ·omega
 ·obtain rfl:i=k:=by omega
  exact⟨x,h1,h2,h3⟩
theorem DT{p:aB->Bool}{us:List aB}{i j:Nat}(h:jq p us (i:Nat))(k:jq p us (j:Nat)):i=j:=by
 obtain⟨x,x1,x2,x3⟩:=qj h;obtain⟨y,y1,y2,y3⟩:=qj k;rcases Nat.lt_trichotomy i j with hl|hl|hl
 ·rw[List.any_eq_false] at y3
  exact(y3 x (List.mem_of_getElem? (by rw[List.getElem?_take,if_pos hl];exact x1)) x2).elim
 ·exact hl
 ·rw[List.any_eq_false] at x3
  exact(x3 y (List.mem_of_getElem? (by rw[List.getElem?_take,if_pos hl];exact y1)) y2).elim
theorem rF{ks:List KV}{X:WV}{unit kind c F c' F':Int}(h:jO ks X unit kind c F)(h':jO ks X unit kind c' F'):c=c'/\F=F':=by
 have last:∀{c F:Int},(∃(i kn Wn Hn an:Nat) (u:aB) (k:KV) (l:List Int),jq (λu=>u.id==unit) X.us (i:Nat)/\X.us[i]? =some u/\kind=(kn:Nat)/\ks[kn]? =some k/\X.wide=(Wn:Nat)/\X.high=(Hn:Nat)/\Fd.Good Wn Hn X.gs X.os/\u.at_=(an:Nat)/\an<Wn*Hn
  /\Wy.bJ (Fd.near Wn Hn) (λi _=>(X.gs.map λg=>Fd.onto g k.f).getD i 0) an (Wn*Hn) l/\jg l (Wn*Hn) (sH X.us) c F)->X.us.any (λu=>u.id==unit)=true/\(0<=kind/\kind<(ks.length:Int)):=by
  rintro c F ⟨i,kn,Wn,Hn,an,u,k,l,h1,h2,h3,h4,-⟩;obtain⟨x,x1,x2,-⟩:=qj h1;refine⟨List.any_eq_true.2 ⟨x,List.mem_of_getElem? x1,x2⟩,by omega,?_⟩;have:=(List.getElem?_eq_some_iff.1 h4).1;omega
 rcases h with⟨a1,a2,a3⟩|⟨a1,a2,a3,a4⟩|⟨a1,a2,a3,a4,a5⟩|⟨a1,a⟩
 ·rcases h' with⟨b1,b2,b3⟩|⟨b1,-⟩|⟨b1,-⟩|⟨b1,-⟩
  ·exact⟨by rw[a3,b3],by rw[a2,b2]⟩
  all_goals exact absurd b1 a1
 ·rcases h' with⟨b1,b2,b3⟩|⟨b1,b2,b3,b4⟩|⟨b1,b2,b3,b4,b5⟩|⟨b1,b⟩
  ·exact absurd a1 b1
  ·exact⟨by rw[a4,b4],by rw[a3,b3]⟩
  ·rw[a2] at b2;cases b2
  ·have:=(last b).1;rw[a2] at this;cases this
 ·rcases h' with⟨b1,b2,b3⟩|⟨b1,b2,b3,b4⟩|⟨b1,b2,b3,b4,b5⟩|⟨b1,b⟩
  ·exact absurd a1 b1
  ·rw[a2] at b2;cases b2
  ·exact⟨by rw[a5,b5],by rw[a4,b4]⟩
  ·exact absurd (last b).2 a3
 ·rcases h' with⟨b1,b2,b3⟩|⟨b1,b2,b3,b4⟩|⟨b1,b2,b3,b4,b5⟩|⟨b1,b⟩
  ·exact absurd a1 b1
  ·have:=(last a).1;rw[b2] at this;cases this
  ·exact absurd (last a).2 b3
  ·obtain⟨i,kn,Wn,Hn,an,u,k,l,h1,h2,h3,h4,h5,h6,-,h8,-,h10,h11⟩:=a
   obtain⟨i',Yw,VH,VI,VJ,u',k',l',g1,g2,g3,g4,g5,g6,-,g8,-,g10,g11⟩:=b;obtain rfl:=DT h1 g1;rw[h2] at g2;injection g2 with e
   subst e;obtain rfl:kn=Yw:=by omega
   rw[h4] at g4;injection g4 with e
   subst e;obtain rfl:Wn=VH:=by omega
   obtain rfl:Hn=VI:=by omega
   obtain rfl:an=VJ:=by omega
   obtain rfl:=Wy.bJ.uniq h10 g10;exact DJ h11 g11
theorem DV{ks:List KV}{Y:WV}{j:aW}{c c':Int}(h:Comes ks Y j c)(h':Comes ks Y j c'):c=c':=(rF h.1 h'.1).1
theorem rG{ks:List KV}{Y:WV}{j:aW}{c:Int}(h:Comes ks Y j c)(h':kT ks Y j):False:=by
 obtain⟨c',F,h1,h2⟩:=h';obtain⟨rfl,rfl⟩:=rF h.1 h1;rcases h2 with h2|h2
 ·exact h2 rfl
 ·exact h2 h.2
theorem Ns{ks:List KV}{X:WV}{q:Nat}{Y:WV}{es:List b_}{qs:List aW}(t:Tr ks X q Y es qs):∀{Y':WV} {es':List b_} {Dl:List aW},Tr ks X q Y' es' Dl->Y=Y'/\es=es'/\qs=Dl:=by
 induction t with
 |zero=>intro Y' es' Dl t';cases t';exact⟨rfl,rfl,rfl⟩
 | @wait q Y es qs j t0 ho hl ih=>
  intro Y' es' Dl t';cases t' with
  |wait t1 ho1 hl1=>
   rw[ho] at ho1;injection ho1 with e;subst e
   obtain⟨rfl,rfl,rfl⟩:=ih t1;exact⟨rfl,rfl,rfl⟩
  |come t1 ho1 hl1 _=>rw[ho] at ho1;injection ho1 with e;subst e;exact absurd hl1 hl
  |stay t1 ho1 hl1 _=>rw[ho] at ho1;injection ho1 with e;subst e;exact absurd hl1 hl
 | @come q Y es qs j c t0 ho hl hc ih=>
  intro Y' es' Dl t';cases t' with
  |wait t1 ho1 hl1=>rw[ho] at ho1;injection ho1 with e;subst e;exact absurd hl hl1
  |come t1 ho1 hl1 hc1=>
   rw[ho] at ho1;injection ho1 with e;subst e
   obtain⟨rfl,rfl,rfl⟩:=ih t1;obtain rfl:=DV hc hc1;exact⟨rfl,rfl,rfl⟩
  |stay t1 ho1 hl1 hn=>
   rw[ho] at ho1;injection ho1 with e;subst e
   obtain⟨rfl,rfl,rfl⟩:=ih t1;exact(rG hc hn).elim
 | @stay q Y es qs j t0 ho hl hn ih=>
  intro Y' es' Dl t';cases t' with
  |wait t1 ho1 hl1=>rw[ho] at ho1;injection ho1 with e;subst e;exact absurd hl hl1
  |come t1 ho1 hl1 hc1=>
   rw[ho] at ho1;injection ho1 with e;subst e
   obtain⟨rfl,rfl,rfl⟩:=ih t1;exact(rG hc1 hn).elim
  |stay t1 ho1 hl1 _=>
   rw[ho] at ho1;injection ho1 with e;subst e
   obtain⟨rfl,rfl,rfl⟩:=ih t1;exact⟨rfl,rfl,rfl⟩
open Go.RowKit
theorem qm{ks:List KV}{X:WV}{Wn Hn:Nat}{k:KV}{i:Nat}{us us':List aB}{left:Int}{cells:List Int}(h:Goes ks X Wn Hn k i us left cells us'):∃(u:aB) (c:Nat) (gg:Int),us[i]? =some u/\fK ks {X with us:=us} Wn Hn u k c/\X.gs[c]? =some gg/\
 (((left<Fd.onto gg k.f\/us.any (λo=>o.at_==(c:Int))=true)/\cells=[]/\us'=us)\/(¬left<Fd.onto gg k.f/\us.any (λo=>o.at_==(c:Int))=false/\∃cells',cells=(c:Int)::cells'/\Goes ks X Wn Hn k i (us.set i {u with at_:=(c:Nat)}) (left-Fd.onto gg k.f) cells' us')):=by
 cases h with
 |stop hu hw hg h=>exact⟨_,_,_,hu,hw,hg,.inl ⟨h,rfl,rfl⟩⟩
 |step hu hw hg h1 h2 h3=>exact⟨_,_,_,hu,hw,hg,.inr ⟨h1,h2,_,rfl,h3⟩⟩
theorem nH{ks:List KV}{X:WV}{Wn Hn n:Nat}{us us':List aB}{evs:List b_}(h:Moves ks X Wn Hn n us evs us'):(n=us.length/\evs=[]/\us'=us)\/∃(u u1:aB) (k:KV) (cells:List Int) (us1:List aB) (nK:List b_),us[n]? =some u/\ks[u.kind.toNat]? =some k/\Goes ks X Wn Hn k n us k.n4 cells us1/\us1[n]? =some u1/\Moves ks X Wn Hn (n+1) (us1.set n (ends u1)) nK us'/\evs=cells.map (λc=>(⟨1,u.id,c⟩:b_))++nK:=by
 cases h with
 |done h=>exact .inl ⟨h,rfl,rfl⟩
 |unit hu hk hg h1 hm=>exact .inr ⟨_,_,_,_,_,_,hu,hk,hg,h1,hm,rfl⟩
theorem Jt{ks:List KV}{X:WV}{Wn Hn:Nat}{u:aB}{k:KV}{c c':Int}(h:iQ ks X Wn Hn u k c)(h':iQ ks X Wn Hn u k c'):c=c':=by
 rcases h with⟨h1,h2⟩|⟨h1,h2,h3⟩|⟨h1,h2,l,h3,h4⟩
 ·rcases h' with⟨g1,g2⟩|⟨g1,-⟩|⟨g1,-⟩
  ·rw[h2,g2]
  ·exact absurd h1 g1
  ·omega
 ·rcases h' with⟨g1,g2⟩|⟨g1,g2,g3⟩|⟨g1,g2,-⟩
  ·exact absurd g1 h1
  ·rw[h3,g3]
  ·exact absurd ⟨g1,g2⟩ h2
 ·rcases h' with⟨g1,g2⟩|⟨g1,g2,g3⟩|⟨g1,g2,l',g3,g4⟩
  ·omega
  ·exact absurd ⟨h1,h2⟩ g2
  ·have:l=l':=h3.1.uniq g3.1
   subst this;rw[h4,g4]
theorem rH{ks:List KV}{X:WV}{Wn Hn:Nat}{u:aB}{k:KV}{c c':Nat}(h:fK ks X Wn Hn u k c)(h':fK ks X Wn Hn u k c'):c=c':=by
 obtain⟨an,bn,l,h1,h2,-,h3,h4⟩:=h;obtain⟨VJ,Yx,l',g1,g2,-,g3,g4⟩:=h';obtain rfl:an=VJ:=by omega
 obtain rfl:bn=Yx:=by have:=Jt h2 g2;omega
 have:l=l':=h3.1.uniq g3.1;subst this;rcases h4 with⟨h4,h5⟩|⟨h4,h5⟩
 ·rcases g4 with⟨g4,g5⟩|⟨g4,-⟩
  ·rw[h5,g5]
  ·omega
 ·rcases g4 with⟨g4,-⟩|⟨-,g5⟩
  ·omega
  ·exact h5.uniq g5
theorem DW{ks:List KV}{X:WV}{Wn Hn:Nat}{k:KV}{i:Nat}{us us':List aB}{left:Int}{cells:List Int}(h:Goes ks X Wn Hn k i us left cells us'):∀{cells2:List Int} {us2:List aB},Goes ks X Wn Hn k i us left cells2 us2->cells=cells2/\us'=us2:=by
 induction h with
 |stop hu hw hg h=>
  intro cells2 us2 h';obtain⟨u',c',Wv,hu',hw',hg',hh⟩:=qm h';rw[hu] at hu';injection hu' with hu'
  subst hu';obtain rfl:=rH hw hw';rw[hg] at hg';injection hg' with hg'
  subst hg';rcases hh with⟨-,h1,h2⟩|⟨h1,h2,-⟩
  ·exact⟨h1.symm,h2.symm⟩
  ·rcases h with h|h
   ·exact absurd h h1
   ·rw[h] at h2;cases h2
 |step hu hw hg h1 h2 h3 ih=>
  intro cells2 us2 h';obtain⟨u',c',Wv,hu',hw',hg',hh⟩:=qm h';rw[hu] at hu';injection hu' with hu'
  subst hu';obtain rfl:=rH hw hw';rw[hg] at hg';injection hg' with hg'
  subst hg';rcases hh with⟨g1,-⟩|⟨-,-,cells',g1,g2⟩
  ·rcases g1 with g1|g1
   ·exact absurd g1 h1
   ·rw[h2] at g1;cases g1
  ·obtain⟨e1,e2⟩:=ih g2
   exact⟨by rw[g1,e1],e2⟩
theorem yN{ks:List KV}{X:WV}{Wn Hn n:Nat}{us us':List aB}{evs:List b_}(h:Moves ks X Wn Hn n us evs us'):∀{qF:List b_} {us2:List aB},Moves ks X Wn Hn n us qF us2->evs=qF/\us'=us2:=by
 induction h with
 |done h=>
  intro qF us2 h';rcases nH h' with⟨-,h1,h2⟩|⟨u,u1,k,cells,us1,nK,hu,-⟩
  ·exact⟨h1.symm,h2.symm⟩
  ·have:=(List.getElem?_eq_some_iff.1 hu).1
   omega
 |unit hu hk hg h1 hm ih=>
  intro qF us2 h';rcases nH h' with⟨h2,-⟩|⟨u',u1',k',cells',us1',nK,hu',hk',hg',h1',hm',he⟩
  ·have:=(List.getElem?_eq_some_iff.1 hu).1
   omega
  ·rw[hu] at hu'
   injection hu' with hu'
   subst hu';rw[hk] at hk';injection hk' with hk'
   subst hk';obtain⟨e1,e2⟩:=DW hg hg';subst e1;subst e2;rw[h1] at h1';injection h1' with h1'
   subst h1';obtain⟨e3,e4⟩:=ih hm';exact⟨by rw[he,e3],e4⟩
end Go.Proofs.YtojhiiiebnlipaaGreatDoor
namespace Go.Proofs.YtojhiiiebnlipaaGreatDoor
open Go.Value (int slice)
open Go.IntKind (i64)
open Go.RowKit Go.Proofs.YtojhiiiebnlipaaGreatDoor.So
theorem Nu{ks:List KV}{Wn Hn:Nat}{A:WV}{n:Nat}{Y:WV}{es:List b_}(p:Ph ks Wn Hn A n Y es):∀{Y':WV} {es':List b_},Ph ks Wn Hn A n Y' es'->Y=Y'/\es=es':=by
 induction p with
 |zero=>intro Y' es' q;cases q;exact⟨rfl,rfl⟩
 |one t=>
  intro Y' es' q;cases q with
  |one t'=>obtain⟨rfl,rfl,rfl⟩:=Ns t t';exact⟨rfl,rfl⟩
 |two p0 m ih=>
  intro Y' es' q;cases q with
  |two q0 m'=>
   obtain⟨rfl,rfl⟩:=ih q0;obtain⟨rfl,rfl⟩:=yN m m';exact⟨rfl,rfl⟩
 |three p0 ih=>
  intro Y' es' q;cases q with
  |three q0=>obtain⟨rfl,rfl⟩:=ih q0;exact⟨rfl,rfl⟩
 |four p0 ih=>
  intro Y' es' q;cases q with
  |four q0=>obtain⟨rfl,rfl⟩:=ih q0;exact⟨rfl,rfl⟩
theorem DX{ks:List KV}{X:WV}{l:List aV}{Y Y':WV}{es es':List b_}(h:vM ks X l Y es)(h':vM ks X l Y' es'):Y=Y'/\es=es':=by
 obtain⟨out,Wn,Hn,Z,a1,a2,a3,a4,rfl⟩:=h;obtain⟨out',VH,VI,Z',b1,b2,b3,b4,rfl⟩:=h';obtain rfl:=a1.one b1;obtain rfl:Wn=VH:=by omega
 obtain rfl:Hn=VI:=by omega
 obtain⟨rfl,rfl⟩:=Nu a4 b4;exact⟨rfl,rfl⟩
theorem jo{ks:List KV}{X:WV}{ls:List (List aV)}{n:Nat}{Y:WV}(h:bT ks X ls n Y):∀{Y':WV},bT ks X ls n Y'->Y=Y':=by
 induction h with
 |zero=>intro Y' k;cases k;rfl
 |turn p hl hf hs ih=>
  intro Y' k;cases k with
  |turn p' hl' hf' hs'=>
   obtain rfl:=ih p';rw[hl] at hl';injection hl' with e
   subst e;exact(DX hs hs').1
theorem rJ{ks:List KV}{X:WV}{ls ms:List (List aV)}{n:Nat}{Y:WV}(h:bT ks X ls n Y):(∀i,i<n->ls[i]? =ms[i]?)->bT ks X ms n Y:=by
 induction h with
 |zero=>intro _;exact .zero
 | @turn n Y Z l es p hl hf hs ih=>intro e;exact .turn (ih (λi hi=>e i (by omega))) (by rw[<-e n (by omega)];exact hl) hf hs
theorem rM{ks:List KV}{X A:WV}{ls:List (List aV)}{c m:Nat}{B:WV}(h:bT ks X ls c A)(k:bT ks A (ls.drop c) m B):bT ks X ls (c+m) B:=by
 induction k with
 |zero=>exact h
 | @turn n Y Z l es p hl hf hs ih=>exact .turn ih (by rw[List.getElem?_drop] at hl;exact hl) hf hs
theorem mX{ks:List KV}{X:WV}{ls:List (List aV)}{n:Nat}{Y:WV}(h:bT ks X ls n Y):∀m,m<=n->∃Z,bT ks X ls m Z/\(m<n->∃l,ls[m]? =some l/\bH ks Z l=0):=by
 induction h with
 |zero=>intro m hm;obtain rfl:m=0:=by omega
        exact⟨X,.zero,λh=>absurd h (Nat.lt_irrefl _)⟩
 | @turn n Y Z l es p hl hf hs ih=>
   intro m hm;by_cases e:m=n+1
   ·subst e
    exact⟨Z,.turn p hl hf hs,λh=>absurd h (Nat.lt_irrefl _)⟩
   ·by_cases e2:m=n
    ·subst e2
     exact⟨Y,p,λ_=>⟨l,hl,hf⟩⟩
    ·obtain⟨W,h1,h2⟩:=ih m (by omega)
     exact⟨W,h1,λ_=>h2 (by omega)⟩
theorem yO{ks:List KV}{X:WV}{l:List aV}{Y:WV}{es:List b_}(hf:bH ks X l=0)(h:vM ks X l Y es):Wd.aG ks Y=0/\Y.turn=X.turn+1:=by
 have hw:Wd.aG ks X=0:=by
  by_cases e:Wd.aG ks X=0
  ·exact e
  ·rw[yK e] at hf;exact absurd hf e
 have ht:¬1000000<=X.turn:=λe=>by rw[Js hw e] at hf;cases hf
 have ho:Od.faults l=0:=by rw[yL hw ht] at hf;exact hf
 have R:=dw hw;obtain⟨out,Wn,Hn,Z,a1,a2,a3,a4,rfl⟩:=h;obtain⟨g1,g2,g3⟩:=tH (ks:=ks) (Y:=X) (out:=out) out.length;have AR:=oz R (out:=out) (λo h=>(Od.je ho).2 o (a1.mem h)) out.length;obtain⟨r,-,-,t,-⟩:=a4.keep AR (by rw[g2,a2]) (by rw[g3,a3]);have tx:Z.turn=X.turn:=t.trans g1;refine⟨?_,by show Z.turn+1=_;rw[tx]⟩;obtain⟨W',H',e1,e2,G⟩:=r.good;refine Wd.d_ r.kinds (by show Fd.fault Z.wide Z.high Z.gs Z.os=0;rw[e1,e2];exact Fd.dW G) ?_ r.ul (λi u hu=>?_) r.ql (λj hj=>r.job hj)
 ·have hn:=r.nums
  unfold Wd.bF at hn ⊢;simp only[Bool.or_eq_false_iff] at hn ⊢;refine⟨?_,hn.2⟩;have h1:=hn.1;unfold Wd.off at h1 ⊢;simp at h1 ⊢;omega
 ·obtain⟨k,F⟩:=r.fine hu
  exact⟨k,F.id1,F.id2,F.up,F.p,F.k0,F.kk,F.life,F.load,F.task,F.at_,F.goal,F.opn,F.rest⟩
theorem kX{ks:List KV}{X:WV}{ls:List (List aV)}{n:Nat}{Y:WV}(hw:Wd.aG ks X=0)(h:bT ks X ls n Y):Wd.aG ks Y=0/\Y.turn=X.turn+(n:Int):=by
 induction h with
 |zero=>exact⟨hw,by simp⟩
 |turn p hl hf hs ih=>
  obtain⟨s1,s2⟩:=yO hf hs;exact⟨s1,by rw[s2,ih.2];omega⟩
theorem yP{ks:List KV}{X:WV}(hw:Wd.aG ks X=0)(ht:X.turn<1000000):bH ks X []=0:=by
 rw[yL hw (by omega)];rfl
theorem vX{ks:List KV}{X:WV}{ls:List (List aV)}{Y:WV}(h:bT ks X ls ls.length Y){c:Nat}(hc:c<=ls.length){n:Nat}{Z:WV}{l:List aV}(p:bT ks X (ls.take c) n Z)(hl:(ls.take c)[n]? =some l):bH ks Z l=0:=by
 have hn:n<c:=by
  have:=(List.getElem?_eq_some_iff.1 hl).1;rw[List.length_take] at this;omega
 obtain⟨W,w1,w2⟩:=mX h n (by omega);have p':bT ks X ls n Z:=rJ p (λi hi=>by rw[List.getElem?_take,if_pos (by omega)]);obtain rfl:=jo w1 p';obtain⟨l',e,f⟩:=w2 (by omega);rw[List.getElem?_take,if_pos hn,e] at hl;injection hl with hl
 subst hl;exact f
theorem yQ{ks:List KV}{X A:WV}{ls:List (List aV)}{Y:WV}(h:bT ks X ls ls.length Y){c:Nat}(hc:c<=ls.length)(ha:bT ks X ls c A){n:Nat}{Z:WV}{l:List aV}(p:bT ks A (ls.drop c) n Z)(hl:(ls.drop c)[n]? =some l):bH ks Z l=0:=by
 have hn:c+n<ls.length:=by
  have:=(List.getElem?_eq_some_iff.1 hl).1;rw[List.length_drop] at this;omega
 obtain⟨W,w1,w2⟩:=mX h (c+n) (by omega);obtain rfl:=jo w1 (rM ha p);obtain⟨l',e,f⟩:=w2 hn;rw[List.getElem?_drop,e] at hl;injection hl with hl
 subst hl;exact f
def Wb(V:World)(z:Nat)(Q:WV):Prop:=∃g1 l1 g2 l2 g3 l3 g4 l4 g5 l5,Bw V z Q (slice g1 Q.gs.length l1) (slice g2 Q.os.length l2) (slice g3 Q.gold.length l3) (slice g4 Q.us.length l4) (slice g5 Q.qs.length l5)/\Wl V (.agg #[int i64 Q.turn,int i64 Q.next,int i64 Q.wide,int i64 Q.high,slice g1 Q.gs.length l1,slice g2 Q.os.length l2,slice g3 Q.gold.length l3,slice g4 Q.us.length l4,slice g5 Q.qs.length l5]) Q
theorem Wb.below{W V:World}{z:Nat}{Q:WV}(h:Wb W z Q)(hb:Below W.heap.size W V):Wb V z Q:=by
 obtain⟨g1,l1,g2,l2,g3,l3,g4,l4,g5,l5,h1,h2⟩:=h;exact⟨g1,l1,g2,l2,g3,l3,g4,l4,g5,l5,h1.below hb h1.lt,h2.below hb⟩
theorem Wb.lt{W:World}{z:Nat}{Q:WV}(h:Wb W z Q):z<W.heap.size:=by
 obtain⟨g1,l1,g2,l2,g3,l3,g4,l4,g5,l5,h1,h2⟩:=h;exact h1.lt
theorem lX{r:Value}(h:Er r 0):r=.nilIface:=by
 rcases h with⟨-,h⟩|⟨h,-⟩
 ·exact h
 ·exact absurd rfl h
end Go.Proofs.YtojhiiiebnlipaaGreatDoor
namespace Go.Proofs.YtojhiiiebnlipaaGreatDoor
open Go.Value (int slice)
open Go.IntKind (i64)
open Go.ChangeShapes Go.WideShapes Go.ChangeAt Go.RowKit
theorem DY:∃f0 f1 f2 f3:Field,Tryz.prog.underlying 58=some (.struct #[f0,f1,f2,f3])/\
 f0.offset=0/\f0.type=3/\f1.offset=1/\f1.type=3/\f2.offset=2/\f2.type=3/\f3.offset=3/\f3.type=3:=⟨_,_,_,_,Tryz.underlying58,rfl,rfl,rfl,rfl,rfl,rfl,rfl,rfl⟩
theorem Nv{H:Type}{enc:TypeId×Value->H}{W:World}{base:Nat}{held:Bool}{fuel:Nat}{cs:List Value}{y:DataW H×List MemPlace}(h:DataW.trod enc Tryz.prog W base (λ_=>true) held fuel 58 cs=some y):
 ∃k:aV,cs=[int i64 k.ay,int i64 k.unit,int i64 k.what,int i64 k.arg]/\True:=by
 obtain⟨f0,f1,f2,f3,he,o0,t0,o1,t1,o2,t2,o3,t3⟩:=DY;obtain⟨xs,m,-,-,hlen,hxl,hf⟩:=DataW.trod_struct he h;have qo:Tryz.prog.cellsOf 3=1:=by kernel_rfl
 have tX:Tryz.prog.cellsOf 58=4:=by kernel_rfl
 rw[tX] at hlen
 match cs,hlen with
 |[v0,v1,v2,v3],_=>
  have hx:xs.length=4:=hxl
  match xs,hx with
  |[x0,x1,x2,x3],_=>
   have g0:=hf 0 f0 rfl;rw[o0,t0,qo] at g0;have g1:=hf 1 f1 rfl;rw[o1,t1,qo] at g1;have g2:=hf 2 f2 rfl;rw[o2,t2,qo] at g2;have g3:=hf 3 f3 rfl;rw[o3,t3,qo] at g3;obtain⟨m0,e0,-,-⟩:=DataW.trod_int Tryz.underlying3 g0;obtain⟨m1,e1,-,-⟩:=DataW.trod_int Tryz.underlying3 g1;obtain⟨m2,e2,-,-⟩:=DataW.trod_int Tryz.underlying3 g2;obtain⟨m3,e3,-,-⟩:=DataW.trod_int Tryz.underlying3 g3;simp at e0 e1 e2 e3;subst e0 e1 e2 e3;exact⟨⟨m0,m1,m2,m3⟩,rfl,trivial⟩
theorem Ju{H:Type}{enc:TypeId×Value->H}{W:World}{base:Nat}{held:Bool}{fuel:Nat}{v:Value}{y:DataW H×List MemPlace}(h:DataW.trod enc Tryz.prog W base (λ_=>true) held fuel 30 [v]=some y):
 ∃ks:List aV,wQ W v ks/\∀k∈ks,True:=by
 have tX:Tryz.prog.cellsOf 58=4:=by kernel_rfl
 rcases Go.Deep.open_slice Tryz.underlying30 h with⟨hcs,-⟩|⟨a,len,cap,m,q,D,Pl,hcs,hb,hl,hm,hmm,-,hx⟩
 ·simp at hcs
  subst hcs;exact⟨[],⟨none,0,rfl,Nat.le_refl _,by omega,λh=>absurd rfl h⟩,by simp⟩
 ·simp at hcs
  subst hcs;have hlm:len<=m:=by rw[hmm];simp;exact hl
  have each:∀i,i<len->∃k:aV,kP W (a.add (i*4)) k/\(True):=by
   intro i hi;obtain⟨cs',h1,h2⟩:=hx i (by omega);obtain⟨k,rfl,hk⟩:=Nv h2;rw[tX] at h1;obtain⟨-,-,hcell⟩:=World.cells?_some h1;refine⟨k,?_,hk⟩;generalize a.add (i*4)=y at *;exact⟨hcell 0 (by decide),hcell 1 (by decide),hcell 2 (by decide),hcell 3 (by decide)⟩
  have inh:Inhabited aV:=⟨⟨0,0,0,0⟩⟩;obtain⟨q,hq⟩:=Go.Deep.choose_lt each;refine⟨(List.range len).map q,⟨some a,cap,by simp,by simpa using hl,by unfold maxLen at hm;omega,λhn=>⟨a,rfl,?_,λi k hk=>?_⟩⟩,?_⟩
  ·have h0:0<len:=by
    rcases Nat.eq_zero_or_pos len with h|h
    ·subst h;simp at hn
    ·exact h
   have:=(hq 0 h0).1.lt;rwa[add_block] at this
  ·have hi:i<len:=by
    have:=(List.getElem?_eq_some_iff.1 hk).1;simpa using this
   rw[List.getElem?_map,List.getElem?_range hi] at hk;injection hk with hk
   subst hk;exact(hq i hi).1
  ·intro k hk
   obtain⟨i,hi,rfl⟩:=List.mem_map.1 hk;exact(hq i (List.mem_range.1 hi)).2
theorem DZ{H:Type}{enc:TypeId×Value->H}{W:World}{base:Nat}{held:Bool}{fuel:Nat}{v:Value}{y:DataW H×List MemPlace}(h:DataW.trod enc Tryz.prog W base (λ_=>true) held fuel 49 [v]=some y):
 ∃ls:List (List aV),mW W v ls:=by
 have tX:Tryz.prog.cellsOf 30=1:=by kernel_rfl
 rcases Go.Deep.open_slice Tryz.underlying49 h with⟨hcs,-⟩|⟨a,len,cap,m,q,D,Pl,hcs,hb,hl,hm,hmm,-,hx⟩
 ·simp at hcs
  subst hcs;exact⟨[],⟨none,0,rfl,Nat.le_refl _,by omega,λh=>absurd rfl h⟩⟩
 ·simp at hcs
  subst hcs;have hlm:len<=m:=by rw[hmm];simp;exact hl
  have each:∀i,i<len->∃l:List aV,∃u,W.cell? (a.add i)=some u/\wQ W u l:=by
   intro i hi;obtain⟨cs',h1,h2⟩:=hx i (by omega);rw[tX] at h1;rw[Nat.mul_one] at h1;obtain⟨-,hlen,hcell⟩:=World.cells?_some h1
   match cs',hlen with
   |[u],_=>
    obtain⟨l,hl',-⟩:=Ju h2;exact⟨l,u,hcell 0 (by decide),hl'⟩
  have inh:Inhabited (List aV):=⟨[]⟩;obtain⟨q,hq⟩:=Go.Deep.choose_lt each;refine⟨(List.range len).map q,⟨some a,cap,by simp,by simpa using hl,by unfold maxLen at hm;omega,λhn=>⟨a,rfl,?_,λi k hk=>?_⟩⟩⟩
  ·have h0:0<len:=by
    rcases Nat.eq_zero_or_pos len with h|h
    ·subst h;simp at hn
    ·exact h
   obtain⟨u,h1,-⟩:=hq 0 h0;have:=cell_lt h1;rwa[add_block] at this
  ·have hi:i<len:=by
    have:=(List.getElem?_eq_some_iff.1 hk).1;simpa using this
   rw[List.getElem?_map,List.getElem?_range hi] at hk;injection hk with hk
   subst hk;exact hq i hi
theorem Nw{H:Type}{enc:TypeId×Value->H}{W:World}{base b0:Nat}{held:Bool}{v:Value}{d:DataW H}{p:List MemPlace}(hv:Value.okWide Tryz.prog W .any b0 49 v)(h:DataW.Trod enc Tryz.prog W base (λ_=>true) held 49 v d p):∃ls:List (List aV),mW W v ls:=by
 obtain⟨a,len,cap,rfl⟩:=okWide_slice Tryz.underlying49 hv;obtain⟨fuel,hf⟩:=h;exact DZ hf
theorem mW.take{w:World}{a:Option Addr}{n c:Nat}{ls:List (List aV)}(h:mW w (slice a n c) ls){k:Nat}(hk:k<=ls.length):mW w (slice a k c) (ls.take k):=by
 obtain⟨a',c',e,h2,h3,h4⟩:=h;injection e with e1 e2 e3
 subst e1 e3;have hl:(ls.take k).length=k:=by rw[List.length_take];omega
 refine⟨a,c,by rw[hl],by omega,h3,λhn=>?_⟩;obtain⟨x,ex,hx,hy⟩:=h4 (by rintro rfl;simp at hn);refine⟨x,ex,hx,λi l hi=>hy i l ?_⟩;rw[List.getElem?_take] at hi;split at hi
 ·exact hi
 ·cases hi
theorem mW.sl{w:World}{a:Option Addr}{c n L:Nat}{ls:List (List aV)}(h:mW w (slice a L c) ls)(hn:n<=ls.length):mW w (sliced a n L c 1) (ls.drop n):=by
 obtain⟨a',c',e,h1,h2,h3⟩:=h;injection e with e1 e2 e3
 subst e1 e3 e2;unfold sliced;refine⟨_,_,by rw[List.length_drop],by rw[List.length_drop];omega,by omega,λhne=>?_⟩;have hnl:n<ls.length:=by
  rcases Nat.lt_or_ge n ls.length with h|h
  ·exact h
  ·exact absurd (List.drop_eq_nil_of_le h) hne
 obtain⟨x,rfl,hx1,hx2⟩:=h3 (by rintro rfl;simp at hnl);refine⟨x.add n,?_,by rw[add_block];exact hx1,λi l hk=>?_⟩
 ·simp
  intro hc;omega
 ·rw[List.getElem?_drop] at hk
  obtain⟨u,c1,c2⟩:=hx2 (n+i) l hk;have e:(x.add n).add i=x.add (n+i):=by
   unfold Addr.add;split<;>split<;>split<;>simp_all<;>omega
  rw[e];exact⟨u,c1,c2⟩
end Go.Proofs.YtojhiiiebnlipaaGreatDoor
namespace Go.Proofs.YtojhiiiebnlipaaGreatDoor
open Go.Value (int slice)
open Go.IntKind (i64)
open Go.RowKit
namespace Wd
def bare(wd hg:Int)(gs os:List Int):WV:=⟨0,1,wd,hg,gs,os,[],[],[]⟩
def fA(ks:List KV)(wd hg:Int)(gs os:List Int)(kG gold:Int):Int:=if ground ks (bare wd hg gs os)=0 then(if(1<=kG/\kG<=4)/\0<=gold/\gold<=1000000 then 0 else 1) else ground ks (bare wd hg gs os)
def begun(ks:List KV)(wd hg:Int)(gs os:List Int)(kG gold:Int):WV:=if fA ks wd hg gs os kG gold=0 then⟨0,1,wd,hg,gs,os,List.replicate kG.toNat gold,[],[]⟩ else WV.zero
end Wd
theorem mY{ks:List KV}{wd hg:Int}{gs os:List Int}{kG gold:Int}(h:Wd.fA ks wd hg gs os kG gold≠0):Wd.begun ks wd hg gs os kG gold=WV.zero:=by unfold Wd.begun;rw[if_neg h]
theorem vY{ks:List KV}{wd hg:Int}{gs os:List Int}{kG gold:Int}(h:Wd.fA ks wd hg gs os kG gold=0):Wd.begun ks wd hg gs os kG gold=⟨0,1,wd,hg,gs,os,List.replicate kG.toNat gold,[],[]⟩:=by unfold Wd.begun;rw[if_pos h]
structure Bx(w:World)(z:Nat)(wd hg:Int)(u1 u2:Value):Prop where
 c0:w.cell? ⟨z,0,none⟩=some (int i64 wd)
 c1:w.cell? ⟨z,1,none⟩=some (int i64 hg)
 c2:w.cell? ⟨z,2,none⟩=some u1
 c3:w.cell? ⟨z,3,none⟩=some u2
theorem Bx.lt{w:World}{z:Nat}{wd hg:Int}{u1 u2:Value}(h:Bx w z wd hg u1 u2):z<w.heap.size:=cell_lt h.c0
theorem Bx.below{w w':World}{z n:Nat}{wd hg:Int}{u1 u2:Value}(h:Bx w z wd hg u1 u2)(hb:Below n w w')(hn:z<n):Bx w' z wd hg u1 u2:=
 ⟨by rw[hb.cell (p:=⟨z,0,none⟩) hn];exact h.c0,by rw[hb.cell (p:=⟨z,1,none⟩) hn];exact h.c1,by rw[hb.cell (p:=⟨z,2,none⟩) hn];exact h.c2,by rw[hb.cell (p:=⟨z,3,none⟩) hn];exact h.c3⟩
theorem Bx.mk'{w:World}{z:Nat}(wd hg:Int)(u1 u2:Value)(hz:w.heap.size=z):Bx (w.alloc (.cells #[int i64 wd,int i64 hg,u1,u2] 25)) z wd hg u1 u2:=by
 subst hz;constructor<;>simp
theorem new_any(vk vf:Value)(ks:List KV)(wd hg:Int)(gs os:List Int)(kG gold:Int)(w:World)(hk:Kl w vk ks)(hb:∀k∈ks,k.b.size<=9223372036854775807)(hf:Fl w vf wd hg gs os):
 Calls Tryz.prog 57 #[vk,vf,int i64 kG,int i64 gold] w λe w'=>∃u r,e=.returned (.tuple #[u,r])/\Er r (Wd.fA ks wd hg gs os kG gold)/\Wo w' w.heap.size u (Wd.begun ks wd hg gs os kG gold)/\Below w.heap.size w w':=by
 have K:Hid (Kl w vk ks/\∀k∈ks,k.b.size<=9223372036854775807):=⟨hk,hb⟩;have F:Hid (Fl w vf wd hg gs os):=hf;obtain⟨u1,u2,rfl,r1,r2⟩:=hf;obtain⟨p1,q1,rfl,-⟩:=r1;obtain⟨p2,q2,rfl,-⟩:=r2;clear hb hk;go_enter Tryz.func57,Tryz.ntmps57;go_upto_region 1 with fail
 have B0:Hid (Below w.heap.size w ((w.alloc (.cells #[int i64 wd,int i64 hg,slice p1 gs.length q1,slice p2 os.length q2] 25)).alloc (.cells #[int i64 0,int i64 0,int i64 0,int i64 0,slice none 0 0,slice none 0 0,slice none 0 0,slice none 0 0,slice none 0 0] 29))):=((Below.refl _ _).alloc (Nat.le_refl _) _).alloc (by simp) _;have X0:Hid (Bx ((w.alloc (.cells #[int i64 wd,int i64 hg,slice p1 gs.length q1,slice p2 os.length q2] 25)).alloc (.cells #[int i64 0,int i64 0,int i64 0,int i64 0,slice none 0 0,slice none 0 0,slice none 0 0,slice none 0 0,slice none 0 0] 29)) w.heap.size wd hg (slice p1 gs.length q1) (slice p2 os.length q2)):=(Bx.mk' (w:=w) _ _ _ _ rfl).below ((Below.refl _ _).alloc (Nat.le_refl _) _) (by simp);have Z0:Hid (Wx ((w.alloc (.cells #[int i64 wd,int i64 hg,slice p1 gs.length q1,slice p2 os.length q2] 25)).alloc (.cells #[int i64 0,int i64 0,int i64 0,int i64 0,slice none 0 0,slice none 0 0,slice none 0 0,slice none 0 0,slice none 0 0] 29)) (w.heap.size+1) (int i64 0) (int i64 0) (int i64 0) (int i64 0) (slice none 0 0) (slice none 0 0) (slice none 0 0) (slice none 0 0) (slice none 0 0)):=Wx.new _ _ _ _ _ _ _ _ _ (by simp);have S0:Hid (w.heap.size+2<=((w.alloc (.cells #[int i64 wd,int i64 hg,slice p1 gs.length q1,slice p2 os.length q2] 25)).alloc (.cells #[int i64 0,int i64 0,int i64 0,int i64 0,slice none 0 0,slice none 0 0,slice none 0 0,slice none 0 0,slice none 0 0] 29)).heap.size):=by unfold Hid;simp
 generalize ((w.alloc (.cells #[int i64 wd,int i64 hg,slice p1 gs.length q1,slice p2 os.length q2] 25)).alloc (.cells #[int i64 0,int i64 0,int i64 0,int i64 0,slice none 0 0,slice none 0 0,slice none 0 0,slice none 0 0,slice none 0 0] 29))=w0 at *;obtain⟨x0,x1,x2,x3⟩:=X0.out;go_wp2_with fail
 refine(n_ _ _ ks (Wd.bare wd hg gs os) w0 (K.out.1.below B0.out) K.out.2 (F.out.below B0.out)).mono ?_;rintro e w1 ⟨r,rfl,hr,hb1⟩;clear x0 x1 x2 x3;have B1:Hid (Below w.heap.size w w1):=B0.out.trans (hb1.mono B0.out.size);have X1:Hid (Bx w1 w.heap.size wd hg (slice p1 gs.length q1) (slice p2 os.length q2)):=X0.out.below hb1 X0.out.lt;have Z1:Hid (Wx w1 (w.heap.size+1) (int i64 0) (int i64 0) (int i64 0) (int i64 0) (slice none 0 0) (slice none 0 0) (slice none 0 0) (slice none 0 0) (slice none 0 0)):=Z0.out.below hb1 Z0.out.lt;have S1:Hid (w.heap.size+2<=w1.heap.size):=Nat.le_trans S0.out hb1.size;clear hb1 B0 X0 Z0 S0;rcases hr with⟨hf,rfl⟩|⟨hf,rfl⟩
 case inr=>
  obtain⟨fe,hfe⟩:∃f,Wd.ground ks (Wd.bare wd hg gs os)=f:=⟨_,rfl⟩;have Aj:Hid (fe≠0):=by rw[<-hfe];exact hf
  have FE:Hid (Wd.fA ks wd hg gs os kG gold=fe):=by unfold Hid Wd.fA;rw[if_neg hf];exact hfe
  rw[hfe];clear hf hfe;obtain⟨z0,z1,z2,z3,z4,z5,z6,z7,z8⟩:=Z1.out.cells;obtain⟨t0,t1,t2,t3,t4,t5,t6,t7,t8⟩:=Z1.out.aT;have KZ:Hid (Kp (w.heap.size+1) w1 (((((((((w1.setCell ⟨w.heap.size+1,0,none⟩ (int i64 0)).setCell ⟨w.heap.size+1,1,none⟩ (int i64 0)).setCell ⟨w.heap.size+1,2,none⟩ (int i64 0)).setCell ⟨w.heap.size+1,3,none⟩ (int i64 0)).setCell ⟨w.heap.size+1,4,none⟩ (slice none 0 0)).setCell ⟨w.heap.size+1,5,none⟩ (slice none 0 0)).setCell ⟨w.heap.size+1,6,none⟩ (slice none 0 0)).setCell ⟨w.heap.size+1,7,none⟩ (slice none 0 0)).setCell ⟨w.heap.size+1,8,none⟩ (slice none 0 0))):=aK _ _ _ _ _ _ _ _ _ _ _;obtain⟨y0,y1,y2,y3,y4,y5,y6,y7,y8⟩:=(Z1.out.put (int i64 0) (int i64 0) (int i64 0) (int i64 0) (slice none 0 0) (slice none 0 0) (slice none 0 0) (slice none 0 0) (slice none 0 0)).cells;go_wp2;clear z0 z1 z2 z3 z4 z5 z6 z7 z8 t0 t1 t2 t3 t4 t5 t6 t7 t8;generalize (((((((((w1.setCell ⟨w.heap.size+1,0,none⟩ (int i64 0)).setCell ⟨w.heap.size+1,1,none⟩ (int i64 0)).setCell ⟨w.heap.size+1,2,none⟩ (int i64 0)).setCell ⟨w.heap.size+1,3,none⟩ (int i64 0)).setCell ⟨w.heap.size+1,4,none⟩ (slice none 0 0)).setCell ⟨w.heap.size+1,5,none⟩ (slice none 0 0)).setCell ⟨w.heap.size+1,6,none⟩ (slice none 0 0)).setCell ⟨w.heap.size+1,7,none⟩ (slice none 0 0)).setCell ⟨w.heap.size+1,8,none⟩ (slice none 0 0))=w9 at *;refine bodyPost_ret (v:=.tuple #[.agg #[int i64 0,int i64 0,int i64 0,int i64 0,slice none 0 0,slice none 0 0,slice none 0 0,slice none 0 0,slice none 0 0],.iface 90 (int i64 fe)]) (by simp[results,Tryz.results57,go_sem,y0,y1,y2,y3,y4,y5,y6,y7,y8]) rfl ⟨_,_,rfl,by rw[FE.out];exact Er.no Aj.out,by rw[mY (by rw[FE.out];exact Aj.out)];exact jX _ _,KZ.out.below B1.out B1.out.size (by omega)⟩
 have HF:Hid (Wd.ground ks (Wd.bare wd hg gs os)=0):=hf;have NF:Hid (Wd.fA ks wd hg gs os kG gold=if(1<=kG/\kG<=4)/\0<=gold/\gold<=1000000 then 0 else 1):=by unfold Hid Wd.fA;rw[if_pos hf]
 have GL:Hid (gs.length<=144/\os.length<=144):=by
  unfold Wd.ground at hf;split at hf
  ·obtain⟨Wn,Hn,-,-,G⟩:=Fd.kL hf
   have h1:=G.pos;have h2:=G.gl;have h3:=G.ol;unfold Wd.bare at h2 h3;exact⟨by simp only at h2;omega,by simp only at h3;omega⟩
  ·rename_i h0
   exact absurd hf h0
 clear hf;by_cases hp:1<=kG/\kG<=4
 case neg=>
  have t:decide (1<=kG/\kG<=4)=false:=decide_eq_false hp;have Aj:Hid ((1:Int)≠0):=by unfold Hid;decide
  have FE:Hid (Wd.fA ks wd hg gs os kG gold=1):=by unfold Hid;rw[NF.out,if_neg (λh=>hp h.1)]
  clear hp;go_wp2_with fail
  refine(bI kG 1 4 w1).mono ?_;rintro e w2 ⟨rfl,iL⟩;obtain rfl:=iL.symm;rw[t];clear t;obtain⟨z0,z1,z2,z3,z4,z5,z6,z7,z8⟩:=Z1.out.cells;obtain⟨t0,t1,t2,t3,t4,t5,t6,t7,t8⟩:=Z1.out.aT;have KZ:Hid (Kp (w.heap.size+1) w1 (((((((((w1.setCell ⟨w.heap.size+1,0,none⟩ (int i64 0)).setCell ⟨w.heap.size+1,1,none⟩ (int i64 0)).setCell ⟨w.heap.size+1,2,none⟩ (int i64 0)).setCell ⟨w.heap.size+1,3,none⟩ (int i64 0)).setCell ⟨w.heap.size+1,4,none⟩ (slice none 0 0)).setCell ⟨w.heap.size+1,5,none⟩ (slice none 0 0)).setCell ⟨w.heap.size+1,6,none⟩ (slice none 0 0)).setCell ⟨w.heap.size+1,7,none⟩ (slice none 0 0)).setCell ⟨w.heap.size+1,8,none⟩ (slice none 0 0))):=aK _ _ _ _ _ _ _ _ _ _ _;obtain⟨y0,y1,y2,y3,y4,y5,y6,y7,y8⟩:=(Z1.out.put (int i64 0) (int i64 0) (int i64 0) (int i64 0) (slice none 0 0) (slice none 0 0) (slice none 0 0) (slice none 0 0) (slice none 0 0)).cells;go_wp2;clear z0 z1 z2 z3 z4 z5 z6 z7 z8 t0 t1 t2 t3 t4 t5 t6 t7 t8;generalize (((((((((w1.setCell ⟨w.heap.size+1,0,none⟩ (int i64 0)).setCell ⟨w.heap.size+1,1,none⟩ (int i64 0)).setCell ⟨w.heap.size+1,2,none⟩ (int i64 0)).setCell ⟨w.heap.size+1,3,none⟩ (int i64 0)).setCell ⟨w.heap.size+1,4,none⟩ (slice none 0 0)).setCell ⟨w.heap.size+1,5,none⟩ (slice none 0 0)).setCell ⟨w.heap.size+1,6,none⟩ (slice none 0 0)).setCell ⟨w.heap.size+1,7,none⟩ (slice none 0 0)).setCell ⟨w.heap.size+1,8,none⟩ (slice none 0 0))=w9 at *;refine bodyPost_ret (v:=.tuple #[.agg #[int i64 0,int i64 0,int i64 0,int i64 0,slice none 0 0,slice none 0 0,slice none 0 0,slice none 0 0,slice none 0 0],.iface 90 (int i64 1)]) (by simp[results,Tryz.results57,go_sem,y0,y1,y2,y3,y4,y5,y6,y7,y8]) rfl ⟨_,_,rfl,by rw[FE.out];exact Er.no Aj.out,by rw[mY (by rw[FE.out];exact Aj.out)];exact jX _ _,KZ.out.below B1.out B1.out.size (by omega)⟩
 have t:decide (1<=kG/\kG<=4)=true:=decide_eq_true hp;go_wp2_with fail
 refine(bI kG 1 4 w1).mono ?_;rintro e w2 ⟨rfl,iL⟩;obtain rfl:=iL.symm;rw[t];clear t;by_cases hgd:0<=gold/\gold<=1000000
 case neg=>
  have t:decide (0<=gold/\gold<=1000000)=false:=decide_eq_false hgd;have Aj:Hid ((1:Int)≠0):=by unfold Hid;decide
  have FE:Hid (Wd.fA ks wd hg gs os kG gold=1):=by unfold Hid;rw[NF.out,if_neg (λh=>hgd h.2)]
  clear hgd hp;go_wp2_with fail
  refine(bI gold 0 1000000 w1).mono ?_;rintro e w2 ⟨rfl,iL⟩;obtain rfl:=iL.symm;rw[t];clear t;obtain⟨z0,z1,z2,z3,z4,z5,z6,z7,z8⟩:=Z1.out.cells;obtain⟨t0,t1,t2,t3,t4,t5,t6,t7,t8⟩:=Z1.out.aT;have KZ:Hid (Kp (w.heap.size+1) w1 (((((((((w1.setCell ⟨w.heap.size+1,0,none⟩ (int i64 0)).setCell ⟨w.heap.size+1,1,none⟩ (int i64 0)).setCell ⟨w.heap.size+1,2,none⟩ (int i64 0)).setCell ⟨w.heap.size+1,3,none⟩ (int i64 0)).setCell ⟨w.heap.size+1,4,none⟩ (slice none 0 0)).setCell ⟨w.heap.size+1,5,none⟩ (slice none 0 0)).setCell ⟨w.heap.size+1,6,none⟩ (slice none 0 0)).setCell ⟨w.heap.size+1,7,none⟩ (slice none 0 0)).setCell ⟨w.heap.size+1,8,none⟩ (slice none 0 0))):=aK _ _ _ _ _ _ _ _ _ _ _;obtain⟨y0,y1,y2,y3,y4,y5,y6,y7,y8⟩:=(Z1.out.put (int i64 0) (int i64 0) (int i64 0) (int i64 0) (slice none 0 0) (slice none 0 0) (slice none 0 0) (slice none 0 0) (slice none 0 0)).cells;go_wp2;clear z0 z1 z2 z3 z4 z5 z6 z7 z8 t0 t1 t2 t3 t4 t5 t6 t7 t8;generalize (((((((((w1.setCell ⟨w.heap.size+1,0,none⟩ (int i64 0)).setCell ⟨w.heap.size+1,1,none⟩ (int i64 0)).setCell ⟨w.heap.size+1,2,none⟩ (int i64 0)).setCell ⟨w.heap.size+1,3,none⟩ (int i64 0)).setCell ⟨w.heap.size+1,4,none⟩ (slice none 0 0)).setCell ⟨w.heap.size+1,5,none⟩ (slice none 0 0)).setCell ⟨w.heap.size+1,6,none⟩ (slice none 0 0)).setCell ⟨w.heap.size+1,7,none⟩ (slice none 0 0)).setCell ⟨w.heap.size+1,8,none⟩ (slice none 0 0))=w9 at *;refine bodyPost_ret (v:=.tuple #[.agg #[int i64 0,int i64 0,int i64 0,int i64 0,slice none 0 0,slice none 0 0,slice none 0 0,slice none 0 0,slice none 0 0],.iface 90 (int i64 1)]) (by simp[results,Tryz.results57,go_sem,y0,y1,y2,y3,y4,y5,y6,y7,y8]) rfl ⟨_,_,rfl,by rw[FE.out];exact Er.no Aj.out,by rw[mY (by rw[FE.out];exact Aj.out)];exact jX _ _,KZ.out.below B1.out B1.out.size (by omega)⟩
 have t:decide (0<=gold/\gold<=1000000)=true:=decide_eq_true hgd;have F0:Hid (Wd.fA ks wd hg gs os kG gold=0):=by unfold Hid;rw[NF.out,if_pos ⟨hp,hgd⟩]
 go_wp2_with fail
 refine(bI gold 0 1000000 w1).mono ?_;rintro e w2 ⟨rfl,iL⟩;obtain rfl:=iL.symm;rw[t];clear t;obtain⟨n,rfl⟩:∃n:Nat,kG=n:=⟨kG.toNat,by omega⟩;have hn:0<n/\n<=4:=by omega
 have HN:Hid (0<n/\n<=4):=hn;clear hp hgd hn;go_wp2_with fail
 have BA:Hid (Below w1.heap.size w1 (w1.alloc (Obj.cells #[int i64 gold] 3))):=(Below.refl _ _).alloc (Nat.le_refl _) _;have RA:Hid (Ro (w1.alloc (Obj.cells #[int i64 gold] 3)) (slice (some ⟨w1.heap.size,0,none⟩) 1 1) [gold]):=Ro.wH gold rfl;generalize (w1.alloc (Obj.cells #[int i64 gold] 3))=wa at *;refine(qP gold _ n wa RA.out (HN.out.1) (by have:=HN.out.2;omega)).mono ?_;rintro e w2 ⟨b,rfl,-,hbk,hb2⟩;have BW:Hid (Below w1.heap.size w1 w2):=BA.out.trans (hb2.mono BA.out.size);have B2:Hid (Below w.heap.size w w2):=B1.out.trans (BW.out.mono B1.out.size);have X2:Hid (Bx w2 w.heap.size wd hg (slice p1 gs.length q1) (slice p2 os.length q2)):=X1.out.below BW.out X1.out.lt;have Z2:Hid (Wx w2 (w.heap.size+1) (int i64 0) (int i64 0) (int i64 0) (int i64 0) (slice none 0 0) (slice none 0 0) (slice none 0 0) (slice none 0 0) (slice none 0 0)):=Z1.out.below BW.out Z1.out.lt;have S2:Hid (w.heap.size+2<=w2.heap.size):=Nat.le_trans S1.out BW.out.size;have G2:Hid (Ro w2 (slice (some ⟨b,0,none⟩) n n) (List.replicate n gold)):=by
  unfold Hid;have:=hbk.ro (c:=n) (by simp) (by have:=HN.out.2;omega);simpa using this
 clear hb2 hbk B1 X1 Z1 S1 BA RA BW;obtain⟨x0,x1,x2,x3⟩:=X2.out;go_wp2_with fail
 have F2:=F.out.below B2.out;obtain⟨v1,v2,he,f1,f2⟩:=F2;injection he with he
 simp only[Array.mk.injEq,List.cons.injEq,and_true,true_and] at he;obtain⟨rfl,rfl⟩:=he;refine(ig _ ⟨0,1,wd,hg,gs,os,List.replicate n gold,[],[]⟩ w2 ⟨_,_,_,_,_,rfl,f1,f2,G2.out,⟨none,0,rfl,Nat.le_refl _,by omega,λh=>absurd rfl h⟩,⟨none,0,rfl,Nat.le_refl _,by omega,λh=>absurd rfl h⟩⟩ ⟨by have:=GL.out.1;simp only;omega,by have:=GL.out.2;simp only;omega,by have:=HN.out.2;simp only[List.length_replicate];omega,by simp,by simp⟩).mono ?_;rintro e w3 ⟨u,rfl,ho,hb3⟩;clear f1 f2 x0 x1 x2 x3;have B3:Hid (Below w.heap.size w w3):=B2.out.trans (hb3.mono B2.out.size);have Z3:Hid (Wx w3 (w.heap.size+1) (int i64 0) (int i64 0) (int i64 0) (int i64 0) (slice none 0 0) (slice none 0 0) (slice none 0 0) (slice none 0 0) (slice none 0 0)):=Z2.out.below hb3 Z2.out.lt;obtain⟨v1,v2,v3,v4,v5,rfl,o1,o2,o3,o4,o5⟩:=ho.wo.mono S2.out;have O3:Hid (Ow w3 (w.heap.size+2) v1 gs/\Ow w3 (w.heap.size+2) v2 os/\Ow w3 (w.heap.size+2) v3 (List.replicate n gold)/\bZ w3 (w.heap.size+2) v4 []/\bM w3 (w.heap.size+2) v5 []):=⟨o1,o2,o3,o4,o5⟩;obtain⟨a1,b1,rfl⟩:=o1.len;obtain⟨a2,b2,rfl⟩:=o2.len;obtain⟨a3,b3,rfl⟩:=o3.len;obtain⟨a4,b4,rfl⟩:=o4.len;obtain⟨a5,b5,rfl⟩:=o5.len;simp only[List.length_replicate,List.length_nil] at O3 ⊢;clear ho hb3 o1 o2 o3 o4 o5 B2 X2 Z2 S2 G2;obtain⟨z0,z1,z2,z3,z4,z5,z6,z7,z8⟩:=Z3.out.cells;obtain⟨t0,t1,t2,t3,t4,t5,t6,t7,t8⟩:=Z3.out.aT;have KZ:Hid (Kp (w.heap.size+1) w3 (((((((((w3.setCell ⟨w.heap.size+1,0,none⟩ (int i64 0)).setCell ⟨w.heap.size+1,1,none⟩ (int i64 1)).setCell ⟨w.heap.size+1,2,none⟩ (int i64 wd)).setCell ⟨w.heap.size+1,3,none⟩ (int i64 hg)).setCell ⟨w.heap.size+1,4,none⟩ (slice a1 gs.length b1)).setCell ⟨w.heap.size+1,5,none⟩ (slice a2 os.length b2)).setCell ⟨w.heap.size+1,6,none⟩ (slice a3 n b3)).setCell ⟨w.heap.size+1,7,none⟩ (slice a4 0 b4)).setCell ⟨w.heap.size+1,8,none⟩ (slice a5 0 b5))):=aK _ _ _ _ _ _ _ _ _ _ _;obtain⟨y0,y1,y2,y3,y4,y5,y6,y7,y8⟩:=(Z3.out.put (int i64 0) (int i64 1) (int i64 wd) (int i64 hg) (slice a1 gs.length b1) (slice a2 os.length b2) (slice a3 n b3) (slice a4 0 b4) (slice a5 0 b5)).cells;go_wp2;clear z0 z1 z2 z3 z4 z5 z6 z7 z8 t0 t1 t2 t3 t4 t5 t6 t7 t8;generalize (((((((((w3.setCell ⟨w.heap.size+1,0,none⟩ (int i64 0)).setCell ⟨w.heap.size+1,1,none⟩ (int i64 1)).setCell ⟨w.heap.size+1,2,none⟩ (int i64 wd)).setCell ⟨w.heap.size+1,3,none⟩ (int i64 hg)).setCell ⟨w.heap.size+1,4,none⟩ (slice a1 gs.length b1)).setCell ⟨w.heap.size+1,5,none⟩ (slice a2 os.length b2)).setCell ⟨w.heap.size+1,6,none⟩ (slice a3 n b3)).setCell ⟨w.heap.size+1,7,none⟩ (slice a4 0 b4)).setCell ⟨w.heap.size+1,8,none⟩ (slice a5 0 b5))=w9 at *;refine bodyPost_ret (v:=.tuple #[.agg #[int i64 0,int i64 1,int i64 wd,int i64 hg,slice a1 gs.length b1,slice a2 os.length b2,slice a3 n b3,slice a4 0 b4,slice a5 0 b5],.nilIface]) (by simp[results,Tryz.results57,go_sem,y0,y1,y2,y3,y4,y5,y6,y7,y8]) rfl ⟨_,_,rfl,by rw[F0.out];exact Er.nil,?_,KZ.out.below B3.out B3.out.size (by omega)⟩;rw[vY F0.out,Int.toNat_natCast];exact⟨_,_,_,_,_,rfl,(O3.out.1.kp KZ.out (by omega)).mono (by omega),(O3.out.2.1.kp KZ.out (by omega)).mono (by omega),(O3.out.2.2.1.kp KZ.out (by omega)).mono (by omega),(O3.out.2.2.2.1.kp KZ.out (by omega)).mono (by omega),(O3.out.2.2.2.2.kp KZ.out (by omega)).mono (by omega)⟩
end Go.Proofs.YtojhiiiebnlipaaGreatDoor
namespace Go.Proofs.YtojhiiiebnlipaaGreatDoor.Fd
open Go.Value (int slice)
open Go.IntKind (i64)
def Tt(g:Int):UInt8:=if g=0 then 46 else if g=1 then 35 else if g=2 then 126 else 94
def qx(g o:Int):UInt8:=if o=0 then Tt g else if o%10=0/\o<=90 then(48+(o/10).toNat).toUInt8 else 43
def fD(W:Nat)(gs os:List Int)(r c:Nat):List UInt8:=(List.range c).map λj=>qx (gs.getD (r*W+j) 0) (os.getD (r*W+j) 0)
def jE(W:Nat)(gs os:List Int):Nat->List UInt8
 |0=>[]
 |r+1=>jE W gs os r++(fD W gs os r W++[10])
theorem jF(W:Nat)(gs os:List Int)(r c:Nat):fD W gs os r (c+1)=fD W gs os r c++[qx (gs.getD (r*W+c) 0) (os.getD (r*W+c) 0)]:=by
 unfold fD;rw[List.range_succ,List.map_append];rfl
structure St where
 c:Nat
 W:Nat
 H:Nat
 gs:List Int
 os:List Int
def st0:St:=⟨0,0,0,[],[]⟩
def meant(b:UInt8):Option (Int×Int):=
 if 49<=b.toNat/\b.toNat<=57 then some (0,((b.toNat:Int)-48)*10) else if b=46 then some (0,0) else if b=35 then some (1,0) else if b=126 then some (2,0) else if b=94 then some (3,0) else none
def step(s:St)(b:UInt8):Int ⊕ St:=
 if b=10 then(if s.c=0\/(0<s.H/\s.c≠s.W) then .inl 2 else .inr ⟨0,s.c,s.H+1,s.gs,s.os⟩)
 else match meant b with
  |none=>.inl 2
  |some (g,o)=>if 0<s.H/\s.c=s.W then .inl 2 else if s.c=12\/s.H=12 then .inl 4 else .inr ⟨s.c+1,s.W,s.H,s.gs++[g],s.os++[o]⟩
def run:St->Nat->List UInt8->(Nat×Int) ⊕ St
 |s,_,[]=>.inr s
 |s,i,b::bs=>match step s b with
  | .inl e=>.inl (i,e)
  | .inr s'=>run s' (i+1) bs
def parse(l:List UInt8):(Nat×Int) ⊕ St:=
 match run st0 0 l with
 | .inl x=>.inl x
 | .inr s=>if 0<s.c\/s.H=0 then .inl (l.length,2) else .inr s
theorem Jv(s:St)(i:Nat)(b:UInt8)(bs:List UInt8):run s i (b::bs)=match step s b with| .inl e=>.inl (i,e)| .inr s'=>run s' (i+1) bs:=rfl
def yR(g o:Int):Prop:=0<=g/\g<=3/\0<=o/\o<=90/\o%10=0/\(0<o->g=0)
theorem D_{b:UInt8}{g o:Int}(h:meant b=some (g,o)):qx g o=b/\yR g o:=by
 unfold meant at h;split at h
 ·rename_i hb
  simp only[Option.some.injEq,Prod.mk.injEq] at h;obtain⟨rfl,rfl⟩:=h;have e1:(((b.toNat:Int)-48)*10)/10=(b.toNat:Int)-48:=by omega
  refine⟨?_,by unfold yR;omega⟩;unfold qx;rw[if_neg (by omega),if_pos (by omega),e1,show 48+((b.toNat:Int)-48).toNat=b.toNat by omega];exact UInt8.ofNat_toNat
 ·split at h
  ·rename_i hb
   simp only[Option.some.injEq,Prod.mk.injEq] at h;obtain⟨rfl,rfl⟩:=h;exact⟨by rw[hb];rfl,by unfold yR;omega⟩
  ·split at h
   ·rename_i hb
    simp only[Option.some.injEq,Prod.mk.injEq] at h;obtain⟨rfl,rfl⟩:=h;exact⟨by rw[hb];rfl,by unfold yR;omega⟩
   ·split at h
    ·rename_i hb
     simp only[Option.some.injEq,Prod.mk.injEq] at h;obtain⟨rfl,rfl⟩:=h;exact⟨by rw[hb];rfl,by unfold yR;omega⟩
    ·split at h
     ·rename_i hb
      simp only[Option.some.injEq,Prod.mk.injEq] at h;obtain⟨rfl,rfl⟩:=h;exact⟨by rw[hb];rfl,by unfold yR;omega⟩
     ·cases h
theorem lY{l:List Int}{x:Int}{i:Nat}(h:i<l.length):(l++[x]).getD i 0=l.getD i 0:=by
 rw[List.getD_eq_getElem?_getD,List.getD_eq_getElem?_getD,List.getElem?_append_left h]
theorem kK{l:List Int}{x:Int}{i:Nat}(h:i=l.length):(l++[x]).getD i 0=x:=by
 subst h;rw[List.getD_eq_getElem?_getD,List.getElem?_append_right (Nat.le_refl _)];simp
theorem lZ{W:Nat}{gs os:List Int}{g o:Int}{r c:Nat}(h1:r*W+c<=gs.length)(h2:r*W+c<=os.length):fD W (gs++[g]) (os++[o]) r c=fD W gs os r c:=by
 induction c with
 |zero=>rfl
 |succ c ih=>
  rw[jF,jF,ih (by omega) (by omega),lY (by omega),lY (by omega)]
theorem vZ{W:Nat}{gs os:List Int}{g o:Int}{r:Nat}(h1:r*W<=gs.length)(h2:r*W<=os.length):jE W (gs++[g]) (os++[o]) r=jE W gs os r:=by
 induction r with
 |zero=>rfl
 |succ r ih=>
  rw[Nat.add_mul] at h1 h2;simp only[jE];rw[ih (by omega) (by omega),lZ (by omega) (by omega)]
theorem tY(W V:Nat)(gs os:List Int)(c:Nat):fD W gs os 0 c=fD V gs os 0 c:=by
 unfold fD;simp
structure Inv(s:St)(l:List UInt8):Prop where
 w0:s.H=0->s.W=0
 wp:0<s.H->0<s.W
 cw:0<s.H->s.c<=s.W
 c12:s.c<=12
 w12:s.W<=12
 h12:s.H<=12
 top:s.H=12->s.c=0
 gl:s.gs.length=s.H*s.W+s.c
 ol:s.os.length=s.H*s.W+s.c
 Tv:∀(i:Nat) g o,s.gs[i]? =some g->s.os[i]? =some o->yR g o
 text:l=jE s.W s.gs s.os s.H++fD s.W s.gs s.os s.H s.c
theorem inv0:Inv st0 []:=⟨λ_=>rfl,λh=>by simp[st0] at h,λh=>by simp[st0] at h,by simp[st0],by simp[st0],by simp[st0],λh=>by simp[st0] at h,rfl,rfl,λi g o h=>by simp[st0] at h,rfl⟩
theorem qp{l:List Int}{x y:Int}{i:Nat}(h:(l++[x])[i]? =some y):(i<l.length/\l[i]? =some y)\/(i=l.length/\y=x):=by
 rcases Nat.lt_or_ge i l.length with h1|h1
 ·left;rw[List.getElem?_append_left h1] at h;exact⟨h1,h⟩
 ·right
  rw[List.getElem?_append_right h1] at h;have h2:i-l.length=0:=by
   rcases Nat.eq_zero_or_pos (i-l.length) with h2|h2
   ·exact h2
   ·rw[List.getElem?_eq_none (by simp;omega)] at h;cases h
  rw[h2] at h;simp at h;exact⟨by omega,h.symm⟩
theorem Inv.step{s s':St}{l:List UInt8}{b:UInt8}(h:Inv s l)(hs:step s b=.inr s'):Inv s' (l++[b]):=by
 unfold Fd.step at hs;split at hs
 ·rename_i hb
  subst hb;split at hs
  ·cases hs
  ·rename_i hc
   injection hs with hs
   subst hs;have hc0:0<s.c:=by omega
   have hcw:0<s.H->s.c=s.W:=by omega
   have hh:s.H≠12:=λe=>by have:=h.top e;omega
   have h12:=h.h12;have c12:=h.c12
   have el:s.H*s.W+s.c=(s.H+1)*s.c:=by
    rcases Nat.eq_zero_or_pos s.H with e|e
    ·rw[e];simp
    ·rw[<-hcw e,Nat.add_mul,Nat.one_mul]
   refine⟨by simp,by simp;exact hc0,by simp,by simp,c12,by show s.H+1<=12;omega,by simp,?_,?_,h.Tv,?_⟩
   ·show s.gs.length=(s.H+1)*s.c+0;rw[h.gl,el];rfl
   ·show s.os.length=(s.H+1)*s.c+0;rw[h.ol,el];rfl
   ·show l++[10]=jE s.c s.gs s.os (s.H+1)++fD s.c s.gs s.os (s.H+1) 0
    rw[h.text];simp only[jE];rcases Nat.eq_zero_or_pos s.H with e|e
    ·rw[e,tY s.W s.c]
     simp[jE,fD]
    ·rw[<-hcw e]
     simp[fD]
 ·split at hs
  ·cases hs
  ·rename_i g o hm
   split at hs
   ·cases hs
   ·split at hs
    ·cases hs
    ·rename_i h1 h2
     injection hs with hs
     subst hs;obtain⟨e1,e2⟩:=D_ hm;have cw:=h.cw;have c12:=h.c12;have h12:=h.h12
     refine⟨h.w0,h.wp,λhp=>?_,?_,h.w12,h.h12,λe=>?_,?_,?_,?_,?_⟩
     ·show s.c+1<=s.W;have:=cw hp;have:0<s.H:=hp;omega
     ·show s.c+1<=12;omega
     ·exfalso;have:s.H=12:=e;omega
     ·show(s.gs++[g]).length=s.H*s.W+(s.c+1);rw[List.length_append,h.gl];rfl
     ·show(s.os++[o]).length=s.H*s.W+(s.c+1);rw[List.length_append,h.ol];rfl
     ·intro i g' o' hg ho
      rcases qp hg with⟨l1,q1⟩|⟨l1,q1⟩
      ·rcases qp ho with⟨l2,q2⟩|⟨l2,q2⟩
       ·exact h.Tv i g' o' q1 q2
       ·have:=h.gl;have:=h.ol;omega
      ·rcases qp ho with⟨l2,q2⟩|⟨l2,q2⟩
       ·have:=h.gl;have:=h.ol;omega
       ·rw[q1,q2];exact e2
     ·show l++[b]=jE s.W (s.gs++[g]) (s.os++[o]) s.H++fD s.W (s.gs++[g]) (s.os++[o]) s.H (s.c+1)
      have:=h.gl;have:=h.ol
      rw[vZ (by omega) (by omega),jF,lZ (by omega) (by omega),kK (by omega),kK (by omega),e1,h.text,List.append_assoc]
theorem Inv.run{s s':St}{l m:List UInt8}{i:Nat}(h:Inv s l)(hs:run s i m=.inr s'):Inv s' (l++m):=by
 induction m generalizing s l i with
 |nil=>
  simp only[Fd.run] at hs;injection hs with hs
  subst hs;simpa using h
 |cons b bs ih=>
  rw[Jv] at hs;cases hb:Fd.step s b with
  |inl e=>rw[hb] at hs;cases hs
  |inr s1=>
   rw[hb] at hs;have:=ih (h.step hb) hs;rwa[List.append_assoc] at this
section
variable {W H:Nat} {gs os:List Int} (G:Good W H gs os) (ht:∀o∈os,o<=90/\o%10=0)
include G ht
end
end Go.Proofs.YtojhiiiebnlipaaGreatDoor.Fd
namespace Go.Proofs.YtojhiiiebnlipaaGreatDoor
open Go.Value (int slice)
open Go.IntKind (i64)
def SK:List KV:=[⟨⟨#[98,97,115,101]⟩,50,0,0,4,0,50,5,0,false,true⟩,⟨⟨#[100,105,103,103,101,114]⟩,10,0,0,3,2,10,2,20,false,false⟩,⟨⟨#[102,105,103,104,116,101,114]⟩,20,4,1,4,2,20,3,0,false,false⟩]
def SG:List Int:=[0,0,0,0,0,0,0,0]
def SO:List Int:=[0,0,0,0,0,0,30,0]
def S0:WV:=⟨0,1,4,2,SG,SO,[100,100],[],[]⟩
def S1:WV:=⟨0,2,4,2,SG,SO,[100,100],[⟨1,0,0,0,50,0,0,0⟩],[]⟩
def S2:WV:=⟨0,3,4,2,SG,SO,[100,100],[⟨1,0,0,0,50,0,0,0⟩,⟨2,0,1,1,10,0,0,0⟩],[]⟩
def S3:WV:=⟨0,4,4,2,SG,SO,[100,100],[⟨1,0,0,0,50,0,0,0⟩,⟨2,0,1,1,10,0,0,0⟩,⟨3,1,2,3,20,0,0,0⟩],[]⟩
theorem Jw:Fd.parse [46,46,46,46,10,46,46,51,46,10]=.inr ⟨0,4,2,SG,SO⟩:=by rfl
theorem Ak:Wd.fA SK 4 2 SG SO 2 100=0:=by decide+kernel
theorem Om:Wd.dK SK S0 0 0 0=0:=by decide+kernel
theorem Oo:Wd.dK SK S1 0 1 1=0:=by decide+kernel
theorem Oq:Wd.dK SK S2 1 2 3=0:=by decide+kernel
theorem Qv:Wd.begun SK 4 2 SG SO 2 100=S0:=vY Ak
theorem VK:Wd.placed SK S0 0 0 0=S1:=(jc Om).trans rfl
theorem VL:Wd.placed SK S1 0 1 1=S2:=(jc Oo).trans rfl
theorem VN:Wd.placed SK S2 1 2 3=S3:=(jc Oq).trans rfl
theorem dU:∀k∈SK,k.b.size<=9223372036854775807:=by
 intro k hk;unfold SK at hk;rcases List.mem_cons.1 hk with rfl|hk
 ·decide
 rcases List.mem_cons.1 hk with rfl|hk
 ·decide
 rcases List.mem_cons.1 hk with rfl|hk
 ·decide
 ·cases hk
open Go.RowKit
theorem Jy(s:ByteArray)(c:Int)(w:World):
 Calls Tryz.prog 210 #[.string s,.int .u8 c] w λe w'=>e=.returned (int i64 (Lib.indexByte s.data.toList c.toNat.toUInt8))/\w'=w:=by
 have hx:=run_callFunc_extern (w:=w) (args:= #[.string s,.int .u8 c]) Tryz.func230 (by kernel_rfl) (by kernel_rfl) (by kernel_rfl) (e:=Extern.BytealgIndexByte.indexByte) (by kernel_rfl);go_enter Tryz.func210,Tryz.ntmps210;go_wp2;rw[Lib.run_indexByteString];simp only[Result.andThen];rw[Oper.upon_value];go_wp2;go_ret;exact⟨rfl,rfl⟩
theorem Jz(s:ByteArray)(c:Int)(w:World):
 Calls Tryz.prog 190 #[.string s,.int .u8 c] w λe w'=>e=.returned (int i64 (Lib.indexByte s.data.toList c.toNat.toUInt8))/\w'=w:=by
 have K:Hid (Calls Tryz.prog 210 #[.string s,.int .u8 c] w λe w'=>e=.returned (int i64 (Lib.indexByte s.data.toList c.toNat.toUInt8))/\w'=w):=Jy s c w;go_enter Tryz.func190,Tryz.ntmps190;go_wp2_with fail
 refine Calls.mono K.out ?_;rintro e w' ⟨rfl,rfl⟩;go_wp2;go_ret;exact⟨rfl,rfl⟩
namespace Fd
def tZ(b:UInt8):Int:=if b=46 then 0 else if b=35 then 1 else if b=126 then 2 else if b=94 then 3 else -1
theorem yS(b:UInt8)(h:¬(49<=b.toNat/\b.toNat<=57)):meant b=if 0<=tZ b then some (tZ b,0) else none:=by
 unfold meant tZ;rw[if_neg h];split
 ·rfl
 ·split
  ·rfl
  ·split
   ·rfl
   ·split
    ·rfl
    ·rfl
end Fd
theorem JB(b:UInt8):Lib.indexByte [46,35,126,94] b=Fd.tZ b:=by
 unfold Fd.tZ;by_cases h1:b=46
 ·subst h1;decide
 ·by_cases h2:b=35
  ·subst h2;decide
  ·by_cases h3:b=126
   ·subst h3;decide
   ·by_cases h4:b=94
    ·subst h4;decide
    ·have g1:¬46=b:=λh=>h1 h.symm
     have g2:¬35=b:=λh=>h2 h.symm
     have g3:¬126=b:=λh=>h3 h.symm
     have g4:¬94=b:=λh=>h4 h.symm
     simp[Lib.indexByte,h1,h2,h3,h4,g1,g2,g3,g4]
theorem Eb(b:UInt8)(w:World):
 Calls Tryz.prog 153 #[.int .u8 (b.toNat:Nat)] w λe w'=>(∃g o,Fd.meant b=some (g,o)/\e=.returned (.tuple #[int i64 g,int i64 o,.bool true])/\w'=w)\/(Fd.meant b=none/\e=.returned (.tuple #[int i64 (-1),int i64 0,.bool false])/\w'=w):=by
 have hb:=b.toNat_lt;by_cases h:49<=b.toNat/\b.toNat<=57
 ·have e:Fd.meant b=some (0,((b.toNat:Int)-48)*10):=by unfold Fd.meant;rw[if_pos h]
  have E:Hid _:=e;obtain⟨h1,h2⟩:=h;clear e;generalize b.toNat=n at *;have w1:IntKind.u8.wrap ((n:Int)-48)=(n:Int)-48:=by rw[IntKind.wrap_u8];omega
  go_enter Tryz.func153,Tryz.ntmps153;go_wp2;go_ret3;exact .inl ⟨_,_,E.out,rfl,rfl⟩
 ·have e:=Fd.yS b h
  have I:Hid (Calls Tryz.prog 190 #[.string ⟨#[46,35,126,94]⟩,.int .u8 (b.toNat:Nat)] w λe w'=>e=.returned (int i64 (Fd.tZ b))/\w'=w):=by
   refine(Jz ⟨#[46,35,126,94]⟩ (b.toNat:Nat) w).mono ?_;rintro e w' ⟨rfl,rfl⟩;refine⟨?_,rfl⟩;have e2:((b.toNat:Nat):Int).toNat.toUInt8=b:=by rw[Int.toNat_natCast];exact UInt8.ofNat_toNat
   rw[e2];rw[<-JB b]
  have gl: -1<=Fd.tZ b:=by unfold Fd.tZ;split<;>(try split)<;>(try split)<;>(try split)<;>omega
  generalize Fd.tZ b=g at *;by_cases hg:0<=g
  ·have E:Hid (Fd.meant b=some (g,0)):=by unfold Hid;rw[e,if_pos hg]
   clear e;by_cases h1:49<=b.toNat
   ·have h2:¬b.toNat<=57:=by omega
    clear h;go_enter Tryz.func153,Tryz.ntmps153;go_wp2_with fail
    refine Calls.mono I.out ?_;rintro e w' ⟨rfl,rfl⟩;go_wp2;go_ret3;exact .inl ⟨_,_,E.out,rfl,rfl⟩
   ·clear h
    go_enter Tryz.func153,Tryz.ntmps153;go_wp2_with fail
    refine Calls.mono I.out ?_;rintro e w' ⟨rfl,rfl⟩;go_wp2;go_ret3;exact .inl ⟨_,_,E.out,rfl,rfl⟩
  ·obtain rfl:g= -1:=by omega
   have E:Hid (Fd.meant b=none):=by unfold Hid;rw[e,if_neg hg]
   clear e gl hg;by_cases h1:49<=b.toNat
   ·have h2:¬b.toNat<=57:=by omega
    clear h;go_enter Tryz.func153,Tryz.ntmps153;go_wp2_with fail
    refine Calls.mono I.out ?_;rintro e w' ⟨rfl,rfl⟩;go_wp2;go_ret3;exact .inr ⟨E.out,rfl,rfl⟩
   ·clear h
    go_enter Tryz.func153,Tryz.ntmps153;go_wp2_with fail
    refine Calls.mono I.out ?_;rintro e w' ⟨rfl,rfl⟩;go_wp2;go_ret3;exact .inr ⟨E.out,rfl,rfl⟩
structure Two(w:World)(base:Nat)(u1 u2:Value)(gs os:List Int):Prop where
 o1:Ow w base u1 gs
 o2:Ow w base u2 os
 ne:∀k,u1.ownBlock=some k->u2.ownBlock≠some k
theorem Two.below{w w':World}{base n:Nat}{u1 u2:Value}{gs os:List Int}(h:Two w base u1 u2 gs os)(hb:Below n w w')(hn:w.heap.size<=n):Two w' base u1 u2 gs os:=
 ⟨h.o1.below (hb.mono hn),h.o2.below (hb.mono hn),h.ne⟩
theorem Two.kp{w w':World}{base z:Nat}{u1 u2:Value}{gs os:List Int}(h:Two w base u1 u2 gs os)(hk:Kp z w w')(hz:z<base):Two w' base u1 u2 gs os:=by
 have hg:w.grownBy w' (some z):=⟨hk.os,hk.tape,hk.output,hk.size,λk hk' hne=>hk.block k hk' (λe=>hne (by rw[e]))⟩;refine⟨h.o1.kept hg ?_,h.o2.kept hg ?_,h.ne⟩
 ·right;intro e;have:=(h.o1.block z e).1;omega
 ·right;intro e;have:=(h.o2.block z e).1;omega
def Dt(w:World)(z:Nat)(u1 u2:Value)(s:Fd.St):Prop:=w.heap[z]? =some (.cells #[int i64 (s.W:Nat),int i64 (s.H:Nat),u1,u2,int i64 (s.c:Nat)] 151 (0,0))
def Dr(w:World)(z:Nat)(s:Fd.St):Prop:=∃u1 u2,Dt w z u1 u2 s/\Two w (z+1) u1 u2 s.gs s.os
section
variable {w:World} {z:Nat} {u1 u2:Value} {s:Fd.St}
theorem Dt.c0(h:Dt w z u1 u2 s):w.cell? ⟨z,0,none⟩=some (int i64 (s.W:Nat)):=by unfold Dt at h;simp[World.cell?,h]
theorem Dt.c1(h:Dt w z u1 u2 s):w.cell? ⟨z,1,none⟩=some (int i64 (s.H:Nat)):=by unfold Dt at h;simp[World.cell?,h]
theorem Dt.c2(h:Dt w z u1 u2 s):w.cell? ⟨z,2,none⟩=some u1:=by unfold Dt at h;simp[World.cell?,h]
theorem Dt.c3(h:Dt w z u1 u2 s):w.cell? ⟨z,3,none⟩=some u2:=by unfold Dt at h;simp[World.cell?,h]
theorem Dt.c4(h:Dt w z u1 u2 s):w.cell? ⟨z,4,none⟩=some (int i64 (s.c:Nat)):=by unfold Dt at h;simp[World.cell?,h]
theorem Dt.fz(h:Dt w z u1 u2 s)(i:Nat):w.frozen? ⟨z,i,none⟩=false:=by unfold Dt at h;simp[World.frozen?,h]
theorem Dt.lt(h:Dt w z u1 u2 s):z<w.heap.size:=lt_of_block h
theorem Dt.below{w':World}{n:Nat}(h:Dt w z u1 u2 s)(hb:Below n w w')(hz:z<n):Dt w' z u1 u2 s:=(hb.block z hz).trans h
end
theorem Ny(z:Nat)(u1 u2:Value)(s:Fd.St)(w:World)(h:Dt w z u1 u2 s)(hc:s.c<=12)(hw:s.W<=12)(hb:s.c=0\/s.c<s.W):
 Calls Tryz.prog 152 #[.pointer (some ⟨z,0,none⟩)] w λe w'=>e=.returned (.iface 90 (int i64 2))/\∃n,w'=w.drewN n:=by
 have c0:=h.c0;have c4:=h.c4;obtain⟨c,W,H,gs,os⟩:=s;simp only at hc hw hb c0 c4;clear h;by_cases q:c=0
 ·subst q
  go_enter Tryz.func152,Tryz.ntmps152;go_wp2_with fail
  go_quiet (fail);go_wp2;go_ret;exact⟨rfl,_,rfl⟩
 ·have q2:c<W:=by omega
  have q':((c:Int)==0)=false:=by rw[beq_eq_false_iff_ne];omega
  clear hb;go_enter Tryz.func152,Tryz.ntmps152;go_wp2_with fail
  go_quiet (fail);go_wp2;go_ret;exact⟨rfl,_,rfl⟩
theorem Qw(z:Nat)(u1 u2:Value)(s:Fd.St)(w:World)(h:Dt w z u1 u2 s)(hc:s.c<=12)(hw:s.W<=12)(hh:s.H<=12)(h0:s.c≠0)(h1:¬s.c<s.W):
 Calls Tryz.prog 152 #[.pointer (some ⟨z,0,none⟩)] w λe w'=>e=.returned .nilIface/\Dt w' z u1 u2 ⟨0,s.c,s.H+1,s.gs,s.os⟩/\Kp z w w':=by
 have D:Hid (Dt w z u1 u2 s):=h;have c0:=h.c0;have c1:=h.c1;have c4:=h.c4;have f0:=h.fz 0;have f1:=h.fz 1;have f4:=h.fz 4;obtain⟨c,W,H,gs,os⟩:=s;simp only at hc hw hh h0 h1 c0 c1 c4;have q':((c:Int)==0)=false:=by rw[beq_eq_false_iff_ne];omega
 clear h;go_enter Tryz.func152,Tryz.ntmps152;go_wp2_with fail
 go_quiet (fail);have Dq:Hid (Dt (w.drewN nq) z u1 u2 ⟨c,W,H,gs,os⟩):=D.out;have Kq:Hid (Kp z w (w.drewN nq)):=(Kp.refl z w).drewN nq;have c0:(w.drewN nq).cell? ⟨z,0,none⟩=some (int i64 (W:Nat)):=Dq.out.c0;have c1:(w.drewN nq).cell? ⟨z,1,none⟩=some (int i64 (H:Nat)):=Dq.out.c1;have c4:(w.drewN nq).cell? ⟨z,4,none⟩=some (int i64 (c:Nat)):=Dq.out.c4;have f0:=Dq.out.fz 0;have f1:=Dq.out.fz 1;have f4:=Dq.out.fz 4;generalize w.drewN nq=w1 at *;go_wp2;go_ret;refine⟨rfl,?_,?_⟩
 ·unfold Dt
  rw[heap_setCell_same _ z 4 _ _ _ (heap_setCell_same _ z 1 _ _ _ (heap_setCell_same w1 z 0 _ _ _ Dq.out))];simp
 ·exact((Kq.out.trans (Kp.set _ _ _)).trans (Kp.set _ _ _)).trans (Kp.set _ _ _)
structure wu(s:Fd.St):Prop where
 w0:s.H=0->s.W=0
 cw:0<s.H->s.c<=s.W
 c12:s.c<=12
 w12:s.W<=12
 h12:s.H<=12
 gl:s.gs.length<=156
 ol:s.os.length<=156
theorem wu.of{s:Fd.St}{l:List UInt8}(h:Fd.Inv s l):wu s:=by
 have e:s.H*s.W<=144:=Nat.mul_le_mul h.h12 h.w12;have:=h.c12;exact⟨h.w0,h.cw,h.c12,h.w12,h.h12,by rw[h.gl];omega,by rw[h.ol];omega⟩
theorem JD{s:Fd.St}(h:wu s):Fd.step s 10=if s.c=0\/s.c<s.W then .inl 2 else .inr ⟨0,s.c,s.H+1,s.gs,s.os⟩:=by
 unfold Fd.step;rw[if_pos rfl];have:=h.w0;have:=h.cw
 by_cases q:s.c=0\/(0<s.H/\s.c≠s.W)
 ·rw[if_pos q,if_pos (by omega)]
 ·rw[if_neg q,if_neg (by omega)]
theorem step_none{s:Fd.St}{b:UInt8}(hb:b≠10)(hm:Fd.meant b=none):Fd.step s b=.inl 2:=by
 unfold Fd.step;rw[if_neg hb,hm]
theorem step_some{s:Fd.St}{b:UInt8}{g o:Int}(hb:b≠10)(hm:Fd.meant b=some (g,o)):Fd.step s b=if 0<s.H/\s.c=s.W then .inl 2 else if s.c=12\/s.H=12 then .inl 4 else .inr ⟨s.c+1,s.W,s.H,s.gs++[g],s.os++[o]⟩:=by
 unfold Fd.step;rw[if_neg hb,hm]
theorem JE(z:Nat)(s:Fd.St)(w:World)(h:Dr w z s)(ok:wu s):
 Calls Tryz.prog 110 #[.pointer (some ⟨z,0,none⟩),.int .u8 10] w λe w'=>(∃f,Fd.step s 10=.inl f/\e=.returned (.iface 90 (int i64 f))/\f≠0/\Below z w w')\/(∃s',Fd.step s 10=.inr s'/\e=.returned .nilIface/\Dr w' z s'/\Below z w w'):=by
 obtain⟨u1,u2,hd,ht⟩:=h;have S:=JD ok;have HS:Hid _:=S;clear S;by_cases q:s.c=0\/s.c<s.W
 ·have K:Hid (Calls Tryz.prog 152 #[.pointer (some ⟨z,0,none⟩)] w λe w'=>e=.returned (.iface 90 (int i64 2))/\∃n,w'=w.drewN n):=Ny z u1 u2 s w hd ok.c12 ok.w12 q
  have Q:Hid (s.c=0\/s.c<s.W):=q;clear q hd ht ok;go_enter Tryz.func110,Tryz.ntmps110;go_wp2_with fail
  refine Calls.mono K.out ?_;rintro e w1 ⟨rfl,n,rfl⟩;go_wp2;go_ret;exact .inl ⟨2,by rw[HS.out,if_pos Q.out],rfl,by decide,_root_.Go.below_drewN (Below.refl _ _) _⟩
 ·have K:Hid (Calls Tryz.prog 152 #[.pointer (some ⟨z,0,none⟩)] w λe w'=>e=.returned .nilIface/\Dt w' z u1 u2 ⟨0,s.c,s.H+1,s.gs,s.os⟩/\Kp z w w'):=Qw z u1 u2 s w hd ok.c12 ok.w12 ok.h12 (λe=>q (.inl e)) (λe=>q (.inr e))
  have Q:Hid (¬(s.c=0\/s.c<s.W)):=q;have T:Hid (Two w (z+1) u1 u2 s.gs s.os):=ht;have L:Hid (z<w.heap.size):=hd.lt;clear q hd ht ok;go_enter Tryz.func110,Tryz.ntmps110;go_wp2_with fail
  refine Calls.mono K.out ?_;rintro e w1 ⟨rfl,hd1,hk1⟩;have D1:Hid (Dt w1 z u1 u2 ⟨0,s.c,s.H+1,s.gs,s.os⟩):=hd1;have K1:Hid (Kp z w w1):=hk1;clear hd1 hk1;go_wp2;go_ret;refine .inr ⟨_,by rw[HS.out,if_neg Q.out],rfl,⟨u1,u2,D1.out,T.out.kp K1.out (Nat.lt_succ_self _)⟩,Kp.below (Below.refl _ _) K1.out (Nat.le_of_lt L.out) (Nat.le_refl _)⟩
theorem Ec(z:Nat)(s:Fd.St)(b:UInt8)(w:World)(h:Dr w z s)(ok:wu s)(hb:b≠10):
 Calls Tryz.prog 110 #[.pointer (some ⟨z,0,none⟩),.int .u8 (b.toNat:Nat)] w λe w'=>(∃f,Fd.step s b=.inl f/\e=.returned (.iface 90 (int i64 f))/\f≠0/\Below z w w')\/(∃s',Fd.step s b=.inr s'/\e=.returned .nilIface/\Dr w' z s'/\Below z w w'):=by
 obtain⟨u1,u2,hd,ht⟩:=h;have hb2:=b.toNat_lt;have hb3:¬((b.toNat:Nat):Int)=10:=by
  intro e;have e2:b.toNat=10:=by omega
  exact hb (UInt8.toNat_inj.1 e2)
 have M:Hid (∀w,Calls Tryz.prog 153 #[.int .u8 (b.toNat:Nat)] w λe w'=>(∃g o,Fd.meant b=some (g,o)/\e=.returned (.tuple #[int i64 g,int i64 o,.bool true])/\w'=w)\/(Fd.meant b=none/\e=.returned (.tuple #[int i64 (-1),int i64 0,.bool false])/\w'=w)):=Eb b;have HB:Hid (b≠10):=hb;have D:Hid (Dt w z u1 u2 s):=hd;have T:Hid (Two w (z+1) u1 u2 s.gs s.os):=ht;have K:Hid (wu s):=ok;clear hb hd ht ok;generalize b.toNat=n at *;go_enter Tryz.func110,Tryz.ntmps110;go_wp2_with fail
 refine(M.out _).mono ?_;rintro e w1 hm;rcases hm with⟨g,o,hm,rfl,rfl⟩|⟨hm,rfl,rfl⟩
 ·have HS:Hid _:=step_some (s:=s) HB.out hm
  have c0:=D.out.c0;have c1:=D.out.c1;have c2:=D.out.c2;have c3:=D.out.c3;have c4:=D.out.c4;obtain⟨c,W,H,gs,os⟩:=s;simp only at c0 c1 c4;have k12:=K.out.c12;have w12:=K.out.w12;have h12:=K.out.h12;simp only at k12 w12 h12;clear hm M;by_cases q1:0<H/\c=W
  ·obtain⟨Yy,Xc⟩:=q1
   have Qx:Hid (Fd.step ⟨c,W,H,gs,os⟩ b=.inl 2):=by unfold Hid;rw[HS.out,if_pos ⟨Yy,Xc⟩]
   subst Xc;go_wp2_with fail
   go_quiet (fail);go_wp2;go_ret;exact .inl ⟨2,Qx.out,rfl,by decide,_root_.Go.below_drewN (Below.refl _ _) _⟩
  ·have HS1:Hid (Fd.step ⟨c,W,H,gs,os⟩ b=if c=12\/H=12 then .inl 4 else .inr ⟨c+1,W,H,gs++[g],os++[o]⟩):=by unfold Hid;rw[HS.out,if_neg q1]
   clear HS;go_wp2_with fail
   go_cut [39] (λv W'=>v=.bool false/\∃n,W'=w1.drewN n)
   case first=>
    by_cases q2:H=0
    ·subst q2
     go_quiet (fail);go_wp2_with fail
     go_meet
     case rel=>exact⟨rfl,_,rfl⟩
    ·have q3:0<H:=by omega
     have q4:¬c=W:=λe=>q1 ⟨q3,e⟩
     have Zb:((c:Int)==(W:Int))=false:=by rw[beq_eq_false_iff_ne];omega
     clear q1;go_quiet (fail);go_wp2_with fail
     go_meet
     case rel=>exact⟨rfl,_,rfl⟩
   case rest=>
    obtain⟨rfl,nn,hn⟩:=hcut;have kb:Below w1.heap.size w1 wc:=by rw[hn];exact _root_.Go.below_drewN (Below.refl _ _) _
    have D2:Hid (Dt wc z u1 u2 ⟨c,W,H,gs,os⟩):=D.out.below kb D.out.lt;have T2:Hid (Two wc (z+1) u1 u2 gs os):=T.out.below kb (Nat.le_refl _);have B2:Hid (Below z w1 wc):=kb.mono (Nat.le_of_lt D.out.lt);clear kb hn c0 c1 c2 c3 c4 q1 D T;have c0:=D2.out.c0;have c1:=D2.out.c1;have c2:=D2.out.c2;have c3:=D2.out.c3;have c4:=D2.out.c4;simp only at c0 c1 c4;by_cases q5:c=12
    ·subst q5
     have Qx:Hid (Fd.step ⟨12,W,H,gs,os⟩ b=.inl 4):=by unfold Hid;rw[HS1.out,if_pos (.inl rfl)]
     go_wp2;go_ret;exact .inl ⟨4,Qx.out,rfl,by decide,B2.out⟩
    ·have Zc:((c:Int)==12)=false:=by rw[beq_eq_false_iff_ne];omega
     by_cases q6:H=12
     ·subst q6
      have Qx:Hid (Fd.step ⟨c,W,12,gs,os⟩ b=.inl 4):=by unfold Hid;rw[HS1.out,if_pos (.inr rfl)]
      go_wp2;go_ret;exact .inl ⟨4,Qx.out,rfl,by decide,B2.out⟩
     ·have Zd:((H:Int)==12)=false:=by rw[beq_eq_false_iff_ne];omega
      have Qx:Hid (Fd.step ⟨c,W,H,gs,os⟩ b=.inr ⟨c+1,W,H,gs++[g],os++[o]⟩):=by unfold Hid;rw[HS1.out,if_neg (by omega)]
      have gl:=K.out.gl;have ol:=K.out.ol;simp only at gl ol;have L2:Hid (z<wc.heap.size):=D2.out.lt;clear HS1;go_wp2_with (at_builtin;refine iC _ rfl _ _ rfl (z+1) _ gs rfl (T2.out.o1.alloc _) ⟨wc.heap.size,0,none⟩ g rfl (by simp) (by omega) (by have:=L2.out;simp;omega) ?_);intro g1 cap1 w3 o3 g3 a3 l3;have hob:∀k,u1.ownBlock=some k->z+1<=k:=λk hk=>(T2.out.o1.block k hk).1
      have b3:Below (z+1) wc w3:=((Below.refl _ _).alloc L2.out _).grown g3 (by have:=L2.out;simp;omega) hob;have D3:Dt w3 z u1 u2 ⟨c,W,H,gs,os⟩:=D2.out.below b3 (Nat.lt_succ_self _);have O3:Ow w3 (z+1) u2 os:=(T2.out.o2.alloc _).kept g3 (by
       cases hq:u2.ownBlock with
       |none=>exact .inl rfl
       |some k=>exact .inr (λe=>T2.out.ne k e.symm hq))
      have N3:Hid (∀k,u2.ownBlock=some k->k≠g1):=by
       intro k hk e;subst e;rcases a3 with a3|a3
       ·exact T2.out.ne _ a3 hk
       ·have:=(T2.out.o2.block _ hk).2
        try simp at a3
        omega
      have K3:Kp z w3 (w3.setCell ⟨z,2,none⟩ (slice (some ⟨g1,0,none⟩) (gs.length+1) cap1)):=Kp.set _ _ _;have T3:Hid (Two (w3.setCell ⟨z,2,none⟩ (slice (some ⟨g1,0,none⟩) (gs.length+1) cap1)) (z+1) (slice (some ⟨g1,0,none⟩) (gs.length+1) cap1) u2 (gs++[g]) os):=
       (show Two w3 (z+1) (slice (some ⟨g1,0,none⟩) (gs.length+1) cap1) u2 (gs++[g]) os from⟨o3,O3,λk hk e=>N3.out k e (Option.some.inj hk).symm⟩).kp K3 (Nat.lt_succ_self _)
      have D4:Hid (Dt (w3.setCell ⟨z,2,none⟩ (slice (some ⟨g1,0,none⟩) (gs.length+1) cap1)) z (slice (some ⟨g1,0,none⟩) (gs.length+1) cap1) u2 ⟨c,W,H,gs++[g],os⟩):=by
       unfold Hid Dt;rw[heap_setCell_same w3 z 2 _ _ _ D3];simp
      have B4:Hid (Below z w1 (w3.setCell ⟨z,2,none⟩ (slice (some ⟨g1,0,none⟩) (gs.length+1) cap1))):=(B2.out.trans (b3.mono (Nat.le_succ _))).setCell (Nat.le_refl _) _;have e2:=D3.c2;have e3:=D3.c3;have f2:=D3.fz 2;have z3:Hid (z<w3.heap.size):=D3.lt;clear o3 g3 a3 l3 hob b3 D3 O3 K3 c0 c1 c2 c3 c4;go_wp2_with (at_builtin;refine iC _ rfl _ _ rfl (z+1) _ os rfl (T3.out.o2.alloc _) ⟨w3.heap.size,0,none⟩ o rfl (by rw[World.cell?_alloc_at _ _ _ _ (by simp)];rfl) (by omega) (by have:=z3.out;simp;omega) ?_);intro g2 cap2 w5 o5 g5 a5 l5;have hob:∀k,u2.ownBlock=some k->z+1<=k:=λk hk=>(T3.out.o2.block k hk).1
      have b5:Below (z+1) (w3.setCell ⟨z,2,none⟩ (slice (some ⟨g1,0,none⟩) (gs.length+1) cap1)) w5:=((Below.refl _ _).alloc (by have:=z3.out;simp;omega) _).grown g5 (by have:=z3.out;simp;omega) hob;have D5:Dt w5 z (slice (some ⟨g1,0,none⟩) (gs.length+1) cap1) u2 ⟨c,W,H,gs++[g],os⟩:=D4.out.below b5 (Nat.lt_succ_self _);have O5:Ow w5 (z+1) (slice (some ⟨g1,0,none⟩) (gs.length+1) cap1) (gs++[g]):=(T3.out.o1.alloc _).kept g5 (by
       cases hq:(slice (some ⟨g1,0,none⟩) (gs.length+1) cap1).ownBlock with
       |none=>exact .inl rfl
       |some k=>exact .inr (λe=>T3.out.ne k hq e.symm))
      have N5:Hid (∀k,(slice (some ⟨g1,0,none⟩) (gs.length+1) cap1).ownBlock=some k->k≠g2):=by
       intro k hk e;subst e;rcases a5 with a5|a5
       ·exact T3.out.ne _ hk a5
       ·have:=(T3.out.o1.block _ hk).2
        simp at this
        try simp at a5
        omega
      have K5:Kp z w5 (w5.setCell ⟨z,3,none⟩ (slice (some ⟨g2,0,none⟩) (os.length+1) cap2)):=Kp.set _ _ _;have T5:Hid (Two (w5.setCell ⟨z,3,none⟩ (slice (some ⟨g2,0,none⟩) (os.length+1) cap2)) (z+1) (slice (some ⟨g1,0,none⟩) (gs.length+1) cap1) (slice (some ⟨g2,0,none⟩) (os.length+1) cap2) (gs++[g]) (os++[o])):=
       (show Two w5 (z+1) (slice (some ⟨g1,0,none⟩) (gs.length+1) cap1) (slice (some ⟨g2,0,none⟩) (os.length+1) cap2) (gs++[g]) (os++[o]) from⟨O5,o5,λk hk e=>N5.out k hk (Option.some.inj e).symm⟩).kp K5 (Nat.lt_succ_self _)
      have D6:Hid (Dt (w5.setCell ⟨z,3,none⟩ (slice (some ⟨g2,0,none⟩) (os.length+1) cap2)) z (slice (some ⟨g1,0,none⟩) (gs.length+1) cap1) (slice (some ⟨g2,0,none⟩) (os.length+1) cap2) ⟨c,W,H,gs++[g],os++[o]⟩):=by
       unfold Hid Dt;rw[heap_setCell_same w5 z 3 _ _ _ D5];simp
      have B6:Hid (Below z w1 (w5.setCell ⟨z,3,none⟩ (slice (some ⟨g2,0,none⟩) (os.length+1) cap2))):=(B4.out.trans (b5.mono (Nat.le_succ _))).setCell (Nat.le_refl _) _;have e4:w5.cell? ⟨z,3,none⟩=some u2:=D5.c3;have e5:w5.cell? ⟨z,4,none⟩=some (int i64 (c:Nat)):=D5.c4;have f3:=D5.fz 3;have f4:=D5.fz 4;clear o5 g5 a5 l5 hob b5 D5 O5 K5 e2 e3 f2;go_wp2;go_ret;refine .inr ⟨_,Qx.out,rfl,⟨(slice (some ⟨g1,0,none⟩) (gs.length+1) cap1),(slice (some ⟨g2,0,none⟩) (os.length+1) cap2),?_,T5.out.kp (Kp.set _ _ _) (Nat.lt_succ_self _)⟩,B6.out.setCell (Nat.le_refl _) _⟩;unfold Dt;rw[heap_setCell_same _ z 4 _ _ _ D6.out];simp
 ·have HS:Hid (Fd.step s b=.inl 2):=step_none HB.out hm
  go_wp2_with fail
  go_quiet (fail);go_wp2;go_ret;exact .inl ⟨2,HS.out,rfl,by decide,_root_.Go.below_drewN (Below.refl _ _) _⟩
theorem Ed(z:Nat)(s:Fd.St)(b:UInt8)(w:World)(h:Dr w z s)(ok:wu s):
 Calls Tryz.prog 110 #[.pointer (some ⟨z,0,none⟩),.int .u8 (b.toNat:Nat)] w λe w'=>(∃f,Fd.step s b=.inl f/\e=.returned (.iface 90 (int i64 f))/\f≠0/\Below z w w')\/(∃s',Fd.step s b=.inr s'/\e=.returned .nilIface/\Dr w' z s'/\Below z w w'):=by
 by_cases hb:b=10
 ·subst hb
  exact JE z s w h ok
 ·exact Ec z s b w h ok hb
theorem Qy{l:List UInt8}{k:Nat}(st:Fd.St)(h:k<l.length):Fd.run st k (l.drop k)=match Fd.step st l[k] with| .inl e=>.inl (k,e)| .inr s'=>Fd.run s' (k+1) (l.drop (k+1)):=by
 rw[List.drop_eq_getElem_cons h];rfl
def Says(l:List UInt8)(e:Ending)(w':World):Prop:=
 (∃(i:Nat) (f:Int),Fd.parse l=.inl (i,f)/\e=.returned (.tuple #[.agg #[int i64 0,int i64 0,slice none 0 0,slice none 0 0],int i64 (i:Nat),.iface 90 (int i64 f)])/\f≠0)\/
 (∃st u1 u2,Fd.parse l=.inr st/\e=.returned (.tuple #[.agg #[int i64 (st.W:Nat),int i64 (st.H:Nat),u1,u2],int i64 0,.nilIface])/\Ro w' u1 st.gs/\Ro w' u2 st.os)
def NH(b:Nat)(l:List UInt8)(e:Ending)(w':World):Prop:=
 (∃(i:Nat) (f:Int),Fd.parse l=.inl (i,f)/\e=.returned (.tuple #[.agg #[int i64 0,int i64 0,slice none 0 0,slice none 0 0],int i64 (i:Nat),.iface 90 (int i64 f)])/\f≠0)\/
 (∃st u1 u2,Fd.parse l=.inr st/\e=.returned (.tuple #[.agg #[int i64 (st.W:Nat),int i64 (st.H:Nat),u1,u2],int i64 0,.nilIface])/\Two w' (b+1+1) u1 u2 st.gs st.os)
theorem Ee(s:ByteArray)(w:World)(hs:s.size<=maxLen):
 Calls Tryz.prog 56 #[.string s] w λe w'=>NH w.heap.size s.data.toList e w'/\Below w.heap.size w w':=by
 unfold maxLen at hs;generalize hl:s.data.toList=l;have Hl:Hid (s.data.toList=l):=hl;have Ll:Hid (l.length=s.size):=by unfold Hid;rw[<-hl];rfl
 clear hl;have P:Hid (Fd.parse l=match Fd.run Fd.st0 0 l with| .inl x=>.inl x| .inr s=>if 0<s.c\/s.H=0 then .inl (l.length,2) else .inr s):=rfl;go_enter Tryz.func56,Tryz.ntmps56;go_wp2_with fail
 have B0:Hid (Below w.heap.size w ((w.alloc (Obj.cells #[int i64 0,int i64 0,slice none 0 0,slice none 0 0] 25)).alloc (Obj.cells #[int i64 0,int i64 0,slice none 0 0,slice none 0 0,int i64 0] 151))):=((Below.refl _ _).alloc (Nat.le_refl _) _).alloc (by simp) _;have D0:Hid (Dr ((w.alloc (Obj.cells #[int i64 0,int i64 0,slice none 0 0,slice none 0 0] 25)).alloc (Obj.cells #[int i64 0,int i64 0,slice none 0 0,slice none 0 0,int i64 0] 151)) (w.heap.size+1) Fd.st0):=by
  refine⟨slice none 0 0,slice none 0 0,?_,⟨Ow.nil _ _,Ow.nil _ _,λk h=>by cases h⟩⟩;have e:(w.alloc (Obj.cells #[int i64 0,int i64 0,slice none 0 0,slice none 0 0] 25)).heap.size=w.heap.size+1:=by simp
  unfold Dt;rw[<-e];exact heap_alloc_new _ _
 have X0:Hid (Bf ((w.alloc (Obj.cells #[int i64 0,int i64 0,slice none 0 0,slice none 0 0] 25)).alloc (Obj.cells #[int i64 0,int i64 0,slice none 0 0,slice none 0 0,int i64 0] 151)) w.heap.size 0 0 (slice none 0 0) (slice none 0 0)):=
  (Bf.mk' (w:=w) 0 0 (slice none 0 0) (slice none 0 0) rfl).below ((Below.refl _ _).alloc (Nat.le_refl _) _) (by simp)
 have Z0:Hid (∀i,((w.alloc (Obj.cells #[int i64 0,int i64 0,slice none 0 0,slice none 0 0] 25)).alloc (Obj.cells #[int i64 0,int i64 0,slice none 0 0,slice none 0 0,int i64 0] 151)).frozen? ⟨w.heap.size,i,none⟩=false):=by
  intro i;rw[((Below.refl _ (w.alloc (Obj.cells #[int i64 0,int i64 0,slice none 0 0,slice none 0 0] 25))).alloc (Nat.le_refl _) _).frozen (p:=⟨w.heap.size,i,none⟩) (by simp)];simp
 generalize (w.alloc (Obj.cells #[int i64 0,int i64 0,slice none 0 0,slice none 0 0] 25)).alloc (Obj.cells #[int i64 0,int i64 0,slice none 0 0,slice none 0 0,int i64 0] 151)=w0 at *;go_loopw [10] (λi W'=>∃(k:Nat) (st:Fd.St),k<=s.size/\i=int i64 (k:Nat)/\Dr W' (w.heap.size+1) st/\Fd.Inv st (l.take k)/\Fd.run st k (l.drop k)=Fd.run Fd.st0 0 l/\Below (w.heap.size+1) w0 W') (λi _=>s.size-(intOf i).toNat)
 case atStart=>exact⟨0,Fd.st0,Nat.zero_le _,rfl,D0,by simpa using Fd.inv0,by simp,Below.refl _ _⟩
 case round=>
  obtain⟨k,st,hk,rfl,hd,hi,hrun,hb⟩:=hrel;have D:Hid (Dr wr (w.heap.size+1) st):=hd;have I:Hid (Fd.Inv st (l.take k)):=hi;have R:Hid (Fd.run st k (l.drop k)=Fd.run Fd.st0 0 l):=hrun;have B:Hid (Below (w.heap.size+1) w0 wr):=hb;have X:Hid (Bf wr w.heap.size 0 0 (slice none 0 0) (slice none 0 0)):=X0.out.below hb (Nat.lt_succ_self _);have Z:Hid (∀i,wr.frozen? ⟨w.heap.size,i,none⟩=false):=λi=>by rw[hb.frozen (p:=⟨w.heap.size,i,none⟩) (Nat.lt_succ_self _)];exact Z0.out i
  have BW:Hid (Below w.heap.size w wr):=B0.out.trans (hb.mono (Nat.le_succ _));clear hd hi hrun hb D0;by_cases h0:k=s.size
  ·subst h0
   have R2:Hid (Fd.run Fd.st0 0 l=.inr st):=by
    unfold Hid;rw[<-R.out,List.drop_of_length_le (by rw[Ll.out];exact Nat.le_refl _)];rfl
   obtain⟨u1,u2,hd,ht⟩:=D.out;have T:Hid (Two wr (w.heap.size+1+1) u1 u2 st.gs st.os):=ht;have c0:=hd.c0;have c1:=hd.c1;have c2:=hd.c2;have c3:=hd.c3;have c4:=hd.c4;obtain⟨x0,x1,x2,x3⟩:=X.out;have z0:=Z.out 0;have z1:=Z.out 1;have z2:=Z.out 2;have z3:=Z.out 3;have k12:=I.out.c12;have h12:=I.out.h12;have w12:=I.out.w12;obtain⟨c,W,H,gs,os⟩:=st;simp only at c0 c1 c4 k12 h12 w12;have P2:Hid (Fd.parse l=if 0<c\/H=0 then .inl (l.length,2) else .inr ⟨c,W,H,gs,os⟩):=by
    unfold Hid;rw[P.out,R2.out]
   clear hd ht;by_cases q1:0<c
   ·go_wp2
    refine bodyPost_ret (v:=.tuple #[.agg #[int i64 0,int i64 0,slice none 0 0,slice none 0 0],int i64 (s.size:Nat),.iface 90 (int i64 2)]) (by simp[results,Tryz.results56,go_sem,x0,x1,x2,x3]) rfl ⟨.inl ⟨s.size,2,by rw[P2.out,if_pos (.inl q1),Ll.out],rfl,by decide⟩,?_⟩;exact(((BW.out.setCell (Nat.le_refl _) _).setCell (Nat.le_refl _) _).setCell (Nat.le_refl _) _).setCell (Nat.le_refl _) _
   ·obtain rfl:c=0:=by omega
    by_cases q2:H=0
    ·subst q2
     go_wp2;refine bodyPost_ret (v:=.tuple #[.agg #[int i64 0,int i64 0,slice none 0 0,slice none 0 0],int i64 (s.size:Nat),.iface 90 (int i64 2)]) (by simp[results,Tryz.results56,go_sem,x0,x1,x2,x3]) rfl ⟨.inl ⟨s.size,2,by rw[P2.out,Ll.out];simp,rfl,by decide⟩,?_⟩;exact(((BW.out.setCell (Nat.le_refl _) _).setCell (Nat.le_refl _) _).setCell (Nat.le_refl _) _).setCell (Nat.le_refl _) _
    ·have Ze:((H:Int)==0)=false:=by rw[beq_eq_false_iff_ne];omega
     obtain⟨p1,k1,rfl⟩:=T.out.o1.len;obtain⟨p2,k2,rfl⟩:=T.out.o2.len;have KK:Hid (Kp w.heap.size wr ((((wr.setCell ⟨w.heap.size,0,none⟩ (int i64 (W:Nat))).setCell ⟨w.heap.size,1,none⟩ (int i64 (H:Nat))).setCell ⟨w.heap.size,2,none⟩ (slice p1 gs.length k1)).setCell ⟨w.heap.size,3,none⟩ (slice p2 os.length k2))):=(((Kp.set _ _ _).trans (Kp.set _ _ _)).trans (Kp.set _ _ _)).trans (Kp.set _ _ _);go_wp2;refine bodyPost_ret (v:=.tuple #[.agg #[int i64 (W:Nat),int i64 (H:Nat),slice p1 gs.length k1,slice p2 os.length k2],int i64 0,.nilIface]) (by simp[results,Tryz.results56,go_sem,x0,x1,x2,x3]) rfl ⟨.inr ⟨_,_,_,by rw[P2.out,if_neg (by omega)],rfl,?_⟩,?_⟩
     ·exact T.out.kp KK.out (by omega)
     ·exact(((BW.out.setCell (Nat.le_refl _) _).setCell (Nat.le_refl _) _).setCell (Nat.le_refl _) _).setCell (Nat.le_refl _) _
  ·have hks:k<s.size:=by omega
   have hkl:k<l.length:=by rw[Ll.out];exact hks
   have RA:=Qy st hkl;rw[R.out] at RA;have eb:l[k]=s[k]:=by
    have:=Hl.out;subst this;rfl
   rw[eb] at RA;have TY:Hid _:=RA;have TK:Hid (l.take (k+1)=l.take k++[s[k]]):=by unfold Hid;rw[List.take_succ_eq_append_getElem hkl,eb]
   have KR:Hid (Calls Tryz.prog 110 #[.pointer (some ⟨w.heap.size+1,0,none⟩),.int .u8 (s[k].toNat:Nat)] wr λe w'=>(∃f,Fd.step st s[k]=.inl f/\e=.returned (.iface 90 (int i64 f))/\f≠0/\Below (w.heap.size+1) wr w')\/(∃s',Fd.step st s[k]=.inr s'/\e=.returned .nilIface/\Dr w' (w.heap.size+1) s'/\Below (w.heap.size+1) wr w')):=Ed _ st s[k] wr D.out (wu.of I.out);clear RA eb;go_wp2_with fail
   refine Calls.mono KR.out ?_;rintro e w1 hm;rcases hm with⟨f,hst,rfl,hf,hb⟩|⟨st',hst,rfl,hd',hb⟩
   ·have P2:Hid (Fd.parse l=.inl (k,f)):=by
     unfold Hid;rw[P.out,TY.out,hst]
    have Hf:Hid (f≠0):=hf;have B1:Hid (Below w.heap.size w w1):=BW.out.trans (hb.mono (Nat.le_succ _));have X1:Bf w1 w.heap.size 0 0 (slice none 0 0) (slice none 0 0):=X.out.below hb (Nat.lt_succ_self _);have z0:w1.frozen? ⟨w.heap.size,0,none⟩=false:=by rw[hb.frozen (p:=⟨w.heap.size,0,none⟩) (Nat.lt_succ_self _)];exact Z.out 0
    have z1:w1.frozen? ⟨w.heap.size,1,none⟩=false:=by rw[hb.frozen (p:=⟨w.heap.size,1,none⟩) (Nat.lt_succ_self _)];exact Z.out 1
    have z2:w1.frozen? ⟨w.heap.size,2,none⟩=false:=by rw[hb.frozen (p:=⟨w.heap.size,2,none⟩) (Nat.lt_succ_self _)];exact Z.out 2
    have z3:w1.frozen? ⟨w.heap.size,3,none⟩=false:=by rw[hb.frozen (p:=⟨w.heap.size,3,none⟩) (Nat.lt_succ_self _)];exact Z.out 3
    obtain⟨x0,x1,x2,x3⟩:=X1;clear hst hf hb KR TY;go_wp2;refine bodyPost_ret (v:=.tuple #[.agg #[int i64 0,int i64 0,slice none 0 0,slice none 0 0],int i64 (k:Nat),.iface 90 (int i64 f)]) (by simp[results,Tryz.results56,go_sem,x0,x1,x2,x3]) rfl ⟨.inl ⟨k,f,P2.out,rfl,Hf.out⟩,?_⟩;exact(((B1.out.setCell (Nat.le_refl _) _).setCell (Nat.le_refl _) _).setCell (Nat.le_refl _) _).setCell (Nat.le_refl _) _
   ·have I2:Hid (Fd.Inv st' (l.take (k+1))):=by unfold Hid;rw[TK.out];exact I.out.step hst
    have R2:Hid (Fd.run st' (k+1) (l.drop (k+1))=Fd.run Fd.st0 0 l):=by unfold Hid;rw[TY.out,hst]
    have D2:Hid (Dr w1 (w.heap.size+1) st'):=hd';have B2:Hid (Below (w.heap.size+1) w0 w1):=B.out.trans hb;clear hst hd' hb KR TY;go_wp2;go_round
    case rel=>exact⟨k+1,st',by omega,by go_num,D2,I2,R2,B2⟩
    case measure=>simp[intOf];omega
theorem parse_any(s:ByteArray)(w:World)(hs:s.size<=maxLen):
 Calls Tryz.prog 56 #[.string s] w λe w'=>Says s.data.toList e w'/\Below w.heap.size w w':=
 (Ee s w hs).mono λe w' ⟨h,hb⟩=>⟨h.imp id λ⟨st,u1,u2,h1,h2,h3⟩=>⟨st,u1,u2,h1,h2,h3.o1.ro,h3.o2.ro⟩,hb⟩
theorem Tz{w:World}{z:Nat}(hz:w.heap.size=z):Kl (w.alloc (.cells #[.string ⟨#[98,97,115,101]⟩,int i64 50,int i64 0,int i64 0,int i64 4,int i64 0,int i64 50,int i64 5,int i64 0,.bool false,.bool true,.string ⟨#[100,105,103,103,101,114]⟩,int i64 10,int i64 0,int i64 0,int i64 3,int i64 2,int i64 10,int i64 2,int i64 20,.bool false,.bool false,.string ⟨#[102,105,103,104,116,101,114]⟩,int i64 20,int i64 4,int i64 1,int i64 4,int i64 2,int i64 20,int i64 3,int i64 0,.bool false,.bool false] 68)) (slice (some ⟨z,0,none⟩) 3 3) SK:=by
 subst hz;refine⟨_,3,rfl,Nat.le_refl _,by omega,λ_=>⟨_,rfl,by simp,λi k hi=>?_⟩⟩;have hl:i<3:=(List.getElem?_eq_some_iff.1 hi).1;rw[Addr.add_lit,Nat.zero_add]
 match i,hl,hi with
 |0,_,hi=>injection hi with hi;subst hi;constructor<;>simp
 |1,_,hi=>injection hi with hi;subst hi;constructor<;>simp
 |2,_,hi=>injection hi with hi;subst hi;constructor<;>simp
theorem fB(w:World):Calls Tryz.prog 25 #[] w λe w'=>∃u,e=.returned u/\Kl w' u SK/\Below w.heap.size w w':=by
 have KL:Hid (Kl (w.alloc (.cells #[.string ⟨#[98,97,115,101]⟩,int i64 50,int i64 0,int i64 0,int i64 4,int i64 0,int i64 50,int i64 5,int i64 0,.bool false,.bool true,.string ⟨#[100,105,103,103,101,114]⟩,int i64 10,int i64 0,int i64 0,int i64 3,int i64 2,int i64 10,int i64 2,int i64 20,.bool false,.bool false,.string ⟨#[102,105,103,104,116,101,114]⟩,int i64 20,int i64 4,int i64 1,int i64 4,int i64 2,int i64 20,int i64 3,int i64 0,.bool false,.bool false] 68)) (slice (some ⟨w.heap.size,0,none⟩) 3 3) SK/\Below w.heap.size w (w.alloc (.cells #[.string ⟨#[98,97,115,101]⟩,int i64 50,int i64 0,int i64 0,int i64 4,int i64 0,int i64 50,int i64 5,int i64 0,.bool false,.bool true,.string ⟨#[100,105,103,103,101,114]⟩,int i64 10,int i64 0,int i64 0,int i64 3,int i64 2,int i64 10,int i64 2,int i64 20,.bool false,.bool false,.string ⟨#[102,105,103,104,116,101,114]⟩,int i64 20,int i64 4,int i64 1,int i64 4,int i64 2,int i64 20,int i64 3,int i64 0,.bool false,.bool false] 68))):=⟨Tz rfl,(Below.refl _ _).alloc (Nat.le_refl _) _⟩;go_enter Tryz.func25,Tryz.ntmps25;go_wp2;go_ret;exact⟨_,rfl,KL.out.1,KL.out.2⟩
def Nz(z:Nat)(u:Value):Prop:=∀b,u.ownBlock=some b->b≠z
def TB(w:World)(Y:WV)(v:Value)(V:World):Prop:=∃z u1 u2 u3 u4 u5,v=.pointer (some ⟨z,0,none⟩)/\w.heap.size<z/\Below w.heap.size w V/\Wx V w.heap.size (int i64 0) (int i64 0) (int i64 0) (int i64 0) (slice none 0 0) (slice none 0 0) (slice none 0 0) (slice none 0 0) (slice none 0 0)/\Wx V z (int i64 Y.turn) (int i64 Y.next) (int i64 Y.wide) (int i64 Y.high) u1 u2 u3 u4 u5/\(Ow V (w.heap.size+1) u1 Y.gs/\Ow V (w.heap.size+1) u2 Y.os/\Ow V (w.heap.size+1) u3 Y.gold/\bZ V (w.heap.size+1) u4 Y.us/\bM V (w.heap.size+1) u5 Y.qs)/\Nz z u1/\Nz z u2/\Nz z u3/\Nz z u4/\Nz z u5
theorem yT:S0.turn=0/\S0.next=1/\S0.wide=4/\S0.high=2/\S0.gs.length=8/\S0.os.length=8/\S0.gold.length=2/\S0.us.length=0/\S0.qs.length=0:=⟨rfl,rfl,rfl,rfl,rfl,rfl,rfl,rfl,rfl⟩
theorem Qz:S1.turn=0/\S1.next=2/\S1.wide=4/\S1.high=2/\S1.gs.length=8/\S1.os.length=8/\S1.gold.length=2/\S1.us.length=1/\S1.qs.length=0:=⟨rfl,rfl,rfl,rfl,rfl,rfl,rfl,rfl,rfl⟩
theorem QC:S2.turn=0/\S2.next=3/\S2.wide=4/\S2.high=2/\S2.gs.length=8/\S2.os.length=8/\S2.gold.length=2/\S2.us.length=2/\S2.qs.length=0:=⟨rfl,rfl,rfl,rfl,rfl,rfl,rfl,rfl,rfl⟩
theorem JF:S3.turn=0/\S3.next=4/\S3.wide=4/\S3.high=2/\S3.gs.length=8/\S3.os.length=8/\S3.gold.length=2/\S3.us.length=3/\S3.qs.length=0:=⟨rfl,rfl,rfl,rfl,rfl,rfl,rfl,rfl,rfl⟩
theorem kE{r:Value}(h:Er r 0):r=.nilIface:=by
 rcases h with⟨-,h⟩|⟨h,-⟩
 ·exact h
 ·exact absurd rfl h
theorem JG{w w':World}{y z:Nat}{a b:Int}{u1 u2:Value}(h:Bx w y a b u1 u2)(k:Kp z w w')(hn:y≠z):Bx w' y a b u1 u2:=by
 have hc:∀i,w'.cell? ⟨y,i,none⟩=w.cell? ⟨y,i,none⟩:=λi=>by
  have:=k.block y h.lt hn;simp only[World.cell?,this]
 exact⟨by rw[hc];exact h.c0,by rw[hc];exact h.c1,by rw[hc];exact h.c2,by rw[hc];exact h.c3⟩
theorem dB{z:Nat}{w w':World}{base:Nat}{T:TypeId}{size:Nat}{u:Value}{n:Nat}{cs:List Value}(h:w.ownsRow base T size u n cs)(k:Kp z w w')(hz:Nz z u):w'.ownsRow base T size u n cs:=by
 refine⟨h.1,?_⟩;rcases h.2 with h1|⟨g,cap,cur,h1,h2,h3,h4⟩
 ·exact .inl h1
 ·exact .inr ⟨g,cap,cur,h1,h2,(k.block g (lt_of_block h3) (hz g (by rw[h1];rfl))).trans h3,h4⟩
theorem t_{w V:World}{z:Nat}{Y:WV}{u1 u2 u3 u4 u5 d0 d1 d2 d3 d4 d5 d6 d7 d8:Value}(hz:w.heap.size<z)(B:Below w.heap.size w V)(R:Wx V w.heap.size (int i64 0) (int i64 0) (int i64 0) (int i64 0) (slice none 0 0) (slice none 0 0) (slice none 0 0) (slice none 0 0) (slice none 0 0))(Z:Wx V z d0 d1 d2 d3 d4 d5 d6 d7 d8)
 (O:Ow V (w.heap.size+1) u1 Y.gs/\Ow V (w.heap.size+1) u2 Y.os/\Ow V (w.heap.size+1) u3 Y.gold/\bZ V (w.heap.size+1) u4 Y.us/\bM V (w.heap.size+1) u5 Y.qs) (N:Nz z u1/\Nz z u2/\Nz z u3/\Nz z u4/\Nz z u5):
 TB w Y (.pointer (some ⟨z,0,none⟩)) (((((((((V.setCell ⟨z,0,none⟩ (int i64 Y.turn)).setCell ⟨z,1,none⟩ (int i64 Y.next)).setCell ⟨z,2,none⟩ (int i64 Y.wide)).setCell ⟨z,3,none⟩ (int i64 Y.high)).setCell ⟨z,4,none⟩ u1).setCell ⟨z,5,none⟩ u2).setCell ⟨z,6,none⟩ u3).setCell ⟨z,7,none⟩ u4).setCell ⟨z,8,none⟩ u5):=by
 have K:=aK V z (int i64 Y.turn) (int i64 Y.next) (int i64 Y.wide) (int i64 Y.high) u1 u2 u3 u4 u5;exact⟨z,u1,u2,u3,u4,u5,rfl,hz,K.below B B.size (Nat.le_of_lt hz),R.kp K (by omega),Z.put _ _ _ _ _ _ _ _ _,⟨dB O.1 K N.1,dB O.2.1 K N.2.1,dB O.2.2.1 K N.2.2.1,dB O.2.2.2.1 K N.2.2.2.1,dB O.2.2.2.2 K N.2.2.2.2⟩,N⟩
theorem Ef(w:World):Calls Tryz.prog 24 #[] w λe w'=>∃u,e=.returned (.tuple #[u,.bool true])/\Wo w' w.heap.size u S3/\Below w.heap.size w w':=by
 go_enter Tryz.func24,Tryz.ntmps24;go_upto_region 1 with fail
 have B0:Hid (Below w.heap.size w (w.alloc (.cells #[int i64 0,int i64 0,int i64 0,int i64 0,slice none 0 0,slice none 0 0,slice none 0 0,slice none 0 0,slice none 0 0] 29))):=(Below.refl _ _).alloc (Nat.le_refl _) _;have R0:Hid (Wx (w.alloc (.cells #[int i64 0,int i64 0,int i64 0,int i64 0,slice none 0 0,slice none 0 0,slice none 0 0,slice none 0 0,slice none 0 0] 29)) w.heap.size (int i64 0) (int i64 0) (int i64 0) (int i64 0) (slice none 0 0) (slice none 0 0) (slice none 0 0) (slice none 0 0) (slice none 0 0)):=Wx.new _ _ _ _ _ _ _ _ _ rfl;generalize (w.alloc (.cells #[int i64 0,int i64 0,int i64 0,int i64 0,slice none 0 0,slice none 0 0,slice none 0 0,slice none 0 0,slice none 0 0] 29))=w0 at *;go_wp2_with fail
 refine(parse_any ⟨#[46,46,46,46,10,46,46,51,46,10]⟩ w0 (by decide)).mono ?_;rintro e w1 ⟨hs,hb⟩;have hp:Fd.parse (⟨#[46,46,46,46,10,46,46,51,46,10]⟩:ByteArray).data.toList=.inr ⟨0,4,2,SG,SO⟩:=Jw;rcases hs with⟨i,f,h1,-⟩|⟨st,u1,u2,h1,h2,r1,r2⟩
 ·rw[hp] at h1;cases h1
 rw[hp] at h1;injection h1 with h1
 subst h1;subst h2;have RO:Hid (Ro w1 u1 SG/\Ro w1 u2 SO):=⟨r1,r2⟩;obtain⟨p1,q1,rfl,-⟩:=r1;obtain⟨p2,q2,rfl,-⟩:=r2;have B1:Hid (Below w.heap.size w w1):=B0.out.trans (hb.mono B0.out.size);have R1:Hid (Wx w1 w.heap.size (int i64 0) (int i64 0) (int i64 0) (int i64 0) (slice none 0 0) (slice none 0 0) (slice none 0 0) (slice none 0 0) (slice none 0 0)):=R0.out.below hb R0.out.lt;clear hb hp B0 R0;have l8:SG.length=8:=rfl;have l8':SO.length=8:=rfl;rw[l8,l8'] at *;clear l8 l8';go_upto_region 2 with fail
 have BA:Hid (Below w1.heap.size w1 (w1.alloc (.cells #[int i64 4,int i64 2,slice p1 8 q1,slice p2 8 q2] 25))):=(Below.refl _ _).alloc (Nat.le_refl _) _;have X2:Hid (Bx (w1.alloc (.cells #[int i64 4,int i64 2,slice p1 8 q1,slice p2 8 q2] 25)) w1.heap.size 4 2 (slice p1 8 q1) (slice p2 8 q2)):=Bx.mk' _ _ _ _ rfl;have FL:Hid (Fl (w1.alloc (.cells #[int i64 4,int i64 2,slice p1 8 q1,slice p2 8 q2] 25)) (.agg #[int i64 4,int i64 2,slice p1 8 q1,slice p2 8 q2]) 4 2 SG SO):=⟨_,_,rfl,RO.out.1.below BA.out,RO.out.2.below BA.out⟩;have R2:Hid (Wx (w1.alloc (.cells #[int i64 4,int i64 2,slice p1 8 q1,slice p2 8 q2] 25)) w.heap.size (int i64 0) (int i64 0) (int i64 0) (int i64 0) (slice none 0 0) (slice none 0 0) (slice none 0 0) (slice none 0 0) (slice none 0 0)):=R1.out.below BA.out R1.out.lt;have B2:Hid (Below w.heap.size w (w1.alloc (.cells #[int i64 4,int i64 2,slice p1 8 q1,slice p2 8 q2] 25))):=B1.out.trans (BA.out.mono B1.out.size);generalize (w1.alloc (.cells #[int i64 4,int i64 2,slice p1 8 q1,slice p2 8 q2] 25))=w2 at *;clear BA B1 R1 RO;have N2:Hid (w.heap.size<w2.heap.size):=by have:=R2.out.lt;exact this
 go_cut [5,6] (λv5 v6 V=>v6=.nilIface/\TB w S0 v5 V)
 case first=>
  refine eY 6 [(true,1),(false,0),(false,2),(true,3),(true,4),(true,5)] [(false,7)] [(false,8)] (λV=>Bx V w1.heap.size 4 2 (slice p1 8 q1) (slice p2 8 q2)) (by kernel_rfl) (by kernel_rfl) (by kernel_rfl) (by decide+kernel) (by decide+kernel) (X2.out.below (Below.refl _ _).drew X2.out.lt) ?_;have X3:Hid (Bx {w2 with drawn:=w2.drawn+1} w1.heap.size 4 2 (slice p1 8 q1) (slice p2 8 q2)):=X2.out.below (Below.refl _ _).drew X2.out.lt;have F3:Hid (Fl {w2 with drawn:=w2.drawn+1} (.agg #[int i64 4,int i64 2,slice p1 8 q1,slice p2 8 q2]) 4 2 SG SO):=FL.out.below (Below.refl _ _).drew;have R3:Hid (Wx {w2 with drawn:=w2.drawn+1} w.heap.size (int i64 0) (int i64 0) (int i64 0) (int i64 0) (slice none 0 0) (slice none 0 0) (slice none 0 0) (slice none 0 0) (slice none 0 0)):=R2.out;have B3:Hid (Below w.heap.size w {w2 with drawn:=w2.drawn+1}):=B2.out.drew;generalize ({w2 with drawn:=w2.drawn+1}:World)=w3 at *;clear X2 FL R2 B2;refine aF rfl (.agg #[int i64 4,int i64 2,slice p1 8 q1,slice p2 8 q2]) (by go_simp) (λV hV=>by obtain⟨f0,f1,f2,f3⟩:=hV;go_simp) ?_;go_simp;refine gQ rfl 25 #[] (by go_simp) (by go_simp) ?_ rfl (.pointer (some ⟨w3.heap.size,0,none⟩)) (w3.alloc (.cells #[int i64 0,int i64 0,int i64 0,int i64 0,slice none 0 0,slice none 0 0,slice none 0 0,slice none 0 0,slice none 0 0] 29)) (by go_simp) (by go_simp) (X3.out.below ((Below.refl _ _).alloc (Nat.le_refl _) _) X3.out.lt) ?_
  ·refine(fB w3).mono ?_
   rintro e w4 ⟨ku,rfl,hk,hb⟩;have K4:Hid (Kl w4 ku SK):=hk;have X4:Hid (Bx w4 w1.heap.size 4 2 (slice p1 8 q1) (slice p2 8 q2)):=X3.out.below hb X3.out.lt;have F4:Hid (Fl w4 (.agg #[int i64 4,int i64 2,slice p1 8 q1,slice p2 8 q2]) 4 2 SG SO):=F3.out.below hb;have R4:Hid (Wx w4 w.heap.size (int i64 0) (int i64 0) (int i64 0) (int i64 0) (slice none 0 0) (slice none 0 0) (slice none 0 0) (slice none 0 0) (slice none 0 0)):=R3.out.below hb R3.out.lt;have B4:Hid (Below w.heap.size w w4):=B3.out.trans (hb.mono B3.out.size);clear hk hb X3 F3 R3 B3;refine⟨_,rfl,X4.out,?_⟩;go_simp;refine gQ rfl 57 #[ku,.agg #[int i64 4,int i64 2,slice p1 8 q1,slice p2 8 q2],int i64 2,int i64 100] (by go_simp) (by go_simp) ?_ rfl (.pointer (some ⟨w4.heap.size,0,none⟩)) (w4.alloc (.cells #[int i64 0,int i64 0,int i64 0,int i64 0,slice none 0 0,slice none 0 0,slice none 0 0,slice none 0 0,slice none 0 0] 29)) (by go_simp) (by go_simp) (X4.out.below ((Below.refl _ _).alloc (Nat.le_refl _) _) X4.out.lt) ?_
   ·refine(new_any ku _ SK 4 2 SG SO 2 100 w4 K4.out dU F4.out).mono ?_
    rintro e w5 ⟨u,r,rfl,hr,ho,hb⟩;rw[Ak] at hr;rw[Qv] at ho;obtain rfl:=kE hr;have X5:Hid (Bx w5 w1.heap.size 4 2 (slice p1 8 q1) (slice p2 8 q2)):=X4.out.below hb X4.out.lt;have R5:Hid (Wx w5 w.heap.size (int i64 0) (int i64 0) (int i64 0) (int i64 0) (slice none 0 0) (slice none 0 0) (slice none 0 0) (slice none 0 0) (slice none 0 0)):=R4.out.below hb R4.out.lt;have B5:Hid (Below w.heap.size w w5):=B4.out.trans (hb.mono B4.out.size);obtain⟨v1,v2,v3,v4,v5,rfl,o1,o2,o3,o4,o5⟩:=ho;obtain⟨a1,b1,rfl⟩:=o1.len;obtain⟨a2,b2,rfl⟩:=o2.len;obtain⟨a3,b3,rfl⟩:=o3.len;obtain⟨a4,b4,rfl⟩:=o4.len;obtain⟨a5,b5,rfl⟩:=o5.len;obtain⟨g1,g2,g3,g4,g5,g6,g7,g8,g9⟩:=yT;simp only[g5] at o1;simp only[g6] at o2;simp only[g7] at o3;simp only[g8] at o4;simp only[g9] at o5;simp only[g1,g2,g3,g4,g5,g6,g7,g8,g9];clear g1 g2 g3 g4 g5 g6 g7 g8 g9;have O5:Hid (Ow w5 (w.heap.size+1) (slice a1 8 b1) S0.gs/\Ow w5 (w.heap.size+1) (slice a2 8 b2) S0.os/\Ow w5 (w.heap.size+1) (slice a3 2 b3) S0.gold/\bZ w5 (w.heap.size+1) (slice a4 0 b4) S0.us/\bM w5 (w.heap.size+1) (slice a5 0 b5) S0.qs):=⟨o1.mono R4.out.lt,o2.mono R4.out.lt,o3.mono R4.out.lt,o4.mono R4.out.lt,o5.mono R4.out.lt⟩;clear hr hb o1 o2 o3 o4 o5 K4 X4 F4 R4 B4;refine⟨_,rfl,X5.out,?_⟩;go_simp;refine aF rfl (.tuple #[.agg #[int i64 0,int i64 1,int i64 4,int i64 2,slice a1 8 b1,slice a2 8 b2,slice a3 2 b3,slice a4 0 b4,slice a5 0 b5],.nilIface]) (by go_simp) (λV hV=>by go_simp) ?_;go_simp;refine aF rfl (.agg #[int i64 0,int i64 1,int i64 4,int i64 2,slice a1 8 b1,slice a2 8 b2,slice a3 2 b3,slice a4 0 b4,slice a5 0 b5]) (by go_simp) (λV hV=>by go_simp) ?_;go_simp;refine aF rfl .nilIface (by go_simp) (λV hV=>by go_simp) ?_;go_simp;have NZ:Hid (Nz w5.heap.size (slice a1 8 b1)/\Nz w5.heap.size (slice a2 8 b2)/\Nz w5.heap.size (slice a3 2 b3)/\Nz w5.heap.size (slice a4 0 b4)/\Nz w5.heap.size (slice a5 0 b5)):=⟨λb hb=>by have:=(O5.out.1.block b hb).2;omega,λb hb=>by have:=(O5.out.2.1.block b hb).2;omega,λb hb=>by have:=(O5.out.2.2.1.block b hb).2;omega,λb hb=>by have:=(O5.out.2.2.2.1.block b hb).2;omega,λb hb=>by have:=(O5.out.2.2.2.2.block b hb).2;omega⟩;have BQ:Hid (Below w5.heap.size w5 (w5.alloc (.cells #[int i64 0,int i64 0,int i64 0,int i64 0,slice none 0 0,slice none 0 0,slice none 0 0,slice none 0 0,slice none 0 0] 29))):=(Below.refl _ _).alloc (Nat.le_refl _) _;have Z6:Hid (Wx (w5.alloc (.cells #[int i64 0,int i64 0,int i64 0,int i64 0,slice none 0 0,slice none 0 0,slice none 0 0,slice none 0 0,slice none 0 0] 29)) w5.heap.size (int i64 0) (int i64 0) (int i64 0) (int i64 0) (slice none 0 0) (slice none 0 0) (slice none 0 0) (slice none 0 0) (slice none 0 0)):=Wx.new _ _ _ _ _ _ _ _ _ rfl;refine iJ rfl (.pointer (some ⟨w5.heap.size,0,none⟩)) (w5.alloc (.cells #[int i64 0,int i64 0,int i64 0,int i64 0,slice none 0 0,slice none 0 0,slice none 0 0,slice none 0 0,slice none 0 0] 29)) (by go_simp) (by go_simp) (X5.out.below BQ.out X5.out.lt) ?_;obtain⟨z,hz⟩:∃z,w5.heap.size=z:=⟨_,rfl⟩;have HZ:Hid (w.heap.size<z):=by rw[<-hz];exact R5.out.lt
    rw[hz] at NZ Z6 BQ ⊢;go_simp;generalize (w5.alloc (.cells #[int i64 0,int i64 0,int i64 0,int i64 0,slice none 0 0,slice none 0 0,slice none 0 0,slice none 0 0,slice none 0 0] 29))=w6 at *;have X6:Hid (Bx w6 w1.heap.size 4 2 (slice p1 8 q1) (slice p2 8 q2)):=X5.out.below BQ.out (by have:=X5.out.lt;omega);have R6:Hid (Wx w6 w.heap.size (int i64 0) (int i64 0) (int i64 0) (int i64 0) (slice none 0 0) (slice none 0 0) (slice none 0 0) (slice none 0 0) (slice none 0 0)):=R5.out.below BQ.out HZ.out;have B6:Hid (Below w.heap.size w w6):=B5.out.trans (BQ.out.mono (by have:=HZ.out;omega));have O6:Hid (Ow w6 (w.heap.size+1) (slice a1 8 b1) S0.gs/\Ow w6 (w.heap.size+1) (slice a2 8 b2) S0.os/\Ow w6 (w.heap.size+1) (slice a3 2 b3) S0.gold/\bZ w6 (w.heap.size+1) (slice a4 0 b4) S0.us/\bM w6 (w.heap.size+1) (slice a5 0 b5) S0.qs):=⟨O5.out.1.below (by rw[hz];exact BQ.out),O5.out.2.1.below (by rw[hz];exact BQ.out),O5.out.2.2.1.below (by rw[hz];exact BQ.out),O5.out.2.2.2.1.below (by rw[hz];exact BQ.out),O5.out.2.2.2.2.below (by rw[hz];exact BQ.out)⟩;have XZ:Hid (w1.heap.size≠z):=by have:=X5.out.lt;unfold Hid;omega
    clear X5 R5 B5 O5 BQ hz;have KW:Hid (Kp z w6 (((((((((w6.setCell ⟨z,0,none⟩ (int i64 0)).setCell ⟨z,1,none⟩ (int i64 1)).setCell ⟨z,2,none⟩ (int i64 4)).setCell ⟨z,3,none⟩ (int i64 2)).setCell ⟨z,4,none⟩ (slice a1 8 b1)).setCell ⟨z,5,none⟩ (slice a2 8 b2)).setCell ⟨z,6,none⟩ (slice a3 2 b3)).setCell ⟨z,7,none⟩ (slice a4 0 b4)).setCell ⟨z,8,none⟩ (slice a5 0 b5))):=aK _ _ _ _ _ _ _ _ _ _ _;have FIN:Hid (TB w S0 (.pointer (some ⟨z,0,none⟩)) (((((((((w6.setCell ⟨z,0,none⟩ (int i64 0)).setCell ⟨z,1,none⟩ (int i64 1)).setCell ⟨z,2,none⟩ (int i64 4)).setCell ⟨z,3,none⟩ (int i64 2)).setCell ⟨z,4,none⟩ (slice a1 8 b1)).setCell ⟨z,5,none⟩ (slice a2 8 b2)).setCell ⟨z,6,none⟩ (slice a3 2 b3)).setCell ⟨z,7,none⟩ (slice a4 0 b4)).setCell ⟨z,8,none⟩ (slice a5 0 b5))):=t_ HZ.out B6.out R6.out Z6.out O6.out NZ.out;obtain⟨x0,x1,x2,x3,x4,x5,x6,x7,x8⟩:=Z6.out.cells;obtain⟨t0,t1,t2,t3,t4,t5,t6,t7,t8⟩:=Z6.out.aT;refine dD rfl (((((((((w6.setCell ⟨z,0,none⟩ (int i64 0)).setCell ⟨z,1,none⟩ (int i64 1)).setCell ⟨z,2,none⟩ (int i64 4)).setCell ⟨z,3,none⟩ (int i64 2)).setCell ⟨z,4,none⟩ (slice a1 8 b1)).setCell ⟨z,5,none⟩ (slice a2 8 b2)).setCell ⟨z,6,none⟩ (slice a3 2 b3)).setCell ⟨z,7,none⟩ (slice a4 0 b4)).setCell ⟨z,8,none⟩ (slice a5 0 b5)) (by go_simp) (by go_simp) (JG X6.out KW.out XZ.out) ?_;go_simp;clear x0 x1 x2 x3 x4 x5 x6 x7 x8 t0 t1 t2 t3 t4 t5 t6 t7 t8;generalize (((((((((w6.setCell ⟨z,0,none⟩ (int i64 0)).setCell ⟨z,1,none⟩ (int i64 1)).setCell ⟨z,2,none⟩ (int i64 4)).setCell ⟨z,3,none⟩ (int i64 2)).setCell ⟨z,4,none⟩ (slice a1 8 b1)).setCell ⟨z,5,none⟩ (slice a2 8 b2)).setCell ⟨z,6,none⟩ (slice a3 2 b3)).setCell ⟨z,7,none⟩ (slice a4 0 b4)).setCell ⟨z,8,none⟩ (slice a5 0 b5))=w7 at *;unfold aQ;refine aC rfl .nilIface w7 (by go_simp) (by go_simp) trivial ?_;go_simp;unfold aH;go_wp2_with fail
    go_meet
    case rel=>exact⟨rfl,FIN.out⟩
   ·
    have BQ:Hid (Below w4.heap.size w4 (w4.alloc (.cells #[int i64 0,int i64 0,int i64 0,int i64 0,slice none 0 0,slice none 0 0,slice none 0 0,slice none 0 0,slice none 0 0] 29))):=(Below.refl _ _).alloc (Nat.le_refl _) _;have ZQ:Hid (Wx (w4.alloc (.cells #[int i64 0,int i64 0,int i64 0,int i64 0,slice none 0 0,slice none 0 0,slice none 0 0,slice none 0 0,slice none 0 0] 29)) w4.heap.size (int i64 0) (int i64 0) (int i64 0) (int i64 0) (slice none 0 0) (slice none 0 0) (slice none 0 0) (slice none 0 0) (slice none 0 0)):=Wx.new _ _ _ _ _ _ _ _ _ rfl;obtain⟨z,hz⟩:∃z,w4.heap.size=z:=⟨_,rfl⟩;have HZ:Hid (w.heap.size<z):=by rw[<-hz];exact R4.out.lt
    have XZ:Hid (w1.heap.size≠z):=by have:=X4.out.lt;unfold Hid;omega
    rw[hz] at ZQ ⊢;go_simp;generalize (w4.alloc (.cells #[int i64 0,int i64 0,int i64 0,int i64 0,slice none 0 0,slice none 0 0,slice none 0 0,slice none 0 0,slice none 0 0] 29))=w4' at *;have K4':Hid (Kl w4' ku SK):=K4.out.below BQ.out;have X4':Hid (Bx w4' w1.heap.size 4 2 (slice p1 8 q1) (slice p2 8 q2)):=X4.out.below BQ.out X4.out.lt;have F4':Hid (Fl w4' (.agg #[int i64 4,int i64 2,slice p1 8 q1,slice p2 8 q2]) 4 2 SG SO):=F4.out.below BQ.out;have R4':Hid (Wx w4' w.heap.size (int i64 0) (int i64 0) (int i64 0) (int i64 0) (slice none 0 0) (slice none 0 0) (slice none 0 0) (slice none 0 0) (slice none 0 0)):=R4.out.below BQ.out R4.out.lt;have B4':Hid (Below w.heap.size w w4'):=B4.out.trans (BQ.out.mono B4.out.size);clear K4 X4 F4 R4 B4 BQ hz;refine aO rfl 57 #[ku,.agg #[int i64 4,int i64 2,slice p1 8 q1,slice p2 8 q2],int i64 2,int i64 100] (by go_simp) (by go_simp) ?_;refine(new_any ku _ SK 4 2 SG SO 2 100 w4' K4'.out dU F4'.out).mono ?_;rintro e w5 ⟨u,r,rfl,hr,ho,hb⟩;rw[Ak] at hr;rw[Qv] at ho;obtain rfl:=kE hr;have X5:Hid (Bx w5 w1.heap.size 4 2 (slice p1 8 q1) (slice p2 8 q2)):=X4'.out.below hb X4'.out.lt;have R5:Hid (Wx w5 w.heap.size (int i64 0) (int i64 0) (int i64 0) (int i64 0) (slice none 0 0) (slice none 0 0) (slice none 0 0) (slice none 0 0) (slice none 0 0)):=R4'.out.below hb R4'.out.lt;have B5:Hid (Below w.heap.size w w5):=B4'.out.trans (hb.mono B4'.out.size);have Z5:Hid (Wx w5 z (int i64 0) (int i64 0) (int i64 0) (int i64 0) (slice none 0 0) (slice none 0 0) (slice none 0 0) (slice none 0 0) (slice none 0 0)):=ZQ.out.below hb ZQ.out.lt;have ZL:Hid (z<w4'.heap.size):=ZQ.out.lt;obtain⟨v1,v2,v3,v4,v5,rfl,o1,o2,o3,o4,o5⟩:=ho;obtain⟨a1,b1,rfl⟩:=o1.len;obtain⟨a2,b2,rfl⟩:=o2.len;obtain⟨a3,b3,rfl⟩:=o3.len;obtain⟨a4,b4,rfl⟩:=o4.len;obtain⟨a5,b5,rfl⟩:=o5.len;obtain⟨g1,g2,g3,g4,g5,g6,g7,g8,g9⟩:=yT;simp only[g5] at o1;simp only[g6] at o2;simp only[g7] at o3;simp only[g8] at o4;simp only[g9] at o5;simp only[g1,g2,g3,g4,g5,g6,g7,g8,g9];clear g1 g2 g3 g4 g5 g6 g7 g8 g9;have NZ:Hid (Nz z (slice a1 8 b1)/\Nz z (slice a2 8 b2)/\Nz z (slice a3 2 b3)/\Nz z (slice a4 0 b4)/\Nz z (slice a5 0 b5)):=⟨λb hb=>by have:=(o1.block b hb).1;have:=ZL.out;omega,λb hb=>by have:=(o2.block b hb).1;have:=ZL.out;omega,λb hb=>by have:=(o3.block b hb).1;have:=ZL.out;omega,λb hb=>by have:=(o4.block b hb).1;have:=ZL.out;omega,λb hb=>by have:=(o5.block b hb).1;have:=ZL.out;omega⟩;have O5:Hid (Ow w5 (w.heap.size+1) (slice a1 8 b1) S0.gs/\Ow w5 (w.heap.size+1) (slice a2 8 b2) S0.os/\Ow w5 (w.heap.size+1) (slice a3 2 b3) S0.gold/\bZ w5 (w.heap.size+1) (slice a4 0 b4) S0.us/\bM w5 (w.heap.size+1) (slice a5 0 b5) S0.qs):=⟨o1.mono R4'.out.lt,o2.mono R4'.out.lt,o3.mono R4'.out.lt,o4.mono R4'.out.lt,o5.mono R4'.out.lt⟩;clear hr hb o1 o2 o3 o4 o5 K4' X4' F4' R4' B4' ZQ ZL;refine⟨_,rfl,X5.out,?_⟩;go_simp;refine au rfl (.tuple #[.agg #[int i64 0,int i64 1,int i64 4,int i64 2,slice a1 8 b1,slice a2 8 b2,slice a3 2 b3,slice a4 0 b4,slice a5 0 b5],.nilIface]) (by go_simp) (λV hV=>by go_simp) ?_;go_simp;generalize w5=w6 at *;have X6:=X5;have R6:=R5;have B6:=B5;have O6:=O5;have Z6:=Z5;clear X5 R5 B5 O5 Z5;refine au rfl (.agg #[int i64 0,int i64 1,int i64 4,int i64 2,slice a1 8 b1,slice a2 8 b2,slice a3 2 b3,slice a4 0 b4,slice a5 0 b5]) (by go_simp) (λV hV=>by go_simp) ?_;go_simp;refine au rfl .nilIface (by go_simp) (λV hV=>by go_simp) ?_;go_simp;have KW:Hid (Kp z w6 (((((((((w6.setCell ⟨z,0,none⟩ (int i64 0)).setCell ⟨z,1,none⟩ (int i64 1)).setCell ⟨z,2,none⟩ (int i64 4)).setCell ⟨z,3,none⟩ (int i64 2)).setCell ⟨z,4,none⟩ (slice a1 8 b1)).setCell ⟨z,5,none⟩ (slice a2 8 b2)).setCell ⟨z,6,none⟩ (slice a3 2 b3)).setCell ⟨z,7,none⟩ (slice a4 0 b4)).setCell ⟨z,8,none⟩ (slice a5 0 b5))):=aK _ _ _ _ _ _ _ _ _ _ _;have FIN:Hid (TB w S0 (.pointer (some ⟨z,0,none⟩)) (((((((((w6.setCell ⟨z,0,none⟩ (int i64 0)).setCell ⟨z,1,none⟩ (int i64 1)).setCell ⟨z,2,none⟩ (int i64 4)).setCell ⟨z,3,none⟩ (int i64 2)).setCell ⟨z,4,none⟩ (slice a1 8 b1)).setCell ⟨z,5,none⟩ (slice a2 8 b2)).setCell ⟨z,6,none⟩ (slice a3 2 b3)).setCell ⟨z,7,none⟩ (slice a4 0 b4)).setCell ⟨z,8,none⟩ (slice a5 0 b5))):=t_ HZ.out B6.out R6.out Z6.out O6.out NZ.out;obtain⟨x0,x1,x2,x3,x4,x5,x6,x7,x8⟩:=Z6.out.cells;obtain⟨t0,t1,t2,t3,t4,t5,t6,t7,t8⟩:=Z6.out.aT;refine dD rfl (((((((((w6.setCell ⟨z,0,none⟩ (int i64 0)).setCell ⟨z,1,none⟩ (int i64 1)).setCell ⟨z,2,none⟩ (int i64 4)).setCell ⟨z,3,none⟩ (int i64 2)).setCell ⟨z,4,none⟩ (slice a1 8 b1)).setCell ⟨z,5,none⟩ (slice a2 8 b2)).setCell ⟨z,6,none⟩ (slice a3 2 b3)).setCell ⟨z,7,none⟩ (slice a4 0 b4)).setCell ⟨z,8,none⟩ (slice a5 0 b5)) (by go_simp) (by go_simp) (JG X6.out KW.out XZ.out) ?_;go_simp;clear x0 x1 x2 x3 x4 x5 x6 x7 x8 t0 t1 t2 t3 t4 t5 t6 t7 t8;generalize (((((((((w6.setCell ⟨z,0,none⟩ (int i64 0)).setCell ⟨z,1,none⟩ (int i64 1)).setCell ⟨z,2,none⟩ (int i64 4)).setCell ⟨z,3,none⟩ (int i64 2)).setCell ⟨z,4,none⟩ (slice a1 8 b1)).setCell ⟨z,5,none⟩ (slice a2 8 b2)).setCell ⟨z,6,none⟩ (slice a3 2 b3)).setCell ⟨z,7,none⟩ (slice a4 0 b4)).setCell ⟨z,8,none⟩ (slice a5 0 b5))=w7 at *;unfold aQ;refine aC rfl .nilIface w7 (by go_simp) (by go_simp) trivial ?_;go_simp;unfold aH;go_wp2_with fail
    go_meet
    case rel=>exact⟨rfl,FIN.out⟩
  ·
   have BQ:Hid (Below w3.heap.size w3 (w3.alloc (.cells #[int i64 0,int i64 0,int i64 0,int i64 0,slice none 0 0,slice none 0 0,slice none 0 0,slice none 0 0,slice none 0 0] 29))):=(Below.refl _ _).alloc (Nat.le_refl _) _;have ZQ:Hid (Wx (w3.alloc (.cells #[int i64 0,int i64 0,int i64 0,int i64 0,slice none 0 0,slice none 0 0,slice none 0 0,slice none 0 0,slice none 0 0] 29)) w3.heap.size (int i64 0) (int i64 0) (int i64 0) (int i64 0) (slice none 0 0) (slice none 0 0) (slice none 0 0) (slice none 0 0) (slice none 0 0)):=Wx.new _ _ _ _ _ _ _ _ _ rfl;obtain⟨z,hz⟩:∃z,w3.heap.size=z:=⟨_,rfl⟩;have HZ:Hid (w.heap.size<z):=by rw[<-hz];exact R3.out.lt
   have XZ:Hid (w1.heap.size≠z):=by have:=X3.out.lt;unfold Hid;omega
   rw[hz] at ZQ ⊢;go_simp;generalize (w3.alloc (.cells #[int i64 0,int i64 0,int i64 0,int i64 0,slice none 0 0,slice none 0 0,slice none 0 0,slice none 0 0,slice none 0 0] 29))=w3' at *;have X3':Hid (Bx w3' w1.heap.size 4 2 (slice p1 8 q1) (slice p2 8 q2)):=X3.out.below BQ.out X3.out.lt;have F3':Hid (Fl w3' (.agg #[int i64 4,int i64 2,slice p1 8 q1,slice p2 8 q2]) 4 2 SG SO):=F3.out.below BQ.out;have R3':Hid (Wx w3' w.heap.size (int i64 0) (int i64 0) (int i64 0) (int i64 0) (slice none 0 0) (slice none 0 0) (slice none 0 0) (slice none 0 0) (slice none 0 0)):=R3.out.below BQ.out R3.out.lt;have B3':Hid (Below w.heap.size w w3'):=B3.out.trans (BQ.out.mono B3.out.size);clear X3 F3 R3 B3 BQ hz;refine aO rfl 25 #[] (by go_simp) (by go_simp) ?_;refine(fB w3').mono ?_;rintro e w4' ⟨ku,rfl,hk,hb⟩;have K4':Hid (Kl w4' ku SK):=hk;have X4':Hid (Bx w4' w1.heap.size 4 2 (slice p1 8 q1) (slice p2 8 q2)):=X3'.out.below hb X3'.out.lt;have F4':Hid (Fl w4' (.agg #[int i64 4,int i64 2,slice p1 8 q1,slice p2 8 q2]) 4 2 SG SO):=F3'.out.below hb;have R4':Hid (Wx w4' w.heap.size (int i64 0) (int i64 0) (int i64 0) (int i64 0) (slice none 0 0) (slice none 0 0) (slice none 0 0) (slice none 0 0) (slice none 0 0)):=R3'.out.below hb R3'.out.lt;have B4':Hid (Below w.heap.size w w4'):=B3'.out.trans (hb.mono B3'.out.size);have Xd:Hid (Wx w4' z (int i64 0) (int i64 0) (int i64 0) (int i64 0) (slice none 0 0) (slice none 0 0) (slice none 0 0) (slice none 0 0) (slice none 0 0)):=ZQ.out.below hb ZQ.out.lt;clear hk hb X3' F3' R3' B3' ZQ;have ZQ:=Xd;clear Xd;refine⟨_,rfl,X4'.out,?_⟩;go_simp;refine aO rfl 57 #[ku,.agg #[int i64 4,int i64 2,slice p1 8 q1,slice p2 8 q2],int i64 2,int i64 100] (by go_simp) (by go_simp) ?_;refine(new_any ku _ SK 4 2 SG SO 2 100 w4' K4'.out dU F4'.out).mono ?_;rintro e w5 ⟨u,r,rfl,hr,ho,hb⟩;rw[Ak] at hr;rw[Qv] at ho;obtain rfl:=kE hr;have X5:Hid (Bx w5 w1.heap.size 4 2 (slice p1 8 q1) (slice p2 8 q2)):=X4'.out.below hb X4'.out.lt;have R5:Hid (Wx w5 w.heap.size (int i64 0) (int i64 0) (int i64 0) (int i64 0) (slice none 0 0) (slice none 0 0) (slice none 0 0) (slice none 0 0) (slice none 0 0)):=R4'.out.below hb R4'.out.lt;have B5:Hid (Below w.heap.size w w5):=B4'.out.trans (hb.mono B4'.out.size);have Z5:Hid (Wx w5 z (int i64 0) (int i64 0) (int i64 0) (int i64 0) (slice none 0 0) (slice none 0 0) (slice none 0 0) (slice none 0 0) (slice none 0 0)):=ZQ.out.below hb ZQ.out.lt;have ZL:Hid (z<w4'.heap.size):=ZQ.out.lt;obtain⟨v1,v2,v3,v4,v5,rfl,o1,o2,o3,o4,o5⟩:=ho;obtain⟨a1,b1,rfl⟩:=o1.len;obtain⟨a2,b2,rfl⟩:=o2.len;obtain⟨a3,b3,rfl⟩:=o3.len;obtain⟨a4,b4,rfl⟩:=o4.len;obtain⟨a5,b5,rfl⟩:=o5.len;obtain⟨g1,g2,g3,g4,g5,g6,g7,g8,g9⟩:=yT;simp only[g5] at o1;simp only[g6] at o2;simp only[g7] at o3;simp only[g8] at o4;simp only[g9] at o5;simp only[g1,g2,g3,g4,g5,g6,g7,g8,g9];clear g1 g2 g3 g4 g5 g6 g7 g8 g9;have NZ:Hid (Nz z (slice a1 8 b1)/\Nz z (slice a2 8 b2)/\Nz z (slice a3 2 b3)/\Nz z (slice a4 0 b4)/\Nz z (slice a5 0 b5)):=⟨λb hb=>by have:=(o1.block b hb).1;have:=ZL.out;omega,λb hb=>by have:=(o2.block b hb).1;have:=ZL.out;omega,λb hb=>by have:=(o3.block b hb).1;have:=ZL.out;omega,λb hb=>by have:=(o4.block b hb).1;have:=ZL.out;omega,λb hb=>by have:=(o5.block b hb).1;have:=ZL.out;omega⟩;have O5:Hid (Ow w5 (w.heap.size+1) (slice a1 8 b1) S0.gs/\Ow w5 (w.heap.size+1) (slice a2 8 b2) S0.os/\Ow w5 (w.heap.size+1) (slice a3 2 b3) S0.gold/\bZ w5 (w.heap.size+1) (slice a4 0 b4) S0.us/\bM w5 (w.heap.size+1) (slice a5 0 b5) S0.qs):=⟨o1.mono R4'.out.lt,o2.mono R4'.out.lt,o3.mono R4'.out.lt,o4.mono R4'.out.lt,o5.mono R4'.out.lt⟩;clear hr hb o1 o2 o3 o4 o5 K4' X4' F4' R4' B4' ZQ ZL;refine⟨_,rfl,X5.out,?_⟩;go_simp;refine au rfl (.tuple #[.agg #[int i64 0,int i64 1,int i64 4,int i64 2,slice a1 8 b1,slice a2 8 b2,slice a3 2 b3,slice a4 0 b4,slice a5 0 b5],.nilIface]) (by go_simp) (λV hV=>by go_simp) ?_;go_simp;generalize w5=w6 at *;have X6:=X5;have R6:=R5;have B6:=B5;have O6:=O5;have Z6:=Z5;clear X5 R5 B5 O5 Z5;refine au rfl (.agg #[int i64 0,int i64 1,int i64 4,int i64 2,slice a1 8 b1,slice a2 8 b2,slice a3 2 b3,slice a4 0 b4,slice a5 0 b5]) (by go_simp) (λV hV=>by go_simp) ?_;go_simp;refine au rfl .nilIface (by go_simp) (λV hV=>by go_simp) ?_;go_simp;have KW:Hid (Kp z w6 (((((((((w6.setCell ⟨z,0,none⟩ (int i64 0)).setCell ⟨z,1,none⟩ (int i64 1)).setCell ⟨z,2,none⟩ (int i64 4)).setCell ⟨z,3,none⟩ (int i64 2)).setCell ⟨z,4,none⟩ (slice a1 8 b1)).setCell ⟨z,5,none⟩ (slice a2 8 b2)).setCell ⟨z,6,none⟩ (slice a3 2 b3)).setCell ⟨z,7,none⟩ (slice a4 0 b4)).setCell ⟨z,8,none⟩ (slice a5 0 b5))):=aK _ _ _ _ _ _ _ _ _ _ _;have FIN:Hid (TB w S0 (.pointer (some ⟨z,0,none⟩)) (((((((((w6.setCell ⟨z,0,none⟩ (int i64 0)).setCell ⟨z,1,none⟩ (int i64 1)).setCell ⟨z,2,none⟩ (int i64 4)).setCell ⟨z,3,none⟩ (int i64 2)).setCell ⟨z,4,none⟩ (slice a1 8 b1)).setCell ⟨z,5,none⟩ (slice a2 8 b2)).setCell ⟨z,6,none⟩ (slice a3 2 b3)).setCell ⟨z,7,none⟩ (slice a4 0 b4)).setCell ⟨z,8,none⟩ (slice a5 0 b5))):=t_ HZ.out B6.out R6.out Z6.out O6.out NZ.out;obtain⟨x0,x1,x2,x3,x4,x5,x6,x7,x8⟩:=Z6.out.cells;obtain⟨t0,t1,t2,t3,t4,t5,t6,t7,t8⟩:=Z6.out.aT;refine dD rfl (((((((((w6.setCell ⟨z,0,none⟩ (int i64 0)).setCell ⟨z,1,none⟩ (int i64 1)).setCell ⟨z,2,none⟩ (int i64 4)).setCell ⟨z,3,none⟩ (int i64 2)).setCell ⟨z,4,none⟩ (slice a1 8 b1)).setCell ⟨z,5,none⟩ (slice a2 8 b2)).setCell ⟨z,6,none⟩ (slice a3 2 b3)).setCell ⟨z,7,none⟩ (slice a4 0 b4)).setCell ⟨z,8,none⟩ (slice a5 0 b5)) (by go_simp) (by go_simp) (JG X6.out KW.out XZ.out) ?_;go_simp;clear x0 x1 x2 x3 x4 x5 x6 x7 x8 t0 t1 t2 t3 t4 t5 t6 t7 t8;generalize (((((((((w6.setCell ⟨z,0,none⟩ (int i64 0)).setCell ⟨z,1,none⟩ (int i64 1)).setCell ⟨z,2,none⟩ (int i64 4)).setCell ⟨z,3,none⟩ (int i64 2)).setCell ⟨z,4,none⟩ (slice a1 8 b1)).setCell ⟨z,5,none⟩ (slice a2 8 b2)).setCell ⟨z,6,none⟩ (slice a3 2 b3)).setCell ⟨z,7,none⟩ (slice a4 0 b4)).setCell ⟨z,8,none⟩ (slice a5 0 b5))=w7 at *;unfold aQ;refine aC rfl .nilIface w7 (by go_simp) (by go_simp) trivial ?_;go_simp;unfold aH;go_wp2_with fail
   go_meet
   case rel=>exact⟨rfl,FIN.out⟩
 case rest=>
  obtain⟨rfl,hS⟩:=hcut;obtain⟨z,c1,c2,c3,c4,c5,rfl,hz,hB,hR,hX,hO,hN⟩:=hS;have HZ:Hid (w.heap.size<z):=hz;have BA0:Hid (Below w.heap.size w wc):=hB;have RA0:Hid (Wx wc w.heap.size (int i64 0) (int i64 0) (int i64 0) (int i64 0) (slice none 0 0) (slice none 0 0) (slice none 0 0) (slice none 0 0) (slice none 0 0)):=hR;have XA0:Hid (Wx wc z (int i64 S0.turn) (int i64 S0.next) (int i64 S0.wide) (int i64 S0.high) c1 c2 c3 c4 c5):=hX;have OA0:Hid (Ow wc (w.heap.size+1) c1 S0.gs/\Ow wc (w.heap.size+1) c2 S0.os/\Ow wc (w.heap.size+1) c3 S0.gold/\bZ wc (w.heap.size+1) c4 S0.us/\bM wc (w.heap.size+1) c5 S0.qs):=hO;clear hz hB hR hX hO hN X2 FL R2 B2 N2;generalize wc=s0 at *;go_upto_region 3 with fail
  refine aJ [(true,1),(false,0),(false,2),(true,3)] [(true,4),(true,5),(false,6),(false,7)] (λV=>Wx V z (int i64 S0.turn) (int i64 S0.next) (int i64 S0.wide) (int i64 S0.high) c1 c2 c3 c4 c5) (by kernel_rfl) (by kernel_rfl) (by kernel_rfl) (by decide+kernel) (by decide+kernel) XA0.out.drew ?_;have X1:Hid (Wx {s0 with drawn:=s0.drawn+1} z (int i64 S0.turn) (int i64 S0.next) (int i64 S0.wide) (int i64 S0.high) c1 c2 c3 c4 c5):=XA0.out;have R1:Hid (Wx {s0 with drawn:=s0.drawn+1} w.heap.size (int i64 0) (int i64 0) (int i64 0) (int i64 0) (slice none 0 0) (slice none 0 0) (slice none 0 0) (slice none 0 0) (slice none 0 0)):=RA0.out;have B1:Hid (Below w.heap.size w {s0 with drawn:=s0.drawn+1}):=BA0.out.drew;have D1:Hid (Below s0.heap.size s0 {s0 with drawn:=s0.drawn+1}):=(Below.refl _ _).drew;generalize ({s0 with drawn:=s0.drawn+1}:World)=v3 at *;have L1:Hid (Wl v3 (.agg #[int i64 S0.turn,int i64 S0.next,int i64 S0.wide,int i64 S0.high,c1,c2,c3,c4,c5]) S0):=⟨_,_,_,_,_,rfl,(OA0.out.1.below D1.out).ro,(OA0.out.2.1.below D1.out).ro,(OA0.out.2.2.1.below D1.out).ro,(OA0.out.2.2.2.1.below D1.out).l,(OA0.out.2.2.2.2.below D1.out).l⟩;clear XA0 RA0 BA0 OA0 D1;refine au rfl (.agg #[int i64 S0.turn,int i64 S0.next,int i64 S0.wide,int i64 S0.high,c1,c2,c3,c4,c5]) (by go_simp) (λV hV=>by obtain⟨x0,x1,x2,x3,x4,x5,x6,x7,x8⟩:=hV.cells;go_simp) ?_;go_simp;refine aO rfl 25 #[] (by go_simp) (by go_simp) ?_;refine(fB v3).mono ?_;rintro e v4 ⟨ku,rfl,hk,hb⟩;have K4:Hid (Kl v4 ku SK):=hk;have X4:Hid (Wx v4 z (int i64 S0.turn) (int i64 S0.next) (int i64 S0.wide) (int i64 S0.high) c1 c2 c3 c4 c5):=X1.out.below hb X1.out.lt;have R4:Hid (Wx v4 w.heap.size (int i64 0) (int i64 0) (int i64 0) (int i64 0) (slice none 0 0) (slice none 0 0) (slice none 0 0) (slice none 0 0) (slice none 0 0)):=R1.out.below hb R1.out.lt;have B4:Hid (Below w.heap.size w v4):=B1.out.trans (hb.mono B1.out.size);have L4:Hid (Wl v4 (.agg #[int i64 S0.turn,int i64 S0.next,int i64 S0.wide,int i64 S0.high,c1,c2,c3,c4,c5]) S0):=L1.out.below hb;clear hk hb X1 R1 B1 L1;refine⟨_,rfl,X4.out,?_⟩;go_simp;refine aO rfl 58 #[ku,.agg #[int i64 S0.turn,int i64 S0.next,int i64 S0.wide,int i64 S0.high,c1,c2,c3,c4,c5],int i64 0,int i64 0,int i64 0] (by go_simp) (by go_simp) ?_;refine(kC ku _ SK S0 0 0 0 v4 K4.out dU L4.out).mono ?_;rintro e v5 ⟨u,r,rfl,hr,ho,hb⟩;rw[Om] at hr;rw[VK] at ho;obtain rfl:=kE hr;have X5:Hid (Wx v5 z (int i64 S0.turn) (int i64 S0.next) (int i64 S0.wide) (int i64 S0.high) c1 c2 c3 c4 c5):=X4.out.below hb X4.out.lt;have R5:Hid (Wx v5 w.heap.size (int i64 0) (int i64 0) (int i64 0) (int i64 0) (slice none 0 0) (slice none 0 0) (slice none 0 0) (slice none 0 0) (slice none 0 0)):=R4.out.below hb R4.out.lt;have B5:Hid (Below w.heap.size w v5):=B4.out.trans (hb.mono B4.out.size);have ZL:Hid (z<v4.heap.size):=X4.out.lt;obtain⟨y1,y2,y3,y4,y5,rfl,o1,o2,o3,o4,o5⟩:=ho;obtain⟨m11,n11,rfl⟩:=o1.len;obtain⟨m12,n12,rfl⟩:=o2.len;obtain⟨m13,n13,rfl⟩:=o3.len;obtain⟨m14,n14,rfl⟩:=o4.len;obtain⟨m15,n15,rfl⟩:=o5.len;obtain⟨g1,g2,g3,g4,g5,g6,g7,g8,g9⟩:=Qz;simp only[g5] at o1;simp only[g6] at o2;simp only[g7] at o3;simp only[g8] at o4;simp only[g9] at o5;simp only[g1,g2,g3,g4,g5,g6,g7,g8,g9];clear g1 g2 g3 g4 g5 g6 g7 g8 g9;have NZ:Hid (Nz z (slice m11 8 n11)/\Nz z (slice m12 8 n12)/\Nz z (slice m13 2 n13)/\Nz z (slice m14 1 n14)/\Nz z (slice m15 0 n15)):=⟨λb hb=>by have:=(o1.block b hb).1;have:=ZL.out;omega,λb hb=>by have:=(o2.block b hb).1;have:=ZL.out;omega,λb hb=>by have:=(o3.block b hb).1;have:=ZL.out;omega,λb hb=>by have:=(o4.block b hb).1;have:=ZL.out;omega,λb hb=>by have:=(o5.block b hb).1;have:=ZL.out;omega⟩;have O5:Hid (Ow v5 (w.heap.size+1) (slice m11 8 n11) S1.gs/\Ow v5 (w.heap.size+1) (slice m12 8 n12) S1.os/\Ow v5 (w.heap.size+1) (slice m13 2 n13) S1.gold/\bZ v5 (w.heap.size+1) (slice m14 1 n14) S1.us/\bM v5 (w.heap.size+1) (slice m15 0 n15) S1.qs):=⟨o1.mono R4.out.lt,o2.mono R4.out.lt,o3.mono R4.out.lt,o4.mono R4.out.lt,o5.mono R4.out.lt⟩;clear hr hb o1 o2 o3 o4 o5 K4 X4 R4 B4 L4 ZL;refine⟨_,rfl,X5.out,?_⟩;go_simp;refine au rfl (.tuple #[.agg #[int i64 0,int i64 2,int i64 4,int i64 2,slice m11 8 n11,slice m12 8 n12,slice m13 2 n13,slice m14 1 n14,slice m15 0 n15],.nilIface]) (by go_simp) (λV hV=>by go_simp) ?_;go_simp;unfold aQ;have KW:Hid (Kp z v5 (((((((((v5.setCell ⟨z,0,none⟩ (int i64 0)).setCell ⟨z,1,none⟩ (int i64 2)).setCell ⟨z,2,none⟩ (int i64 4)).setCell ⟨z,3,none⟩ (int i64 2)).setCell ⟨z,4,none⟩ (slice m11 8 n11)).setCell ⟨z,5,none⟩ (slice m12 8 n12)).setCell ⟨z,6,none⟩ (slice m13 2 n13)).setCell ⟨z,7,none⟩ (slice m14 1 n14)).setCell ⟨z,8,none⟩ (slice m15 0 n15))):=aK _ _ _ _ _ _ _ _ _ _ _;have XA1:Hid (Wx (((((((((v5.setCell ⟨z,0,none⟩ (int i64 0)).setCell ⟨z,1,none⟩ (int i64 2)).setCell ⟨z,2,none⟩ (int i64 4)).setCell ⟨z,3,none⟩ (int i64 2)).setCell ⟨z,4,none⟩ (slice m11 8 n11)).setCell ⟨z,5,none⟩ (slice m12 8 n12)).setCell ⟨z,6,none⟩ (slice m13 2 n13)).setCell ⟨z,7,none⟩ (slice m14 1 n14)).setCell ⟨z,8,none⟩ (slice m15 0 n15)) z (int i64 0) (int i64 2) (int i64 4) (int i64 2) (slice m11 8 n11) (slice m12 8 n12) (slice m13 2 n13) (slice m14 1 n14) (slice m15 0 n15)):=X5.out.put (int i64 0) (int i64 2) (int i64 4) (int i64 2) (slice m11 8 n11) (slice m12 8 n12) (slice m13 2 n13) (slice m14 1 n14) (slice m15 0 n15);obtain⟨x0,x1,x2,x3,x4,x5,x6,x7,x8⟩:=X5.out.cells;obtain⟨t0,t1,t2,t3,t4,t5,t6,t7,t8⟩:=X5.out.aT;refine bD rfl (.agg #[int i64 0,int i64 2,int i64 4,int i64 2,slice m11 8 n11,slice m12 8 n12,slice m13 2 n13,slice m14 1 n14,slice m15 0 n15]) (by go_simp) (λV hV=>by go_simp) ?_;go_simp;refine bD rfl .nilIface (by go_simp) (λV hV=>by go_simp) ?_;go_simp;refine fH rfl (((((((((v5.setCell ⟨z,0,none⟩ (int i64 0)).setCell ⟨z,1,none⟩ (int i64 2)).setCell ⟨z,2,none⟩ (int i64 4)).setCell ⟨z,3,none⟩ (int i64 2)).setCell ⟨z,4,none⟩ (slice m11 8 n11)).setCell ⟨z,5,none⟩ (slice m12 8 n12)).setCell ⟨z,6,none⟩ (slice m13 2 n13)).setCell ⟨z,7,none⟩ (slice m14 1 n14)).setCell ⟨z,8,none⟩ (slice m15 0 n15)) (by go_simp) (by go_simp) trivial ?_;go_simp;clear x0 x1 x2 x3 x4 x5 x6 x7 x8 t0 t1 t2 t3 t4 t5 t6 t7 t8;generalize (((((((((v5.setCell ⟨z,0,none⟩ (int i64 0)).setCell ⟨z,1,none⟩ (int i64 2)).setCell ⟨z,2,none⟩ (int i64 4)).setCell ⟨z,3,none⟩ (int i64 2)).setCell ⟨z,4,none⟩ (slice m11 8 n11)).setCell ⟨z,5,none⟩ (slice m12 8 n12)).setCell ⟨z,6,none⟩ (slice m13 2 n13)).setCell ⟨z,7,none⟩ (slice m14 1 n14)).setCell ⟨z,8,none⟩ (slice m15 0 n15))=s1 at *;have BA1:Hid (Below w.heap.size w s1):=KW.out.below B5.out B5.out.size (Nat.le_of_lt HZ.out);have RA1:Hid (Wx s1 w.heap.size (int i64 0) (int i64 0) (int i64 0) (int i64 0) (slice none 0 0) (slice none 0 0) (slice none 0 0) (slice none 0 0) (slice none 0 0)):=R5.out.kp KW.out (Nat.ne_of_lt HZ.out);have OA1:Hid (Ow s1 (w.heap.size+1) (slice m11 8 n11) S1.gs/\Ow s1 (w.heap.size+1) (slice m12 8 n12) S1.os/\Ow s1 (w.heap.size+1) (slice m13 2 n13) S1.gold/\bZ s1 (w.heap.size+1) (slice m14 1 n14) S1.us/\bM s1 (w.heap.size+1) (slice m15 0 n15) S1.qs):=⟨dB O5.out.1 KW.out NZ.out.1,dB O5.out.2.1 KW.out NZ.out.2.1,dB O5.out.2.2.1 KW.out NZ.out.2.2.1,dB O5.out.2.2.2.1 KW.out NZ.out.2.2.2.1,dB O5.out.2.2.2.2 KW.out NZ.out.2.2.2.2⟩;clear X5 R5 B5 O5 NZ KW;refine aC rfl .nilIface s1 (by go_simp) (by go_simp) trivial ?_;go_simp;unfold aH;go_upto_region 4 with fail
  refine aJ [(true,1),(false,0),(false,2),(true,3)] [(true,4),(true,5),(false,6),(false,7)] (λV=>Wx V z (int i64 S1.turn) (int i64 S1.next) (int i64 S1.wide) (int i64 S1.high) (slice m11 8 n11) (slice m12 8 n12) (slice m13 2 n13) (slice m14 1 n14) (slice m15 0 n15)) (by kernel_rfl) (by kernel_rfl) (by kernel_rfl) (by decide+kernel) (by decide+kernel) XA1.out.drew ?_;have X1:Hid (Wx {s1 with drawn:=s1.drawn+1} z (int i64 S1.turn) (int i64 S1.next) (int i64 S1.wide) (int i64 S1.high) (slice m11 8 n11) (slice m12 8 n12) (slice m13 2 n13) (slice m14 1 n14) (slice m15 0 n15)):=XA1.out;have R1:Hid (Wx {s1 with drawn:=s1.drawn+1} w.heap.size (int i64 0) (int i64 0) (int i64 0) (int i64 0) (slice none 0 0) (slice none 0 0) (slice none 0 0) (slice none 0 0) (slice none 0 0)):=RA1.out;have B1:Hid (Below w.heap.size w {s1 with drawn:=s1.drawn+1}):=BA1.out.drew;have D1:Hid (Below s1.heap.size s1 {s1 with drawn:=s1.drawn+1}):=(Below.refl _ _).drew;generalize ({s1 with drawn:=s1.drawn+1}:World)=v3 at *;have L1:Hid (Wl v3 (.agg #[int i64 S1.turn,int i64 S1.next,int i64 S1.wide,int i64 S1.high,slice m11 8 n11,slice m12 8 n12,slice m13 2 n13,slice m14 1 n14,slice m15 0 n15]) S1):=⟨_,_,_,_,_,rfl,(OA1.out.1.below D1.out).ro,(OA1.out.2.1.below D1.out).ro,(OA1.out.2.2.1.below D1.out).ro,(OA1.out.2.2.2.1.below D1.out).l,(OA1.out.2.2.2.2.below D1.out).l⟩;clear XA1 RA1 BA1 OA1 D1;refine au rfl (.agg #[int i64 S1.turn,int i64 S1.next,int i64 S1.wide,int i64 S1.high,slice m11 8 n11,slice m12 8 n12,slice m13 2 n13,slice m14 1 n14,slice m15 0 n15]) (by go_simp) (λV hV=>by obtain⟨x0,x1,x2,x3,x4,x5,x6,x7,x8⟩:=hV.cells;go_simp) ?_;go_simp;refine aO rfl 25 #[] (by go_simp) (by go_simp) ?_;refine(fB v3).mono ?_;rintro e v4 ⟨ku,rfl,hk,hb⟩;have K4:Hid (Kl v4 ku SK):=hk;have X4:Hid (Wx v4 z (int i64 S1.turn) (int i64 S1.next) (int i64 S1.wide) (int i64 S1.high) (slice m11 8 n11) (slice m12 8 n12) (slice m13 2 n13) (slice m14 1 n14) (slice m15 0 n15)):=X1.out.below hb X1.out.lt;have R4:Hid (Wx v4 w.heap.size (int i64 0) (int i64 0) (int i64 0) (int i64 0) (slice none 0 0) (slice none 0 0) (slice none 0 0) (slice none 0 0) (slice none 0 0)):=R1.out.below hb R1.out.lt;have B4:Hid (Below w.heap.size w v4):=B1.out.trans (hb.mono B1.out.size);have L4:Hid (Wl v4 (.agg #[int i64 S1.turn,int i64 S1.next,int i64 S1.wide,int i64 S1.high,slice m11 8 n11,slice m12 8 n12,slice m13 2 n13,slice m14 1 n14,slice m15 0 n15]) S1):=L1.out.below hb;clear hk hb X1 R1 B1 L1;refine⟨_,rfl,X4.out,?_⟩;go_simp;refine aO rfl 58 #[ku,.agg #[int i64 S1.turn,int i64 S1.next,int i64 S1.wide,int i64 S1.high,slice m11 8 n11,slice m12 8 n12,slice m13 2 n13,slice m14 1 n14,slice m15 0 n15],int i64 0,int i64 1,int i64 1] (by go_simp) (by go_simp) ?_;refine(kC ku _ SK S1 0 1 1 v4 K4.out dU L4.out).mono ?_;rintro e v5 ⟨u,r,rfl,hr,ho,hb⟩;rw[Oo] at hr;rw[VL] at ho;obtain rfl:=kE hr;have X5:Hid (Wx v5 z (int i64 S1.turn) (int i64 S1.next) (int i64 S1.wide) (int i64 S1.high) (slice m11 8 n11) (slice m12 8 n12) (slice m13 2 n13) (slice m14 1 n14) (slice m15 0 n15)):=X4.out.below hb X4.out.lt;have R5:Hid (Wx v5 w.heap.size (int i64 0) (int i64 0) (int i64 0) (int i64 0) (slice none 0 0) (slice none 0 0) (slice none 0 0) (slice none 0 0) (slice none 0 0)):=R4.out.below hb R4.out.lt;have B5:Hid (Below w.heap.size w v5):=B4.out.trans (hb.mono B4.out.size);have ZL:Hid (z<v4.heap.size):=X4.out.lt;obtain⟨y1,y2,y3,y4,y5,rfl,o1,o2,o3,o4,o5⟩:=ho;obtain⟨m21,n21,rfl⟩:=o1.len;obtain⟨m22,n22,rfl⟩:=o2.len;obtain⟨m23,n23,rfl⟩:=o3.len;obtain⟨m24,n24,rfl⟩:=o4.len;obtain⟨m25,n25,rfl⟩:=o5.len;obtain⟨g1,g2,g3,g4,g5,g6,g7,g8,g9⟩:=QC;simp only[g5] at o1;simp only[g6] at o2;simp only[g7] at o3;simp only[g8] at o4;simp only[g9] at o5;simp only[g1,g2,g3,g4,g5,g6,g7,g8,g9];clear g1 g2 g3 g4 g5 g6 g7 g8 g9;have NZ:Hid (Nz z (slice m21 8 n21)/\Nz z (slice m22 8 n22)/\Nz z (slice m23 2 n23)/\Nz z (slice m24 2 n24)/\Nz z (slice m25 0 n25)):=⟨λb hb=>by have:=(o1.block b hb).1;have:=ZL.out;omega,λb hb=>by have:=(o2.block b hb).1;have:=ZL.out;omega,λb hb=>by have:=(o3.block b hb).1;have:=ZL.out;omega,λb hb=>by have:=(o4.block b hb).1;have:=ZL.out;omega,λb hb=>by have:=(o5.block b hb).1;have:=ZL.out;omega⟩;have O5:Hid (Ow v5 (w.heap.size+1) (slice m21 8 n21) S2.gs/\Ow v5 (w.heap.size+1) (slice m22 8 n22) S2.os/\Ow v5 (w.heap.size+1) (slice m23 2 n23) S2.gold/\bZ v5 (w.heap.size+1) (slice m24 2 n24) S2.us/\bM v5 (w.heap.size+1) (slice m25 0 n25) S2.qs):=⟨o1.mono R4.out.lt,o2.mono R4.out.lt,o3.mono R4.out.lt,o4.mono R4.out.lt,o5.mono R4.out.lt⟩;clear hr hb o1 o2 o3 o4 o5 K4 X4 R4 B4 L4 ZL;refine⟨_,rfl,X5.out,?_⟩;go_simp;refine au rfl (.tuple #[.agg #[int i64 0,int i64 3,int i64 4,int i64 2,slice m21 8 n21,slice m22 8 n22,slice m23 2 n23,slice m24 2 n24,slice m25 0 n25],.nilIface]) (by go_simp) (λV hV=>by go_simp) ?_;go_simp;unfold aQ;have KW:Hid (Kp z v5 (((((((((v5.setCell ⟨z,0,none⟩ (int i64 0)).setCell ⟨z,1,none⟩ (int i64 3)).setCell ⟨z,2,none⟩ (int i64 4)).setCell ⟨z,3,none⟩ (int i64 2)).setCell ⟨z,4,none⟩ (slice m21 8 n21)).setCell ⟨z,5,none⟩ (slice m22 8 n22)).setCell ⟨z,6,none⟩ (slice m23 2 n23)).setCell ⟨z,7,none⟩ (slice m24 2 n24)).setCell ⟨z,8,none⟩ (slice m25 0 n25))):=aK _ _ _ _ _ _ _ _ _ _ _;have XA2:Hid (Wx (((((((((v5.setCell ⟨z,0,none⟩ (int i64 0)).setCell ⟨z,1,none⟩ (int i64 3)).setCell ⟨z,2,none⟩ (int i64 4)).setCell ⟨z,3,none⟩ (int i64 2)).setCell ⟨z,4,none⟩ (slice m21 8 n21)).setCell ⟨z,5,none⟩ (slice m22 8 n22)).setCell ⟨z,6,none⟩ (slice m23 2 n23)).setCell ⟨z,7,none⟩ (slice m24 2 n24)).setCell ⟨z,8,none⟩ (slice m25 0 n25)) z (int i64 0) (int i64 3) (int i64 4) (int i64 2) (slice m21 8 n21) (slice m22 8 n22) (slice m23 2 n23) (slice m24 2 n24) (slice m25 0 n25)):=X5.out.put (int i64 0) (int i64 3) (int i64 4) (int i64 2) (slice m21 8 n21) (slice m22 8 n22) (slice m23 2 n23) (slice m24 2 n24) (slice m25 0 n25);obtain⟨x0,x1,x2,x3,x4,x5,x6,x7,x8⟩:=X5.out.cells;obtain⟨t0,t1,t2,t3,t4,t5,t6,t7,t8⟩:=X5.out.aT;refine bD rfl (.agg #[int i64 0,int i64 3,int i64 4,int i64 2,slice m21 8 n21,slice m22 8 n22,slice m23 2 n23,slice m24 2 n24,slice m25 0 n25]) (by go_simp) (λV hV=>by go_simp) ?_;go_simp;refine bD rfl .nilIface (by go_simp) (λV hV=>by go_simp) ?_;go_simp;refine fH rfl (((((((((v5.setCell ⟨z,0,none⟩ (int i64 0)).setCell ⟨z,1,none⟩ (int i64 3)).setCell ⟨z,2,none⟩ (int i64 4)).setCell ⟨z,3,none⟩ (int i64 2)).setCell ⟨z,4,none⟩ (slice m21 8 n21)).setCell ⟨z,5,none⟩ (slice m22 8 n22)).setCell ⟨z,6,none⟩ (slice m23 2 n23)).setCell ⟨z,7,none⟩ (slice m24 2 n24)).setCell ⟨z,8,none⟩ (slice m25 0 n25)) (by go_simp) (by go_simp) trivial ?_;go_simp;clear x0 x1 x2 x3 x4 x5 x6 x7 x8 t0 t1 t2 t3 t4 t5 t6 t7 t8;generalize (((((((((v5.setCell ⟨z,0,none⟩ (int i64 0)).setCell ⟨z,1,none⟩ (int i64 3)).setCell ⟨z,2,none⟩ (int i64 4)).setCell ⟨z,3,none⟩ (int i64 2)).setCell ⟨z,4,none⟩ (slice m21 8 n21)).setCell ⟨z,5,none⟩ (slice m22 8 n22)).setCell ⟨z,6,none⟩ (slice m23 2 n23)).setCell ⟨z,7,none⟩ (slice m24 2 n24)).setCell ⟨z,8,none⟩ (slice m25 0 n25))=s2 at *;have BA2:Hid (Below w.heap.size w s2):=KW.out.below B5.out B5.out.size (Nat.le_of_lt HZ.out);have RA2:Hid (Wx s2 w.heap.size (int i64 0) (int i64 0) (int i64 0) (int i64 0) (slice none 0 0) (slice none 0 0) (slice none 0 0) (slice none 0 0) (slice none 0 0)):=R5.out.kp KW.out (Nat.ne_of_lt HZ.out);have OA2:Hid (Ow s2 (w.heap.size+1) (slice m21 8 n21) S2.gs/\Ow s2 (w.heap.size+1) (slice m22 8 n22) S2.os/\Ow s2 (w.heap.size+1) (slice m23 2 n23) S2.gold/\bZ s2 (w.heap.size+1) (slice m24 2 n24) S2.us/\bM s2 (w.heap.size+1) (slice m25 0 n25) S2.qs):=⟨dB O5.out.1 KW.out NZ.out.1,dB O5.out.2.1 KW.out NZ.out.2.1,dB O5.out.2.2.1 KW.out NZ.out.2.2.1,dB O5.out.2.2.2.1 KW.out NZ.out.2.2.2.1,dB O5.out.2.2.2.2 KW.out NZ.out.2.2.2.2⟩;clear X5 R5 B5 O5 NZ KW;refine aC rfl .nilIface s2 (by go_simp) (by go_simp) trivial ?_;go_simp;unfold aH;go_upto_region 5 with fail
  refine aJ [(true,1),(false,0),(false,2),(true,3)] [(true,4),(true,5),(false,6),(false,7)] (λV=>Wx V z (int i64 S2.turn) (int i64 S2.next) (int i64 S2.wide) (int i64 S2.high) (slice m21 8 n21) (slice m22 8 n22) (slice m23 2 n23) (slice m24 2 n24) (slice m25 0 n25)) (by kernel_rfl) (by kernel_rfl) (by kernel_rfl) (by decide+kernel) (by decide+kernel) XA2.out.drew ?_;have X1:Hid (Wx {s2 with drawn:=s2.drawn+1} z (int i64 S2.turn) (int i64 S2.next) (int i64 S2.wide) (int i64 S2.high) (slice m21 8 n21) (slice m22 8 n22) (slice m23 2 n23) (slice m24 2 n24) (slice m25 0 n25)):=XA2.out;have R1:Hid (Wx {s2 with drawn:=s2.drawn+1} w.heap.size (int i64 0) (int i64 0) (int i64 0) (int i64 0) (slice none 0 0) (slice none 0 0) (slice none 0 0) (slice none 0 0) (slice none 0 0)):=RA2.out;have B1:Hid (Below w.heap.size w {s2 with drawn:=s2.drawn+1}):=BA2.out.drew;have D1:Hid (Below s2.heap.size s2 {s2 with drawn:=s2.drawn+1}):=(Below.refl _ _).drew;generalize ({s2 with drawn:=s2.drawn+1}:World)=v3 at *;have L1:Hid (Wl v3 (.agg #[int i64 S2.turn,int i64 S2.next,int i64 S2.wide,int i64 S2.high,slice m21 8 n21,slice m22 8 n22,slice m23 2 n23,slice m24 2 n24,slice m25 0 n25]) S2):=⟨_,_,_,_,_,rfl,(OA2.out.1.below D1.out).ro,(OA2.out.2.1.below D1.out).ro,(OA2.out.2.2.1.below D1.out).ro,(OA2.out.2.2.2.1.below D1.out).l,(OA2.out.2.2.2.2.below D1.out).l⟩;clear XA2 RA2 BA2 OA2 D1;refine au rfl (.agg #[int i64 S2.turn,int i64 S2.next,int i64 S2.wide,int i64 S2.high,slice m21 8 n21,slice m22 8 n22,slice m23 2 n23,slice m24 2 n24,slice m25 0 n25]) (by go_simp) (λV hV=>by obtain⟨x0,x1,x2,x3,x4,x5,x6,x7,x8⟩:=hV.cells;go_simp) ?_;go_simp;refine aO rfl 25 #[] (by go_simp) (by go_simp) ?_;refine(fB v3).mono ?_;rintro e v4 ⟨ku,rfl,hk,hb⟩;have K4:Hid (Kl v4 ku SK):=hk;have X4:Hid (Wx v4 z (int i64 S2.turn) (int i64 S2.next) (int i64 S2.wide) (int i64 S2.high) (slice m21 8 n21) (slice m22 8 n22) (slice m23 2 n23) (slice m24 2 n24) (slice m25 0 n25)):=X1.out.below hb X1.out.lt;have R4:Hid (Wx v4 w.heap.size (int i64 0) (int i64 0) (int i64 0) (int i64 0) (slice none 0 0) (slice none 0 0) (slice none 0 0) (slice none 0 0) (slice none 0 0)):=R1.out.below hb R1.out.lt;have B4:Hid (Below w.heap.size w v4):=B1.out.trans (hb.mono B1.out.size);have L4:Hid (Wl v4 (.agg #[int i64 S2.turn,int i64 S2.next,int i64 S2.wide,int i64 S2.high,slice m21 8 n21,slice m22 8 n22,slice m23 2 n23,slice m24 2 n24,slice m25 0 n25]) S2):=L1.out.below hb;clear hk hb X1 R1 B1 L1;refine⟨_,rfl,X4.out,?_⟩;go_simp;refine aO rfl 58 #[ku,.agg #[int i64 S2.turn,int i64 S2.next,int i64 S2.wide,int i64 S2.high,slice m21 8 n21,slice m22 8 n22,slice m23 2 n23,slice m24 2 n24,slice m25 0 n25],int i64 1,int i64 2,int i64 3] (by go_simp) (by go_simp) ?_;refine(kC ku _ SK S2 1 2 3 v4 K4.out dU L4.out).mono ?_;rintro e v5 ⟨u,r,rfl,hr,ho,hb⟩;rw[Oq] at hr;rw[VN] at ho;obtain rfl:=kE hr;have X5:Hid (Wx v5 z (int i64 S2.turn) (int i64 S2.next) (int i64 S2.wide) (int i64 S2.high) (slice m21 8 n21) (slice m22 8 n22) (slice m23 2 n23) (slice m24 2 n24) (slice m25 0 n25)):=X4.out.below hb X4.out.lt;have R5:Hid (Wx v5 w.heap.size (int i64 0) (int i64 0) (int i64 0) (int i64 0) (slice none 0 0) (slice none 0 0) (slice none 0 0) (slice none 0 0) (slice none 0 0)):=R4.out.below hb R4.out.lt;have B5:Hid (Below w.heap.size w v5):=B4.out.trans (hb.mono B4.out.size);have ZL:Hid (z<v4.heap.size):=X4.out.lt;obtain⟨y1,y2,y3,y4,y5,rfl,o1,o2,o3,o4,o5⟩:=ho;obtain⟨m31,n31,rfl⟩:=o1.len;obtain⟨m32,n32,rfl⟩:=o2.len;obtain⟨m33,n33,rfl⟩:=o3.len;obtain⟨m34,n34,rfl⟩:=o4.len;obtain⟨m35,n35,rfl⟩:=o5.len;obtain⟨g1,g2,g3,g4,g5,g6,g7,g8,g9⟩:=JF;simp only[g5] at o1;simp only[g6] at o2;simp only[g7] at o3;simp only[g8] at o4;simp only[g9] at o5;simp only[g1,g2,g3,g4,g5,g6,g7,g8,g9];clear g1 g2 g3 g4 g5 g6 g7 g8 g9;have NZ:Hid (Nz z (slice m31 8 n31)/\Nz z (slice m32 8 n32)/\Nz z (slice m33 2 n33)/\Nz z (slice m34 3 n34)/\Nz z (slice m35 0 n35)):=⟨λb hb=>by have:=(o1.block b hb).1;have:=ZL.out;omega,λb hb=>by have:=(o2.block b hb).1;have:=ZL.out;omega,λb hb=>by have:=(o3.block b hb).1;have:=ZL.out;omega,λb hb=>by have:=(o4.block b hb).1;have:=ZL.out;omega,λb hb=>by have:=(o5.block b hb).1;have:=ZL.out;omega⟩;have O5:Hid (Ow v5 (w.heap.size+1) (slice m31 8 n31) S3.gs/\Ow v5 (w.heap.size+1) (slice m32 8 n32) S3.os/\Ow v5 (w.heap.size+1) (slice m33 2 n33) S3.gold/\bZ v5 (w.heap.size+1) (slice m34 3 n34) S3.us/\bM v5 (w.heap.size+1) (slice m35 0 n35) S3.qs):=⟨o1.mono R4.out.lt,o2.mono R4.out.lt,o3.mono R4.out.lt,o4.mono R4.out.lt,o5.mono R4.out.lt⟩;clear hr hb o1 o2 o3 o4 o5 K4 X4 R4 B4 L4 ZL;refine⟨_,rfl,X5.out,?_⟩;go_simp;refine au rfl (.tuple #[.agg #[int i64 0,int i64 4,int i64 4,int i64 2,slice m31 8 n31,slice m32 8 n32,slice m33 2 n33,slice m34 3 n34,slice m35 0 n35],.nilIface]) (by go_simp) (λV hV=>by go_simp) ?_;go_simp;unfold aQ;have KW:Hid (Kp z v5 (((((((((v5.setCell ⟨z,0,none⟩ (int i64 0)).setCell ⟨z,1,none⟩ (int i64 4)).setCell ⟨z,2,none⟩ (int i64 4)).setCell ⟨z,3,none⟩ (int i64 2)).setCell ⟨z,4,none⟩ (slice m31 8 n31)).setCell ⟨z,5,none⟩ (slice m32 8 n32)).setCell ⟨z,6,none⟩ (slice m33 2 n33)).setCell ⟨z,7,none⟩ (slice m34 3 n34)).setCell ⟨z,8,none⟩ (slice m35 0 n35))):=aK _ _ _ _ _ _ _ _ _ _ _;have XA3:Hid (Wx (((((((((v5.setCell ⟨z,0,none⟩ (int i64 0)).setCell ⟨z,1,none⟩ (int i64 4)).setCell ⟨z,2,none⟩ (int i64 4)).setCell ⟨z,3,none⟩ (int i64 2)).setCell ⟨z,4,none⟩ (slice m31 8 n31)).setCell ⟨z,5,none⟩ (slice m32 8 n32)).setCell ⟨z,6,none⟩ (slice m33 2 n33)).setCell ⟨z,7,none⟩ (slice m34 3 n34)).setCell ⟨z,8,none⟩ (slice m35 0 n35)) z (int i64 0) (int i64 4) (int i64 4) (int i64 2) (slice m31 8 n31) (slice m32 8 n32) (slice m33 2 n33) (slice m34 3 n34) (slice m35 0 n35)):=X5.out.put (int i64 0) (int i64 4) (int i64 4) (int i64 2) (slice m31 8 n31) (slice m32 8 n32) (slice m33 2 n33) (slice m34 3 n34) (slice m35 0 n35);obtain⟨x0,x1,x2,x3,x4,x5,x6,x7,x8⟩:=X5.out.cells;obtain⟨t0,t1,t2,t3,t4,t5,t6,t7,t8⟩:=X5.out.aT;refine bD rfl (.agg #[int i64 0,int i64 4,int i64 4,int i64 2,slice m31 8 n31,slice m32 8 n32,slice m33 2 n33,slice m34 3 n34,slice m35 0 n35]) (by go_simp) (λV hV=>by go_simp) ?_;go_simp;refine bD rfl .nilIface (by go_simp) (λV hV=>by go_simp) ?_;go_simp;refine fH rfl (((((((((v5.setCell ⟨z,0,none⟩ (int i64 0)).setCell ⟨z,1,none⟩ (int i64 4)).setCell ⟨z,2,none⟩ (int i64 4)).setCell ⟨z,3,none⟩ (int i64 2)).setCell ⟨z,4,none⟩ (slice m31 8 n31)).setCell ⟨z,5,none⟩ (slice m32 8 n32)).setCell ⟨z,6,none⟩ (slice m33 2 n33)).setCell ⟨z,7,none⟩ (slice m34 3 n34)).setCell ⟨z,8,none⟩ (slice m35 0 n35)) (by go_simp) (by go_simp) trivial ?_;go_simp;clear x0 x1 x2 x3 x4 x5 x6 x7 x8 t0 t1 t2 t3 t4 t5 t6 t7 t8;generalize (((((((((v5.setCell ⟨z,0,none⟩ (int i64 0)).setCell ⟨z,1,none⟩ (int i64 4)).setCell ⟨z,2,none⟩ (int i64 4)).setCell ⟨z,3,none⟩ (int i64 2)).setCell ⟨z,4,none⟩ (slice m31 8 n31)).setCell ⟨z,5,none⟩ (slice m32 8 n32)).setCell ⟨z,6,none⟩ (slice m33 2 n33)).setCell ⟨z,7,none⟩ (slice m34 3 n34)).setCell ⟨z,8,none⟩ (slice m35 0 n35))=s3 at *;have BA3:Hid (Below w.heap.size w s3):=KW.out.below B5.out B5.out.size (Nat.le_of_lt HZ.out);have RA3:Hid (Wx s3 w.heap.size (int i64 0) (int i64 0) (int i64 0) (int i64 0) (slice none 0 0) (slice none 0 0) (slice none 0 0) (slice none 0 0) (slice none 0 0)):=R5.out.kp KW.out (Nat.ne_of_lt HZ.out);have OA3:Hid (Ow s3 (w.heap.size+1) (slice m31 8 n31) S3.gs/\Ow s3 (w.heap.size+1) (slice m32 8 n32) S3.os/\Ow s3 (w.heap.size+1) (slice m33 2 n33) S3.gold/\bZ s3 (w.heap.size+1) (slice m34 3 n34) S3.us/\bM s3 (w.heap.size+1) (slice m35 0 n35) S3.qs):=⟨dB O5.out.1 KW.out NZ.out.1,dB O5.out.2.1 KW.out NZ.out.2.1,dB O5.out.2.2.1 KW.out NZ.out.2.2.1,dB O5.out.2.2.2.1 KW.out NZ.out.2.2.2.1,dB O5.out.2.2.2.2 KW.out NZ.out.2.2.2.2⟩;clear X5 R5 B5 O5 NZ KW;refine aC rfl .nilIface s3 (by go_simp) (by go_simp) trivial ?_;go_simp;unfold aH;go_upto_region 6 with fail
  refine aJ [(true,0),(true,1),(true,2),(true,3),(true,4),(true,5),(true,6),(true,7),(true,8),(true,9),(true,10),(true,11),(true,12),(true,13),(true,14),(true,15),(true,16),(true,17),(true,18),(true,19),(true,20),(true,21),(true,22),(true,23),(true,24),(true,25),(true,26),(true,27),(true,28),(true,29),(true,30),(false,31)] [(false,32)] (λV=>Wx V z (int i64 0) (int i64 4) (int i64 4) (int i64 2) (slice m31 8 n31) (slice m32 8 n32) (slice m33 2 n33) (slice m34 3 n34) (slice m35 0 n35)) (by kernel_rfl) (by kernel_rfl) (by kernel_rfl) (by decide+kernel) (by decide+kernel) XA3.out.drew ?_;have X1:Hid (Wx {s3 with drawn:=s3.drawn+1} z (int i64 0) (int i64 4) (int i64 4) (int i64 2) (slice m31 8 n31) (slice m32 8 n32) (slice m33 2 n33) (slice m34 3 n34) (slice m35 0 n35)):=XA3.out;have R1:Hid (Wx {s3 with drawn:=s3.drawn+1} w.heap.size (int i64 0) (int i64 0) (int i64 0) (int i64 0) (slice none 0 0) (slice none 0 0) (slice none 0 0) (slice none 0 0) (slice none 0 0)):=RA3.out;have B1:Hid (Below w.heap.size w {s3 with drawn:=s3.drawn+1}):=BA3.out.drew;have D1:Hid (Below s3.heap.size s3 {s3 with drawn:=s3.drawn+1}):=(Below.refl _ _).drew;generalize ({s3 with drawn:=s3.drawn+1}:World)=v3 at *;have O1:Hid (Ow v3 (w.heap.size+1) (slice m31 8 n31) S3.gs/\Ow v3 (w.heap.size+1) (slice m32 8 n32) S3.os/\Ow v3 (w.heap.size+1) (slice m33 2 n33) S3.gold/\bZ v3 (w.heap.size+1) (slice m34 3 n34) S3.us/\bM v3 (w.heap.size+1) (slice m35 0 n35) S3.qs):=⟨OA3.out.1.below D1.out,OA3.out.2.1.below D1.out,OA3.out.2.2.1.below D1.out,OA3.out.2.2.2.1.below D1.out,OA3.out.2.2.2.2.below D1.out⟩;clear XA3 RA3 BA3 OA3 D1;refine au rfl (.agg #[int i64 0,int i64 4,int i64 4,int i64 2,slice m31 8 n31,slice m32 8 n32,slice m33 2 n33,slice m34 3 n34,slice m35 0 n35]) (by go_simp) (λV hV=>by obtain⟨x0,x1,x2,x3,x4,x5,x6,x7,x8⟩:=hV.cells;go_simp) ?_;go_simp;refine au rfl (.nilIface) (by go_simp) (λV hV=>by go_simp) ?_;go_simp;refine au rfl (.bool true) (by go_simp) (λV hV=>by go_simp) ?_;go_simp;refine au rfl (.bool true) (by go_simp) (λV hV=>by go_simp) ?_;go_simp;refine au rfl (.nilIface) (by go_simp) (λV hV=>by go_simp) ?_;go_simp;refine au rfl (.bool true) (by go_simp) (λV hV=>by go_simp) ?_;go_simp;refine au rfl (.bool true) (by go_simp) (λV hV=>by go_simp) ?_;go_simp;refine au rfl (.bool true) (by go_simp) (λV hV=>by go_simp) ?_;go_simp;refine au rfl (.nilIface) (by go_simp) (λV hV=>by go_simp) ?_;go_simp;refine au rfl (.bool true) (by go_simp) (λV hV=>by go_simp) ?_;go_simp;refine au rfl (.bool true) (by go_simp) (λV hV=>by go_simp) ?_;go_simp;refine au rfl (.bool true) (by go_simp) (λV hV=>by go_simp) ?_;go_simp;refine au rfl (.nilIface) (by go_simp) (λV hV=>by go_simp) ?_;go_simp;refine au rfl (.bool true) (by go_simp) (λV hV=>by go_simp) ?_;go_simp;refine au rfl (.bool true) (by go_simp) (λV hV=>by go_simp) ?_;go_simp;refine au rfl (.bool true) (by go_simp) (λV hV=>by go_simp) ?_;go_simp;refine au rfl (.nilIface) (by go_simp) (λV hV=>by go_simp) ?_;go_simp;refine au rfl (.bool true) (by go_simp) (λV hV=>by go_simp) ?_;go_simp;refine au rfl (.bool true) (by go_simp) (λV hV=>by go_simp) ?_;go_simp;refine au rfl (.bool true) (by go_simp) (λV hV=>by go_simp) ?_;go_simp;refine au rfl (.pointer (some ⟨z,7,none⟩)) (by go_simp) (λV hV=>by go_simp) ?_;go_simp;refine au rfl (slice m34 3 n34) (by go_simp) (λV hV=>by obtain⟨x0,x1,x2,x3,x4,x5,x6,x7,x8⟩:=hV.cells;go_simp) ?_;go_simp;refine au rfl (int i64 3) (by go_simp) (λV hV=>by go_simp) ?_;go_simp;refine au rfl (.bool true) (by go_simp) (λV hV=>by go_simp) ?_;go_simp;refine au rfl (.bool true) (by go_simp) (λV hV=>by go_simp) ?_;go_simp;refine au rfl (.bool true) (by go_simp) (λV hV=>by go_simp) ?_;go_simp;refine au rfl (.pointer (some ⟨z,6,none⟩)) (by go_simp) (λV hV=>by go_simp) ?_;go_simp;refine au rfl (slice m33 2 n33) (by go_simp) (λV hV=>by obtain⟨x0,x1,x2,x3,x4,x5,x6,x7,x8⟩:=hV.cells;go_simp) ?_;go_simp;refine au rfl (int i64 2) (by go_simp) (λV hV=>by go_simp) ?_;go_simp;refine au rfl (.bool true) (by go_simp) (λV hV=>by go_simp) ?_;go_simp;refine au rfl (.bool true) (by go_simp) (λV hV=>by go_simp) ?_;go_simp;have KW:Hid (Kp w.heap.size v3 (((((((((v3.setCell ⟨w.heap.size,0,none⟩ (int i64 0)).setCell ⟨w.heap.size,1,none⟩ (int i64 4)).setCell ⟨w.heap.size,2,none⟩ (int i64 4)).setCell ⟨w.heap.size,3,none⟩ (int i64 2)).setCell ⟨w.heap.size,4,none⟩ (slice m31 8 n31)).setCell ⟨w.heap.size,5,none⟩ (slice m32 8 n32)).setCell ⟨w.heap.size,6,none⟩ (slice m33 2 n33)).setCell ⟨w.heap.size,7,none⟩ (slice m34 3 n34)).setCell ⟨w.heap.size,8,none⟩ (slice m35 0 n35))):=aK _ _ _ _ _ _ _ _ _ _ _;have XF:Hid (Wx (((((((((v3.setCell ⟨w.heap.size,0,none⟩ (int i64 0)).setCell ⟨w.heap.size,1,none⟩ (int i64 4)).setCell ⟨w.heap.size,2,none⟩ (int i64 4)).setCell ⟨w.heap.size,3,none⟩ (int i64 2)).setCell ⟨w.heap.size,4,none⟩ (slice m31 8 n31)).setCell ⟨w.heap.size,5,none⟩ (slice m32 8 n32)).setCell ⟨w.heap.size,6,none⟩ (slice m33 2 n33)).setCell ⟨w.heap.size,7,none⟩ (slice m34 3 n34)).setCell ⟨w.heap.size,8,none⟩ (slice m35 0 n35)) w.heap.size (int i64 0) (int i64 4) (int i64 4) (int i64 2) (slice m31 8 n31) (slice m32 8 n32) (slice m33 2 n33) (slice m34 3 n34) (slice m35 0 n35)):=R1.out.put (int i64 0) (int i64 4) (int i64 4) (int i64 2) (slice m31 8 n31) (slice m32 8 n32) (slice m33 2 n33) (slice m34 3 n34) (slice m35 0 n35);obtain⟨x0,x1,x2,x3,x4,x5,x6,x7,x8⟩:=R1.out.cells;obtain⟨t0,t1,t2,t3,t4,t5,t6,t7,t8⟩:=R1.out.aT;refine dD rfl (((((((((v3.setCell ⟨w.heap.size,0,none⟩ (int i64 0)).setCell ⟨w.heap.size,1,none⟩ (int i64 4)).setCell ⟨w.heap.size,2,none⟩ (int i64 4)).setCell ⟨w.heap.size,3,none⟩ (int i64 2)).setCell ⟨w.heap.size,4,none⟩ (slice m31 8 n31)).setCell ⟨w.heap.size,5,none⟩ (slice m32 8 n32)).setCell ⟨w.heap.size,6,none⟩ (slice m33 2 n33)).setCell ⟨w.heap.size,7,none⟩ (slice m34 3 n34)).setCell ⟨w.heap.size,8,none⟩ (slice m35 0 n35)) (by go_simp) (by go_simp) (X1.out.kp KW.out (Nat.ne_of_gt HZ.out)) ?_;go_simp;clear x0 x1 x2 x3 x4 x5 x6 x7 x8 t0 t1 t2 t3 t4 t5 t6 t7 t8;generalize (((((((((v3.setCell ⟨w.heap.size,0,none⟩ (int i64 0)).setCell ⟨w.heap.size,1,none⟩ (int i64 4)).setCell ⟨w.heap.size,2,none⟩ (int i64 4)).setCell ⟨w.heap.size,3,none⟩ (int i64 2)).setCell ⟨w.heap.size,4,none⟩ (slice m31 8 n31)).setCell ⟨w.heap.size,5,none⟩ (slice m32 8 n32)).setCell ⟨w.heap.size,6,none⟩ (slice m33 2 n33)).setCell ⟨w.heap.size,7,none⟩ (slice m34 3 n34)).setCell ⟨w.heap.size,8,none⟩ (slice m35 0 n35))=v4 at *;unfold aQ;refine aC rfl (.bool true) v4 (by go_simp) (by go_simp) trivial ?_;go_simp;unfold aH;obtain⟨y0,y1,y2,y3,y4,y5,y6,y7,y8⟩:=XF.out.cells;go_wp2;refine bodyPost_ret (v:=.tuple #[.agg #[int i64 0,int i64 4,int i64 4,int i64 2,slice m31 8 n31,slice m32 8 n32,slice m33 2 n33,slice m34 3 n34,slice m35 0 n35],.bool true]) (by simp[results,Tryz.results24,go_sem,y0,y1,y2,y3,y4,y5,y6,y7,y8]) rfl ⟨_,rfl,⟨_,_,_,_,_,rfl,Ow.mono (gX O1.out.1 KW.out (by omega)) (by omega),Ow.mono (gX O1.out.2.1 KW.out (by omega)) (by omega),Ow.mono (gX O1.out.2.2.1 KW.out (by omega)) (by omega),bZ.mono (gX O1.out.2.2.2.1 KW.out (by omega)) (by omega),bM.mono (gX O1.out.2.2.2.2 KW.out (by omega)) (by omega)⟩,KW.out.below B1.out B1.out.size (Nat.le_refl _)⟩
end Go.Proofs.YtojhiiiebnlipaaGreatDoor
