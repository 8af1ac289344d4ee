/- turn.Step. And more. -/
import Derived.Test.YtojhiiiebnlipaaGreatDoorZTurnOrder8
set_option linter.unusedVariables false
set_option maxHeartbeats 64000000
set_option maxRecDepth 100000
open Go.Value (int slice)
open Go.IntKind (i64)
namespace Go.Proofs.YtojhiiiebnlipaaGreatDoor
open Go.RowKit Go.Proofs.YtojhiiiebnlipaaGreatDoor.So
theorem zF{ks:List KV}{X:WV}{l:List aK}(h:Wd.aG ks X≠0):bC ks X l=Wd.aG ks X:=if_pos h
theorem Kv{ks:List KV}{X:WV}{l:List aK}(h:Wd.aG ks X=0)(ht:1000000<=X.turn):bC ks X l=4:=by unfold bC;rw[if_neg (λk=>k h),if_pos ht]
theorem Kw{ks:List KV}{X:WV}{l:List aK}(h:Wd.aG ks X=0)(ht:¬1000000<=X.turn):bC ks X l=Od.faults l:=by unfold bC;rw[if_neg (λk=>k h),if_neg ht]
def kE(ks:List KV)(X:WV)(l:List aK)(w w':World)(v ev:Value):Prop:=
 (bC ks X l≠0/\v=.agg #[int i64 0,int i64 0,int i64 0,int i64 0,slice none 0 0,slice none 0 0,slice none 0 0,slice none 0 0,slice none 0 0]/\ev=slice none 0 0)
 \/(bC ks X l=0/\∃Y es,kW ks X l Y es/\Wo w' w.heap.size v Y/\dM w' w.heap.size ev es)
theorem fO(vk vw vl:Value)(ks:List KV)(X:WV)(l:List aK)(w:World)(hk:Kl w vk ks)(hb:∀k∈ks,k.b.size<=9223372036854775807)(hw:Wl w vw X)(hl:nN w vl l)(hs:Sd w):
 Calls Tryz.prog 17 #[vk,vw,vl] w λe w'=>∃v ev r,e=.returned (.tuple #[v,ev,r])/\Er r (bC ks X l)/\kE ks X l w w' v ev/\Below w.heap.size w w':=by
 have K:Hid (Kl w vk ks/\∀k∈ks,k.b.size<=9223372036854775807):=⟨hk,hb⟩;have H:Hid (Wl w vw X):=hw;have SD:Hid (Sd w/\nN w vl l):=⟨hs,hl⟩;clear hs hl;obtain⟨p1,q1,p2,q2,p3,q3,p4,q4,p5,q5,rfl⟩:=aP hw;obtain⟨pk,qk,rfl,ck1,ck2,kc⟩:=hk;clear hb hw kc;go_enter Tryz.func17,Tryz.ntmps17;go_upto_region 1 with fail
 have B0:Hid (Below w.heap.size w ((w.alloc (Obj.cells #[int i64 X.turn,int i64 X.next,int i64 X.wide,int i64 X.high,slice p1 X.gs.length q1,slice p2 X.os.length q2,slice p3 X.gold.length q3,slice p4 X.us.length q4,slice p5 X.qs.length q5] 29)).alloc (Obj.cells #[int i64 0,int i64 0,int i64 0,int i64 0,slice none 0 0,slice none 0 0,slice none 0 0,slice none 0 0,slice none 0 0] 29))):=((Below.refl _ _).alloc (Nat.le_refl _) _).alloc (by simp) _;have X0:Hid (Wx ((w.alloc (Obj.cells #[int i64 X.turn,int i64 X.next,int i64 X.wide,int i64 X.high,slice p1 X.gs.length q1,slice p2 X.os.length q2,slice p3 X.gold.length q3,slice p4 X.us.length q4,slice p5 X.qs.length q5] 29)).alloc (Obj.cells #[int i64 0,int i64 0,int i64 0,int i64 0,slice none 0 0,slice none 0 0,slice none 0 0,slice none 0 0,slice none 0 0] 29)) (w.heap.size) (int i64 X.turn) (int i64 X.next) (int i64 X.wide) (int i64 X.high) (slice p1 X.gs.length q1) (slice p2 X.os.length q2) (slice p3 X.gold.length q3) (slice p4 X.us.length q4) (slice p5 X.qs.length q5)):=(Wx.new (int i64 X.turn) (int i64 X.next) (int i64 X.wide) (int i64 X.high) (slice p1 X.gs.length q1) (slice p2 X.os.length q2) (slice p3 X.gold.length q3) (slice p4 X.us.length q4) (slice p5 X.qs.length q5) rfl).below ((Below.refl _ _).alloc (Nat.le_refl _) _) (by simp);have Z0:Hid (Wx ((w.alloc (Obj.cells #[int i64 X.turn,int i64 X.next,int i64 X.wide,int i64 X.high,slice p1 X.gs.length q1,slice p2 X.os.length q2,slice p3 X.gold.length q3,slice p4 X.us.length q4,slice p5 X.qs.length q5] 29)).alloc (Obj.cells #[int i64 0,int i64 0,int i64 0,int i64 0,slice none 0 0,slice none 0 0,slice none 0 0,slice none 0 0,slice none 0 0] 29)) (w.heap.size+1) (int i64 0) (int i64 0) (int i64 0) (int i64 0) (slice none 0 0) (slice none 0 0) (slice none 0 0) (slice none 0 0) (slice none 0 0)):=Wx.new (int i64 0) (int i64 0) (int i64 0) (int i64 0) (slice none 0 0) (slice none 0 0) (slice none 0 0) (slice none 0 0) (slice none 0 0) (by simp);generalize ((w.alloc (Obj.cells #[int i64 X.turn,int i64 X.next,int i64 X.wide,int i64 X.high,slice p1 X.gs.length q1,slice p2 X.os.length q2,slice p3 X.gold.length q3,slice p4 X.us.length q4,slice p5 X.qs.length q5] 29)).alloc (Obj.cells #[int i64 0,int i64 0,int i64 0,int i64 0,slice none 0 0,slice none 0 0,slice none 0 0,slice none 0 0,slice none 0 0] 29))=w0 at *;obtain⟨x0,x1,x2,x3,x4,x5,x6,x7,x8⟩:=X0.out.cells;go_wp2_with fail
 refine(fE _ _ ks X w0 (K.out.1.below B0.out) K.out.2 (H.out.below B0.out)).mono ?_;rintro e w1 ⟨r,rfl,hr,hb⟩;obtain⟨fw,hfw⟩:∃f,Wd.aG ks X=f:=⟨_,rfl⟩;have FW:Hid (Wd.aG ks X=fw):=hfw;rw[hfw] at hr;have B1:Hid (Below w.heap.size w w1):=B0.out.trans (hb.mono B0.out.size);have X1:Hid (Wx w1 (w.heap.size) (int i64 X.turn) (int i64 X.next) (int i64 X.wide) (int i64 X.high) (slice p1 X.gs.length q1) (slice p2 X.os.length q2) (slice p3 X.gold.length q3) (slice p4 X.us.length q4) (slice p5 X.qs.length q5)):=X0.out.below hb X0.out.lt;have Z1:Hid (Wx w1 (w.heap.size+1) (int i64 0) (int i64 0) (int i64 0) (int i64 0) (slice none 0 0) (slice none 0 0) (slice none 0 0) (slice none 0 0) (slice none 0 0)):=Z0.out.below hb Z0.out.lt;clear hb hfw x0 x1 x2 x3 x4 x5 x6 x7 x8 X0 B0 Z0;rcases hr with⟨rfl,rfl⟩|⟨hf,rfl⟩
 case inr=>
  have HF:Hid (fw≠0):=hf;clear hf;obtain⟨z0,z1,z2,z3,z4,z5,z6,z7,z8⟩:=Z1.out.cells;obtain⟨t0,t1,t2,t3,t4,t5,t6,t7,t8⟩:=Z1.out.bF;have KZ:Hid (Kp (w.heap.size+1) w1 (((((((((w1.setCell ⟨w.heap.size+1,0,none⟩ (int i64 0)).setCell ⟨w.heap.size+1,1,none⟩ (int i64 0)).setCell ⟨w.heap.size+1,2,none⟩ (int i64 0)).setCell ⟨w.heap.size+1,3,none⟩ (int i64 0)).setCell ⟨w.heap.size+1,4,none⟩ (slice none 0 0)).setCell ⟨w.heap.size+1,5,none⟩ (slice none 0 0)).setCell ⟨w.heap.size+1,6,none⟩ (slice none 0 0)).setCell ⟨w.heap.size+1,7,none⟩ (slice none 0 0)).setCell ⟨w.heap.size+1,8,none⟩ (slice none 0 0))):=aN _ _ _ _ _ _ _ _ _ _ _;obtain⟨y0,y1,y2,y3,y4,y5,y6,y7,y8⟩:=(Z1.out.put (int i64 0) (int i64 0) (int i64 0) (int i64 0) (slice none 0 0) (slice none 0 0) (slice none 0 0) (slice none 0 0) (slice none 0 0)).cells;go_wp2;clear z0 z1 z2 z3 z4 z5 z6 z7 z8 t0 t1 t2 t3 t4 t5 t6 t7 t8;generalize (((((((((w1.setCell ⟨w.heap.size+1,0,none⟩ (int i64 0)).setCell ⟨w.heap.size+1,1,none⟩ (int i64 0)).setCell ⟨w.heap.size+1,2,none⟩ (int i64 0)).setCell ⟨w.heap.size+1,3,none⟩ (int i64 0)).setCell ⟨w.heap.size+1,4,none⟩ (slice none 0 0)).setCell ⟨w.heap.size+1,5,none⟩ (slice none 0 0)).setCell ⟨w.heap.size+1,6,none⟩ (slice none 0 0)).setCell ⟨w.heap.size+1,7,none⟩ (slice none 0 0)).setCell ⟨w.heap.size+1,8,none⟩ (slice none 0 0))=w9 at *;refine bodyPost_ret (v:=.tuple #[.agg #[int i64 0,int i64 0,int i64 0,int i64 0,slice none 0 0,slice none 0 0,slice none 0 0,slice none 0 0,slice none 0 0],slice none 0 0,.iface 90 (int i64 fw)]) (by simp[results,Tryz.results17,go_sem,y0,y1,y2,y3,y4,y5,y6,y7,y8]) rfl ⟨_,_,_,rfl,by rw[zF (l:=l) (by rw[FW.out];exact HF.out),FW.out];exact Er.no HF.out,.inl ⟨by rw[zF (l:=l) (by rw[FW.out];exact HF.out),FW.out];exact HF.out,rfl,rfl⟩,KZ.out.below B1.out B1.out.size (by omega)⟩
 have WR:Hid (aT ks X):=bM FW.out;obtain⟨x0,x1,x2,x3,x4,x5,x6,x7,x8⟩:=X1.out.cells;by_cases htn:1000000<=X.turn
 case pos=>
  have SF:Hid (bC ks X l=4):=Kv FW.out htn;have ZI:decide (1000000<=X.turn)=true:=decide_eq_true htn;clear htn;obtain⟨z0,z1,z2,z3,z4,z5,z6,z7,z8⟩:=Z1.out.cells;obtain⟨t0,t1,t2,t3,t4,t5,t6,t7,t8⟩:=Z1.out.bF;have KZ:Hid (Kp (w.heap.size+1) w1 (((((((((w1.setCell ⟨w.heap.size+1,0,none⟩ (int i64 0)).setCell ⟨w.heap.size+1,1,none⟩ (int i64 0)).setCell ⟨w.heap.size+1,2,none⟩ (int i64 0)).setCell ⟨w.heap.size+1,3,none⟩ (int i64 0)).setCell ⟨w.heap.size+1,4,none⟩ (slice none 0 0)).setCell ⟨w.heap.size+1,5,none⟩ (slice none 0 0)).setCell ⟨w.heap.size+1,6,none⟩ (slice none 0 0)).setCell ⟨w.heap.size+1,7,none⟩ (slice none 0 0)).setCell ⟨w.heap.size+1,8,none⟩ (slice none 0 0))):=aN _ _ _ _ _ _ _ _ _ _ _;obtain⟨y0,y1,y2,y3,y4,y5,y6,y7,y8⟩:=(Z1.out.put (int i64 0) (int i64 0) (int i64 0) (int i64 0) (slice none 0 0) (slice none 0 0) (slice none 0 0) (slice none 0 0) (slice none 0 0)).cells;go_wp2;clear z0 z1 z2 z3 z4 z5 z6 z7 z8 t0 t1 t2 t3 t4 t5 t6 t7 t8;generalize (((((((((w1.setCell ⟨w.heap.size+1,0,none⟩ (int i64 0)).setCell ⟨w.heap.size+1,1,none⟩ (int i64 0)).setCell ⟨w.heap.size+1,2,none⟩ (int i64 0)).setCell ⟨w.heap.size+1,3,none⟩ (int i64 0)).setCell ⟨w.heap.size+1,4,none⟩ (slice none 0 0)).setCell ⟨w.heap.size+1,5,none⟩ (slice none 0 0)).setCell ⟨w.heap.size+1,6,none⟩ (slice none 0 0)).setCell ⟨w.heap.size+1,7,none⟩ (slice none 0 0)).setCell ⟨w.heap.size+1,8,none⟩ (slice none 0 0))=wz at *;refine bodyPost_ret (v:=.tuple #[.agg #[int i64 0,int i64 0,int i64 0,int i64 0,slice none 0 0,slice none 0 0,slice none 0 0,slice none 0 0,slice none 0 0],slice none 0 0,.iface 90 (int i64 4)]) (by simp[results,Tryz.results17,go_sem,y0,y1,y2,y3,y4,y5,y6,y7,y8]) rfl ⟨_,_,_,rfl,by rw[SF.out];exact Er.no (by decide),.inl ⟨by rw[SF.out];decide,rfl,rfl⟩,KZ.out.below B1.out B1.out.size (by omega)⟩
 have SF:Hid (bC ks X l=Od.faults l):=Kw FW.out htn;have TN:Hid (¬1000000<=X.turn):=htn;go_wp2_with fail
 refine(Kr _ _ _ ks X l w1 (K.out.1.below B1.out) (H.out.below B1.out) (SD.out.2.below B1.out) WR.out).mono ?_;rintro e w2 ⟨v,ur,r,rfl,hr,hg,hb⟩;have B2:Hid (Below w.heap.size w w2):=B1.out.trans (hb.mono B1.out.size);have X2:Hid (Wx w2 w.heap.size (int i64 X.turn) (int i64 X.next) (int i64 X.wide) (int i64 X.high) (slice p1 X.gs.length q1) (slice p2 X.os.length q2) (slice p3 X.gold.length q3) (slice p4 X.us.length q4) (slice p5 X.qs.length q5)):=X1.out.below hb X1.out.lt;have Z2:Hid (Wx w2 (w.heap.size+1) (int i64 0) (int i64 0) (int i64 0) (int i64 0) (slice none 0 0) (slice none 0 0) (slice none 0 0) (slice none 0 0) (slice none 0 0)):=Z1.out.below hb Z1.out.lt;have S1:Hid (w.heap.size+2<=w1.heap.size):=Z1.out.lt;clear hb x0 x1 x2 x3 x4 x5 x6 x7 x8 X1 B1 Z1 htn;obtain⟨fo,hfo⟩:∃f,Od.faults l=f:=⟨_,rfl⟩;have FO:Hid (Od.faults l=fo):=hfo;rw[hfo] at hr;clear hfo;rcases hr with⟨rfl,rfl⟩|⟨hf,rfl⟩
 case inr=>
  have HF:Hid (fo≠0):=hf;rcases hg with⟨-,rfl,rfl⟩|⟨h,-⟩
  case inr=>rw[FO.out] at h;exact absurd h hf
  clear hf;obtain⟨c0,c1,c2,c3,c4,c5,c6,c7,c8⟩:=X2.out.cells;obtain⟨d0,d1,d2,d3,d4,d5,d6,d7,d8⟩:=X2.out.bF;have KB:Hid (Kp w.heap.size w2 (((((((((w2.setCell ⟨w.heap.size,0,none⟩ (int i64 0)).setCell ⟨w.heap.size,1,none⟩ (int i64 0)).setCell ⟨w.heap.size,2,none⟩ (int i64 0)).setCell ⟨w.heap.size,3,none⟩ (int i64 0)).setCell ⟨w.heap.size,4,none⟩ (slice none 0 0)).setCell ⟨w.heap.size,5,none⟩ (slice none 0 0)).setCell ⟨w.heap.size,6,none⟩ (slice none 0 0)).setCell ⟨w.heap.size,7,none⟩ (slice none 0 0)).setCell ⟨w.heap.size,8,none⟩ (slice none 0 0))):=aN _ _ _ _ _ _ _ _ _ _ _;go_upto_region 8 with fail
  clear c0 c1 c2 c3 c4 c5 c6 c7 c8 d0 d1 d2 d3 d4 d5 d6 d7 d8;generalize (((((((((w2.setCell ⟨w.heap.size,0,none⟩ (int i64 0)).setCell ⟨w.heap.size,1,none⟩ (int i64 0)).setCell ⟨w.heap.size,2,none⟩ (int i64 0)).setCell ⟨w.heap.size,3,none⟩ (int i64 0)).setCell ⟨w.heap.size,4,none⟩ (slice none 0 0)).setCell ⟨w.heap.size,5,none⟩ (slice none 0 0)).setCell ⟨w.heap.size,6,none⟩ (slice none 0 0)).setCell ⟨w.heap.size,7,none⟩ (slice none 0 0)).setCell ⟨w.heap.size,8,none⟩ (slice none 0 0))=w3 at *;have B3:Hid (Below w.heap.size w w3):=KB.out.below B2.out B2.out.size (Nat.le_refl _);have Z3:Hid (Wx w3 (w.heap.size+1) (int i64 0) (int i64 0) (int i64 0) (int i64 0) (slice none 0 0) (slice none 0 0) (slice none 0 0) (slice none 0 0) (slice none 0 0)):=Z2.out.kp KB.out (by omega);obtain⟨z0,z1,z2,z3,z4,z5,z6,z7,z8⟩:=Z3.out.cells;obtain⟨t0,t1,t2,t3,t4,t5,t6,t7,t8⟩:=Z3.out.bF;have KZ:Hid (Kp (w.heap.size+1) w3 (((((((((w3.setCell ⟨w.heap.size+1,0,none⟩ (int i64 0)).setCell ⟨w.heap.size+1,1,none⟩ (int i64 0)).setCell ⟨w.heap.size+1,2,none⟩ (int i64 0)).setCell ⟨w.heap.size+1,3,none⟩ (int i64 0)).setCell ⟨w.heap.size+1,4,none⟩ (slice none 0 0)).setCell ⟨w.heap.size+1,5,none⟩ (slice none 0 0)).setCell ⟨w.heap.size+1,6,none⟩ (slice none 0 0)).setCell ⟨w.heap.size+1,7,none⟩ (slice none 0 0)).setCell ⟨w.heap.size+1,8,none⟩ (slice none 0 0))):=aN _ _ _ _ _ _ _ _ _ _ _;obtain⟨y0,y1,y2,y3,y4,y5,y6,y7,y8⟩:=(Z3.out.put (int i64 0) (int i64 0) (int i64 0) (int i64 0) (slice none 0 0) (slice none 0 0) (slice none 0 0) (slice none 0 0) (slice none 0 0)).cells;go_wp2;clear z0 z1 z2 z3 z4 z5 z6 z7 z8 t0 t1 t2 t3 t4 t5 t6 t7 t8;generalize (((((((((w3.setCell ⟨w.heap.size+1,0,none⟩ (int i64 0)).setCell ⟨w.heap.size+1,1,none⟩ (int i64 0)).setCell ⟨w.heap.size+1,2,none⟩ (int i64 0)).setCell ⟨w.heap.size+1,3,none⟩ (int i64 0)).setCell ⟨w.heap.size+1,4,none⟩ (slice none 0 0)).setCell ⟨w.heap.size+1,5,none⟩ (slice none 0 0)).setCell ⟨w.heap.size+1,6,none⟩ (slice none 0 0)).setCell ⟨w.heap.size+1,7,none⟩ (slice none 0 0)).setCell ⟨w.heap.size+1,8,none⟩ (slice none 0 0))=wz at *;refine bodyPost_ret (v:=.tuple #[.agg #[int i64 0,int i64 0,int i64 0,int i64 0,slice none 0 0,slice none 0 0,slice none 0 0,slice none 0 0,slice none 0 0],slice none 0 0,.iface 90 (int i64 fo)]) (by simp[results,Tryz.results17,go_sem,y0,y1,y2,y3,y4,y5,y6,y7,y8]) rfl ⟨_,_,_,rfl,by rw[SF.out,FO.out];exact Er.no HF.out,.inl ⟨by rw[SF.out,FO.out];exact HF.out,rfl,rfl⟩,KZ.out.below B3.out B3.out.size (by omega)⟩
 rcases hg with⟨h,-⟩|⟨-,out,hls,ho,-⟩
 case inl=>exact absurd FO.out h
 have LS:Hid (aW l out):=hls;obtain⟨A,hA⟩:∃A,(gv ks X out out.length).1=A:=⟨_,rfl⟩;have HA:Hid ((gv ks X out out.length).1=A):=hA;have AR:Hid (aT ks A):=by
  unfold Hid;rw[<-hA];exact oV WR.out (λo h=>(Od.fK FO.out).2 o (hls.mem h)) _
 rw[hA] at ho;clear hA hls;obtain⟨k1,k2,k3,k4,k5,rfl,o1,o2,o3,o4,o5⟩:=ho;obtain⟨a1,r1,rfl⟩:=o1.len;obtain⟨a2,r2,rfl⟩:=o2.len;obtain⟨a3,r3,rfl⟩:=o3.len;obtain⟨a4,r4,rfl⟩:=o4.len;obtain⟨a5,r5,rfl⟩:=o5.len;have OA:Hid (Ow w2 (w.heap.size+2) (slice a1 A.gs.length r1) A.gs/\Ow w2 (w.heap.size+2) (slice a2 A.os.length r2) A.os/\Ow w2 (w.heap.size+2) (slice a3 A.gold.length r3) A.gold/\dA w2 (w.heap.size+2) (slice a4 A.us.length r4) A.us/\bY w2 (w.heap.size+2) (slice a5 A.qs.length r5) A.qs):=⟨o1.mono S1.out,o2.mono S1.out,o3.mono S1.out,o4.mono S1.out,o5.mono S1.out⟩;clear o1 o2 o3 o4 o5;obtain⟨c0,c1,c2,c3,c4,c5,c6,c7,c8⟩:=X2.out.cells;obtain⟨d0,d1,d2,d3,d4,d5,d6,d7,d8⟩:=X2.out.bF;have KB:Hid (Kp w.heap.size w2 (((((((((w2.setCell ⟨w.heap.size,0,none⟩ (int i64 A.turn)).setCell ⟨w.heap.size,1,none⟩ (int i64 A.next)).setCell ⟨w.heap.size,2,none⟩ (int i64 A.wide)).setCell ⟨w.heap.size,3,none⟩ (int i64 A.high)).setCell ⟨w.heap.size,4,none⟩ (slice a1 A.gs.length r1)).setCell ⟨w.heap.size,5,none⟩ (slice a2 A.os.length r2)).setCell ⟨w.heap.size,6,none⟩ (slice a3 A.gold.length r3)).setCell ⟨w.heap.size,7,none⟩ (slice a4 A.us.length r4)).setCell ⟨w.heap.size,8,none⟩ (slice a5 A.qs.length r5))):=aN _ _ _ _ _ _ _ _ _ _ _;have XB:Hid (Wx (((((((((w2.setCell ⟨w.heap.size,0,none⟩ (int i64 A.turn)).setCell ⟨w.heap.size,1,none⟩ (int i64 A.next)).setCell ⟨w.heap.size,2,none⟩ (int i64 A.wide)).setCell ⟨w.heap.size,3,none⟩ (int i64 A.high)).setCell ⟨w.heap.size,4,none⟩ (slice a1 A.gs.length r1)).setCell ⟨w.heap.size,5,none⟩ (slice a2 A.os.length r2)).setCell ⟨w.heap.size,6,none⟩ (slice a3 A.gold.length r3)).setCell ⟨w.heap.size,7,none⟩ (slice a4 A.us.length r4)).setCell ⟨w.heap.size,8,none⟩ (slice a5 A.qs.length r5)) w.heap.size (int i64 A.turn) (int i64 A.next) (int i64 A.wide) (int i64 A.high) (slice a1 A.gs.length r1) (slice a2 A.os.length r2) (slice a3 A.gold.length r3) (slice a4 A.us.length r4) (slice a5 A.qs.length r5)):=X2.out.put (int i64 A.turn) (int i64 A.next) (int i64 A.wide) (int i64 A.high) (slice a1 A.gs.length r1) (slice a2 A.os.length r2) (slice a3 A.gold.length r3) (slice a4 A.us.length r4) (slice a5 A.qs.length r5);go_upto_region 9 with fail
 clear c0 c1 c2 c3 c4 c5 c6 c7 c8 d0 d1 d2 d3 d4 d5 d6 d7 d8;generalize (((((((((w2.setCell ⟨w.heap.size,0,none⟩ (int i64 A.turn)).setCell ⟨w.heap.size,1,none⟩ (int i64 A.next)).setCell ⟨w.heap.size,2,none⟩ (int i64 A.wide)).setCell ⟨w.heap.size,3,none⟩ (int i64 A.high)).setCell ⟨w.heap.size,4,none⟩ (slice a1 A.gs.length r1)).setCell ⟨w.heap.size,5,none⟩ (slice a2 A.os.length r2)).setCell ⟨w.heap.size,6,none⟩ (slice a3 A.gold.length r3)).setCell ⟨w.heap.size,7,none⟩ (slice a4 A.us.length r4)).setCell ⟨w.heap.size,8,none⟩ (slice a5 A.qs.length r5))=w3 at *;have B3:Hid (Below w.heap.size w w3):=KB.out.below B2.out B2.out.size (Nat.le_refl _);have Z3:Hid (Wx w3 (w.heap.size+1) (int i64 0) (int i64 0) (int i64 0) (int i64 0) (slice none 0 0) (slice none 0 0) (slice none 0 0) (slice none 0 0) (slice none 0 0)):=Z2.out.kp KB.out (by omega);have O3:Hid (Ow w3 (w.heap.size+2) (slice a1 A.gs.length r1) A.gs/\Ow w3 (w.heap.size+2) (slice a2 A.os.length r2) A.os/\Ow w3 (w.heap.size+2) (slice a3 A.gold.length r3) A.gold/\dA w3 (w.heap.size+2) (slice a4 A.us.length r4) A.us/\bY w3 (w.heap.size+2) (slice a5 A.qs.length r5) A.qs):=⟨OA.out.1.kp KB.out (by omega),OA.out.2.1.kp KB.out (by omega),OA.out.2.2.1.kp KB.out (by omega),OA.out.2.2.2.1.kp KB.out (by omega),OA.out.2.2.2.2.kp KB.out (by omega)⟩;clear KB X2 B2 Z2 OA;obtain⟨bq,hbq⟩:∃b,w3.heap.size=b:=⟨_,rfl⟩;have BF:Hid (Below w3.heap.size w3 (w3.alloc (Obj.cells #[.func (Fn.func 51) #[] #[],.func (Fn.func 52) #[] #[],.func (Fn.func 53) #[] #[],.func (Fn.func 54) #[] #[]] 97))):=(Below.refl _ _).alloc (Nat.le_refl _) _;have SZ:Hid ((w3.alloc (Obj.cells #[.func (Fn.func 51) #[] #[],.func (Fn.func 52) #[] #[],.func (Fn.func 53) #[] #[],.func (Fn.func 54) #[] #[]] 97)).heap.size=bq+1):=by unfold Hid;rw[<-hbq];simp
 have CF0:Hid ((w3.alloc (Obj.cells #[.func (Fn.func 51) #[] #[],.func (Fn.func 52) #[] #[],.func (Fn.func 53) #[] #[],.func (Fn.func 54) #[] #[]] 97)).cell? ⟨bq,0,none⟩=some (.func (Fn.func 51) #[] #[])/\(w3.alloc (Obj.cells #[.func (Fn.func 51) #[] #[],.func (Fn.func 52) #[] #[],.func (Fn.func 53) #[] #[],.func (Fn.func 54) #[] #[]] 97)).cell? ⟨bq,1,none⟩=some (.func (Fn.func 52) #[] #[])/\(w3.alloc (Obj.cells #[.func (Fn.func 51) #[] #[],.func (Fn.func 52) #[] #[],.func (Fn.func 53) #[] #[],.func (Fn.func 54) #[] #[]] 97)).cell? ⟨bq,2,none⟩=some (.func (Fn.func 53) #[] #[])/\(w3.alloc (Obj.cells #[.func (Fn.func 51) #[] #[],.func (Fn.func 52) #[] #[],.func (Fn.func 53) #[] #[],.func (Fn.func 54) #[] #[]] 97)).cell? ⟨bq,3,none⟩=some (.func (Fn.func 54) #[] #[])):=by
  unfold Hid;rw[<-hbq];simp
 go_wp2_with fail
 (try rw[hbq])
 obtain⟨w5,hw5⟩:∃w5,(w3.alloc (Obj.cells #[.func (Fn.func 51) #[] #[],.func (Fn.func 52) #[] #[],.func (Fn.func 53) #[] #[],.func (Fn.func 54) #[] #[]] 97))=w5:=⟨_,rfl⟩;rw[hw5] at BF SZ CF0 ⊢;clear hw5;have NQ:Hid (w.heap.size+2<=bq):=by have h1:=O3.out;have h2:=Z3.out.lt;unfold Hid;omega
 clear hbq;obtain⟨Wn,Hn,ew,eh,G⟩:=WR.out.good;have WH:Hid (X.wide=(Wn:Nat)/\X.high=(Hn:Nat)/\A.wide=(Wn:Nat)/\A.high=(Hn:Nat)/\A.turn=X.turn):=by
  obtain⟨g1,g2,g3⟩:=uF (ks:=ks) (Y:=X) (out:=out) out.length;rw[HA.out] at g1 g2 g3;exact⟨ew,eh,by rw[g2,ew],by rw[g3,eh],g1⟩
 clear ew eh G;have T5:Hid (lT A [] w.heap.size (w.heap.size+2) (bq+1) w5 (slice a1 A.gs.length r1) (slice a2 A.os.length r2) (slice a3 A.gold.length r3) (slice a4 A.us.length r4) (slice a5 A.qs.length r5) (slice none 0 0) w5):=
  ⟨XB.out.below BF.out XB.out.lt,O3.out.1.below BF.out,O3.out.2.1.below BF.out,O3.out.2.2.1.below BF.out,O3.out.2.2.2.1.below BF.out,O3.out.2.2.2.2.below BF.out,dM.nil _ _,Fr.below (Below.refl _ _),⟨by omega,by have:=NQ.out;omega,SZ.out⟩⟩
 have Z5:Hid (Wx w5 (w.heap.size+1) (int i64 0) (int i64 0) (int i64 0) (int i64 0) (slice none 0 0) (slice none 0 0) (slice none 0 0) (slice none 0 0) (slice none 0 0)):=Z3.out.below BF.out Z3.out.lt;have B5:Hid (Below w.heap.size w w5):=B3.out.trans (BF.out.mono B3.out.size);clear BF XB O3 Z3 B3;go_loopw [12,44] (λv12 j V=>∃n:Nat,n<=4/\j=int i64 (n:Nat)/\∃Y es,Ph ks Wn Hn A n Y es/\∃u1 u2 u3 u4 u5 ev,ev=v12/\lT Y es w.heap.size (w.heap.size+2) (bq+1) w5 u1 u2 u3 u4 u5 ev V) (λ_ j _=>4-(intOf j).toNat)
 case atStart=>exact⟨0,by omega,rfl,A,[],.zero,_,_,_,_,_,_,rfl,T5.out⟩
 case round=>
 obtain⟨n,hn,rfl,Y,es,hp,u1,u2,u3,u4,u5,ev,rfl,hT⟩:=hrel;have PH:Hid (Ph ks Wn Hn A n Y es):=hp;have KP:Hid (aT ks Y/\Y.wide=(Wn:Nat)/\Y.high=(Hn:Nat)/\Y.turn=A.turn/\es.length<=50000*n):=hp.keep AR.out WH.out.2.2.1 WH.out.2.2.2.1;have TQ:Hid (lT Y es w.heap.size (w.heap.size+2) (bq+1) w5 u1 u2 u3 u4 u5 ev wr):=hT;clear hp hT;have CQ:Hid (∀i u,i<4->w5.cell? ⟨bq,i,none⟩=some u->wr.cell? ⟨bq,i,none⟩=some u):=λi u _ h=>TQ.out.f.cell h (λe=>by have:=NQ.out;simp only at e;omega)
 have ZW:Hid (Wx wr (w.heap.size+1) (int i64 0) (int i64 0) (int i64 0) (int i64 0) (slice none 0 0) (slice none 0 0) (slice none 0 0) (slice none 0 0) (slice none 0 0)):=TQ.out.f.wx Z5.out (by omega);have BW:Hid (Below w.heap.size w wr):=B5.out.trans (TQ.out.f.low B5.out.size (λk hk=>by omega));have SW:Hid (bq+1<=wr.heap.size):=by have:=TQ.out.f.size;have:=SZ.out;unfold Hid;omega
 obtain⟨g1,l1,rfl⟩:=TQ.out.o1.len;obtain⟨g2,l2,rfl⟩:=TQ.out.o2.len;obtain⟨g3,l3,rfl⟩:=TQ.out.o3.len;obtain⟨g4,l4,rfl⟩:=TQ.out.o4.len;obtain⟨g5,l5,rfl⟩:=TQ.out.o5.len;by_cases hne:n=4
 case pos=>
  subst hne;obtain⟨x0,x1,x2,x3,x4,x5,x6,x7,x8⟩:=TQ.out.x.cells;have t0:=TQ.out.x.thaw 0;have tb:X.turn<1000000:=by have:=TN.out;omega
  have tb0:0<=X.turn:=by have h9:=WR.out.nums;unfold Wd.bH Wd.off at h9;simp at h9;omega
  have wt:IntKind.i64.wrap (Y.turn+1)=Y.turn+1:=by have h1:=KP.out.2.2.2.1;have h2:=WH.out.2.2.2.2;rw[IntKind.wrap_i64];omega
  have XS:Hid (Wx (wr.setCell ⟨w.heap.size,0,none⟩ (int i64 (Y.turn+1))) w.heap.size (int i64 (Y.turn+1)) (int i64 Y.next) (int i64 Y.wide) (int i64 Y.high) (slice g1 Y.gs.length l1) (slice g2 Y.os.length l2) (slice g3 Y.gold.length l3) (slice g4 Y.us.length l4) (slice g5 Y.qs.length l5)):=TQ.out.x.set0 _;have KS:Hid (Kp w.heap.size wr (wr.setCell ⟨w.heap.size,0,none⟩ (int i64 (Y.turn+1)))):=Kp.set _ _ _;go_upto_region 20 with fail
  clear x0 x1 x2 x3 x4 x5 x6 x7 x8 t0 wt tb tb0;generalize (wr.setCell ⟨w.heap.size,0,none⟩ (int i64 (Y.turn+1)))=ws at *;obtain⟨x0,x1,x2,x3,x4,x5,x6,x7,x8⟩:=XS.out.cells;have ZS:Hid (Wx ws (w.heap.size+1) (int i64 0) (int i64 0) (int i64 0) (int i64 0) (slice none 0 0) (slice none 0 0) (slice none 0 0) (slice none 0 0) (slice none 0 0)):=ZW.out.kp KS.out (by omega);have BS2:Hid (Below w.heap.size w ws):=KS.out.below BW.out BW.out.size (Nat.le_refl _);obtain⟨z0,z1,z2,z3,z4,z5,z6,z7,z8⟩:=ZS.out.cells;obtain⟨t0,t1,t2,t3,t4,t5,t6,t7,t8⟩:=ZS.out.bF;have KZ:Hid (Kp (w.heap.size+1) ws (((((((((ws.setCell ⟨w.heap.size+1,0,none⟩ (int i64 (Y.turn+1))).setCell ⟨w.heap.size+1,1,none⟩ (int i64 Y.next)).setCell ⟨w.heap.size+1,2,none⟩ (int i64 Y.wide)).setCell ⟨w.heap.size+1,3,none⟩ (int i64 Y.high)).setCell ⟨w.heap.size+1,4,none⟩ (slice g1 Y.gs.length l1)).setCell ⟨w.heap.size+1,5,none⟩ (slice g2 Y.os.length l2)).setCell ⟨w.heap.size+1,6,none⟩ (slice g3 Y.gold.length l3)).setCell ⟨w.heap.size+1,7,none⟩ (slice g4 Y.us.length l4)).setCell ⟨w.heap.size+1,8,none⟩ (slice g5 Y.qs.length l5))):=aN _ _ _ _ _ _ _ _ _ _ _;obtain⟨y0,y1,y2,y3,y4,y5,y6,y7,y8⟩:=(ZS.out.put (int i64 (Y.turn+1)) (int i64 Y.next) (int i64 Y.wide) (int i64 Y.high) (slice g1 Y.gs.length l1) (slice g2 Y.os.length l2) (slice g3 Y.gold.length l3) (slice g4 Y.us.length l4) (slice g5 Y.qs.length l5)).cells;go_wp2;clear x0 x1 x2 x3 x4 x5 x6 x7 x8 z0 z1 z2 z3 z4 z5 z6 z7 z8 t0 t1 t2 t3 t4 t5 t6 t7 t8;generalize (((((((((ws.setCell ⟨w.heap.size+1,0,none⟩ (int i64 (Y.turn+1))).setCell ⟨w.heap.size+1,1,none⟩ (int i64 Y.next)).setCell ⟨w.heap.size+1,2,none⟩ (int i64 Y.wide)).setCell ⟨w.heap.size+1,3,none⟩ (int i64 Y.high)).setCell ⟨w.heap.size+1,4,none⟩ (slice g1 Y.gs.length l1)).setCell ⟨w.heap.size+1,5,none⟩ (slice g2 Y.os.length l2)).setCell ⟨w.heap.size+1,6,none⟩ (slice g3 Y.gold.length l3)).setCell ⟨w.heap.size+1,7,none⟩ (slice g4 Y.us.length l4)).setCell ⟨w.heap.size+1,8,none⟩ (slice g5 Y.qs.length l5))=wt at *;have kp2:∀{T:TypeId} {size:Nat} {u:Value} {n:Nat} {cs:List Value} {base:Nat},w.heap.size+2<=base->wr.ownsRow base T size u n cs->wt.ownsRow base T size u n cs:=λhb h=>(Fr.kp (S:=λk=>k=w.heap.size+1) KZ.out rfl).own ((Fr.kp (S:=λk=>k=w.heap.size) KS.out rfl).own h (λk hk=>by have:=(World.ownsRow.lt h k hk).1;omega)) (λk hk=>by have:=(World.ownsRow.lt h k hk).1;omega)
  have hq:=NQ.out;refine bodyPost_ret (v:=.tuple #[.agg #[int i64 (Y.turn+1),int i64 Y.next,int i64 Y.wide,int i64 Y.high,slice g1 Y.gs.length l1,slice g2 Y.os.length l2,slice g3 Y.gold.length l3,slice g4 Y.us.length l4,slice g5 Y.qs.length l5],ev,.nilIface]) (by simp[results,Tryz.results17,go_sem,y0,y1,y2,y3,y4,y5,y6,y7,y8]) rfl ⟨_,_,_,rfl,by rw[SF.out,FO.out];exact Er.nil,.inr ⟨by rw[SF.out,FO.out],{Y with turn:=Y.turn+1},es,⟨out,Wn,Hn,Y,LS.out,WH.out.1,WH.out.2.1,by rw[HA.out];exact PH.out,rfl⟩,?_,?_⟩,KZ.out.below BS2.out BS2.out.size (by omega)⟩
  ·exact⟨_,_,_,_,_,rfl,Ow.mono (kp2 (Nat.le_refl _) TQ.out.o1) (by omega),Ow.mono (kp2 (Nat.le_refl _) TQ.out.o2) (by omega),Ow.mono (kp2 (Nat.le_refl _) TQ.out.o3) (by omega),dA.mono (kp2 (Nat.le_refl _) TQ.out.o4) (by omega),bY.mono (kp2 (Nat.le_refl _) TQ.out.o5) (by omega)⟩
  ·exact dM.mono (kp2 (by omega) TQ.out.e) (by omega)
 case neg=>
 have hn4:n=0\/n=1\/n=2\/n=3:=by omega
 clear hne hn;rcases hn4 with rfl|rfl|rfl|rfl
 ·have cf:wr.cell? ⟨bq,0,none⟩=some (.func (Fn.func 51) #[] #[]):=CQ.out 0 _ (by decide) CF0.out.1
  obtain⟨x0,x1,x2,x3,x4,x5,x6,x7,x8⟩:=TQ.out.x.cells;go_wp2_with fail
  clear cf x0 x1 x2 x3 x4 x5 x6 x7 x8;refine(Ez _ _ ks Y wr (K.out.1.below BW.out) K.out.2 TQ.out.wl (SD.out.1.below BW.out)).mono ?_;rintro e w7 ⟨v,ev2,r,rfl,hr,hd,hb⟩;rw[KP.out.1.zero] at hr;obtain rfl:r=.nilIface:=by
   rcases hr with⟨-,e⟩|⟨h,-⟩
   ·exact e
   ·exact absurd rfl h
  have NX:Hid (∃Z fs,Ph ks Wn Hn A 1 Z (es++fs)/\Wo w7 wr.heap.size v Z/\dM w7 wr.heap.size ev2 fs):=by
   rcases hd with⟨h,-⟩|⟨-,T,e1,q1,ht,h1,h2⟩
   ·exact absurd KP.out.1.zero h
   ·have h0:=PH.out
    cases h0;exact⟨_,e1,.one ht,h1,h2⟩
  have T7:Hid (lT Y es w.heap.size (w.heap.size+2) (bq+1) w5 (slice g1 Y.gs.length l1) (slice g2 Y.os.length l2) (slice g3 Y.gold.length l3) (slice g4 Y.us.length l4) (slice g5 Y.qs.length l5) ev w7):=TQ.out.below hb;have S7:Hid (wr.heap.size<=w7.heap.size):=hb.size;clear hb hd hr;obtain⟨Z,fs,zG,ho,hev⟩:=NX.out;have PN:Hid (Ph ks Wn Hn A 1 Z (es++fs)):=zG;have LN:Hid (es.length+fs.length<=1000000):=by have h9:=(zG.keep AR.out WH.out.2.2.1 WH.out.2.2.2.1).2.2.2.2;rw[List.length_append] at h9;unfold Hid;omega
  obtain⟨v1,v2,v3,v4,v5,rfl,o1,o2,o3,o4,o5⟩:=ho;obtain⟨m1,k1,rfl⟩:=o1.len;obtain⟨m2,k2,rfl⟩:=o2.len;obtain⟨m3,k3,rfl⟩:=o3.len;obtain⟨m4,k4,rfl⟩:=o4.len;obtain⟨m5,k5,rfl⟩:=o5.len;have sb:w.heap.size+2<=wr.heap.size:=by have:=SW.out;have:=NQ.out;omega
  have OZ:Hid (Ow w7 (w.heap.size+2) (slice m1 Z.gs.length k1) Z.gs/\Ow w7 (w.heap.size+2) (slice m2 Z.os.length k2) Z.os/\Ow w7 (w.heap.size+2) (slice m3 Z.gold.length k3) Z.gold/\dA w7 (w.heap.size+2) (slice m4 Z.us.length k4) Z.us/\bY w7 (w.heap.size+2) (slice m5 Z.qs.length k5) Z.qs/\dM w7 (w.heap.size+2) ev2 fs):=⟨o1.mono sb,o2.mono sb,o3.mono sb,o4.mono sb,o5.mono sb,hev.mono sb⟩;clear o1 o2 o3 o4 o5 hev zG NX sb;obtain⟨bn,hbn⟩:∃b,w7.heap.size=b:=⟨_,rfl⟩;have BN:Hid (Below w7.heap.size w7 (w7.alloc (Obj.cells #[int i64 Z.turn,int i64 Z.next,int i64 Z.wide,int i64 Z.high,slice m1 Z.gs.length k1,slice m2 Z.os.length k2,slice m3 Z.gold.length k3,slice m4 Z.us.length k4,slice m5 Z.qs.length k5] 29))):=(Below.refl _ _).alloc (Nat.le_refl _) _;have XN:Hid (Wx (w7.alloc (Obj.cells #[int i64 Z.turn,int i64 Z.next,int i64 Z.wide,int i64 Z.high,slice m1 Z.gs.length k1,slice m2 Z.os.length k2,slice m3 Z.gold.length k3,slice m4 Z.us.length k4,slice m5 Z.qs.length k5] 29)) bn (int i64 Z.turn) (int i64 Z.next) (int i64 Z.wide) (int i64 Z.high) (slice m1 Z.gs.length k1) (slice m2 Z.os.length k2) (slice m3 Z.gold.length k3) (slice m4 Z.us.length k4) (slice m5 Z.qs.length k5)):=Wx.new (w:=w7) (int i64 Z.turn) (int i64 Z.next) (int i64 Z.wide) (int i64 Z.high) (slice m1 Z.gs.length k1) (slice m2 Z.os.length k2) (slice m3 Z.gold.length k3) (slice m4 Z.us.length k4) (slice m5 Z.qs.length k5) hbn;have NB:Hid (bq+1<=bn):=by rw[<-hbn];exact Nat.le_trans SW.out S7.out
  go_upto_region 16 with fail
  (try rw[hbn])
  clear hbn;generalize w7.alloc (Obj.cells #[int i64 Z.turn,int i64 Z.next,int i64 Z.wide,int i64 Z.high,slice m1 Z.gs.length k1,slice m2 Z.os.length k2,slice m3 Z.gold.length k3,slice m4 Z.us.length k4,slice m5 Z.qs.length k5] 29)=w8 at *;have T8:Hid (lT Y es w.heap.size (w.heap.size+2) (bq+1) w5 (slice g1 Y.gs.length l1) (slice g2 Y.os.length l2) (slice g3 Y.gold.length l3) (slice g4 Y.us.length l4) (slice g5 Y.qs.length l5) ev w8):=T7.out.below BN.out;have O8:Hid (Ow w8 (w.heap.size+2) (slice m1 Z.gs.length k1) Z.gs/\Ow w8 (w.heap.size+2) (slice m2 Z.os.length k2) Z.os/\Ow w8 (w.heap.size+2) (slice m3 Z.gold.length k3) Z.gold/\dA w8 (w.heap.size+2) (slice m4 Z.us.length k4) Z.us/\bY w8 (w.heap.size+2) (slice m5 Z.qs.length k5) Z.qs/\dM w8 (w.heap.size+2) ev2 fs):=⟨OZ.out.1.below BN.out,OZ.out.2.1.below BN.out,OZ.out.2.2.1.below BN.out,OZ.out.2.2.2.1.below BN.out,OZ.out.2.2.2.2.1.below BN.out,OZ.out.2.2.2.2.2.below BN.out⟩;obtain⟨x0,x1,x2,x3,x4,x5,x6,x7,x8⟩:=XN.out.cells;obtain⟨z0,z1,z2,z3,z4,z5,z6,z7,z8⟩:=T8.out.x.cells;obtain⟨t0,t1,t2,t3,t4,t5,t6,t7,t8⟩:=T8.out.x.bF;have KZ:Hid (Kp w.heap.size w8 (((((((((w8.setCell ⟨w.heap.size,0,none⟩ (int i64 Z.turn)).setCell ⟨w.heap.size,1,none⟩ (int i64 Z.next)).setCell ⟨w.heap.size,2,none⟩ (int i64 Z.wide)).setCell ⟨w.heap.size,3,none⟩ (int i64 Z.high)).setCell ⟨w.heap.size,4,none⟩ (slice m1 Z.gs.length k1)).setCell ⟨w.heap.size,5,none⟩ (slice m2 Z.os.length k2)).setCell ⟨w.heap.size,6,none⟩ (slice m3 Z.gold.length k3)).setCell ⟨w.heap.size,7,none⟩ (slice m4 Z.us.length k4)).setCell ⟨w.heap.size,8,none⟩ (slice m5 Z.qs.length k5))):=aN _ _ _ _ _ _ _ _ _ _ _;have XZ:Hid (Wx (((((((((w8.setCell ⟨w.heap.size,0,none⟩ (int i64 Z.turn)).setCell ⟨w.heap.size,1,none⟩ (int i64 Z.next)).setCell ⟨w.heap.size,2,none⟩ (int i64 Z.wide)).setCell ⟨w.heap.size,3,none⟩ (int i64 Z.high)).setCell ⟨w.heap.size,4,none⟩ (slice m1 Z.gs.length k1)).setCell ⟨w.heap.size,5,none⟩ (slice m2 Z.os.length k2)).setCell ⟨w.heap.size,6,none⟩ (slice m3 Z.gold.length k3)).setCell ⟨w.heap.size,7,none⟩ (slice m4 Z.us.length k4)).setCell ⟨w.heap.size,8,none⟩ (slice m5 Z.qs.length k5)) w.heap.size (int i64 Z.turn) (int i64 Z.next) (int i64 Z.wide) (int i64 Z.high) (slice m1 Z.gs.length k1) (slice m2 Z.os.length k2) (slice m3 Z.gold.length k3) (slice m4 Z.us.length k4) (slice m5 Z.qs.length k5)):=T8.out.x.put (int i64 Z.turn) (int i64 Z.next) (int i64 Z.wide) (int i64 Z.high) (slice m1 Z.gs.length k1) (slice m2 Z.os.length k2) (slice m3 Z.gold.length k3) (slice m4 Z.us.length k4) (slice m5 Z.qs.length k5);go_upto_region 17 with fail
  clear x0 x1 x2 x3 x4 x5 x6 x7 x8 z0 z1 z2 z3 z4 z5 z6 z7 z8 t0 t1 t2 t3 t4 t5 t6 t7 t8;generalize (((((((((w8.setCell ⟨w.heap.size,0,none⟩ (int i64 Z.turn)).setCell ⟨w.heap.size,1,none⟩ (int i64 Z.next)).setCell ⟨w.heap.size,2,none⟩ (int i64 Z.wide)).setCell ⟨w.heap.size,3,none⟩ (int i64 Z.high)).setCell ⟨w.heap.size,4,none⟩ (slice m1 Z.gs.length k1)).setCell ⟨w.heap.size,5,none⟩ (slice m2 Z.os.length k2)).setCell ⟨w.heap.size,6,none⟩ (slice m3 Z.gold.length k3)).setCell ⟨w.heap.size,7,none⟩ (slice m4 Z.us.length k4)).setCell ⟨w.heap.size,8,none⟩ (slice m5 Z.qs.length k5))=w9 at *;have T9:Hid (lT Z es w.heap.size (w.heap.size+2) (bq+1) w5 (slice m1 Z.gs.length k1) (slice m2 Z.os.length k2) (slice m3 Z.gold.length k3) (slice m4 Z.us.length k4) (slice m5 Z.qs.length k5) ev w9):=T8.out.puts KZ.out XZ.out O8.out.1 O8.out.2.1 O8.out.2.2.1 O8.out.2.2.2.1 O8.out.2.2.2.2.1;have E9:Hid (LM w9 ev2 fs):=dM.l ((Fr.kp (S:=λk=>k=w.heap.size) KZ.out rfl).own O8.out.2.2.2.2.2 (λk hk=>by have:=(O8.out.2.2.2.2.2.block k hk).1;omega):dM w9 (w.heap.size+2) ev2 fs);have S9:Hid (bq+1<=w9.heap.size):=by have h1:=T9.out.f.size;have h2:=SZ.out;unfold Hid;omega
  go_wp2_with (at_builtin;refine oh _ rfl _ _ rfl (bq+1) _ es rfl T9.out.e _ fs rfl E9.out LN.out S9.out ?_);intro ev' wE hE hG;have TE:Hid (lT Z (es++fs) w.heap.size (w.heap.size+2) (bq+1) w5 (slice m1 Z.gs.length k1) (slice m2 Z.os.length k2) (slice m3 Z.gold.length k3) (slice m4 Z.us.length k4) (slice m5 Z.qs.length k5) ev' wE):=T9.out.told hG hE;clear hE hG;go_wp2;go_round
  case rel=>exact⟨1,by omega,by go_num,Z,es++fs,PN.out,_,_,_,_,_,_,rfl,TE.out⟩
  case measure=>simp[intOf]
 ·have cf:wr.cell? ⟨bq,1,none⟩=some (.func (Fn.func 52) #[] #[]):=CQ.out 1 _ (by decide) CF0.out.2.1
  obtain⟨x0,x1,x2,x3,x4,x5,x6,x7,x8⟩:=TQ.out.x.cells;go_wp2_with fail
  clear cf x0 x1 x2 x3 x4 x5 x6 x7 x8;refine(Jj _ _ ks Y wr (K.out.1.below BW.out) K.out.2 TQ.out.wl (SD.out.1.below BW.out)).mono ?_;rintro e w7 ⟨v,ev2,r,rfl,hr,hd,hb⟩;rw[KP.out.1.zero] at hr;obtain rfl:r=.nilIface:=by
   rcases hr with⟨-,e⟩|⟨h,-⟩
   ·exact e
   ·exact absurd rfl h
  have NX:Hid (∃Z fs,Ph ks Wn Hn A 2 Z (es++fs)/\Wo w7 wr.heap.size v Z/\dM w7 wr.heap.size ev2 fs):=by
   rcases hd with⟨h,-⟩|⟨-,W',H',e1,e2,-,us,evs,hm,-,h1,h2⟩
   ·exact absurd KP.out.1.zero h
   ·have k1:=KP.out.2.1
    have k2:=KP.out.2.2.1;obtain rfl:W'=Wn:=by omega
    obtain rfl:H'=Hn:=by omega
    exact⟨_,evs,.two PH.out hm,h1,h2⟩
  have T7:Hid (lT Y es w.heap.size (w.heap.size+2) (bq+1) w5 (slice g1 Y.gs.length l1) (slice g2 Y.os.length l2) (slice g3 Y.gold.length l3) (slice g4 Y.us.length l4) (slice g5 Y.qs.length l5) ev w7):=TQ.out.below hb;have S7:Hid (wr.heap.size<=w7.heap.size):=hb.size;clear hb hd hr;obtain⟨Z,fs,zG,ho,hev⟩:=NX.out;have PN:Hid (Ph ks Wn Hn A 2 Z (es++fs)):=zG;have LN:Hid (es.length+fs.length<=1000000):=by have h9:=(zG.keep AR.out WH.out.2.2.1 WH.out.2.2.2.1).2.2.2.2;rw[List.length_append] at h9;unfold Hid;omega
  obtain⟨v1,v2,v3,v4,v5,rfl,o1,o2,o3,o4,o5⟩:=ho;obtain⟨m1,k1,rfl⟩:=o1.len;obtain⟨m2,k2,rfl⟩:=o2.len;obtain⟨m3,k3,rfl⟩:=o3.len;obtain⟨m4,k4,rfl⟩:=o4.len;obtain⟨m5,k5,rfl⟩:=o5.len;have sb:w.heap.size+2<=wr.heap.size:=by have:=SW.out;have:=NQ.out;omega
  have OZ:Hid (Ow w7 (w.heap.size+2) (slice m1 Z.gs.length k1) Z.gs/\Ow w7 (w.heap.size+2) (slice m2 Z.os.length k2) Z.os/\Ow w7 (w.heap.size+2) (slice m3 Z.gold.length k3) Z.gold/\dA w7 (w.heap.size+2) (slice m4 Z.us.length k4) Z.us/\bY w7 (w.heap.size+2) (slice m5 Z.qs.length k5) Z.qs/\dM w7 (w.heap.size+2) ev2 fs):=⟨o1.mono sb,o2.mono sb,o3.mono sb,o4.mono sb,o5.mono sb,hev.mono sb⟩;clear o1 o2 o3 o4 o5 hev zG NX sb;obtain⟨bn,hbn⟩:∃b,w7.heap.size=b:=⟨_,rfl⟩;have BN:Hid (Below w7.heap.size w7 (w7.alloc (Obj.cells #[int i64 Z.turn,int i64 Z.next,int i64 Z.wide,int i64 Z.high,slice m1 Z.gs.length k1,slice m2 Z.os.length k2,slice m3 Z.gold.length k3,slice m4 Z.us.length k4,slice m5 Z.qs.length k5] 29))):=(Below.refl _ _).alloc (Nat.le_refl _) _;have XN:Hid (Wx (w7.alloc (Obj.cells #[int i64 Z.turn,int i64 Z.next,int i64 Z.wide,int i64 Z.high,slice m1 Z.gs.length k1,slice m2 Z.os.length k2,slice m3 Z.gold.length k3,slice m4 Z.us.length k4,slice m5 Z.qs.length k5] 29)) bn (int i64 Z.turn) (int i64 Z.next) (int i64 Z.wide) (int i64 Z.high) (slice m1 Z.gs.length k1) (slice m2 Z.os.length k2) (slice m3 Z.gold.length k3) (slice m4 Z.us.length k4) (slice m5 Z.qs.length k5)):=Wx.new (w:=w7) (int i64 Z.turn) (int i64 Z.next) (int i64 Z.wide) (int i64 Z.high) (slice m1 Z.gs.length k1) (slice m2 Z.os.length k2) (slice m3 Z.gold.length k3) (slice m4 Z.us.length k4) (slice m5 Z.qs.length k5) hbn;have NB:Hid (bq+1<=bn):=by rw[<-hbn];exact Nat.le_trans SW.out S7.out
  go_upto_region 16 with fail
  (try rw[hbn])
  clear hbn;generalize w7.alloc (Obj.cells #[int i64 Z.turn,int i64 Z.next,int i64 Z.wide,int i64 Z.high,slice m1 Z.gs.length k1,slice m2 Z.os.length k2,slice m3 Z.gold.length k3,slice m4 Z.us.length k4,slice m5 Z.qs.length k5] 29)=w8 at *;have T8:Hid (lT Y es w.heap.size (w.heap.size+2) (bq+1) w5 (slice g1 Y.gs.length l1) (slice g2 Y.os.length l2) (slice g3 Y.gold.length l3) (slice g4 Y.us.length l4) (slice g5 Y.qs.length l5) ev w8):=T7.out.below BN.out;have O8:Hid (Ow w8 (w.heap.size+2) (slice m1 Z.gs.length k1) Z.gs/\Ow w8 (w.heap.size+2) (slice m2 Z.os.length k2) Z.os/\Ow w8 (w.heap.size+2) (slice m3 Z.gold.length k3) Z.gold/\dA w8 (w.heap.size+2) (slice m4 Z.us.length k4) Z.us/\bY w8 (w.heap.size+2) (slice m5 Z.qs.length k5) Z.qs/\dM w8 (w.heap.size+2) ev2 fs):=⟨OZ.out.1.below BN.out,OZ.out.2.1.below BN.out,OZ.out.2.2.1.below BN.out,OZ.out.2.2.2.1.below BN.out,OZ.out.2.2.2.2.1.below BN.out,OZ.out.2.2.2.2.2.below BN.out⟩;obtain⟨x0,x1,x2,x3,x4,x5,x6,x7,x8⟩:=XN.out.cells;obtain⟨z0,z1,z2,z3,z4,z5,z6,z7,z8⟩:=T8.out.x.cells;obtain⟨t0,t1,t2,t3,t4,t5,t6,t7,t8⟩:=T8.out.x.bF;have KZ:Hid (Kp w.heap.size w8 (((((((((w8.setCell ⟨w.heap.size,0,none⟩ (int i64 Z.turn)).setCell ⟨w.heap.size,1,none⟩ (int i64 Z.next)).setCell ⟨w.heap.size,2,none⟩ (int i64 Z.wide)).setCell ⟨w.heap.size,3,none⟩ (int i64 Z.high)).setCell ⟨w.heap.size,4,none⟩ (slice m1 Z.gs.length k1)).setCell ⟨w.heap.size,5,none⟩ (slice m2 Z.os.length k2)).setCell ⟨w.heap.size,6,none⟩ (slice m3 Z.gold.length k3)).setCell ⟨w.heap.size,7,none⟩ (slice m4 Z.us.length k4)).setCell ⟨w.heap.size,8,none⟩ (slice m5 Z.qs.length k5))):=aN _ _ _ _ _ _ _ _ _ _ _;have XZ:Hid (Wx (((((((((w8.setCell ⟨w.heap.size,0,none⟩ (int i64 Z.turn)).setCell ⟨w.heap.size,1,none⟩ (int i64 Z.next)).setCell ⟨w.heap.size,2,none⟩ (int i64 Z.wide)).setCell ⟨w.heap.size,3,none⟩ (int i64 Z.high)).setCell ⟨w.heap.size,4,none⟩ (slice m1 Z.gs.length k1)).setCell ⟨w.heap.size,5,none⟩ (slice m2 Z.os.length k2)).setCell ⟨w.heap.size,6,none⟩ (slice m3 Z.gold.length k3)).setCell ⟨w.heap.size,7,none⟩ (slice m4 Z.us.length k4)).setCell ⟨w.heap.size,8,none⟩ (slice m5 Z.qs.length k5)) w.heap.size (int i64 Z.turn) (int i64 Z.next) (int i64 Z.wide) (int i64 Z.high) (slice m1 Z.gs.length k1) (slice m2 Z.os.length k2) (slice m3 Z.gold.length k3) (slice m4 Z.us.length k4) (slice m5 Z.qs.length k5)):=T8.out.x.put (int i64 Z.turn) (int i64 Z.next) (int i64 Z.wide) (int i64 Z.high) (slice m1 Z.gs.length k1) (slice m2 Z.os.length k2) (slice m3 Z.gold.length k3) (slice m4 Z.us.length k4) (slice m5 Z.qs.length k5);go_upto_region 17 with fail
  clear x0 x1 x2 x3 x4 x5 x6 x7 x8 z0 z1 z2 z3 z4 z5 z6 z7 z8 t0 t1 t2 t3 t4 t5 t6 t7 t8;generalize (((((((((w8.setCell ⟨w.heap.size,0,none⟩ (int i64 Z.turn)).setCell ⟨w.heap.size,1,none⟩ (int i64 Z.next)).setCell ⟨w.heap.size,2,none⟩ (int i64 Z.wide)).setCell ⟨w.heap.size,3,none⟩ (int i64 Z.high)).setCell ⟨w.heap.size,4,none⟩ (slice m1 Z.gs.length k1)).setCell ⟨w.heap.size,5,none⟩ (slice m2 Z.os.length k2)).setCell ⟨w.heap.size,6,none⟩ (slice m3 Z.gold.length k3)).setCell ⟨w.heap.size,7,none⟩ (slice m4 Z.us.length k4)).setCell ⟨w.heap.size,8,none⟩ (slice m5 Z.qs.length k5))=w9 at *;have T9:Hid (lT Z es w.heap.size (w.heap.size+2) (bq+1) w5 (slice m1 Z.gs.length k1) (slice m2 Z.os.length k2) (slice m3 Z.gold.length k3) (slice m4 Z.us.length k4) (slice m5 Z.qs.length k5) ev w9):=T8.out.puts KZ.out XZ.out O8.out.1 O8.out.2.1 O8.out.2.2.1 O8.out.2.2.2.1 O8.out.2.2.2.2.1;have E9:Hid (LM w9 ev2 fs):=dM.l ((Fr.kp (S:=λk=>k=w.heap.size) KZ.out rfl).own O8.out.2.2.2.2.2 (λk hk=>by have:=(O8.out.2.2.2.2.2.block k hk).1;omega):dM w9 (w.heap.size+2) ev2 fs);have S9:Hid (bq+1<=w9.heap.size):=by have h1:=T9.out.f.size;have h2:=SZ.out;unfold Hid;omega
  go_wp2_with (at_builtin;refine oh _ rfl _ _ rfl (bq+1) _ es rfl T9.out.e _ fs rfl E9.out LN.out S9.out ?_);intro ev' wE hE hG;have TE:Hid (lT Z (es++fs) w.heap.size (w.heap.size+2) (bq+1) w5 (slice m1 Z.gs.length k1) (slice m2 Z.os.length k2) (slice m3 Z.gold.length k3) (slice m4 Z.us.length k4) (slice m5 Z.qs.length k5) ev' wE):=T9.out.told hG hE;clear hE hG;go_wp2;go_round
  case rel=>exact⟨2,by omega,by go_num,Z,es++fs,PN.out,_,_,_,_,_,_,rfl,TE.out⟩
  case measure=>simp[intOf]
 ·have cf:wr.cell? ⟨bq,2,none⟩=some (.func (Fn.func 53) #[] #[]):=CQ.out 2 _ (by decide) CF0.out.2.2.1
  obtain⟨x0,x1,x2,x3,x4,x5,x6,x7,x8⟩:=TQ.out.x.cells;go_wp2_with fail
  clear cf x0 x1 x2 x3 x4 x5 x6 x7 x8;refine(NJ _ _ ks Y wr (K.out.1.below BW.out) K.out.2 TQ.out.wl (SD.out.1.below BW.out)).mono ?_;rintro e w7 ⟨v,ev2,r,rfl,hr,hd,hb⟩;rw[KP.out.1.zero] at hr;obtain rfl:r=.nilIface:=by
   rcases hr with⟨-,e⟩|⟨h,-⟩
   ·exact e
   ·exact absurd rfl h
  have NX:Hid (∃Z fs,Ph ks Wn Hn A 3 Z (es++fs)/\Wo w7 wr.heap.size v Z/\dM w7 wr.heap.size ev2 fs):=by
   rcases hd with⟨h,-⟩|⟨-,W',H',e1,e2,-,h1,h2⟩
   ·exact absurd KP.out.1.zero h
   ·have k1:=KP.out.2.1
    have k2:=KP.out.2.2.1;obtain rfl:W'=Wn:=by omega
    obtain rfl:H'=Hn:=by omega
    exact⟨_,_,.three PH.out,h1,h2⟩
  have T7:Hid (lT Y es w.heap.size (w.heap.size+2) (bq+1) w5 (slice g1 Y.gs.length l1) (slice g2 Y.os.length l2) (slice g3 Y.gold.length l3) (slice g4 Y.us.length l4) (slice g5 Y.qs.length l5) ev w7):=TQ.out.below hb;have S7:Hid (wr.heap.size<=w7.heap.size):=hb.size;clear hb hd hr;obtain⟨Z,fs,zG,ho,hev⟩:=NX.out;have PN:Hid (Ph ks Wn Hn A 3 Z (es++fs)):=zG;have LN:Hid (es.length+fs.length<=1000000):=by have h9:=(zG.keep AR.out WH.out.2.2.1 WH.out.2.2.2.1).2.2.2.2;rw[List.length_append] at h9;unfold Hid;omega
  obtain⟨v1,v2,v3,v4,v5,rfl,o1,o2,o3,o4,o5⟩:=ho;obtain⟨m1,k1,rfl⟩:=o1.len;obtain⟨m2,k2,rfl⟩:=o2.len;obtain⟨m3,k3,rfl⟩:=o3.len;obtain⟨m4,k4,rfl⟩:=o4.len;obtain⟨m5,k5,rfl⟩:=o5.len;have sb:w.heap.size+2<=wr.heap.size:=by have:=SW.out;have:=NQ.out;omega
  have OZ:Hid (Ow w7 (w.heap.size+2) (slice m1 Z.gs.length k1) Z.gs/\Ow w7 (w.heap.size+2) (slice m2 Z.os.length k2) Z.os/\Ow w7 (w.heap.size+2) (slice m3 Z.gold.length k3) Z.gold/\dA w7 (w.heap.size+2) (slice m4 Z.us.length k4) Z.us/\bY w7 (w.heap.size+2) (slice m5 Z.qs.length k5) Z.qs/\dM w7 (w.heap.size+2) ev2 fs):=⟨o1.mono sb,o2.mono sb,o3.mono sb,o4.mono sb,o5.mono sb,hev.mono sb⟩;clear o1 o2 o3 o4 o5 hev zG NX sb;obtain⟨bn,hbn⟩:∃b,w7.heap.size=b:=⟨_,rfl⟩;have BN:Hid (Below w7.heap.size w7 (w7.alloc (Obj.cells #[int i64 Z.turn,int i64 Z.next,int i64 Z.wide,int i64 Z.high,slice m1 Z.gs.length k1,slice m2 Z.os.length k2,slice m3 Z.gold.length k3,slice m4 Z.us.length k4,slice m5 Z.qs.length k5] 29))):=(Below.refl _ _).alloc (Nat.le_refl _) _;have XN:Hid (Wx (w7.alloc (Obj.cells #[int i64 Z.turn,int i64 Z.next,int i64 Z.wide,int i64 Z.high,slice m1 Z.gs.length k1,slice m2 Z.os.length k2,slice m3 Z.gold.length k3,slice m4 Z.us.length k4,slice m5 Z.qs.length k5] 29)) bn (int i64 Z.turn) (int i64 Z.next) (int i64 Z.wide) (int i64 Z.high) (slice m1 Z.gs.length k1) (slice m2 Z.os.length k2) (slice m3 Z.gold.length k3) (slice m4 Z.us.length k4) (slice m5 Z.qs.length k5)):=Wx.new (w:=w7) (int i64 Z.turn) (int i64 Z.next) (int i64 Z.wide) (int i64 Z.high) (slice m1 Z.gs.length k1) (slice m2 Z.os.length k2) (slice m3 Z.gold.length k3) (slice m4 Z.us.length k4) (slice m5 Z.qs.length k5) hbn;have NB:Hid (bq+1<=bn):=by rw[<-hbn];exact Nat.le_trans SW.out S7.out
  go_upto_region 16 with fail
  (try rw[hbn])
  clear hbn;generalize w7.alloc (Obj.cells #[int i64 Z.turn,int i64 Z.next,int i64 Z.wide,int i64 Z.high,slice m1 Z.gs.length k1,slice m2 Z.os.length k2,slice m3 Z.gold.length k3,slice m4 Z.us.length k4,slice m5 Z.qs.length k5] 29)=w8 at *;have T8:Hid (lT Y es w.heap.size (w.heap.size+2) (bq+1) w5 (slice g1 Y.gs.length l1) (slice g2 Y.os.length l2) (slice g3 Y.gold.length l3) (slice g4 Y.us.length l4) (slice g5 Y.qs.length l5) ev w8):=T7.out.below BN.out;have O8:Hid (Ow w8 (w.heap.size+2) (slice m1 Z.gs.length k1) Z.gs/\Ow w8 (w.heap.size+2) (slice m2 Z.os.length k2) Z.os/\Ow w8 (w.heap.size+2) (slice m3 Z.gold.length k3) Z.gold/\dA w8 (w.heap.size+2) (slice m4 Z.us.length k4) Z.us/\bY w8 (w.heap.size+2) (slice m5 Z.qs.length k5) Z.qs/\dM w8 (w.heap.size+2) ev2 fs):=⟨OZ.out.1.below BN.out,OZ.out.2.1.below BN.out,OZ.out.2.2.1.below BN.out,OZ.out.2.2.2.1.below BN.out,OZ.out.2.2.2.2.1.below BN.out,OZ.out.2.2.2.2.2.below BN.out⟩;obtain⟨x0,x1,x2,x3,x4,x5,x6,x7,x8⟩:=XN.out.cells;obtain⟨z0,z1,z2,z3,z4,z5,z6,z7,z8⟩:=T8.out.x.cells;obtain⟨t0,t1,t2,t3,t4,t5,t6,t7,t8⟩:=T8.out.x.bF;have KZ:Hid (Kp w.heap.size w8 (((((((((w8.setCell ⟨w.heap.size,0,none⟩ (int i64 Z.turn)).setCell ⟨w.heap.size,1,none⟩ (int i64 Z.next)).setCell ⟨w.heap.size,2,none⟩ (int i64 Z.wide)).setCell ⟨w.heap.size,3,none⟩ (int i64 Z.high)).setCell ⟨w.heap.size,4,none⟩ (slice m1 Z.gs.length k1)).setCell ⟨w.heap.size,5,none⟩ (slice m2 Z.os.length k2)).setCell ⟨w.heap.size,6,none⟩ (slice m3 Z.gold.length k3)).setCell ⟨w.heap.size,7,none⟩ (slice m4 Z.us.length k4)).setCell ⟨w.heap.size,8,none⟩ (slice m5 Z.qs.length k5))):=aN _ _ _ _ _ _ _ _ _ _ _;have XZ:Hid (Wx (((((((((w8.setCell ⟨w.heap.size,0,none⟩ (int i64 Z.turn)).setCell ⟨w.heap.size,1,none⟩ (int i64 Z.next)).setCell ⟨w.heap.size,2,none⟩ (int i64 Z.wide)).setCell ⟨w.heap.size,3,none⟩ (int i64 Z.high)).setCell ⟨w.heap.size,4,none⟩ (slice m1 Z.gs.length k1)).setCell ⟨w.heap.size,5,none⟩ (slice m2 Z.os.length k2)).setCell ⟨w.heap.size,6,none⟩ (slice m3 Z.gold.length k3)).setCell ⟨w.heap.size,7,none⟩ (slice m4 Z.us.length k4)).setCell ⟨w.heap.size,8,none⟩ (slice m5 Z.qs.length k5)) w.heap.size (int i64 Z.turn) (int i64 Z.next) (int i64 Z.wide) (int i64 Z.high) (slice m1 Z.gs.length k1) (slice m2 Z.os.length k2) (slice m3 Z.gold.length k3) (slice m4 Z.us.length k4) (slice m5 Z.qs.length k5)):=T8.out.x.put (int i64 Z.turn) (int i64 Z.next) (int i64 Z.wide) (int i64 Z.high) (slice m1 Z.gs.length k1) (slice m2 Z.os.length k2) (slice m3 Z.gold.length k3) (slice m4 Z.us.length k4) (slice m5 Z.qs.length k5);go_upto_region 17 with fail
  clear x0 x1 x2 x3 x4 x5 x6 x7 x8 z0 z1 z2 z3 z4 z5 z6 z7 z8 t0 t1 t2 t3 t4 t5 t6 t7 t8;generalize (((((((((w8.setCell ⟨w.heap.size,0,none⟩ (int i64 Z.turn)).setCell ⟨w.heap.size,1,none⟩ (int i64 Z.next)).setCell ⟨w.heap.size,2,none⟩ (int i64 Z.wide)).setCell ⟨w.heap.size,3,none⟩ (int i64 Z.high)).setCell ⟨w.heap.size,4,none⟩ (slice m1 Z.gs.length k1)).setCell ⟨w.heap.size,5,none⟩ (slice m2 Z.os.length k2)).setCell ⟨w.heap.size,6,none⟩ (slice m3 Z.gold.length k3)).setCell ⟨w.heap.size,7,none⟩ (slice m4 Z.us.length k4)).setCell ⟨w.heap.size,8,none⟩ (slice m5 Z.qs.length k5))=w9 at *;have T9:Hid (lT Z es w.heap.size (w.heap.size+2) (bq+1) w5 (slice m1 Z.gs.length k1) (slice m2 Z.os.length k2) (slice m3 Z.gold.length k3) (slice m4 Z.us.length k4) (slice m5 Z.qs.length k5) ev w9):=T8.out.puts KZ.out XZ.out O8.out.1 O8.out.2.1 O8.out.2.2.1 O8.out.2.2.2.1 O8.out.2.2.2.2.1;have E9:Hid (LM w9 ev2 fs):=dM.l ((Fr.kp (S:=λk=>k=w.heap.size) KZ.out rfl).own O8.out.2.2.2.2.2 (λk hk=>by have:=(O8.out.2.2.2.2.2.block k hk).1;omega):dM w9 (w.heap.size+2) ev2 fs);have S9:Hid (bq+1<=w9.heap.size):=by have h1:=T9.out.f.size;have h2:=SZ.out;unfold Hid;omega
  go_wp2_with (at_builtin;refine oh _ rfl _ _ rfl (bq+1) _ es rfl T9.out.e _ fs rfl E9.out LN.out S9.out ?_);intro ev' wE hE hG;have TE:Hid (lT Z (es++fs) w.heap.size (w.heap.size+2) (bq+1) w5 (slice m1 Z.gs.length k1) (slice m2 Z.os.length k2) (slice m3 Z.gold.length k3) (slice m4 Z.us.length k4) (slice m5 Z.qs.length k5) ev' wE):=T9.out.told hG hE;clear hE hG;go_wp2;go_round
  case rel=>exact⟨3,by omega,by go_num,Z,es++fs,PN.out,_,_,_,_,_,_,rfl,TE.out⟩
  case measure=>simp[intOf]
 ·have cf:wr.cell? ⟨bq,3,none⟩=some (.func (Fn.func 54) #[] #[]):=CQ.out 3 _ (by decide) CF0.out.2.2.2
  obtain⟨x0,x1,x2,x3,x4,x5,x6,x7,x8⟩:=TQ.out.x.cells;go_wp2_with fail
  clear cf x0 x1 x2 x3 x4 x5 x6 x7 x8;refine(Ee _ _ ks Y wr (K.out.1.below BW.out) K.out.2 TQ.out.wl).mono ?_;rintro e w7 ⟨v,ev2,r,rfl,hr,hd,hb⟩;rw[KP.out.1.zero] at hr;obtain rfl:r=.nilIface:=by
   rcases hr with⟨-,e⟩|⟨h,-⟩
   ·exact e
   ·exact absurd rfl h
  have NX:Hid (∃Z fs,Ph ks Wn Hn A 4 Z (es++fs)/\Wo w7 wr.heap.size v Z/\dM w7 wr.heap.size ev2 fs):=by
   rcases hd with⟨h,-⟩|⟨-,W',e1,-,-,h1,h2⟩
   ·exact absurd KP.out.1.zero h
   ·have k1:=KP.out.2.1
    obtain rfl:W'=Wn:=by omega
    exact⟨_,_,.four PH.out,h1,h2⟩
  have T7:Hid (lT Y es w.heap.size (w.heap.size+2) (bq+1) w5 (slice g1 Y.gs.length l1) (slice g2 Y.os.length l2) (slice g3 Y.gold.length l3) (slice g4 Y.us.length l4) (slice g5 Y.qs.length l5) ev w7):=TQ.out.below hb;have S7:Hid (wr.heap.size<=w7.heap.size):=hb.size;clear hb hd hr;obtain⟨Z,fs,zG,ho,hev⟩:=NX.out;have PN:Hid (Ph ks Wn Hn A 4 Z (es++fs)):=zG;have LN:Hid (es.length+fs.length<=1000000):=by have h9:=(zG.keep AR.out WH.out.2.2.1 WH.out.2.2.2.1).2.2.2.2;rw[List.length_append] at h9;unfold Hid;omega
  obtain⟨v1,v2,v3,v4,v5,rfl,o1,o2,o3,o4,o5⟩:=ho;obtain⟨m1,k1,rfl⟩:=o1.len;obtain⟨m2,k2,rfl⟩:=o2.len;obtain⟨m3,k3,rfl⟩:=o3.len;obtain⟨m4,k4,rfl⟩:=o4.len;obtain⟨m5,k5,rfl⟩:=o5.len;have sb:w.heap.size+2<=wr.heap.size:=by have:=SW.out;have:=NQ.out;omega
  have OZ:Hid (Ow w7 (w.heap.size+2) (slice m1 Z.gs.length k1) Z.gs/\Ow w7 (w.heap.size+2) (slice m2 Z.os.length k2) Z.os/\Ow w7 (w.heap.size+2) (slice m3 Z.gold.length k3) Z.gold/\dA w7 (w.heap.size+2) (slice m4 Z.us.length k4) Z.us/\bY w7 (w.heap.size+2) (slice m5 Z.qs.length k5) Z.qs/\dM w7 (w.heap.size+2) ev2 fs):=⟨o1.mono sb,o2.mono sb,o3.mono sb,o4.mono sb,o5.mono sb,hev.mono sb⟩;clear o1 o2 o3 o4 o5 hev zG NX sb;obtain⟨bn,hbn⟩:∃b,w7.heap.size=b:=⟨_,rfl⟩;have BN:Hid (Below w7.heap.size w7 (w7.alloc (Obj.cells #[int i64 Z.turn,int i64 Z.next,int i64 Z.wide,int i64 Z.high,slice m1 Z.gs.length k1,slice m2 Z.os.length k2,slice m3 Z.gold.length k3,slice m4 Z.us.length k4,slice m5 Z.qs.length k5] 29))):=(Below.refl _ _).alloc (Nat.le_refl _) _;have XN:Hid (Wx (w7.alloc (Obj.cells #[int i64 Z.turn,int i64 Z.next,int i64 Z.wide,int i64 Z.high,slice m1 Z.gs.length k1,slice m2 Z.os.length k2,slice m3 Z.gold.length k3,slice m4 Z.us.length k4,slice m5 Z.qs.length k5] 29)) bn (int i64 Z.turn) (int i64 Z.next) (int i64 Z.wide) (int i64 Z.high) (slice m1 Z.gs.length k1) (slice m2 Z.os.length k2) (slice m3 Z.gold.length k3) (slice m4 Z.us.length k4) (slice m5 Z.qs.length k5)):=Wx.new (w:=w7) (int i64 Z.turn) (int i64 Z.next) (int i64 Z.wide) (int i64 Z.high) (slice m1 Z.gs.length k1) (slice m2 Z.os.length k2) (slice m3 Z.gold.length k3) (slice m4 Z.us.length k4) (slice m5 Z.qs.length k5) hbn;have NB:Hid (bq+1<=bn):=by rw[<-hbn];exact Nat.le_trans SW.out S7.out
  go_upto_region 16 with fail
  (try rw[hbn])
  clear hbn;generalize w7.alloc (Obj.cells #[int i64 Z.turn,int i64 Z.next,int i64 Z.wide,int i64 Z.high,slice m1 Z.gs.length k1,slice m2 Z.os.length k2,slice m3 Z.gold.length k3,slice m4 Z.us.length k4,slice m5 Z.qs.length k5] 29)=w8 at *;have T8:Hid (lT Y es w.heap.size (w.heap.size+2) (bq+1) w5 (slice g1 Y.gs.length l1) (slice g2 Y.os.length l2) (slice g3 Y.gold.length l3) (slice g4 Y.us.length l4) (slice g5 Y.qs.length l5) ev w8):=T7.out.below BN.out;have O8:Hid (Ow w8 (w.heap.size+2) (slice m1 Z.gs.length k1) Z.gs/\Ow w8 (w.heap.size+2) (slice m2 Z.os.length k2) Z.os/\Ow w8 (w.heap.size+2) (slice m3 Z.gold.length k3) Z.gold/\dA w8 (w.heap.size+2) (slice m4 Z.us.length k4) Z.us/\bY w8 (w.heap.size+2) (slice m5 Z.qs.length k5) Z.qs/\dM w8 (w.heap.size+2) ev2 fs):=⟨OZ.out.1.below BN.out,OZ.out.2.1.below BN.out,OZ.out.2.2.1.below BN.out,OZ.out.2.2.2.1.below BN.out,OZ.out.2.2.2.2.1.below BN.out,OZ.out.2.2.2.2.2.below BN.out⟩;obtain⟨x0,x1,x2,x3,x4,x5,x6,x7,x8⟩:=XN.out.cells;obtain⟨z0,z1,z2,z3,z4,z5,z6,z7,z8⟩:=T8.out.x.cells;obtain⟨t0,t1,t2,t3,t4,t5,t6,t7,t8⟩:=T8.out.x.bF;have KZ:Hid (Kp w.heap.size w8 (((((((((w8.setCell ⟨w.heap.size,0,none⟩ (int i64 Z.turn)).setCell ⟨w.heap.size,1,none⟩ (int i64 Z.next)).setCell ⟨w.heap.size,2,none⟩ (int i64 Z.wide)).setCell ⟨w.heap.size,3,none⟩ (int i64 Z.high)).setCell ⟨w.heap.size,4,none⟩ (slice m1 Z.gs.length k1)).setCell ⟨w.heap.size,5,none⟩ (slice m2 Z.os.length k2)).setCell ⟨w.heap.size,6,none⟩ (slice m3 Z.gold.length k3)).setCell ⟨w.heap.size,7,none⟩ (slice m4 Z.us.length k4)).setCell ⟨w.heap.size,8,none⟩ (slice m5 Z.qs.length k5))):=aN _ _ _ _ _ _ _ _ _ _ _;have XZ:Hid (Wx (((((((((w8.setCell ⟨w.heap.size,0,none⟩ (int i64 Z.turn)).setCell ⟨w.heap.size,1,none⟩ (int i64 Z.next)).setCell ⟨w.heap.size,2,none⟩ (int i64 Z.wide)).setCell ⟨w.heap.size,3,none⟩ (int i64 Z.high)).setCell ⟨w.heap.size,4,none⟩ (slice m1 Z.gs.length k1)).setCell ⟨w.heap.size,5,none⟩ (slice m2 Z.os.length k2)).setCell ⟨w.heap.size,6,none⟩ (slice m3 Z.gold.length k3)).setCell ⟨w.heap.size,7,none⟩ (slice m4 Z.us.length k4)).setCell ⟨w.heap.size,8,none⟩ (slice m5 Z.qs.length k5)) w.heap.size (int i64 Z.turn) (int i64 Z.next) (int i64 Z.wide) (int i64 Z.high) (slice m1 Z.gs.length k1) (slice m2 Z.os.length k2) (slice m3 Z.gold.length k3) (slice m4 Z.us.length k4) (slice m5 Z.qs.length k5)):=T8.out.x.put (int i64 Z.turn) (int i64 Z.next) (int i64 Z.wide) (int i64 Z.high) (slice m1 Z.gs.length k1) (slice m2 Z.os.length k2) (slice m3 Z.gold.length k3) (slice m4 Z.us.length k4) (slice m5 Z.qs.length k5);go_upto_region 17 with fail
  clear x0 x1 x2 x3 x4 x5 x6 x7 x8 z0 z1 z2 z3 z4 z5 z6 z7 z8 t0 t1 t2 t3 t4 t5 t6 t7 t8;generalize (((((((((w8.setCell ⟨w.heap.size,0,none⟩ (int i64 Z.turn)).setCell ⟨w.heap.size,1,none⟩ (int i64 Z.next)).setCell ⟨w.heap.size,2,none⟩ (int i64 Z.wide)).setCell ⟨w.heap.size,3,none⟩ (int i64 Z.high)).setCell ⟨w.heap.size,4,none⟩ (slice m1 Z.gs.length k1)).setCell ⟨w.heap.size,5,none⟩ (slice m2 Z.os.length k2)).setCell ⟨w.heap.size,6,none⟩ (slice m3 Z.gold.length k3)).setCell ⟨w.heap.size,7,none⟩ (slice m4 Z.us.length k4)).setCell ⟨w.heap.size,8,none⟩ (slice m5 Z.qs.length k5))=w9 at *;have T9:Hid (lT Z es w.heap.size (w.heap.size+2) (bq+1) w5 (slice m1 Z.gs.length k1) (slice m2 Z.os.length k2) (slice m3 Z.gold.length k3) (slice m4 Z.us.length k4) (slice m5 Z.qs.length k5) ev w9):=T8.out.puts KZ.out XZ.out O8.out.1 O8.out.2.1 O8.out.2.2.1 O8.out.2.2.2.1 O8.out.2.2.2.2.1;have E9:Hid (LM w9 ev2 fs):=dM.l ((Fr.kp (S:=λk=>k=w.heap.size) KZ.out rfl).own O8.out.2.2.2.2.2 (λk hk=>by have:=(O8.out.2.2.2.2.2.block k hk).1;omega):dM w9 (w.heap.size+2) ev2 fs);have S9:Hid (bq+1<=w9.heap.size):=by have h1:=T9.out.f.size;have h2:=SZ.out;unfold Hid;omega
  go_wp2_with (at_builtin;refine oh _ rfl _ _ rfl (bq+1) _ es rfl T9.out.e _ fs rfl E9.out LN.out S9.out ?_);intro ev' wE hE hG;have TE:Hid (lT Z (es++fs) w.heap.size (w.heap.size+2) (bq+1) w5 (slice m1 Z.gs.length k1) (slice m2 Z.os.length k2) (slice m3 Z.gold.length k3) (slice m4 Z.us.length k4) (slice m5 Z.qs.length k5) ev' wE):=T9.out.told hG hE;clear hE hG;go_wp2;go_round
  case rel=>exact⟨4,by omega,by go_num,Z,es++fs,PN.out,_,_,_,_,_,_,rfl,TE.out⟩
  case measure=>simp[intOf]
end Go.Proofs.YtojhiiiebnlipaaGreatDoor
namespace Go.Proofs.YtojhiiiebnlipaaGreatDoor
open Go.RowKit
open Go.Proofs.YtojhiiiebnlipaaGreatDoor.So
end Go.Proofs.YtojhiiiebnlipaaGreatDoor
namespace Go.Proofs.YtojhiiiebnlipaaGreatDoor
open Wy
theorem EH{l:List Int}{n:Nat}{p:Int->Bool}{c F c' F':Int}(h:ji l n p c F)(h':ji l n p c' F'):c=c'/\F=F':=by
 have no:∀{m k:Nat} {c:Int},(rch l m n)[k]? =some c->p c=true->(rch l m n).any p=false->False:=λhk hp ha=>by
  rw[List.any_eq_false] at ha;exact ha _ (List.mem_of_getElem? hk) hp
 rcases h with⟨e1,e2,h⟩|⟨e1,m,k,hm,hk,hp,ht,hj⟩
 ·rcases h' with⟨f1,f2,h'⟩|⟨f1,m',k',hm',hk',hp',ht',hj'⟩
  ·exact⟨by rw[e2,f2],by rw[e1,f1]⟩
  ·exact(no hk' hp' (h m' hm')).elim
 ·rcases h' with⟨f1,f2,h'⟩|⟨f1,m',k',hm',hk',hp',ht',hj'⟩
  ·exact(no hk hp (h' m hm)).elim
  ·have em:m=m':=by
    rcases Nat.lt_trichotomy m m' with hl|hl|hl
    ·exact(no hk hp (hj' m hl)).elim
    ·exact hl
    ·exact(no hk' hp' (hj m' hl)).elim
   subst em;have ek:k=k':=by
    rcases Nat.lt_trichotomy k k' with hl|hl|hl
    ·rw[List.any_eq_false] at ht'
     exact(ht' c (List.mem_of_getElem? (by rw[List.getElem?_take,if_pos hl];exact hk)) hp).elim
    ·exact hl
    ·rw[List.any_eq_false] at ht
     exact(ht c' (List.mem_of_getElem? (by rw[List.getElem?_take,if_pos hl];exact hk')) hp').elim
   subst ek;rw[hk] at hk';injection hk' with e
   exact⟨e,by rw[e1,f1]⟩
theorem qL{p:aC->Bool}{us:List aC}{i:Nat}(h:jw p us (i:Nat)):∃x,us[i]? =some x/\p x=true/\(us.take i).any p=false:=by
 rcases h with⟨e,-⟩|⟨k,x,e,h1,h2,h3⟩
 ·omega
 ·obtain rfl:i=k:=by omega
  exact⟨x,h1,h2,h3⟩
theorem EI{p:aC->Bool}{us:List aC}{i j:Nat}(h:jw p us (i:Nat))(k:jw p us (j:Nat)):i=j:=by
 obtain⟨x,x1,x2,x3⟩:=qL h;obtain⟨y,y1,y2,y3⟩:=qL k;rcases Nat.lt_trichotomy i j with hl|hl|hl
 ·rw[List.any_eq_false] at y3
  exact(y3 x (List.mem_of_getElem? (by rw[List.getElem?_take,if_pos hl];exact x1)) x2).elim
 ·exact hl
 ·rw[List.any_eq_false] at x3
  exact(x3 y (List.mem_of_getElem? (by rw[List.getElem?_take,if_pos hl];exact y1)) y2).elim
theorem sK{ks:List KV}{X:WV}{unit kind c F c' F':Int}(h:jW ks X unit kind c F)(h':jW ks X unit kind c' F'):c=c'/\F=F':=by
 have last:∀{c F:Int},(∃(i kn Wn Hn an:Nat) (u:aC) (k:KV) (l:List Int),jw (λu=>u.id==unit) X.us (i:Nat)/\X.us[i]? =some u/\kind=(kn:Nat)/\ks[kn]? =some k/\X.wide=(Wn:Nat)/\X.high=(Hn:Nat)/\Fd.Good Wn Hn X.gs X.os/\u.at_=(an:Nat)/\an<Wn*Hn
  /\Wy.bI (Fd.near Wn Hn) (λi _=>(X.gs.map λg=>Fd.onto g k.f).getD i 0) an (Wn*Hn) l/\ji l (Wn*Hn) (tX X.us) c F)->X.us.any (λu=>u.id==unit)=true/\(0<=kind/\kind<(ks.length:Int)):=by
  rintro c F ⟨i,kn,Wn,Hn,an,u,k,l,h1,h2,h3,h4,-⟩;obtain⟨x,x1,x2,-⟩:=qL h1;refine⟨List.any_eq_true.2 ⟨x,List.mem_of_getElem? x1,x2⟩,by omega,?_⟩;have:=(List.getElem?_eq_some_iff.1 h4).1;omega
 rcases h with⟨a1,a2,a3⟩|⟨a1,a2,a3,a4⟩|⟨a1,a2,a3,a4,a5⟩|⟨a1,a⟩
 ·rcases h' with⟨b1,b2,b3⟩|⟨b1,-⟩|⟨b1,-⟩|⟨b1,-⟩
  ·exact⟨by rw[a3,b3],by rw[a2,b2]⟩
  all_goals exact absurd b1 a1
 ·rcases h' with⟨b1,b2,b3⟩|⟨b1,b2,b3,b4⟩|⟨b1,b2,b3,b4,b5⟩|⟨b1,b⟩
  ·exact absurd a1 b1
  ·exact⟨by rw[a4,b4],by rw[a3,b3]⟩
  ·rw[a2] at b2;cases b2
  ·have:=(last b).1;rw[a2] at this;cases this
 ·rcases h' with⟨b1,b2,b3⟩|⟨b1,b2,b3,b4⟩|⟨b1,b2,b3,b4,b5⟩|⟨b1,b⟩
  ·exact absurd a1 b1
  ·rw[a2] at b2;cases b2
  ·exact⟨by rw[a5,b5],by rw[a4,b4]⟩
  ·exact absurd (last b).2 a3
 ·rcases h' with⟨b1,b2,b3⟩|⟨b1,b2,b3,b4⟩|⟨b1,b2,b3,b4,b5⟩|⟨b1,b⟩
  ·exact absurd a1 b1
  ·have:=(last a).1;rw[b2] at this;cases this
  ·exact absurd (last a).2 b3
  ·obtain⟨i,kn,Wn,Hn,an,u,k,l,h1,h2,h3,h4,h5,h6,-,h8,-,h10,h11⟩:=a
   obtain⟨i',ZJ,Vj,Vk,Xw,u',k',l',g1,g2,g3,g4,g5,g6,-,g8,-,g10,g11⟩:=b;obtain rfl:=EI h1 g1;rw[h2] at g2;injection g2 with e
   subst e;obtain rfl:kn=ZJ:=by omega
   rw[h4] at g4;injection g4 with e
   subst e;obtain rfl:Wn=Vj:=by omega
   obtain rfl:Hn=Vk:=by omega
   obtain rfl:an=Xw:=by omega
   obtain rfl:=Wy.bI.uniq h10 g10;exact EH h11 g11
theorem EJ{ks:List KV}{Y:WV}{j:aV}{c c':Int}(h:Comes ks Y j c)(h':Comes ks Y j c'):c=c':=(sK h.1 h'.1).1
theorem sN{ks:List KV}{Y:WV}{j:aV}{c:Int}(h:Comes ks Y j c)(h':jX ks Y j):False:=by
 obtain⟨c',F,h1,h2⟩:=h';obtain⟨rfl,rfl⟩:=sK h.1 h1;rcases h2 with h2|h2
 ·exact h2 rfl
 ·exact h2 h.2
theorem Pm{ks:List KV}{X:WV}{q:Nat}{Y:WV}{es:List cO}{qs:List aV}(t:Tr ks X q Y es qs):∀{Y':WV} {es':List cO} {Ef:List aV},Tr ks X q Y' es' Ef->Y=Y'/\es=es'/\qs=Ef:=by
 induction t with
 |zero=>intro Y' es' Ef t';cases t';exact⟨rfl,rfl,rfl⟩
 | @wait q Y es qs j t0 ho hl ih=>
  intro Y' es' Ef t';cases t' with
  |wait t1 ho1 hl1=>
   rw[ho] at ho1;injection ho1 with e;subst e
   obtain⟨rfl,rfl,rfl⟩:=ih t1;exact⟨rfl,rfl,rfl⟩
  |come t1 ho1 hl1 _=>rw[ho] at ho1;injection ho1 with e;subst e;exact absurd hl1 hl
  |stay t1 ho1 hl1 _=>rw[ho] at ho1;injection ho1 with e;subst e;exact absurd hl1 hl
 | @come q Y es qs j c t0 ho hl hc ih=>
  intro Y' es' Ef t';cases t' with
  |wait t1 ho1 hl1=>rw[ho] at ho1;injection ho1 with e;subst e;exact absurd hl hl1
  |come t1 ho1 hl1 hc1=>
   rw[ho] at ho1;injection ho1 with e;subst e
   obtain⟨rfl,rfl,rfl⟩:=ih t1;obtain rfl:=EJ hc hc1;exact⟨rfl,rfl,rfl⟩
  |stay t1 ho1 hl1 hn=>
   rw[ho] at ho1;injection ho1 with e;subst e
   obtain⟨rfl,rfl,rfl⟩:=ih t1;exact(sN hc hn).elim
 | @stay q Y es qs j t0 ho hl hn ih=>
  intro Y' es' Ef t';cases t' with
  |wait t1 ho1 hl1=>rw[ho] at ho1;injection ho1 with e;subst e;exact absurd hl hl1
  |come t1 ho1 hl1 hc1=>
   rw[ho] at ho1;injection ho1 with e;subst e
   obtain⟨rfl,rfl,rfl⟩:=ih t1;exact(sN hc1 hn).elim
  |stay t1 ho1 hl1 _=>
   rw[ho] at ho1;injection ho1 with e;subst e
   obtain⟨rfl,rfl,rfl⟩:=ih t1;exact⟨rfl,rfl,rfl⟩
open Go.RowKit
theorem qM{ks:List KV}{X:WV}{Wn Hn:Nat}{k:KV}{i:Nat}{us us':List aC}{left:Int}{cells:List Int}(h:Goes ks X Wn Hn k i us left cells us'):∃(u:aC) (c:Nat) (gg:Int),us[i]? =some u/\dG ks {X with us:=us} Wn Hn u k c/\X.gs[c]? =some gg/\
 (((left<Fd.onto gg k.f\/us.any (λo=>o.at_==(c:Int))=true)/\cells=[]/\us'=us)\/(¬left<Fd.onto gg k.f/\us.any (λo=>o.at_==(c:Int))=false/\∃cells',cells=(c:Int)::cells'/\Goes ks X Wn Hn k i (us.set i {u with at_:=(c:Nat)}) (left-Fd.onto gg k.f) cells' us')):=by
 cases h with
 |stop hu hw hg h=>exact⟨_,_,_,hu,hw,hg,.inl ⟨h,rfl,rfl⟩⟩
 |step hu hw hg h1 h2 h3=>exact⟨_,_,_,hu,hw,hg,.inr ⟨h1,h2,_,rfl,h3⟩⟩
theorem nY{ks:List KV}{X:WV}{Wn Hn n:Nat}{us us':List aC}{evs:List cO}(h:Moves ks X Wn Hn n us evs us'):(n=us.length/\evs=[]/\us'=us)\/∃(u u1:aC) (k:KV) (cells:List Int) (us1:List aC) (n_:List cO),us[n]? =some u/\ks[u.kind.toNat]? =some k/\Goes ks X Wn Hn k n us k.n4 cells us1/\us1[n]? =some u1/\Moves ks X Wn Hn (n+1) (us1.set n (ends u1)) n_ us'/\evs=cells.map (λc=>(⟨1,u.id,c⟩:cO))++n_:=by
 cases h with
 |done h=>exact .inl ⟨h,rfl,rfl⟩
 |unit hu hk hg h1 hm=>exact .inr ⟨_,_,_,_,_,_,hu,hk,hg,h1,hm,rfl⟩
theorem Ky{ks:List KV}{X:WV}{Wn Hn:Nat}{u:aC}{k:KV}{c c':Int}(h:iT ks X Wn Hn u k c)(h':iT ks X Wn Hn u k c'):c=c':=by
 rcases h with⟨h1,h2⟩|⟨h1,h2,h3⟩|⟨h1,h2,l,h3,h4⟩
 ·rcases h' with⟨g1,g2⟩|⟨g1,-⟩|⟨g1,-⟩
  ·rw[h2,g2]
  ·exact absurd h1 g1
  ·omega
 ·rcases h' with⟨g1,g2⟩|⟨g1,g2,g3⟩|⟨g1,g2,-⟩
  ·exact absurd g1 h1
  ·rw[h3,g3]
  ·exact absurd ⟨g1,g2⟩ h2
 ·rcases h' with⟨g1,g2⟩|⟨g1,g2,g3⟩|⟨g1,g2,l',g3,g4⟩
  ·omega
  ·exact absurd ⟨h1,h2⟩ g2
  ·have:l=l':=h3.1.uniq g3.1
   subst this;rw[h4,g4]
theorem sO{ks:List KV}{X:WV}{Wn Hn:Nat}{u:aC}{k:KV}{c c':Nat}(h:dG ks X Wn Hn u k c)(h':dG ks X Wn Hn u k c'):c=c':=by
 obtain⟨an,bn,l,h1,h2,-,h3,h4⟩:=h;obtain⟨Xw,ZK,l',g1,g2,-,g3,g4⟩:=h';obtain rfl:an=Xw:=by omega
 obtain rfl:bn=ZK:=by have:=Ky h2 g2;omega
 have:l=l':=h3.1.uniq g3.1;subst this;rcases h4 with⟨h4,h5⟩|⟨h4,h5⟩
 ·rcases g4 with⟨g4,g5⟩|⟨g4,-⟩
  ·rw[h5,g5]
  ·omega
 ·rcases g4 with⟨g4,-⟩|⟨-,g5⟩
  ·omega
  ·exact h5.uniq g5
theorem EM{ks:List KV}{X:WV}{Wn Hn:Nat}{k:KV}{i:Nat}{us us':List aC}{left:Int}{cells:List Int}(h:Goes ks X Wn Hn k i us left cells us'):∀{cells2:List Int} {us2:List aC},Goes ks X Wn Hn k i us left cells2 us2->cells=cells2/\us'=us2:=by
 induction h with
 |stop hu hw hg h=>
  intro cells2 us2 h';obtain⟨u',c',Yh,hu',hw',hg',hh⟩:=qM h';rw[hu] at hu';injection hu' with hu'
  subst hu';obtain rfl:=sO hw hw';rw[hg] at hg';injection hg' with hg'
  subst hg';rcases hh with⟨-,h1,h2⟩|⟨h1,h2,-⟩
  ·exact⟨h1.symm,h2.symm⟩
  ·rcases h with h|h
   ·exact absurd h h1
   ·rw[h] at h2;cases h2
 |step hu hw hg h1 h2 h3 ih=>
  intro cells2 us2 h';obtain⟨u',c',Yh,hu',hw',hg',hh⟩:=qM h';rw[hu] at hu';injection hu' with hu'
  subst hu';obtain rfl:=sO hw hw';rw[hg] at hg';injection hg' with hg'
  subst hg';rcases hh with⟨g1,-⟩|⟨-,-,cells',g1,g2⟩
  ·rcases g1 with g1|g1
   ·exact absurd g1 h1
   ·rw[h2] at g1;cases g1
  ·obtain⟨e1,e2⟩:=ih g2
   exact⟨by rw[g1,e1],e2⟩
theorem zH{ks:List KV}{X:WV}{Wn Hn n:Nat}{us us':List aC}{evs:List cO}(h:Moves ks X Wn Hn n us evs us'):∀{rE:List cO} {us2:List aC},Moves ks X Wn Hn n us rE us2->evs=rE/\us'=us2:=by
 induction h with
 |done h=>
  intro rE us2 h';rcases nY h' with⟨-,h1,h2⟩|⟨u,u1,k,cells,us1,n_,hu,-⟩
  ·exact⟨h1.symm,h2.symm⟩
  ·have:=(List.getElem?_eq_some_iff.1 hu).1
   omega
 |unit hu hk hg h1 hm ih=>
  intro rE us2 h';rcases nY h' with⟨h2,-⟩|⟨u',u1',k',cells',us1',n_,hu',hk',hg',h1',hm',he⟩
  ·have:=(List.getElem?_eq_some_iff.1 hu).1
   omega
  ·rw[hu] at hu'
   injection hu' with hu'
   subst hu';rw[hk] at hk';injection hk' with hk'
   subst hk';obtain⟨e1,e2⟩:=EM hg hg';subst e1;subst e2;rw[h1] at h1';injection h1' with h1'
   subst h1';obtain⟨e3,e4⟩:=ih hm';exact⟨by rw[he,e3],e4⟩
end Go.Proofs.YtojhiiiebnlipaaGreatDoor
namespace Go.Proofs.YtojhiiiebnlipaaGreatDoor
open Go.RowKit Go.Proofs.YtojhiiiebnlipaaGreatDoor.So
theorem BI{ks:List KV}{Wn Hn:Nat}{A:WV}{n:Nat}{Y:WV}{es:List cO}(p:Ph ks Wn Hn A n Y es):∀{Y':WV} {es':List cO},Ph ks Wn Hn A n Y' es'->Y=Y'/\es=es':=by
 induction p with
 |zero=>intro Y' es' q;cases q;exact⟨rfl,rfl⟩
 |one t=>
  intro Y' es' q;cases q with
  |one t'=>obtain⟨rfl,rfl,rfl⟩:=Pm t t';exact⟨rfl,rfl⟩
 |two p0 m ih=>
  intro Y' es' q;cases q with
  |two q0 m'=>
   obtain⟨rfl,rfl⟩:=ih q0;obtain⟨rfl,rfl⟩:=zH m m';exact⟨rfl,rfl⟩
 |three p0 ih=>
  intro Y' es' q;cases q with
  |three q0=>obtain⟨rfl,rfl⟩:=ih q0;exact⟨rfl,rfl⟩
 |four p0 ih=>
  intro Y' es' q;cases q with
  |four q0=>obtain⟨rfl,rfl⟩:=ih q0;exact⟨rfl,rfl⟩
theorem EP{ks:List KV}{X:WV}{l:List aK}{Y Y':WV}{es es':List cO}(h:kW ks X l Y es)(h':kW ks X l Y' es'):Y=Y'/\es=es':=by
 obtain⟨out,Wn,Hn,Z,a1,a2,a3,a4,rfl⟩:=h;obtain⟨out',Vj,Vk,Z',b1,b2,b3,b4,rfl⟩:=h';obtain rfl:=a1.one b1;obtain rfl:Wn=Vj:=by omega
 obtain rfl:Hn=Vk:=by omega
 obtain⟨rfl,rfl⟩:=BI a4 b4;exact⟨rfl,rfl⟩
theorem zI{ks:List KV}{X:WV}{l:List aK}{Y:WV}{es:List cO}(hf:bC ks X l=0)(h:kW ks X l Y es):Wd.aG ks Y=0/\Y.turn=X.turn+1:=by
 have hw:Wd.aG ks X=0:=by
  by_cases e:Wd.aG ks X=0
  ·exact e
  ·rw[zF e] at hf;exact absurd hf e
 have ht:¬1000000<=X.turn:=λe=>by rw[Kv hw e] at hf;cases hf
 have ho:Od.faults l=0:=by rw[Kw hw ht] at hf;exact hf
 have R:=bM hw;obtain⟨out,Wn,Hn,Z,a1,a2,a3,a4,rfl⟩:=h;obtain⟨g1,g2,g3⟩:=uF (ks:=ks) (Y:=X) (out:=out) out.length;have AR:=oV R (out:=out) (λo h=>(Od.fK ho).2 o (a1.mem h)) out.length;obtain⟨r,-,-,t,-⟩:=a4.keep AR (by rw[g2,a2]) (by rw[g3,a3]);have tx:Z.turn=X.turn:=t.trans g1;refine⟨?_,by show Z.turn+1=_;rw[tx]⟩;obtain⟨W',H',e1,e2,G⟩:=r.good;refine Wd.d_ r.kinds (by show Fd.fault Z.wide Z.high Z.gs Z.os=0;rw[e1,e2];exact Fd.dW G) ?_ r.ul (λi u hu=>?_) r.ql (λj hj=>r.job hj)
 ·have hn:=r.nums
  unfold Wd.bH at hn ⊢;simp only[Bool.or_eq_false_iff] at hn ⊢;refine⟨?_,hn.2⟩;have h1:=hn.1;unfold Wd.off at h1 ⊢;simp at h1 ⊢;omega
 ·obtain⟨k,F⟩:=r.fine hu
  exact⟨k,F.id1,F.id2,F.up,F.p,F.k0,F.kk,F.life,F.load,F.task,F.at_,F.goal,F.opn,F.rest⟩
end Go.Proofs.YtojhiiiebnlipaaGreatDoor
namespace Go.Proofs.YtojhiiiebnlipaaGreatDoor.Wy
theorem pz.two{nb:Nat->List Int}{ss l:List Int}{t i:Nat}{p:List Int}(h:pz nb ss l t i p):∀k,k+1<p.length->∃x y:Nat,p[k]? =some (x:Int)/\p[k+1]? =some (y:Int)/\Nx nb ss l x y:=by
 induction h with
 |here=>intro k hk;simp at hk
 | @step i j p h1 h2 h3 ih=>
  intro k hk;cases k with
  |zero=>exact⟨i,j,rfl,by simpa using h3.head,h2⟩
  |succ k=>
   obtain⟨x,y,a1,a2,a3⟩:=ih k (by simpa using hk);exact⟨x,y,by simpa using a1,by simpa using a2,a3⟩
theorem pz.pos{nb:Nat->List Int}{ss l:List Int}{t i:Nat}{p:List Int}(h:pz nb ss l t i p):0<p.length:=by
 cases h<;>simp
theorem pz.cells{nb:Nat->List Int}{ss l:List Int}{t i n:Nat}{p:List Int}(hn:∀(i j:Nat),i<n->(j:Int)∈nb i->j<n)(h:pz nb ss l t i p)(hi:i<n):∀(k:Nat) (x:Int),p[k]? =some x->∃y:Nat,x=y/\y<n:=by
 induction h with
 |here=>
  intro k x hx;cases k with
  |zero=>simp at hx;exact⟨t,hx.symm,hi⟩
  |succ k=>simp at hx
 | @step i j p h1 h2 h3 ih=>
  intro k x hx;cases k with
  |zero=>simp at hx;exact⟨i,hx.symm,hi⟩
  |succ k=>exact ih (hn i j hi h2.is.1) k x (by simpa using hx)
def RV(nb:Nat->List Int)(st:Nat->Nat->Int)(l:List Int)(n:Nat):Bool:=(List.range n).all λi=>(nb i).all λx=>decide (¬(0<st i x.toNat/\0<=l.getD x.toNat 0)\/(0<=l.getD i 0/\l.getD i 0<=st i x.toNat+l.getD x.toNat 0))
theorem wV{nb:Nat->List Int}{st:Nat->Nat->Int}{l:List Int}{n:Nat}(h:RV nb st l n=true):∀i,i<n->Shut nb st l i:=by
 intro i hi j x y hx hy hj h0 y0;unfold RV at h;rw[List.all_eq_true] at h;have h1:=h i (List.mem_range.2 hi);rw[List.all_eq_true] at h1;have h2:=of_decide_eq_true (h1 j hj);rw[Int.toNat_natCast,lZ hx,lZ hy] at h2;rcases h2 with h2|h2
 ·exact absurd ⟨h0,y0⟩ h2
 ·exact h2
def s6:Nat->Nat->Int:=λ_ j=>(([0,1,0,0,3,0]:List Int).map λg=>Fd.onto g false).getD j 0
def s3:Nat->Nat->Int:=λi _=>(([0,3,0]:List Int).map λg=>Fd.onto g false).getD i 0
theorem three:bI (Fd.near 3 1) s3 0 3 [0,2,3]:=by
 have w0:Way (Fd.near 3 1) s3 0 0 0:=.here;have w1:Way (Fd.near 3 1) s3 0 1 2:=Way.step (nb:=Fd.near 3 1) (st:=s3) (i:=1) (j:=0) (by decide) (by decide) w0;have w2:Way (Fd.near 3 1) s3 0 2 3:=Way.step (nb:=Fd.near 3 1) (st:=s3) (i:=2) (j:=1) (by decide) (by decide) w1;refine yt rfl ?_ rfl ?_ (wV (by decide))
 ·intro i j hi hj
  obtain⟨t,h1,h2,-⟩:=Fd.nG (W:=3) (H:=1) (by decide) hi hj;omega
 ·intro i x hx
  match i,hx with
  |0,hx=>simp at hx;subst hx;exact .inr w0
  |1,hx=>simp at hx;subst hx;exact .inr w1
  |2,hx=>simp at hx;subst hx;exact .inr w2
  |i+3,hx=>simp at hx
end Go.Proofs.YtojhiiiebnlipaaGreatDoor.Wy
namespace Go.Proofs.YtojhiiiebnlipaaGreatDoor
open Go.RowKit
namespace Wd
def bare(wd hg:Int)(gs os:List Int):WV:=⟨0,1,wd,hg,gs,os,[],[],[]⟩
def eY(ks:List KV)(wd hg:Int)(gs os:List Int)(kU gold:Int):Int:=if ground ks (bare wd hg gs os)=0 then(if(1<=kU/\kU<=4)/\0<=gold/\gold<=1000000 then 0 else 1) else ground ks (bare wd hg gs os)
def begun(ks:List KV)(wd hg:Int)(gs os:List Int)(kU gold:Int):WV:=if eY ks wd hg gs os kU gold=0 then⟨0,1,wd,hg,gs,os,List.replicate kU.toNat gold,[],[]⟩ else WV.zero
end Wd
theorem nJ{ks:List KV}{wd hg:Int}{gs os:List Int}{kU gold:Int}(h:Wd.eY ks wd hg gs os kU gold≠0):Wd.begun ks wd hg gs os kU gold=WV.zero:=by unfold Wd.begun;rw[if_neg h]
theorem wW{ks:List KV}{wd hg:Int}{gs os:List Int}{kU gold:Int}(h:Wd.eY ks wd hg gs os kU gold=0):Wd.begun ks wd hg gs os kU gold=⟨0,1,wd,hg,gs,os,List.replicate kU.toNat gold,[],[]⟩:=by unfold Wd.begun;rw[if_pos h]
structure Bx(w:World)(z:Nat)(wd hg:Int)(u1 u2:Value):Prop where
 c0:w.cell? ⟨z,0,none⟩=some (int i64 wd)
 c1:w.cell? ⟨z,1,none⟩=some (int i64 hg)
 c2:w.cell? ⟨z,2,none⟩=some u1
 c3:w.cell? ⟨z,3,none⟩=some u2
theorem Bx.lt{w:World}{z:Nat}{wd hg:Int}{u1 u2:Value}(h:Bx w z wd hg u1 u2):z<w.heap.size:=cell_lt h.c0
theorem Bx.below{w w':World}{z n:Nat}{wd hg:Int}{u1 u2:Value}(h:Bx w z wd hg u1 u2)(hb:Below n w w')(hn:z<n):Bx w' z wd hg u1 u2:=
 ⟨by rw[hb.cell (p:=⟨z,0,none⟩) hn];exact h.c0,by rw[hb.cell (p:=⟨z,1,none⟩) hn];exact h.c1,by rw[hb.cell (p:=⟨z,2,none⟩) hn];exact h.c2,by rw[hb.cell (p:=⟨z,3,none⟩) hn];exact h.c3⟩
theorem Bx.mk'{w:World}{z:Nat}(wd hg:Int)(u1 u2:Value)(hz:w.heap.size=z):Bx (w.alloc (.cells #[int i64 wd,int i64 hg,u1,u2] 25)) z wd hg u1 u2:=by
 subst hz;constructor<;>simp
theorem new_any(vk vf:Value)(ks:List KV)(wd hg:Int)(gs os:List Int)(kU gold:Int)(w:World)(hk:Kl w vk ks)(hb:∀k∈ks,k.b.size<=9223372036854775807)(hf:Fl w vf wd hg gs os):
 Calls Tryz.prog 57 #[vk,vf,int i64 kU,int i64 gold] w λe w'=>∃u r,e=.returned (.tuple #[u,r])/\Er r (Wd.eY ks wd hg gs os kU gold)/\Wo w' w.heap.size u (Wd.begun ks wd hg gs os kU gold)/\Below w.heap.size w w':=by
 have K:Hid (Kl w vk ks/\∀k∈ks,k.b.size<=9223372036854775807):=⟨hk,hb⟩;have F:Hid (Fl w vf wd hg gs os):=hf;obtain⟨u1,u2,rfl,r1,r2⟩:=hf;obtain⟨p1,q1,rfl,-⟩:=r1;obtain⟨p2,q2,rfl,-⟩:=r2;clear hb hk;go_enter Tryz.func57,Tryz.ntmps57;go_upto_region 1 with fail
 have B0:Hid (Below w.heap.size w ((w.alloc (.cells #[int i64 wd,int i64 hg,slice p1 gs.length q1,slice p2 os.length q2] 25)).alloc (.cells #[int i64 0,int i64 0,int i64 0,int i64 0,slice none 0 0,slice none 0 0,slice none 0 0,slice none 0 0,slice none 0 0] 29))):=((Below.refl _ _).alloc (Nat.le_refl _) _).alloc (by simp) _;have X0:Hid (Bx ((w.alloc (.cells #[int i64 wd,int i64 hg,slice p1 gs.length q1,slice p2 os.length q2] 25)).alloc (.cells #[int i64 0,int i64 0,int i64 0,int i64 0,slice none 0 0,slice none 0 0,slice none 0 0,slice none 0 0,slice none 0 0] 29)) w.heap.size wd hg (slice p1 gs.length q1) (slice p2 os.length q2)):=(Bx.mk' (w:=w) _ _ _ _ rfl).below ((Below.refl _ _).alloc (Nat.le_refl _) _) (by simp);have Z0:Hid (Wx ((w.alloc (.cells #[int i64 wd,int i64 hg,slice p1 gs.length q1,slice p2 os.length q2] 25)).alloc (.cells #[int i64 0,int i64 0,int i64 0,int i64 0,slice none 0 0,slice none 0 0,slice none 0 0,slice none 0 0,slice none 0 0] 29)) (w.heap.size+1) (int i64 0) (int i64 0) (int i64 0) (int i64 0) (slice none 0 0) (slice none 0 0) (slice none 0 0) (slice none 0 0) (slice none 0 0)):=Wx.new _ _ _ _ _ _ _ _ _ (by simp);have S0:Hid (w.heap.size+2<=((w.alloc (.cells #[int i64 wd,int i64 hg,slice p1 gs.length q1,slice p2 os.length q2] 25)).alloc (.cells #[int i64 0,int i64 0,int i64 0,int i64 0,slice none 0 0,slice none 0 0,slice none 0 0,slice none 0 0,slice none 0 0] 29)).heap.size):=by unfold Hid;simp
 generalize ((w.alloc (.cells #[int i64 wd,int i64 hg,slice p1 gs.length q1,slice p2 os.length q2] 25)).alloc (.cells #[int i64 0,int i64 0,int i64 0,int i64 0,slice none 0 0,slice none 0 0,slice none 0 0,slice none 0 0,slice none 0 0] 29))=w0 at *;obtain⟨x0,x1,x2,x3⟩:=X0.out;go_wp2_with fail
 refine(oN _ _ ks (Wd.bare wd hg gs os) w0 (K.out.1.below B0.out) K.out.2 (F.out.below B0.out)).mono ?_;rintro e w1 ⟨r,rfl,hr,hb1⟩;clear x0 x1 x2 x3;have B1:Hid (Below w.heap.size w w1):=B0.out.trans (hb1.mono B0.out.size);have X1:Hid (Bx w1 w.heap.size wd hg (slice p1 gs.length q1) (slice p2 os.length q2)):=X0.out.below hb1 X0.out.lt;have Z1:Hid (Wx w1 (w.heap.size+1) (int i64 0) (int i64 0) (int i64 0) (int i64 0) (slice none 0 0) (slice none 0 0) (slice none 0 0) (slice none 0 0) (slice none 0 0)):=Z0.out.below hb1 Z0.out.lt;have S1:Hid (w.heap.size+2<=w1.heap.size):=Nat.le_trans S0.out hb1.size;clear hb1 B0 X0 Z0 S0;rcases hr with⟨hf,rfl⟩|⟨hf,rfl⟩
 case inr=>
  obtain⟨fe,hfe⟩:∃f,Wd.ground ks (Wd.bare wd hg gs os)=f:=⟨_,rfl⟩;have BH:Hid (fe≠0):=by rw[<-hfe];exact hf
  have FE:Hid (Wd.eY ks wd hg gs os kU gold=fe):=by unfold Hid Wd.eY;rw[if_neg hf];exact hfe
  rw[hfe];clear hf hfe;obtain⟨z0,z1,z2,z3,z4,z5,z6,z7,z8⟩:=Z1.out.cells;obtain⟨t0,t1,t2,t3,t4,t5,t6,t7,t8⟩:=Z1.out.bF;have KZ:Hid (Kp (w.heap.size+1) w1 (((((((((w1.setCell ⟨w.heap.size+1,0,none⟩ (int i64 0)).setCell ⟨w.heap.size+1,1,none⟩ (int i64 0)).setCell ⟨w.heap.size+1,2,none⟩ (int i64 0)).setCell ⟨w.heap.size+1,3,none⟩ (int i64 0)).setCell ⟨w.heap.size+1,4,none⟩ (slice none 0 0)).setCell ⟨w.heap.size+1,5,none⟩ (slice none 0 0)).setCell ⟨w.heap.size+1,6,none⟩ (slice none 0 0)).setCell ⟨w.heap.size+1,7,none⟩ (slice none 0 0)).setCell ⟨w.heap.size+1,8,none⟩ (slice none 0 0))):=aN _ _ _ _ _ _ _ _ _ _ _;obtain⟨y0,y1,y2,y3,y4,y5,y6,y7,y8⟩:=(Z1.out.put (int i64 0) (int i64 0) (int i64 0) (int i64 0) (slice none 0 0) (slice none 0 0) (slice none 0 0) (slice none 0 0) (slice none 0 0)).cells;go_wp2;clear z0 z1 z2 z3 z4 z5 z6 z7 z8 t0 t1 t2 t3 t4 t5 t6 t7 t8;generalize (((((((((w1.setCell ⟨w.heap.size+1,0,none⟩ (int i64 0)).setCell ⟨w.heap.size+1,1,none⟩ (int i64 0)).setCell ⟨w.heap.size+1,2,none⟩ (int i64 0)).setCell ⟨w.heap.size+1,3,none⟩ (int i64 0)).setCell ⟨w.heap.size+1,4,none⟩ (slice none 0 0)).setCell ⟨w.heap.size+1,5,none⟩ (slice none 0 0)).setCell ⟨w.heap.size+1,6,none⟩ (slice none 0 0)).setCell ⟨w.heap.size+1,7,none⟩ (slice none 0 0)).setCell ⟨w.heap.size+1,8,none⟩ (slice none 0 0))=w9 at *;refine bodyPost_ret (v:=.tuple #[.agg #[int i64 0,int i64 0,int i64 0,int i64 0,slice none 0 0,slice none 0 0,slice none 0 0,slice none 0 0,slice none 0 0],.iface 90 (int i64 fe)]) (by simp[results,Tryz.results57,go_sem,y0,y1,y2,y3,y4,y5,y6,y7,y8]) rfl ⟨_,_,rfl,by rw[FE.out];exact Er.no BH.out,by rw[nJ (by rw[FE.out];exact BH.out)];exact kJ _ _,KZ.out.below B1.out B1.out.size (by omega)⟩
 have HF:Hid (Wd.ground ks (Wd.bare wd hg gs os)=0):=hf;have NF:Hid (Wd.eY ks wd hg gs os kU gold=if(1<=kU/\kU<=4)/\0<=gold/\gold<=1000000 then 0 else 1):=by unfold Hid Wd.eY;rw[if_pos hf]
 have GL:Hid (gs.length<=144/\os.length<=144):=by
  unfold Wd.ground at hf;split at hf
  ·obtain⟨Wn,Hn,-,-,G⟩:=Fd.kY hf
   have h1:=G.pos;have h2:=G.gl;have h3:=G.ol;unfold Wd.bare at h2 h3;exact⟨by simp only at h2;omega,by simp only at h3;omega⟩
  ·rename_i h0
   exact absurd hf h0
 clear hf;by_cases hp:1<=kU/\kU<=4
 case neg=>
  have t:decide (1<=kU/\kU<=4)=false:=decide_eq_false hp;have BH:Hid ((1:Int)≠0):=by unfold Hid;decide
  have FE:Hid (Wd.eY ks wd hg gs os kU gold=1):=by unfold Hid;rw[NF.out,if_neg (λh=>hp h.1)]
  clear hp;go_wp2_with fail
  refine(bP kU 1 4 w1).mono ?_;rintro e w2 ⟨rfl,iO⟩;obtain rfl:=iO.symm;rw[t];clear t;obtain⟨z0,z1,z2,z3,z4,z5,z6,z7,z8⟩:=Z1.out.cells;obtain⟨t0,t1,t2,t3,t4,t5,t6,t7,t8⟩:=Z1.out.bF;have KZ:Hid (Kp (w.heap.size+1) w1 (((((((((w1.setCell ⟨w.heap.size+1,0,none⟩ (int i64 0)).setCell ⟨w.heap.size+1,1,none⟩ (int i64 0)).setCell ⟨w.heap.size+1,2,none⟩ (int i64 0)).setCell ⟨w.heap.size+1,3,none⟩ (int i64 0)).setCell ⟨w.heap.size+1,4,none⟩ (slice none 0 0)).setCell ⟨w.heap.size+1,5,none⟩ (slice none 0 0)).setCell ⟨w.heap.size+1,6,none⟩ (slice none 0 0)).setCell ⟨w.heap.size+1,7,none⟩ (slice none 0 0)).setCell ⟨w.heap.size+1,8,none⟩ (slice none 0 0))):=aN _ _ _ _ _ _ _ _ _ _ _;obtain⟨y0,y1,y2,y3,y4,y5,y6,y7,y8⟩:=(Z1.out.put (int i64 0) (int i64 0) (int i64 0) (int i64 0) (slice none 0 0) (slice none 0 0) (slice none 0 0) (slice none 0 0) (slice none 0 0)).cells;go_wp2;clear z0 z1 z2 z3 z4 z5 z6 z7 z8 t0 t1 t2 t3 t4 t5 t6 t7 t8;generalize (((((((((w1.setCell ⟨w.heap.size+1,0,none⟩ (int i64 0)).setCell ⟨w.heap.size+1,1,none⟩ (int i64 0)).setCell ⟨w.heap.size+1,2,none⟩ (int i64 0)).setCell ⟨w.heap.size+1,3,none⟩ (int i64 0)).setCell ⟨w.heap.size+1,4,none⟩ (slice none 0 0)).setCell ⟨w.heap.size+1,5,none⟩ (slice none 0 0)).setCell ⟨w.heap.size+1,6,none⟩ (slice none 0 0)).setCell ⟨w.heap.size+1,7,none⟩ (slice none 0 0)).setCell ⟨w.heap.size+1,8,none⟩ (slice none 0 0))=w9 at *;refine bodyPost_ret (v:=.tuple #[.agg #[int i64 0,int i64 0,int i64 0,int i64 0,slice none 0 0,slice none 0 0,slice none 0 0,slice none 0 0,slice none 0 0],.iface 90 (int i64 1)]) (by simp[results,Tryz.results57,go_sem,y0,y1,y2,y3,y4,y5,y6,y7,y8]) rfl ⟨_,_,rfl,by rw[FE.out];exact Er.no BH.out,by rw[nJ (by rw[FE.out];exact BH.out)];exact kJ _ _,KZ.out.below B1.out B1.out.size (by omega)⟩
 have t:decide (1<=kU/\kU<=4)=true:=decide_eq_true hp;go_wp2_with fail
 refine(bP kU 1 4 w1).mono ?_;rintro e w2 ⟨rfl,iO⟩;obtain rfl:=iO.symm;rw[t];clear t;by_cases hgd:0<=gold/\gold<=1000000
 case neg=>
  have t:decide (0<=gold/\gold<=1000000)=false:=decide_eq_false hgd;have BH:Hid ((1:Int)≠0):=by unfold Hid;decide
  have FE:Hid (Wd.eY ks wd hg gs os kU gold=1):=by unfold Hid;rw[NF.out,if_neg (λh=>hgd h.2)]
  clear hgd hp;go_wp2_with fail
  refine(bP gold 0 1000000 w1).mono ?_;rintro e w2 ⟨rfl,iO⟩;obtain rfl:=iO.symm;rw[t];clear t;obtain⟨z0,z1,z2,z3,z4,z5,z6,z7,z8⟩:=Z1.out.cells;obtain⟨t0,t1,t2,t3,t4,t5,t6,t7,t8⟩:=Z1.out.bF;have KZ:Hid (Kp (w.heap.size+1) w1 (((((((((w1.setCell ⟨w.heap.size+1,0,none⟩ (int i64 0)).setCell ⟨w.heap.size+1,1,none⟩ (int i64 0)).setCell ⟨w.heap.size+1,2,none⟩ (int i64 0)).setCell ⟨w.heap.size+1,3,none⟩ (int i64 0)).setCell ⟨w.heap.size+1,4,none⟩ (slice none 0 0)).setCell ⟨w.heap.size+1,5,none⟩ (slice none 0 0)).setCell ⟨w.heap.size+1,6,none⟩ (slice none 0 0)).setCell ⟨w.heap.size+1,7,none⟩ (slice none 0 0)).setCell ⟨w.heap.size+1,8,none⟩ (slice none 0 0))):=aN _ _ _ _ _ _ _ _ _ _ _;obtain⟨y0,y1,y2,y3,y4,y5,y6,y7,y8⟩:=(Z1.out.put (int i64 0) (int i64 0) (int i64 0) (int i64 0) (slice none 0 0) (slice none 0 0) (slice none 0 0) (slice none 0 0) (slice none 0 0)).cells;go_wp2;clear z0 z1 z2 z3 z4 z5 z6 z7 z8 t0 t1 t2 t3 t4 t5 t6 t7 t8;generalize (((((((((w1.setCell ⟨w.heap.size+1,0,none⟩ (int i64 0)).setCell ⟨w.heap.size+1,1,none⟩ (int i64 0)).setCell ⟨w.heap.size+1,2,none⟩ (int i64 0)).setCell ⟨w.heap.size+1,3,none⟩ (int i64 0)).setCell ⟨w.heap.size+1,4,none⟩ (slice none 0 0)).setCell ⟨w.heap.size+1,5,none⟩ (slice none 0 0)).setCell ⟨w.heap.size+1,6,none⟩ (slice none 0 0)).setCell ⟨w.heap.size+1,7,none⟩ (slice none 0 0)).setCell ⟨w.heap.size+1,8,none⟩ (slice none 0 0))=w9 at *;refine bodyPost_ret (v:=.tuple #[.agg #[int i64 0,int i64 0,int i64 0,int i64 0,slice none 0 0,slice none 0 0,slice none 0 0,slice none 0 0,slice none 0 0],.iface 90 (int i64 1)]) (by simp[results,Tryz.results57,go_sem,y0,y1,y2,y3,y4,y5,y6,y7,y8]) rfl ⟨_,_,rfl,by rw[FE.out];exact Er.no BH.out,by rw[nJ (by rw[FE.out];exact BH.out)];exact kJ _ _,KZ.out.below B1.out B1.out.size (by omega)⟩
 have t:decide (0<=gold/\gold<=1000000)=true:=decide_eq_true hgd;have F0:Hid (Wd.eY ks wd hg gs os kU gold=0):=by unfold Hid;rw[NF.out,if_pos ⟨hp,hgd⟩]
 go_wp2_with fail
 refine(bP gold 0 1000000 w1).mono ?_;rintro e w2 ⟨rfl,iO⟩;obtain rfl:=iO.symm;rw[t];clear t;obtain⟨n,rfl⟩:∃n:Nat,kU=n:=⟨kU.toNat,by omega⟩;have hn:0<n/\n<=4:=by omega
 have HN:Hid (0<n/\n<=4):=hn;clear hp hgd hn;go_wp2_with fail
 have BA:Hid (Below w1.heap.size w1 (w1.alloc (Obj.cells #[int i64 gold] 3))):=(Below.refl _ _).alloc (Nat.le_refl _) _;have RA:Hid (Ro (w1.alloc (Obj.cells #[int i64 gold] 3)) (slice (some ⟨w1.heap.size,0,none⟩) 1 1) [gold]):=Ro.xO gold rfl;generalize (w1.alloc (Obj.cells #[int i64 gold] 3))=wa at *;refine(rU gold _ n wa RA.out (HN.out.1) (by have:=HN.out.2;omega)).mono ?_;rintro e w2 ⟨b,rfl,-,hbk,hb2⟩;have BW:Hid (Below w1.heap.size w1 w2):=BA.out.trans (hb2.mono BA.out.size);have B2:Hid (Below w.heap.size w w2):=B1.out.trans (BW.out.mono B1.out.size);have X2:Hid (Bx w2 w.heap.size wd hg (slice p1 gs.length q1) (slice p2 os.length q2)):=X1.out.below BW.out X1.out.lt;have Z2:Hid (Wx w2 (w.heap.size+1) (int i64 0) (int i64 0) (int i64 0) (int i64 0) (slice none 0 0) (slice none 0 0) (slice none 0 0) (slice none 0 0) (slice none 0 0)):=Z1.out.below BW.out Z1.out.lt;have S2:Hid (w.heap.size+2<=w2.heap.size):=Nat.le_trans S1.out BW.out.size;have G2:Hid (Ro w2 (slice (some ⟨b,0,none⟩) n n) (List.replicate n gold)):=by
  unfold Hid;have:=hbk.ro (c:=n) (by simp) (by have:=HN.out.2;omega);simpa using this
 clear hb2 hbk B1 X1 Z1 S1 BA RA BW;obtain⟨x0,x1,x2,x3⟩:=X2.out;go_wp2_with fail
 have F2:=F.out.below B2.out;obtain⟨v1,v2,he,f1,f2⟩:=F2;injection he with he
 simp only[Array.mk.injEq,List.cons.injEq,and_true,true_and] at he;obtain⟨rfl,rfl⟩:=he;refine(iK _ ⟨0,1,wd,hg,gs,os,List.replicate n gold,[],[]⟩ w2 ⟨_,_,_,_,_,rfl,f1,f2,G2.out,⟨none,0,rfl,Nat.le_refl _,by omega,λh=>absurd rfl h⟩,⟨none,0,rfl,Nat.le_refl _,by omega,λh=>absurd rfl h⟩⟩ ⟨by have:=GL.out.1;simp only;omega,by have:=GL.out.2;simp only;omega,by have:=HN.out.2;simp only[List.length_replicate];omega,by simp,by simp⟩).mono ?_;rintro e w3 ⟨u,rfl,ho,hb3⟩;clear f1 f2 x0 x1 x2 x3;have B3:Hid (Below w.heap.size w w3):=B2.out.trans (hb3.mono B2.out.size);have Z3:Hid (Wx w3 (w.heap.size+1) (int i64 0) (int i64 0) (int i64 0) (int i64 0) (slice none 0 0) (slice none 0 0) (slice none 0 0) (slice none 0 0) (slice none 0 0)):=Z2.out.below hb3 Z2.out.lt;obtain⟨v1,v2,v3,v4,v5,rfl,o1,o2,o3,o4,o5⟩:=ho.wo.mono S2.out;have O3:Hid (Ow w3 (w.heap.size+2) v1 gs/\Ow w3 (w.heap.size+2) v2 os/\Ow w3 (w.heap.size+2) v3 (List.replicate n gold)/\dA w3 (w.heap.size+2) v4 []/\bY w3 (w.heap.size+2) v5 []):=⟨o1,o2,o3,o4,o5⟩;obtain⟨a1,b1,rfl⟩:=o1.len;obtain⟨a2,b2,rfl⟩:=o2.len;obtain⟨a3,b3,rfl⟩:=o3.len;obtain⟨a4,b4,rfl⟩:=o4.len;obtain⟨a5,b5,rfl⟩:=o5.len;simp only[List.length_replicate,List.length_nil] at O3 ⊢;clear ho hb3 o1 o2 o3 o4 o5 B2 X2 Z2 S2 G2;obtain⟨z0,z1,z2,z3,z4,z5,z6,z7,z8⟩:=Z3.out.cells;obtain⟨t0,t1,t2,t3,t4,t5,t6,t7,t8⟩:=Z3.out.bF;have KZ:Hid (Kp (w.heap.size+1) w3 (((((((((w3.setCell ⟨w.heap.size+1,0,none⟩ (int i64 0)).setCell ⟨w.heap.size+1,1,none⟩ (int i64 1)).setCell ⟨w.heap.size+1,2,none⟩ (int i64 wd)).setCell ⟨w.heap.size+1,3,none⟩ (int i64 hg)).setCell ⟨w.heap.size+1,4,none⟩ (slice a1 gs.length b1)).setCell ⟨w.heap.size+1,5,none⟩ (slice a2 os.length b2)).setCell ⟨w.heap.size+1,6,none⟩ (slice a3 n b3)).setCell ⟨w.heap.size+1,7,none⟩ (slice a4 0 b4)).setCell ⟨w.heap.size+1,8,none⟩ (slice a5 0 b5))):=aN _ _ _ _ _ _ _ _ _ _ _;obtain⟨y0,y1,y2,y3,y4,y5,y6,y7,y8⟩:=(Z3.out.put (int i64 0) (int i64 1) (int i64 wd) (int i64 hg) (slice a1 gs.length b1) (slice a2 os.length b2) (slice a3 n b3) (slice a4 0 b4) (slice a5 0 b5)).cells;go_wp2;clear z0 z1 z2 z3 z4 z5 z6 z7 z8 t0 t1 t2 t3 t4 t5 t6 t7 t8;generalize (((((((((w3.setCell ⟨w.heap.size+1,0,none⟩ (int i64 0)).setCell ⟨w.heap.size+1,1,none⟩ (int i64 1)).setCell ⟨w.heap.size+1,2,none⟩ (int i64 wd)).setCell ⟨w.heap.size+1,3,none⟩ (int i64 hg)).setCell ⟨w.heap.size+1,4,none⟩ (slice a1 gs.length b1)).setCell ⟨w.heap.size+1,5,none⟩ (slice a2 os.length b2)).setCell ⟨w.heap.size+1,6,none⟩ (slice a3 n b3)).setCell ⟨w.heap.size+1,7,none⟩ (slice a4 0 b4)).setCell ⟨w.heap.size+1,8,none⟩ (slice a5 0 b5))=w9 at *;refine bodyPost_ret (v:=.tuple #[.agg #[int i64 0,int i64 1,int i64 wd,int i64 hg,slice a1 gs.length b1,slice a2 os.length b2,slice a3 n b3,slice a4 0 b4,slice a5 0 b5],.nilIface]) (by simp[results,Tryz.results57,go_sem,y0,y1,y2,y3,y4,y5,y6,y7,y8]) rfl ⟨_,_,rfl,by rw[F0.out];exact Er.nil,?_,KZ.out.below B3.out B3.out.size (by omega)⟩;rw[wW F0.out,Int.toNat_natCast];exact⟨_,_,_,_,_,rfl,(O3.out.1.kp KZ.out (by omega)).mono (by omega),(O3.out.2.1.kp KZ.out (by omega)).mono (by omega),(O3.out.2.2.1.kp KZ.out (by omega)).mono (by omega),(O3.out.2.2.2.1.kp KZ.out (by omega)).mono (by omega),(O3.out.2.2.2.2.kp KZ.out (by omega)).mono (by omega)⟩
end Go.Proofs.YtojhiiiebnlipaaGreatDoor
namespace Go.Proofs.YtojhiiiebnlipaaGreatDoor.Fd
def Vl(g:Int):UInt8:=if g=0 then 46 else if g=1 then 35 else if g=2 then 126 else 94
def qX(g o:Int):UInt8:=if o=0 then Vl g else if o%10=0/\o<=90 then(48+(o/10).toNat).toUInt8 else 43
def fC(W:Nat)(gs os:List Int)(r c:Nat):List UInt8:=(List.range c).map λj=>qX (gs.getD (r*W+j) 0) (os.getD (r*W+j) 0)
def jG(W:Nat)(gs os:List Int):Nat->List UInt8
 |0=>[]
 |r+1=>jG W gs os r++(fC W gs os r W++[10])
theorem jH(W:Nat)(gs os:List Int)(r c:Nat):fC W gs os r (c+1)=fC W gs os r c++[qX (gs.getD (r*W+c) 0) (os.getD (r*W+c) 0)]:=by
 unfold fC;rw[List.range_succ,List.map_append];rfl
structure St where
 c:Nat
 W:Nat
 H:Nat
 gs:List Int
 os:List Int
def st0:St:=⟨0,0,0,[],[]⟩
def meant(b:UInt8):Option (Int×Int):=
 if 49<=b.toNat/\b.toNat<=57 then some (0,((b.toNat:Int)-48)*10) else if b=46 then some (0,0) else if b=35 then some (1,0) else if b=126 then some (2,0) else if b=94 then some (3,0) else none
def step(s:St)(b:UInt8):Int ⊕ St:=
 if b=10 then(if s.c=0\/(0<s.H/\s.c≠s.W) then .inl 2 else .inr ⟨0,s.c,s.H+1,s.gs,s.os⟩)
 else match meant b with
  |none=>.inl 2
  |some (g,o)=>if 0<s.H/\s.c=s.W then .inl 2 else if s.c=12\/s.H=12 then .inl 4 else .inr ⟨s.c+1,s.W,s.H,s.gs++[g],s.os++[o]⟩
def run:St->Nat->List UInt8->(Nat×Int) ⊕ St
 |s,_,[]=>.inr s
 |s,i,b::bs=>match step s b with
  | .inl e=>.inl (i,e)
  | .inr s'=>run s' (i+1) bs
def parse(l:List UInt8):(Nat×Int) ⊕ St:=
 match run st0 0 l with
 | .inl x=>.inl x
 | .inr s=>if 0<s.c\/s.H=0 then .inl (l.length,2) else .inr s
theorem Kz(s:St)(i:Nat)(b:UInt8)(bs:List UInt8):run s i (b::bs)=match step s b with| .inl e=>.inl (i,e)| .inr s'=>run s' (i+1) bs:=rfl
def zJ(g o:Int):Prop:=0<=g/\g<=3/\0<=o/\o<=90/\o%10=0/\(0<o->g=0)
theorem ES{b:UInt8}{g o:Int}(h:meant b=some (g,o)):qX g o=b/\zJ g o:=by
 unfold meant at h;split at h
 ·rename_i hb
  simp only[Option.some.injEq,Prod.mk.injEq] at h;obtain⟨rfl,rfl⟩:=h;have e1:(((b.toNat:Int)-48)*10)/10=(b.toNat:Int)-48:=by omega
  refine⟨?_,by unfold zJ;omega⟩;unfold qX;rw[if_neg (by omega),if_pos (by omega),e1,show 48+((b.toNat:Int)-48).toNat=b.toNat by omega];exact UInt8.ofNat_toNat
 ·split at h
  ·rename_i hb
   simp only[Option.some.injEq,Prod.mk.injEq] at h;obtain⟨rfl,rfl⟩:=h;exact⟨by rw[hb];rfl,by unfold zJ;omega⟩
  ·split at h
   ·rename_i hb
    simp only[Option.some.injEq,Prod.mk.injEq] at h;obtain⟨rfl,rfl⟩:=h;exact⟨by rw[hb];rfl,by unfold zJ;omega⟩
   ·split at h
    ·rename_i hb
     simp only[Option.some.injEq,Prod.mk.injEq] at h;obtain⟨rfl,rfl⟩:=h;exact⟨by rw[hb];rfl,by unfold zJ;omega⟩
    ·split at h
     ·rename_i hb
      simp only[Option.some.injEq,Prod.mk.injEq] at h;obtain⟨rfl,rfl⟩:=h;exact⟨by rw[hb];rfl,by unfold zJ;omega⟩
     ·cases h
theorem mW{l:List Int}{x:Int}{i:Nat}(h:i<l.length):(l++[x]).getD i 0=l.getD i 0:=by
 rw[List.getD_eq_getElem?_getD,List.getD_eq_getElem?_getD,List.getElem?_append_left h]
theorem kX{l:List Int}{x:Int}{i:Nat}(h:i=l.length):(l++[x]).getD i 0=x:=by
 subst h;rw[List.getD_eq_getElem?_getD,List.getElem?_append_right (Nat.le_refl _)];simp
theorem mX{W:Nat}{gs os:List Int}{g o:Int}{r c:Nat}(h1:r*W+c<=gs.length)(h2:r*W+c<=os.length):fC W (gs++[g]) (os++[o]) r c=fC W gs os r c:=by
 induction c with
 |zero=>rfl
 |succ c ih=>
  rw[jH,jH,ih (by omega) (by omega),mW (by omega),mW (by omega)]
theorem wX{W:Nat}{gs os:List Int}{g o:Int}{r:Nat}(h1:r*W<=gs.length)(h2:r*W<=os.length):jG W (gs++[g]) (os++[o]) r=jG W gs os r:=by
 induction r with
 |zero=>rfl
 |succ r ih=>
  rw[Nat.add_mul] at h1 h2;simp only[jG];rw[ih (by omega) (by omega),mX (by omega) (by omega)]
theorem uK(W V:Nat)(gs os:List Int)(c:Nat):fC W gs os 0 c=fC V gs os 0 c:=by
 unfold fC;simp
structure Inv(s:St)(l:List UInt8):Prop where
 w0:s.H=0->s.W=0
 wp:0<s.H->0<s.W
 cw:0<s.H->s.c<=s.W
 c12:s.c<=12
 w12:s.W<=12
 h12:s.H<=12
 top:s.H=12->s.c=0
 gl:s.gs.length=s.H*s.W+s.c
 ol:s.os.length=s.H*s.W+s.c
 Vm:∀(i:Nat) g o,s.gs[i]? =some g->s.os[i]? =some o->zJ g o
 text:l=jG s.W s.gs s.os s.H++fC s.W s.gs s.os s.H s.c
theorem inv0:Inv st0 []:=⟨λ_=>rfl,λh=>by simp[st0] at h,λh=>by simp[st0] at h,by simp[st0],by simp[st0],by simp[st0],λh=>by simp[st0] at h,rfl,rfl,λi g o h=>by simp[st0] at h,rfl⟩
theorem qN{l:List Int}{x y:Int}{i:Nat}(h:(l++[x])[i]? =some y):(i<l.length/\l[i]? =some y)\/(i=l.length/\y=x):=by
 rcases Nat.lt_or_ge i l.length with h1|h1
 ·left;rw[List.getElem?_append_left h1] at h;exact⟨h1,h⟩
 ·right
  rw[List.getElem?_append_right h1] at h;have h2:i-l.length=0:=by
   rcases Nat.eq_zero_or_pos (i-l.length) with h2|h2
   ·exact h2
   ·rw[List.getElem?_eq_none (by simp;omega)] at h;cases h
  rw[h2] at h;simp at h;exact⟨by omega,h.symm⟩
theorem Inv.step{s s':St}{l:List UInt8}{b:UInt8}(h:Inv s l)(hs:step s b=.inr s'):Inv s' (l++[b]):=by
 unfold Fd.step at hs;split at hs
 ·rename_i hb
  subst hb;split at hs
  ·cases hs
  ·rename_i hc
   injection hs with hs
   subst hs;have hc0:0<s.c:=by omega
   have hcw:0<s.H->s.c=s.W:=by omega
   have hh:s.H≠12:=λe=>by have:=h.top e;omega
   have h12:=h.h12;have c12:=h.c12
   have el:s.H*s.W+s.c=(s.H+1)*s.c:=by
    rcases Nat.eq_zero_or_pos s.H with e|e
    ·rw[e];simp
    ·rw[<-hcw e,Nat.add_mul,Nat.one_mul]
   refine⟨by simp,by simp;exact hc0,by simp,by simp,c12,by show s.H+1<=12;omega,by simp,?_,?_,h.Vm,?_⟩
   ·show s.gs.length=(s.H+1)*s.c+0;rw[h.gl,el];rfl
   ·show s.os.length=(s.H+1)*s.c+0;rw[h.ol,el];rfl
   ·show l++[10]=jG s.c s.gs s.os (s.H+1)++fC s.c s.gs s.os (s.H+1) 0
    rw[h.text];simp only[jG];rcases Nat.eq_zero_or_pos s.H with e|e
    ·rw[e,uK s.W s.c]
     simp[jG,fC]
    ·rw[<-hcw e]
     simp[fC]
 ·split at hs
  ·cases hs
  ·rename_i g o hm
   split at hs
   ·cases hs
   ·split at hs
    ·cases hs
    ·rename_i h1 h2
     injection hs with hs
     subst hs;obtain⟨e1,e2⟩:=ES hm;have cw:=h.cw;have c12:=h.c12;have h12:=h.h12
     refine⟨h.w0,h.wp,λhp=>?_,?_,h.w12,h.h12,λe=>?_,?_,?_,?_,?_⟩
     ·show s.c+1<=s.W;have:=cw hp;have:0<s.H:=hp;omega
     ·show s.c+1<=12;omega
     ·exfalso;have:s.H=12:=e;omega
     ·show(s.gs++[g]).length=s.H*s.W+(s.c+1);rw[List.length_append,h.gl];rfl
     ·show(s.os++[o]).length=s.H*s.W+(s.c+1);rw[List.length_append,h.ol];rfl
     ·intro i g' o' hg ho
      rcases qN hg with⟨l1,q1⟩|⟨l1,q1⟩
      ·rcases qN ho with⟨l2,q2⟩|⟨l2,q2⟩
       ·exact h.Vm i g' o' q1 q2
       ·have:=h.gl;have:=h.ol;omega
      ·rcases qN ho with⟨l2,q2⟩|⟨l2,q2⟩
       ·have:=h.gl;have:=h.ol;omega
       ·rw[q1,q2];exact e2
     ·show l++[b]=jG s.W (s.gs++[g]) (s.os++[o]) s.H++fC s.W (s.gs++[g]) (s.os++[o]) s.H (s.c+1)
      have:=h.gl;have:=h.ol
      rw[wX (by omega) (by omega),jH,mX (by omega) (by omega),kX (by omega),kX (by omega),e1,h.text,List.append_assoc]
theorem Inv.run{s s':St}{l m:List UInt8}{i:Nat}(h:Inv s l)(hs:run s i m=.inr s'):Inv s' (l++m):=by
 induction m generalizing s l i with
 |nil=>
  simp only[Fd.run] at hs;injection hs with hs
  subst hs;simpa using h
 |cons b bs ih=>
  rw[Kz] at hs;cases hb:Fd.step s b with
  |inl e=>rw[hb] at hs;cases hs
  |inr s1=>
   rw[hb] at hs;have:=ih (h.step hb) hs;rwa[List.append_assoc] at this
section
variable {W H:Nat} {gs os:List Int} (G:Good W H gs os) (ht:∀o∈os,o<=90/\o%10=0)
include G ht
end
end Go.Proofs.YtojhiiiebnlipaaGreatDoor.Fd
namespace Go.Proofs.YtojhiiiebnlipaaGreatDoor
def SK:List KV:=[⟨⟨#[98,97,115,101]⟩,50,0,0,4,0,50,5,0,false,true⟩,⟨⟨#[100,105,103,103,101,114]⟩,10,0,0,3,2,10,2,20,false,false⟩,⟨⟨#[102,105,103,104,116,101,114]⟩,20,4,1,4,2,20,3,0,false,false⟩]
def SG:List Int:=[0,0,0,0,0,0,0,0]
def SO:List Int:=[0,0,0,0,0,0,30,0]
def S0:WV:=⟨0,1,4,2,SG,SO,[100,100],[],[]⟩
def S1:WV:=⟨0,2,4,2,SG,SO,[100,100],[⟨1,0,0,0,50,0,0,0⟩],[]⟩
def S2:WV:=⟨0,3,4,2,SG,SO,[100,100],[⟨1,0,0,0,50,0,0,0⟩,⟨2,0,1,1,10,0,0,0⟩],[]⟩
def S3:WV:=⟨0,4,4,2,SG,SO,[100,100],[⟨1,0,0,0,50,0,0,0⟩,⟨2,0,1,1,10,0,0,0⟩,⟨3,1,2,3,20,0,0,0⟩],[]⟩
theorem KD:Fd.parse [46,46,46,46,10,46,46,51,46,10]=.inr ⟨0,4,2,SG,SO⟩:=by rfl
theorem BM:Wd.eY SK 4 2 SG SO 2 100=0:=by decide+kernel
theorem Qh:Wd.dL SK S0 0 0 0=0:=by decide+kernel
theorem Qi:Wd.dL SK S1 0 1 1=0:=by decide+kernel
theorem Qj:Wd.dL SK S2 1 2 3=0:=by decide+kernel
theorem RY:Wd.begun SK 4 2 SG SO 2 100=S0:=wW BM
theorem Xx:Wd.placed SK S0 0 0 0=S1:=(jf Qh).trans rfl
theorem Xy:Wd.placed SK S1 0 1 1=S2:=(jf Qi).trans rfl
theorem Xz:Wd.placed SK S2 1 2 3=S3:=(jf Qj).trans rfl
theorem dU:∀k∈SK,k.b.size<=9223372036854775807:=by
 intro k hk;unfold SK at hk;rcases List.mem_cons.1 hk with rfl|hk
 ·decide
 rcases List.mem_cons.1 hk with rfl|hk
 ·decide
 rcases List.mem_cons.1 hk with rfl|hk
 ·decide
 ·cases hk
namespace So
def zK(o:aK):Bool:=decide (o.what=3)
theorem sQ{l:List aK}:∀(q:Nat),q<=l.length->((kp l q).map Prod.fst).countP zK=(l.take q).countP zK
 |0,_=>by simp[kp]
 |q+1,h=>by
  have hq:q<l.length:=by omega
  have ih:=sQ (l:=l) q (by omega);obtain⟨o,ho⟩:∃o,l[q]? =some o:=⟨_,List.getElem?_eq_getElem hq⟩;rw[List.take_succ_eq_append_getElem hq,List.countP_append,<-ih];have e:l[q]=o:=by have:=List.getElem?_eq_getElem hq;rw[ho] at this;exact(Option.some.inj this).symm
  rw[e];by_cases hc:o.what=3\/lf l l.length o.aA o.unit=(q:Nat)
  ·rw[kD ho hc,List.map_append,List.countP_append]
   rfl
  ·rw[wJ ho hc]
   have h3:zK o=false:=by unfold zK;exact decide_eq_false (λh=>hc (.inl h))
   simp[h3]
theorem aW.FV{l out:List aK}(h:aW l out):out.countP zK=l.countP zK:=by
 obtain⟨S,p,r,rfl⟩:=h;have h1:=sQ (l:=l) l.length (Nat.le_refl _);rw[List.take_length] at h1;rw[<-h1];exact(p.map Prod.fst).countP_eq zK
theorem aW.has{l out:List aK}(h:aW l out){i:Nat}{o:aK}(ho:l[i]? =some o)(h3:¬o.what=3)(hn:∀(k:Nat) x,i<k->k<l.length->l[k]? =some x->x.what=3\/x.aA≠o.aA\/x.unit≠o.unit):o∈out:=by
 obtain⟨S,p,r,rfl⟩:=h;have hi:i<l.length:=(List.getElem?_eq_some_iff.1 ho).1;exact List.mem_map.2 ⟨(o,i),p.mem_iff.2 (Qe ho (.inr (oz ho h3 hi hn)) hi),rfl⟩
theorem aW.once{l out:List aK}(h:aW l out){i k:Nat}{x y:aK}(hki:k<i)(hx:out[k]? =some x)(hy:out[i]? =some y)(h3:¬x.what=3)(h4:¬y.what=3)(hp:x.aA=y.aA):¬x.unit=y.unit:=by
 intro hu;obtain⟨S,p,r,rfl⟩:=h;rw[List.getElem?_map] at hx hy;obtain⟨a,ha,rfl⟩:=Option.map_eq_some_iff.1 hx;obtain⟨b,hb,rfl⟩:=Option.map_eq_some_iff.1 hy;obtain⟨-,-,ka⟩:=lM (p.mem_iff.1 (List.mem_of_getElem? ha));obtain⟨-,-,kb⟩:=lM (p.mem_iff.1 (List.mem_of_getElem? hb));have e1:=ka.resolve_left h3;have e2:=kb.resolve_left h4;rw[hp,hu,e2] at e1;have tg:S.Pairwise (λx y=>x.2≠y.2):=(p.symm.pairwise_iff (λ{a b} (h:a.2≠b.2)=>h.symm)).1 ((jF (l:=l) l.length).imp (λh=>by omega));obtain⟨la,ea⟩:=List.getElem?_eq_some_iff.1 ha;obtain⟨lb,eb⟩:=List.getElem?_eq_some_iff.1 hb;have:=List.pairwise_iff_getElem.1 tg k i la lb hki;rw[ea,eb] at this;omega
def l0:List aK:=[⟨0,2,1,5⟩,⟨0,1,0,0⟩,⟨0,2,1,6⟩]
end So
namespace So
def Ro2(x y:aK):Prop:=¬og y x/\(¬x.what=3->¬y.what=3->x.aA=y.aA->¬x.unit=y.unit)
theorem aW.lo{l out:List aK}(h:aW l out):out.Pairwise Ro2:=by
 rw[List.pairwise_iff_getElem];intro k i hk hi hki;refine⟨?_,λh3 h4 hp=>h.once hki (List.getElem?_eq_getElem hk) (List.getElem?_eq_getElem hi) h3 h4 hp⟩;obtain⟨S,p,r,rfl⟩:=h;simp only[List.length_map] at hk hi;have:=List.pairwise_iff_getElem.1 r k i hk hi hki;simp only[List.getElem_map];rcases this with h|h
 ·exact JB h
 ·exact h.1
theorem KE{out:List aK}(h:out.Pairwise Ro2):∀q,q<=out.length->(kp out q).map Prod.fst=out.take q
 |0,_=>by simp[kp]
 |q+1,hq=>by
  have hl:q<out.length:=by omega
  obtain⟨o,ho⟩:∃o,out[q]? =some o:=⟨_,List.getElem?_eq_getElem hl⟩;have ih:=KE h q (by omega);have hc:o.what=3\/lf out out.length o.aA o.unit=(q:Nat):=by
   by_cases h3:o.what=3
   ·exact .inl h3
   ·refine .inr (oz ho h3 hl λk x h1 h2 hx=>?_)
    by_cases hx3:x.what=3
    ·exact .inl hx3
    ·refine .inr ?_
     have:=(List.pairwise_iff_getElem.1 h q k hl h2 h1).2;have e1:out[q]=o:=by have:=List.getElem?_eq_getElem hl;rw[ho] at this;exact(Option.some.inj this).symm
     have e2:out[k]=x:=by have:=List.getElem?_eq_getElem h2;rw[hx] at this;exact(Option.some.inj this).symm
     rw[e1,e2] at this;by_cases hp:x.aA=o.aA
     ·exact .inr (λhu=>this h3 hx3 hp.symm hu.symm)
     ·exact .inl hp
  have e1:out[q]=o:=by have:=List.getElem?_eq_getElem hl;rw[ho] at this;exact(Option.some.inj this).symm
  rw[kD ho hc,List.map_append,ih,List.take_succ_eq_append_getElem hl,e1];rfl
theorem Pn{out:List aK}(h:out.Pairwise Ro2):aW out out:=by
 have e:=KE h out.length (Nat.le_refl _);rw[List.take_length] at e;refine⟨kp out out.length,List.Perm.refl _,?_,e.symm⟩;have h1:=jF (l:=out) out.length;have h2:((kp out out.length).map Prod.fst).Pairwise Ro2:=by rw[e];exact h
 rw[List.pairwise_map] at h2;exact(h1.and h2).imp λ⟨a,b⟩=>.inr ⟨b.1,a⟩
theorem aW.fault{l out:List aK}(h:aW l out)(hf:Od.faults l=0):Od.faults out=0:=by
 obtain⟨h1,h2⟩:=Od.fK hf;exact Od.nD (Nat.le_trans h.len h1) λo ho=>h2 o (h.mem ho)
def l1:List aK:=[⟨1,7,1,5⟩,⟨1,7,0,0⟩]
end So
open Go.Proofs.YtojhiiiebnlipaaGreatDoor.So Go.RowKit
namespace Wy
def snd(nb:Nat->List Int)(st:Nat->Nat->Int)(t:Nat)(l:List Int)(n:Nat):Bool:=(List.range n).all λi=>(decide (i=t)&&decide (l.getD i 0=0))||(nb i).any λx=>decide (0<=x)&&decide (0<st i x.toNat)&&decide (0<=l.getD x.toNat (-1))&&decide (l.getD i 0=st i x.toNat+l.getD x.toNat (-1))
theorem ET{nb:Nat->List Int}{st:Nat->Nat->Int}{t:Nat}{l:List Int}{n:Nat}(hn:l.length=n)(h:snd nb st t l n=true):Sound nb st t l:=by
 have key:∀(m i:Nat) (x:Int),l[i]? =some x->x<=(m:Int)->Way nb st t i x:=by
  intro m
  induction m using Nat.strongRecOn with
  |ind m ih=>
   intro i x hx hm;have hi:i<n:=by rw[<-hn];exact(List.getElem?_eq_some_iff.1 hx).1
   unfold snd at h;rw[List.all_eq_true] at h;have h1:=h i (List.mem_range.2 hi);have hg:l.getD i 0=x:=by rw[List.getD_eq_getElem?_getD,hx];rfl
   rw[Bool.or_eq_true] at h1;rcases h1 with h1|h1
   ·rw[Bool.and_eq_true,decide_eq_true_eq,decide_eq_true_eq,hg] at h1
    obtain⟨rfl,rfl⟩:=h1;exact .here
   ·rw[List.any_eq_true] at h1
    obtain⟨y,hy,h2⟩:=h1;simp only[Bool.and_eq_true,decide_eq_true_eq,hg] at h2;obtain⟨⟨⟨h3,h4⟩,h5⟩,h6⟩:=h2;have hyl:∃z,l[y.toNat]? =some z/\l.getD y.toNat (-1)=z:=by
     rw[List.getD_eq_getElem?_getD] at h5 ⊢;cases e:l[y.toNat]? with
     |none=>rw[e] at h5;simp at h5
     |some z=>exact⟨z,rfl,rfl⟩
    obtain⟨z,hz,ez⟩:=hyl;rw[ez] at h5 h6;have hz0:z<(m:Int):=by omega
    have hw:=ih z.toNat (by omega) y.toNat z hz (by omega);rw[h6];exact .step (by rw[Int.toNat_of_nonneg h3];exact hy) h4 hw
 intro i x hx;by_cases h0:0<=x
 ·exact .inr (key x.toNat i x hx (by omega))
 ·exact .inr (key 0 i x hx (by omega))
theorem uM{W H:Nat}{st:Nat->Nat->Int}{t:Nat}{l:List Int}(hW:0<W)(h1:l.length=W*H)(h2:l[t]? =some 0)(h3:snd (Fd.near W H) st t l (W*H)=true)(h4:RV (Fd.near W H) st l (W*H)=true):bI (Fd.near W H) st t (W*H) l:=by
 refine yt h1 ?_ h2 (ET h1 h3) (wV h4);intro i j hi hj;obtain⟨t,h1,h2,-⟩:=Fd.nG (W:=W) (H:=H) hW hi hj;omega
theorem kF{l:List Int}(h:l.all (λx=>decide (x<0\/x+2<=2*told l))=true):Flat l:=by
 intro i x hx;rw[List.all_eq_true] at h;have:=h x (List.mem_of_getElem? hx);simpa using this
theorem KG{nb:Nat->List Int}{ss l:List Int}{i j:Nat}(k:Nat)(h1:(nb i)[k]? =some (j:Int))(h2:pn ss l i j=true)(h3:((nb i).take k).any (pn ss l i)=false):Nx nb ss l i j:=⟨k,h1,h2,h3⟩
end Wy
open Wy
def OB:KV:=⟨⟨#[98,97,115,101]⟩,50,0,0,0,0,0,0,0,false,true⟩
def OD:KV:=⟨⟨#[100,105,103,103,101,114]⟩,10,0,0,0,2,0,0,20,false,false⟩
def OK:List KV:=[OB,OD]
def Vo:List Int:=SG.map λg=>Fd.onto g false
def ob:aC:=⟨1,0,0,0,50,0,0,0⟩
def od(a ld tk g:Int):aC:=⟨2,0,1,a,10,ld,tk,g⟩
def OW(tn:Int)(ng:Int)(gold:Int)(d:aC):WV:=⟨tn,3,4,2,SG,[0,0,0,0,0,0,ng,0],[gold],[ob,d],[]⟩
def l0:List Int:=[0,1,2,3,1,2,3,4]
def l6:List Int:=[3,2,1,2,2,1,0,1]
def l2:List Int:=[2,1,0,1,3,2,1,2]
def l1:List Int:=[1,0,1,2,2,1,2,3]
theorem Vp:bI (Fd.near 4 2) (λ_ j=>Vo.getD j 0) 0 8 l0:=uM (W:=4) (H:=2) (by decide) rfl rfl (by decide+kernel) (by decide+kernel)
theorem Vq:bI (Fd.near 4 2) (λ_ j=>Vo.getD j 0) 6 8 l6:=uM (W:=4) (H:=2) (by decide) rfl rfl (by decide+kernel) (by decide+kernel)
theorem zL(tn ng gold:Int)(d:aC):dG OK (OW tn ng gold d) 4 2 ob OB 0:=⟨0,0,l0,rfl,.inl ⟨rfl,rfl⟩,by decide,⟨Vp,kF (by decide+kernel)⟩,.inr ⟨by decide,.inl ⟨rfl,rfl⟩⟩⟩
theorem KH(tn ng gold:Int)(d:aC):Goes OK (OW tn ng gold d) 4 2 OB 0 [ob,d] OB.n4 [] [ob,d]:=
 .stop (u:=ob) (c:=0) (gg:=0) rfl (zL tn ng gold d) rfl (.inl (by decide))
theorem uN(tn ng gold:Int){a c:Nat}{ld:Int}(h1:(ld==20||ng==0)=false)(h2:PX (Fd.near 4 2) Vo l6 6 a c)(h3:0<=l6.getD a 0):dG OK (OW tn ng gold (od a ld 2 6)) 4 2 (od a ld 2 6) OD c:=
 ⟨a,6,l6,rfl,.inr (.inl ⟨by simp[od],λh=>by
  have h9:jO (OW tn ng gold (od a ld 2 6)).os (od a ld 2 6) OD=(ld==20||ng==0):=rfl;rw[h9,h1] at h;exact Bool.noConfusion h.2,rfl⟩),by decide,⟨Vq,kF (by decide+kernel)⟩,.inr ⟨h3,h2⟩⟩
namespace To
def kb:KV:=⟨⟨#[98,97,115,101]⟩,50,0,0,4,0,50,5,0,false,true⟩
def kd:KV:=⟨⟨#[100,105,103,103,101,114]⟩,10,0,0,3,2,10,2,20,false,false⟩
def kf:KV:=⟨⟨#[102,105,103,104,116,101,114]⟩,20,4,1,4,2,20,3,0,false,false⟩
def fu:aC:=⟨3,1,2,3,20,0,0,0⟩
def TW(tn ng:Int)(d:aC):WV:=⟨tn,4,4,2,SG,[0,0,0,0,0,0,ng,0],[100,100],[ob,d,fu],[]⟩
theorem s3:S3=TW 0 30 (od 1 0 0 0):=rfl
def l3:List Int:=[3,2,1,0,4,3,2,1]
theorem XD:bI (Fd.near 4 2) (λ_ j=>Vo.getD j 0) 3 8 l3:=uM (W:=4) (H:=2) (by decide) rfl rfl (by decide+kernel) (by decide+kernel)
theorem zL(tn ng:Int)(d:aC):dG SK (TW tn ng d) 4 2 ob kb 0:=⟨0,0,l0,rfl,.inl ⟨rfl,rfl⟩,by decide,⟨Vp,kF (by decide+kernel)⟩,.inr ⟨by decide,.inl ⟨rfl,rfl⟩⟩⟩
theorem RZ(tn ng:Int)(d:aC):dG SK (TW tn ng d) 4 2 fu kf 3:=⟨3,3,l3,rfl,.inl ⟨rfl,rfl⟩,by decide,⟨XD,kF (by decide+kernel)⟩,.inr ⟨by decide,.inl ⟨rfl,rfl⟩⟩⟩
theorem KH(tn ng:Int)(d:aC):Goes SK (TW tn ng d) 4 2 kb 0 [ob,d,fu] kb.n4 [] [ob,d,fu]:=.stop (u:=ob) (c:=0) (gg:=0) rfl (zL tn ng d) rfl (.inl (by decide))
theorem uN(tn ng:Int){a c:Nat}{ld:Int}(h1:(ld==20||ng==0)=false)(h2:PX (Fd.near 4 2) Vo l6 6 a c)(h3:0<=l6.getD a 0):dG SK (TW tn ng (od a ld 2 6)) 4 2 (od a ld 2 6) kd c:=
 ⟨a,6,l6,rfl,.inr (.inl ⟨by simp[od],λh=>by
  have h9:jO (TW tn ng (od a ld 2 6)).os (od a ld 2 6) kd=(ld==20||ng==0):=rfl;rw[h9,h1] at h;exact Bool.noConfusion h.2,rfl⟩),by decide,⟨Vq,kF (by decide+kernel)⟩,.inr ⟨h3,h2⟩⟩
theorem moves:Moves SK (TW 0 30 (od 1 0 2 6)) 4 2 0 [ob,od 1 0 2 6,fu] [⟨1,2,2⟩,⟨1,2,6⟩] [ob,od 6 0 2 6,fu]:=by
 have g3:Goes SK (TW 0 30 (od 1 0 2 6)) 4 2 kd 1 [ob,od 6 0 2 6,fu] 0 [] [ob,od 6 0 2 6,fu]:=.stop (u:=od 6 0 2 6) (c:=6) (gg:=0) rfl (uN 0 30 (a:=6) (by decide) (.inl ⟨rfl,rfl⟩) (by decide)) rfl (.inl (by decide));have g2:Goes SK (TW 0 30 (od 1 0 2 6)) 4 2 kd 1 [ob,od 2 0 2 6,fu] 1 [6] [ob,od 6 0 2 6,fu]:=.step (u:=od 2 0 2 6) (c:=6) (gg:=0) rfl (uN 0 30 (a:=2) (by decide) (.inr ⟨by decide,KG 2 (by decide+kernel) (by decide+kernel) (by decide+kernel)⟩) (by decide)) rfl (by decide) (by decide) g3;have g1:Goes SK (TW 0 30 (od 1 0 2 6)) 4 2 kd 1 [ob,od 1 0 2 6,fu] kd.n4 [2,6] [ob,od 6 0 2 6,fu]:=.step (u:=od 1 0 2 6) (c:=2) (gg:=0) rfl (uN 0 30 (a:=1) (by decide) (.inr ⟨by decide,KG 1 (by decide+kernel) (by decide+kernel) (by decide+kernel)⟩) (by decide)) rfl (by decide) (by decide) g2;have gf:Goes SK (TW 0 30 (od 1 0 2 6)) 4 2 kf 2 [ob,od 6 0 2 6,fu] kf.n4 [] [ob,od 6 0 2 6,fu]:=.stop (u:=fu) (c:=3) (gg:=0) rfl (RZ 0 30 (od 6 0 2 6)) rfl (.inr (by decide));exact .unit (u:=ob) (k:=kb) (u1:=ob) (cells:=[]) rfl rfl (KH _ _ _) rfl (.unit (u:=od 1 0 2 6) (k:=kd) (u1:=od 6 0 2 6) (cells:=[2,6]) rfl rfl g1 rfl (.unit (u:=fu) (k:=kf) (u1:=fu) (cells:=[]) rfl rfl gf rfl (.done rfl)))
def o1:aK:=⟨0,2,2,6⟩
def o2:aK:=⟨1,3,3,1⟩
theorem last:aW [o1,o2] [o1,o2]:=Pn (by simp[Ro2,og,o1,o2])
theorem ZN:(gv SK S3 [o1,o2] 2).1=TW 0 30 (od 1 0 2 6):=by rfl
theorem XG:Ui SK 4 2 (TW 0 30 (od 6 0 2 6))=TW 0 20 (od 6 10 2 6):=by rfl
theorem Vr:(qh SK 4 2 (TW 0 30 (od 6 0 2 6))).length=1:=by rfl
theorem fault:bC SK S3 [o1,o2]=0:=by decide+kernel
def hit:aC:=⟨2,0,1,6,6,10,2,6⟩
theorem ZO:lK SK 4 (TW 0 20 (od 6 10 2 6))=TW 0 20 hit:=by rfl
theorem step:∃es,kW SK S3 [o1,o2] (TW 1 20 hit) es/\3<=es.length:=by
 have t:Tr SK (TW 0 30 (od 1 0 2 6)) 0 (TW 0 30 (od 1 0 2 6)) [] []:=.zero;have p1:Ph SK 4 2 (TW 0 30 (od 1 0 2 6)) 1 (TW 0 30 (od 1 0 2 6)) []:=.one t;have p2:Ph SK 4 2 (TW 0 30 (od 1 0 2 6)) 2 (TW 0 30 (od 6 0 2 6)) ([]++[⟨1,2,2⟩,⟨1,2,6⟩]):=Ph.two p1 moves;have p3:=Ph.three p2;rw[XG] at p3;have p4:=Ph.four p3;rw[ZO] at p4;have hl:3<=(([]++[⟨1,2,2⟩,⟨1,2,6⟩]:List cO)++qh SK 4 2 (TW 0 30 (od 6 0 2 6))++kN SK 4 (TW 0 20 (od 6 10 2 6))).length:=by
  rw[List.length_append,List.length_append,Vr];simp only[List.nil_append,List.length_cons,List.length_nil];omega
 exact⟨_,⟨[o1,o2],4,2,TW 0 20 hit,last,rfl,rfl,by rw[show[o1,o2].length=2 from rfl,ZN];exact p4,rfl⟩,hl⟩
end To
end Go.Proofs.YtojhiiiebnlipaaGreatDoor
namespace Go.Proofs.YtojhiiiebnlipaaGreatDoor
open Go.Proofs.YtojhiiiebnlipaaGreatDoor.So
theorem wY{ks:List KV}{Y:WV}{a b:List aK}:∀q,q<=a.length->gv ks Y (a++b) q=gv ks Y a q
 |0,_=>rfl
 |q+1,hq=>by
  have e:(a++b)[q]? =a[q]? :=List.getElem?_append_left (by omega);rw[gv,gv,e,wY q (by omega)]
end Go.Proofs.YtojhiiiebnlipaaGreatDoor
