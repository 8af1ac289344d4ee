/- The numbers of a right world are small. Plain mathematics. And more. -/
import Derived.Test.YtolfphmdmpehdaaGreatDoorZReplaySeeks9
set_option linter.unusedVariables false
set_option maxHeartbeats 80000000
set_option maxRecDepth 100000
open Go.Value (int slice)
open Go.IntKind (i64)
namespace Go.Proofs.YtolfphmdmpehdaaGreatDoor
theorem bU{n:Int}(h: -100000000<=n/\n<=100000000):Wd.In64 n:=by unfold Wd.In64;omega
theorem qI{b n:Int}(h:Wd.off b n=false):b<=n/\n<=1000000:=by
 unfold Wd.off at h;simp at h;omega
theorem aT.Vh{ks:List KV}{X:WV}(h:aT ks X):Wd.Xo X:=by
 obtain⟨Wn,Hn,e1,e2,G⟩:=h.good;have hn:=h.nums;unfold Wd.aZ at hn;simp only[Bool.or_eq_false_iff] at hn;obtain⟨n1,n2,n3,n4⟩:=hn;have t1:=qI n1;have t2:=qI n2;have g4:X.gold.length<=4:=(jB h.nums).2;have w12:=G.w2;have h12:=G.h2;have cell:Wn*Hn<=144:=by
  have:Wn*Hn<=12*12:=Nat.mul_le_mul w12 h12;omega
 have gl:=G.gl;have ol:=G.ol;have hgs:∀n∈X.gs,Wd.In64 n:=λn hn=>by
  obtain⟨i,hi⟩:=List.mem_iff_getElem?.1 hn;have hil:=(List.getElem?_eq_some_iff.1 hi).1;have:=G.cell i n _ hi (List.getElem?_eq_getElem (by omega));exact bU (by omega)
 have hos:∀n∈X.os,Wd.In64 n:=λn hn=>by
  obtain⟨i,hi⟩:=List.mem_iff_getElem?.1 hn;have hil:=(List.getElem?_eq_some_iff.1 hi).1;have:=G.cell i _ n (List.getElem?_eq_getElem (by omega)) hi;exact bU (by omega)
 have hgo:∀n∈X.gold,Wd.In64 n:=λn hn=>by
  rw[List.any_eq_false] at n4;have:=qI (by simpa using n4 n hn:Wd.off 0 n=false);exact bU (by omega)
 have kb:∀k∈ks,k.n0<=1000/\k.n7<=1000:=λk hk=>by
  have h9:=h.kinds;unfold Kd.aN at h9;split at h9
  ·omega
  ·have h2:=iK h9 k.k (List.mem_map.2 ⟨k,hk,rfl⟩)
   unfold Kd.dw at h2;split at h2
   ·omega
   ·rename_i h3
    rw[Bool.not_eq_true,List.any_eq_false] at h3;have a1:=h3 k.n0 (by simp[KV.k]);have a2:=h3 k.n7 (by simp[KV.k]);simp only[decide_eq_true_eq] at a1 a2;omega
 have k8:ks.length<=8:=by
  have h9:=h.kinds;unfold Kd.aN at h9;split at h9
  ·omega
  ·rename_i h3
   simp at h3;omega
 have hus:∀u∈X.us,∀n∈Wd.jP u,Wd.In64 n:=λu hu n hn=>by
  obtain⟨i,hi⟩:=List.mem_iff_getElem?.1 hu;obtain⟨k,F⟩:=h.fine hi;have b:=kb k (List.mem_of_getElem? F.kk);have f1:=F.id1;have f2:=F.id2;have f3:=F.p;have f4:=F.k0;have f5:=F.life;have f6:=F.load;have f7:=F.task;have f8:=F.at_;have f9:=F.goal;unfold Wd.jP at hn;simp only[List.mem_cons,List.not_mem_nil,or_false] at hn;rcases hn with rfl|rfl|rfl|rfl|rfl|rfl|rfl|rfl<;>exact bU (by omega)
 have K_:∀j∈X.qs,∀n∈Wd.jQ j,Wd.In64 n:=λj hj n hn=>by
  have hf:=h.job hj;unfold Wd.aO at hf;split at hf
  ·cases hf
  ·rename_i u hu
   have hm:=List.mem_of_find?_eq_some hu;have hid:u.id=j.unit:=by simpa using List.find?_some hu
   obtain⟨i,hi⟩:=List.mem_iff_getElem?.1 hm;obtain⟨k',F⟩:=h.fine hi;have f1:=F.id1;have f2:=F.id2;have f3:=F.p;split at hf
   ·cases hf
   ·split at hf
    ·cases hf
    ·rename_i hp
     split at hf
     ·cases hf
     ·rename_i hk
      simp only[Bool.or_eq_true,bne_iff_ne,not_or,Decidable.not_not,Bool.not_eq_true] at hp;unfold Wd.has at hk;simp at hk;unfold Wd.jQ at hn;simp only[List.mem_cons,List.not_mem_nil,or_false] at hn;rcases hn with rfl|rfl|rfl|rfl<;>exact bU (by omega)
 refine⟨λn hn=>?_,by omega,by omega,by omega,Nat.le_trans h.ul (by omega),Nat.le_trans h.ql (by omega)⟩;have u40:=h.ul;have q12:=h.ql;unfold Wd.nums at hn;simp only[List.mem_append,List.mem_cons,List.not_mem_nil,or_false,List.mem_flatMap] at hn;rcases hn with(((((rfl|rfl|rfl|rfl)|rfl|hn)|rfl|hn)|rfl|hn)|rfl|⟨u,hu,hn⟩)|rfl|⟨j,hj,hn⟩
 ·exact bU (by omega)
 ·exact bU (by omega)
 ·exact bU (by omega)
 ·exact bU (by omega)
 ·exact bU (by omega)
 ·exact hgs n hn
 ·exact bU (by omega)
 ·exact hos n hn
 ·exact bU (by omega)
 ·exact hgo n hn
 ·exact bU (by omega)
 ·exact hus u hu n hn
 ·exact bU (by omega)
 ·exact K_ j hj n hn
theorem sJ{X:WV}(h:Wd.Xo X):iJ X:=⟨Nat.le_trans h.g (by omega),Nat.le_trans h.o (by omega),Nat.le_trans h.p (by omega),Nat.le_trans h.u (by omega),Nat.le_trans h.q (by omega)⟩
open Go.RowKit
theorem OD(w:World)(ty:TypeId)(base:Nat)(v:Value)(xs:List Int)(hown:Ow w base v xs)(ad:Addr)(d:Int)(hd:w.cell? ad=some (int i64 d))(hl:xs.length<=1000000)(hbase:base<=w.heap.size):
 ∃g cap w',(Builtin.append_ #[23,23] ty #[v,slice (some ad) 1 1]).run Tryz.prog w=.ok (slice (some ⟨g,0,none⟩) (xs.length+1) cap) w'/\Ow w' base (slice (some ⟨g,0,none⟩) (xs.length+1) cap) (xs++[d])/\w.grownBy w' v.ownBlock/\(v.ownBlock=some g\/g=w.heap.size)/\g<w'.heap.size:=by
 obtain⟨i0,hi,hz0,hz1,hz2⟩:=info_parts iI;obtain⟨g,cap,w6,hr,ho6,hg6,ha6,hl6⟩:=run_append_lies (P:=Tryz.prog) w 23 23 base 3 i0 (int i64 0) 1 8 Tryz.underlying23 hi hz0 hz1 hz2 rfl (by decide) v xs.length _ hown ad 1 1 [int i64 d] rfl (λj u hj=>by
  have hjn:j<1:=(List.getElem?_eq_some_iff.1 hj).1
  match j,hjn,hj with
  |0,_,hj=>simp at hj;subst hj;exact hd) (λu hu=>by
  simp at hu;rw[hu];rfl) (by decide) (by unfold maxLen;omega) (by omega) hbase _ rfl
 refine⟨g,cap,w6,hr,?_,hg6,ha6,hl6⟩;unfold Ow;rw[List.length_append,List.map_append];simpa using ho6
open Go.Proofs.YtolfphmdmpehdaaGreatDoor.So
def sK(ks:List KV)(X:WV)(ls:List (List aQ))(xs:List Int):Prop:=∀(i:Nat) x,xs[i]? =some x->∃Y,dF ks X ls i Y/\x=(Wd.sum (Wd.enc Y):Nat)
def Lb(w:World)(b:Nat)(u:Value):Prop:=w.heap[b]? =some (.cells #[u] 23 (0,0))
section
variable {w w':World} {b:Nat} {u:Value}
theorem Lb.lt(h:Lb w b u):b<w.heap.size:=lt_of_block h
theorem Lb.la(h:Lb w b u):w.cell? ⟨b,0,none⟩=some u/\w.frozen? ⟨b,0,none⟩=false:=by
 unfold Lb at h;exact⟨by simp[World.cell?,h],by simp[World.frozen?,h]⟩
theorem Lb.set(h:Lb w b u)(v:Value):Lb (w.setCell ⟨b,0,none⟩ v) b v:=by
 unfold Lb;rw[heap_setCell_same w b 0 _ _ _ h];rfl
end
def uO(ks:List KV)(X:WV)(ls:List (List aQ))(b z n s:Nat)(W:World):Prop:=∃u xs,Lb W b u/\Ow W (b+1) u xs/\(b<z/\z<=s)/\(∀k,u.ownBlock=some k->k<s/\k≠z/\k≠z+1)/\xs.length=n/\sK ks X ls xs
theorem uO.keep{ks:List KV}{X:WV}{ls:List (List aQ)}{b z n s:Nat}{W W':World}(h:uO ks X ls b z n s W)(f:Fr (λk=>k=z\/k=z+1\/s<=k) W W'):uO ks X ls b z n s W':=by
 obtain⟨u,xs,h1,h2,h3,h4,h5⟩:=h;exact⟨u,xs,(f.block b h1.lt (λe=>by omega)).trans h1,f.own h2 (λk hk e=>by have:=h4 k hk;omega),h3,h4,h5⟩
theorem uO.up{ks:List KV}{X:WV}{ls:List (List aQ)}{b z n s t:Nat}{W:World}(h:uO ks X ls b z n s W)(ht:s<=t):uO ks X ls b z n t W:=by
 obtain⟨u,xs,h1,h2,h3,h4,h5⟩:=h;exact⟨u,xs,h1,h2,⟨h3.1,by omega⟩,λk hk=>by have:=h4 k hk;omega,h5⟩
theorem dF.le{ks:List KV}{X Y:WV}{ls:List (List aQ)}{n:Nat}(h:dF ks X ls n Y):n<=ls.length:=by
 cases h with
 |zero=>exact Nat.zero_le _
 |turn _ hl _ _=>exact(List.getElem?_eq_some_iff.1 hl).1
theorem sK.one{ks:List KV}{X Y:WV}{ls:List (List aQ)}{xs:List Int}(h:sK ks X ls xs)(p:dF ks X ls xs.length Y){x:Int}(e:x=(Wd.sum (Wd.enc Y):Nat)):sK ks X ls (xs++[x]):=by
 intro i y hy;rcases Nat.lt_or_ge i xs.length with hi|hi
 ·rw[List.getElem?_append_left hi] at hy
  exact h i y hy
 ·rw[List.getElem?_append_right hi] at hy
  have h0:i=xs.length:=by
   have:=(List.getElem?_eq_some_iff.1 hy).1;simp at this;omega
  subst h0;simp at hy;subst hy;exact⟨Y,p,e⟩
theorem ET(ks:List KV)(X:WV)(ls:List (List aQ))(w0:World)(z n s:Nat)(Y:WV)(v:Value)(w:World)(hw:Wd.aG ks X=0)(hl:n<100000)(hp:dF ks X ls n Y)(hi:uO ks X ls w0.heap.size z n s w)(hz:z+2<=s/\s<=w.heap.size)(ho:Wo w s v Y):
 Calls Tryz.prog 41 #[v,.pointer (some ⟨w0.heap.size,0,none⟩)] w λe W'=>e=.returned (.tuple #[])/\uO ks X ls w0.heap.size z (n+1) W'.heap.size W'/\Fr (Xc w0 z s) w W':=by
 have SY:=aj (λ(V:World) (h:Wl V v Y)=>sum_any v Y V h (sJ (bF (g_ hw hp).1).Vh) (bF (g_ hw hp).1).Vh.Xp);obtain⟨b,hb⟩:∃b,w0.heap.size=b:=⟨_,rfl⟩;rw[hb] at hi ⊢;obtain⟨u,xs,h1,h2,h3,h4,h5,h6⟩:=hi;obtain⟨sm,hsm⟩:∃x:Int,(Wd.sum (Wd.enc Y):Nat)=x:=⟨_,rfl⟩;rw[<-h5] at hp hl ⊢;have NX:=aj (h6.one hp hsm.symm);rw[hsm] at SY;have H4:=aj (fZ h4 hl hz);have H3:=aj (bg h3 hb);have LY:=ho.l;obtain⟨p1,q1,p2,q2,p3,q3,p4,q4,p5,q5,rfl⟩:=aX LY;have B0:=aj ((Below.refl w.heap.size w).alloc (Nat.le_refl _) (Obj.cells #[int i64 Y.turn,int i64 Y.next,int i64 Y.wide,int i64 Y.high,slice p1 Y.gs.length q1,slice p2 Y.os.length q2,slice p3 Y.gold.length q3,slice p4 Y.us.length q4,slice p5 Y.qs.length q5] 29));have X0:=aj (Wx.new (w:=w) (int i64 Y.turn) (int i64 Y.next) (int i64 Y.wide) (int i64 Y.high) (slice p1 Y.gs.length q1) (slice p2 Y.os.length q2) (slice p3 Y.gold.length q3) (slice p4 Y.us.length q4) (slice p5 Y.qs.length q5) rfl);have C0:Hid (Lb (w.alloc (Obj.cells #[int i64 Y.turn,int i64 Y.next,int i64 Y.wide,int i64 Y.high,slice p1 Y.gs.length q1,slice p2 Y.os.length q2,slice p3 Y.gold.length q3,slice p4 Y.us.length q4,slice p5 Y.qs.length q5] 29)) b u):=(B0.out.block b h1.lt).trans h1;have O0:=aj (bg (h2.below B0.out) (LY.below B0.out));have OB:=aj (bg h1.lt (λk hk=>(h2.block k hk)));clear h1 h2 h3 h4 h5 h6 hp hz ho hw LY hl hsm hb;go_enter Tryz.func41,Tryz.ntmps41;go_upto_region 1 with fail
 generalize hy:w.heap.size=y at *;generalize w.alloc _=w1 at *;refine aF [(true,0),(true,1),(false,2),(false,3),(false,4)] [(false,5)] (λV=>Lb V b u/\Wx V y (int i64 Y.turn) (int i64 Y.next) (int i64 Y.wide) (int i64 Y.high) (slice p1 Y.gs.length q1) (slice p2 Y.os.length q2) (slice p3 Y.gold.length q3) (slice p4 Y.us.length q4) (slice p5 Y.qs.length q5)) (by kernel_rfl) (by kernel_rfl) (by kernel_rfl) (by decide+kernel) (by decide+kernel) ⟨C0.out,X0.out⟩ ?_;have BD:Hid (Below w1.heap.size w1 {w1 with drawn:=w1.drawn+1}):=(Below.refl _ _).drew;generalize ({w1 with drawn:=w1.drawn+1}:World)=v1 at *;have C1:=aj (λ(V:World) (B:Below w1.heap.size w1 V)=>(⟨(B.block b C0.out.lt).trans C0.out,X0.out.below B X0.out.lt⟩:Lb V b u/\Wx V y (int i64 Y.turn) (int i64 Y.next) (int i64 Y.wide) (int i64 Y.high) (slice p1 Y.gs.length q1) (slice p2 Y.os.length q2) (slice p3 Y.gold.length q3) (slice p4 Y.us.length q4) (slice p5 Y.qs.length q5)));refine au rfl u (by go_simp) (λV hV=>by have:=hV.1.la.1;go_simp) ?_;go_simp;refine au rfl (.agg #[int i64 Y.turn,int i64 Y.next,int i64 Y.wide,int i64 Y.high,slice p1 Y.gs.length q1,slice p2 Y.os.length q2,slice p3 Y.gold.length q3,slice p4 Y.us.length q4,slice p5 Y.qs.length q5]) (by go_simp) (λV hV=>by obtain⟨x0,x1,x2,x3,x4,x5,x6,x7,x8⟩:=hV.2.cells;go_simp) ?_;go_simp;refine aJ rfl 13 #[.agg #[int i64 Y.turn,int i64 Y.next,int i64 Y.wide,int i64 Y.high,slice p1 Y.gs.length q1,slice p2 Y.os.length q2,slice p3 Y.gold.length q3,slice p4 Y.us.length q4,slice p5 Y.qs.length q5]] (by go_simp) (by go_simp) ?_;refine(SY.out v1 (O0.out.2.below BD.out)).mono ?_;rintro e v2 ⟨rfl,hb2⟩;have B2:=aj (BD.out.trans (hb2.mono BD.out.size));clear hb2 BD;refine⟨_,rfl,C1.out _ B2.out,?_⟩;go_simp;have BA:=aj ((Below.refl v2.heap.size v2).alloc (Nat.le_refl _) (Obj.cells #[int i64 sm] 3));have B3:=aj (B2.out.trans (BA.out.mono B2.out.size));have CE:Hid ((v2.alloc (Obj.cells #[int i64 sm] 3)).cell? ⟨v2.heap.size,0,none⟩=some (int i64 sm)):=by unfold Hid;simp
 refine bY rfl (slice (some ⟨v2.heap.size,0,none⟩) 1 1) (v2.alloc (Obj.cells #[int i64 sm] 3)) (by go_simp) (by go_simp) (C1.out _ B3.out) ?_;go_simp;generalize v2.heap.size=g0 at *;generalize v2.alloc _=v3 at *;have O3:=aj (O0.out.1.below B3.out);have SZ:Hid (w1.heap.size<=v3.heap.size/\y<w1.heap.size/\b<y):=⟨B3.out.size,X0.out.lt,OB.out.1⟩;obtain⟨g,cap,v4,hr,ho4,hg4,ha4,hl4⟩:=OD v3 23 (b+1) u xs O3.out _ _ CE.out (by have:=H4.out.2.1;omega) (by have:=SZ.out;omega);have F4:Hid (Fr (λk=>u.ownBlock=some k) v3 v4):=Fr.gb hg4 (λk h=>h);have C4:Hid (Lb v4 b u/\Wx v4 y (int i64 Y.turn) (int i64 Y.next) (int i64 Y.wide) (int i64 Y.high) (slice p1 Y.gs.length q1) (slice p2 Y.os.length q2) (slice p3 Y.gold.length q3) (slice p4 Y.us.length q4) (slice p5 Y.qs.length q5)):=⟨(F4.out.block b (C1.out _ B3.out).1.lt (λe=>by have:=(OB.out.2 b e).1;omega)).trans (C1.out _ B3.out).1,F4.out.wx (C1.out _ B3.out).2 (λe=>by have:=(OB.out.2 y e).2;have:=SZ.out;omega)⟩;refine bY rfl (slice (some ⟨g,0,none⟩) (xs.length+1) cap) v4 (by go_simp) (gy _ _ _ _ rfl _ _ (by go_simp) (by go_simp) hr) C4.out ?_;have A4:=aj (fZ ho4 ha4 hl4);clear hr ho4 hg4 ha4 hl4;go_simp;unfold aP;obtain⟨c0,t0⟩:=C4.out.1.la;have KS:=aj (@Kp.set b v4 0 (slice (some ⟨g,0,none⟩) (xs.length+1) cap));refine dM rfl (v4.setCell ⟨b,0,none⟩ (slice (some ⟨g,0,none⟩) (xs.length+1) cap)) (by go_simp) (by go_simp) trivial ?_;go_simp;unfold aH;have L5:=aj (C4.out.1.set (slice (some ⟨g,0,none⟩) (xs.length+1) cap));clear c0 t0;generalize v4.setCell _ _=v5 at *;go_wp2;go_end0;have hs:=H4.out.2.2;have h3:=H3.out.1;have hSZ:=SZ.out;have h34:=F4.out.size;have h45:=KS.out.size;refine⟨rfl,⟨_,_,L5.out,dP A4.out.1 KS.out (by omega),⟨h3.1,by omega⟩,λk hk=>?_,by simp,NX.out⟩,?_⟩
 ·simp[Value.ownBlock] at hk
  subst hk;rcases A4.out.2.1 with h|h
  ·have:=H4.out.1 g h
   have:=A4.out.2.2;omega
  ·have:=A4.out.2.2
   omega
 ·refine Fr.trans (Fr.below (by rw[hy];exact B0.out.trans (B3.out.mono (by omega)))) (Fr.trans (F4.out.mono λk hk=>?_) (Fr.kp KS.out ?_))
  ·have q:=H4.out.1 k hk
   have:=(OB.out.2 k hk).1;exact⟨by rw[H3.out.2];omega,q⟩
  ·exact⟨by rw[H3.out.2];omega,by omega,by omega,by omega⟩
theorem KI(vk vw vl:Value)(ks:List KV)(X:WV)(ls:List (List aQ))(w:World)(hk:Kl w vk ks)(hb:∀k∈ks,k.b.size<=9223372036854775807)(hw:Wl w vw X)(hl:wL w vl ls)(hs:Sd w):
 Calls Tryz.prog 12 #[vk,vw,vl] w λe w'=>∃v r F,e=.returned (.tuple #[v,r])/\Er r F/\((F≠0/\v=slice none 0 0)\/(F=0/\Wd.aG ks X=0/\ls.length<=200/\(∃Y,dF ks X ls ls.length Y)/\∃xs,Ow w' w.heap.size v xs/\xs.length=ls.length+1/\sK ks X ls xs))/\Below w.heap.size w w':=by
 have WW:=aj (λ(w1 w2:World) (b1:Below w.heap.size w w1) (h2:w1.heap.size<w2.heap.size) (b2:Below w1.heap.size w1 w2) (hL:Lb w2 w1.heap.size (slice none 0 0))=>rZ 41 (by intro args w;go_simp) #[.pointer (some ⟨w1.heap.size,0,none⟩)] (uO ks X ls w1.heap.size w2.heap.size) vk vw vl ks X ls w1 w2 (hk.below b1) hb (hw.below b1) (hl.below b1) (hs.below b1) b2 ⟨_,[],hL,Ow.nil _ _,⟨h2,Nat.le_refl _⟩,λk hk=>by simp[Value.ownBlock] at hk,rfl,λi x h=>by simp at h⟩ ⟨λn s W W' h f=>h.keep f,λn s t W h ht=>h.up ht,λn s Y v W hf hp hi hB hz ho=>ET ks X ls w1 w2.heap.size n s Y v W hf.1 (by have:=hp.le;omega) hp hi hz ho⟩);obtain⟨p1,q1,p2,q2,p3,q3,p4,q4,p5,q5,rfl⟩:=aX hw;clear hk hb hw hl hs;go_enter Tryz.func12,Tryz.ntmps12;go_upto_region 1 with fail
 have B0:=aj ((Below.refl w.heap.size w).alloc (Nat.le_refl _) (Obj.cells #[int i64 X.turn,int i64 X.next,int i64 X.wide,int i64 X.high,slice p1 X.gs.length q1,slice p2 X.os.length q2,slice p3 X.gold.length q3,slice p4 X.us.length q4,slice p5 X.qs.length q5] 29));have X0:=aj (Wx.new (w:=w) (int i64 X.turn) (int i64 X.next) (int i64 X.wide) (int i64 X.high) (slice p1 X.gs.length q1) (slice p2 X.os.length q2) (slice p3 X.gold.length q3) (slice p4 X.us.length q4) (slice p5 X.qs.length q5) rfl);generalize w.alloc _=w1 at *;go_upto_region 2 with fail
 have B1:=aj ((Below.refl w1.heap.size w1).alloc (Nat.le_refl _) (Obj.cells #[slice none 0 0] 23));have L1:Hid (Lb (w1.alloc (Obj.cells #[slice none 0 0] 23)) w1.heap.size (slice none 0 0)/\w1.heap.size<(w1.alloc (Obj.cells #[slice none 0 0] 23)).heap.size):=⟨heap_alloc_new w1 _,by simp⟩;have X1:=aj (X0.out.below B1.out X0.out.lt);generalize w1.alloc _=w2 at *;obtain⟨x0,x1,x2,x3,x4,x5,x6,x7,x8⟩:=X1.out.cells;go_wp2_with fail
 refine(WW.out w1 w2 B0.out L1.out.2 B1.out L1.out.1).mono ?_;rintro e w3 ⟨v,r,F,rfl,he,hp,hb,hf⟩;obtain⟨i1,i2,i3,i4,a1,l1,b1,a2,l2,b2,a3,l3,b3,a4,l4,b4,a5,l5,b5,rfl⟩:=hp.shape;have B3:=aj (B0.out.trans (hb.mono B0.out.size));have H:=aj (bg hp hf);have NN:=aj B0.out.size;clear hp hb hf x0 x1 x2 x3 x4 x5 x6 x7 x8 WW B1 L1 X0 X1;have B4:=aj ((Below.refl w3.heap.size w3).alloc (Nat.le_refl _) (Obj.cells #[int i64 i1,int i64 i2,int i64 i3,int i64 i4,slice a1 l1 b1,slice a2 l2 b2,slice a3 l3 b3,slice a4 l4 b4,slice a5 l5 b5] 29));go_upto_region 3 with fail
 generalize w3.alloc _=w4 at *;have B5:=aj (B3.out.trans (B4.out.mono B3.out.size));rcases he with⟨rfl,rfl⟩|⟨hF,rfl⟩
 case inr=>
  go_wp2;go_ret2;exact⟨_,_,F,rfl,Er.no hF,.inl ⟨hF,rfl⟩,B5.out⟩
 obtain⟨hp,hf⟩:=H.out;rcases hp with⟨h,-⟩|⟨-,hw,hl,Y,hp,-⟩
 ·exact absurd rfl h
 obtain⟨s,u,xs,h1,h2,-,-,h5,h6⟩:=hf rfl;have U:=aj (fZ (h2.below B4.out) h5 h6);have P:=aj (fZ hw hl (⟨Y,hp⟩:∃Y,dF ks X ls ls.length Y));obtain⟨c0,-⟩:=Lb.la (((B4.out.block _ h1.lt).trans h1:Lb w4 _ u));clear hf hp hw hl h1 h2 h5 h6 H;go_wp2;go_ret2;have:=NN.out;exact⟨_,_,0,rfl,Er.nil,.inr ⟨rfl,P.out.1,P.out.2.1,P.out.2.2,xs,Ow.mono U.out.1 (by omega),U.out.2⟩,B5.out⟩
theorem wV(v:Value)(xs:List Int)(w:World)(h:Ro w v xs)(hl:xs.length<=1000):
 Calls Tryz.prog 15 #[v,v] w λe w'=>e=.returned (.tuple #[int i64 0,.iface 85 (int i64 6)])/\Below w.heap.size w w':=by
 have R:=aj h;obtain⟨p,q,rfl,-⟩:=h;have HL:=aj hl;go_enter Tryz.func15,Tryz.ntmps15;go_wp2_with fail
 go_loopw [14] (λi W=>∃n:Nat,n<=xs.length/\i=int i64 (n:Nat)/\Below w.heap.size w W) (λi _=>xs.length-(intOf i).toNat)
 case atStart=>exact⟨0,Nat.zero_le _,rfl,Below.refl _ _⟩
 case round=>
  obtain⟨n,hn,rfl,hb⟩:=hrel;have BW:=aj hb;clear hb;by_cases hne:n=xs.length
  ·subst hne
   go_wp2;go_ret2;exact⟨rfl,BW.out⟩
  have hnl:n<xs.length:=by omega
  have hni:(n:Int)<(xs.length:Int):=by omega
  have hl2:=HL.out;obtain⟨x,hx⟩:∃x,xs[n]? =some x:=⟨_,List.getElem?_eq_getElem hnl⟩;obtain⟨a',c',e',-,-,hy⟩:=R.out.below BW.out;injection e' with e1 e2 e3
  subst e1 e3;obtain⟨xa,rfl,-,hy⟩:=hy (by rintro rfl;simp at hnl);have cx:=hy n x hx;clear hy e2 hx R;have BD:Hid (∀q,Below w.heap.size w (wr.drewN q)):=λq=>⟨BW.out.os,BW.out.tape,BW.out.output,BW.out.size,BW.out.block⟩
  go_upto_region 5 with fail
  go_quiet (fail);go_wp2;go_round
  case rel=>exact⟨n+1,by omega,by go_num,BD.out _⟩
  case measure=>simp[intOf];omega
def wW(ks:List KV)(X:WV)(ls:List (List aQ))(n F:Int)(w w':World)(v:Value):Prop:=
 ((n<0\/(ls.length:Int)<n)/\F=1/\v=.agg #[int i64 0,int i64 0,int i64 0,int i64 0,slice none 0 0,slice none 0 0,slice none 0 0,slice none 0 0,slice none 0 0])\/(∃c:Nat,n=(c:Int)/\c<=ls.length/\gK ks X (ls.take c) F w w' v)
def KJ(ks:List KV)(X:WV)(ls:List (List aQ))(n:Int)(w:World)(e:Ending)(w':World):Prop:=∃v r F,e=.returned (.tuple #[v,r])/\Er r F/\wW ks X ls n F w w' v/\Below w.heap.size w w'
theorem gQ(vk vw vl:Value)(ks:List KV)(X:WV)(ls:List (List aQ))(n:Int)(w:World)(hk:Kl w vk ks)(hb:∀k∈ks,k.b.size<=9223372036854775807)(hw:Wl w vw X)(hl:wL w vl ls)(hs:Sd w):
 Calls Tryz.prog 10 #[vk,vw,vl,int i64 n] w (KJ ks X ls n w):=by
 have HH:=aj (gG hk hb hw hl hs);obtain⟨p1,q1,p2,q2,p3,q3,p4,q4,p5,q5,rfl⟩:=aX hw;obtain⟨pl,ql,rfl,cl1,cl2,-⟩:=hl;clear hk hb hw hs;go_enter Tryz.func10,Tryz.ntmps10;go_upto_region 1 with fail
 obtain⟨B0,X0,Z0⟩:=nH w (int i64 X.turn) (int i64 X.next) (int i64 X.wide) (int i64 X.high) (slice p1 X.gs.length q1) (slice p2 X.os.length q2) (slice p3 X.gold.length q3) (slice p4 X.us.length q4) (slice p5 X.qs.length q5);generalize ((w.alloc _).alloc _)=w0 at *;have bad:(n<0\/(ls.length:Int)<n)->True:=λ_=>trivial
 by_cases hn:n<0\/(ls.length:Int)<n
 case pos=>
  have HN:=aj hn;clear bad;obtain⟨z0,z1,z2,z3,z4,z5,z6,z7,z8⟩:=Z0.out.cells;obtain⟨t0,t1,t2,t3,t4,t5,t6,t7,t8⟩:=Z0.out.aU;have KZ:=aj (dG w0 (w.heap.size+1));obtain⟨y0,y1,y2,y3,y4,y5,y6,y7,y8⟩:=(Z0.out.jT).cells;by_cases h0:n<0
  case pos=>
   clear hn;go_wp2;clear z0 z1 z2 z3 z4 z5 z6 z7 z8 t0 t1 t2 t3 t4 t5 t6 t7 t8;generalize World.setCell _ _ _=w9 at *;refine bodyPost_ret (v:=.tuple #[.agg #[int i64 0,int i64 0,int i64 0,int i64 0,slice none 0 0,slice none 0 0,slice none 0 0,slice none 0 0,slice none 0 0],.iface 85 (int i64 1)]) (by simp[results,Tryz.results10,go_sem,y0,y1,y2,y3,y4,y5,y6,y7,y8]) rfl ⟨_,_,_,rfl,Er.no (by decide),.inl ⟨HN.out,rfl,rfl⟩,KZ.out.below B0.out B0.out.size (by omega)⟩
  case neg=>
   have h1:(ls.length:Int)<n:=by omega
   clear hn;go_wp2;clear z0 z1 z2 z3 z4 z5 z6 z7 z8 t0 t1 t2 t3 t4 t5 t6 t7 t8;generalize World.setCell _ _ _=w9 at *;refine bodyPost_ret (v:=.tuple #[.agg #[int i64 0,int i64 0,int i64 0,int i64 0,slice none 0 0,slice none 0 0,slice none 0 0,slice none 0 0,slice none 0 0],.iface 85 (int i64 1)]) (by simp[results,Tryz.results10,go_sem,y0,y1,y2,y3,y4,y5,y6,y7,y8]) rfl ⟨_,_,_,rfl,Er.no (by decide),.inl ⟨HN.out,rfl,rfl⟩,KZ.out.below B0.out B0.out.size (by omega)⟩
 obtain⟨c,rfl⟩:∃c:Nat,n=(c:Int):=⟨n.toNat,by omega⟩;have hcn:c<=ls.length:=by omega
 have hcn':¬(ls.length:Int)<(c:Int):=by omega
 have hcq:c<=ql:=by omega
 have Zn:(c:Int)<=(ql:Int):=by omega
 have hc0':¬(c:Int)<0:=by omega
 have CN:=aj hcn;clear hn bad;go_upto_region 3 with fail
 have BD:Hid (Below w0.heap.size w0 {w0 with drawn:=w0.drawn+1}):=(Below.refl _ _).drew;refine aF [(true,0),(true,1),(true,2),(true,3),(true,4),(false,5)] [(true,6),(true,7),(false,8),(false,9)] (λV=>Wx V w.heap.size (int i64 X.turn) (int i64 X.next) (int i64 X.wide) (int i64 X.high) (slice p1 X.gs.length q1) (slice p2 X.os.length q2) (slice p3 X.gold.length q3) (slice p4 X.us.length q4) (slice p5 X.qs.length q5)) (by kernel_rfl) (by kernel_rfl) (by kernel_rfl) (by decide+kernel) (by decide+kernel) (X0.out.below BD.out X0.out.lt) ?_;have B1:=aj (B0.out.trans (BD.out.mono B0.out.size));have X1:=aj (X0.out.below BD.out X0.out.lt);have Z1:=aj (Z0.out.below BD.out Z0.out.lt);generalize ({w0 with drawn:=w0.drawn+1}:World)=v1 at *;refine au rfl vk (by go_simp) (λV hV=>by go_simp) ?_;go_simp;refine au rfl (.agg #[int i64 X.turn,int i64 X.next,int i64 X.wide,int i64 X.high,slice p1 X.gs.length q1,slice p2 X.os.length q2,slice p3 X.gold.length q3,slice p4 X.us.length q4,slice p5 X.qs.length q5]) (by go_simp) (λV hV=>by obtain⟨x0,x1,x2,x3,x4,x5,x6,x7,x8⟩:=hV.cells;go_simp) ?_;go_simp;refine au rfl (slice pl ls.length ql) (by go_simp) (λV hV=>by go_simp) ?_;go_simp;refine au rfl (int i64 (c:Nat)) (by go_simp) (λV hV=>by go_simp) ?_;go_simp;refine au rfl (slice pl c ql) (by go_simp) (λV hV=>by go_simp) ?_;go_simp;refine aJ rfl 14 #[vk,.agg #[int i64 X.turn,int i64 X.next,int i64 X.wide,int i64 X.high,slice p1 X.gs.length q1,slice p2 X.os.length q2,slice p3 X.gold.length q3,slice p4 X.us.length q4,slice p5 X.qs.length q5],slice pl c ql] (by go_simp) (by go_simp) ?_;refine(wM vk _ _ ks X (ls.take c) v1 (HH.out.1.below B1.out) HH.out.2.1 (HH.out.2.2.1.below B1.out) ((HH.out.2.2.2.1.below B1.out).take CN.out) (HH.out.2.2.2.2.below B1.out)).mono ?_;rintro e v2 ⟨v,r,F,rfl,he,hp,hb⟩;obtain⟨i1,i2,i3,i4,a1,l1,b1,a2,l2,b2,a3,l3,b3,a4,l4,b4,a5,l5,b5,rfl⟩:=hp.shape;have B2:=aj (B1.out.trans (hb.mono B1.out.size));have Z2:=aj (Z1.out.below hb Z1.out.lt);have H:=aj (bg he hp);refine⟨_,rfl,X1.out.below hb X1.out.lt,?_⟩;clear he hp hb;go_simp;unfold aP;refine aI rfl (.agg #[int i64 i1,int i64 i2,int i64 i3,int i64 i4,slice a1 l1 b1,slice a2 l2 b2,slice a3 l3 b3,slice a4 l4 b4,slice a5 l5 b5]) (by go_simp) (λV hV=>by go_simp) ?_;go_simp;refine aI rfl r (by go_simp) (λV hV=>by go_simp) ?_;go_simp;obtain⟨z0,z1,z2,z3,z4,z5,z6,z7,z8⟩:=Z2.out.cells;obtain⟨t0,t1,t2,t3,t4,t5,t6,t7,t8⟩:=Z2.out.aU;have KZ:=aj (aY v2 (w.heap.size+1) (int i64 i1) (int i64 i2) (int i64 i3) (int i64 i4) (slice a1 l1 b1) (slice a2 l2 b2) (slice a3 l3 b3) (slice a4 l4 b4) (slice a5 l5 b5));have Z3:=aj (Z2.out.put (int i64 i1) (int i64 i2) (int i64 i3) (int i64 i4) (slice a1 l1 b1) (slice a2 l2 b2) (slice a3 l3 b3) (slice a4 l4 b4) (slice a5 l5 b5));refine dM rfl (((((((((v2.setCell ⟨w.heap.size+1,0,none⟩ (int i64 i1)).setCell ⟨w.heap.size+1,1,none⟩ (int i64 i2)).setCell ⟨w.heap.size+1,2,none⟩ (int i64 i3)).setCell ⟨w.heap.size+1,3,none⟩ (int i64 i4)).setCell ⟨w.heap.size+1,4,none⟩ (slice a1 l1 b1)).setCell ⟨w.heap.size+1,5,none⟩ (slice a2 l2 b2)).setCell ⟨w.heap.size+1,6,none⟩ (slice a3 l3 b3)).setCell ⟨w.heap.size+1,7,none⟩ (slice a4 l4 b4)).setCell ⟨w.heap.size+1,8,none⟩ (slice a5 l5 b5)) (by go_simp) (by go_simp) trivial ?_;go_simp;clear z0 z1 z2 z3 z4 z5 z6 z7 z8 t0 t1 t2 t3 t4 t5 t6 t7 t8;generalize World.setCell _ ⟨_,8,none⟩ _=v3 at *;refine aC rfl r v3 (by go_simp) (by go_simp) trivial ?_;go_simp;unfold aH;obtain⟨y0,y1,y2,y3,y4,y5,y6,y7,y8⟩:=Z3.out.cells;go_wp2;refine bodyPost_ret (v:=.tuple #[.agg #[int i64 i1,int i64 i2,int i64 i3,int i64 i4,slice a1 l1 b1,slice a2 l2 b2,slice a3 l3 b3,slice a4 l4 b4,slice a5 l5 b5],r]) (by simp[results,Tryz.results10,go_sem,y0,y1,y2,y3,y4,y5,y6,y7,y8]) rfl ⟨_,_,F,rfl,H.out.1,.inr ⟨c,rfl,CN.out,H.out.2.kp KZ.out Z1.out.lt B1.out.size⟩,KZ.out.below B2.out B2.out.size (by omega)⟩
end Go.Proofs.YtolfphmdmpehdaaGreatDoor
namespace Go.Proofs.YtolfphmdmpehdaaGreatDoor
open Go.ChangeShapes Go.WideShapes Go.ChangeAt Go.RowKit
theorem KN{H:Type}:∀d:DataW H,1<=Rows.uptoBulk d
 | .lit (.string bytes)=>by simp[Rows.uptoBulk]
 | .lit (.int _ _)=>by simp[Rows.uptoBulk]
 | .lit (.bool _)=>by simp[Rows.uptoBulk]
 | .lit (.float .f32 _)=>by simp[Rows.uptoBulk]
 | .lit (.float .f64 _)=>by simp[Rows.uptoBulk]
 | .lit .nil=>by simp[Rows.uptoBulk]
 | .nil=>by simp[Rows.uptoBulk]
 | .ptr d=>by simp[Rows.uptoBulk]
 | .slice _ _=>by simp[Rows.uptoBulk]
 | .agg _=>by simp[Rows.uptoBulk]
 | .iface _ _=>by simp[Rows.uptoBulk]
 | .map _=>by simp[Rows.uptoBulk]
 | .held _=>by simp[Rows.uptoBulk]
theorem wX{H:Type}:∀ds:List (DataW H),ds.length<=Rows.uptoBulkAll ds
 |[]=>by simp
 |d::ds=>by
  have h1:=KN d;have h2:=wX ds;simp only[Rows.uptoBulkAll,List.length_cons];omega
theorem lM{H:Type}(es sp:List (DataW H)):es.length<=Rows.uptoBulk (.slice es sp):=by
 have:=wX es;simp only[Rows.uptoBulk];omega
theorem in64_of_wf{n:Int}(h:(Lit.int i64 n).wf=true):Wd.In64 n:=by
 unfold Wd.In64;simp only[Lit.wf,Bool.and_eq_true,decide_eq_true_eq] at h;have h1:IntKind.i64.min= -9223372036854775808:=by decide
 have h2:IntKind.i64.max=9223372036854775807:=by decide
 omega
theorem lN{H:Type}{enc:TypeId×Value->H}{W:World}{base:Nat}{held:Bool}{fuel:Nat}{v:Value}{y:DataW H×List MemPlace}(h:DataW.trod enc Tryz.prog W base (λ_=>true) held fuel 23 [v]=some y):
 ∃zs,Ro W v zs/\(∀n∈zs,Wd.In64 n)/\zs.length<=Rows.uptoBulk y.1:=by
 rcases open_ints Tryz.underlying23 Tryz.underlying3 (by kernel_rfl) h with⟨hcs,rfl⟩|⟨x,l,c,zs,hcs,_,hl,hm,hz,rfl,hcell,hwz⟩
 ·simp at hcs
  subst hcs;exact⟨_,zO.ro (.inl ⟨rfl,rfl,rfl,rfl⟩),by simp,by simp⟩
 ·simp at hcs
  subst hcs;refine⟨_,zO.ro (zs:=zs) (.inr ⟨_,rfl,hl,hm,by simpa using hz,hcell,hwz⟩),λn hn=>in64_of_wf (hwz n (List.mem_of_mem_take hn)),?_⟩;have:=lM (H:=H) (lits .i64 (zs.take l)) (lits .i64 (zs.drop l));simpa[lits] using this
theorem OG:∃f0 f1 f2 f3 f4 f5 f6 f7:Field,Tryz.prog.underlying 74=some (.struct #[f0,f1,f2,f3,f4,f5,f6,f7])/\f0.offset=0/\f0.type=3/\f1.offset=1/\f1.type=3/\f2.offset=2/\f2.type=3/\f3.offset=3/\f3.type=3/\f4.offset=4/\f4.type=3/\f5.offset=5/\f5.type=3/\f6.offset=6/\f6.type=3/\f7.offset=7/\f7.type=3:=⟨_,_,_,_,_,_,_,_,Tryz.underlying74,rfl,rfl,rfl,rfl,rfl,rfl,rfl,rfl,rfl,rfl,rfl,rfl,rfl,rfl,rfl,rfl⟩
theorem EX{H:Type}{enc:TypeId×Value->H}{W:World}{base:Nat}{held:Bool}{fuel:Nat}{cs:List Value}{y:DataW H×List MemPlace}(h:DataW.trod enc Tryz.prog W base (λ_=>true) held fuel 74 cs=some y):
 ∃k:aB,cs=[.int .i64 k.id,.int .i64 k.ay,.int .i64 k.kind,.int .i64 k.at_,.int .i64 k.life,.int .i64 k.load,.int .i64 k.task,.int .i64 k.goal]/\∀n∈Wd.jP k,Wd.In64 n:=by
 obtain⟨f0,f1,f2,f3,f4,f5,f6,f7,he,o0,t0,o1,t1,o2,t2,o3,t3,o4,t4,o5,t5,o6,t6,o7,t7⟩:=OG;obtain⟨xs,m,-,-,hlen,hxl,hf⟩:=DataW.trod_struct he h;have qB:Tryz.prog.cellsOf 3=1:=by kernel_rfl
 have uI:Tryz.prog.cellsOf 74=8:=by kernel_rfl
 rw[uI] at hlen
 match cs,hlen with
 |[v0,v1,v2,v3,v4,v5,v6,v7],_=>
  have hx:xs.length=8:=hxl
  match xs,hx with
  |[x0,x1,x2,x3,x4,x5,x6,x7],_=>
   have g0:=hf 0 f0 rfl;rw[o0,t0,qB] at g0;have g1:=hf 1 f1 rfl;rw[o1,t1,qB] at g1;have g2:=hf 2 f2 rfl;rw[o2,t2,qB] at g2;have g3:=hf 3 f3 rfl;rw[o3,t3,qB] at g3;have g4:=hf 4 f4 rfl;rw[o4,t4,qB] at g4;have g5:=hf 5 f5 rfl;rw[o5,t5,qB] at g5;have g6:=hf 6 f6 rfl;rw[o6,t6,qB] at g6;have g7:=hf 7 f7 rfl;rw[o7,t7,qB] at g7;obtain⟨m0,e0,-,w0⟩:=DataW.trod_int Tryz.underlying3 g0;obtain⟨m1,e1,-,w1⟩:=DataW.trod_int Tryz.underlying3 g1;obtain⟨m2,e2,-,w2⟩:=DataW.trod_int Tryz.underlying3 g2;obtain⟨m3,e3,-,w3⟩:=DataW.trod_int Tryz.underlying3 g3;obtain⟨m4,e4,-,w4⟩:=DataW.trod_int Tryz.underlying3 g4;obtain⟨m5,e5,-,w5⟩:=DataW.trod_int Tryz.underlying3 g5;obtain⟨m6,e6,-,w6⟩:=DataW.trod_int Tryz.underlying3 g6;obtain⟨m7,e7,-,w7⟩:=DataW.trod_int Tryz.underlying3 g7;simp at e0 e1 e2 e3 e4 e5 e6 e7;subst e0 e1 e2 e3 e4 e5 e6 e7;refine⟨⟨m0,m1,m2,m3,m4,m5,m6,m7⟩,rfl,?_⟩;intro n hn;simp only[Wd.jP,List.mem_cons,List.not_mem_nil,or_false] at hn;rcases hn with rfl|rfl|rfl|rfl|rfl|rfl|rfl|rfl
   ·exact in64_of_wf w0
   ·exact in64_of_wf w1
   ·exact in64_of_wf w2
   ·exact in64_of_wf w3
   ·exact in64_of_wf w4
   ·exact in64_of_wf w5
   ·exact in64_of_wf w6
   ·exact in64_of_wf w7
theorem zG{H:Type}{enc:TypeId×Value->H}{W:World}{base:Nat}{held:Bool}{fuel:Nat}{v:Value}{y:DataW H×List MemPlace}(h:DataW.trod enc Tryz.prog W base (λ_=>true) held fuel 26 [v]=some y):
 ∃ks:List aB,kP W v ks/\(∀k∈ks,∀n∈Wd.jP k,Wd.In64 n)/\ks.length<=Rows.uptoBulk y.1:=by
 have uI:Tryz.prog.cellsOf 74=8:=by kernel_rfl
 rcases Go.Deep.open_slice Tryz.underlying26 h with⟨hcs,-⟩|⟨a,len,cap,m,q,D,Pl,hcs,hb,hl,hm,hmm,rfl,hx⟩
 ·simp at hcs
  subst hcs;exact⟨[],⟨none,0,rfl,Nat.le_refl _,by omega,λh=>absurd rfl h⟩,by simp,by simp⟩
 ·simp at hcs
  subst hcs;have hlm:len<=m:=by rw[hmm];simp;exact hl
  have each:∀i,i<len->∃k:aB,dH W (a.add (i*8)) k/\(∀n∈Wd.jP k,Wd.In64 n):=by
   intro i hi;obtain⟨cs',h1,h2⟩:=hx i (by omega);obtain⟨k,rfl,hk⟩:=EX h2;rw[uI] at h1;obtain⟨-,-,hcell⟩:=World.cells?_some h1;refine⟨k,?_,hk⟩;generalize a.add (i*8)=y at *;exact⟨hcell 0 (by decide),hcell 1 (by decide),hcell 2 (by decide),hcell 3 (by decide),hcell 4 (by decide),hcell 5 (by decide),hcell 6 (by decide),hcell 7 (by decide)⟩
  have inh:Inhabited aB:=⟨⟨0,0,0,0,0,0,0,0⟩⟩;obtain⟨q,hq⟩:=Go.Deep.choose_lt each;refine⟨(List.range len).map q,⟨some a,cap,by simp,by simpa using hl,by unfold maxLen at hm;omega,λhn=>⟨a,rfl,?_,λi k hk=>?_⟩⟩,?_,?_⟩
  ·have h0:0<len:=by
    rcases Nat.eq_zero_or_pos len with h|h
    ·subst h;simp at hn
    ·exact h
   have:=(hq 0 h0).1.lt;rwa[add_block] at this
  ·have hi:i<len:=by
    have:=(List.getElem?_eq_some_iff.1 hk).1;simpa using this
   rw[List.getElem?_map,List.getElem?_range hi] at hk;injection hk with hk
   subst hk;exact(hq i hi).1
  ·intro k hk
   obtain⟨i,hi,rfl⟩:=List.mem_map.1 hk;exact(hq i (List.mem_range.1 hi)).2
  ·have:=lM ((List.range len).map D) ((List.range (m-len)).map λj=>D (len+j))
   simpa using this
theorem OH:∃f0 f1 f2 f3:Field,Tryz.prog.underlying 93=some (.struct #[f0,f1,f2,f3])/\f0.offset=0/\f0.type=3/\f1.offset=1/\f1.type=3/\f2.offset=2/\f2.type=3/\f3.offset=3/\f3.type=3:=⟨_,_,_,_,Tryz.underlying93,rfl,rfl,rfl,rfl,rfl,rfl,rfl,rfl⟩
theorem EZ{H:Type}{enc:TypeId×Value->H}{W:World}{base:Nat}{held:Bool}{fuel:Nat}{cs:List Value}{y:DataW H×List MemPlace}(h:DataW.trod enc Tryz.prog W base (λ_=>true) held fuel 93 cs=some y):
 ∃k:aS,cs=[.int .i64 k.ay,.int .i64 k.unit,.int .i64 k.kind,.int .i64 k.left]/\∀n∈Wd.jQ k,Wd.In64 n:=by
 obtain⟨f0,f1,f2,f3,he,o0,t0,o1,t1,o2,t2,o3,t3⟩:=OH;obtain⟨xs,m,-,-,hlen,hxl,hf⟩:=DataW.trod_struct he h;have qB:Tryz.prog.cellsOf 3=1:=by kernel_rfl
 have uI:Tryz.prog.cellsOf 93=4:=by kernel_rfl
 rw[uI] at hlen
 match cs,hlen with
 |[v0,v1,v2,v3],_=>
  have hx:xs.length=4:=hxl
  match xs,hx with
  |[x0,x1,x2,x3],_=>
   have g0:=hf 0 f0 rfl;rw[o0,t0,qB] at g0;have g1:=hf 1 f1 rfl;rw[o1,t1,qB] at g1;have g2:=hf 2 f2 rfl;rw[o2,t2,qB] at g2;have g3:=hf 3 f3 rfl;rw[o3,t3,qB] at g3;obtain⟨m0,e0,-,w0⟩:=DataW.trod_int Tryz.underlying3 g0;obtain⟨m1,e1,-,w1⟩:=DataW.trod_int Tryz.underlying3 g1;obtain⟨m2,e2,-,w2⟩:=DataW.trod_int Tryz.underlying3 g2;obtain⟨m3,e3,-,w3⟩:=DataW.trod_int Tryz.underlying3 g3;simp at e0 e1 e2 e3;subst e0 e1 e2 e3;refine⟨⟨m0,m1,m2,m3⟩,rfl,?_⟩;intro n hn;simp only[Wd.jQ,List.mem_cons,List.not_mem_nil,or_false] at hn;rcases hn with rfl|rfl|rfl|rfl
   ·exact in64_of_wf w0
   ·exact in64_of_wf w1
   ·exact in64_of_wf w2
   ·exact in64_of_wf w3
theorem zH{H:Type}{enc:TypeId×Value->H}{W:World}{base:Nat}{held:Bool}{fuel:Nat}{v:Value}{y:DataW H×List MemPlace}(h:DataW.trod enc Tryz.prog W base (λ_=>true) held fuel 27 [v]=some y):
 ∃ks:List aS,KT W v ks/\(∀k∈ks,∀n∈Wd.jQ k,Wd.In64 n)/\ks.length<=Rows.uptoBulk y.1:=by
 have uI:Tryz.prog.cellsOf 93=4:=by kernel_rfl
 rcases Go.Deep.open_slice Tryz.underlying27 h with⟨hcs,-⟩|⟨a,len,cap,m,q,D,Pl,hcs,hb,hl,hm,hmm,rfl,hx⟩
 ·simp at hcs
  subst hcs;exact⟨[],⟨none,0,rfl,Nat.le_refl _,by omega,λh=>absurd rfl h⟩,by simp,by simp⟩
 ·simp at hcs
  subst hcs;have hlm:len<=m:=by rw[hmm];simp;exact hl
  have each:∀i,i<len->∃k:aS,kR W (a.add (i*4)) k/\(∀n∈Wd.jQ k,Wd.In64 n):=by
   intro i hi;obtain⟨cs',h1,h2⟩:=hx i (by omega);obtain⟨k,rfl,hk⟩:=EZ h2;rw[uI] at h1;obtain⟨-,-,hcell⟩:=World.cells?_some h1;refine⟨k,?_,hk⟩;generalize a.add (i*4)=y at *;exact⟨hcell 0 (by decide),hcell 1 (by decide),hcell 2 (by decide),hcell 3 (by decide)⟩
  have inh:Inhabited aS:=⟨⟨0,0,0,0⟩⟩;obtain⟨q,hq⟩:=Go.Deep.choose_lt each;refine⟨(List.range len).map q,⟨some a,cap,by simp,by simpa using hl,by unfold maxLen at hm;omega,λhn=>⟨a,rfl,?_,λi k hk=>?_⟩⟩,?_,?_⟩
  ·have h0:0<len:=by
    rcases Nat.eq_zero_or_pos len with h|h
    ·subst h;simp at hn
    ·exact h
   have:=(hq 0 h0).1.lt;rwa[add_block] at this
  ·have hi:i<len:=by
    have:=(List.getElem?_eq_some_iff.1 hk).1;simpa using this
   rw[List.getElem?_map,List.getElem?_range hi] at hk;injection hk with hk
   subst hk;exact(hq i hi).1
  ·intro k hk
   obtain⟨i,hi,rfl⟩:=List.mem_map.1 hk;exact(hq i (List.mem_range.1 hi)).2
  ·have:=lM ((List.range len).map D) ((List.range (m-len)).map λj=>D (len+j))
   simpa using this
theorem zI:∃f0 f1 f2 f3 f4 f5:Field,Tryz.prog.underlying 29=some (.struct #[f0,f1,f2,f3,f4,f5])/\f0.offset=0/\f0.type=3/\f1.offset=1/\f1.type=3/\f2.offset=2/\f2.type=25/\f3.offset=6/\f3.type=23/\f4.offset=7/\f4.type=26/\f5.offset=8/\f5.type=27:=⟨_,_,_,_,_,_,Tryz.underlying29,rfl,rfl,rfl,rfl,rfl,rfl,rfl,rfl,rfl,rfl,rfl,rfl⟩
theorem zJ:∃f0 f1 f2 f3:Field,Tryz.prog.underlying 25=some (.struct #[f0,f1,f2,f3])/\f0.offset=0/\f0.type=3/\f1.offset=1/\f1.type=3/\f2.offset=2/\f2.type=23/\f3.offset=3/\f3.type=23:=⟨_,_,_,_,Tryz.underlying25,rfl,rfl,rfl,rfl,rfl,rfl,rfl,rfl⟩
theorem zK{w:World}{v:Value}{xs:List Int}(h:Ro w v xs):Wd.In64 (xs.length:Int):=by
 obtain⟨a,c,-,h1,h2,-⟩:=h;unfold Wd.In64;omega
theorem uP{H:Type}{enc:TypeId×Value->H}{W:World}{base:Nat}{held:Bool}{fuel:Nat}{cs:List Value}{y:DataW H×List MemPlace}(h:DataW.trod enc Tryz.prog W base (λ_=>true) held fuel 29 cs=some y):
 ∃X:WV,Wl W (.agg cs.toArray) X/\(∀n∈Wd.nums X,Wd.In64 n)/\(Rows.uptoBulk y.1<=1048576->iJ X):=by
 obtain⟨f0,f1,f2,f3,f4,f5,he,o0,t0,o1,t1,o2,t2,o3,t3,o4,t4,o5,t5⟩:=zI;obtain⟨xs,m,-,rfl,hlen,hxl,hf⟩:=DataW.trod_struct he h;have qB:Tryz.prog.cellsOf 3=1:=by kernel_rfl
 have Zo:Tryz.prog.cellsOf 25=4:=by kernel_rfl
 have Xm:Tryz.prog.cellsOf 23=1:=by kernel_rfl
 have Zp:Tryz.prog.cellsOf 26=1:=by kernel_rfl
 have Zq:Tryz.prog.cellsOf 27=1:=by kernel_rfl
 have uI:Tryz.prog.cellsOf 29=9:=by kernel_rfl
 rw[uI] at hlen
 match cs,hlen with
 |[v0,v1,v2,v3,v4,v5,v6,v7,v8],_=>
  have hx:xs.length=6:=hxl
  match xs,hx with
  |[x0,x1,x2,x3,x4,x5],_=>
   have g0:=hf 0 f0 rfl;rw[o0,t0,qB] at g0;have g1:=hf 1 f1 rfl;rw[o1,t1,qB] at g1;have g2:=hf 2 f2 rfl;rw[o2,t2,Zo] at g2;have g3:=hf 3 f3 rfl;rw[o3,t3,Xm] at g3;have g4:=hf 4 f4 rfl;rw[o4,t4,Zp] at g4;have g5:=hf 5 f5 rfl;rw[o5,t5,Zq] at g5;obtain⟨m0,e0,-,w0⟩:=DataW.trod_int Tryz.underlying3 g0;obtain⟨m1,e1,-,w1⟩:=DataW.trod_int Tryz.underlying3 g1;obtain⟨r0,r1,r2,r3,he',p0,s0,p1,s1,p2,s2,p3,s3⟩:=zJ;obtain⟨ys,m',-,rfl,hlen',hyl,hg⟩:=DataW.trod_struct he' g2;have hy:ys.length=4:=hyl
   match ys,hy with
   |[y0,y1,y2,y3],_=>
    have k0:=hg 0 r0 rfl;rw[p0,s0,qB] at k0;have k1:=hg 1 r1 rfl;rw[p1,s1,qB] at k1;have k2:=hg 2 r2 rfl;rw[p2,s2,Xm] at k2;have k3:=hg 3 r3 rfl;rw[p3,s3,Xm] at k3;obtain⟨m2,e2,-,w2⟩:=DataW.trod_int Tryz.underlying3 k0;obtain⟨m3,e3,-,w3⟩:=DataW.trod_int Tryz.underlying3 k1;simp at e0 e1 e2 e3;subst e0 e1 e2 e3;obtain⟨gs,hgs,igs,bgs⟩:=lN k2;obtain⟨os,hos,Zr,bos⟩:=lN k3;obtain⟨gold,Qb,UO,Yg⟩:=lN g3;obtain⟨us,hus,Zt,bus⟩:=zG g4;obtain⟨qs,K_,Zu,bqs⟩:=zH g5;have lu:Wd.In64 (us.length:Int):=by
     obtain⟨a,c,-,h1,h2,-⟩:=hus;unfold Wd.In64;omega
    have lq:Wd.In64 (qs.length:Int):=by
     obtain⟨a,c,-,h1,h2,-⟩:=K_;unfold Wd.In64;omega
    refine⟨⟨m0,m1,m2,m3,gs,os,gold,us,qs⟩,⟨_,_,_,_,_,rfl,hgs,hos,Qb,hus,K_⟩,?_,?_⟩
    ·intro n hn
     simp only[Wd.nums,List.mem_append,List.mem_cons,List.not_mem_nil,or_false,List.mem_flatMap] at hn;rcases hn with(((((rfl|rfl|rfl|rfl)|(rfl|hn))|(rfl|hn))|(rfl|hn))|(rfl|⟨u,hu,hn⟩))|(rfl|⟨u,hu,hn⟩)
     ·exact in64_of_wf w0
     ·exact in64_of_wf w1
     ·exact in64_of_wf w2
     ·exact in64_of_wf w3
     ·exact zK hgs
     ·exact igs _ hn
     ·exact zK hos
     ·exact Zr _ hn
     ·exact zK Qb
     ·exact UO _ hn
     ·exact lu
     ·exact Zt u hu n hn
     ·exact lq
     ·exact Zu u hu n hn
    ·intro hb
     simp only[Rows.uptoBulk,Rows.uptoBulkAll,List.map_cons,List.map_nil] at hb;exact⟨by simp only;omega,by simp only;omega,by simp only;omega,by simp only;omega,by simp only;omega⟩
theorem KO{H:Type}{enc:TypeId×Value->H}{W:World}{base b0:Nat}{held:Bool}{v:Value}{d:DataW H}{p:List MemPlace}(hv:Value.okWide Tryz.prog W .any b0 29 v)(h:DataW.Trod enc Tryz.prog W base (λ_=>true) held 29 v d p):
 ∃X:WV,Wl W v X/\(∀n∈Wd.nums X,Wd.In64 n)/\(Rows.uptoBulk d<=1048576->iJ X):=by
 obtain⟨cs,rfl,hsz⟩:=okWide_struct Tryz.underlying29 hv;obtain⟨fuel,hf⟩:=h;have:=uP hf;simpa[Value.cells] using this
theorem wY:∃f0 f1 f2 f3 f4 f5 f6 f7 f8 f9 f10:Field,Tryz.prog.underlying 77=some (.struct #[f0,f1,f2,f3,f4,f5,f6,f7,f8,f9,f10])/\
 f0.offset=0/\f0.type=9/\f1.offset=1/\f1.type=3/\f2.offset=2/\f2.type=3/\f3.offset=3/\f3.type=3/\f4.offset=4/\f4.type=3/\f5.offset=5/\f5.type=3/\f6.offset=6/\f6.type=3/\f7.offset=7/\f7.type=3/\f8.offset=8/\f8.type=3/\f9.offset=9/\f9.type=4/\f10.offset=10/\f10.type=4:=⟨_,_,_,_,_,_,_,_,_,_,_,Tryz.underlying77,rfl,rfl,rfl,rfl,rfl,rfl,rfl,rfl,rfl,rfl,rfl,rfl,rfl,rfl,rfl,rfl,rfl,rfl,rfl,rfl,rfl,rfl⟩
theorem E_{H:Type}{enc:TypeId×Value->H}{W:World}{base:Nat}{held:Bool}{fuel:Nat}{cs:List Value}{y:DataW H×List MemPlace}(h:DataW.trod enc Tryz.prog W base (λ_=>true) held fuel 77 cs=some y):
 ∃k:KV,cs=[.string k.b,.int .i64 k.n0,.int .i64 k.n1,.int .i64 k.n2,.int .i64 k.n3,.int .i64 k.n4,.int .i64 k.n5,.int .i64 k.n6,.int .i64 k.n7,.bool k.f,.bool k.t]/\k.b.size<=maxLen:=by
 obtain⟨f0,f1,f2,f3,f4,f5,f6,f7,f8,f9,f10,he,o0,t0,o1,t1,o2,t2,o3,t3,o4,t4,o5,t5,o6,t6,o7,t7,o8,t8,o9,t9,o10,t10⟩:=wY;obtain⟨xs,n,-,-,hlen,hxl,hf⟩:=DataW.trod_struct he h;have cs9:Tryz.prog.cellsOf 9=1:=by kernel_rfl
 have cs3:Tryz.prog.cellsOf 3=1:=by kernel_rfl
 have cs4:Tryz.prog.cellsOf 4=1:=by kernel_rfl
 have uI:Tryz.prog.cellsOf 77=11:=by kernel_rfl
 rw[uI] at hlen
 match cs,hlen with
 |[v0,v1,v2,v3,v4,v5,v6,v7,v8,v9,v10],_=>
  have hx11:xs.length=11:=hxl
  match xs,hx11 with
  |[x0,x1,x2,x3,x4,x5,x6,x7,x8,x9,x10],_=>
   have g0:=hf 0 f0 rfl;rw[o0,t0,cs9] at g0;have g1:=hf 1 f1 rfl;rw[o1,t1,cs3] at g1;have g2:=hf 2 f2 rfl;rw[o2,t2,cs3] at g2;have g3:=hf 3 f3 rfl;rw[o3,t3,cs3] at g3;have g4:=hf 4 f4 rfl;rw[o4,t4,cs3] at g4;have g5:=hf 5 f5 rfl;rw[o5,t5,cs3] at g5;have g6:=hf 6 f6 rfl;rw[o6,t6,cs3] at g6;have g7:=hf 7 f7 rfl;rw[o7,t7,cs3] at g7;have g8:=hf 8 f8 rfl;rw[o8,t8,cs3] at g8;have g9:=hf 9 f9 rfl;rw[o9,t9,cs4] at g9;have g10:=hf 10 f10 rfl;rw[o10,t10,cs4] at g10;obtain⟨b,e0,-,hb⟩:=DataW.trod_string Tryz.underlying9 g0;obtain⟨m1,e1,-,-⟩:=DataW.trod_int Tryz.underlying3 g1;obtain⟨m2,e2,-,-⟩:=DataW.trod_int Tryz.underlying3 g2;obtain⟨m3,e3,-,-⟩:=DataW.trod_int Tryz.underlying3 g3;obtain⟨m4,e4,-,-⟩:=DataW.trod_int Tryz.underlying3 g4;obtain⟨m5,e5,-,-⟩:=DataW.trod_int Tryz.underlying3 g5;obtain⟨m6,e6,-,-⟩:=DataW.trod_int Tryz.underlying3 g6;obtain⟨m7,e7,-,-⟩:=DataW.trod_int Tryz.underlying3 g7;obtain⟨m8,e8,-,-⟩:=DataW.trod_int Tryz.underlying3 g8;obtain⟨bf,e9,-⟩:=DataW.trod_bool Tryz.underlying4 g9;obtain⟨bt,e10,-⟩:=DataW.trod_bool Tryz.underlying4 g10;simp at e0 e1 e2 e3 e4 e5 e6 e7 e8 e9 e10;subst e0 e1 e2 e3 e4 e5 e6 e7 e8 e9 e10;exact⟨⟨b,m1,m2,m3,m4,m5,m6,m7,m8,bf,bt⟩,rfl,hb⟩
theorem zL{H:Type}{enc:TypeId×Value->H}{W:World}{base:Nat}{held:Bool}{fuel:Nat}{v:Value}{y:DataW H×List MemPlace}(h:DataW.trod enc Tryz.prog W base (λ_=>true) held fuel 22 [v]=some y):
 ∃ks:List KV,Kl W v ks/\∀k∈ks,k.b.size<=maxLen:=by
 have uI:Tryz.prog.cellsOf 77=11:=by kernel_rfl
 rcases Go.Deep.open_slice Tryz.underlying22 h with⟨hcs,-⟩|⟨a,len,cap,m,n,D,Pl,hcs,hb,hl,hm,hmm,-,hx⟩
 ·simp at hcs
  subst hcs;exact⟨[],⟨none,0,rfl,Nat.le_refl _,by omega,λh=>absurd rfl h⟩,by simp⟩
 ·simp at hcs
  subst hcs;have hlm:len<=m:=by rw[hmm];simp;exact hl
  have each:∀i,i<len->∃k:KV,Kc W (a.add (i*11)) k/\k.b.size<=maxLen:=by
   intro i hi;obtain⟨cs',h1,h2⟩:=hx i (by omega);obtain⟨k,rfl,hk⟩:=E_ h2;rw[uI] at h1;obtain⟨-,-,hcell⟩:=World.cells?_some h1;refine⟨k,?_,hk⟩;generalize a.add (i*11)=y at *;exact⟨hcell 0 (by decide),hcell 1 (by decide),hcell 2 (by decide),hcell 3 (by decide),hcell 4 (by decide),hcell 5 (by decide),hcell 6 (by decide),hcell 7 (by decide),hcell 8 (by decide),hcell 9 (by decide),hcell 10 (by decide)⟩
  have inh:Inhabited KV:=⟨⟨ByteArray.empty,0,0,0,0,0,0,0,0,false,false⟩⟩;obtain⟨q,hq⟩:=Go.Deep.choose_lt each;refine⟨(List.range len).map q,⟨some a,cap,by simp,by simpa using hl,by unfold maxLen at hm;omega,λhn=>⟨a,rfl,?_,λi k hk=>?_⟩⟩,?_⟩
  ·have h0:0<len:=by
    rcases Nat.eq_zero_or_pos len with h|h
    ·subst h;simp at hn
    ·exact h
   have:=(hq 0 h0).1.lt;rwa[add_block] at this
  ·have hi:i<len:=by
    have:=(List.getElem?_eq_some_iff.1 hk).1;simpa using this
   rw[List.getElem?_map,List.getElem?_range hi] at hk;injection hk with hk
   subst hk;exact(hq i hi).1
  ·intro k hk
   obtain⟨i,hi,rfl⟩:=List.mem_map.1 hk;exact(hq i (List.mem_range.1 hi)).2
theorem KQ{H:Type}{enc:TypeId×Value->H}{W:World}{base b0:Nat}{held:Bool}{v:Value}{d:DataW H}{p:List MemPlace}(hv:Value.okWide Tryz.prog W .any b0 22 v)(h:DataW.Trod enc Tryz.prog W base (λ_=>true) held 22 v d p):
 ∃ks:List KV,Kl W v ks/\∀k∈ks,k.b.size<=maxLen:=by
 obtain⟨a,len,cap,rfl⟩:=okWide_slice Tryz.underlying22 hv;obtain⟨fuel,hf⟩:=h;exact zL hf
end Go.Proofs.YtolfphmdmpehdaaGreatDoor
namespace Go.Proofs.YtolfphmdmpehdaaGreatDoor.replaySeeks
open Go.RowKit Go.Proofs.YtolfphmdmpehdaaGreatDoor.So
theorem jg{F:Int}{w w':World}{v r:Value}(hs:wW SK S3 [[],[]] 1 F w w' v)(he:Er r F):r=.nilIface/\∃A:WV,A.turn=1/\Wo w' w.heap.size v A:=by
 rcases hs with⟨h,-⟩|⟨c,hc,-,hs⟩
 ·simp at h
 obtain rfl:c=1:=by omega
 rcases hs with⟨hn,-,h1|h1|⟨-,-,n,Z,l,p,hl',hf⟩⟩|⟨rfl,h1,h2,B,h3,h4⟩
 ·exact absurd Ky h1.1
 ·have:=h1.2.1;simp at this
 ·obtain⟨q1,q2⟩:=g_ Ky p
  have hn2:n<1:=(List.getElem?_eq_some_iff.1 hl').1;have h0:n=0:=by omega
  subst h0;have hl0:l=[]:=by simp at hl';exact hl'
  subst hl0;have ht:S3.turn=0:=rfl;rw[ht] at q2;exact absurd ((zy q1 (by omega)).symm.trans hf).symm hn
 ·refine⟨AY he,B,?_,h4⟩
  obtain⟨-,q2⟩:=g_ Ky h3;have ht:S3.turn=0:=rfl;rw[ht] at q2;rw[q2];rfl
theorem OJ{ks:List KV}{X Y:WV}{ls:List (List aQ)}{xs:List Int}(h:sK ks X ls xs){i:Nat}(hi:i<xs.length)(p:dF ks X ls i Y):xs[i]? =some ((Wd.sum (Wd.enc Y):Nat):Int):=by
 obtain⟨Z,p',e⟩:=h i _ (List.getElem?_eq_getElem hi);rw[List.getElem?_eq_getElem hi,e,sF p' p]
structure Fq(w:World)(X:WV)(a1 a2 a3 a4 a5:Value)(z:Nat)(b1 b2 b3 b4 b5:Value)(V:World):Prop where
 b:Below w.heap.size w V
 x:Wx V w.heap.size (int i64 X.turn) (int i64 X.next) (int i64 X.wide) (int i64 X.high) a1 a2 a3 a4 a5
 q:Wx V z (int i64 S3.turn) (int i64 S3.next) (int i64 S3.wide) (int i64 S3.high) b1 b2 b3 b4 b5
 l:Wl V (.agg #[int i64 S3.turn,int i64 S3.next,int i64 S3.wide,int i64 S3.high,b1,b2,b3,b4,b5]) S3
 s:Sd V
theorem Fq.below{w:World}{X:WV}{a1 a2 a3 a4 a5:Value}{z:Nat}{b1 b2 b3 b4 b5:Value}{V V':World}(h:Fq w X a1 a2 a3 a4 a5 z b1 b2 b3 b4 b5 V)(hb:Below V.heap.size V V'):Fq w X a1 a2 a3 a4 a5 z b1 b2 b3 b4 b5 V':=⟨h.b.trans (hb.mono h.b.size),h.x.below hb h.x.lt,h.q.below hb h.q.lt,h.l.below hb,h.s.below hb⟩
def Fact(w:World)(X:WV)(a1 a2 a3 a4 a5 v11 v12:Value)(V:World):Prop:=v12=.nilIface/\∃bf,v11=.pointer (some ⟨bf,0,none⟩)/\V.cell? ⟨bf,0,none⟩=some (int i64 1)/\Below w.heap.size w V/\Wx V w.heap.size (int i64 X.turn) (int i64 X.next) (int i64 X.wide) (int i64 X.high) a1 a2 a3 a4 a5
theorem walk(vk:Value)(ks:List KV)(vw:Value)(X:WV)(vl:Value)(ls:List (List aQ))(n:Int)(w:World)
 (h0:Kl w vk ks/\∀k∈ks,k.b.size<=maxLen) (h1:Wl w vw X/\∀n∈Wd.nums X,Wd.In64 n) (h2:wL w vl ls) (hsd:Sd w):
 Calls Tryz.prog 3 #[vk,vw,vl,int i64 n] w λe w'=>e=.returned (.bool true)/\Below w.heap.size w w':=by
 have K:Hid (Kl w vk ks/\∀k∈ks,k.b.size<=9223372036854775807):=⟨h0.1,λk hk=>by have:=h0.2 k hk;unfold maxLen at this;omega⟩;have H:=aj (fZ h1.1 h2 hsd);obtain⟨p1,q1,p2,q2,p3,q3,p4,q4,p5,q5,rfl⟩:=aX h1.1;obtain⟨pl,ql,rfl,lc1,lc2,-⟩:=h2;clear hsd h0 h1;go_enter Tryz.func3,Tryz.ntmps3;go_upto_region 1 with fail
 have B0:=aj ((Below.refl w.heap.size w).alloc (Nat.le_refl _) (Obj.cells #[int i64 X.turn,int i64 X.next,int i64 X.wide,int i64 X.high,slice p1 X.gs.length q1,slice p2 X.os.length q2,slice p3 X.gold.length q3,slice p4 X.us.length q4,slice p5 X.qs.length q5] 29));have X0:=aj (Wx.new (w:=w) (int i64 X.turn) (int i64 X.next) (int i64 X.wide) (int i64 X.high) (slice p1 X.gs.length q1) (slice p2 X.os.length q2) (slice p3 X.gold.length q3) (slice p4 X.us.length q4) (slice p5 X.qs.length q5) rfl);generalize w.alloc _=w0 at *;go_wp2_with fail
 refine(EP w0).mono ?_;rintro e w1 ⟨u,rfl,ho,hb⟩;obtain⟨m1,n1,m2,n2,m3,n3,m4,n4,m5,n5,rfl⟩:=kF ho;have LS:=aj ho.l;have B1:=aj (B0.out.trans (hb.mono B0.out.size));have X1:=aj (X0.out.below hb X0.out.lt);clear ho hb B0 X0;go_upto_region 2 with fail
 have BA:=aj ((Below.refl w1.heap.size w1).alloc (Nat.le_refl _) (Obj.cells #[int i64 S3.turn,int i64 S3.next,int i64 S3.wide,int i64 S3.high,slice m1 S3.gs.length n1,slice m2 S3.os.length n2,slice m3 S3.gold.length n3,slice m4 S3.us.length n4,slice m5 S3.qs.length n5] 29));have W2:=aj (Wx.new (w:=w1) (int i64 S3.turn) (int i64 S3.next) (int i64 S3.wide) (int i64 S3.high) (slice m1 S3.gs.length n1) (slice m2 S3.os.length n2) (slice m3 S3.gold.length n3) (slice m4 S3.us.length n4) (slice m5 S3.qs.length n5) rfl);obtain⟨z,hz⟩:∃z,w1.heap.size=z:=⟨_,rfl⟩;have F:Hid (Fq w X (slice p1 X.gs.length q1) (slice p2 X.os.length q2) (slice p3 X.gold.length q3) (slice p4 X.us.length q4) (slice p5 X.qs.length q5) z (slice m1 S3.gs.length n1) (slice m2 S3.os.length n2) (slice m3 S3.gold.length n3) (slice m4 S3.us.length n4) (slice m5 S3.qs.length n5) (w1.alloc (Obj.cells #[int i64 S3.turn,int i64 S3.next,int i64 S3.wide,int i64 S3.high,slice m1 S3.gs.length n1,slice m2 S3.os.length n2,slice m3 S3.gold.length n3,slice m4 S3.us.length n4,slice m5 S3.qs.length n5] 29))):=by
  rw[<-hz];have b2:=B1.out.trans (BA.out.mono B1.out.size);exact⟨b2,X1.out.below BA.out X1.out.lt,W2.out,LS.out.below BA.out,H.out.2.2.below b2⟩
 rw[hz];generalize w1.alloc _=w2 at *;clear B1 X1 BA W2 LS hz;go_upto_region 4 with fail
 go_cut [11,12] (λv11 v12 V=>Fact w X (slice p1 X.gs.length q1) (slice p2 X.os.length q2) (slice p3 X.gold.length q3) (slice p4 X.us.length q4) (slice p5 X.qs.length q5) v11 v12 V)
 case first=>
  refine qG (.read 1 (.three 0 (.two 2 (.two 3 (.read 4 (.read 5 (.read 6 (.one 7 (.one 8 .leaf))))) 7 (.one 3 (.read 4 (.read 5 (.read 6 (.one 8 .leaf)))))) 7 (.one 2 (.one 3 (.read 4 (.read 5 (.read 6 (.one 8 .leaf))))))) 2 (.two 0 (.two 3 (.read 4 (.read 5 (.read 6 (.one 7 (.one 8 .leaf))))) 7 (.one 3 (.read 4 (.read 5 (.read 6 (.one 8 .leaf)))))) 7 (.one 0 (.one 3 (.read 4 (.read 5 (.read 6 (.one 8 .leaf))))))) 7 (.two 0 (.one 2 (.one 3 (.read 4 (.read 5 (.read 6 (.one 8 .leaf)))))) 2 (.one 0 (.one 3 (.read 4 (.read 5 (.read 6 (.one 8 .leaf))))))))) [(false,0),(false,1),(false,2),(false,3),(false,4),(false,5),(false,6),(false,7),(false,8)] [(false,9)] (λV=>Wx V z (int i64 S3.turn) (int i64 S3.next) (int i64 S3.wide) (int i64 S3.high) (slice m1 S3.gs.length n1) (slice m2 S3.os.length n2) (slice m3 S3.gold.length n3) (slice m4 S3.us.length n4) (slice m5 S3.qs.length n5)) (by kernel_rfl) (by kernel_rfl) (by kernel_rfl) (by decide+kernel) (by decide+kernel) F.out.q ?_;replace F:Hid (Fq w X (slice p1 X.gs.length q1) (slice p2 X.os.length q2) (slice p3 X.gold.length q3) (slice p4 X.us.length q4) (slice p5 X.qs.length q5) z (slice m1 S3.gs.length n1) (slice m2 S3.os.length n2) (slice m3 S3.gold.length n3) (slice m4 S3.us.length n4) (slice m5 S3.qs.length n5) {w2 with drawn:=w2.drawn+1}):=F.out.below (Below.refl _ _).drew;generalize ({w2 with drawn:=w2.drawn+1}:World)=v0 at *;refine bJ rfl (.agg #[int i64 S3.turn,int i64 S3.next,int i64 S3.wide,int i64 S3.high,slice m1 S3.gs.length n1,slice m2 S3.os.length n2,slice m3 S3.gold.length n3,slice m4 S3.us.length n4,slice m5 S3.qs.length n5]) (by go_simp) (λV hV=>by obtain⟨x0,x1,x2,x3,x4,x5,x6,x7,x8⟩:=hV.cells;go_simp) ?_;go_simp;refine Kw ?_ ?_ ?_
  ·refine fJ rfl 11 #[] (by go_simp) (by go_simp) ?_
   refine(fA v0).mono ?_;rintro e v1 ⟨ku,rfl,hk,hb⟩;replace F:=aj (F.out.below hb);have KU:Hid (Kl v1 ku SK):=hk;refine⟨_,rfl,F.out.q,?_⟩;clear hk hb;go_simp;refine qH ?_ ?_
   ·have hb:=(Below.refl v1.heap.size v1).alloc (Nat.le_refl _) (Obj.cells #[slice none 0 0,slice none 0 0] 61)
    refine eP rfl (slice (some ⟨v1.heap.size,0,none⟩) 2 2) (v1.alloc (Obj.cells #[slice none 0 0,slice none 0 0] 61)) (by go_simp) (by go_simp) (F.out.below hb).q ?_;have OL:=aj (mW v1);replace F:=aj (F.out.below hb);replace KU:=aj (KU.out.below hb);clear hb;generalize v1.heap.size=g at *;generalize v1.alloc _=v2 at *;go_simp;refine qH ?_ ?_
    ·refine fJ rfl 10 #[ku,.agg #[int i64 S3.turn,int i64 S3.next,int i64 S3.wide,int i64 S3.high,slice m1 S3.gs.length n1,slice m2 S3.os.length n2,slice m3 S3.gold.length n3,slice m4 S3.us.length n4,slice m5 S3.qs.length n5],slice (some ⟨g,0,none⟩) 2 2,int i64 1] (by go_simp) (by go_simp) ?_
     refine(gQ ku _ _ SK S3 [[],[]] 1 v2 KU.out fO F.out.l OL.out F.out.s).mono ?_;rintro e v3 ⟨v,r,FF,rfl,hr,hf,hb⟩;obtain⟨rfl,Q,hQ,hwo⟩:=jg hf hr;obtain⟨f1,h1,f2,h2,f3,h3,f4,h4,f5,h5,rfl⟩:=kF hwo;have QT:=aj hQ;clear KU OL;replace F:=aj (F.out.below hb);refine⟨_,rfl,F.out.q,?_⟩;clear hr hf hb hwo hQ;go_simp;refine bJ rfl (.tuple #[.agg #[int i64 Q.turn,int i64 Q.next,int i64 Q.wide,int i64 Q.high,slice f1 Q.gs.length h1,slice f2 Q.os.length h2,slice f3 Q.gold.length h3,slice f4 Q.us.length h4,slice f5 Q.qs.length h5],.nilIface]) (by go_simp) (λV hV=>by go_simp) ?_;go_simp;refine bJ rfl (.agg #[int i64 Q.turn,int i64 Q.next,int i64 Q.wide,int i64 Q.high,slice f1 Q.gs.length h1,slice f2 Q.os.length h2,slice f3 Q.gold.length h3,slice f4 Q.us.length h4,slice f5 Q.qs.length h5]) (by go_simp) (λV hV=>by go_simp) ?_;go_simp;refine bJ rfl (.nilIface) (by go_simp) (λV hV=>by go_simp) ?_;go_simp;refine dV ?_;have hb:=(Below.refl v3.heap.size v3).alloc (Nat.le_refl _) (Obj.cells #[int i64 0,int i64 0,int i64 0,int i64 0,slice none 0 0,slice none 0 0,slice none 0 0,slice none 0 0,slice none 0 0] 29);refine eP rfl (.pointer (some ⟨v3.heap.size,0,none⟩)) (v3.alloc (Obj.cells #[int i64 0,int i64 0,int i64 0,int i64 0,slice none 0 0,slice none 0 0,slice none 0 0,slice none 0 0,slice none 0 0] 29)) (by go_simp) (by go_simp) (F.out.below hb).q ?_;have ZE:=aj (bg (Wx.new (w:=v3) (int i64 0) (int i64 0) (int i64 0) (int i64 0) (slice none 0 0) (slice none 0 0) (slice none 0 0) (slice none 0 0) (slice none 0 0) rfl) (bg F.out.x.lt F.out.q.lt));replace F:=aj (F.out.below hb);clear hb;generalize v3.heap.size=bf at *;generalize v3.alloc _=v4 at *;go_simp;refine dV ?_;obtain⟨z0,z1,z2,z3,z4,z5,z6,z7,z8⟩:=ZE.out.1.cells;obtain⟨t0,t1,t2,t3,t4,t5,t6,t7,t8⟩:=ZE.out.1.aU;have KZ:=aj (aY v4 bf (int i64 Q.turn) (int i64 Q.next) (int i64 Q.wide) (int i64 Q.high) (slice f1 Q.gs.length h1) (slice f2 Q.os.length h2) (slice f3 Q.gold.length h3) (slice f4 Q.us.length h4) (slice f5 Q.qs.length h5));have WZ:=aj (ZE.out.1.put (int i64 Q.turn) (int i64 Q.next) (int i64 Q.wide) (int i64 Q.high) (slice f1 Q.gs.length h1) (slice f2 Q.os.length h2) (slice f3 Q.gold.length h3) (slice f4 Q.us.length h4) (slice f5 Q.qs.length h5));refine jf rfl (((((((((v4.setCell ⟨bf,0,none⟩ (int i64 Q.turn)).setCell ⟨bf,1,none⟩ (int i64 Q.next)).setCell ⟨bf,2,none⟩ (int i64 Q.wide)).setCell ⟨bf,3,none⟩ (int i64 Q.high)).setCell ⟨bf,4,none⟩ (slice f1 Q.gs.length h1)).setCell ⟨bf,5,none⟩ (slice f2 Q.os.length h2)).setCell ⟨bf,6,none⟩ (slice f3 Q.gold.length h3)).setCell ⟨bf,7,none⟩ (slice f4 Q.us.length h4)).setCell ⟨bf,8,none⟩ (slice f5 Q.qs.length h5)) (by go_simp) (by go_simp) (F.out.q.kp KZ.out (Nat.ne_of_lt ZE.out.2.2)) ?_;clear z0 z1 z2 z3 z4 z5 z6 z7 z8 t0 t1 t2 t3 t4 t5 t6 t7 t8;generalize World.setCell _ ⟨_,8,none⟩ _=v5 at *;have GS:Hid (Fact w X (slice p1 X.gs.length q1) (slice p2 X.os.length q2) (slice p3 X.gold.length q3) (slice p4 X.us.length q4) (slice p5 X.qs.length q5) (.pointer (some ⟨bf,0,none⟩)) .nilIface v5):=⟨rfl,bf,rfl,by rw[<-QT.out];exact WZ.out.cells.1,KZ.out.below F.out.b F.out.b.size (Nat.le_of_lt ZE.out.2.1),F.out.x.kp KZ.out (Nat.ne_of_lt ZE.out.2.1)⟩;clear KZ WZ ZE F QT;go_simp;unfold gU;refine aC rfl .nilIface v5 (by go_simp) (by go_simp) trivial ?_;go_simp;unfold aH;go_wp2_with fail
     go_meet
     case rel=>exact GS.out
    ·have hb:=(Below.refl v2.heap.size v2).alloc (Nat.le_refl _) (Obj.cells #[int i64 0,int i64 0,int i64 0,int i64 0,slice none 0 0,slice none 0 0,slice none 0 0,slice none 0 0,slice none 0 0] 29)
     refine eP rfl (.pointer (some ⟨v2.heap.size,0,none⟩)) (v2.alloc (Obj.cells #[int i64 0,int i64 0,int i64 0,int i64 0,slice none 0 0,slice none 0 0,slice none 0 0,slice none 0 0,slice none 0 0] 29)) (by go_simp) (by go_simp) (F.out.below hb).q ?_;have ZE:=aj (bg (Wx.new (w:=v2) (int i64 0) (int i64 0) (int i64 0) (int i64 0) (slice none 0 0) (slice none 0 0) (slice none 0 0) (slice none 0 0) (slice none 0 0) rfl) (bg F.out.x.lt F.out.q.lt));replace F:=aj (F.out.below hb);replace KU:=aj (KU.out.below hb);replace OL:=aj (OL.out.below hb);clear hb;generalize v2.heap.size=bf at *;generalize v2.alloc _=v3 at *;go_simp;refine dV ?_;refine fJ rfl 10 #[ku,.agg #[int i64 S3.turn,int i64 S3.next,int i64 S3.wide,int i64 S3.high,slice m1 S3.gs.length n1,slice m2 S3.os.length n2,slice m3 S3.gold.length n3,slice m4 S3.us.length n4,slice m5 S3.qs.length n5],slice (some ⟨g,0,none⟩) 2 2,int i64 1] (by go_simp) (by go_simp) ?_;refine(gQ ku _ _ SK S3 [[],[]] 1 v3 KU.out fO F.out.l OL.out F.out.s).mono ?_;rintro e v4 ⟨v,r,FF,rfl,hr,hf,hb⟩;obtain⟨rfl,Q,hQ,hwo⟩:=jg hf hr;obtain⟨f1,h1,f2,h2,f3,h3,f4,h4,f5,h5,rfl⟩:=kF hwo;have QT:=aj hQ;clear KU OL;replace F:=aj (F.out.below hb);replace ZE:=aj (bg (ZE.out.1.below hb ZE.out.1.lt) ZE.out.2);refine⟨_,rfl,F.out.q,?_⟩;clear hr hf hb hwo hQ;go_simp;refine bJ rfl (.tuple #[.agg #[int i64 Q.turn,int i64 Q.next,int i64 Q.wide,int i64 Q.high,slice f1 Q.gs.length h1,slice f2 Q.os.length h2,slice f3 Q.gold.length h3,slice f4 Q.us.length h4,slice f5 Q.qs.length h5],.nilIface]) (by go_simp) (λV hV=>by go_simp) ?_;go_simp;refine bJ rfl (.agg #[int i64 Q.turn,int i64 Q.next,int i64 Q.wide,int i64 Q.high,slice f1 Q.gs.length h1,slice f2 Q.os.length h2,slice f3 Q.gold.length h3,slice f4 Q.us.length h4,slice f5 Q.qs.length h5]) (by go_simp) (λV hV=>by go_simp) ?_;go_simp;refine bJ rfl (.nilIface) (by go_simp) (λV hV=>by go_simp) ?_;go_simp;refine dV ?_;obtain⟨z0,z1,z2,z3,z4,z5,z6,z7,z8⟩:=ZE.out.1.cells;obtain⟨t0,t1,t2,t3,t4,t5,t6,t7,t8⟩:=ZE.out.1.aU;have KZ:=aj (aY v4 bf (int i64 Q.turn) (int i64 Q.next) (int i64 Q.wide) (int i64 Q.high) (slice f1 Q.gs.length h1) (slice f2 Q.os.length h2) (slice f3 Q.gold.length h3) (slice f4 Q.us.length h4) (slice f5 Q.qs.length h5));have WZ:=aj (ZE.out.1.put (int i64 Q.turn) (int i64 Q.next) (int i64 Q.wide) (int i64 Q.high) (slice f1 Q.gs.length h1) (slice f2 Q.os.length h2) (slice f3 Q.gold.length h3) (slice f4 Q.us.length h4) (slice f5 Q.qs.length h5));refine jf rfl (((((((((v4.setCell ⟨bf,0,none⟩ (int i64 Q.turn)).setCell ⟨bf,1,none⟩ (int i64 Q.next)).setCell ⟨bf,2,none⟩ (int i64 Q.wide)).setCell ⟨bf,3,none⟩ (int i64 Q.high)).setCell ⟨bf,4,none⟩ (slice f1 Q.gs.length h1)).setCell ⟨bf,5,none⟩ (slice f2 Q.os.length h2)).setCell ⟨bf,6,none⟩ (slice f3 Q.gold.length h3)).setCell ⟨bf,7,none⟩ (slice f4 Q.us.length h4)).setCell ⟨bf,8,none⟩ (slice f5 Q.qs.length h5)) (by go_simp) (by go_simp) (F.out.q.kp KZ.out (Nat.ne_of_lt ZE.out.2.2)) ?_;clear z0 z1 z2 z3 z4 z5 z6 z7 z8 t0 t1 t2 t3 t4 t5 t6 t7 t8;generalize World.setCell _ ⟨_,8,none⟩ _=v5 at *;have GS:Hid (Fact w X (slice p1 X.gs.length q1) (slice p2 X.os.length q2) (slice p3 X.gold.length q3) (slice p4 X.us.length q4) (slice p5 X.qs.length q5) (.pointer (some ⟨bf,0,none⟩)) .nilIface v5):=⟨rfl,bf,rfl,by rw[<-QT.out];exact WZ.out.cells.1,KZ.out.below F.out.b F.out.b.size (Nat.le_of_lt ZE.out.2.1),F.out.x.kp KZ.out (Nat.ne_of_lt ZE.out.2.1)⟩;clear KZ WZ ZE F QT;go_simp;unfold gU;refine aC rfl .nilIface v5 (by go_simp) (by go_simp) trivial ?_;go_simp;unfold aH;go_wp2_with fail
     go_meet
     case rel=>exact GS.out
   ·have hb:=(Below.refl v1.heap.size v1).alloc (Nat.le_refl _) (Obj.cells #[int i64 0,int i64 0,int i64 0,int i64 0,slice none 0 0,slice none 0 0,slice none 0 0,slice none 0 0,slice none 0 0] 29)
    refine eP rfl (.pointer (some ⟨v1.heap.size,0,none⟩)) (v1.alloc (Obj.cells #[int i64 0,int i64 0,int i64 0,int i64 0,slice none 0 0,slice none 0 0,slice none 0 0,slice none 0 0,slice none 0 0] 29)) (by go_simp) (by go_simp) (F.out.below hb).q ?_;have ZE:=aj (bg (Wx.new (w:=v1) (int i64 0) (int i64 0) (int i64 0) (int i64 0) (slice none 0 0) (slice none 0 0) (slice none 0 0) (slice none 0 0) (slice none 0 0) rfl) (bg F.out.x.lt F.out.q.lt));replace F:=aj (F.out.below hb);replace KU:=aj (KU.out.below hb);clear hb;generalize v1.heap.size=bf at *;generalize v1.alloc _=v2 at *;go_simp;refine dV ?_;have hb:=(Below.refl v2.heap.size v2).alloc (Nat.le_refl _) (Obj.cells #[slice none 0 0,slice none 0 0] 61);refine eP rfl (slice (some ⟨v2.heap.size,0,none⟩) 2 2) (v2.alloc (Obj.cells #[slice none 0 0,slice none 0 0] 61)) (by go_simp) (by go_simp) (F.out.below hb).q ?_;have OL:=aj (mW v2);replace F:=aj (F.out.below hb);replace KU:=aj (KU.out.below hb);replace ZE:=aj (bg (ZE.out.1.below hb ZE.out.1.lt) ZE.out.2);clear hb;generalize v2.heap.size=g at *;generalize v2.alloc _=v3 at *;go_simp;refine dV ?_;refine fJ rfl 10 #[ku,.agg #[int i64 S3.turn,int i64 S3.next,int i64 S3.wide,int i64 S3.high,slice m1 S3.gs.length n1,slice m2 S3.os.length n2,slice m3 S3.gold.length n3,slice m4 S3.us.length n4,slice m5 S3.qs.length n5],slice (some ⟨g,0,none⟩) 2 2,int i64 1] (by go_simp) (by go_simp) ?_;refine(gQ ku _ _ SK S3 [[],[]] 1 v3 KU.out fO F.out.l OL.out F.out.s).mono ?_;rintro e v4 ⟨v,r,FF,rfl,hr,hf,hb⟩;obtain⟨rfl,Q,hQ,hwo⟩:=jg hf hr;obtain⟨f1,h1,f2,h2,f3,h3,f4,h4,f5,h5,rfl⟩:=kF hwo;have QT:=aj hQ;clear KU OL;replace F:=aj (F.out.below hb);replace ZE:=aj (bg (ZE.out.1.below hb ZE.out.1.lt) ZE.out.2);refine⟨_,rfl,F.out.q,?_⟩;clear hr hf hb hwo hQ;go_simp;refine bJ rfl (.tuple #[.agg #[int i64 Q.turn,int i64 Q.next,int i64 Q.wide,int i64 Q.high,slice f1 Q.gs.length h1,slice f2 Q.os.length h2,slice f3 Q.gold.length h3,slice f4 Q.us.length h4,slice f5 Q.qs.length h5],.nilIface]) (by go_simp) (λV hV=>by go_simp) ?_;go_simp;refine bJ rfl (.agg #[int i64 Q.turn,int i64 Q.next,int i64 Q.wide,int i64 Q.high,slice f1 Q.gs.length h1,slice f2 Q.os.length h2,slice f3 Q.gold.length h3,slice f4 Q.us.length h4,slice f5 Q.qs.length h5]) (by go_simp) (λV hV=>by go_simp) ?_;go_simp;refine bJ rfl (.nilIface) (by go_simp) (λV hV=>by go_simp) ?_;go_simp;refine dV ?_;obtain⟨z0,z1,z2,z3,z4,z5,z6,z7,z8⟩:=ZE.out.1.cells;obtain⟨t0,t1,t2,t3,t4,t5,t6,t7,t8⟩:=ZE.out.1.aU;have KZ:=aj (aY v4 bf (int i64 Q.turn) (int i64 Q.next) (int i64 Q.wide) (int i64 Q.high) (slice f1 Q.gs.length h1) (slice f2 Q.os.length h2) (slice f3 Q.gold.length h3) (slice f4 Q.us.length h4) (slice f5 Q.qs.length h5));have WZ:=aj (ZE.out.1.put (int i64 Q.turn) (int i64 Q.next) (int i64 Q.wide) (int i64 Q.high) (slice f1 Q.gs.length h1) (slice f2 Q.os.length h2) (slice f3 Q.gold.length h3) (slice f4 Q.us.length h4) (slice f5 Q.qs.length h5));refine jf rfl (((((((((v4.setCell ⟨bf,0,none⟩ (int i64 Q.turn)).setCell ⟨bf,1,none⟩ (int i64 Q.next)).setCell ⟨bf,2,none⟩ (int i64 Q.wide)).setCell ⟨bf,3,none⟩ (int i64 Q.high)).setCell ⟨bf,4,none⟩ (slice f1 Q.gs.length h1)).setCell ⟨bf,5,none⟩ (slice f2 Q.os.length h2)).setCell ⟨bf,6,none⟩ (slice f3 Q.gold.length h3)).setCell ⟨bf,7,none⟩ (slice f4 Q.us.length h4)).setCell ⟨bf,8,none⟩ (slice f5 Q.qs.length h5)) (by go_simp) (by go_simp) (F.out.q.kp KZ.out (Nat.ne_of_lt ZE.out.2.2)) ?_;clear z0 z1 z2 z3 z4 z5 z6 z7 z8 t0 t1 t2 t3 t4 t5 t6 t7 t8;generalize World.setCell _ ⟨_,8,none⟩ _=v5 at *;have GS:Hid (Fact w X (slice p1 X.gs.length q1) (slice p2 X.os.length q2) (slice p3 X.gold.length q3) (slice p4 X.us.length q4) (slice p5 X.qs.length q5) (.pointer (some ⟨bf,0,none⟩)) .nilIface v5):=⟨rfl,bf,rfl,by rw[<-QT.out];exact WZ.out.cells.1,KZ.out.below F.out.b F.out.b.size (Nat.le_of_lt ZE.out.2.1),F.out.x.kp KZ.out (Nat.ne_of_lt ZE.out.2.1)⟩;clear KZ WZ ZE F QT;go_simp;unfold gU;refine aC rfl .nilIface v5 (by go_simp) (by go_simp) trivial ?_;go_simp;unfold aH;go_wp2_with fail
    go_meet
    case rel=>exact GS.out
  ·have hb:=(Below.refl v0.heap.size v0).alloc (Nat.le_refl _) (Obj.cells #[slice none 0 0,slice none 0 0] 61)
   refine eP rfl (slice (some ⟨v0.heap.size,0,none⟩) 2 2) (v0.alloc (Obj.cells #[slice none 0 0,slice none 0 0] 61)) (by go_simp) (by go_simp) (F.out.below hb).q ?_;have OL:=aj (mW v0);replace F:=aj (F.out.below hb);clear hb;generalize v0.heap.size=g at *;generalize v0.alloc _=v1 at *;go_simp;refine qH ?_ ?_
   ·refine fJ rfl 11 #[] (by go_simp) (by go_simp) ?_
    refine(fA v1).mono ?_;rintro e v2 ⟨ku,rfl,hk,hb⟩;replace F:=aj (F.out.below hb);replace OL:=aj (OL.out.below hb);have KU:Hid (Kl v2 ku SK):=hk;refine⟨_,rfl,F.out.q,?_⟩;clear hk hb;go_simp;refine qH ?_ ?_
    ·refine fJ rfl 10 #[ku,.agg #[int i64 S3.turn,int i64 S3.next,int i64 S3.wide,int i64 S3.high,slice m1 S3.gs.length n1,slice m2 S3.os.length n2,slice m3 S3.gold.length n3,slice m4 S3.us.length n4,slice m5 S3.qs.length n5],slice (some ⟨g,0,none⟩) 2 2,int i64 1] (by go_simp) (by go_simp) ?_
     refine(gQ ku _ _ SK S3 [[],[]] 1 v2 KU.out fO F.out.l OL.out F.out.s).mono ?_;rintro e v3 ⟨v,r,FF,rfl,hr,hf,hb⟩;obtain⟨rfl,Q,hQ,hwo⟩:=jg hf hr;obtain⟨f1,h1,f2,h2,f3,h3,f4,h4,f5,h5,rfl⟩:=kF hwo;have QT:=aj hQ;clear KU OL;replace F:=aj (F.out.below hb);refine⟨_,rfl,F.out.q,?_⟩;clear hr hf hb hwo hQ;go_simp;refine bJ rfl (.tuple #[.agg #[int i64 Q.turn,int i64 Q.next,int i64 Q.wide,int i64 Q.high,slice f1 Q.gs.length h1,slice f2 Q.os.length h2,slice f3 Q.gold.length h3,slice f4 Q.us.length h4,slice f5 Q.qs.length h5],.nilIface]) (by go_simp) (λV hV=>by go_simp) ?_;go_simp;refine bJ rfl (.agg #[int i64 Q.turn,int i64 Q.next,int i64 Q.wide,int i64 Q.high,slice f1 Q.gs.length h1,slice f2 Q.os.length h2,slice f3 Q.gold.length h3,slice f4 Q.us.length h4,slice f5 Q.qs.length h5]) (by go_simp) (λV hV=>by go_simp) ?_;go_simp;refine bJ rfl (.nilIface) (by go_simp) (λV hV=>by go_simp) ?_;go_simp;refine dV ?_;have hb:=(Below.refl v3.heap.size v3).alloc (Nat.le_refl _) (Obj.cells #[int i64 0,int i64 0,int i64 0,int i64 0,slice none 0 0,slice none 0 0,slice none 0 0,slice none 0 0,slice none 0 0] 29);refine eP rfl (.pointer (some ⟨v3.heap.size,0,none⟩)) (v3.alloc (Obj.cells #[int i64 0,int i64 0,int i64 0,int i64 0,slice none 0 0,slice none 0 0,slice none 0 0,slice none 0 0,slice none 0 0] 29)) (by go_simp) (by go_simp) (F.out.below hb).q ?_;have ZE:=aj (bg (Wx.new (w:=v3) (int i64 0) (int i64 0) (int i64 0) (int i64 0) (slice none 0 0) (slice none 0 0) (slice none 0 0) (slice none 0 0) (slice none 0 0) rfl) (bg F.out.x.lt F.out.q.lt));replace F:=aj (F.out.below hb);clear hb;generalize v3.heap.size=bf at *;generalize v3.alloc _=v4 at *;go_simp;refine dV ?_;obtain⟨z0,z1,z2,z3,z4,z5,z6,z7,z8⟩:=ZE.out.1.cells;obtain⟨t0,t1,t2,t3,t4,t5,t6,t7,t8⟩:=ZE.out.1.aU;have KZ:=aj (aY v4 bf (int i64 Q.turn) (int i64 Q.next) (int i64 Q.wide) (int i64 Q.high) (slice f1 Q.gs.length h1) (slice f2 Q.os.length h2) (slice f3 Q.gold.length h3) (slice f4 Q.us.length h4) (slice f5 Q.qs.length h5));have WZ:=aj (ZE.out.1.put (int i64 Q.turn) (int i64 Q.next) (int i64 Q.wide) (int i64 Q.high) (slice f1 Q.gs.length h1) (slice f2 Q.os.length h2) (slice f3 Q.gold.length h3) (slice f4 Q.us.length h4) (slice f5 Q.qs.length h5));refine jf rfl (((((((((v4.setCell ⟨bf,0,none⟩ (int i64 Q.turn)).setCell ⟨bf,1,none⟩ (int i64 Q.next)).setCell ⟨bf,2,none⟩ (int i64 Q.wide)).setCell ⟨bf,3,none⟩ (int i64 Q.high)).setCell ⟨bf,4,none⟩ (slice f1 Q.gs.length h1)).setCell ⟨bf,5,none⟩ (slice f2 Q.os.length h2)).setCell ⟨bf,6,none⟩ (slice f3 Q.gold.length h3)).setCell ⟨bf,7,none⟩ (slice f4 Q.us.length h4)).setCell ⟨bf,8,none⟩ (slice f5 Q.qs.length h5)) (by go_simp) (by go_simp) (F.out.q.kp KZ.out (Nat.ne_of_lt ZE.out.2.2)) ?_;clear z0 z1 z2 z3 z4 z5 z6 z7 z8 t0 t1 t2 t3 t4 t5 t6 t7 t8;generalize World.setCell _ ⟨_,8,none⟩ _=v5 at *;have GS:Hid (Fact w X (slice p1 X.gs.length q1) (slice p2 X.os.length q2) (slice p3 X.gold.length q3) (slice p4 X.us.length q4) (slice p5 X.qs.length q5) (.pointer (some ⟨bf,0,none⟩)) .nilIface v5):=⟨rfl,bf,rfl,by rw[<-QT.out];exact WZ.out.cells.1,KZ.out.below F.out.b F.out.b.size (Nat.le_of_lt ZE.out.2.1),F.out.x.kp KZ.out (Nat.ne_of_lt ZE.out.2.1)⟩;clear KZ WZ ZE F QT;go_simp;unfold gU;refine aC rfl .nilIface v5 (by go_simp) (by go_simp) trivial ?_;go_simp;unfold aH;go_wp2_with fail
     go_meet
     case rel=>exact GS.out
    ·have hb:=(Below.refl v2.heap.size v2).alloc (Nat.le_refl _) (Obj.cells #[int i64 0,int i64 0,int i64 0,int i64 0,slice none 0 0,slice none 0 0,slice none 0 0,slice none 0 0,slice none 0 0] 29)
     refine eP rfl (.pointer (some ⟨v2.heap.size,0,none⟩)) (v2.alloc (Obj.cells #[int i64 0,int i64 0,int i64 0,int i64 0,slice none 0 0,slice none 0 0,slice none 0 0,slice none 0 0,slice none 0 0] 29)) (by go_simp) (by go_simp) (F.out.below hb).q ?_;have ZE:=aj (bg (Wx.new (w:=v2) (int i64 0) (int i64 0) (int i64 0) (int i64 0) (slice none 0 0) (slice none 0 0) (slice none 0 0) (slice none 0 0) (slice none 0 0) rfl) (bg F.out.x.lt F.out.q.lt));replace F:=aj (F.out.below hb);replace KU:=aj (KU.out.below hb);replace OL:=aj (OL.out.below hb);clear hb;generalize v2.heap.size=bf at *;generalize v2.alloc _=v3 at *;go_simp;refine dV ?_;refine fJ rfl 10 #[ku,.agg #[int i64 S3.turn,int i64 S3.next,int i64 S3.wide,int i64 S3.high,slice m1 S3.gs.length n1,slice m2 S3.os.length n2,slice m3 S3.gold.length n3,slice m4 S3.us.length n4,slice m5 S3.qs.length n5],slice (some ⟨g,0,none⟩) 2 2,int i64 1] (by go_simp) (by go_simp) ?_;refine(gQ ku _ _ SK S3 [[],[]] 1 v3 KU.out fO F.out.l OL.out F.out.s).mono ?_;rintro e v4 ⟨v,r,FF,rfl,hr,hf,hb⟩;obtain⟨rfl,Q,hQ,hwo⟩:=jg hf hr;obtain⟨f1,h1,f2,h2,f3,h3,f4,h4,f5,h5,rfl⟩:=kF hwo;have QT:=aj hQ;clear KU OL;replace F:=aj (F.out.below hb);replace ZE:=aj (bg (ZE.out.1.below hb ZE.out.1.lt) ZE.out.2);refine⟨_,rfl,F.out.q,?_⟩;clear hr hf hb hwo hQ;go_simp;refine bJ rfl (.tuple #[.agg #[int i64 Q.turn,int i64 Q.next,int i64 Q.wide,int i64 Q.high,slice f1 Q.gs.length h1,slice f2 Q.os.length h2,slice f3 Q.gold.length h3,slice f4 Q.us.length h4,slice f5 Q.qs.length h5],.nilIface]) (by go_simp) (λV hV=>by go_simp) ?_;go_simp;refine bJ rfl (.agg #[int i64 Q.turn,int i64 Q.next,int i64 Q.wide,int i64 Q.high,slice f1 Q.gs.length h1,slice f2 Q.os.length h2,slice f3 Q.gold.length h3,slice f4 Q.us.length h4,slice f5 Q.qs.length h5]) (by go_simp) (λV hV=>by go_simp) ?_;go_simp;refine bJ rfl (.nilIface) (by go_simp) (λV hV=>by go_simp) ?_;go_simp;refine dV ?_;obtain⟨z0,z1,z2,z3,z4,z5,z6,z7,z8⟩:=ZE.out.1.cells;obtain⟨t0,t1,t2,t3,t4,t5,t6,t7,t8⟩:=ZE.out.1.aU;have KZ:=aj (aY v4 bf (int i64 Q.turn) (int i64 Q.next) (int i64 Q.wide) (int i64 Q.high) (slice f1 Q.gs.length h1) (slice f2 Q.os.length h2) (slice f3 Q.gold.length h3) (slice f4 Q.us.length h4) (slice f5 Q.qs.length h5));have WZ:=aj (ZE.out.1.put (int i64 Q.turn) (int i64 Q.next) (int i64 Q.wide) (int i64 Q.high) (slice f1 Q.gs.length h1) (slice f2 Q.os.length h2) (slice f3 Q.gold.length h3) (slice f4 Q.us.length h4) (slice f5 Q.qs.length h5));refine jf rfl (((((((((v4.setCell ⟨bf,0,none⟩ (int i64 Q.turn)).setCell ⟨bf,1,none⟩ (int i64 Q.next)).setCell ⟨bf,2,none⟩ (int i64 Q.wide)).setCell ⟨bf,3,none⟩ (int i64 Q.high)).setCell ⟨bf,4,none⟩ (slice f1 Q.gs.length h1)).setCell ⟨bf,5,none⟩ (slice f2 Q.os.length h2)).setCell ⟨bf,6,none⟩ (slice f3 Q.gold.length h3)).setCell ⟨bf,7,none⟩ (slice f4 Q.us.length h4)).setCell ⟨bf,8,none⟩ (slice f5 Q.qs.length h5)) (by go_simp) (by go_simp) (F.out.q.kp KZ.out (Nat.ne_of_lt ZE.out.2.2)) ?_;clear z0 z1 z2 z3 z4 z5 z6 z7 z8 t0 t1 t2 t3 t4 t5 t6 t7 t8;generalize World.setCell _ ⟨_,8,none⟩ _=v5 at *;have GS:Hid (Fact w X (slice p1 X.gs.length q1) (slice p2 X.os.length q2) (slice p3 X.gold.length q3) (slice p4 X.us.length q4) (slice p5 X.qs.length q5) (.pointer (some ⟨bf,0,none⟩)) .nilIface v5):=⟨rfl,bf,rfl,by rw[<-QT.out];exact WZ.out.cells.1,KZ.out.below F.out.b F.out.b.size (Nat.le_of_lt ZE.out.2.1),F.out.x.kp KZ.out (Nat.ne_of_lt ZE.out.2.1)⟩;clear KZ WZ ZE F QT;go_simp;unfold gU;refine aC rfl .nilIface v5 (by go_simp) (by go_simp) trivial ?_;go_simp;unfold aH;go_wp2_with fail
     go_meet
     case rel=>exact GS.out
   ·have hb:=(Below.refl v1.heap.size v1).alloc (Nat.le_refl _) (Obj.cells #[int i64 0,int i64 0,int i64 0,int i64 0,slice none 0 0,slice none 0 0,slice none 0 0,slice none 0 0,slice none 0 0] 29)
    refine eP rfl (.pointer (some ⟨v1.heap.size,0,none⟩)) (v1.alloc (Obj.cells #[int i64 0,int i64 0,int i64 0,int i64 0,slice none 0 0,slice none 0 0,slice none 0 0,slice none 0 0,slice none 0 0] 29)) (by go_simp) (by go_simp) (F.out.below hb).q ?_;have ZE:=aj (bg (Wx.new (w:=v1) (int i64 0) (int i64 0) (int i64 0) (int i64 0) (slice none 0 0) (slice none 0 0) (slice none 0 0) (slice none 0 0) (slice none 0 0) rfl) (bg F.out.x.lt F.out.q.lt));replace F:=aj (F.out.below hb);replace OL:=aj (OL.out.below hb);clear hb;generalize v1.heap.size=bf at *;generalize v1.alloc _=v2 at *;go_simp;refine dV ?_;refine fJ rfl 11 #[] (by go_simp) (by go_simp) ?_;refine(fA v2).mono ?_;rintro e v3 ⟨ku,rfl,hk,hb⟩;replace F:=aj (F.out.below hb);replace OL:=aj (OL.out.below hb);replace ZE:=aj (bg (ZE.out.1.below hb ZE.out.1.lt) ZE.out.2);have KU:Hid (Kl v3 ku SK):=hk;refine⟨_,rfl,F.out.q,?_⟩;clear hk hb;go_simp;refine dV ?_;refine fJ rfl 10 #[ku,.agg #[int i64 S3.turn,int i64 S3.next,int i64 S3.wide,int i64 S3.high,slice m1 S3.gs.length n1,slice m2 S3.os.length n2,slice m3 S3.gold.length n3,slice m4 S3.us.length n4,slice m5 S3.qs.length n5],slice (some ⟨g,0,none⟩) 2 2,int i64 1] (by go_simp) (by go_simp) ?_;refine(gQ ku _ _ SK S3 [[],[]] 1 v3 KU.out fO F.out.l OL.out F.out.s).mono ?_;rintro e v4 ⟨v,r,FF,rfl,hr,hf,hb⟩;obtain⟨rfl,Q,hQ,hwo⟩:=jg hf hr;obtain⟨f1,h1,f2,h2,f3,h3,f4,h4,f5,h5,rfl⟩:=kF hwo;have QT:=aj hQ;clear KU OL;replace F:=aj (F.out.below hb);replace ZE:=aj (bg (ZE.out.1.below hb ZE.out.1.lt) ZE.out.2);refine⟨_,rfl,F.out.q,?_⟩;clear hr hf hb hwo hQ;go_simp;refine bJ rfl (.tuple #[.agg #[int i64 Q.turn,int i64 Q.next,int i64 Q.wide,int i64 Q.high,slice f1 Q.gs.length h1,slice f2 Q.os.length h2,slice f3 Q.gold.length h3,slice f4 Q.us.length h4,slice f5 Q.qs.length h5],.nilIface]) (by go_simp) (λV hV=>by go_simp) ?_;go_simp;refine bJ rfl (.agg #[int i64 Q.turn,int i64 Q.next,int i64 Q.wide,int i64 Q.high,slice f1 Q.gs.length h1,slice f2 Q.os.length h2,slice f3 Q.gold.length h3,slice f4 Q.us.length h4,slice f5 Q.qs.length h5]) (by go_simp) (λV hV=>by go_simp) ?_;go_simp;refine bJ rfl (.nilIface) (by go_simp) (λV hV=>by go_simp) ?_;go_simp;refine dV ?_;obtain⟨z0,z1,z2,z3,z4,z5,z6,z7,z8⟩:=ZE.out.1.cells;obtain⟨t0,t1,t2,t3,t4,t5,t6,t7,t8⟩:=ZE.out.1.aU;have KZ:=aj (aY v4 bf (int i64 Q.turn) (int i64 Q.next) (int i64 Q.wide) (int i64 Q.high) (slice f1 Q.gs.length h1) (slice f2 Q.os.length h2) (slice f3 Q.gold.length h3) (slice f4 Q.us.length h4) (slice f5 Q.qs.length h5));have WZ:=aj (ZE.out.1.put (int i64 Q.turn) (int i64 Q.next) (int i64 Q.wide) (int i64 Q.high) (slice f1 Q.gs.length h1) (slice f2 Q.os.length h2) (slice f3 Q.gold.length h3) (slice f4 Q.us.length h4) (slice f5 Q.qs.length h5));refine jf rfl (((((((((v4.setCell ⟨bf,0,none⟩ (int i64 Q.turn)).setCell ⟨bf,1,none⟩ (int i64 Q.next)).setCell ⟨bf,2,none⟩ (int i64 Q.wide)).setCell ⟨bf,3,none⟩ (int i64 Q.high)).setCell ⟨bf,4,none⟩ (slice f1 Q.gs.length h1)).setCell ⟨bf,5,none⟩ (slice f2 Q.os.length h2)).setCell ⟨bf,6,none⟩ (slice f3 Q.gold.length h3)).setCell ⟨bf,7,none⟩ (slice f4 Q.us.length h4)).setCell ⟨bf,8,none⟩ (slice f5 Q.qs.length h5)) (by go_simp) (by go_simp) (F.out.q.kp KZ.out (Nat.ne_of_lt ZE.out.2.2)) ?_;clear z0 z1 z2 z3 z4 z5 z6 z7 z8 t0 t1 t2 t3 t4 t5 t6 t7 t8;generalize World.setCell _ ⟨_,8,none⟩ _=v5 at *;have GS:Hid (Fact w X (slice p1 X.gs.length q1) (slice p2 X.os.length q2) (slice p3 X.gold.length q3) (slice p4 X.us.length q4) (slice p5 X.qs.length q5) (.pointer (some ⟨bf,0,none⟩)) .nilIface v5):=⟨rfl,bf,rfl,by rw[<-QT.out];exact WZ.out.cells.1,KZ.out.below F.out.b F.out.b.size (Nat.le_of_lt ZE.out.2.1),F.out.x.kp KZ.out (Nat.ne_of_lt ZE.out.2.1)⟩;clear KZ WZ ZE F QT;go_simp;unfold gU;refine aC rfl .nilIface v5 (by go_simp) (by go_simp) trivial ?_;go_simp;unfold aH;go_wp2_with fail
    go_meet
    case rel=>exact GS.out
  ·have hb:=(Below.refl v0.heap.size v0).alloc (Nat.le_refl _) (Obj.cells #[int i64 0,int i64 0,int i64 0,int i64 0,slice none 0 0,slice none 0 0,slice none 0 0,slice none 0 0,slice none 0 0] 29)
   refine eP rfl (.pointer (some ⟨v0.heap.size,0,none⟩)) (v0.alloc (Obj.cells #[int i64 0,int i64 0,int i64 0,int i64 0,slice none 0 0,slice none 0 0,slice none 0 0,slice none 0 0,slice none 0 0] 29)) (by go_simp) (by go_simp) (F.out.below hb).q ?_;have ZE:=aj (bg (Wx.new (w:=v0) (int i64 0) (int i64 0) (int i64 0) (int i64 0) (slice none 0 0) (slice none 0 0) (slice none 0 0) (slice none 0 0) (slice none 0 0) rfl) (bg F.out.x.lt F.out.q.lt));replace F:=aj (F.out.below hb);clear hb;generalize v0.heap.size=bf at *;generalize v0.alloc _=v1 at *;go_simp;refine qH ?_ ?_
   ·refine fJ rfl 11 #[] (by go_simp) (by go_simp) ?_
    refine(fA v1).mono ?_;rintro e v2 ⟨ku,rfl,hk,hb⟩;replace F:=aj (F.out.below hb);replace ZE:=aj (bg (ZE.out.1.below hb ZE.out.1.lt) ZE.out.2);have KU:Hid (Kl v2 ku SK):=hk;refine⟨_,rfl,F.out.q,?_⟩;clear hk hb;go_simp;refine dV ?_;have hb:=(Below.refl v2.heap.size v2).alloc (Nat.le_refl _) (Obj.cells #[slice none 0 0,slice none 0 0] 61);refine eP rfl (slice (some ⟨v2.heap.size,0,none⟩) 2 2) (v2.alloc (Obj.cells #[slice none 0 0,slice none 0 0] 61)) (by go_simp) (by go_simp) (F.out.below hb).q ?_;have OL:=aj (mW v2);replace F:=aj (F.out.below hb);replace KU:=aj (KU.out.below hb);replace ZE:=aj (bg (ZE.out.1.below hb ZE.out.1.lt) ZE.out.2);clear hb;generalize v2.heap.size=g at *;generalize v2.alloc _=v3 at *;go_simp;refine dV ?_;refine fJ rfl 10 #[ku,.agg #[int i64 S3.turn,int i64 S3.next,int i64 S3.wide,int i64 S3.high,slice m1 S3.gs.length n1,slice m2 S3.os.length n2,slice m3 S3.gold.length n3,slice m4 S3.us.length n4,slice m5 S3.qs.length n5],slice (some ⟨g,0,none⟩) 2 2,int i64 1] (by go_simp) (by go_simp) ?_;refine(gQ ku _ _ SK S3 [[],[]] 1 v3 KU.out fO F.out.l OL.out F.out.s).mono ?_;rintro e v4 ⟨v,r,FF,rfl,hr,hf,hb⟩;obtain⟨rfl,Q,hQ,hwo⟩:=jg hf hr;obtain⟨f1,h1,f2,h2,f3,h3,f4,h4,f5,h5,rfl⟩:=kF hwo;have QT:=aj hQ;clear KU OL;replace F:=aj (F.out.below hb);replace ZE:=aj (bg (ZE.out.1.below hb ZE.out.1.lt) ZE.out.2);refine⟨_,rfl,F.out.q,?_⟩;clear hr hf hb hwo hQ;go_simp;refine bJ rfl (.tuple #[.agg #[int i64 Q.turn,int i64 Q.next,int i64 Q.wide,int i64 Q.high,slice f1 Q.gs.length h1,slice f2 Q.os.length h2,slice f3 Q.gold.length h3,slice f4 Q.us.length h4,slice f5 Q.qs.length h5],.nilIface]) (by go_simp) (λV hV=>by go_simp) ?_;go_simp;refine bJ rfl (.agg #[int i64 Q.turn,int i64 Q.next,int i64 Q.wide,int i64 Q.high,slice f1 Q.gs.length h1,slice f2 Q.os.length h2,slice f3 Q.gold.length h3,slice f4 Q.us.length h4,slice f5 Q.qs.length h5]) (by go_simp) (λV hV=>by go_simp) ?_;go_simp;refine bJ rfl (.nilIface) (by go_simp) (λV hV=>by go_simp) ?_;go_simp;refine dV ?_;obtain⟨z0,z1,z2,z3,z4,z5,z6,z7,z8⟩:=ZE.out.1.cells;obtain⟨t0,t1,t2,t3,t4,t5,t6,t7,t8⟩:=ZE.out.1.aU;have KZ:=aj (aY v4 bf (int i64 Q.turn) (int i64 Q.next) (int i64 Q.wide) (int i64 Q.high) (slice f1 Q.gs.length h1) (slice f2 Q.os.length h2) (slice f3 Q.gold.length h3) (slice f4 Q.us.length h4) (slice f5 Q.qs.length h5));have WZ:=aj (ZE.out.1.put (int i64 Q.turn) (int i64 Q.next) (int i64 Q.wide) (int i64 Q.high) (slice f1 Q.gs.length h1) (slice f2 Q.os.length h2) (slice f3 Q.gold.length h3) (slice f4 Q.us.length h4) (slice f5 Q.qs.length h5));refine jf rfl (((((((((v4.setCell ⟨bf,0,none⟩ (int i64 Q.turn)).setCell ⟨bf,1,none⟩ (int i64 Q.next)).setCell ⟨bf,2,none⟩ (int i64 Q.wide)).setCell ⟨bf,3,none⟩ (int i64 Q.high)).setCell ⟨bf,4,none⟩ (slice f1 Q.gs.length h1)).setCell ⟨bf,5,none⟩ (slice f2 Q.os.length h2)).setCell ⟨bf,6,none⟩ (slice f3 Q.gold.length h3)).setCell ⟨bf,7,none⟩ (slice f4 Q.us.length h4)).setCell ⟨bf,8,none⟩ (slice f5 Q.qs.length h5)) (by go_simp) (by go_simp) (F.out.q.kp KZ.out (Nat.ne_of_lt ZE.out.2.2)) ?_;clear z0 z1 z2 z3 z4 z5 z6 z7 z8 t0 t1 t2 t3 t4 t5 t6 t7 t8;generalize World.setCell _ ⟨_,8,none⟩ _=v5 at *;have GS:Hid (Fact w X (slice p1 X.gs.length q1) (slice p2 X.os.length q2) (slice p3 X.gold.length q3) (slice p4 X.us.length q4) (slice p5 X.qs.length q5) (.pointer (some ⟨bf,0,none⟩)) .nilIface v5):=⟨rfl,bf,rfl,by rw[<-QT.out];exact WZ.out.cells.1,KZ.out.below F.out.b F.out.b.size (Nat.le_of_lt ZE.out.2.1),F.out.x.kp KZ.out (Nat.ne_of_lt ZE.out.2.1)⟩;clear KZ WZ ZE F QT;go_simp;unfold gU;refine aC rfl .nilIface v5 (by go_simp) (by go_simp) trivial ?_;go_simp;unfold aH;go_wp2_with fail
    go_meet
    case rel=>exact GS.out
   ·have hb:=(Below.refl v1.heap.size v1).alloc (Nat.le_refl _) (Obj.cells #[slice none 0 0,slice none 0 0] 61)
    refine eP rfl (slice (some ⟨v1.heap.size,0,none⟩) 2 2) (v1.alloc (Obj.cells #[slice none 0 0,slice none 0 0] 61)) (by go_simp) (by go_simp) (F.out.below hb).q ?_;have OL:=aj (mW v1);replace F:=aj (F.out.below hb);replace ZE:=aj (bg (ZE.out.1.below hb ZE.out.1.lt) ZE.out.2);clear hb;generalize v1.heap.size=g at *;generalize v1.alloc _=v2 at *;go_simp;refine dV ?_;refine fJ rfl 11 #[] (by go_simp) (by go_simp) ?_;refine(fA v2).mono ?_;rintro e v3 ⟨ku,rfl,hk,hb⟩;replace F:=aj (F.out.below hb);replace OL:=aj (OL.out.below hb);replace ZE:=aj (bg (ZE.out.1.below hb ZE.out.1.lt) ZE.out.2);have KU:Hid (Kl v3 ku SK):=hk;refine⟨_,rfl,F.out.q,?_⟩;clear hk hb;go_simp;refine dV ?_;refine fJ rfl 10 #[ku,.agg #[int i64 S3.turn,int i64 S3.next,int i64 S3.wide,int i64 S3.high,slice m1 S3.gs.length n1,slice m2 S3.os.length n2,slice m3 S3.gold.length n3,slice m4 S3.us.length n4,slice m5 S3.qs.length n5],slice (some ⟨g,0,none⟩) 2 2,int i64 1] (by go_simp) (by go_simp) ?_;refine(gQ ku _ _ SK S3 [[],[]] 1 v3 KU.out fO F.out.l OL.out F.out.s).mono ?_;rintro e v4 ⟨v,r,FF,rfl,hr,hf,hb⟩;obtain⟨rfl,Q,hQ,hwo⟩:=jg hf hr;obtain⟨f1,h1,f2,h2,f3,h3,f4,h4,f5,h5,rfl⟩:=kF hwo;have QT:=aj hQ;clear KU OL;replace F:=aj (F.out.below hb);replace ZE:=aj (bg (ZE.out.1.below hb ZE.out.1.lt) ZE.out.2);refine⟨_,rfl,F.out.q,?_⟩;clear hr hf hb hwo hQ;go_simp;refine bJ rfl (.tuple #[.agg #[int i64 Q.turn,int i64 Q.next,int i64 Q.wide,int i64 Q.high,slice f1 Q.gs.length h1,slice f2 Q.os.length h2,slice f3 Q.gold.length h3,slice f4 Q.us.length h4,slice f5 Q.qs.length h5],.nilIface]) (by go_simp) (λV hV=>by go_simp) ?_;go_simp;refine bJ rfl (.agg #[int i64 Q.turn,int i64 Q.next,int i64 Q.wide,int i64 Q.high,slice f1 Q.gs.length h1,slice f2 Q.os.length h2,slice f3 Q.gold.length h3,slice f4 Q.us.length h4,slice f5 Q.qs.length h5]) (by go_simp) (λV hV=>by go_simp) ?_;go_simp;refine bJ rfl (.nilIface) (by go_simp) (λV hV=>by go_simp) ?_;go_simp;refine dV ?_;obtain⟨z0,z1,z2,z3,z4,z5,z6,z7,z8⟩:=ZE.out.1.cells;obtain⟨t0,t1,t2,t3,t4,t5,t6,t7,t8⟩:=ZE.out.1.aU;have KZ:=aj (aY v4 bf (int i64 Q.turn) (int i64 Q.next) (int i64 Q.wide) (int i64 Q.high) (slice f1 Q.gs.length h1) (slice f2 Q.os.length h2) (slice f3 Q.gold.length h3) (slice f4 Q.us.length h4) (slice f5 Q.qs.length h5));have WZ:=aj (ZE.out.1.put (int i64 Q.turn) (int i64 Q.next) (int i64 Q.wide) (int i64 Q.high) (slice f1 Q.gs.length h1) (slice f2 Q.os.length h2) (slice f3 Q.gold.length h3) (slice f4 Q.us.length h4) (slice f5 Q.qs.length h5));refine jf rfl (((((((((v4.setCell ⟨bf,0,none⟩ (int i64 Q.turn)).setCell ⟨bf,1,none⟩ (int i64 Q.next)).setCell ⟨bf,2,none⟩ (int i64 Q.wide)).setCell ⟨bf,3,none⟩ (int i64 Q.high)).setCell ⟨bf,4,none⟩ (slice f1 Q.gs.length h1)).setCell ⟨bf,5,none⟩ (slice f2 Q.os.length h2)).setCell ⟨bf,6,none⟩ (slice f3 Q.gold.length h3)).setCell ⟨bf,7,none⟩ (slice f4 Q.us.length h4)).setCell ⟨bf,8,none⟩ (slice f5 Q.qs.length h5)) (by go_simp) (by go_simp) (F.out.q.kp KZ.out (Nat.ne_of_lt ZE.out.2.2)) ?_;clear z0 z1 z2 z3 z4 z5 z6 z7 z8 t0 t1 t2 t3 t4 t5 t6 t7 t8;generalize World.setCell _ ⟨_,8,none⟩ _=v5 at *;have GS:Hid (Fact w X (slice p1 X.gs.length q1) (slice p2 X.os.length q2) (slice p3 X.gold.length q3) (slice p4 X.us.length q4) (slice p5 X.qs.length q5) (.pointer (some ⟨bf,0,none⟩)) .nilIface v5):=⟨rfl,bf,rfl,by rw[<-QT.out];exact WZ.out.cells.1,KZ.out.below F.out.b F.out.b.size (Nat.le_of_lt ZE.out.2.1),F.out.x.kp KZ.out (Nat.ne_of_lt ZE.out.2.1)⟩;clear KZ WZ ZE F QT;go_simp;unfold gU;refine aC rfl .nilIface v5 (by go_simp) (by go_simp) trivial ?_;go_simp;unfold aH;go_wp2_with fail
    go_meet
    case rel=>exact GS.out
 case rest=>
  obtain⟨rfl,bf,rfl,cf,hB,hX⟩:=hcut;have BC:=aj hB;have XC:=aj hX;clear hB hX F;obtain⟨x0,x1,x2,x3,x4,x5,x6,x7,x8⟩:=XC.out.cells;go_wp2_with fail
  clear cf;refine(KI vk _ _ ks X ls wc (K.out.1.below BC.out) K.out.2 (H.out.1.below BC.out) (H.out.2.1.below BC.out) (H.out.2.2.below BC.out)).mono ?_;rintro e w5 ⟨v,r,FF,rfl,he,hs,hb⟩;have B5:=aj (BC.out.trans (hb.mono BC.out.size));have X5:=aj (XC.out.below hb XC.out.lt);clear x0 x1 x2 x3 x4 x5 x6 x7 x8 hb XC;rcases he with⟨rfl,rfl⟩|⟨hF,rfl⟩
  case inr=>
   go_wp2;go_ret;exact⟨rfl,B5.out⟩
  rcases hs with⟨h,-⟩|⟨-,hw,hl,⟨Y,hY⟩,xs,ho,hx,hS⟩
  ·exact absurd rfl h
  obtain⟨a,c,rfl⟩:=ho.len;obtain⟨a',c',e',-,-,hr⟩:=ho.ro;have RO:=aj ho.ro;injection e' with e1 e2 e3
  subst e1 e3;obtain⟨x,rfl,xb,hr⟩:=hr (by rintro rfl;simp at hx);have CL:=aj (λ(V:World) (b:Below w5.heap.size w5 V) (i:Nat) (Y:WV) (h:dF ks X ls i Y)=>(by rw[b.cell (p:=x.add i) (by rw[add_block];exact xb)];exact hr i _ (OJ hS (by have:=h.le;omega) h):V.cell? (x.add i)=some (int i64 ((Wd.sum (Wd.enc Y):Nat):Int))));have SM:=aj (λ(V:World) (v:Value) (i:Nat) (Y:WV) (h:dF ks X ls i Y) (hv:Wl V v Y)=>sum_any v Y V hv (sJ (bF (g_ hw h).1).Vh) (bF (g_ hw h).1).Vh.Xp);have PA:=aj (fZ hw hl hY);have XL:Hid (xs.length<=1000):=by unfold Hid;omega
  have LX:=aj hx;clear ho hr hS hw hY e2 xb;rw[hx];have hwr:IntKind.i64.wrap ((ls.length:Int)+1)=(ls.length:Int)+1:=by rw[IntKind.wrap_i64];omega
  have hlt:(ls.length:Int)<(ls.length:Int)+1:=by omega
  have hl0:(0:Int)<(ls.length:Int)+1:=by omega
  clear hx;go_upto_region 10 with fail
  obtain⟨sm0,hs0⟩:∃s:Int,((Wd.sum (Wd.enc X):Nat):Int)=s:=⟨_,rfl⟩;have C0:=CL.out w5 (Below.refl _ _) 0 X .zero;rw[hs0] at C0;have D5:Hid (Below w5.heap.size w5 {w5 with drawn:=w5.drawn+1}):=(Below.refl _ _).drew;refine aF [(true,0),(true,1),(true,2),(true,3),(true,4),(true,5),(true,6),(true,7),(true,8),(true,9),(true,10),(false,11)] [(true,12),(true,13)] (λV=>V.cell? (x.add 0)=some (int i64 sm0)/\Wx V w.heap.size (int i64 X.turn) (int i64 X.next) (int i64 X.wide) (int i64 X.high) (slice p1 X.gs.length q1) (slice p2 X.os.length q2) (slice p3 X.gold.length q3) (slice p4 X.us.length q4) (slice p5 X.qs.length q5)) (by kernel_rfl) (by kernel_rfl) (by kernel_rfl) (by decide+kernel) (by decide+kernel) ⟨C0,X5.out⟩ ?_;generalize ({w5 with drawn:=w5.drawn+1}:World)=v5 at *;refine au rfl (slice (some x) (ls.length+1) c) (by go_simp) (λV hV=>by go_simp) ?_;go_simp;refine au rfl (int i64 ((ls.length:Nat)+1)) (by go_simp) (λV hV=>by go_simp) ?_;go_simp;refine au rfl (slice pl ls.length ql) (by go_simp) (λV hV=>by go_simp) ?_;go_simp;refine au rfl (int i64 (ls.length:Nat)) (by go_simp) (λV hV=>by go_simp) ?_;go_simp;refine au rfl (int i64 ((ls.length:Nat)+1)) (by go_simp) (λV hV=>by go_simp) ?_;go_simp;refine au rfl (.bool false) (by go_simp) (λV hV=>by go_simp) ?_;go_simp;refine au rfl (.bool false) (by go_simp) (λV hV=>by go_simp) ?_;go_simp;refine au rfl (slice (some x) (ls.length+1) c) (by go_simp) (λV hV=>by go_simp) ?_;go_simp;refine au rfl (.pointer (some (x.add 0))) (by go_simp) (λV hV=>by go_simp) ?_;go_simp;refine au rfl (int i64 sm0) (by go_simp) (λV hV=>by have c:=hV.1;go_simp) ?_;go_simp;refine au rfl (.agg #[int i64 X.turn,int i64 X.next,int i64 X.wide,int i64 X.high,slice p1 X.gs.length q1,slice p2 X.os.length q2,slice p3 X.gold.length q3,slice p4 X.us.length q4,slice p5 X.qs.length q5]) (by go_simp) (λV hV=>by obtain⟨x0,x1,x2,x3,x4,x5,x6,x7,x8⟩:=hV.2.cells;go_simp) ?_;go_simp;refine aJ rfl 13 #[.agg #[int i64 X.turn,int i64 X.next,int i64 X.wide,int i64 X.high,slice p1 X.gs.length q1,slice p2 X.os.length q2,slice p3 X.gold.length q3,slice p4 X.us.length q4,slice p5 X.qs.length q5]] (by go_simp) (by go_simp) ?_;refine(SM.out v5 _ 0 X .zero (H.out.1.below (B5.out.trans (D5.out.mono B5.out.size)))).mono ?_;rintro e w6 ⟨rfl,hb⟩;have E6:=aj (D5.out.trans (hb.mono D5.out.size));rw[hs0];refine⟨_,rfl,⟨by have:=CL.out w6 E6.out 0 X .zero;rw[hs0] at this;exact this,X5.out.below E6.out X5.out.lt⟩,?_⟩;clear hb C0 hs0 D5;go_simp;unfold aP;refine aI rfl (.bool false) (by go_simp) (λV hV=>by go_simp) ?_;go_simp;refine aI rfl (.bool false) (by go_simp) (λV hV=>by go_simp) ?_;go_simp;unfold aH;have X6:=aj (X5.out.below E6.out X5.out.lt);have B6:=aj (B5.out.trans (E6.out.mono B5.out.size));obtain⟨x0,x1,x2,x3,x4,x5,x6,x7,x8⟩:=X6.out.cells;go_wp2_with fail
  refine(wM vk _ _ ks X ls w6 (K.out.1.below B6.out) K.out.2 (H.out.1.below B6.out) (H.out.2.1.below B6.out) (H.out.2.2.below B6.out)).mono ?_;rintro e w7 ⟨v,r,FF,rfl,he,hs,hb⟩;obtain⟨rfl,A,hA,hwo⟩:=wR PA.out.1 PA.out.2.1 PA.out.2.2 (Nat.le_refl _) (by rw[List.take_length];exact hs) he;obtain⟨s1,l1,s2,l2,s3,l3,s4,l4,s5,l5,rfl⟩:=kF hwo;have PL:=aj hA;have E7:=aj (E6.out.trans (hb.mono E6.out.size));have LA:=aj hwo.l;clear he hs hb hA hwo x0 x1 x2 x3 x4 x5 x6 x7 x8 X6 B6;have BN:=aj ((Below.refl w7.heap.size w7).alloc (Nat.le_refl _) (Obj.cells #[int i64 A.turn,int i64 A.next,int i64 A.wide,int i64 A.high,slice s1 A.gs.length l1,slice s2 A.os.length l2,slice s3 A.gold.length l3,slice s4 A.us.length l4,slice s5 A.qs.length l5] 29));have XA:=aj (Wx.new (w:=w7) (int i64 A.turn) (int i64 A.next) (int i64 A.wide) (int i64 A.high) (slice s1 A.gs.length l1) (slice s2 A.os.length l2) (slice s3 A.gold.length l3) (slice s4 A.us.length l4) (slice s5 A.qs.length l5) rfl);have E8:=aj (E7.out.trans (BN.out.mono E7.out.size));replace LA:=aj (LA.out.below BN.out);clear BN;go_upto_region 13 with fail
  generalize w7.heap.size=bA at *;generalize w7.alloc _=w8 at *;obtain⟨sm1,hs1⟩:∃s:Int,((Wd.sum (Wd.enc A):Nat):Int)=s:=⟨_,rfl⟩;have C1:=CL.out w8 E8.out _ A PL.out;rw[hs1] at C1;have D8:Hid (Below w8.heap.size w8 {w8 with drawn:=w8.drawn+1}):=(Below.refl _ _).drew;refine aF [(true,0),(true,1),(true,2),(true,3),(true,4),(true,5),(true,6),(true,7),(true,8),(false,9)] [(true,10),(true,11)] (λV=>V.cell? (x.add ls.length)=some (int i64 sm1)/\Wx V bA (int i64 A.turn) (int i64 A.next) (int i64 A.wide) (int i64 A.high) (slice s1 A.gs.length l1) (slice s2 A.os.length l2) (slice s3 A.gold.length l3) (slice s4 A.us.length l4) (slice s5 A.qs.length l5)) (by kernel_rfl) (by kernel_rfl) (by kernel_rfl) (by decide+kernel) (by decide+kernel) ⟨C1,XA.out⟩ ?_;generalize ({w8 with drawn:=w8.drawn+1}:World)=v8 at *;refine au rfl (.nilIface) (by go_simp) (λV hV=>by go_simp) ?_;go_simp;refine au rfl (.bool false) (by go_simp) (λV hV=>by go_simp) ?_;go_simp;refine au rfl (.bool false) (by go_simp) (λV hV=>by go_simp) ?_;go_simp;refine au rfl (slice (some x) (ls.length+1) c) (by go_simp) (λV hV=>by go_simp) ?_;go_simp;refine au rfl (slice pl ls.length ql) (by go_simp) (λV hV=>by go_simp) ?_;go_simp;refine au rfl (int i64 (ls.length:Nat)) (by go_simp) (λV hV=>by go_simp) ?_;go_simp;refine au rfl (.pointer (some (x.add ls.length))) (by go_simp) (λV hV=>by go_simp) ?_;go_simp;refine au rfl (int i64 sm1) (by go_simp) (λV hV=>by have c:=hV.1;go_simp) ?_;go_simp;refine au rfl (.agg #[int i64 A.turn,int i64 A.next,int i64 A.wide,int i64 A.high,slice s1 A.gs.length l1,slice s2 A.os.length l2,slice s3 A.gold.length l3,slice s4 A.us.length l4,slice s5 A.qs.length l5]) (by go_simp) (λV hV=>by obtain⟨x0,x1,x2,x3,x4,x5,x6,x7,x8⟩:=hV.2.cells;go_simp) ?_;go_simp;refine aJ rfl 13 #[.agg #[int i64 A.turn,int i64 A.next,int i64 A.wide,int i64 A.high,slice s1 A.gs.length l1,slice s2 A.os.length l2,slice s3 A.gold.length l3,slice s4 A.us.length l4,slice s5 A.qs.length l5]] (by go_simp) (by go_simp) ?_;refine(SM.out v8 _ _ A PL.out (LA.out.below D8.out)).mono ?_;rintro e w9 ⟨rfl,hb⟩;have D9:=aj (D8.out.trans (hb.mono D8.out.size));have E9:=aj (E8.out.trans (D9.out.mono E8.out.size));rw[hs1];refine⟨_,rfl,⟨by have:=CL.out w9 E9.out _ A PL.out;rw[hs1] at this;exact this,XA.out.below D9.out XA.out.lt⟩,?_⟩;clear hb C1 hs1 D8 D9 LA XA;go_simp;unfold aP;refine aI rfl (.bool false) (by go_simp) (λV hV=>by go_simp) ?_;go_simp;refine aI rfl (.bool false) (by go_simp) (λV hV=>by go_simp) ?_;go_simp;unfold aH;have X9:=aj (X5.out.below E9.out X5.out.lt);have B9:=aj (B5.out.trans (E9.out.mono B5.out.size));obtain⟨x0,x1,x2,x3,x4,x5,x6,x7,x8⟩:=X9.out.cells;go_wp2_with fail
  refine(gQ vk _ _ ks X ls n w9 (K.out.1.below B9.out) K.out.2 (H.out.1.below B9.out) (H.out.2.1.below B9.out) (H.out.2.2.below B9.out)).mono ?_;rintro e w10 ⟨v,r,FF,rfl,he,hs,hb⟩;have E10:=aj (E9.out.trans (hb.mono E9.out.size));clear hb x0 x1 x2 x3 x4 x5 x6 x7 x8 X9 B9 E6 E7 E8 E9;rcases hs with⟨hn,rfl,rfl⟩|⟨m,rfl,hm,hs⟩
  case inl=>
   rcases he with⟨h,-⟩|⟨-,rfl⟩
   ·exact absurd h (by decide)
   have BN:=aj ((Below.refl w10.heap.size w10).alloc (Nat.le_refl _) (Obj.cells #[int i64 0,int i64 0,int i64 0,int i64 0,slice none 0 0,slice none 0 0,slice none 0 0,slice none 0 0,slice none 0 0] 29));go_upto_region 16 with fail
   generalize w10.alloc _=w11 at *;have BF:=aj (B5.out.trans ((E10.out.trans (BN.out.mono E10.out.size)).mono B5.out.size));by_cases h0:n<0
   ·clear hn
    go_wp2;go_ret;exact⟨rfl,BF.out⟩
   ·have h1:(ls.length:Int)<n:=by omega
    clear hn;go_wp2;go_ret;exact⟨rfl,BF.out⟩
  obtain⟨rfl,A2,hA,hwo⟩:=wR PA.out.1 PA.out.2.1 PA.out.2.2 hm hs he;obtain⟨g1,k1,g2,k2,g3,k3,g4,k4,g5,k5,rfl⟩:=kF hwo;have P2:=aj hA;have LA:=aj hwo.l;have HM:=aj hm;clear he hs hA hwo;have BN:=aj ((Below.refl w10.heap.size w10).alloc (Nat.le_refl _) (Obj.cells #[int i64 A2.turn,int i64 A2.next,int i64 A2.wide,int i64 A2.high,slice g1 A2.gs.length k1,slice g2 A2.os.length k2,slice g3 A2.gold.length k3,slice g4 A2.us.length k4,slice g5 A2.qs.length k5] 29));have XG:=aj (Wx.new (w:=w10) (int i64 A2.turn) (int i64 A2.next) (int i64 A2.wide) (int i64 A2.high) (slice g1 A2.gs.length k1) (slice g2 A2.os.length k2) (slice g3 A2.gold.length k3) (slice g4 A2.us.length k4) (slice g5 A2.qs.length k5) rfl);have E11:=aj (E10.out.trans (BN.out.mono E10.out.size));replace LA:=aj (LA.out.below BN.out);clear BN;go_upto_region 16 with fail
  generalize w10.heap.size=bG at *;generalize w10.alloc _=w11 at *;have hml:(m:Int)<(ls.length:Int)+1:=by omega
  go_wp2_with fail
  have R11:Ro w11 (slice (some x) (ls.length+1) c) xs:=by rw[<-LX.out];exact RO.out.below E11.out
  refine(wV _ xs w11 R11 XL.out).mono ?_;rintro e w12 ⟨rfl,hb⟩;have E12:=aj (E11.out.trans (hb.mono E11.out.size));replace LA:=aj (LA.out.below hb);replace XG:=aj (XG.out.below hb XG.out.lt);clear hb R11;go_upto_region 19 with fail
  obtain⟨sm2,hs2⟩:∃s:Int,((Wd.sum (Wd.enc A2):Nat):Int)=s:=⟨_,rfl⟩;have C2:=CL.out w12 E12.out _ A2 P2.out;rw[hs2] at C2;have D12:Hid (Below w12.heap.size w12 {w12 with drawn:=w12.drawn+1}):=(Below.refl _ _).drew;refine aF [(true,0),(true,1),(true,2),(true,3),(true,4),(false,5)] [(true,6),(true,7),(true,8),(true,9),(true,10),(true,11),(true,12),(true,13),(true,14),(false,15)] (λV=>V.cell? (x.add m)=some (int i64 sm2)/\Wx V bG (int i64 A2.turn) (int i64 A2.next) (int i64 A2.wide) (int i64 A2.high) (slice g1 A2.gs.length k1) (slice g2 A2.os.length k2) (slice g3 A2.gold.length k3) (slice g4 A2.us.length k4) (slice g5 A2.qs.length k5)) (by kernel_rfl) (by kernel_rfl) (by kernel_rfl) (by decide+kernel) (by decide+kernel) ⟨C2,XG.out⟩ ?_;generalize ({w12 with drawn:=w12.drawn+1}:World)=v12 at *;refine au rfl (slice (some x) (ls.length+1) c) (by go_simp) (λV hV=>by go_simp) ?_;go_simp;refine au rfl (int i64 (m:Nat)) (by go_simp) (λV hV=>by go_simp) ?_;go_simp;refine au rfl (.pointer (some (x.add m))) (by go_simp) (λV hV=>by go_simp) ?_;go_simp;refine au rfl (int i64 sm2) (by go_simp) (λV hV=>by have c:=hV.1;go_simp) ?_;go_simp;refine au rfl (.agg #[int i64 A2.turn,int i64 A2.next,int i64 A2.wide,int i64 A2.high,slice g1 A2.gs.length k1,slice g2 A2.os.length k2,slice g3 A2.gold.length k3,slice g4 A2.us.length k4,slice g5 A2.qs.length k5]) (by go_simp) (λV hV=>by obtain⟨x0,x1,x2,x3,x4,x5,x6,x7,x8⟩:=hV.2.cells;go_simp) ?_;go_simp;refine aJ rfl 13 #[.agg #[int i64 A2.turn,int i64 A2.next,int i64 A2.wide,int i64 A2.high,slice g1 A2.gs.length k1,slice g2 A2.os.length k2,slice g3 A2.gold.length k3,slice g4 A2.us.length k4,slice g5 A2.qs.length k5]] (by go_simp) (by go_simp) ?_;refine(SM.out v12 _ _ A2 P2.out (LA.out.below D12.out)).mono ?_;rintro e w13 ⟨rfl,hb⟩;have D13:=aj (D12.out.trans (hb.mono D12.out.size));have E13:=aj (E12.out.trans (D13.out.mono E12.out.size));rw[hs2];refine⟨_,rfl,⟨by have:=CL.out w13 E13.out _ A2 P2.out;rw[hs2] at this;exact this,XG.out.below D13.out XG.out.lt⟩,?_⟩;clear hb C2 hs2 D12 D13 LA XG;go_simp;unfold aP;refine aI rfl (.bool true) (by go_simp) (λV hV=>by go_simp) ?_;go_simp;refine aI rfl (.bool true) (by go_simp) (λV hV=>by go_simp) ?_;go_simp;refine aI rfl (.iface 85 (int i64 6)) (by go_simp) (λV hV=>by go_simp) ?_;go_simp;refine aI rfl (.bool true) (by go_simp) (λV hV=>by go_simp) ?_;go_simp;refine aI rfl (.bool true) (by go_simp) (λV hV=>by go_simp) ?_;go_simp;refine aI rfl (.bool true) (by go_simp) (λV hV=>by go_simp) ?_;go_simp;refine aI rfl (int i64 0) (by go_simp) (λV hV=>by go_simp) ?_;go_simp;refine aI rfl (.bool true) (by go_simp) (λV hV=>by go_simp) ?_;go_simp;refine aI rfl (.bool true) (by go_simp) (λV hV=>by go_simp) ?_;go_simp;refine aC rfl (.bool true) w13 (by go_simp) (by go_simp) trivial ?_;go_simp;unfold aH;go_wp2;go_ret;exact⟨rfl,B5.out.trans (E13.out.mono B5.out.size)⟩
end Go.Proofs.YtolfphmdmpehdaaGreatDoor.replaySeeks
namespace Go.Proofs.YtolfphmdmpehdaaGreatDoor
open Go.ChangeShapes Go.WideShapes Go.ChangeAt Go.RowKit
theorem A_:Tryz.prog.globalNamed "marchland/field.sides" =some 2:=by kernel_rfl
theorem OM:(Tryz.prog.globals[2]?).map (·.type)=some 303:=by kernel_rfl
theorem Bc:Tryz.prog.cellsOf 302=2:=by kernel_rfl
theorem RH:Tryz.prog.cellsOf 3=1:=by kernel_rfl
theorem len2{α:Type}{l:List α}(h:l.length=2):∃a b,l=[a,b]:=by
 match l,h with
 |[a,b],_=>exact⟨a,b,rfl⟩
theorem Xn{α:Type}{l:List α}(h:l.length=4):∃a b c d,l=[a,b,c,d]:=by
 match l,h with
 |[a,b,c,d],_=>exact⟨a,b,c,d,rfl⟩
theorem jM{w:World}{fuel:Nat}{cs:List Value}{a b:Int}{y:DataW Unit×List MemPlace}(h:DataW.trod (λ_=>()) Tryz.prog w 0 (λ_=>true) false fuel 302 cs=some y)(hy:y.1=.agg [.lit (.int .i64 a),.lit (.int .i64 b)]):cs=[.int .i64 a,.int .i64 b]:=by
 obtain⟨y0,y1,n,hx,hl,h0,h1⟩:=trod_struct2 Tryz.underlying302 h;obtain⟨p,e0,f0,-⟩:=DataW.trod_int Tryz.underlying3 h0;obtain⟨q,e1,f1,-⟩:=DataW.trod_int Tryz.underlying3 h1;rw[hx,f0,f1] at hy;simp only[DataW.agg.injEq,List.cons.injEq,DataW.lit.injEq,Lit.int.injEq,true_and,and_true] at hy;obtain⟨rfl,rfl⟩:=hy;dsimp only at e0 e1;rw[RH] at e0 e1;rw[Bc] at hl;obtain⟨c0,c1,rfl⟩:=len2 hl;simp at e0 e1;rw[e0,e1]
theorem zM{w:World}(h:laidMet Tryz.prog [("marchland/field.sides",Rows.laid_marchland_field_sides)] w):Sd w:=by
 obtain⟨ps,⟨g,t,cs,fuel,p,q,h1,h2,h3,h4,-,-⟩,-,-⟩:=h;obtain rfl:=Option.some.inj (A_.symm.trans h1);obtain rfl:=Option.some.inj (OM.symm.trans h2);obtain⟨xs,m,-,hx,hl,hn,hi⟩:=DataW.trod_array Tryz.underlying303 h4;have hd:xs.map (·.1)=[.agg [.lit (.int .i64 0),.lit (.int .i64 (-1))],.agg [.lit (.int .i64 (-1)),.lit (.int .i64 0)],.agg [.lit (.int .i64 1),.lit (.int .i64 0)],.agg [.lit (.int .i64 0),.lit (.int .i64 1)]]:=by
  have e:Rows.laid_marchland_field_sides=DataW.agg (xs.map (·.1)):=congrArg Prod.fst hx;unfold Rows.laid_marchland_field_sides at e;injection e with e
  exact e.symm
 obtain⟨x0,x1,x2,x3,rfl⟩:=Xn hn;simp only[List.map_cons,List.map_nil,List.cons.injEq,and_true] at hd;obtain⟨d0,d1,d2,d3⟩:=hd;have i0:=jM (hi 0 (by decide)) d0;have i1:=jM (hi 1 (by decide)) d1;have i2:=jM (hi 2 (by decide)) d2;have i3:=jM (hi 3 (by decide)) d3;rw[Bc] at i0 i1 i2 i3;have ec:∀k:Nat,w.cell? ⟨2,k,none⟩=cs.toList[k]? :=λk=>by
  have e:=World.var?_cell A_ h3 k;rw[e,Array.getElem?_toList]
 have g0:∀k a b,(cs.toList.drop (k*2)).take 2=[.int .i64 a,.int .i64 b]->cs.toList[k*2]? =some (.int .i64 a)/\cs.toList[k*2+1]? =some (.int .i64 b):=by
  intro k a b e;constructor
  ·have:=congrArg (λl=>l[0]?) e
   simpa[List.getElem?_take,List.getElem?_drop] using this
  ·have:=congrArg (λl=>l[1]?) e
   simpa[List.getElem?_take,List.getElem?_drop] using this
 have j0:=g0 0 _ _ i0;have j1:=g0 1 _ _ i1;have j2:=g0 2 _ _ i2;have j3:=g0 3 _ _ i3;exact⟨(ec 0).trans j0.1,(ec 1).trans j0.2,(ec 2).trans j1.1,(ec 3).trans j1.2,(ec 4).trans j2.1,(ec 5).trans j2.2,(ec 6).trans j3.1,(ec 7).trans j3.2⟩
end Go.Proofs.YtolfphmdmpehdaaGreatDoor
