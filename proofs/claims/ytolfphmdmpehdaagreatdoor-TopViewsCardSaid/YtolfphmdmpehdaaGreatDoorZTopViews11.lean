/- world.Decode: readWorld. And more. -/
import Derived.Test.YtolfphmdmpehdaaGreatDoorZTopViews10
import Derived.Deep.RegionHeld3
import Derived.Deep.SlicePairs
set_option linter.unusedVariables false
set_option linter.unusedSimpArgs false
set_option maxHeartbeats 80000000
set_option maxRecDepth 100000
open Go.Value (int slice)
open Go.IntKind (i64)
open Go.Obj (cells)
open Go.Proofs.Tryz
namespace Go.Proofs.YtolfphmdmpehdaaGreatDoor
section
open Go.RowKit
theorem Wo.k2{w w':World}{base y z:Nat}{v:Value}{W:WV}(h:Wo w base v W)(k:K2 y z w w')(hy:y<base)(hz:z<base):Wo w' base v W:=by
 obtain⟨u1,u2,u3,u4,u5,h1,h2,h3,h4,h5,h6⟩:=h;exact⟨u1,u2,u3,u4,u5,h1,fJ h2 k hy hz,fJ h3 k hy hz,fJ h4 k hy hz,fJ h5 k hy hz,fJ h6 k hy hz⟩
def Vs(w0:World)(zb za zf zn:Nat)(v:Value)(l:List UInt8)(w:World)(a:Nat)(f:Bool)(e:Ending)(w':World):Prop:=
 ∃(W:WV) (a':Nat) (f':Bool) (u:Value),e=.returned u/\Wo w' w.heap.size u W/\Wd.Rd (Wd.pz l) a f W a' f'/\Ds w0 zb za zf zn v l w' a' f'/\K2 za zf w w'
theorem Jc(w0:World)(zb za zf zn:Nat)(v:Value)(l:List UInt8)(w:World)(a:Nat)(f:Bool)(h:Ds w0 zb za zf zn v l w a f):
  Calls prog 75 #[jX zb za zf,sW zn zf] w (Vs w0 zb za zf zn v l w a f):=by
 generalize hw0:((w.alloc (cells #[.func (.func 72) #[] #[.pointer (some ⟨zb,0,none⟩),.pointer (some ⟨za,0,none⟩),.pointer (some ⟨zf,0,none⟩)]] 120)).alloc (cells #[int i64 0,int i64 0,int i64 0,int i64 0,slice none 0 0,slice none 0 0,slice none 0 0,slice none 0 0,slice none 0 0] 29))=w1;have B1:Hid (Below w.heap.size w w1):=by rw[<-hw0];exact aA.alloc (by simp) _
 have S1:Hid (w1.heap.size=w.heap.size+2):=by unfold Hid;rw[<-hw0];simp
 have Z1:Hid (w1.heap[w.heap.size+1]? =some (cells #[int i64 0,int i64 0,int i64 0,int i64 0,slice none 0 0,slice none 0 0,slice none 0 0,slice none 0 0,slice none 0 0] 29 (0,0))):=by
  unfold Hid;have e:w.heap.size+1=(w.alloc (cells #[.func (.func 72) #[] #[.pointer (some ⟨zb,0,none⟩),.pointer (some ⟨za,0,none⟩),.pointer (some ⟨zf,0,none⟩)]] 120)).heap.size:=by simp
  rw[<-hw0,e,heap_alloc_new]
 have Hw:=aj (hw0);have D:=aj (h.kept (B1.out.mono (by have:=h.lt;omega)));have cx1:w1.cell? ⟨w.heap.size,0,none⟩=some (.func (.func 72) #[] #[.pointer (some ⟨zb,0,none⟩),.pointer (some ⟨za,0,none⟩),.pointer (some ⟨zf,0,none⟩)]):=by rw[<-hw0];simp
 have ord:Hid (za<zf/\zf<zn/\zn<w.heap.size):=⟨h.d.af,h.fn,h.lt⟩;clear h hw0;unfold jX sW;go_enter func75,ntmps75;go_upto_region 3 with fail
 rw[Hw.out];have cx2:({w1 with drawn:=w1.drawn+1}:World).cell? _=some _:=cx1;have E0:Hid (Ds w0 zb za zf zn v l {w1 with drawn:=w1.drawn+1} a f/\K2 za zf w {w1 with drawn:=w1.drawn+1}):=⟨D.out.kept aB.drew,K2.of B1.out.drew⟩;have Z2:Hid (({w1 with drawn:=w1.drawn+1}:World).heap[w.heap.size+1]? =some _):=Z1.out;have S2:Hid (({w1 with drawn:=w1.drawn+1}:World).heap.size=w.heap.size+2):=S1.out;refine jT [(true,0),(true,2),(true,4),(true,6),(true,8),(true,9),(true,11),(true,12),(true,15),(true,16),(true,18),(true,19),(true,21),(true,22),(false,1),(false,3),(false,5),(false,7),(false,10),(false,13),(true,14),(false,17),(false,20),(false,23),(false,24),(false,25)] (λW=>W.cell? _=some _) (by kernel_rfl) (by kernel_rfl) (by kernel_rfl) (by kernel_rfl) cx1 ?_;generalize ({w1 with drawn:=w1.drawn+1}:World)=w2 at *;refine aQ rfl (.func (.func 72) #[] #[.pointer (some ⟨zb,0,none⟩),.pointer (some ⟨za,0,none⟩),.pointer (some ⟨zf,0,none⟩)]) (by go_simp) (λW hW=>by go_simp) ?_;go_simp;refine aQ rfl (.func (.func 72) #[] #[.pointer (some ⟨zb,0,none⟩),.pointer (some ⟨za,0,none⟩),.pointer (some ⟨zf,0,none⟩)]) (by go_simp) (λW hW=>by go_simp) ?_;go_simp;refine aQ rfl (.func (.func 72) #[] #[.pointer (some ⟨zb,0,none⟩),.pointer (some ⟨za,0,none⟩),.pointer (some ⟨zf,0,none⟩)]) (by go_simp) (λW hW=>by go_simp) ?_;go_simp;refine aQ rfl (.func (.func 72) #[] #[.pointer (some ⟨zb,0,none⟩),.pointer (some ⟨za,0,none⟩),.pointer (some ⟨zf,0,none⟩)]) (by go_simp) (λW hW=>by go_simp) ?_;go_simp;refine aQ rfl (.func (.func 73) #[] #[.pointer (some ⟨zn,0,none⟩),.pointer (some ⟨zf,0,none⟩)]) (by go_simp) (λW hW=>by go_simp) ?_;go_simp;refine aQ rfl (.func (.func 72) #[] #[.pointer (some ⟨zb,0,none⟩),.pointer (some ⟨za,0,none⟩),.pointer (some ⟨zf,0,none⟩)]) (by go_simp) (λW hW=>by go_simp) ?_;go_simp;refine aQ rfl (.func (.func 73) #[] #[.pointer (some ⟨zn,0,none⟩),.pointer (some ⟨zf,0,none⟩)]) (by go_simp) (λW hW=>by go_simp) ?_;go_simp;refine aQ rfl (.func (.func 72) #[] #[.pointer (some ⟨zb,0,none⟩),.pointer (some ⟨za,0,none⟩),.pointer (some ⟨zf,0,none⟩)]) (by go_simp) (λW hW=>by go_simp) ?_;go_simp;refine aQ rfl (.func (.func 73) #[] #[.pointer (some ⟨zn,0,none⟩),.pointer (some ⟨zf,0,none⟩)]) (by go_simp) (λW hW=>by go_simp) ?_;go_simp;refine aQ rfl (.func (.func 72) #[] #[.pointer (some ⟨zb,0,none⟩),.pointer (some ⟨za,0,none⟩),.pointer (some ⟨zf,0,none⟩)]) (by go_simp) (λW hW=>by go_simp) ?_;go_simp;refine aQ rfl (.func (.func 73) #[] #[.pointer (some ⟨zn,0,none⟩),.pointer (some ⟨zf,0,none⟩)]) (by go_simp) (λW hW=>by go_simp) ?_;go_simp;refine aQ rfl (.func (.func 115) #[] #[.pointer (some ⟨w.heap.size,0,none⟩)]) (by go_simp) (λW hW=>by go_simp) ?_;go_simp;refine aQ rfl (.func (.func 73) #[] #[.pointer (some ⟨zn,0,none⟩),.pointer (some ⟨zf,0,none⟩)]) (by go_simp) (λW hW=>by go_simp) ?_;go_simp;refine aQ rfl (.func (.func 116) #[] #[.pointer (some ⟨w.heap.size,0,none⟩)]) (by go_simp) (λW hW=>by go_simp) ?_;go_simp;refine bI rfl 72 #[.pointer (some ⟨zb,0,none⟩),.pointer (some ⟨za,0,none⟩),.pointer (some ⟨zf,0,none⟩)] (by go_simp) (by go_simp) ?_;refine(dL w0 zb za zf v l w2 a f E0.out.1.d).mono ?_;rintro e x0 ⟨n0,a0,f0,rfl,hrd,hd,hk⟩;have R0:=aj (hrd);have Q0:=aj (fQ (E0.out.1.to hd hk) hk hk);clear hrd hd hk;refine⟨_,rfl,?_,?_⟩
 ·have:=ord.out
  have:=S2.out;rw[Q0.out.2.1.cell ⟨w.heap.size,0,none⟩ (by show w.heap.size<_;omega) (by show w.heap.size≠_;omega) (by show w.heap.size≠_;omega)];exact cx2
 go_simp;refine bI rfl 72 #[.pointer (some ⟨zb,0,none⟩),.pointer (some ⟨za,0,none⟩),.pointer (some ⟨zf,0,none⟩)] (by go_simp) (by go_simp) ?_;refine(dL w0 zb za zf v l x0 a0 f0 Q0.out.1.d).mono ?_;rintro e x1 ⟨n1,a1,f1,rfl,hrd,hd,hk⟩;have R1:=aj (hrd);have Q1:=aj (fQ (Q0.out.1.to hd hk) (Q0.out.2.1.trans hk) hk);clear hrd hd hk;refine⟨_,rfl,?_,?_⟩
 ·have:=ord.out
  have:=S2.out;rw[Q1.out.2.1.cell ⟨w.heap.size,0,none⟩ (by show w.heap.size<_;omega) (by show w.heap.size≠_;omega) (by show w.heap.size≠_;omega)];exact cx2
 go_simp;refine bI rfl 72 #[.pointer (some ⟨zb,0,none⟩),.pointer (some ⟨za,0,none⟩),.pointer (some ⟨zf,0,none⟩)] (by go_simp) (by go_simp) ?_;refine(dL w0 zb za zf v l x1 a1 f1 Q1.out.1.d).mono ?_;rintro e x2 ⟨n2,a2,f2,rfl,hrd,hd,hk⟩;have R2:=aj (hrd);have Q2:=aj (fQ (Q1.out.1.to hd hk) (Q1.out.2.1.trans hk) hk);clear hrd hd hk;refine⟨_,rfl,?_,?_⟩
 ·have:=ord.out
  have:=S2.out;rw[Q2.out.2.1.cell ⟨w.heap.size,0,none⟩ (by show w.heap.size<_;omega) (by show w.heap.size≠_;omega) (by show w.heap.size≠_;omega)];exact cx2
 go_simp;refine bI rfl 72 #[.pointer (some ⟨zb,0,none⟩),.pointer (some ⟨za,0,none⟩),.pointer (some ⟨zf,0,none⟩)] (by go_simp) (by go_simp) ?_;refine(dL w0 zb za zf v l x2 a2 f2 Q2.out.1.d).mono ?_;rintro e x3 ⟨n3,a3,f3,rfl,hrd,hd,hk⟩;have R3:=aj (hrd);have Q3:=aj (fQ (Q2.out.1.to hd hk) (Q2.out.2.1.trans hk) hk);clear hrd hd hk;refine⟨_,rfl,?_,?_⟩
 ·have:=ord.out
  have:=S2.out;rw[Q3.out.2.1.cell ⟨w.heap.size,0,none⟩ (by show w.heap.size<_;omega) (by show w.heap.size≠_;omega) (by show w.heap.size≠_;omega)];exact cx2
 go_simp;have cc:x3.cell? ⟨w.heap.size,0,none⟩=some (.func (.func 72) #[] #[.pointer (some ⟨zb,0,none⟩),.pointer (some ⟨za,0,none⟩),.pointer (some ⟨zf,0,none⟩)]):=by
  have:=ord.out;have:=S2.out;rw[Q3.out.2.1.cell ⟨w.heap.size,0,none⟩ (by show w.heap.size<_;omega) (by show w.heap.size≠_;omega) (by show w.heap.size≠_;omega)];exact cx2
 refine bI rfl 117 #[.func (.func 73) #[] #[.pointer (some ⟨zn,0,none⟩),.pointer (some ⟨zf,0,none⟩)],.func (.func 72) #[] #[.pointer (some ⟨zb,0,none⟩),.pointer (some ⟨za,0,none⟩),.pointer (some ⟨zf,0,none⟩)]] (by go_simp) (by go_simp) ?_;refine(sG w0 zb za zf zn v l x3 a3 f3 Q3.out.1).mono ?_;rintro e x4 ⟨n4,a4,f4,u4,rfl,ho,hl,hrd,hd,hk⟩;obtain⟨p4,q4,rfl⟩:=ho.len;have R4:=aj (hrd);have O4:=aj (ho);have Q4:=aj (fQ hd (Q3.out.2.1.trans hk) hk);clear hrd hd hk ho hl cc;refine⟨_,rfl,?_,?_⟩
 ·have:=ord.out
  have:=S2.out;rw[Q4.out.2.1.cell ⟨w.heap.size,0,none⟩ (by show w.heap.size<_;omega) (by show w.heap.size≠_;omega) (by show w.heap.size≠_;omega)];exact cx2
 go_simp;have cc:x4.cell? ⟨w.heap.size,0,none⟩=some (.func (.func 72) #[] #[.pointer (some ⟨zb,0,none⟩),.pointer (some ⟨za,0,none⟩),.pointer (some ⟨zf,0,none⟩)]):=by
  have:=ord.out;have:=S2.out;rw[Q4.out.2.1.cell ⟨w.heap.size,0,none⟩ (by show w.heap.size<_;omega) (by show w.heap.size≠_;omega) (by show w.heap.size≠_;omega)];exact cx2
 refine bI rfl 117 #[.func (.func 73) #[] #[.pointer (some ⟨zn,0,none⟩),.pointer (some ⟨zf,0,none⟩)],.func (.func 72) #[] #[.pointer (some ⟨zb,0,none⟩),.pointer (some ⟨za,0,none⟩),.pointer (some ⟨zf,0,none⟩)]] (by go_simp) (by go_simp) ?_;refine(sG w0 zb za zf zn v l x4 a4 f4 Q4.out.1).mono ?_;rintro e x5 ⟨n5,a5,f5,u5,rfl,ho,hl,hrd,hd,hk⟩;obtain⟨p5,q5,rfl⟩:=ho.len;have R5:=aj (hrd);have O5:=aj (ho);have Q5:=aj (fQ hd (Q4.out.2.1.trans hk) hk);clear hrd hd hk ho hl cc;refine⟨_,rfl,?_,?_⟩
 ·have:=ord.out
  have:=S2.out;rw[Q5.out.2.1.cell ⟨w.heap.size,0,none⟩ (by show w.heap.size<_;omega) (by show w.heap.size≠_;omega) (by show w.heap.size≠_;omega)];exact cx2
 go_simp;refine aQ rfl (.agg #[int i64 n2,int i64 n3,slice p4 n4.length q4,slice p5 n5.length q5]) (by go_simp) (λW hW=>by go_simp) ?_;go_simp;have cc:x5.cell? ⟨w.heap.size,0,none⟩=some (.func (.func 72) #[] #[.pointer (some ⟨zb,0,none⟩),.pointer (some ⟨za,0,none⟩),.pointer (some ⟨zf,0,none⟩)]):=by
  have:=ord.out;have:=S2.out;rw[Q5.out.2.1.cell ⟨w.heap.size,0,none⟩ (by show w.heap.size<_;omega) (by show w.heap.size≠_;omega) (by show w.heap.size≠_;omega)];exact cx2
 refine bI rfl 117 #[.func (.func 73) #[] #[.pointer (some ⟨zn,0,none⟩),.pointer (some ⟨zf,0,none⟩)],.func (.func 72) #[] #[.pointer (some ⟨zb,0,none⟩),.pointer (some ⟨za,0,none⟩),.pointer (some ⟨zf,0,none⟩)]] (by go_simp) (by go_simp) ?_;refine(sG w0 zb za zf zn v l x5 a5 f5 Q5.out.1).mono ?_;rintro e x6 ⟨n6,a6,f6,u6,rfl,ho,hl,hrd,hd,hk⟩;obtain⟨p6,q6,rfl⟩:=ho.len;have R6:=aj (hrd);have O6:=aj (ho);have Q6:=aj (fQ hd (Q5.out.2.1.trans hk) hk);clear hrd hd hk ho hl cc;refine⟨_,rfl,?_,?_⟩
 ·have:=ord.out
  have:=S2.out;rw[Q6.out.2.1.cell ⟨w.heap.size,0,none⟩ (by show w.heap.size<_;omega) (by show w.heap.size≠_;omega) (by show w.heap.size≠_;omega)];exact cx2
 go_simp;have cc:x6.cell? ⟨w.heap.size,0,none⟩=some (.func (.func 72) #[] #[.pointer (some ⟨zb,0,none⟩),.pointer (some ⟨za,0,none⟩),.pointer (some ⟨zf,0,none⟩)]):=by
  have:=ord.out;have:=S2.out;rw[Q6.out.2.1.cell ⟨w.heap.size,0,none⟩ (by show w.heap.size<_;omega) (by show w.heap.size≠_;omega) (by show w.heap.size≠_;omega)];exact cx2
 refine bI rfl 118 #[.func (.func 73) #[] #[.pointer (some ⟨zn,0,none⟩),.pointer (some ⟨zf,0,none⟩)],.func (.func 115) #[] #[.pointer (some ⟨w.heap.size,0,none⟩)]] (by go_simp) (by go_simp) ?_;refine(Jb w0 zb za zf zn _ v l x6 a6 f6 Q6.out.1 (by have:=ord.out;omega) cc).mono ?_;rintro e x7 ⟨n7,a7,f7,u7,rfl,ho,hl,hrd,hd,hk⟩;obtain⟨p7,q7,rfl⟩:=ho.len;have R7:=aj (hrd);have O7:=aj (ho);have Q7:=aj (fQ hd (Q6.out.2.1.trans hk) hk);clear hrd hd hk ho hl cc;refine⟨_,rfl,?_,?_⟩
 ·have:=ord.out
  have:=S2.out;rw[Q7.out.2.1.cell ⟨w.heap.size,0,none⟩ (by show w.heap.size<_;omega) (by show w.heap.size≠_;omega) (by show w.heap.size≠_;omega)];exact cx2
 go_simp;have cc:x7.cell? ⟨w.heap.size,0,none⟩=some (.func (.func 72) #[] #[.pointer (some ⟨zb,0,none⟩),.pointer (some ⟨za,0,none⟩),.pointer (some ⟨zf,0,none⟩)]):=by
  have:=ord.out;have:=S2.out;rw[Q7.out.2.1.cell ⟨w.heap.size,0,none⟩ (by show w.heap.size<_;omega) (by show w.heap.size≠_;omega) (by show w.heap.size≠_;omega)];exact cx2
 refine bI rfl 119 #[.func (.func 73) #[] #[.pointer (some ⟨zn,0,none⟩),.pointer (some ⟨zf,0,none⟩)],.func (.func 116) #[] #[.pointer (some ⟨w.heap.size,0,none⟩)]] (by go_simp) (by go_simp) ?_;refine(OM w0 zb za zf zn _ v l x7 a7 f7 Q7.out.1 (by have:=ord.out;omega) cc).mono ?_;rintro e x8 ⟨n8,a8,f8,u8,rfl,ho,hl,hrd,hd,hk⟩;obtain⟨p8,q8,rfl⟩:=ho.len;have R8:=aj (hrd);have O8:=aj (ho);have Q8:=aj (fQ hd (Q7.out.2.1.trans hk) hk);clear hrd hd hk ho hl cc;refine⟨_,rfl,?_,?_⟩
 ·have:=ord.out
  have:=S2.out;rw[Q8.out.2.1.cell ⟨w.heap.size,0,none⟩ (by show w.heap.size<_;omega) (by show w.heap.size≠_;omega) (by show w.heap.size≠_;omega)];exact cx2
 go_simp;have Z:Hid (x8.heap[w.heap.size+1]? =some (cells #[int i64 0,int i64 0,int i64 0,int i64 0,slice none 0 0,slice none 0 0,slice none 0 0,slice none 0 0,slice none 0 0] 29 (0,0))):=by
  unfold Hid;have:=ord.out;have:=S2.out;rw[Q8.out.2.1.block (w.heap.size+1) (by omega) (by omega) (by omega)];exact Z2.out
 have c0:x8.cell? ⟨w.heap.size+1,0,none⟩=some (int i64 0):=by have:=Z.out;simp[World.cell?,this]
 have t0:x8.frozen? ⟨w.heap.size+1,0,none⟩=false:=by have:=Z.out;simp[World.frozen?,this]
 have c1:x8.cell? ⟨w.heap.size+1,1,none⟩=some (int i64 0):=by have:=Z.out;simp[World.cell?,this]
 have t1:x8.frozen? ⟨w.heap.size+1,1,none⟩=false:=by have:=Z.out;simp[World.frozen?,this]
 have c2:x8.cell? ⟨w.heap.size+1,2,none⟩=some (int i64 0):=by have:=Z.out;simp[World.cell?,this]
 have t2:x8.frozen? ⟨w.heap.size+1,2,none⟩=false:=by have:=Z.out;simp[World.frozen?,this]
 have c3:x8.cell? ⟨w.heap.size+1,3,none⟩=some (int i64 0):=by have:=Z.out;simp[World.cell?,this]
 have t3:x8.frozen? ⟨w.heap.size+1,3,none⟩=false:=by have:=Z.out;simp[World.frozen?,this]
 have c4:x8.cell? ⟨w.heap.size+1,4,none⟩=some (slice none 0 0):=by have:=Z.out;simp[World.cell?,this]
 have t4:x8.frozen? ⟨w.heap.size+1,4,none⟩=false:=by have:=Z.out;simp[World.frozen?,this]
 have c5:x8.cell? ⟨w.heap.size+1,5,none⟩=some (slice none 0 0):=by have:=Z.out;simp[World.cell?,this]
 have t5:x8.frozen? ⟨w.heap.size+1,5,none⟩=false:=by have:=Z.out;simp[World.frozen?,this]
 have c6:x8.cell? ⟨w.heap.size+1,6,none⟩=some (slice none 0 0):=by have:=Z.out;simp[World.cell?,this]
 have t6:x8.frozen? ⟨w.heap.size+1,6,none⟩=false:=by have:=Z.out;simp[World.frozen?,this]
 have c7:x8.cell? ⟨w.heap.size+1,7,none⟩=some (slice none 0 0):=by have:=Z.out;simp[World.cell?,this]
 have t7:x8.frozen? ⟨w.heap.size+1,7,none⟩=false:=by have:=Z.out;simp[World.frozen?,this]
 have c8:x8.cell? ⟨w.heap.size+1,8,none⟩=some (slice none 0 0):=by have:=Z.out;simp[World.cell?,this]
 have t8:x8.frozen? ⟨w.heap.size+1,8,none⟩=false:=by have:=Z.out;simp[World.frozen?,this]
 have Zm:x8.cell? ⟨w.heap.size,0,none⟩=some (.func (.func 72) #[] #[.pointer (some ⟨zb,0,none⟩),.pointer (some ⟨za,0,none⟩),.pointer (some ⟨zf,0,none⟩)]):=by
  have:=ord.out;have:=S2.out;rw[Q8.out.2.1.cell ⟨w.heap.size,0,none⟩ (by show w.heap.size<_;omega) (by show w.heap.size≠_;omega) (by show w.heap.size≠_;omega)];exact cx2
 refine aW rfl (.agg #[int i64 n0,int i64 n1,int i64 n2,int i64 n3,slice p4 n4.length q4,slice p5 n5.length q5,slice p6 n6.length q6,slice p7 n7.length q7,slice p8 n8.length q8]) x8 (by go_simp) (by go_simp) Zm ?_;go_simp;have KC:Hid (K2 _ (w.heap.size+1) x8 (((((((((x8.setCell _ (int i64 n0)).setCell _ (int i64 n1)).setCell _ (int i64 n2)).setCell _ (int i64 n3)).setCell _ (slice p4 n4.length q4)).setCell _ (slice p5 n5.length q5)).setCell _ (slice p6 n6.length q6)).setCell _ (slice p7 n7.length q7)).setCell ⟨w.heap.size+1,8,none⟩ (slice p8 n8.length q8))):=(((((((((K2.jw x8 0 _).trans (K2.jw _ 1 _)).trans (K2.jw _ 2 _)).trans (K2.jw _ 3 _)).trans (K2.jw _ 4 _)).trans (K2.jw _ 5 _)).trans (K2.jw _ 6 _)).trans (K2.jw _ 7 _)).trans (K2.jw _ 8 _));have ZZ:Hid ((((((((((x8.setCell _ _).setCell ⟨w.heap.size+1,1,none⟩ (int i64 n1)).setCell ⟨w.heap.size+1,2,none⟩ (int i64 n2)).setCell ⟨w.heap.size+1,3,none⟩ (int i64 n3)).setCell ⟨w.heap.size+1,4,none⟩ (slice p4 n4.length q4)).setCell ⟨w.heap.size+1,5,none⟩ (slice p5 n5.length q5)).setCell ⟨w.heap.size+1,6,none⟩ (slice p6 n6.length q6)).setCell ⟨w.heap.size+1,7,none⟩ (slice p7 n7.length q7)).setCell ⟨w.heap.size+1,8,none⟩ (slice p8 n8.length q8)).heap[w.heap.size+1]? =some (cells #[int i64 n0,int i64 n1,int i64 n2,int i64 n3,slice p4 n4.length q4,slice p5 n5.length q5,slice p6 n6.length q6,slice p7 n7.length q7,slice p8 n8.length q8] 29 (0,0))):=heap_setCell_same _ (w.heap.size+1) 8 _ _ (slice p8 n8.length q8) (heap_setCell_same _ (w.heap.size+1) 7 _ _ (slice p7 n7.length q7) (heap_setCell_same _ (w.heap.size+1) 6 _ _ (slice p6 n6.length q6) (heap_setCell_same _ (w.heap.size+1) 5 _ _ (slice p5 n5.length q5) (heap_setCell_same _ (w.heap.size+1) 4 _ _ (slice p4 n4.length q4) (heap_setCell_same _ (w.heap.size+1) 3 _ _ (int i64 n3) (heap_setCell_same _ (w.heap.size+1) 2 _ _ (int i64 n2) (heap_setCell_same _ (w.heap.size+1) 1 _ _ (int i64 n1) (heap_setCell_same _ (w.heap.size+1) 0 _ _ (int i64 n0) (Z.out)))))))));have X8:Hid (w.heap.size+2<=x8.heap.size):=by have:=S2.out;have:=Q8.out.2.1.size;unfold Hid;omega
 refine iH rfl _ (by go_simp) (by go_simp) ((KC.out.cell ⟨w.heap.size,0,none⟩ (by have:=X8.out;show w.heap.size<_;omega) (by show w.heap.size≠_;omega) (by show w.heap.size≠_;omega)).trans Zm) ?_;go_simp;generalize World.setCell _ ⟨_,8,none⟩ _=w3 at *;unfold bC;have s4:=Q3.out.2.1.size;have s5:=Q4.out.2.2.size;have s6:=Q5.out.2.2.size;have s7:=Q6.out.2.2.size;have s8:=Q7.out.2.2.size;have s2:=S2.out;have od:=ord.out;have k78:=Q8.out.2.2;have k68:=Q7.out.2.2.trans k78;have k58:=Q6.out.2.2.trans k68;have k48:=Q5.out.2.2.trans k58;have FIN:Hid (Vs w0 zb za zf zn v l w a f (.returned (.agg #[int i64 n0,int i64 n1,int i64 n2,int i64 n3,slice p4 n4.length q4,slice p5 n5.length q5,slice p6 n6.length q6,slice p7 n7.length q7,slice p8 n8.length q8])) w3):=by
  refine⟨⟨n0,n1,n2,n3,n4,n5,n6,n7,n8⟩,a8,f8,_,rfl,⟨_,_,_,_,_,rfl,?_,?_,?_,?_,?_⟩,R0.out.bind (R1.out.bind (R2.out.bind (R3.out.bind (R4.out.bind (R5.out.bind (R6.out.bind (R7.out.bind (R8.out.bind (Wd.Rd.ret _ _ _))))))))),?_,?_⟩
  ·exact Ow.mono (fJ (fJ O4.out k48 (by omega) (by omega)) KC.out (by omega) (by omega)) (by omega)
  ·exact Ow.mono (fJ (fJ O5.out k58 (by omega) (by omega)) KC.out (by omega) (by omega)) (by omega)
  ·exact Ow.mono (fJ (fJ O6.out k68 (by omega) (by omega)) KC.out (by omega) (by omega)) (by omega)
  ·exact fD.mono (fJ (fJ O7.out k78 (by omega) (by omega)) KC.out (by omega) (by omega)) (by omega)
  ·exact fB.mono (fJ O8.out KC.out (by omega) (by omega)) (by omega)
  ·exact Q8.out.1.kept (K2.below aB KC.out (by have:=X8.out;omega) (by omega) (by omega))
  ·exact(E0.out.2.trans Q8.out.2.1).qo (K2.below aB KC.out (by have:=X8.out;omega) (by omega) (by omega))
 have y0:w3.cell? ⟨w.heap.size+1,0,none⟩=some (int i64 n0):=by have:=ZZ.out;simp[World.cell?,this]
 have y1:w3.cell? ⟨w.heap.size+1,1,none⟩=some (int i64 n1):=by have:=ZZ.out;simp[World.cell?,this]
 have y2:w3.cell? ⟨w.heap.size+1,2,none⟩=some (int i64 n2):=by have:=ZZ.out;simp[World.cell?,this]
 have y3:w3.cell? ⟨w.heap.size+1,3,none⟩=some (int i64 n3):=by have:=ZZ.out;simp[World.cell?,this]
 have y4:w3.cell? ⟨w.heap.size+1,4,none⟩=some (slice p4 n4.length q4):=by have:=ZZ.out;simp[World.cell?,this]
 have y5:w3.cell? ⟨w.heap.size+1,5,none⟩=some (slice p5 n5.length q5):=by have:=ZZ.out;simp[World.cell?,this]
 have y6:w3.cell? ⟨w.heap.size+1,6,none⟩=some (slice p6 n6.length q6):=by have:=ZZ.out;simp[World.cell?,this]
 have y7:w3.cell? ⟨w.heap.size+1,7,none⟩=some (slice p7 n7.length q7):=by have:=ZZ.out;simp[World.cell?,this]
 have y8:w3.cell? ⟨w.heap.size+1,8,none⟩=some (slice p8 n8.length q8):=by have:=ZZ.out;simp[World.cell?,this]
 clear c0 t0 c1 t1 c2 t2 c3 t3 c4 t4 c5 t5 c6 t6 c7 t7 c8 t8 s2 s4 s5 s6 s7 s8 od k78 k68 k58 k48;go_wp2;refine bodyPost_ret (by simp[results,results75,go_sem,y0,y1,y2,y3,y4,y5,y6,y7,y8]) rfl FIN.out
def rC(l:List UInt8)(w:World)(e:Ending)(w':World):Prop:=match Wd.pz l 0 with
 |some (W,n)=>∃u,e=.returned (.tuple #[u,int i64 (n:Nat),.nilIface])/\Wo w' w.heap.size u W
 |none=>e=.returned (.tuple #[.agg #[int i64 0,int i64 0,int i64 0,int i64 0,slice none 0 0,slice none 0 0,slice none 0 0,slice none 0 0,slice none 0 0],int i64 0,.iface 85 (int i64 9)])
theorem decode_any(v:Value)(l:List UInt8)(w:World)(h:By w v l):
  Calls prog 32 #[v] w λe w'=>rC l w e w'/\Below w.heap.size w w':=by
 have B:Hid (By w v l):=h;obtain⟨ad,cap,rfl,h1,h2,h3⟩:=h;clear h1 h2 h3;have sf:∀(a:Addr) (f:Fn) (x y:Array Value) (w:World) (m:Mode),(store a (.func f x y) m).run prog w=stored prog w a (.func f x y) m:=λa f x y w m=>run_store _ w a _ m rfl
 go_enter func32,ntmps32;go_wp2_with fail
 have D1:Hid (Ds w w.heap.size (w.heap.size+1+1) (w.heap.size+1+1+1) (w.heap.size+1+1+1+1) (slice ad l.length cap) l (((((w.alloc (cells #[slice ad l.length cap] 56)).alloc (cells #[int i64 0,int i64 0,int i64 0,int i64 0,slice none 0 0,slice none 0 0,slice none 0 0,slice none 0 0,slice none 0 0] 29)).alloc (cells #[int i64 0] 3)).alloc (cells #[.bool false] 4)).alloc (cells #[.func (.func 72) #[] #[.pointer (some ⟨w.heap.size,0,none⟩),.pointer (some ⟨w.heap.size+1+1,0,none⟩),.pointer (some ⟨w.heap.size+1+1+1,0,none⟩)]] 120)) 0 false):=by
  have f1:(w.alloc (cells #[slice ad l.length cap] 56)).heap.size=w.heap.size+1:=by simp
  have f2:((w.alloc (cells #[slice ad l.length cap] 56)).alloc (cells #[int i64 0,int i64 0,int i64 0,int i64 0,slice none 0 0,slice none 0 0,slice none 0 0,slice none 0 0,slice none 0 0] 29)).heap.size=w.heap.size+1+1:=by simp
  have f3:(((w.alloc (cells #[slice ad l.length cap] 56)).alloc (cells #[int i64 0,int i64 0,int i64 0,int i64 0,slice none 0 0,slice none 0 0,slice none 0 0,slice none 0 0,slice none 0 0] 29)).alloc (cells #[int i64 0] 3)).heap.size=w.heap.size+1+1+1:=by simp
  have f4:((((w.alloc (cells #[slice ad l.length cap] 56)).alloc (cells #[int i64 0,int i64 0,int i64 0,int i64 0,slice none 0 0,slice none 0 0,slice none 0 0,slice none 0 0,slice none 0 0] 29)).alloc (cells #[int i64 0] 3)).alloc (cells #[.bool false] 4)).heap.size=w.heap.size+1+1+1+1:=by simp
  have g1:Below (w.heap.size+1) (w.alloc (cells #[slice ad l.length cap] 56)) (((((w.alloc (cells #[slice ad l.length cap] 56)).alloc (cells #[int i64 0,int i64 0,int i64 0,int i64 0,slice none 0 0,slice none 0 0,slice none 0 0,slice none 0 0,slice none 0 0] 29)).alloc (cells #[int i64 0] 3)).alloc (cells #[.bool false] 4)).alloc (cells #[.func (.func 72) #[] #[.pointer (some ⟨w.heap.size,0,none⟩),.pointer (some ⟨w.heap.size+1+1,0,none⟩),.pointer (some ⟨w.heap.size+1+1+1,0,none⟩)]] 120)):=(((aB.alloc (by simp) _).alloc (by simp) _).alloc (by simp<;>omega) _).alloc (by simp<;>omega) _;have g3:Below (w.heap.size+1+1+1) (((w.alloc (cells #[slice ad l.length cap] 56)).alloc (cells #[int i64 0,int i64 0,int i64 0,int i64 0,slice none 0 0,slice none 0 0,slice none 0 0,slice none 0 0,slice none 0 0] 29)).alloc (cells #[int i64 0] 3)) (((((w.alloc (cells #[slice ad l.length cap] 56)).alloc (cells #[int i64 0,int i64 0,int i64 0,int i64 0,slice none 0 0,slice none 0 0,slice none 0 0,slice none 0 0,slice none 0 0] 29)).alloc (cells #[int i64 0] 3)).alloc (cells #[.bool false] 4)).alloc (cells #[.func (.func 72) #[] #[.pointer (some ⟨w.heap.size,0,none⟩),.pointer (some ⟨w.heap.size+1+1,0,none⟩),.pointer (some ⟨w.heap.size+1+1+1,0,none⟩)]] 120)):=(aB.alloc (by simp) _).alloc (by simp) _;have g4:Below (w.heap.size+1+1+1+1) ((((w.alloc (cells #[slice ad l.length cap] 56)).alloc (cells #[int i64 0,int i64 0,int i64 0,int i64 0,slice none 0 0,slice none 0 0,slice none 0 0,slice none 0 0,slice none 0 0] 29)).alloc (cells #[int i64 0] 3)).alloc (cells #[.bool false] 4)) (((((w.alloc (cells #[slice ad l.length cap] 56)).alloc (cells #[int i64 0,int i64 0,int i64 0,int i64 0,slice none 0 0,slice none 0 0,slice none 0 0,slice none 0 0,slice none 0 0] 29)).alloc (cells #[int i64 0] 3)).alloc (cells #[.bool false] 4)).alloc (cells #[.func (.func 72) #[] #[.pointer (some ⟨w.heap.size,0,none⟩),.pointer (some ⟨w.heap.size+1+1,0,none⟩),.pointer (some ⟨w.heap.size+1+1+1,0,none⟩)]] 120)):=aB.alloc (by simp) _;refine⟨⟨B,aU _,by omega,by omega,(((aA.alloc (by simp) _).alloc (by simp<;>omega) _).alloc (by simp<;>omega) _).alloc (by simp<;>omega) _,?_,?_,?_,aZ _⟩,by omega,?_⟩
  ·rw[g1.cell (p:=⟨w.heap.size,0,none⟩) (fC _)]
   exact bD rfl rfl
  ·rw[g3.block (w.heap.size+1+1) (by omega),<-f2,heap_alloc_new]
   rfl
  ·rw[g4.block (w.heap.size+1+1+1) (by omega),<-f3,heap_alloc_new]
  ·exact bD f4 rfl
 have ZR:Hid ((((((w.alloc (cells #[slice ad l.length cap] 56)).alloc (cells #[int i64 0,int i64 0,int i64 0,int i64 0,slice none 0 0,slice none 0 0,slice none 0 0,slice none 0 0,slice none 0 0] 29)).alloc (cells #[int i64 0] 3)).alloc (cells #[.bool false] 4)).alloc (cells #[.func (.func 72) #[] #[.pointer (some ⟨w.heap.size,0,none⟩),.pointer (some ⟨w.heap.size+1+1,0,none⟩),.pointer (some ⟨w.heap.size+1+1+1,0,none⟩)]] 120)).heap[w.heap.size+1]? =some (cells #[int i64 0,int i64 0,int i64 0,int i64 0,slice none 0 0,slice none 0 0,slice none 0 0,slice none 0 0,slice none 0 0] 29 (0,0))):=by
  have f1:(w.alloc (cells #[slice ad l.length cap] 56)).heap.size=w.heap.size+1:=by simp
  have g2:Below (w.heap.size+1+1) ((w.alloc (cells #[slice ad l.length cap] 56)).alloc (cells #[int i64 0,int i64 0,int i64 0,int i64 0,slice none 0 0,slice none 0 0,slice none 0 0,slice none 0 0,slice none 0 0] 29)) (((((w.alloc (cells #[slice ad l.length cap] 56)).alloc (cells #[int i64 0,int i64 0,int i64 0,int i64 0,slice none 0 0,slice none 0 0,slice none 0 0,slice none 0 0,slice none 0 0] 29)).alloc (cells #[int i64 0] 3)).alloc (cells #[.bool false] 4)).alloc (cells #[.func (.func 72) #[] #[.pointer (some ⟨w.heap.size,0,none⟩),.pointer (some ⟨w.heap.size+1+1,0,none⟩),.pointer (some ⟨w.heap.size+1+1+1,0,none⟩)]] 120)):=((aB.alloc (by simp) _).alloc (by simp) _).alloc (by simp<;>omega) _;unfold Hid;rw[g2.block (w.heap.size+1) (by omega),<-f1,heap_alloc_new]
 have B1:Hid (Below w.heap.size w (((((w.alloc (cells #[slice ad l.length cap] 56)).alloc (cells #[int i64 0,int i64 0,int i64 0,int i64 0,slice none 0 0,slice none 0 0,slice none 0 0,slice none 0 0,slice none 0 0] 29)).alloc (cells #[int i64 0] 3)).alloc (cells #[.bool false] 4)).alloc (cells #[.func (.func 72) #[] #[.pointer (some ⟨w.heap.size,0,none⟩),.pointer (some ⟨w.heap.size+1+1,0,none⟩),.pointer (some ⟨w.heap.size+1+1+1,0,none⟩)]] 120))):=(((aA.alloc (by simp) _).alloc (by simp<;>omega) _).alloc (by simp<;>omega) _).alloc (by simp<;>omega) _;have S1:Hid ((((((w.alloc (cells #[slice ad l.length cap] 56)).alloc (cells #[int i64 0,int i64 0,int i64 0,int i64 0,slice none 0 0,slice none 0 0,slice none 0 0,slice none 0 0,slice none 0 0] 29)).alloc (cells #[int i64 0] 3)).alloc (cells #[.bool false] 4)).alloc (cells #[.func (.func 72) #[] #[.pointer (some ⟨w.heap.size,0,none⟩),.pointer (some ⟨w.heap.size+1+1,0,none⟩),.pointer (some ⟨w.heap.size+1+1+1,0,none⟩)]] 120)).heap.size=w.heap.size+5):=by unfold Hid;simp
 generalize (((((w.alloc (cells #[slice ad l.length cap] 56)).alloc (cells #[int i64 0,int i64 0,int i64 0,int i64 0,slice none 0 0,slice none 0 0,slice none 0 0,slice none 0 0,slice none 0 0] 29)).alloc (cells #[int i64 0] 3)).alloc (cells #[.bool false] 4)).alloc (cells #[.func (.func 72) #[] #[.pointer (some ⟨w.heap.size,0,none⟩),.pointer (some ⟨w.heap.size+1+1,0,none⟩),.pointer (some ⟨w.heap.size+1+1+1,0,none⟩)]] 120))=w1 at *;generalize hzn:w.heap.size+1+1+1+1=zn at *;generalize Zk:w.heap.size+1+1+1=zf at *;generalize hza:w.heap.size+1+1=za at *;generalize hzr:w.heap.size+1=zr at *;have OR:Hid (w.heap.size+1=zr/\w.heap.size+2=za/\w.heap.size+3=zf/\w.heap.size+4=zn):=⟨hzr,by omega,by omega,by omega⟩;clear hzn Zk hza hzr sf;refine(Jc w w.heap.size za zf zn (slice ad l.length cap) l w1 0 false D1).mono ?_;rintro e w2 ⟨W,a',f',u,rfl,hwo,hrd,hds,hk⟩;have WO:Hid (Wo w2 w1.heap.size u W):=hwo;have RD:Hid (Wd.Rd (Wd.pz l) 0 false W a' f'):=hrd;have D2:Hid (Ds w w.heap.size za zf zn (slice ad l.length cap) l w2 a' f'):=hds;have K:Hid (K2 za zf w1 w2):=hk;obtain⟨u1,u2,u3,u4,u5,rfl,o1,o2,o3,o4,o5⟩:=hwo;obtain⟨p1,q1,rfl⟩:=o1.len;obtain⟨p2,q2,rfl⟩:=o2.len;obtain⟨p3,q3,rfl⟩:=o3.len;obtain⟨p4,q4,rfl⟩:=o4.len;obtain⟨p5,q5,rfl⟩:=o5.len;clear hrd hds hk o1 o2 o3 o4 o5;go_upto_region 5 with fail
 have S2:Hid (w.heap.size+5<=w2.heap.size):=by have:=S1.out;have:=K.size;unfold Hid;omega
 have ZR2:Hid (w2.heap[zr]? =some (cells #[int i64 0,int i64 0,int i64 0,int i64 0,slice none 0 0,slice none 0 0,slice none 0 0,slice none 0 0,slice none 0 0] 29 (0,0))):=by
  unfold Hid;have:=OR.out;have:=S1.out;rw[K.out.block zr (by omega) (by omega) (by omega)];exact ZR
 have AL:Hid (Below w2.heap.size w2 (w2.alloc (cells #[int i64 W.turn,int i64 W.next,int i64 W.wide,int i64 W.high,slice p1 W.gs.length q1,slice p2 W.os.length q2,slice p3 W.gold.length q3,slice p4 W.us.length q4,slice p5 W.qs.length q5] 29))):=aA;have y0:(w2.alloc (cells #[int i64 W.turn,int i64 W.next,int i64 W.wide,int i64 W.high,slice p1 W.gs.length q1,slice p2 W.os.length q2,slice p3 W.gold.length q3,slice p4 W.us.length q4,slice p5 W.qs.length q5] 29)).cell? ⟨w2.heap.size,0,none⟩=some (int i64 W.turn):=bD rfl rfl;have y1:(w2.alloc (cells #[int i64 W.turn,int i64 W.next,int i64 W.wide,int i64 W.high,slice p1 W.gs.length q1,slice p2 W.os.length q2,slice p3 W.gold.length q3,slice p4 W.us.length q4,slice p5 W.qs.length q5] 29)).cell? ⟨w2.heap.size,1,none⟩=some (int i64 W.next):=bD rfl rfl;have y2:(w2.alloc (cells #[int i64 W.turn,int i64 W.next,int i64 W.wide,int i64 W.high,slice p1 W.gs.length q1,slice p2 W.os.length q2,slice p3 W.gold.length q3,slice p4 W.us.length q4,slice p5 W.qs.length q5] 29)).cell? ⟨w2.heap.size,2,none⟩=some (int i64 W.wide):=bD rfl rfl;have y3:(w2.alloc (cells #[int i64 W.turn,int i64 W.next,int i64 W.wide,int i64 W.high,slice p1 W.gs.length q1,slice p2 W.os.length q2,slice p3 W.gold.length q3,slice p4 W.us.length q4,slice p5 W.qs.length q5] 29)).cell? ⟨w2.heap.size,3,none⟩=some (int i64 W.high):=bD rfl rfl;have y4:(w2.alloc (cells #[int i64 W.turn,int i64 W.next,int i64 W.wide,int i64 W.high,slice p1 W.gs.length q1,slice p2 W.os.length q2,slice p3 W.gold.length q3,slice p4 W.us.length q4,slice p5 W.qs.length q5] 29)).cell? ⟨w2.heap.size,4,none⟩=some (slice p1 W.gs.length q1):=bD rfl rfl;have y5:(w2.alloc (cells #[int i64 W.turn,int i64 W.next,int i64 W.wide,int i64 W.high,slice p1 W.gs.length q1,slice p2 W.os.length q2,slice p3 W.gold.length q3,slice p4 W.us.length q4,slice p5 W.qs.length q5] 29)).cell? ⟨w2.heap.size,5,none⟩=some (slice p2 W.os.length q2):=bD rfl rfl;have y6:(w2.alloc (cells #[int i64 W.turn,int i64 W.next,int i64 W.wide,int i64 W.high,slice p1 W.gs.length q1,slice p2 W.os.length q2,slice p3 W.gold.length q3,slice p4 W.us.length q4,slice p5 W.qs.length q5] 29)).cell? ⟨w2.heap.size,6,none⟩=some (slice p3 W.gold.length q3):=bD rfl rfl;have y7:(w2.alloc (cells #[int i64 W.turn,int i64 W.next,int i64 W.wide,int i64 W.high,slice p1 W.gs.length q1,slice p2 W.os.length q2,slice p3 W.gold.length q3,slice p4 W.us.length q4,slice p5 W.qs.length q5] 29)).cell? ⟨w2.heap.size,7,none⟩=some (slice p4 W.us.length q4):=bD rfl rfl;have y8:(w2.alloc (cells #[int i64 W.turn,int i64 W.next,int i64 W.wide,int i64 W.high,slice p1 W.gs.length q1,slice p2 W.os.length q2,slice p3 W.gold.length q3,slice p4 W.us.length q4,slice p5 W.qs.length q5] 29)).cell? ⟨w2.heap.size,8,none⟩=some (slice p5 W.qs.length q5):=bD rfl rfl;generalize (w2.alloc (cells #[int i64 W.turn,int i64 W.next,int i64 W.wide,int i64 W.high,slice p1 W.gs.length q1,slice p2 W.os.length q2,slice p3 W.gold.length q3,slice p4 W.us.length q4,slice p5 W.qs.length q5] 29))=w3 at *;have ZR3:Hid (w3.heap[zr]? =some (cells #[int i64 0,int i64 0,int i64 0,int i64 0,slice none 0 0,slice none 0 0,slice none 0 0,slice none 0 0,slice none 0 0] 29 (0,0))):=by
  unfold Hid;have:=OR.out;have:=S2.out;rw[AL.out.block zr (by omega)];exact ZR2
 have D3:Hid (Dc w w.heap.size za zf (slice ad l.length cap) l w3 a' f'):=D2.d.kept (AL.mono (by have:=OR.out;have:=S2.out;omega));have W3:Hid (Wo w3 w1.heap.size (.agg #[int i64 W.turn,int i64 W.next,int i64 W.wide,int i64 W.high,slice p1 W.gs.length q1,slice p2 W.os.length q2,slice p3 W.gold.length q3,slice p4 W.us.length q4,slice p5 W.qs.length q5]) W):=WO.below AL;have B3:Hid (Below w.heap.size w w3):=(K2.below B1 K (by have:=S1.out;omega) (by have:=OR.out;omega) (by have:=OR.out;omega)).trans (AL.mono (by have:=S2.out;omega));have KZ:Hid (∀x:World,K2 zr zr w3 x->Wo x w.heap.size (.agg #[int i64 W.turn,int i64 W.next,int i64 W.wide,int i64 W.high,slice p1 W.gs.length q1,slice p2 W.os.length q2,slice p3 W.gold.length q3,slice p4 W.us.length q4,slice p5 W.qs.length q5]) W/\Below w.heap.size w x):=λx hx=>by
  have h1:=OR.out;have h2:=S1.out;have h3:=S2.out;have h4:=AL.size;have h5:=W3.k2 hx (by omega) (by omega);obtain⟨v1,v2,v3,v4,v5,e,m1,m2,m3,m4,m5⟩:=h5;exact⟨⟨v1,v2,v3,v4,v5,e,m1.mono (by omega),m2.mono (by omega),m3.mono (by omega),m4.mono (by omega),m5.mono (by omega)⟩,K2.below B3 hx (by omega) (by omega) (by omega)⟩
 have c0:w3.cell? ⟨zr,0,none⟩=some (int i64 0):=by have:=ZR3.out;simp[World.cell?,this]
 have t0:w3.frozen? ⟨zr,0,none⟩=false:=by have:=ZR3.out;simp[World.frozen?,this]
 have c1:w3.cell? ⟨zr,1,none⟩=some (int i64 0):=by have:=ZR3.out;simp[World.cell?,this]
 have t1:w3.frozen? ⟨zr,1,none⟩=false:=by have:=ZR3.out;simp[World.frozen?,this]
 have c2:w3.cell? ⟨zr,2,none⟩=some (int i64 0):=by have:=ZR3.out;simp[World.cell?,this]
 have t2:w3.frozen? ⟨zr,2,none⟩=false:=by have:=ZR3.out;simp[World.frozen?,this]
 have c3:w3.cell? ⟨zr,3,none⟩=some (int i64 0):=by have:=ZR3.out;simp[World.cell?,this]
 have t3:w3.frozen? ⟨zr,3,none⟩=false:=by have:=ZR3.out;simp[World.frozen?,this]
 have c4:w3.cell? ⟨zr,4,none⟩=some (slice none 0 0):=by have:=ZR3.out;simp[World.cell?,this]
 have t4:w3.frozen? ⟨zr,4,none⟩=false:=by have:=ZR3.out;simp[World.frozen?,this]
 have c5:w3.cell? ⟨zr,5,none⟩=some (slice none 0 0):=by have:=ZR3.out;simp[World.cell?,this]
 have t5:w3.frozen? ⟨zr,5,none⟩=false:=by have:=ZR3.out;simp[World.frozen?,this]
 have c6:w3.cell? ⟨zr,6,none⟩=some (slice none 0 0):=by have:=ZR3.out;simp[World.cell?,this]
 have t6:w3.frozen? ⟨zr,6,none⟩=false:=by have:=ZR3.out;simp[World.frozen?,this]
 have c7:w3.cell? ⟨zr,7,none⟩=some (slice none 0 0):=by have:=ZR3.out;simp[World.cell?,this]
 have t7:w3.frozen? ⟨zr,7,none⟩=false:=by have:=ZR3.out;simp[World.frozen?,this]
 have c8:w3.cell? ⟨zr,8,none⟩=some (slice none 0 0):=by have:=ZR3.out;simp[World.cell?,this]
 have t8:w3.frozen? ⟨zr,8,none⟩=false:=by have:=ZR3.out;simp[World.frozen?,this]
 have n1:zr≠w2.heap.size:=by have:=OR.out;have:=S2.out;omega
 have n2:zr≠za:=by have:=OR.out;omega
 have n3:za≠w2.heap.size:=by have:=OR.out;have:=S2.out;omega
 have n1':w2.heap.size≠zr:=λe=>n1 e.symm
 have n2':za≠zr:=λe=>n2 e.symm
 obtain⟨cf,ff⟩:=D3.lf;obtain⟨ca,fa⟩:=D3.la;clear ff fa D1 D2 WO W3 ZR ZR2 B B1;cases f' with
 |true=>
  have E:Hid (Wd.pz l 0=none):=by
   rcases RD.2 rfl with⟨-,h⟩|⟨h,-⟩
   ·cases h
   ·exact h
  go_wp2;have KC:Hid (K2 zr zr w3 (((((((((w3.setCell ⟨zr,0,none⟩ (int i64 0)).setCell ⟨zr,1,none⟩ (int i64 0)).setCell ⟨zr,2,none⟩ (int i64 0)).setCell ⟨zr,3,none⟩ (int i64 0)).setCell ⟨zr,4,none⟩ (slice none 0 0)).setCell ⟨zr,5,none⟩ (slice none 0 0)).setCell ⟨zr,6,none⟩ (slice none 0 0)).setCell ⟨zr,7,none⟩ (slice none 0 0)).setCell ⟨zr,8,none⟩ (slice none 0 0))):=(((((((((K2.jw w3 0 _).trans (K2.jw _ 1 _)).trans (K2.jw _ 2 _)).trans (K2.jw _ 3 _)).trans (K2.jw _ 4 _)).trans (K2.jw _ 5 _)).trans (K2.jw _ 6 _)).trans (K2.jw _ 7 _)).trans (K2.jw _ 8 _));have ZZ:Hid ((((((((((w3.setCell ⟨zr,0,none⟩ (int i64 0)).setCell ⟨zr,1,none⟩ (int i64 0)).setCell ⟨zr,2,none⟩ (int i64 0)).setCell ⟨zr,3,none⟩ (int i64 0)).setCell ⟨zr,4,none⟩ (slice none 0 0)).setCell ⟨zr,5,none⟩ (slice none 0 0)).setCell ⟨zr,6,none⟩ (slice none 0 0)).setCell ⟨zr,7,none⟩ (slice none 0 0)).setCell ⟨zr,8,none⟩ (slice none 0 0)).heap[zr]? =some (cells #[int i64 0,int i64 0,int i64 0,int i64 0,slice none 0 0,slice none 0 0,slice none 0 0,slice none 0 0,slice none 0 0] 29 (0,0))):=heap_setCell_same _ zr 8 _ _ (slice none 0 0) (heap_setCell_same _ zr 7 _ _ (slice none 0 0) (heap_setCell_same _ zr 6 _ _ (slice none 0 0) (heap_setCell_same _ zr 5 _ _ (slice none 0 0) (heap_setCell_same _ zr 4 _ _ (slice none 0 0) (heap_setCell_same _ zr 3 _ _ (int i64 0) (heap_setCell_same _ zr 2 _ _ (int i64 0) (heap_setCell_same _ zr 1 _ _ (int i64 0) (heap_setCell_same _ zr 0 _ _ (int i64 0) (ZR3)))))))));generalize World.setCell _ ⟨_,8,none⟩ _=w4 at *;clear c0 t0 y0 c1 t1 y1 c2 t2 y2 c3 t3 y3 c4 t4 y4 c5 t5 y5 c6 t6 y6 c7 t7 y7 c8 t8 y8;have x0:w4.cell? ⟨zr,0,none⟩=some (int i64 0):=by have:=ZZ.out;simp[World.cell?,this]
  have x1:w4.cell? ⟨zr,1,none⟩=some (int i64 0):=by have:=ZZ.out;simp[World.cell?,this]
  have x2:w4.cell? ⟨zr,2,none⟩=some (int i64 0):=by have:=ZZ.out;simp[World.cell?,this]
  have x3:w4.cell? ⟨zr,3,none⟩=some (int i64 0):=by have:=ZZ.out;simp[World.cell?,this]
  have x4:w4.cell? ⟨zr,4,none⟩=some (slice none 0 0):=by have:=ZZ.out;simp[World.cell?,this]
  have x5:w4.cell? ⟨zr,5,none⟩=some (slice none 0 0):=by have:=ZZ.out;simp[World.cell?,this]
  have x6:w4.cell? ⟨zr,6,none⟩=some (slice none 0 0):=by have:=ZZ.out;simp[World.cell?,this]
  have x7:w4.cell? ⟨zr,7,none⟩=some (slice none 0 0):=by have:=ZZ.out;simp[World.cell?,this]
  have x8:w4.cell? ⟨zr,8,none⟩=some (slice none 0 0):=by have:=ZZ.out;simp[World.cell?,this]
  refine bodyPost_ret (v:=.tuple #[.agg #[int i64 0,int i64 0,int i64 0,int i64 0,slice none 0 0,slice none 0 0,slice none 0 0,slice none 0 0,slice none 0 0],int i64 0,.iface 85 (int i64 9)]) (by simp[results,results32,go_sem,x0,x1,x2,x3,x4,x5,x6,x7,x8]) rfl ⟨?_,(KZ _ KC).2⟩;unfold rC;rw[E.out]
 |false=>
  have E:Hid (Wd.pz l 0=some (W,a')):=by
   rcases RD.2 rfl with⟨h,-⟩|⟨-,h⟩
   ·exact h
   ·cases h
  go_wp2;go_region;have KC0:Hid (K2 zr zr w3 (((((((((w3.setCell ⟨zr,0,none⟩ (int i64 W.turn)).setCell ⟨zr,1,none⟩ (int i64 W.next)).setCell ⟨zr,2,none⟩ (int i64 W.wide)).setCell ⟨zr,3,none⟩ (int i64 W.high)).setCell ⟨zr,4,none⟩ (slice p1 W.gs.length q1)).setCell ⟨zr,5,none⟩ (slice p2 W.os.length q2)).setCell ⟨zr,6,none⟩ (slice p3 W.gold.length q3)).setCell ⟨zr,7,none⟩ (slice p4 W.us.length q4)).setCell ⟨zr,8,none⟩ (slice p5 W.qs.length q5))):=(((((((((K2.jw w3 0 _).trans (K2.jw _ 1 _)).trans (K2.jw _ 2 _)).trans (K2.jw _ 3 _)).trans (K2.jw _ 4 _)).trans (K2.jw _ 5 _)).trans (K2.jw _ 6 _)).trans (K2.jw _ 7 _)).trans (K2.jw _ 8 _));have ZZ0:Hid ((((((((((w3.setCell ⟨zr,0,none⟩ (int i64 W.turn)).setCell ⟨zr,1,none⟩ (int i64 W.next)).setCell ⟨zr,2,none⟩ (int i64 W.wide)).setCell ⟨zr,3,none⟩ (int i64 W.high)).setCell ⟨zr,4,none⟩ (slice p1 W.gs.length q1)).setCell ⟨zr,5,none⟩ (slice p2 W.os.length q2)).setCell ⟨zr,6,none⟩ (slice p3 W.gold.length q3)).setCell ⟨zr,7,none⟩ (slice p4 W.us.length q4)).setCell ⟨zr,8,none⟩ (slice p5 W.qs.length q5)).heap[zr]? =some (cells #[int i64 W.turn,int i64 W.next,int i64 W.wide,int i64 W.high,slice p1 W.gs.length q1,slice p2 W.os.length q2,slice p3 W.gold.length q3,slice p4 W.us.length q4,slice p5 W.qs.length q5] 29 (0,0))):=heap_setCell_same _ zr 8 _ _ (slice p5 W.qs.length q5) (heap_setCell_same _ zr 7 _ _ (slice p4 W.us.length q4) (heap_setCell_same _ zr 6 _ _ (slice p3 W.gold.length q3) (heap_setCell_same _ zr 5 _ _ (slice p2 W.os.length q2) (heap_setCell_same _ zr 4 _ _ (slice p1 W.gs.length q1) (heap_setCell_same _ zr 3 _ _ (int i64 W.high) (heap_setCell_same _ zr 2 _ _ (int i64 W.wide) (heap_setCell_same _ zr 1 _ _ (int i64 W.next) (heap_setCell_same _ zr 0 _ _ (int i64 W.turn) (ZR3)))))))));generalize World.setCell _ ⟨_,8,none⟩ _=w5 at *;have KC:Hid (K2 zr zr w3 w5.drew):=KC0.trans (K2.of aB.drew);have ZZ:Hid (w5.drew.heap[zr]? =some (cells #[int i64 W.turn,int i64 W.next,int i64 W.wide,int i64 W.high,slice p1 W.gs.length q1,slice p2 W.os.length q2,slice p3 W.gold.length q3,slice p4 W.us.length q4,slice p5 W.qs.length q5] 29 (0,0))):=ZZ0;generalize w5.drew=w4 at *;clear c0 t0 y0 c1 t1 y1 c2 t2 y2 c3 t3 y3 c4 t4 y4 c5 t5 y5 c6 t6 y6 c7 t7 y7 c8 t8 y8 cf ca;go_wp2;have x0:w4.cell? ⟨zr,0,none⟩=some (int i64 W.turn):=by have:=ZZ.out;simp[World.cell?,this]
  have x1:w4.cell? ⟨zr,1,none⟩=some (int i64 W.next):=by have:=ZZ.out;simp[World.cell?,this]
  have x2:w4.cell? ⟨zr,2,none⟩=some (int i64 W.wide):=by have:=ZZ.out;simp[World.cell?,this]
  have x3:w4.cell? ⟨zr,3,none⟩=some (int i64 W.high):=by have:=ZZ.out;simp[World.cell?,this]
  have x4:w4.cell? ⟨zr,4,none⟩=some (slice p1 W.gs.length q1):=by have:=ZZ.out;simp[World.cell?,this]
  have x5:w4.cell? ⟨zr,5,none⟩=some (slice p2 W.os.length q2):=by have:=ZZ.out;simp[World.cell?,this]
  have x6:w4.cell? ⟨zr,6,none⟩=some (slice p3 W.gold.length q3):=by have:=ZZ.out;simp[World.cell?,this]
  have x7:w4.cell? ⟨zr,7,none⟩=some (slice p4 W.us.length q4):=by have:=ZZ.out;simp[World.cell?,this]
  have x8:w4.cell? ⟨zr,8,none⟩=some (slice p5 W.qs.length q5):=by have:=ZZ.out;simp[World.cell?,this]
  refine bodyPost_ret (v:=.tuple #[.agg #[int i64 W.turn,int i64 W.next,int i64 W.wide,int i64 W.high,slice p1 W.gs.length q1,slice p2 W.os.length q2,slice p3 W.gold.length q3,slice p4 W.us.length q4,slice p5 W.qs.length q5],int i64 (a':Nat),.nilIface]) (by simp[results,results32,go_sem,x0,x1,x2,x3,x4,x5,x6,x7,x8]) rfl ⟨?_,(KZ _ KC).2⟩;unfold rC;rw[E.out];exact⟨_,rfl,(KZ _ KC).1⟩
end
namespace topViews
open Go.Proofs.YtolfphmdmpehdaaGreatDoor.So
variable {A:WV} {Wa:Nat} {a b:List UInt8} {ks:List KV} {p:Int} {r v:Value} {w w':World}
theorem KH{base base':Nat}{l:List UInt8}(h:Ob w base v l)(hb:base'<=base):Ob w base' v l:=by
 refine⟨h.1,?_⟩;rcases h.2 with h1|⟨g,cap,cur,h1,h2,h3,h4⟩
 ·exact .inl h1
 ·exact .inr ⟨g,cap,cur,h1,aJ hb h2,h3,h4⟩
theorem Vt(ha:a.length<=6000)(hb:b.length<=6000)(h:Kz a (Fe.diff a b) w w' v r):r=.nilIface/\Ob w' w.heap.size v b:=by
 have hz:jH a (Fe.diff a b)=0:=by
  unfold jH;rw[if_neg (by omega)];exact Vl (aJ (Fe.qX _ _ _) (by omega)) (Fe.sD ha hb)
 have he:=Fe.Af (N:=6000) ha hb;rcases h with⟨h,-⟩|⟨-,h,-⟩|⟨-,c,h1,h2,h3⟩
 ·exact absurd hz h
 ·rw[he] at h;cases h
 ·rw[he] at h1
  injection h1 with h1
  subst h1;exact⟨h2,h3⟩
theorem OY(ha:a.length<=6000)(hb:b.length<=6000)(h:Em (Fe.diff a b) w w' v r):r=.nilIface/\Ob w' w.heap.size v (Wd.wr (Fe.nums (Fe.diff a b))):=by
 have hz:chk _ (Fe.diff a b)=0:=Vl (aJ (Fe.qX _ _ _) (by omega)) (Fe.wJ (Fe.sD ha hb));rcases h with⟨h,-⟩|⟨-,h1,h2⟩
 ·exact absurd hz h
 ·exact⟨h1,h2⟩
theorem Vu{n:Value}(ha:a.length<=6000)(hb:b.length<=6000)(h:KE (Wd.wr (Fe.nums (Fe.diff a b))) w w' v n r):r=.nilIface/\(∃m:Nat,n=int i64 (m:Nat))/\nK w' w.heap.size v (Fe.diff a b):=by
 obtain⟨ua,hua⟩:=Fe.unpack_pack (l:=Fe.diff a b) (aJ (Fe.qX _ _ _) (by omega)) (Fe.wJ (Fe.sD ha hb)) [];rw[iK] at hua;rcases h with⟨h,-⟩|⟨ls,a9,h,rfl,rfl,ho⟩
 ·rw[hua] at h;cases h
 rw[hua] at h;injection h with h
 injection h with h1 h2
 subst h1;exact⟨rfl,⟨a9,rfl⟩,ho⟩
theorem O_{B:WV}(ha:bZ ks A p=0)(hb:bZ ks B p=0)(hw:A.wide=(Wa:Nat))(h:wI ks A B p w w' v r):
  ∃Wb:Nat,B.wide=(Wb:Nat)/\r=.nilIface/\nK w' w.heap.size v (Fe.diff (Wd.enc (dS ks Wa A p)) (Wd.enc (dS ks Wb B p))):=by
 rcases h with⟨h,-⟩|⟨-,h,-⟩|⟨-,-,Wa',Wb,h1,h2,h3⟩
 ·exact absurd ha h
 ·exact absurd hb h
 ·obtain rfl:Wa'=Wa:=by omega
  rcases h3 with⟨h,-⟩|⟨-,-,h4,h5⟩
  ·have h6:=ru Wa' ha
   have h7:=ru Wb hb;omega
  ·exact⟨Wb,h2,h4,h5⟩
theorem Pg(ha:bZ ks A p=0)(hw:A.wide=(Wa:Nat))(hr:Er r (bZ ks A p))(h:DJ ks A p w w' v):
  r=.nilIface/\Wo w' w.heap.size v (dS ks Wa A p):=by
 rw[ha] at hr;refine⟨One.ez hr,?_⟩;rcases h with⟨h,-⟩|⟨-,Wn,h1,h2⟩
 ·exact absurd ha h
 ·obtain rfl:Wn=Wa:=by omega
  exact h2
theorem Et(Wa:Nat)(ha:bZ ks A p=0):Wd.VQ (dS ks Wa A p):=(bY (qj (p:=p) (Wn:=Wa) (bY (jf ha).1))).wok
theorem Vw(ha:bZ ks A p=0){e:Ending}(h:rC (Wd.enc (dS ks Wa A p)) w e w'):
  ∃u,e=.returned (.tuple #[u,int i64 ((Wd.enc (dS ks Wa A p)).length:Nat),.nilIface])/\Wo w' w.heap.size u (dS ks Wa A p):=by
 have h1:=Wd.VR (Et (p:=p) Wa ha) [];rw[iK] at h1;unfold rC at h;rw[h1] at h;exact h
end topViews
section
open Go.ChangeShapes Go.WideShapes Go.ChangeAt Go.RowKit
variable {H:Type} {W:World} {base fuel:Nat} {held:Bool} {v:Value}
theorem Pj:∃f0 f1 f2 f3:Field,prog.underlying 96=some (.struct #[f0,f1,f2,f3])/\
 f0.offset=0/\f0.type=3/\f1.offset=1/\f1.type=3/\f2.offset=2/\f2.type=3/\f3.offset=3/\f3.type=3:=⟨_,_,_,_,underlying96,rfl,rfl,rfl,rfl,rfl,rfl,rfl,rfl⟩
theorem YF{enc:TypeId×Value->H}{cs:List Value}{y:DataW H×List MemPlace}(h:DataW.trod enc prog W base (λ_=>true) held fuel 96 cs=some y):
  ∃k:bU,cs=[.int .i64 k.ay,.int .i64 k.unit,.int .i64 k.what,.int .i64 k.arg]/\True:=by
 obtain⟨f0,f1,f2,f3,he,o0,t0,o1,t1,o2,t2,o3,t3⟩:=Pj;obtain⟨xs,m,-,-,hlen,hxl,hf⟩:=DataW.trod_struct he h;have wL:prog.cellsOf 3=1:=by kernel_rfl
 have Ag:prog.cellsOf 96=4:=by kernel_rfl
 rw[Ag] at hlen
 match cs,hlen with
 |[v0,v1,v2,v3],_=>
  have hx:xs.length=4:=hxl
  match xs,hx with
  |[x0,x1,x2,x3],_=>
   have g0:=hf 0 f0 rfl;rw[o0,t0,wL] at g0;have g1:=hf 1 f1 rfl;rw[o1,t1,wL] at g1;have g2:=hf 2 f2 rfl;rw[o2,t2,wL] at g2;have g3:=hf 3 f3 rfl;rw[o3,t3,wL] at g3;obtain⟨m0,e0,-,-⟩:=DataW.trod_int underlying3 g0;obtain⟨m1,e1,-,-⟩:=DataW.trod_int underlying3 g1;obtain⟨m2,e2,-,-⟩:=DataW.trod_int underlying3 g2;obtain⟨m3,e3,-,-⟩:=DataW.trod_int underlying3 g3;simp at e0 e1 e2 e3;subst e0 e1 e2 e3;exact⟨⟨m0,m1,m2,m3⟩,rfl,trivial⟩
theorem Vx{enc:TypeId×Value->H}{y:DataW H×List MemPlace}(h:DataW.trod enc prog W base (λ_=>true) held fuel 61 [v]=some y):
  ∃ks:List bU,Bo W v ks/\∀k∈ks,True:=by
 have Ag:prog.cellsOf 96=4:=by kernel_rfl
 rcases Go.Deep.open_slice underlying61 h with⟨hcs,-⟩|⟨a,len,cap,m,q,D,Pl,hcs,hb,hl,hm,hmm,-,hx⟩
 ·simp at hcs
  subst hcs;exact⟨[],⟨none,0,rfl,aU _,by omega,λh=>absurd rfl h⟩,by simp⟩
 ·simp at hcs
  subst hcs;have hlm:len<=m:=by rw[hmm];simp;exact hl
  have each:∀i,i<len->∃k:bU,pJ W (a.add (i*4)) k/\(True):=by
   intro i hi;obtain⟨cs',h1,h2⟩:=hx i (by omega);obtain⟨k,rfl,hk⟩:=YF h2;rw[Ag] at h1;obtain⟨-,-,hcell⟩:=World.cells?_some h1;refine⟨k,?_,hk⟩;generalize a.add (i*4)=y at *;exact⟨hcell 0 (by decide),hcell 1 (by decide),hcell 2 (by decide),hcell 3 (by decide)⟩
  have inh:Inhabited bU:=⟨⟨0,0,0,0⟩⟩;obtain⟨q,hq⟩:=Go.Deep.choose_lt each;refine⟨(List.range len).map q,⟨some a,cap,by simp,by simpa using hl,by unfold maxLen at hm;omega,λhn=>⟨a,rfl,?_,λi k hk=>?_⟩⟩,?_⟩
  ·have h0:0<len:=by
    rcases Nat.eq_zero_or_pos len with h|h
    ·subst h;simp at hn
    ·exact h
   have:=(hq 0 h0).1.lt;rwa[add_block] at this
  ·have hi:i<len:=by
    have:=(aK.1 hk).1;simpa using this
   rw[fG,List.getElem?_range hi] at hk;injection hk with hk
   subst hk;exact(hq i hi).1
  ·intro k hk
   obtain⟨i,hi,rfl⟩:=jg.1 hk;exact(hq i (List.mem_range.1 hi)).2
theorem Pm{enc:TypeId×Value->H}{y:DataW H×List MemPlace}(h:DataW.trod enc prog W base (λ_=>true) held fuel 30 [v]=some y):
  ∃ls:List (List bU),Py W v ls:=by
 have Ag:prog.cellsOf 61=1:=by kernel_rfl
 rcases Go.Deep.open_slice underlying30 h with⟨hcs,-⟩|⟨a,len,cap,m,q,D,Pl,hcs,hb,hl,hm,hmm,-,hx⟩
 ·simp at hcs
  subst hcs;exact⟨[],⟨none,0,rfl,aU _,by omega,λh=>absurd rfl h⟩⟩
 ·simp at hcs
  subst hcs;have hlm:len<=m:=by rw[hmm];simp;exact hl
  have each:∀i,i<len->∃l:List bU,∃u,W.cell? (a.add i)=some u/\Bo W u l:=by
   intro i hi;obtain⟨cs',h1,h2⟩:=hx i (by omega);rw[Ag] at h1;rw[Nat.mul_one] at h1;obtain⟨-,hlen,hcell⟩:=World.cells?_some h1
   match cs',hlen with
   |[u],_=>
    obtain⟨l,hl',-⟩:=Vx h2;exact⟨l,u,hcell 0 (by decide),hl'⟩
  have inh:Inhabited (List bU):=⟨[]⟩;obtain⟨q,hq⟩:=Go.Deep.choose_lt each;refine⟨(List.range len).map q,⟨some a,cap,by simp,by simpa using hl,by unfold maxLen at hm;omega,λhn=>⟨a,rfl,?_,λi k hk=>?_⟩⟩⟩
  ·have h0:0<len:=by
    rcases Nat.eq_zero_or_pos len with h|h
    ·subst h;simp at hn
    ·exact h
   obtain⟨u,h1,-⟩:=hq 0 h0;have:=cell_lt h1;rwa[add_block] at this
  ·have hi:i<len:=by
    have:=(aK.1 hk).1;simpa using this
   rw[fG,List.getElem?_range hi] at hk;injection hk with hk
   subst hk;exact hq i hi
theorem YG{enc:TypeId×Value->H}{b0:Nat}{d:DataW H}{p:List MemPlace}(hv:Value.okWide prog W .any b0 30 v)(h:DataW.Trod enc prog W base (λ_=>true) held 30 v d p):∃ls:List (List bU),Py W v ls:=by
 obtain⟨a,len,cap,rfl⟩:=okWide_slice underlying30 hv;obtain⟨fuel,hf⟩:=h;exact Pm hf
theorem Py.take{w:World}{a:Option Addr}{n c:Nat}{ls:List (List bU)}(h:Py w (slice a n c) ls){k:Nat}(hk:k<=ls.length):Py w (slice a k c) (ls.take k):=by
 obtain⟨a',c',e,h2,h3,h4⟩:=h;injection e with e1 e2 e3
 subst e1 e3;have hl:(ls.take k).length=k:=by rw[dP];omega
 refine⟨a,c,by rw[hl],by omega,h3,λhn=>?_⟩;obtain⟨x,ex,hx,hy⟩:=h4 (by rintro rfl;simp at hn);refine⟨x,ex,hx,λi l hi=>hy i l ?_⟩;rw[eP] at hi;split at hi
 ·exact hi
 ·cases hi
end
section
open Go Go.RowKit
variable {W:World} {a:Act} {i:Nat} {o:Oper}
inductive Ah where
 |leaf:Ah
 |read:Nat->Ah->Ah
 |one:Nat->Ah->Ah
 |two:Nat->Ah->Nat->Ah->Ah
 |three:Nat->Ah->Nat->Ah->Nat->Ah->Ah
section
variable {P:Program} {ops:Array Oper} {md:Region.Mode} {C:World->Prop} {Q:Exit->Act->World->Prop}
def nM(P:Program)(ops:Array Oper)(C:World->Prop)(K:Act->World->Prop):Ah->Act->World->Prop
 | .leaf,a,W=>K a W
 | .read i t,a,W=>∃o v,ops[i]? =some o/\iU P ops C o v a/\nM P ops C K t (a.put o.dst v) W
 | .one i t,a,W=>∃o,ops[i]? =some o/\f_ P ops C o (nM P ops C K t) a W
 | .two i t j u,a,W=>(∃o,ops[i]? =some o/\f_ P ops C o (nM P ops C K t) a W)/\(∃o,ops[j]? =some o/\f_ P ops C o (nM P ops C K u) a W)
 | .three i t j u k v,a,W=>(∃o,ops[i]? =some o/\f_ P ops C o (nM P ops C K t) a W)/\(∃o,ops[j]? =some o/\f_ P ops C o (nM P ops C K u) a W)/\(∃o,ops[k]? =some o/\f_ P ops C o (nM P ops C K v) a W)
def Ai(md:Region.Mode)(ops:Array Oper)(H0:Array Bool):Nat->Ah->Array Bool->Bool
 |0,.leaf,listed=>decide (listed=H0)
 |n+1,.read i t,listed=>(Region.ready md ops listed).contains i&&(Region.free md ops listed i&&((waits md ops H0 i||decide (Region.ready md ops (H0.setIfInBounds i false)=[i]))&&Ai md ops H0 n t (listed.setIfInBounds i true)))
 |n+1,.one i t,listed=>(Region.ready md ops listed).contains i&&((Region.ready md ops listed).all (λx=>decide (x=i))&&Ai md ops H0 n t (listed.setIfInBounds i true))
 |n+1,.two i t j u,listed=>(Region.ready md ops listed).contains i&&((Region.ready md ops listed).contains j&&((Region.ready md ops listed).all (λx=>decide (x=i)||decide (x=j))&&(Ai md ops H0 n t (listed.setIfInBounds i true)&&Ai md ops H0 n u (listed.setIfInBounds j true))))
 |n+1,.three i t j u k v,listed=>(Region.ready md ops listed).contains i&&((Region.ready md ops listed).contains j&&((Region.ready md ops listed).contains k&&((Region.ready md ops listed).all (λx=>decide (x=i)||(decide (x=j)||decide (x=k)))&&(Ai md ops H0 n t (listed.setIfInBounds i true)&&(Ai md ops H0 n u (listed.setIfInBounds j true)&&Ai md ops H0 n v (listed.setIfInBounds k true))))))
 |_,_,_=>false
theorem gy{K:Act->World->Prop}{H0:Array Bool}(hsel:Region.noSelect ops=true):∀(n:Nat) (t:Ah) (listed:Array Bool) (a:Act) (W:World),FY md ops listed->Ai md ops H0 n t listed=true->C W->nM P ops C K t a W->pO P md ops C (λl a W=>l=H0/\K a W) n listed a W
 |0,.leaf,listed,a,W,inv,hB,hC,h=>by
  simp only[Ai,decide_eq_true_eq] at hB;exact⟨hB,h⟩
 |n+1,.read i t,listed,a,W,inv,hB,hC,h=>by
  simp only[Ai,Bool.and_eq_true,Bool.or_eq_true,decide_eq_true_eq] at hB;obtain⟨hr,hf,hH,hB⟩:=hB;obtain⟨o,v,ho,hy,hk⟩:=h;have hr':i∈Region.ready md ops listed:=by simpa using hr
  exact mP ho (Region.noSelect_spec hsel) hH (λ_ _ _ h=>h.1) n listed a W inv (Region.free_spec ho hf) hr' hy hC (gy hsel n t _ _ _ (inv.set hr') hB hC hk)
 |n+1,.one i t,listed,a,W,inv,hB,hC,h=>by
  simp only[Ai,Bool.and_eq_true] at hB;obtain⟨hr,hall,hB⟩:=hB;have hr':i∈Region.ready md ops listed:=by simpa using hr
  obtain⟨o,ho,hs⟩:=h;refine⟨λh=>(by rw[h] at hr';cases hr'),λx hx=>?_⟩;have hx':=lH.1 hall x hx;simp only[decide_eq_true_eq] at hx';subst hx';exact⟨o,ho,hs.mono λa' W' hC' hk=>gy hsel n t _ _ _ (inv.set hr') hB hC' hk⟩
 |n+1,.two i t j u,listed,a,W,inv,hB,hC,h=>by
  simp only[Ai,Bool.and_eq_true] at hB;obtain⟨hi,hj,hall,hB1,hB2⟩:=hB;have hi':i∈Region.ready md ops listed:=by simpa using hi
  have hj':j∈Region.ready md ops listed:=by simpa using hj
  obtain⟨⟨o,ho,hs⟩,⟨o2,ho2,hs2⟩⟩:=h;refine⟨λh=>(by rw[h] at hi';cases hi'),λx hx=>?_⟩;have hx':=lH.1 hall x hx;simp only[Bool.or_eq_true,decide_eq_true_eq] at hx';rcases hx' with e|e
  ·subst e;exact⟨o,ho,hs.mono λa' W' hC' hk=>gy hsel n t _ _ _ (inv.set hi') hB1 hC' hk⟩
  ·subst e;exact⟨o2,ho2,hs2.mono λa' W' hC' hk=>gy hsel n u _ _ _ (inv.set hj') hB2 hC' hk⟩
 |n+1,.three i t j u k v,listed,a,W,inv,hB,hC,h=>by
  simp only[Ai,Bool.and_eq_true] at hB;obtain⟨hi,hj,hk,hall,hB1,hB2,hB3⟩:=hB;have hi':i∈Region.ready md ops listed:=by simpa using hi
  have hj':j∈Region.ready md ops listed:=by simpa using hj
  have hk':k∈Region.ready md ops listed:=by simpa using hk
  obtain⟨⟨o,ho,hs⟩,⟨o2,ho2,hs2⟩,⟨o3,ho3,hs3⟩⟩:=h;refine⟨λh=>(by rw[h] at hi';cases hi'),λx hx=>?_⟩;have hx':=lH.1 hall x hx;simp only[Bool.or_eq_true,decide_eq_true_eq] at hx';rcases hx' with e|e|e
  ·subst e;exact⟨o,ho,hs.mono λa' W' hC' hk=>gy hsel n t _ _ _ (inv.set hi') hB1 hC' hk⟩
  ·subst e;exact⟨o2,ho2,hs2.mono λa' W' hC' hk=>gy hsel n u _ _ _ (inv.set hj') hB2 hC' hk⟩
  ·subst e;exact⟨o3,ho3,hs3.mono λa' W' hC' hk=>gy hsel n v _ _ _ (inv.set hk') hB3 hC' hk⟩
 |0,.read _ _,_,_,_,_,hB,_,_=>by simp[Ai] at hB
 |0,.one _ _,_,_,_,_,hB,_,_=>by simp[Ai] at hB
 |0,.two _ _ _ _,_,_,_,_,hB,_,_=>by simp[Ai] at hB
 |0,.three _ _ _ _ _ _,_,_,_,_,hB,_,_=>by simp[Ai] at hB
 |_+1,.leaf,_,_,_,_,hB,_,_=>by simp[Ai] at hB
theorem wM{id:Nat}{w:World}(T:Ah)(s t:List (Bool×Nat))(C:World->Prop)(hm:P.follows .mixedOrders=true)(hs:Region.noSelect ops=true)(hl:s.length+t.length=ops.size)
  (hB:Ai .any ops (kM ops.size s) s.length T (Array.replicate ops.size false)=true)
  (hT:lI .any ops t (kM ops.size s)=true)
  (hC:C {w with drawn:=w.drawn+1}) (h:nM P ops C (bC P ops (λ_=>True) Q t) T a {w with drawn:=w.drawn+1}):(Code.region id ops true).wp P Q a w:=by
 refine wp_region_any hm ?_;rw[<-hl];refine jD (g:=t.length) (λlisted a W hh=>?_) _ _ _ _ (gy (H0:=kM ops.size s) hs s.length T _ a _ (λj oj _ hj=>by rw[getD_replicate_false] at hj;cases hj) (by rw[hl];exact hB) hC h);obtain⟨rfl,hk⟩:=hh;exact iY _ _ _ _ (fO hs t _ a W hT trivial hk)
theorem iE{K:Act->World->Prop}{t:Ah}(ho:ops[i]? =some o)(v:Value)(hw:Region.wanted o (yielded ops a.tmps)=true)(hr:∀W,C W->(execOp a.eval o).run P W=.ok (.value v) W)(h:nM P ops C K t (a.put o.dst v) W):nM P ops C K (.read i t) a W:=
 ⟨o,v,ho,⟨hw,hr⟩,h⟩
theorem sH{K:Act->World->Prop}{t:Ah}(h:∃o,ops[i]? =some o/\f_ P ops C o (nM P ops C K t) a W):nM P ops C K (.one i t) a W:=h
theorem aaU{K:Act->World->Prop}{j:Nat}{t u:Ah}(h:∃o,ops[i]? =some o/\f_ P ops C o (nM P ops C K t) a W)(h2:∃o,ops[j]? =some o/\f_ P ops C o (nM P ops C K u) a W):nM P ops C K (.two i t j u) a W:=⟨h,h2⟩
theorem KI{K:Act->World->Prop}(ho:ops[i]? =some o)(f:FuncId)(args:Array Value)(hw:Region.wanted o (yielded ops a.tmps)=true)(hr:(execOp a.eval o).run P W=.ok (.enter f args) W)
  (hc:Calls P f args W (λe w'=>∃v,e=.returned v/\C w'/\K (a.put o.dst v) w')):∃o,ops[i]? =some o/\f_ P ops C o K a W:=
 ⟨o,ho,hw,.inr (.inr ⟨f,args,hr,hc⟩)⟩
theorem rD{K:Act->World->Prop}(ho:ops[i]? =some o)(v:Value)(W':World)(hw:Region.wanted o (yielded ops a.tmps)=true)(hr:(execOp a.eval o).run P W=.ok (.value v) W')(hC:C W')(h:K (a.put o.dst v) W'):∃o,ops[i]? =some o/\f_ P ops C o K a W:=
 ⟨o,ho,hw,.inl ⟨v,W',hr,hC,h⟩⟩
theorem KN{K:Act->World->Prop}(ho:ops[i]? =some o)(W':World)(hw:Region.wanted o (yielded ops a.tmps)=true)(hr:(execOp a.eval o).run P W=.ok .skip W')(hC:C W')(h:K (a.put o.dst undef) W'):∃o,ops[i]? =some o/\f_ P ops C o K a W:=
 ⟨o,ho,hw,.inr (.inl ⟨W',hr,hC,h⟩)⟩
end
end
section
open Go.RowKit
variable {H:Type} {W:World} {b0 base fuel:Nat} {cs:List Value} {held:Bool} {p:List MemPlace} {v:Value}
theorem wO(u v:Value)(xs ys:List Int)(w:World)(hu:Ro w u xs)(hv:Ro w v ys):
  Calls prog 23 #[u,v] w λe w'=>e=.returned (.bool (decide (xs=ys)))/\∃n,w'=w.drewN n:=by
 obtain⟨a,c,rfl,hc1,hc2,ha⟩:=hu;obtain⟨b,d,rfl,hd1,hd2,hb⟩:=hv;have Ha:Hid (Cells w a xs):=ha;have Hb:Hid (Cells w b ys):=hb;clear ha hb;by_cases hl:xs.length=ys.length
 ·have Hl:Hid (xs.length=ys.length):=hl
  rw[<-hl] at hd1 ⊢;clear hl;go_enter func23,ntmps23;go_wp2_with fail
  go_loopw [5] (λi W=>∃(k q:Nat),k<=xs.length/\i=int i64 (k:Nat)/\xs.take k=ys.take k/\W=w.drewN q) (λi _=>xs.length-(intOf i).toNat)
  case atStart=>exact⟨0,0,aZ _,rfl,by simp,rfl⟩
  case round=>
   obtain⟨k,q,hk,rfl,ht,rfl⟩:=hrel;have Ht:Hid (xs.take k=ys.take k):=ht;clear ht;by_cases h0:k=xs.length
   ·subst h0
    go_wp2;go_ret;refine⟨?_,q,rfl⟩;have e:=Ht.out;rw[List.take_of_length_le aN,Hl.out,List.take_of_length_le aN] at e;simp[e]
   ·have hkx:k<xs.length:=by omega
    have hky:k<ys.length:=by rw[<-Hl.out];exact hkx
    obtain⟨x,rfl,-,hx⟩:=Ha (by intro h;rw[h] at hkx;simp at hkx);obtain⟨y,rfl,-,hy⟩:=Hb (by intro h;rw[h] at hky;simp at hky);have cx:=hx k xs[k] (aH hkx);have cy:=hy k ys[k] (aH hky);have Te:Hid (xs.take (k+1)=ys.take (k+1)↔xs[k]=ys[k]):=by
     unfold Hid;rw[dM hkx,dM hky,Ht.out];exact⟨λh=>(List.cons.inj (List.append_cancel_left h)).1,λh=>by rw[h]⟩
    generalize xs[k]=p at *;generalize ys[k]=r at *;clear hx hy;by_cases hpr:p=r
    ·subst hpr
     go_wp2;go_quiet (fail);go_wp2;go_round
     case rel=>exact⟨k+1,q+nq,by omega,by go_num,by first|exact Te.2 rfl|exact Te.2 trivial,rfl⟩
     case measure=>simp[intOf];omega
    ·go_wp2
     go_quiet (fail);go_wp2;go_ret;refine⟨?_,q+nq,by rw[World.drewN_drewN]⟩;have:xs≠ys:=λh=>hpr (Te.1 (by rw[h]))
     simp[this]
 ·go_enter func23,ntmps23
  go_wp2;go_ret;refine⟨?_,0,rfl⟩;have:xs≠ys:=λh=>hl (by rw[h])
  simp[this]
theorem Jd(u v:Value)(W H:Int)(gs os:List Int)(w:World)(hu:Fl w u W H gs os)(hv:Fl w v W H gs os):
  Calls prog 46 #[u,v] w λe w'=>e=.returned (.bool true)/\Below w.heap.size w w':=by
 obtain⟨a1,a2,rfl,ha1,ha2⟩:=hu;obtain⟨b1,b2,rfl,hb1,hb2⟩:=hv;have A1:Hid (Ro w a1 gs):=ha1;have A2:Hid (Ro w a2 os):=ha2;have B1:Hid (Ro w b1 gs):=hb1;have B2:Hid (Ro w b2 os):=hb2;clear ha1 ha2 hb1 hb2;go_enter func46,ntmps46;go_wp2_with fail
 have K0:Below w.heap.size w ((w.alloc (cells #[int i64 W,int i64 H,a1,a2] 25)).alloc (cells #[int i64 W,int i64 H,b1,b2] 25)):=aA.alloc (by simp) _;have X0:=(Bf.mk' (w:=w) W H a1 a2 rfl).below (aB.alloc aN (cells #[int i64 W,int i64 H,b1,b2] 25)) (by simp);have Y0:=Bf.mk' (w:=w.alloc (cells #[int i64 W,int i64 H,a1,a2] 25)) (z:=w.heap.size+1) W H b1 b2 (by simp);generalize (w.alloc (cells #[int i64 W,int i64 H,a1,a2] 25)).alloc (cells #[int i64 W,int i64 H,b1,b2] 25)=w0 at *;refine(wO _ _ gs gs _ (A1.below K0) (B1.below K0)).mono ?_;rintro e w1 ⟨rfl,q1,hq1⟩;rw[decide_eq_true rfl];have k1:Below w0.heap.size w0 w1:=by rw[hq1];exact _root_.Go.below_drewN aB _
 have K1:Below w.heap.size w w1:=K0.trans (k1.mono K0.size);have X1:Hid (Bf w1 w.heap.size W H a1 a2):=X0.below k1 X0.lt;have Y1:Hid (Bf w1 (w.heap.size+1) W H b1 b2):=Y0.below k1 Y0.lt;clear hq1 k1 X0 Y0 K0;obtain⟨x0,x1,x2,x3⟩:=X1.out;obtain⟨y0,y1,y2,y3⟩:=Y1.out;have K1':Hid (Below w.heap.size w w1):=K1;clear K1;go_wp2_with fail
 refine(wO _ _ os os _ (A2.below K1') (B2.below K1')).mono ?_;rintro e w2 ⟨rfl,q2,hq2⟩;rw[decide_eq_true rfl];have k2:Below w1.heap.size w1 w2:=by rw[hq2];exact _root_.Go.below_drewN aB _
 have K2:Hid (Below w.heap.size w w2):=K1'.trans (k2.mono K1'.size);have X2:Hid (Bf w2 w.heap.size W H a1 a2):=X1.below k2 X1.lt;have Y2:Hid (Bf w2 (w.heap.size+1) W H b1 b2):=Y1.below k2 Y1.lt;clear hq2 k2 x0 x1 x2 x3 y0 y1 y2 y3 X1 Y1 K1';obtain⟨x0,x1,x2,x3⟩:=X2.out;obtain⟨y0,y1,y2,y3⟩:=Y2.out;go_wp2;go_ret;exact⟨rfl,K2⟩
theorem Pn(u v:Value)(xs:List Int)(w:World)(hu:Ro w u xs)(hv:Ro w v xs):
  Calls prog 23 #[u,v] w λe w'=>e=.returned (.bool true)/\Below w.heap.size w w':=
 (wO u v xs xs w hu hv).mono λe w' ⟨h1,q,h2⟩=>⟨by rw[h1,decide_eq_true rfl],by rw[h2];exact _root_.Go.below_drewN aB _⟩
theorem Eu(u v:Value)(W:WV)(w:World)(hu:Wl w u W)(hv:Wl w v W):
  Calls prog 21 #[u,v] w λe w'=>e=.returned (.bool true)/\Below w.heap.size w w':=by
 obtain⟨u1,u2,u3,u4,u5,rfl,g1,g2,g3,g4,g5⟩:=hu;obtain⟨v1,v2,v3,v4,v5,rfl,k1,k2,k3,k4,k5⟩:=hv;obtain⟨a4,c4,rfl,gl4,gc4,ga4⟩:=g4;obtain⟨b4,d4,rfl,kl4,kc4,ka4⟩:=k4;obtain⟨a5,c5,rfl,gl5,gc5,ga5⟩:=g5;obtain⟨b5,d5,rfl,kl5,kc5,ka5⟩:=k5;have R:=aj (w_ g1 g2 g3 k1 k2 k3);have GU:Hid (W.us≠[]->∃x,a4=some x/\x.block<w.heap.size/\∀(i:Nat) k,W.us[i]? =some k->fA w (x.add (i*8)) k):=ga4;have KU:Hid (W.us≠[]->∃x,b4=some x/\x.block<w.heap.size/\∀(i:Nat) k,W.us[i]? =some k->fA w (x.add (i*8)) k):=ka4;have GJ:Hid (W.qs≠[]->∃x,a5=some x/\x.block<w.heap.size/\∀(i:Nat) k,W.qs[i]? =some k->nI w (x.add (i*4)) k):=ga5;have KJ:Hid (W.qs≠[]->∃x,b5=some x/\x.block<w.heap.size/\∀(i:Nat) k,W.qs[i]? =some k->nI w (x.add (i*4)) k):=ka5;have Jr:W.us.length<=9223372036854775807:=by omega
 have Ak:W.qs.length<=9223372036854775807:=by omega
 clear g1 g2 g3 k1 k2 k3 ga4 ka4 ga5 ka5 gl4 gc4 kl4 kc4 gl5 gc5 kl5 kc5;go_enter func21,ntmps21;go_wp2_with fail
 have K0:Below w.heap.size w ((w.alloc (cells #[int i64 W.turn,int i64 W.next,int i64 W.wide,int i64 W.high,u1,u2,u3,slice a4 W.us.length c4,slice a5 W.qs.length c5] 29)).alloc (cells #[int i64 W.turn,int i64 W.next,int i64 W.wide,int i64 W.high,v1,v2,v3,slice b4 W.us.length d4,slice b5 W.qs.length d5] 29)):=aA.alloc (by simp) _;have X0:=(Bw.mk' (w:=w) W u1 u2 u3 (slice a4 W.us.length c4) (slice a5 W.qs.length c5) rfl).below (aB.alloc aN (cells #[int i64 W.turn,int i64 W.next,int i64 W.wide,int i64 W.high,v1,v2,v3,slice b4 W.us.length d4,slice b5 W.qs.length d5] 29)) (by simp);have Y0:=Bw.mk' (w:=w.alloc (cells #[int i64 W.turn,int i64 W.next,int i64 W.wide,int i64 W.high,u1,u2,u3,slice a4 W.us.length c4,slice a5 W.qs.length c5] 29)) (z:=w.heap.size+1) W v1 v2 v3 (slice b4 W.us.length d4) (slice b5 W.qs.length d5) (by simp);generalize ((w.alloc (cells #[int i64 W.turn,int i64 W.next,int i64 W.wide,int i64 W.high,u1,u2,u3,slice a4 W.us.length c4,slice a5 W.qs.length c5] 29)).alloc (cells #[int i64 W.turn,int i64 W.next,int i64 W.wide,int i64 W.high,v1,v2,v3,slice b4 W.us.length d4,slice b5 W.qs.length d5] 29))=w0 at *;refine(Jd _ _ W.wide W.high W.gs W.os w0 ⟨_,_,rfl,R.1.below K0,R.2.1.below K0⟩ ⟨_,_,rfl,R.2.2.2.1.below K0,R.2.2.2.2.1.below K0⟩).mono ?_;rintro e w1 ⟨rfl,hb1⟩;have K1:Hid (Below w.heap.size w w1):=K0.trans (hb1.mono K0.size);have X1:Hid (Bw w1 w.heap.size W u1 u2 u3 (slice a4 W.us.length c4) (slice a5 W.qs.length c5)):=X0.below hb1 X0.lt;have Y1:Hid (Bw w1 (w.heap.size+1) W v1 v2 v3 (slice b4 W.us.length d4) (slice b5 W.qs.length d5)):=Y0.below hb1 Y0.lt;clear K0 X0 Y0 hb1;obtain⟨x0,x1,x2,x3,x4,x5,x6,x7,x8⟩:=X1.out;obtain⟨y0,y1,y2,y3,y4,y5,y6,y7,y8⟩:=Y1.out;go_wp2_with fail
 refine(Pn _ _ W.gold w1 (R.2.2.1.below K1) (R.2.2.2.2.2.below K1)).mono ?_;rintro e w2 ⟨rfl,hb2⟩;have K2':Hid (Below w.heap.size w w2):=K1.trans (hb2.mono K1.size);have X2:Hid (Bw w2 w.heap.size W u1 u2 u3 (slice a4 W.us.length c4) (slice a5 W.qs.length c5)):=X1.below hb2 X1.lt;have Y2:Hid (Bw w2 (w.heap.size+1) W v1 v2 v3 (slice b4 W.us.length d4) (slice b5 W.qs.length d5)):=Y1.below hb2 Y1.lt;clear hb2 x0 x1 x2 x3 x4 x5 x6 x7 x8 y0 y1 y2 y3 y4 y5 y6 y7 y8 X1 Y1 K1;obtain⟨x0,x1,x2,x3,x4,x5,x6,x7,x8⟩:=X2.out;obtain⟨y0,y1,y2,y3,y4,y5,y6,y7,y8⟩:=Y2.out;go_wp2;clear x0 x1 x2 x3 x4 x5 x6 x7 x8 y0 y1 y2 y3 y4 y5 y6 y7 y8;go_loopw [7] (λi W'=>∃k:Nat,k<=W.us.length/\i=int i64 (k:Nat)/\Bw W' w.heap.size W u1 u2 u3 (slice a4 W.us.length c4) (slice a5 W.qs.length c5)/\Bw W' (w.heap.size+1) W v1 v2 v3 (slice b4 W.us.length d4) (slice b5 W.qs.length d5)/\Below w.heap.size w W') (λi _=>W.us.length-(intOf i).toNat)
 case atStart=>exact⟨0,aZ _,rfl,X2,Y2,K2'⟩
 case round=>
  obtain⟨k,hk,rfl,hX,hY,hB⟩:=hrel;have XB:Hid (Bw wr w.heap.size W u1 u2 u3 (slice a4 W.us.length c4) (slice a5 W.qs.length c5)):=hX;have YB:Hid (Bw wr (w.heap.size+1) W v1 v2 v3 (slice b4 W.us.length d4) (slice b5 W.qs.length d5)):=hY;have B:Hid (Below w.heap.size w wr):=hB;clear hX hY hB X2 Y2 K2';by_cases h0:k=W.us.length
  ·subst h0
   have x7:=XB.c7;clear hk;go_wp2;clear x7;go_loopw [8] (λi W'=>∃k:Nat,k<=W.qs.length/\i=int i64 (k:Nat)/\Bw W' w.heap.size W u1 u2 u3 (slice a4 W.us.length c4) (slice a5 W.qs.length c5)/\Bw W' (w.heap.size+1) W v1 v2 v3 (slice b4 W.us.length d4) (slice b5 W.qs.length d5)/\Below w.heap.size w W') (λi _=>W.qs.length-(intOf i).toNat)
   case atStart=>exact⟨0,aZ _,rfl,XB,YB,B⟩
   case round=>
    obtain⟨k,hk,rfl,hX,hY,hB⟩:=hrel;have XB:Hid (Bw wr w.heap.size W u1 u2 u3 (slice a4 W.us.length c4) (slice a5 W.qs.length c5)):=hX;have YB:Hid (Bw wr (w.heap.size+1) W v1 v2 v3 (slice b4 W.us.length d4) (slice b5 W.qs.length d5)):=hY;have B:Hid (Below w.heap.size w wr):=hB;clear hX hY hB;by_cases h0:k=W.qs.length
    ·subst h0
     have x8:=XB.c8;clear hk;go_wp2;go_ret;exact⟨rfl,B⟩
    ·have hlt:k<W.qs.length:=by omega
     have acH:((k:Nat):Int)<(W.qs.length:Nat):=by omega
     obtain⟨o,ho⟩:∃o,W.qs[k]? =some o:=⟨_,aH hlt⟩;have hne:W.qs≠[]:=by intro e;rw[e] at hlt;simp at hlt
     obtain⟨x,rfl,hx,hxc⟩:=GJ hne;obtain⟨y,rfl,hy,hyc⟩:=KJ hne;obtain⟨q0,q1,q2,q3⟩:=(hxc k o ho).below B (by rw[add_block];exact hx);obtain⟨r0,r1,r2,r3⟩:=(hyc k o ho).below B (by rw[add_block];exact hy);have x8:=XB.c8;have y8:=YB.c8;clear hxc hyc hne ho hx hy;go_wp2;go_quiet (fail);go_wp2;go_round
     case rel=>exact⟨k+1,by omega,by go_num,XB.below (_root_.Go.below_drewN aB _) XB.lt,YB.below (_root_.Go.below_drewN aB _) YB.lt,_root_.Go.below_drewN B _⟩
     case measure=>simp[intOf];omega
  ·have hlt:k<W.us.length:=by omega
   have acH:((k:Nat):Int)<(W.us.length:Nat):=by omega
   obtain⟨o,ho⟩:∃o,W.us[k]? =some o:=⟨_,aH hlt⟩;have hne:W.us≠[]:=by intro e;rw[e] at hlt;simp at hlt
   obtain⟨x,rfl,hx,hxc⟩:=GU hne;obtain⟨y,rfl,hy,hyc⟩:=KU hne;obtain⟨q0,q1,q2,q3,q4,q5,q6,q7⟩:=(hxc k o ho).below B (by rw[add_block];exact hx);obtain⟨r0,r1,r2,r3,r4,r5,r6,r7⟩:=(hyc k o ho).below B (by rw[add_block];exact hy);have x7:=XB.c7;have y7:=YB.c7;clear hxc hyc hne ho hx hy;go_wp2;go_quiet (fail);go_wp2;go_round
   case rel=>exact⟨k+1,by omega,by go_num,XB.below (_root_.Go.below_drewN aB _) XB.lt,YB.below (_root_.Go.below_drewN aB _) YB.lt,_root_.Go.below_drewN B _⟩
   case measure=>simp[intOf];omega
open Go.ChangeAt Go.ChangeShapes Go.WideShapes
theorem Vy:∀d:DataW H,1<=Rows.uptoBulk d
 | .lit (.string bytes)=>by simp[Rows.uptoBulk]
 | .lit (.int _ _)=>by simp[Rows.uptoBulk]
 | .lit (.bool _)=>by simp[Rows.uptoBulk]
 | .lit (.float .f32 _)=>by simp[Rows.uptoBulk]
 | .lit (.float .f64 _)=>by simp[Rows.uptoBulk]
 | .lit .nil=>by simp[Rows.uptoBulk]
 | .nil=>by simp[Rows.uptoBulk]
 | .ptr d=>by simp[Rows.uptoBulk]
 | .slice _ _=>by simp[Rows.uptoBulk]
 | .agg _=>by simp[Rows.uptoBulk]
 | .iface _ _=>by simp[Rows.uptoBulk]
 | .map _=>by simp[Rows.uptoBulk]
 | .held _=>by simp[Rows.uptoBulk]
theorem Ew{H:Type}:∀ds:List (DataW H),ds.length<=Rows.uptoBulkAll ds
 |[]=>by simp
 |d::ds=>by
  have h1:=Vy d;have h2:=Ew ds;simp only[Rows.uptoBulkAll,dI];omega
theorem qp(es sp:List (DataW H)):es.length<=Rows.uptoBulk (.slice es sp):=by
 have:=Ew es;simp only[Rows.uptoBulk];omega
theorem in64_of_wf{n:Int}(h:(Lit.int i64 n).wf=true):Wd.In64 n:=by
 unfold Wd.In64;simp only[Lit.wf,Bool.and_eq_true,decide_eq_true_eq] at h;have h1:IntKind.i64.min= -9223372036854775808:=by decide
 have h2:IntKind.i64.max=9223372036854775807:=by decide
 omega
theorem qw{enc:TypeId×Value->H}{y:DataW H×List MemPlace}(h:DataW.trod enc prog W base (λ_=>true) held fuel 23 [v]=some y):
  ∃zs,Ro W v zs/\(∀n∈zs,Wd.In64 n)/\zs.length<=Rows.uptoBulk y.1:=by
 rcases open_ints underlying23 underlying3 (by kernel_rfl) h with⟨hcs,rfl⟩|⟨x,l,c,zs,hcs,_,hl,hm,hz,rfl,hcell,hwz⟩
 ·simp at hcs
  subst hcs;exact⟨_,Jo.ro (.inl ⟨rfl,rfl,rfl,rfl⟩),by simp,by simp⟩
 ·simp at hcs
  subst hcs;refine⟨_,Jo.ro (.inr ⟨_,rfl,hl,hm,by simpa using hz,hcell,hwz⟩),λn hn=>in64_of_wf (hwz n (List.mem_of_mem_take hn)),?_⟩;have:=qp (H:=H) (lits .i64 (zs.take l)) (lits .i64 (zs.drop l));simpa[lits] using this
theorem YH:∃f0 f1 f2 f3 f4 f5 f6 f7:Field,prog.underlying 74=some (.struct #[f0,f1,f2,f3,f4,f5,f6,f7])/\f0.offset=0/\f0.type=3/\f1.offset=1/\f1.type=3/\f2.offset=2/\f2.type=3/\f3.offset=3/\f3.type=3/\f4.offset=4/\f4.type=3/\f5.offset=5/\f5.type=3/\f6.offset=6/\f6.type=3/\f7.offset=7/\f7.type=3:=⟨_,_,_,_,_,_,_,_,underlying74,rfl,rfl,rfl,rfl,rfl,rfl,rfl,rfl,rfl,rfl,rfl,rfl,rfl,rfl,rfl,rfl⟩
theorem Po{enc:TypeId×Value->H}{y:DataW H×List MemPlace}(h:DataW.trod enc prog W base (λ_=>true) held fuel 74 cs=some y):
  ∃k:aI,cs=[.int .i64 k.id,.int .i64 k.ay,.int .i64 k.kind,.int .i64 k.at_,.int .i64 k.life,.int .i64 k.load,.int .i64 k.task,.int .i64 k.goal]/\∀n∈Wd.iM k,Wd.In64 n:=by
 obtain⟨f0,f1,f2,f3,f4,f5,f6,f7,he,o0,t0,o1,t1,o2,t2,o3,t3,o4,t4,o5,t5,o6,t6,o7,t7⟩:=YH;obtain⟨xs,m,-,-,hlen,hxl,hf⟩:=DataW.trod_struct he h;have wL:prog.cellsOf 3=1:=by kernel_rfl
 have Ag:prog.cellsOf 74=8:=by kernel_rfl
 rw[Ag] at hlen
 match cs,hlen with
 |[v0,v1,v2,v3,v4,v5,v6,v7],_=>
  have hx:xs.length=8:=hxl
  match xs,hx with
  |[x0,x1,x2,x3,x4,x5,x6,x7],_=>
   have g0:=hf 0 f0 rfl;rw[o0,t0,wL] at g0;have g1:=hf 1 f1 rfl;rw[o1,t1,wL] at g1;have g2:=hf 2 f2 rfl;rw[o2,t2,wL] at g2;have g3:=hf 3 f3 rfl;rw[o3,t3,wL] at g3;have g4:=hf 4 f4 rfl;rw[o4,t4,wL] at g4;have g5:=hf 5 f5 rfl;rw[o5,t5,wL] at g5;have g6:=hf 6 f6 rfl;rw[o6,t6,wL] at g6;have g7:=hf 7 f7 rfl;rw[o7,t7,wL] at g7;obtain⟨m0,e0,-,w0⟩:=DataW.trod_int underlying3 g0;obtain⟨m1,e1,-,w1⟩:=DataW.trod_int underlying3 g1;obtain⟨m2,e2,-,w2⟩:=DataW.trod_int underlying3 g2;obtain⟨m3,e3,-,w3⟩:=DataW.trod_int underlying3 g3;obtain⟨m4,e4,-,w4⟩:=DataW.trod_int underlying3 g4;obtain⟨m5,e5,-,w5⟩:=DataW.trod_int underlying3 g5;obtain⟨m6,e6,-,w6⟩:=DataW.trod_int underlying3 g6;obtain⟨m7,e7,-,w7⟩:=DataW.trod_int underlying3 g7;simp at e0 e1 e2 e3 e4 e5 e6 e7;subst e0 e1 e2 e3 e4 e5 e6 e7;refine⟨⟨m0,m1,m2,m3,m4,m5,m6,m7⟩,rfl,?_⟩;intro n hn;simp only[Wd.iM,bP,List.not_mem_nil,or_false] at hn;rcases hn with rfl|rfl|rfl|rfl|rfl|rfl|rfl|rfl
   ·exact in64_of_wf w0
   ·exact in64_of_wf w1
   ·exact in64_of_wf w2
   ·exact in64_of_wf w3
   ·exact in64_of_wf w4
   ·exact in64_of_wf w5
   ·exact in64_of_wf w6
   ·exact in64_of_wf w7
theorem Je{enc:TypeId×Value->H}{y:DataW H×List MemPlace}(h:DataW.trod enc prog W base (λ_=>true) held fuel 26 [v]=some y):
  ∃ks:List aI,oP W v ks/\(∀k∈ks,∀n∈Wd.iM k,Wd.In64 n)/\ks.length<=Rows.uptoBulk y.1:=by
 have Ag:prog.cellsOf 74=8:=by kernel_rfl
 rcases Go.Deep.open_slice underlying26 h with⟨hcs,-⟩|⟨a,len,cap,m,q,D,Pl,hcs,hb,hl,hm,hmm,rfl,hx⟩
 ·simp at hcs
  subst hcs;exact⟨[],⟨none,0,rfl,aU _,by omega,λh=>absurd rfl h⟩,by simp,by simp⟩
 ·simp at hcs
  subst hcs;have hlm:len<=m:=by rw[hmm];simp;exact hl
  have each:∀i,i<len->∃k:aI,fA W (a.add (i*8)) k/\(∀n∈Wd.iM k,Wd.In64 n):=by
   intro i hi;obtain⟨cs',h1,h2⟩:=hx i (by omega);obtain⟨k,rfl,hk⟩:=Po h2;rw[Ag] at h1;obtain⟨-,-,hcell⟩:=World.cells?_some h1;refine⟨k,?_,hk⟩;generalize a.add (i*8)=y at *;exact⟨hcell 0 (by decide),hcell 1 (by decide),hcell 2 (by decide),hcell 3 (by decide),hcell 4 (by decide),hcell 5 (by decide),hcell 6 (by decide),hcell 7 (by decide)⟩
  have inh:Inhabited aI:=⟨⟨0,0,0,0,0,0,0,0⟩⟩;obtain⟨q,hq⟩:=Go.Deep.choose_lt each;refine⟨(List.range len).map q,⟨some a,cap,by simp,by simpa using hl,by unfold maxLen at hm;omega,λhn=>⟨a,rfl,?_,λi k hk=>?_⟩⟩,?_,?_⟩
  ·have h0:0<len:=by
    rcases Nat.eq_zero_or_pos len with h|h
    ·subst h;simp at hn
    ·exact h
   have:=(hq 0 h0).1.lt;rwa[add_block] at this
  ·have hi:i<len:=by
    have:=(aK.1 hk).1;simpa using this
   rw[fG,List.getElem?_range hi] at hk;injection hk with hk
   subst hk;exact(hq i hi).1
  ·intro k hk
   obtain⟨i,hi,rfl⟩:=jg.1 hk;exact(hq i (List.mem_range.1 hi)).2
  ·have:=qp ((List.range len).map D) ((List.range (m-len)).map λj=>D (len+j))
   simpa using this
theorem YI:∃f0 f1 f2 f3:Field,prog.underlying 93=some (.struct #[f0,f1,f2,f3])/\f0.offset=0/\f0.type=3/\f1.offset=1/\f1.type=3/\f2.offset=2/\f2.type=3/\f3.offset=3/\f3.type=3:=⟨_,_,_,_,underlying93,rfl,rfl,rfl,rfl,rfl,rfl,rfl,rfl⟩
theorem Pq{enc:TypeId×Value->H}{y:DataW H×List MemPlace}(h:DataW.trod enc prog W base (λ_=>true) held fuel 93 cs=some y):
  ∃k:bM,cs=[.int .i64 k.ay,.int .i64 k.unit,.int .i64 k.kind,.int .i64 k.left]/\∀n∈Wd.iO k,Wd.In64 n:=by
 obtain⟨f0,f1,f2,f3,he,o0,t0,o1,t1,o2,t2,o3,t3⟩:=YI;obtain⟨xs,m,-,-,hlen,hxl,hf⟩:=DataW.trod_struct he h;have wL:prog.cellsOf 3=1:=by kernel_rfl
 have Ag:prog.cellsOf 93=4:=by kernel_rfl
 rw[Ag] at hlen
 match cs,hlen with
 |[v0,v1,v2,v3],_=>
  have hx:xs.length=4:=hxl
  match xs,hx with
  |[x0,x1,x2,x3],_=>
   have g0:=hf 0 f0 rfl;rw[o0,t0,wL] at g0;have g1:=hf 1 f1 rfl;rw[o1,t1,wL] at g1;have g2:=hf 2 f2 rfl;rw[o2,t2,wL] at g2;have g3:=hf 3 f3 rfl;rw[o3,t3,wL] at g3;obtain⟨m0,e0,-,w0⟩:=DataW.trod_int underlying3 g0;obtain⟨m1,e1,-,w1⟩:=DataW.trod_int underlying3 g1;obtain⟨m2,e2,-,w2⟩:=DataW.trod_int underlying3 g2;obtain⟨m3,e3,-,w3⟩:=DataW.trod_int underlying3 g3;simp at e0 e1 e2 e3;subst e0 e1 e2 e3;refine⟨⟨m0,m1,m2,m3⟩,rfl,?_⟩;intro n hn;simp only[Wd.iO,bP,List.not_mem_nil,or_false] at hn;rcases hn with rfl|rfl|rfl|rfl
   ·exact in64_of_wf w0
   ·exact in64_of_wf w1
   ·exact in64_of_wf w2
   ·exact in64_of_wf w3
theorem Jf{enc:TypeId×Value->H}{y:DataW H×List MemPlace}(h:DataW.trod enc prog W base (λ_=>true) held fuel 27 [v]=some y):
  ∃ks:List bM,VF W v ks/\(∀k∈ks,∀n∈Wd.iO k,Wd.In64 n)/\ks.length<=Rows.uptoBulk y.1:=by
 have Ag:prog.cellsOf 93=4:=by kernel_rfl
 rcases Go.Deep.open_slice underlying27 h with⟨hcs,-⟩|⟨a,len,cap,m,q,D,Pl,hcs,hb,hl,hm,hmm,rfl,hx⟩
 ·simp at hcs
  subst hcs;exact⟨[],⟨none,0,rfl,aU _,by omega,λh=>absurd rfl h⟩,by simp,by simp⟩
 ·simp at hcs
  subst hcs;have hlm:len<=m:=by rw[hmm];simp;exact hl
  have each:∀i,i<len->∃k:bM,nI W (a.add (i*4)) k/\(∀n∈Wd.iO k,Wd.In64 n):=by
   intro i hi;obtain⟨cs',h1,h2⟩:=hx i (by omega);obtain⟨k,rfl,hk⟩:=Pq h2;rw[Ag] at h1;obtain⟨-,-,hcell⟩:=World.cells?_some h1;refine⟨k,?_,hk⟩;generalize a.add (i*4)=y at *;exact⟨hcell 0 (by decide),hcell 1 (by decide),hcell 2 (by decide),hcell 3 (by decide)⟩
  have inh:Inhabited bM:=⟨⟨0,0,0,0⟩⟩;obtain⟨q,hq⟩:=Go.Deep.choose_lt each;refine⟨(List.range len).map q,⟨some a,cap,by simp,by simpa using hl,by unfold maxLen at hm;omega,λhn=>⟨a,rfl,?_,λi k hk=>?_⟩⟩,?_,?_⟩
  ·have h0:0<len:=by
    rcases Nat.eq_zero_or_pos len with h|h
    ·subst h;simp at hn
    ·exact h
   have:=(hq 0 h0).1.lt;rwa[add_block] at this
  ·have hi:i<len:=by
    have:=(aK.1 hk).1;simpa using this
   rw[fG,List.getElem?_range hi] at hk;injection hk with hk
   subst hk;exact(hq i hi).1
  ·intro k hk
   obtain⟨i,hi,rfl⟩:=jg.1 hk;exact(hq i (List.mem_range.1 hi)).2
  ·have:=qp ((List.range len).map D) ((List.range (m-len)).map λj=>D (len+j))
   simpa using this
theorem Jg:∃f0 f1 f2 f3 f4 f5:Field,prog.underlying 29=some (.struct #[f0,f1,f2,f3,f4,f5])/\f0.offset=0/\f0.type=3/\f1.offset=1/\f1.type=3/\f2.offset=2/\f2.type=25/\f3.offset=6/\f3.type=23/\f4.offset=7/\f4.type=26/\f5.offset=8/\f5.type=27:=⟨_,_,_,_,_,_,underlying29,rfl,rfl,rfl,rfl,rfl,rfl,rfl,rfl,rfl,rfl,rfl,rfl⟩
theorem Jh:∃f0 f1 f2 f3:Field,prog.underlying 25=some (.struct #[f0,f1,f2,f3])/\f0.offset=0/\f0.type=3/\f1.offset=1/\f1.type=3/\f2.offset=2/\f2.type=23/\f3.offset=3/\f3.type=23:=⟨_,_,_,_,underlying25,rfl,rfl,rfl,rfl,rfl,rfl,rfl,rfl⟩
theorem Ji{w:World}{xs:List Int}(h:Ro w v xs):Wd.In64 (xs.length:Int):=by
 obtain⟨a,c,-,h1,h2,-⟩:=h;unfold Wd.In64;omega
theorem Aj{enc:TypeId×Value->H}{y:DataW H×List MemPlace}(h:DataW.trod enc prog W base (λ_=>true) held fuel 29 cs=some y):
  ∃X:WV,Wl W (.agg cs.toArray) X/\(∀n∈Wd.nums X,Wd.In64 n)/\(Rows.uptoBulk y.1<=1048576->mJ X):=by
 obtain⟨f0,f1,f2,f3,f4,f5,he,o0,t0,o1,t1,o2,t2,o3,t3,o4,t4,o5,t5⟩:=Jg;obtain⟨xs,m,-,rfl,hlen,hxl,hf⟩:=DataW.trod_struct he h;have wL:prog.cellsOf 3=1:=by kernel_rfl
 have csf:prog.cellsOf 25=4:=by kernel_rfl
 have csl:prog.cellsOf 23=1:=by kernel_rfl
 have csu:prog.cellsOf 26=1:=by kernel_rfl
 have csj:prog.cellsOf 27=1:=by kernel_rfl
 have Ag:prog.cellsOf 29=9:=by kernel_rfl
 rw[Ag] at hlen
 match cs,hlen with
 |[v0,v1,v2,v3,v4,v5,v6,v7,v8],_=>
  have hx:xs.length=6:=hxl
  match xs,hx with
  |[x0,x1,x2,x3,x4,x5],_=>
   have g0:=hf 0 f0 rfl;rw[o0,t0,wL] at g0;have g1:=hf 1 f1 rfl;rw[o1,t1,wL] at g1;have g2:=hf 2 f2 rfl;rw[o2,t2,csf] at g2;have g3:=hf 3 f3 rfl;rw[o3,t3,csl] at g3;have g4:=hf 4 f4 rfl;rw[o4,t4,csu] at g4;have g5:=hf 5 f5 rfl;rw[o5,t5,csj] at g5;obtain⟨m0,e0,-,w0⟩:=DataW.trod_int underlying3 g0;obtain⟨m1,e1,-,w1⟩:=DataW.trod_int underlying3 g1;obtain⟨r0,r1,r2,r3,he',p0,s0,p1,s1,p2,s2,p3,s3⟩:=Jh;obtain⟨ys,m',-,rfl,hlen',hyl,hg⟩:=DataW.trod_struct he' g2;have hy:ys.length=4:=hyl
   match ys,hy with
   |[y0,y1,y2,y3],_=>
    have k0:=hg 0 r0 rfl;rw[p0,s0,wL] at k0;have k1:=hg 1 r1 rfl;rw[p1,s1,wL] at k1;have k2:=hg 2 r2 rfl;rw[p2,s2,csl] at k2;have k3:=hg 3 r3 rfl;rw[p3,s3,csl] at k3;obtain⟨m2,e2,-,w2⟩:=DataW.trod_int underlying3 k0;obtain⟨m3,e3,-,w3⟩:=DataW.trod_int underlying3 k1;simp at e0 e1 e2 e3;subst e0 e1 e2 e3;obtain⟨gs,hgs,igs,bgs⟩:=qw k2;obtain⟨os,hos,ios,bos⟩:=qw k3;obtain⟨gold,Zn,abO,acJ⟩:=qw g3;obtain⟨us,hus,ius,bus⟩:=Je g4;obtain⟨qs,Ez,iqs,bqs⟩:=Jf g5;have lu:Wd.In64 (us.length:Int):=by
     obtain⟨a,c,-,h1,h2,-⟩:=hus;unfold Wd.In64;omega
    have lq:Wd.In64 (qs.length:Int):=by
     obtain⟨a,c,-,h1,h2,-⟩:=Ez;unfold Wd.In64;omega
    refine⟨⟨m0,m1,m2,m3,gs,os,gold,us,qs⟩,⟨_,_,_,_,_,rfl,hgs,hos,Zn,hus,Ez⟩,?_,?_⟩
    ·intro n hn
     simp only[Wd.nums,gJ,bP,List.not_mem_nil,or_false,List.mem_flatMap] at hn;rcases hn with(((((rfl|rfl|rfl|rfl)|(rfl|hn))|(rfl|hn))|(rfl|hn))|(rfl|⟨u,hu,hn⟩))|(rfl|⟨u,hu,hn⟩)
     ·exact in64_of_wf w0
     ·exact in64_of_wf w1
     ·exact in64_of_wf w2
     ·exact in64_of_wf w3
     ·exact Ji hgs
     ·exact igs _ hn
     ·exact Ji hos
     ·exact ios _ hn
     ·exact Ji Zn
     ·exact abO _ hn
     ·exact lu
     ·exact ius u hu n hn
     ·exact lq
     ·exact iqs u hu n hn
    ·intro hb
     simp only[Rows.uptoBulk,Rows.uptoBulkAll,List.map_cons,List.map_nil] at hb;exact⟨by simp only;omega,by simp only;omega,by simp only;omega,by simp only;omega,by simp only;omega⟩
theorem Vz{enc:TypeId×Value->H}{d:DataW H}(hv:Value.okWide prog W .any b0 29 v)(h:DataW.Trod enc prog W base (λ_=>true) held 29 v d p):
  ∃X:WV,Wl W v X/\(∀n∈Wd.nums X,Wd.In64 n)/\(Rows.uptoBulk d<=1048576->mJ X):=by
 obtain⟨cs,rfl,hsz⟩:=okWide_struct underlying29 hv;obtain⟨fuel,hf⟩:=h;have:=Aj hf;simpa[Value.cells] using this
theorem Ey:∃f0 f1 f2 f3 f4 f5 f6 f7 f8 f9 f10:Field,prog.underlying 77=some (.struct #[f0,f1,f2,f3,f4,f5,f6,f7,f8,f9,f10])/\
 f0.offset=0/\f0.type=9/\f1.offset=1/\f1.type=3/\f2.offset=2/\f2.type=3/\f3.offset=3/\f3.type=3/\f4.offset=4/\f4.type=3/\f5.offset=5/\f5.type=3/\f6.offset=6/\f6.type=3/\f7.offset=7/\f7.type=3/\f8.offset=8/\f8.type=3/\f9.offset=9/\f9.type=4/\f10.offset=10/\f10.type=4:=⟨_,_,_,_,_,_,_,_,_,_,_,underlying77,rfl,rfl,rfl,rfl,rfl,rfl,rfl,rfl,rfl,rfl,rfl,rfl,rfl,rfl,rfl,rfl,rfl,rfl,rfl,rfl,rfl,rfl⟩
theorem Pv{enc:TypeId×Value->H}{y:DataW H×List MemPlace}(h:DataW.trod enc prog W base (λ_=>true) held fuel 77 cs=some y):
  ∃k:KV,cs=[.string k.b,.int .i64 k.n0,.int .i64 k.n1,.int .i64 k.n2,.int .i64 k.n3,.int .i64 k.n4,.int .i64 k.n5,.int .i64 k.n6,.int .i64 k.n7,.bool k.f,.bool k.t]/\k.b.size<=maxLen:=by
 obtain⟨f0,f1,f2,f3,f4,f5,f6,f7,f8,f9,f10,he,o0,t0,o1,t1,o2,t2,o3,t3,o4,t4,o5,t5,o6,t6,o7,t7,o8,t8,o9,t9,o10,t10⟩:=Ey;obtain⟨xs,n,-,-,hlen,hxl,hf⟩:=DataW.trod_struct he h;have cs9:prog.cellsOf 9=1:=by kernel_rfl
 have cs3:prog.cellsOf 3=1:=by kernel_rfl
 have cs4:prog.cellsOf 4=1:=by kernel_rfl
 have Ag:prog.cellsOf 77=11:=by kernel_rfl
 rw[Ag] at hlen
 match cs,hlen with
 |[v0,v1,v2,v3,v4,v5,v6,v7,v8,v9,v10],_=>
  have hx11:xs.length=11:=hxl
  match xs,hx11 with
  |[x0,x1,x2,x3,x4,x5,x6,x7,x8,x9,x10],_=>
   have g0:=hf 0 f0 rfl;rw[o0,t0,cs9] at g0;have g1:=hf 1 f1 rfl;rw[o1,t1,cs3] at g1;have g2:=hf 2 f2 rfl;rw[o2,t2,cs3] at g2;have g3:=hf 3 f3 rfl;rw[o3,t3,cs3] at g3;have g4:=hf 4 f4 rfl;rw[o4,t4,cs3] at g4;have g5:=hf 5 f5 rfl;rw[o5,t5,cs3] at g5;have g6:=hf 6 f6 rfl;rw[o6,t6,cs3] at g6;have g7:=hf 7 f7 rfl;rw[o7,t7,cs3] at g7;have g8:=hf 8 f8 rfl;rw[o8,t8,cs3] at g8;have g9:=hf 9 f9 rfl;rw[o9,t9,cs4] at g9;have g10:=hf 10 f10 rfl;rw[o10,t10,cs4] at g10;obtain⟨b,e0,-,hb⟩:=DataW.trod_string underlying9 g0;obtain⟨m1,e1,-,-⟩:=DataW.trod_int underlying3 g1;obtain⟨m2,e2,-,-⟩:=DataW.trod_int underlying3 g2;obtain⟨m3,e3,-,-⟩:=DataW.trod_int underlying3 g3;obtain⟨m4,e4,-,-⟩:=DataW.trod_int underlying3 g4;obtain⟨m5,e5,-,-⟩:=DataW.trod_int underlying3 g5;obtain⟨m6,e6,-,-⟩:=DataW.trod_int underlying3 g6;obtain⟨m7,e7,-,-⟩:=DataW.trod_int underlying3 g7;obtain⟨m8,e8,-,-⟩:=DataW.trod_int underlying3 g8;obtain⟨bf,e9,-⟩:=DataW.trod_bool underlying4 g9;obtain⟨bt,e10,-⟩:=DataW.trod_bool underlying4 g10;simp at e0 e1 e2 e3 e4 e5 e6 e7 e8 e9 e10;subst e0 e1 e2 e3 e4 e5 e6 e7 e8 e9 e10;exact⟨⟨b,m1,m2,m3,m4,m5,m6,m7,m8,bf,bt⟩,rfl,hb⟩
theorem Jj{enc:TypeId×Value->H}{y:DataW H×List MemPlace}(h:DataW.trod enc prog W base (λ_=>true) held fuel 22 [v]=some y):
  ∃ks:List KV,Kl W v ks/\∀k∈ks,k.b.size<=maxLen:=by
 have Ag:prog.cellsOf 77=11:=by kernel_rfl
 rcases Go.Deep.open_slice underlying22 h with⟨hcs,-⟩|⟨a,len,cap,m,n,D,Pl,hcs,hb,hl,hm,hmm,-,hx⟩
 ·simp at hcs
  subst hcs;exact⟨[],⟨none,0,rfl,aU _,by omega,λh=>absurd rfl h⟩,by simp⟩
 ·simp at hcs
  subst hcs;have hlm:len<=m:=by rw[hmm];simp;exact hl
  have each:∀i,i<len->∃k:KV,Kc W (a.add (i*11)) k/\k.b.size<=maxLen:=by
   intro i hi;obtain⟨cs',h1,h2⟩:=hx i (by omega);obtain⟨k,rfl,hk⟩:=Pv h2;rw[Ag] at h1;obtain⟨-,-,hcell⟩:=World.cells?_some h1;refine⟨k,?_,hk⟩;generalize a.add _=y at *;exact⟨hcell 0 (by decide),hcell 1 (by decide),hcell 2 (by decide),hcell 3 (by decide),hcell 4 (by decide),hcell 5 (by decide),hcell 6 (by decide),hcell 7 (by decide),hcell 8 (by decide),hcell 9 (by decide),hcell 10 (by decide)⟩
  have inh:Inhabited KV:=⟨⟨ByteArray.empty,0,0,0,0,0,0,0,0,false,false⟩⟩;obtain⟨q,hq⟩:=Go.Deep.choose_lt each;refine⟨(List.range len).map q,⟨some a,cap,by simp,by simpa using hl,by unfold maxLen at hm;omega,λhn=>⟨a,rfl,?_,λi k hk=>?_⟩⟩,?_⟩
  ·have h0:0<len:=by
    rcases Nat.eq_zero_or_pos len with h|h
    ·subst h;simp at hn
    ·exact h
   have:=(hq 0 h0).1.lt;rwa[add_block] at this
  ·have hi:i<len:=by
    have:=(aK.1 hk).1;simpa using this
   rw[fG,List.getElem?_range hi] at hk;injection hk with hk
   subst hk;exact(hq i hi).1
  ·intro k hk
   obtain⟨i,hi,rfl⟩:=jg.1 hk;exact(hq i (List.mem_range.1 hi)).2
theorem VA{enc:TypeId×Value->H}{d:DataW H}(hv:Value.okWide prog W .any b0 22 v)(h:DataW.Trod enc prog W base (λ_=>true) held 22 v d p):
  ∃ks:List KV,Kl W v ks/\∀k∈ks,k.b.size<=maxLen:=by
 obtain⟨a,len,cap,rfl⟩:=okWide_slice underlying22 hv;obtain⟨fuel,hf⟩:=h;exact Jj hf
end
namespace topViews
open Go.RowKit Go.Proofs.YtolfphmdmpehdaaGreatDoor.So
def Wbo(V:World)(z base:Nat)(Q:WV):Prop:=∃g1 d1 g2 d2 g3 d3 g4 d4 g5 d5,Bw V z Q (slice g1 Q.gs.length d1) (slice g2 Q.os.length d2) (slice g3 Q.gold.length d3) (slice g4 Q.us.length d4) (slice g5 Q.qs.length d5)/\Wo V base (.agg #[int i64 Q.turn,int i64 Q.next,int i64 Q.wide,int i64 Q.high,slice g1 Q.gs.length d1,slice g2 Q.os.length d2,slice g3 Q.gold.length d3,slice g4 Q.us.length d4,slice g5 Q.qs.length d5]) Q
def Stp(ks:List KV)(A:WV)(l:List bU)(Q:WV)(r:Value):Prop:=(r=.nilIface/\cZ ks A l=0/\∃es,oh ks A l Q es)\/∃F:Int,r=.iface 85 (int i64 F)
theorem VD{ks:List KV}{A:WV}{l:List bU}{w w':World}{v ev r:Value}(hs:Dp ks A l w w' v ev)(hr:Er r (cZ ks A l)):∃Q,Wo w' w.heap.size v Q/\Stp ks A l Q r:=by
 rcases hs with⟨hn,rfl,rfl⟩|⟨h0,Y,es,h1,h2,-⟩
 ·refine⟨⟨0,0,0,0,[],[],[],[],[]⟩,⟨_,_,_,_,_,rfl,Ow.nil _ _,Ow.nil _ _,Ow.nil _ _,fD.nil _ _,fB.nil _ _⟩,.inr ?_⟩
  rcases hr with⟨h,-⟩|⟨-,h⟩
  ·exact absurd h hn
  ·exact⟨_,h⟩
 ·refine⟨Y,h2,.inl ⟨?_,h0,es,h1⟩⟩
  rw[h0] at hr;exact One.ez hr
def Bz(V:World)(z:Nat):Prop:=∃c0 c1 c2 c3 c4 c5 c6 c7 c8,Wx V z c0 c1 c2 c3 c4 c5 c6 c7 c8
def TvI(ks:List KV)(p:Int)(N b z:Nat)(w:World)(vb j:Value)(V:World):Prop:=
 ∃(i:Nat) (A:WV) (s1:Option Addr) (l1:Nat) (s2:Option Addr) (l2:Nat) (s3:Option Addr) (l3:Nat) (s4:Option Addr) (l4:Nat) (s5:Option Addr) (l5:Nat) (Wa:Nat) (lb:List UInt8) (pa:Option Addr) (ca:Nat),
  i<=6/\i<=N/\j=int i64 (i:Nat)/\vb=slice pa lb.length ca/\A.wide=(Wa:Nat)/\Wd.enc (dS ks Wa A p)=lb/\Ob V (z+1) vb lb/\Wx V b (int i64 A.turn) (int i64 A.next) (int i64 A.wide) (int i64 A.high) (slice s1 A.gs.length l1) (slice s2 A.os.length l2) (slice s3 A.gold.length l3) (slice s4 A.us.length l4) (slice s5 A.qs.length l5)/\Wl V (.agg #[int i64 A.turn,int i64 A.next,int i64 A.wide,int i64 A.high,slice s1 A.gs.length l1,slice s2 A.os.length l2,slice s3 A.gold.length l3,slice s4 A.us.length l4,slice s5 A.qs.length l5]) A/\bZ ks A p=0/\Bz V z/\Below w.heap.size w V
theorem walk(vk:Value)(ks:List KV)(vw:Value)(X:WV)(vl:Value)(ls:List (List bU))(p:Int)(w:World)
  (h0:Kl w vk ks/\∀k∈ks,k.b.size<=maxLen) (h1:Wl w vw X/\∀n∈Wd.nums X,Wd.In64 n) (h2:Py w vl ls) (hsd:Sd w):
  Calls prog 5 #[vk,vw,vl,int i64 p] w λe w'=>e=.returned (.bool true)/\Below w.heap.size w w':=by
 have K:Hid (Kl w vk ks/\∀k∈ks,k.b.size<=9223372036854775807):=⟨h0.1,λk hk=>by have:=h0.2 k hk;unfold maxLen at this;omega⟩;have H:=aj (h1.1);have L:=aj (h2);have SDH:=aj (hsd);obtain⟨p1,q1,p2,q2,p3,q3,p4,q4,p5,q5,rfl⟩:=aX h1.1;obtain⟨pk,qk,rfl,kc1,kc2,-⟩:=h0.1;obtain⟨pl,ql,rfl,lc1,lc2,-⟩:=h2;clear h0 h1 hsd;go_enter func5,ntmps5;go_upto_region 1 with fail
 obtain⟨b,hb0⟩:∃z,w.heap.size=z:=⟨_,rfl⟩;have B0:Hid (Below _ w (w.alloc (cells #[int i64 X.turn,int i64 X.next,int i64 X.wide,int i64 X.high,slice p1 X.gs.length q1,slice p2 X.os.length q2,slice p3 X.gold.length q3,slice p4 X.us.length q4,slice p5 X.qs.length q5] 29))):=aA;have X0:Hid (Wx _ b (int i64 X.turn) (int i64 X.next) (int i64 X.wide) (int i64 X.high) (slice p1 X.gs.length q1) (slice p2 X.os.length q2) (slice p3 X.gold.length q3) (slice p4 X.us.length q4) (slice p5 X.qs.length q5)):=Wx.new _ _ _ _ _ _ _ _ _ hb0;have HB:=aj (hb0);rw[hb0];generalize w.alloc _=w0 at *;clear hb0;go_wp2_with fail
 refine(one_any w0 (SDH.below B0)).mono ?_;rintro e w1 ⟨rfl,hb⟩;have B1:=aG B0 hb;have X1:=aj (X0.below hb X0.lt);clear hb X0 B0;obtain⟨x0,x1,x2,x3,x4,x5,x6,x7,x8⟩:=X1.cells;go_wp2_with fail
 refine(wC _ _ ks X p w1 (K.1.below B1) K.2 (H.below B1)).mono ?_;rintro e w2 ⟨v,r,rfl,hr,hs,hb⟩;have B2:=aG B1 hb;have X2:=aj (X1.below hb X1.lt);clear hb x0 x1 x2 x3 x4 x5 x6 x7 x8 X1 B1;rcases hs with⟨hn,rfl⟩|⟨hp0,Wn,VZ,hwo⟩
 case inl=>
  obtain⟨f,hf⟩:∃f,bZ ks X p=f:=⟨_,rfl⟩;rw[hf] at hr hn;rcases hr with⟨h,-⟩|⟨-,rfl⟩
  ·exact absurd h hn
  clear hf hn;go_wp2;go_ret
  first|exact⟨rfl,B2.trans (aA.mono B2.size)⟩|exact⟨rfl,⟨B2.os,B2.tape,B2.output,aJ B2.size (by simp),λk hk=>by rw[((dU w2.heap.size w2).alloc aN _).block k (fE hk B2.out.size)];exact B2.block k hk⟩⟩
 rw[hp0] at hr;obtain rfl:=One.ez hr;obtain⟨D,hD⟩:∃D,dS ks Wn X p=D:=⟨_,rfl⟩;have DV:=aj (fQ hD VZ hp0);rw[hD] at hwo;obtain⟨m1,n1,m2,n2,m3,n3,m4,n4,m5,n5,rfl⟩:=aX hwo.l;have DL:=aj (hwo.l);clear hr hD VZ hp0 hwo;go_upto_region 5 with fail
 obtain⟨z,hz⟩:∃z,w2.heap.size=z:=⟨_,rfl⟩;have BA:Hid (Below _ w2 (w2.alloc (cells #[int i64 D.turn,int i64 D.next,int i64 D.wide,int i64 D.high,slice m1 D.gs.length n1,slice m2 D.os.length n2,slice m3 D.gold.length n3,slice m4 D.us.length n4,slice m5 D.qs.length n5] 29))):=aA;have D3:Hid (Wx _ z (int i64 D.turn) (int i64 D.next) (int i64 D.wide) (int i64 D.high) (slice m1 D.gs.length n1) (slice m2 D.os.length n2) (slice m3 D.gold.length n3) (slice m4 D.us.length n4) (slice m5 D.qs.length n5)):=Wx.new _ _ _ _ _ _ _ _ _ hz;have B3:=aG B2 BA;have X3:=aj (X2.below BA X2.lt);have DL3:=aj (DL.below BA);have ZB0:Hid (b<z):=by unfold Hid;rw[<-hz];exact X2.lt
 rw[hz];generalize w2.alloc _=w3 at *;clear hz BA X2 B2 DL;obtain⟨x0,x1,x2,x3,x4,x5,x6,x7,x8⟩:=D3.cells;have DW:Hid (Wd.VQ D):=by unfold Hid;rw[<-DV.out.1];exact Et Wn DV.2.2
 go_wp2_with fail
 refine(qg _ D w3 DL3 (su DW) DW.in_).mono ?_;rintro e w4 ⟨u,rfl,ho,hb⟩;have B4:=aG B3 hb;have X4:=aj (X3.below hb X3.lt);have Z4:Hid (Bz w4 z):=⟨_,_,_,_,_,_,_,_,_,D3.below hb D3.lt⟩;have O4:Hid (Ob w4 (z+1) u _):=KH ho D3.lt;obtain⟨pa,ca,rfl⟩:=ho.len;clear hb ho x0 x1 x2 x3 x4 x5 x6 x7 x8 X3 B3 D3 DL3;go_wp2_with fail
 go_loopw [12,13] (λvb j V=>TvI ks p ls.length b z w vb j V) (λ_ j _=>6-(intOf j).toNat)
 case atStart=>exact⟨0,X,p1,q1,p2,q2,p3,q3,p4,q4,p5,q5,Wn,Wd.enc D,pa,ca,by omega,by omega,rfl,rfl,DV.2.1,by rw[DV.out.1],O4,X4,H.below B4,DV.2.2,Z4,B4⟩
 case round=>
 obtain⟨i,A,s1,l1,s2,l2,s3,l3,s4,l4,s5,l5,Wa,lb,pb,cb,hi6,hil,rfl,rfl,Yx,hlb,hob,hwx,hwl,hpf,hbz,hbb⟩:=hrel;have AX:=aj (hwx);have AL:=aj (hwl);have AP:=aj (fQ hpf Yx hlb);have OB:=aj (hob);have ZZ:=aj (hbz);have BW:=aj (hbb);clear hwx hwl hpf Yx hlb hob hbz hbb X4 Z4 O4 B4 DV DW;by_cases hin:i<ls.length/\i<6
 case neg=>
  have hc:(¬(i:Int)<(ls.length:Int))\/((i:Int)<(ls.length:Int)/\¬(i:Int)<6):=by omega
  obtain⟨x0,x1,x2,x3,x4,x5,x6,x7,x8⟩:=AX.cells;rcases hc with hc|⟨hc1,hc⟩
  all_goals
   go_wp2_with fail
   refine(wC _ _ ks A p wr (K.1.below BW) K.2 AL).mono ?_;rintro e w5 ⟨v,r,rfl,hr,hs,hb⟩;obtain⟨rfl,hwo⟩:=Pg AP.1 AP.2.1 hr hs;obtain⟨G,hG⟩:∃G,dS ks Wa A p=G:=⟨_,rfl⟩;have GV:=aj (hG);rw[hG] at hwo;obtain⟨g1,d1,g2,d2,g3,d3,g4,d4,g5,d5,rfl⟩:=aX hwo.l;have GO:=aj (hwo);have B5:=aG BW hb;have O5:=aj (OB.below hb);obtain⟨c0,c1,c2,c3,c4,c5,c6,c7,c8,hz5⟩:=ZZ.out;have ZL:=aj (hz5.lt);have Z5:=aj (hz5.below hb hz5.lt);clear hb hwo hr hs hG hz5 x0 x1 x2 x3 x4 x5 x6 x7 x8 hin;obtain⟨y0,y1,y2,y3,y4,y5,y6,y7,y8⟩:=Z5.cells;have tt:=Z5.cO;have KW:=aj (dG w5 z (int i64 G.turn) (int i64 G.next) (int i64 G.wide) (int i64 G.high) (slice g1 G.gs.length d1) (slice g2 G.os.length d2) (slice g3 G.gold.length d3) (slice g4 G.us.length d4) (slice g5 G.qs.length d5));have ZN:=aj (Z5.put (int i64 G.turn) (int i64 G.next) (int i64 G.wide) (int i64 G.high) (slice g1 G.gs.length d1) (slice g2 G.os.length d2) (slice g3 G.gold.length d3) (slice g4 G.us.length d4) (slice g5 G.qs.length d5));have LN:=aj ((GO.kp KW ZL).l);have BN:=aj (KW.below B5 B5.size (by have h1:=HB.out;have h2:=ZB0.out;omega));have ON:Hid (Ob _ (z+1) _ lb):=iR O5 KW (by omega);go_upto_region 23 with fail
   clear y0 y1 y2 y3 y4 y5 y6 y7 y8 tt KW Z5 O5 GO B5;generalize World.setCell _ _ _=w6 at *;obtain⟨nl,hnl⟩:∃n,lb.length=n:=⟨_,rfl⟩;have NL:=aj (hnl);rw[hnl] at ON ⊢;clear hnl;go_wp2_with fail
   refine(decode_any _ lb w6 (Ob.VL ON)).mono ?_;rintro e w7 ⟨hd,hb⟩;rw[<-AP.out.2.2] at hd;obtain⟨u,rfl,hu⟩:=Vw AP.1 hd;rw[AP.out.2.2,NL.out];rw[GV.out] at hu;obtain⟨h1,k1,h2,k2,h3,k3,h4,k4,h5,k5,rfl⟩:=aX hu.l;have B7:=aG BN hb;have Z7:=aj (ZN.below hb ZN.lt);have L7:=aj (dJ (LN.below hb) hu.l);clear hb hd hu ZN LN BN ON;go_upto_region 24 with fail
   obtain⟨zh,hzh⟩:∃z,w7.heap.size=z:=⟨_,rfl⟩;have BA:Hid (Below _ w7 (w7.alloc (cells #[int i64 G.turn,int i64 G.next,int i64 G.wide,int i64 G.high,slice h1 G.gs.length k1,slice h2 G.os.length k2,slice h3 G.gold.length k3,slice h4 G.us.length k4,slice h5 G.qs.length k5] 29))):=aA;have H8:Hid (Wx _ zh (int i64 G.turn) (int i64 G.next) (int i64 G.wide) (int i64 G.high) (slice h1 G.gs.length k1) (slice h2 G.os.length k2) (slice h3 G.gold.length k3) (slice h4 G.us.length k4) (slice h5 G.qs.length k5)):=Wx.new _ _ _ _ _ _ _ _ _ hzh;have Z8:=aj (Z7.below BA Z7.lt);have B8:=aG B7 BA;have L8:=aj (dJ (L7.1.below BA) (L7.2.below BA));rw[hzh];generalize w7.alloc _=w8 at *;clear BA hzh Z7 B7 L7;obtain⟨y0,y1,y2,y3,y4,y5,y6,y7,y8⟩:=Z8.cells;obtain⟨x0,x1,x2,x3,x4,x5,x6,x7,x8⟩:=H8.cells;go_wp2_with fail
   refine(Eu _ _ G w8 L8.2 L8.1).mono ?_;rintro e w9 ⟨rfl,hb⟩;have B9:=aG B8 hb;clear hb y0 y1 y2 y3 y4 y5 y6 y7 y8 x0 x1 x2 x3 x4 x5 x6 x7 x8 H8 Z8 B8 L8;go_wp2;go_ret;exact⟨rfl,B9⟩
 have hlt:=hin.1;have hlt':(i:Int)<(ls.length:Int):=by omega
 have hi9:(i:Int)<6:=by omega
 obtain⟨lo,hlo⟩:∃l,ls[i]? =some l:=⟨_,aH hlt⟩;obtain⟨a',c',e',-,-,hq⟩:=L.out;injection e' with e1' e2' e3'
 subst e1' e3';obtain⟨xl,rfl,xlt,hcc⟩:=hq (by rintro rfl;simp at hlt);obtain⟨vo,co,ho⟩:=hcc i lo hlo;have CO:Hid (w.cell? (xl.add i)=some vo/\(xl.add i).block<w.heap.size/\Bo w vo lo):=⟨co,by rw[add_block];exact xlt,ho⟩;clear hq hcc hlo xlt co ho e2' hin
 rename World=>w3
 go_upto_region 11 with fail
 go_cut [14,16] (λv11 v13 V=>∃z Q,v11=.pointer (some ⟨z,0,none⟩)/\Stp ks A lo Q v13/\Wbo V z w3.heap.size Q/\Below w3.heap.size w3 V)
 case first=>
  have CB:Hid (∀V,Below _ w3 V->(Wx V b _ _ _ _ _ _ _ _ _)/\V.cell? _=some vo):=λV hV=>⟨AX.below hV AX.lt,by rw[(BW.out.trans (hV.mono BW.out.size)).cell CO.out.2.1];exact CO.1⟩
  have DE:Hid (Below w3.heap.size w3 {w3 with drawn:=w3.drawn+1}):=aB.drew;refine wM (.read 0 (.read 1 (.read 2 (.read 3 (.read 4 (.read 5 (.two 6 (.read 7 (.read 8 (.read 9 (.read 10 (.one 11 (.one 12 (.one 13 .leaf))))))) 11 (.one 6 (.read 7 (.read 8 (.read 9 (.read 10 (.one 12 (.one 13 .leaf)))))))))))))) [(false,0),(false,1),(false,2),(false,3),(false,4),(false,5),(false,6),(false,7),(false,8),(false,9),(false,10),(false,11),(false,12),(false,13)] [(false,14)] (λV=>(Wx V b (int i64 A.turn) (int i64 A.next) (int i64 A.wide) (int i64 A.high) (slice s1 A.gs.length l1) (slice s2 A.os.length l2) (slice s3 A.gold.length l3) (slice s4 A.us.length l4) (slice s5 A.qs.length l5))/\V.cell? (xl.add i)=some vo) (by kernel_rfl) (by kernel_rfl) (by kernel_rfl) (by decide+kernel) (by decide+kernel) (CB _ DE) ?_;generalize ({w3 with drawn:=w3.drawn+1}:World)=u1 at *;refine iE rfl (slice pk ks.length qk) (by go_simp) (λV hV=>by obtain⟨hV1,cxo⟩:=hV;obtain⟨x0,x1,x2,x3,x4,x5,x6,x7,x8⟩:=hV1.cells;go_simp) ?_;go_simp;refine iE rfl (.agg #[int i64 A.turn,int i64 A.next,int i64 A.wide,int i64 A.high,slice s1 A.gs.length l1,slice s2 A.os.length l2,slice s3 A.gold.length l3,slice s4 A.us.length l4,slice s5 A.qs.length l5]) (by go_simp) (λV hV=>by obtain⟨hV1,cxo⟩:=hV;obtain⟨x0,x1,x2,x3,x4,x5,x6,x7,x8⟩:=hV1.cells;go_simp) ?_;go_simp;refine iE rfl (slice (some xl) ls.length ql) (by go_simp) (λV hV=>by obtain⟨hV1,cxo⟩:=hV;obtain⟨x0,x1,x2,x3,x4,x5,x6,x7,x8⟩:=hV1.cells;go_simp) ?_;go_simp;refine iE rfl (int i64 (i:Nat)) (by go_simp) (λV hV=>by obtain⟨hV1,cxo⟩:=hV;obtain⟨x0,x1,x2,x3,x4,x5,x6,x7,x8⟩:=hV1.cells;go_simp) ?_;go_simp;refine iE rfl (.pointer (some (xl.add i))) (by go_simp) (λV hV=>by obtain⟨hV1,cxo⟩:=hV;obtain⟨x0,x1,x2,x3,x4,x5,x6,x7,x8⟩:=hV1.cells;go_simp) ?_;go_simp;refine iE rfl (vo) (by go_simp) (λV hV=>by obtain⟨hV1,cxo⟩:=hV;obtain⟨x0,x1,x2,x3,x4,x5,x6,x7,x8⟩:=hV1.cells;go_simp) ?_;go_simp;refine aaU ?_ ?_
  ·refine KI rfl 27 #[slice pk ks.length qk,.agg #[int i64 A.turn,int i64 A.next,int i64 A.wide,int i64 A.high,slice s1 A.gs.length l1,slice s2 A.os.length l2,slice s3 A.gold.length l3,slice s4 A.us.length l4,slice s5 A.qs.length l5],vo] (by go_simp) (by go_simp) ?_
   have BB:=aG BW DE;refine(vV _ _ _ ks A lo u1 (K.1.below BB) K.2 (AL.below DE) (CO.2.2.below BB) (SDH.below BB)).mono ?_;rintro e u2 ⟨v,ev,r,rfl,hr,hs,hb⟩;obtain⟨Q,hwo,hst⟩:=VD hs hr;have ST:=aj (hst);clear hr hs hst BB;obtain⟨g1,d1,g2,d2,g3,d3,g4,d4,g5,d5,rfl⟩:=aX hwo.l;have LQ:=aj (hwo.mono DE.size);have BU0:=aG DE hb;refine⟨_,rfl,CB _ BU0,?_⟩;clear hb hwo;go_simp;refine iE rfl (.tuple #[.agg #[int i64 Q.turn,int i64 Q.next,int i64 Q.wide,int i64 Q.high,slice g1 Q.gs.length d1,slice g2 Q.os.length d2,slice g3 Q.gold.length d3,slice g4 Q.us.length d4,slice g5 Q.qs.length d5],ev,r]) (by go_simp) (λV hV=>by go_simp) ?_;go_simp;refine iE rfl (.agg #[int i64 Q.turn,int i64 Q.next,int i64 Q.wide,int i64 Q.high,slice g1 Q.gs.length d1,slice g2 Q.os.length d2,slice g3 Q.gold.length d3,slice g4 Q.us.length d4,slice g5 Q.qs.length d5]) (by go_simp) (λV hV=>by go_simp) ?_;go_simp;refine iE rfl (ev) (by go_simp) (λV hV=>by go_simp) ?_;go_simp;refine iE rfl (r) (by go_simp) (λV hV=>by go_simp) ?_;go_simp;refine sH ?_;obtain⟨bx,hbx⟩:∃z,u2.heap.size=z:=⟨_,rfl⟩;have ba:Below _ u2 (u2.alloc (cells #[int i64 0,int i64 0,int i64 0,int i64 0,slice none 0 0,slice none 0 0,slice none 0 0,slice none 0 0,slice none 0 0] 29)):=aA;have ZE:Hid (Wx _ bx (int i64 0) (int i64 0) (int i64 0) (int i64 0) (slice none 0 0) (slice none 0 0) (slice none 0 0) (slice none 0 0) (slice none 0 0)):=Wx.new _ _ _ _ _ _ _ _ _ hbx;have BU:=aG BU0 ba;have NB:Hid (w3.heap.size<=bx):=by rw[<-hbx];exact BU0.size
   have BL:Hid (Below bx u2 (u2.alloc (cells #[int i64 0,int i64 0,int i64 0,int i64 0,slice none 0 0,slice none 0 0,slice none 0 0,slice none 0 0,slice none 0 0] 29))):=by rw[<-hbx];exact ba
   have LX:=aj (hbx);refine rD rfl (.pointer (some ⟨u2.heap.size,0,none⟩)) (u2.alloc (cells #[int i64 0,int i64 0,int i64 0,int i64 0,slice none 0 0,slice none 0 0,slice none 0 0,slice none 0 0,slice none 0 0] 29)) (by go_simp) (by go_simp) (CB _ BU) ?_;rw[hbx];clear ba hbx;generalize u2.alloc _=u6 at *;go_simp;refine sH ?_;have zz:=ZE.cells;have tt:=ZE.cO;have KZ:=aj (dG u6 bx (int i64 Q.turn) (int i64 Q.next) (int i64 Q.wide) (int i64 Q.high) (slice g1 Q.gs.length d1) (slice g2 Q.os.length d2) (slice g3 Q.gold.length d3) (slice g4 Q.us.length d4) (slice g5 Q.qs.length d5));have BZ:=aj (KZ.below BU BU.size NB);have WZ:Hid (Wbo (((((((((u6.setCell ⟨bx,0,none⟩ (int i64 Q.turn)).setCell ⟨bx,1,none⟩ (int i64 Q.next)).setCell ⟨bx,2,none⟩ (int i64 Q.wide)).setCell ⟨bx,3,none⟩ (int i64 Q.high)).setCell ⟨bx,4,none⟩ (slice g1 Q.gs.length d1)).setCell ⟨bx,5,none⟩ (slice g2 Q.os.length d2)).setCell ⟨bx,6,none⟩ (slice g3 Q.gold.length d3)).setCell ⟨bx,7,none⟩ (slice g4 Q.us.length d4)).setCell ⟨bx,8,none⟩ (slice g5 Q.qs.length d5)) bx w3.heap.size Q):=⟨g1,d1,g2,d2,g3,d3,g4,d4,g5,d5,Rj (ZE.put _ _ _ _ _ _ _ _ _),(LQ.below (by rw[LX.out];exact KZ.below BL (by have h9:=BL.size;have h8:=LX.out;omega) aN))⟩;refine KN rfl _ (by go_simp) (by go_simp) (CB _ BZ) ?_;clear zz tt KZ ZE;generalize World.setCell _ _ _=u9 at *;go_simp;refine sH ?_;refine rD rfl ev u9 (by go_simp) (by go_simp) (CB _ BZ) ?_;go_simp;unfold nM;refine aW rfl r u9 (by go_simp) (by go_simp) trivial ?_;go_simp;unfold bC;go_wp2_with fail
   go_meet
   case rel=>exact⟨bx,Q,rfl,ST,WZ,BZ⟩
  ·obtain⟨bx,hbx⟩:∃z,u1.heap.size=z:=⟨_,rfl⟩
   have ba:Below _ u1 (u1.alloc (cells #[int i64 0,int i64 0,int i64 0,int i64 0,slice none 0 0,slice none 0 0,slice none 0 0,slice none 0 0,slice none 0 0] 29)):=aA;have ZE0:Hid (Wx _ bx (int i64 0) (int i64 0) (int i64 0) (int i64 0) (slice none 0 0) (slice none 0 0) (slice none 0 0) (slice none 0 0) (slice none 0 0)):=Wx.new _ _ _ _ _ _ _ _ _ hbx;have DE2:=aG DE ba;have NB:Hid (w3.heap.size<=bx):=by rw[<-hbx];exact DE.size
   refine rD rfl (.pointer (some ⟨u1.heap.size,0,none⟩)) (u1.alloc (cells #[int i64 0,int i64 0,int i64 0,int i64 0,slice none 0 0,slice none 0 0,slice none 0 0,slice none 0 0,slice none 0 0] 29)) (by go_simp) (by go_simp) (CB _ DE2) ?_;rw[hbx];generalize u1.alloc _=u3 at *;go_simp;clear DE ba hbx;have DE:=DE2;clear DE2;refine sH ?_;refine KI rfl 27 #[slice pk ks.length qk,.agg #[int i64 A.turn,int i64 A.next,int i64 A.wide,int i64 A.high,slice s1 A.gs.length l1,slice s2 A.os.length l2,slice s3 A.gold.length l3,slice s4 A.us.length l4,slice s5 A.qs.length l5],vo] (by go_simp) (by go_simp) ?_;have BB:=aG BW DE;refine(vV _ _ _ ks A lo u3 (K.1.below BB) K.2 (AL.below DE) (CO.2.2.below BB) (SDH.below BB)).mono ?_;rintro e u2 ⟨v,ev,r,rfl,hr,hs,hb⟩;obtain⟨Q,hwo,hst⟩:=VD hs hr;have ST:=aj (hst);clear hr hs hst BB;obtain⟨g1,d1,g2,d2,g3,d3,g4,d4,g5,d5,rfl⟩:=aX hwo.l;have ZE:=aj (ZE0.below hb ZE0.lt);have WQ:=aj (fQ hwo ZE0.lt DE.size);have BU:=aG DE hb;refine⟨_,rfl,CB _ BU,?_⟩;clear hb hwo ZE0;go_simp;refine iE rfl (.tuple #[.agg #[int i64 Q.turn,int i64 Q.next,int i64 Q.wide,int i64 Q.high,slice g1 Q.gs.length d1,slice g2 Q.os.length d2,slice g3 Q.gold.length d3,slice g4 Q.us.length d4,slice g5 Q.qs.length d5],ev,r]) (by go_simp) (λV hV=>by go_simp) ?_;go_simp;refine iE rfl (.agg #[int i64 Q.turn,int i64 Q.next,int i64 Q.wide,int i64 Q.high,slice g1 Q.gs.length d1,slice g2 Q.os.length d2,slice g3 Q.gold.length d3,slice g4 Q.us.length d4,slice g5 Q.qs.length d5]) (by go_simp) (λV hV=>by go_simp) ?_;go_simp;refine iE rfl (ev) (by go_simp) (λV hV=>by go_simp) ?_;go_simp;refine iE rfl (r) (by go_simp) (λV hV=>by go_simp) ?_;go_simp;refine sH ?_;have zz:=ZE.cells;have tt:=ZE.cO;have KZ:=aj (dG u2 bx (int i64 Q.turn) (int i64 Q.next) (int i64 Q.wide) (int i64 Q.high) (slice g1 Q.gs.length d1) (slice g2 Q.os.length d2) (slice g3 Q.gold.length d3) (slice g4 Q.us.length d4) (slice g5 Q.qs.length d5));have BZ:=aj (KZ.below BU BU.size NB);have WZ:Hid (Wbo (((((((((u2.setCell ⟨bx,0,none⟩ (int i64 Q.turn)).setCell ⟨bx,1,none⟩ (int i64 Q.next)).setCell ⟨bx,2,none⟩ (int i64 Q.wide)).setCell ⟨bx,3,none⟩ (int i64 Q.high)).setCell ⟨bx,4,none⟩ (slice g1 Q.gs.length d1)).setCell ⟨bx,5,none⟩ (slice g2 Q.os.length d2)).setCell ⟨bx,6,none⟩ (slice g3 Q.gold.length d3)).setCell ⟨bx,7,none⟩ (slice g4 Q.us.length d4)).setCell ⟨bx,8,none⟩ (slice g5 Q.qs.length d5)) bx w3.heap.size Q):=⟨g1,d1,g2,d2,g3,d3,g4,d4,g5,d5,Rj (ZE.put _ _ _ _ _ _ _ _ _),(WQ.1.kp KZ WQ.2.1).mono WQ.2.2⟩;refine KN rfl _ (by go_simp) (by go_simp) (CB _ BZ) ?_;clear zz tt KZ ZE;generalize World.setCell _ _ _=u9 at *;go_simp;refine sH ?_;refine rD rfl ev u9 (by go_simp) (by go_simp) (CB _ BZ) ?_;go_simp;unfold nM;refine aW rfl r u9 (by go_simp) (by go_simp) trivial ?_;go_simp;unfold bC;go_wp2_with fail
   go_meet
   case rel=>exact⟨bx,Q,rfl,ST,WZ,BZ⟩
 case rest=>
 obtain⟨zq,Q,rfl,hst,hwb,hbw⟩:=hcut;have B4:=aG BW hbw;have A4:=aj (AX.below hbw AX.lt);have AL4:=aj (AL.below hbw);have BB:=aj (AX.lt);have OB4:=aj (OB.below hbw);have ZZ4:Hid (Bz wc z/\z<w3.heap.size):=by
  obtain⟨c0,c1,c2,c3,c4,c5,c6,c7,c8,hz5⟩:=ZZ.out;exact⟨⟨_,_,_,_,_,_,_,_,_,hz5.below hbw hz5.lt⟩,hz5.lt⟩
 rcases hst with⟨rfl,hsf,es,hsr⟩|⟨F,rfl⟩
 case inr=>
  go_wp2;go_ret;exact⟨rfl,B4⟩
 have QS4:=aj (hbw.size);have QP:=aj (Ei AP.1 hsf hsr);obtain⟨g1,d1,g2,d2,g3,d3,g4,d4,g5,d5,hqb,hqo⟩:=hwb;have Q4:=aj (hqb);have QO:=aj (hqo);clear hsf hsr hqb hqo hbw AX AL BW OB ZZ
 rename World=>w4
 obtain⟨x0,x1,x2,x3,x4,x5,x6,x7,x8⟩:=A4.cells;obtain⟨y0,y1,y2,y3,y4,y5,y6,y7,y8⟩:=Q4.out;go_wp2_with fail
 refine(Vf _ _ _ ks A Q p w4 (K.1.below B4) K.2 AL4 QO.l).mono ?_;rintro e w5 ⟨v,r,rfl,hn,hb⟩;obtain⟨Wb,hwb,rfl,VE⟩:=O_ AP.1 QP AP.2.1 hn;rw[AP.out.2.2] at VE;obtain⟨bb,hbb⟩:∃l,Wd.enc (dS ks Wb Q p)=l:=⟨_,rfl⟩;have QV:=aj (dJ (hwb) (hbb));have LE:Hid (lb.length<=6000/\bb.length<=6000):=⟨by rw[<-AP.out.2.2];exact ru Wa AP.1,by rw[<-hbb];exact ru Wb QP⟩;rw[hbb] at VE;have D5:=aj (hb);have C5:=aj (VE.l);obtain⟨pc,cc,rfl⟩:=VE.len;clear hb hn hwb hbb VE x0 x1 x2 x3 x4 x5 x6 x7 x8 y0 y1 y2 y3 y4 y5 y6 y7 y8;go_wp2_with fail
 refine(Vm _ _ w5 C5).mono ?_;rintro e w6 ⟨v6,r6,rfl,hd,hb⟩;obtain⟨rfl,hp⟩:=OY LE.1 LE.2 hd;have D6:=aG D5 hb;have P6:=aj (Ob.VL hp);obtain⟨p6,c6,rfl⟩:=hp.len;clear hb hd hp C5 D5;obtain⟨n6,hn6⟩:∃n,(Wd.wr (Fe.nums (Fe.diff lb bb))).length=n:=⟨_,rfl⟩;rw[hn6] at P6 ⊢;clear hn6;go_wp2_with fail
 refine(Ja _ _ w6 P6).mono ?_;rintro e w7 ⟨v7,n7,r7,rfl,hu,hb⟩;obtain⟨rfl,⟨m7,rfl⟩,ho⟩:=Vu LE.1 LE.2 hu;have D7:=aG D6 hb;have C7:=aj (ho.l);obtain⟨p7,c7,rfl⟩:=ho.len;clear hb hu ho P6 D6;go_wp2_with fail
 refine(OG _ _ lb _ w7 (Ob.VL (OB4.below D7)) C7).mono ?_;rintro e w9 ⟨v8,r8,rfl,hd,hb⟩;obtain⟨rfl,hp⟩:=Vt LE.1 LE.2 hd;have D9:=aG D7 hb;have B9:=aG B4 D9;have P9:Hid (Ob w9 (z+1) v8 bb):=KH hp (aJ (aJ ZZ4.2 (aJ QS4 D7.size)) aN);obtain⟨p8,c8,rfl⟩:=hp.len;have A9:=aj (A4.below D9 A4.lt);have Q9:=aj (Q4.below D9 Q4.lt);have QO9:=aj (QO.below D9);have ZZ9:Hid (Bz w9 z):=by
  obtain⟨c0,c1,c2,c3,c4,c5,c6,c7,c8,hz5⟩:=ZZ4.1;exact⟨_,_,_,_,_,_,_,_,_,hz5.below D9 hz5.lt⟩
 obtain⟨nb,hnb⟩:∃n,bb.length=n:=⟨_,rfl⟩;have NB:=aj (hnb);rw[hnb] at P9 ⊢;clear hb hd hp C7 D7 D9 A4 AL4 Q4 QO OB4 B4 hnb;obtain⟨x0,x1,x2,x3,x4,x5,x6,x7,x8⟩:=Q9.out;obtain⟨y0,y1,y2,y3,y4,y5,y6,y7,y8⟩:=A9.cells;have tt:=A9.cO;have KW:=aj (dG w9 b (int i64 Q.turn) (int i64 Q.next) (int i64 Q.wide) (int i64 Q.high) (slice g1 Q.gs.length d1) (slice g2 Q.os.length d2) (slice g3 Q.gold.length d3) (slice g4 Q.us.length d4) (slice g5 Q.qs.length d5));have AN:=aj (A9.put (int i64 Q.turn) (int i64 Q.next) (int i64 Q.wide) (int i64 Q.high) (slice g1 Q.gs.length d1) (slice g2 Q.os.length d2) (slice g3 Q.gold.length d3) (slice g4 Q.us.length d4) (slice g5 Q.qs.length d5));have LN:=aj ((QO9.kp KW BB).l);have BN:=aj (KW.below B9 B9.size (by rw[HB.out];exact aU _));have ON:Hid (Ob _ (z+1) _ bb):=iR P9 KW (by have:=ZB0.out;omega);have ZN:Hid (Bz (((((((((w9.setCell ⟨b,0,none⟩ (int i64 Q.turn)).setCell ⟨b,1,none⟩ (int i64 Q.next)).setCell ⟨b,2,none⟩ (int i64 Q.wide)).setCell ⟨b,3,none⟩ (int i64 Q.high)).setCell ⟨b,4,none⟩ (slice g1 Q.gs.length d1)).setCell ⟨b,5,none⟩ (slice g2 Q.os.length d2)).setCell ⟨b,6,none⟩ (slice g3 Q.gold.length d3)).setCell ⟨b,7,none⟩ (slice g4 Q.us.length d4)).setCell ⟨b,8,none⟩ (slice g5 Q.qs.length d5)) z):=by
  obtain⟨c0,c1,c2,c3,c4,c5,c6,c7,c8,hz5⟩:=ZZ9.out;exact⟨_,_,_,_,_,_,_,_,_,hz5.kp KW (by have:=ZB0.out;omega)⟩
 go_wp2;go_roundw
 case rel=>exact⟨i+1,Q,g1,d1,g2,d2,g3,d3,g4,d4,g5,d5,Wb,bb,p8,c8,by omega,by omega,by go_num,by rw[NB.out],QV.1,QV.2,ON,AN,LN,QP,ZN,BN⟩
 case measure=>simp[intOf];omega
end topViews
section
open Go.ChangeShapes Go.WideShapes Go.ChangeAt Go.RowKit
variable {w:World} {α:Type}
theorem KO:prog.globalNamed "marchland/field.sides" =some 2:=by kernel_rfl
theorem YJ:(prog.globals[2]?).map (·.type)=some 303:=by kernel_rfl
theorem KQ:prog.cellsOf 302=2:=by kernel_rfl
theorem aaV:prog.cellsOf 3=1:=by kernel_rfl
theorem len2{l:List α}(h:l.length=2):∃a b,l=[a,b]:=by
 match l,h with
 |[a,b],_=>exact⟨a,b,rfl⟩
theorem acI{l:List α}(h:l.length=4):∃a b c d,l=[a,b,c,d]:=by
 match l,h with
 |[a,b,c,d],_=>exact⟨a,b,c,d,rfl⟩
theorem nD{fuel:Nat}{cs:List Value}{a b:Int}{y:DataW Unit×List MemPlace}(h:DataW.trod (λ_=>()) prog w 0 (λ_=>true) false fuel 302 cs=some y)(hy:y.1=.agg [.lit (.int .i64 a),.lit (.int .i64 b)]):cs=[.int .i64 a,.int .i64 b]:=by
 obtain⟨y0,y1,n,hx,hl,h0,h1⟩:=trod_struct2 underlying302 h;obtain⟨p,e0,f0,-⟩:=DataW.trod_int underlying3 h0;obtain⟨q,e1,f1,-⟩:=DataW.trod_int underlying3 h1;rw[hx,f0,f1] at hy;simp only[DataW.agg.injEq,List.cons.injEq,DataW.lit.injEq,Lit.int.injEq,true_and,and_true] at hy;obtain⟨rfl,rfl⟩:=hy;dsimp only at e0 e1;rw[aaV] at e0 e1;rw[KQ] at hl;obtain⟨c0,c1,rfl⟩:=len2 hl;simp at e0 e1;rw[e0,e1]
theorem Jl(h:laidMet prog [("marchland/field.sides",Rows.laid_marchland_field_sides)] w):Sd w:=by
 obtain⟨ps,⟨g,t,cs,fuel,p,q,h1,h2,h3,h4,-,-⟩,-,-⟩:=h;obtain rfl:=dQ (KO.symm.trans h1);obtain rfl:=dQ (YJ.symm.trans h2);obtain⟨xs,m,-,hx,hl,hn,hi⟩:=DataW.trod_array underlying303 h4;have hd:xs.map (·.1)=[.agg [.lit (.int .i64 0),.lit (.int .i64 (-1))],.agg [.lit (.int .i64 (-1)),.lit (.int .i64 0)],.agg [.lit (.int .i64 1),.lit (.int .i64 0)],.agg [.lit (.int .i64 0),.lit (.int .i64 1)]]:=by
  have e:Rows.laid_marchland_field_sides=DataW.agg (xs.map (·.1)):=congrArg Prod.fst hx;unfold Rows.laid_marchland_field_sides at e;injection e with e
  exact e.symm
 obtain⟨x0,x1,x2,x3,rfl⟩:=acI hn;simp only[List.map_cons,List.map_nil,List.cons.injEq,and_true] at hd;obtain⟨d0,d1,d2,d3⟩:=hd;have i0:=nD (hi 0 (by decide)) d0;have i1:=nD (hi 1 (by decide)) d1;have i2:=nD (hi 2 (by decide)) d2;have i3:=nD (hi 3 (by decide)) d3;rw[KQ] at i0 i1 i2 i3;have ec:∀k:Nat,w.cell? ⟨2,k,none⟩=cs.toList[k]? :=λk=>by
  have e:=World.var?_cell KO h3 k;rw[e,Array.getElem?_toList]
 have g0:∀k a b,(cs.toList.drop (k*2)).take 2=[.int .i64 a,.int .i64 b]->cs.toList[k*2]? =some (.int .i64 a)/\cs.toList[k*2+1]? =some (.int .i64 b):=by
  intro k a b e;constructor
  ·have:=congrArg (λl=>l[0]?) e
   simpa[eP,mF] using this
  ·have:=congrArg (λl=>l[1]?) e
   simpa[eP,mF] using this
 have j0:=g0 0 _ _ i0;have j1:=g0 1 _ _ i1;have j2:=g0 2 _ _ i2;have j3:=g0 3 _ _ i3;exact⟨(ec 0).trans j0.1,(ec 1).trans j0.2,(ec 2).trans j1.1,(ec 3).trans j1.2,(ec 4).trans j2.1,(ec 5).trans j2.2,(ec 6).trans j3.1,(ec 7).trans j3.2⟩
end
end Go.Proofs.YtolfphmdmpehdaaGreatDoor
