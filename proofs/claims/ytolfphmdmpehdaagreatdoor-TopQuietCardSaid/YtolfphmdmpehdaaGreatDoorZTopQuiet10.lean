/- What a walk is told of worlds and bytes that came in. And more. -/
import Derived.Test.YtolfphmdmpehdaaGreatDoorZTopQuiet9
set_option linter.unusedVariables false
set_option maxHeartbeats 64000000
set_option maxRecDepth 100000
open Go.Value (int slice)
open Go.IntKind (i64)
namespace Go.Proofs.YtolfphmdmpehdaaGreatDoor
open Go.ChangeShapes Go.WideShapes Go.ChangeAt Go.RowKit
theorem in64_of_wf{n:Int}(h:(Lit.int i64 n).wf=true):Wd.In64 n:=by
 unfold Wd.In64;simp only[Lit.wf,Bool.and_eq_true,decide_eq_true_eq] at h;have h1:IntKind.i64.min= -9223372036854775808:=by decide
 have h2:IntKind.i64.max=9223372036854775807:=by decide
 omega
theorem kV{H:Type}{enc:TypeId×Value->H}{W:World}{base:Nat}{held:Bool}{fuel:Nat}{v:Value}{y:DataW H×List MemPlace}(h:DataW.trod enc Tryz.prog W base (λ_=>true) held fuel 23 [v]=some y):
  ∃zs,Ro W v zs/\(∀n∈zs,Wd.In64 n)/\zs.length<=Rows.uptoBulk y.1:=by
 rcases open_ints Tryz.underlying23 Tryz.underlying3 (by kernel_rfl) h with⟨hcs,rfl⟩|⟨x,l,c,zs,hcs,_,hl,hm,hz,rfl,hcell,hwz⟩
 ·simp at hcs
  subst hcs;exact⟨_,zM.ro (.inl ⟨rfl,rfl,rfl,rfl⟩),by simp,by simp⟩
 ·simp at hcs
  subst hcs;refine⟨_,zM.ro (zs:=zs) (.inr ⟨_,rfl,hl,hm,by simpa using hz,hcell,hwz⟩),λn hn=>in64_of_wf (hwz n (List.mem_of_mem_take hn)),?_⟩;have:=kU (H:=H) (lits .i64 (zs.take l)) (lits .i64 (zs.drop l));simpa[lits] using this
theorem Ov:∃f0 f1 f2 f3 f4 f5 f6 f7:Field,Tryz.prog.underlying 74=some (.struct #[f0,f1,f2,f3,f4,f5,f6,f7])/\f0.offset=0/\f0.type=3/\f1.offset=1/\f1.type=3/\f2.offset=2/\f2.type=3/\f3.offset=3/\f3.type=3/\f4.offset=4/\f4.type=3/\f5.offset=5/\f5.type=3/\f6.offset=6/\f6.type=3/\f7.offset=7/\f7.type=3:=⟨_,_,_,_,_,_,_,_,Tryz.underlying74,rfl,rfl,rfl,rfl,rfl,rfl,rfl,rfl,rfl,rfl,rfl,rfl,rfl,rfl,rfl,rfl⟩
theorem EX{H:Type}{enc:TypeId×Value->H}{W:World}{base:Nat}{held:Bool}{fuel:Nat}{cs:List Value}{y:DataW H×List MemPlace}(h:DataW.trod enc Tryz.prog W base (λ_=>true) held fuel 74 cs=some y):
  ∃k:aC,cs=[.int .i64 k.id,.int .i64 k.aA,.int .i64 k.kind,.int .i64 k.at_,.int .i64 k.life,.int .i64 k.load,.int .i64 k.task,.int .i64 k.goal]/\∀n∈Wd.uH k,Wd.In64 n:=by
 obtain⟨f0,f1,f2,f3,f4,f5,f6,f7,he,o0,t0,o1,t1,o2,t2,o3,t3,o4,t4,o5,t5,o6,t6,o7,t7⟩:=Ov;obtain⟨xs,m,-,-,hlen,hxl,hf⟩:=DataW.trod_struct he h;have uF:Tryz.prog.cellsOf 3=1:=by kernel_rfl
 have EZ:Tryz.prog.cellsOf 74=8:=by kernel_rfl
 rw[EZ] at hlen
 match cs,hlen with
 |[v0,v1,v2,v3,v4,v5,v6,v7],_=>
  have hx:xs.length=8:=hxl
  match xs,hx with
  |[x0,x1,x2,x3,x4,x5,x6,x7],_=>
   have g0:=hf 0 f0 rfl;rw[o0,t0,uF] at g0;have g1:=hf 1 f1 rfl;rw[o1,t1,uF] at g1;have g2:=hf 2 f2 rfl;rw[o2,t2,uF] at g2;have g3:=hf 3 f3 rfl;rw[o3,t3,uF] at g3;have g4:=hf 4 f4 rfl;rw[o4,t4,uF] at g4;have g5:=hf 5 f5 rfl;rw[o5,t5,uF] at g5;have g6:=hf 6 f6 rfl;rw[o6,t6,uF] at g6;have g7:=hf 7 f7 rfl;rw[o7,t7,uF] at g7;obtain⟨m0,e0,-,w0⟩:=DataW.trod_int Tryz.underlying3 g0;obtain⟨m1,e1,-,w1⟩:=DataW.trod_int Tryz.underlying3 g1;obtain⟨m2,e2,-,w2⟩:=DataW.trod_int Tryz.underlying3 g2;obtain⟨m3,e3,-,w3⟩:=DataW.trod_int Tryz.underlying3 g3;obtain⟨m4,e4,-,w4⟩:=DataW.trod_int Tryz.underlying3 g4;obtain⟨m5,e5,-,w5⟩:=DataW.trod_int Tryz.underlying3 g5;obtain⟨m6,e6,-,w6⟩:=DataW.trod_int Tryz.underlying3 g6;obtain⟨m7,e7,-,w7⟩:=DataW.trod_int Tryz.underlying3 g7;simp at e0 e1 e2 e3 e4 e5 e6 e7;subst e0 e1 e2 e3 e4 e5 e6 e7;refine⟨⟨m0,m1,m2,m3,m4,m5,m6,m7⟩,rfl,?_⟩;intro n hn;simp only[Wd.uH,List.mem_cons,List.not_mem_nil,or_false] at hn;rcases hn with rfl|rfl|rfl|rfl|rfl|rfl|rfl|rfl
   ·exact in64_of_wf w0
   ·exact in64_of_wf w1
   ·exact in64_of_wf w2
   ·exact in64_of_wf w3
   ·exact in64_of_wf w4
   ·exact in64_of_wf w5
   ·exact in64_of_wf w6
   ·exact in64_of_wf w7
theorem zF{H:Type}{enc:TypeId×Value->H}{W:World}{base:Nat}{held:Bool}{fuel:Nat}{v:Value}{y:DataW H×List MemPlace}(h:DataW.trod enc Tryz.prog W base (λ_=>true) held fuel 26 [v]=some y):
  ∃ks:List aC,jF W v ks/\(∀k∈ks,∀n∈Wd.uH k,Wd.In64 n)/\ks.length<=Rows.uptoBulk y.1:=by
 have EZ:Tryz.prog.cellsOf 74=8:=by kernel_rfl
 rcases Go.Deep.open_slice Tryz.underlying26 h with⟨hcs,-⟩|⟨a,len,cap,m,q,D,Pl,hcs,hb,hl,hm,hmm,rfl,hx⟩
 ·simp at hcs
  subst hcs;exact⟨[],⟨none,0,rfl,Nat.le_refl _,by omega,λh=>absurd rfl h⟩,by simp,by simp⟩
 ·simp at hcs
  subst hcs;have hlm:len<=m:=by rw[hmm];simp;exact hl
  have each:∀i,i<len->∃k:aC,dB W (a.add (i*8)) k/\(∀n∈Wd.uH k,Wd.In64 n):=by
   intro i hi;obtain⟨cs',h1,h2⟩:=hx i (by omega);obtain⟨k,rfl,hk⟩:=EX h2;rw[EZ] at h1;obtain⟨-,-,hcell⟩:=World.cells?_some h1;refine⟨k,?_,hk⟩;generalize a.add (i*8)=y at *;exact⟨hcell 0 (by decide),hcell 1 (by decide),hcell 2 (by decide),hcell 3 (by decide),hcell 4 (by decide),hcell 5 (by decide),hcell 6 (by decide),hcell 7 (by decide)⟩
  have inh:Inhabited aC:=⟨⟨0,0,0,0,0,0,0,0⟩⟩;obtain⟨q,hq⟩:=Go.Deep.choose_lt each;refine⟨(List.range len).map q,⟨some a,cap,by simp,by simpa using hl,by unfold maxLen at hm;omega,λhn=>⟨a,rfl,?_,λi k hk=>?_⟩⟩,?_,?_⟩
  ·have h0:0<len:=by
    rcases Nat.eq_zero_or_pos len with h|h
    ·subst h;simp at hn
    ·exact h
   have:=(hq 0 h0).1.lt;rwa[add_block] at this
  ·have hi:i<len:=by
    have:=(List.getElem?_eq_some_iff.1 hk).1;simpa using this
   rw[List.getElem?_map,List.getElem?_range hi] at hk;injection hk with hk
   subst hk;exact(hq i hi).1
  ·intro k hk
   obtain⟨i,hi,rfl⟩:=List.mem_map.1 hk;exact(hq i (List.mem_range.1 hi)).2
  ·have:=kU ((List.range len).map D) ((List.range (m-len)).map λj=>D (len+j))
   simpa using this
theorem Ox:∃f0 f1 f2 f3:Field,Tryz.prog.underlying 93=some (.struct #[f0,f1,f2,f3])/\f0.offset=0/\f0.type=3/\f1.offset=1/\f1.type=3/\f2.offset=2/\f2.type=3/\f3.offset=3/\f3.type=3:=⟨_,_,_,_,Tryz.underlying93,rfl,rfl,rfl,rfl,rfl,rfl,rfl,rfl⟩
theorem E_{H:Type}{enc:TypeId×Value->H}{W:World}{base:Nat}{held:Bool}{fuel:Nat}{cs:List Value}{y:DataW H×List MemPlace}(h:DataW.trod enc Tryz.prog W base (λ_=>true) held fuel 93 cs=some y):
  ∃k:aO,cs=[.int .i64 k.aA,.int .i64 k.unit,.int .i64 k.kind,.int .i64 k.left]/\∀n∈Wd.uI k,Wd.In64 n:=by
 obtain⟨f0,f1,f2,f3,he,o0,t0,o1,t1,o2,t2,o3,t3⟩:=Ox;obtain⟨xs,m,-,-,hlen,hxl,hf⟩:=DataW.trod_struct he h;have uF:Tryz.prog.cellsOf 3=1:=by kernel_rfl
 have EZ:Tryz.prog.cellsOf 93=4:=by kernel_rfl
 rw[EZ] at hlen
 match cs,hlen with
 |[v0,v1,v2,v3],_=>
  have hx:xs.length=4:=hxl
  match xs,hx with
  |[x0,x1,x2,x3],_=>
   have g0:=hf 0 f0 rfl;rw[o0,t0,uF] at g0;have g1:=hf 1 f1 rfl;rw[o1,t1,uF] at g1;have g2:=hf 2 f2 rfl;rw[o2,t2,uF] at g2;have g3:=hf 3 f3 rfl;rw[o3,t3,uF] at g3;obtain⟨m0,e0,-,w0⟩:=DataW.trod_int Tryz.underlying3 g0;obtain⟨m1,e1,-,w1⟩:=DataW.trod_int Tryz.underlying3 g1;obtain⟨m2,e2,-,w2⟩:=DataW.trod_int Tryz.underlying3 g2;obtain⟨m3,e3,-,w3⟩:=DataW.trod_int Tryz.underlying3 g3;simp at e0 e1 e2 e3;subst e0 e1 e2 e3;refine⟨⟨m0,m1,m2,m3⟩,rfl,?_⟩;intro n hn;simp only[Wd.uI,List.mem_cons,List.not_mem_nil,or_false] at hn;rcases hn with rfl|rfl|rfl|rfl
   ·exact in64_of_wf w0
   ·exact in64_of_wf w1
   ·exact in64_of_wf w2
   ·exact in64_of_wf w3
theorem zG{H:Type}{enc:TypeId×Value->H}{W:World}{base:Nat}{held:Bool}{fuel:Nat}{v:Value}{y:DataW H×List MemPlace}(h:DataW.trod enc Tryz.prog W base (λ_=>true) held fuel 27 [v]=some y):
  ∃ks:List aO,KT W v ks/\(∀k∈ks,∀n∈Wd.uI k,Wd.In64 n)/\ks.length<=Rows.uptoBulk y.1:=by
 have EZ:Tryz.prog.cellsOf 93=4:=by kernel_rfl
 rcases Go.Deep.open_slice Tryz.underlying27 h with⟨hcs,-⟩|⟨a,len,cap,m,q,D,Pl,hcs,hb,hl,hm,hmm,rfl,hx⟩
 ·simp at hcs
  subst hcs;exact⟨[],⟨none,0,rfl,Nat.le_refl _,by omega,λh=>absurd rfl h⟩,by simp,by simp⟩
 ·simp at hcs
  subst hcs;have hlm:len<=m:=by rw[hmm];simp;exact hl
  have each:∀i,i<len->∃k:aO,jS W (a.add (i*4)) k/\(∀n∈Wd.uI k,Wd.In64 n):=by
   intro i hi;obtain⟨cs',h1,h2⟩:=hx i (by omega);obtain⟨k,rfl,hk⟩:=E_ h2;rw[EZ] at h1;obtain⟨-,-,hcell⟩:=World.cells?_some h1;refine⟨k,?_,hk⟩;generalize a.add (i*4)=y at *;exact⟨hcell 0 (by decide),hcell 1 (by decide),hcell 2 (by decide),hcell 3 (by decide)⟩
  have inh:Inhabited aO:=⟨⟨0,0,0,0⟩⟩;obtain⟨q,hq⟩:=Go.Deep.choose_lt each;refine⟨(List.range len).map q,⟨some a,cap,by simp,by simpa using hl,by unfold maxLen at hm;omega,λhn=>⟨a,rfl,?_,λi k hk=>?_⟩⟩,?_,?_⟩
  ·have h0:0<len:=by
    rcases Nat.eq_zero_or_pos len with h|h
    ·subst h;simp at hn
    ·exact h
   have:=(hq 0 h0).1.lt;rwa[add_block] at this
  ·have hi:i<len:=by
    have:=(List.getElem?_eq_some_iff.1 hk).1;simpa using this
   rw[List.getElem?_map,List.getElem?_range hi] at hk;injection hk with hk
   subst hk;exact(hq i hi).1
  ·intro k hk
   obtain⟨i,hi,rfl⟩:=List.mem_map.1 hk;exact(hq i (List.mem_range.1 hi)).2
  ·have:=kU ((List.range len).map D) ((List.range (m-len)).map λj=>D (len+j))
   simpa using this
theorem zH:∃f0 f1 f2 f3 f4 f5:Field,Tryz.prog.underlying 29=some (.struct #[f0,f1,f2,f3,f4,f5])/\f0.offset=0/\f0.type=3/\f1.offset=1/\f1.type=3/\f2.offset=2/\f2.type=25/\f3.offset=6/\f3.type=23/\f4.offset=7/\f4.type=26/\f5.offset=8/\f5.type=27:=⟨_,_,_,_,_,_,Tryz.underlying29,rfl,rfl,rfl,rfl,rfl,rfl,rfl,rfl,rfl,rfl,rfl,rfl⟩
theorem zI:∃f0 f1 f2 f3:Field,Tryz.prog.underlying 25=some (.struct #[f0,f1,f2,f3])/\f0.offset=0/\f0.type=3/\f1.offset=1/\f1.type=3/\f2.offset=2/\f2.type=23/\f3.offset=3/\f3.type=23:=⟨_,_,_,_,Tryz.underlying25,rfl,rfl,rfl,rfl,rfl,rfl,rfl,rfl⟩
theorem zJ{w:World}{v:Value}{xs:List Int}(h:Ro w v xs):Wd.In64 (xs.length:Int):=by
 obtain⟨a,c,-,h1,h2,-⟩:=h;unfold Wd.In64;omega
theorem uy{H:Type}{enc:TypeId×Value->H}{W:World}{base:Nat}{held:Bool}{fuel:Nat}{cs:List Value}{y:DataW H×List MemPlace}(h:DataW.trod enc Tryz.prog W base (λ_=>true) held fuel 29 cs=some y):
  ∃X:WV,Wl W (.agg cs.toArray) X/\(∀n∈Wd.nums X,Wd.In64 n)/\(Rows.uptoBulk y.1<=1048576->Fq X):=by
 obtain⟨f0,f1,f2,f3,f4,f5,he,o0,t0,o1,t1,o2,t2,o3,t3,o4,t4,o5,t5⟩:=zH;obtain⟨xs,m,-,rfl,hlen,hxl,hf⟩:=DataW.trod_struct he h;have uF:Tryz.prog.cellsOf 3=1:=by kernel_rfl
 have ZO:Tryz.prog.cellsOf 25=4:=by kernel_rfl
 have XJ:Tryz.prog.cellsOf 23=1:=by kernel_rfl
 have ZQ:Tryz.prog.cellsOf 26=1:=by kernel_rfl
 have ZR:Tryz.prog.cellsOf 27=1:=by kernel_rfl
 have EZ:Tryz.prog.cellsOf 29=9:=by kernel_rfl
 rw[EZ] at hlen
 match cs,hlen with
 |[v0,v1,v2,v3,v4,v5,v6,v7,v8],_=>
  have hx:xs.length=6:=hxl
  match xs,hx with
  |[x0,x1,x2,x3,x4,x5],_=>
   have g0:=hf 0 f0 rfl;rw[o0,t0,uF] at g0;have g1:=hf 1 f1 rfl;rw[o1,t1,uF] at g1;have g2:=hf 2 f2 rfl;rw[o2,t2,ZO] at g2;have g3:=hf 3 f3 rfl;rw[o3,t3,XJ] at g3;have g4:=hf 4 f4 rfl;rw[o4,t4,ZQ] at g4;have g5:=hf 5 f5 rfl;rw[o5,t5,ZR] at g5;obtain⟨m0,e0,-,w0⟩:=DataW.trod_int Tryz.underlying3 g0;obtain⟨m1,e1,-,w1⟩:=DataW.trod_int Tryz.underlying3 g1;obtain⟨r0,r1,r2,r3,he',p0,s0,p1,s1,p2,s2,p3,s3⟩:=zI;obtain⟨ys,m',-,rfl,hlen',hyl,hg⟩:=DataW.trod_struct he' g2;have hy:ys.length=4:=hyl
   match ys,hy with
   |[y0,y1,y2,y3],_=>
    have k0:=hg 0 r0 rfl;rw[p0,s0,uF] at k0;have k1:=hg 1 r1 rfl;rw[p1,s1,uF] at k1;have k2:=hg 2 r2 rfl;rw[p2,s2,XJ] at k2;have k3:=hg 3 r3 rfl;rw[p3,s3,XJ] at k3;obtain⟨m2,e2,-,w2⟩:=DataW.trod_int Tryz.underlying3 k0;obtain⟨m3,e3,-,w3⟩:=DataW.trod_int Tryz.underlying3 k1;simp at e0 e1 e2 e3;subst e0 e1 e2 e3;obtain⟨gs,hgs,igs,bgs⟩:=kV k2;obtain⟨os,hos,ZT,bos⟩:=kV k3;obtain⟨gold,PX,Vj,Yx⟩:=kV g3;obtain⟨us,hus,ZV,bus⟩:=zF g4;obtain⟨qs,OG,ZX,bqs⟩:=zG g5;have lu:Wd.In64 (us.length:Int):=by
     obtain⟨a,c,-,h1,h2,-⟩:=hus;unfold Wd.In64;omega
    have lq:Wd.In64 (qs.length:Int):=by
     obtain⟨a,c,-,h1,h2,-⟩:=OG;unfold Wd.In64;omega
    refine⟨⟨m0,m1,m2,m3,gs,os,gold,us,qs⟩,⟨_,_,_,_,_,rfl,hgs,hos,PX,hus,OG⟩,?_,?_⟩
    ·intro n hn
     simp only[Wd.nums,List.mem_append,List.mem_cons,List.not_mem_nil,or_false,List.mem_flatMap] at hn;rcases hn with(((((rfl|rfl|rfl|rfl)|(rfl|hn))|(rfl|hn))|(rfl|hn))|(rfl|⟨u,hu,hn⟩))|(rfl|⟨u,hu,hn⟩)
     ·exact in64_of_wf w0
     ·exact in64_of_wf w1
     ·exact in64_of_wf w2
     ·exact in64_of_wf w3
     ·exact zJ hgs
     ·exact igs _ hn
     ·exact zJ hos
     ·exact ZT _ hn
     ·exact zJ PX
     ·exact Vj _ hn
     ·exact lu
     ·exact ZV u hu n hn
     ·exact lq
     ·exact ZX u hu n hn
    ·intro hb
     simp only[Rows.uptoBulk,Rows.uptoBulkAll,List.map_cons,List.map_nil] at hb;exact⟨by simp only;omega,by simp only;omega,by simp only;omega,by simp only;omega,by simp only;omega⟩
theorem KO{H:Type}{enc:TypeId×Value->H}{W:World}{base b0:Nat}{held:Bool}{v:Value}{d:DataW H}{p:List MemPlace}(hv:Value.okWide Tryz.prog W .any b0 29 v)(h:DataW.Trod enc Tryz.prog W base (λ_=>true) held 29 v d p):
  ∃X:WV,Wl W v X/\(∀n∈Wd.nums X,Wd.In64 n)/\(Rows.uptoBulk d<=1048576->Fq X):=by
 obtain⟨cs,rfl,hsz⟩:=okWide_struct Tryz.underlying29 hv;obtain⟨fuel,hf⟩:=h;have:=uy hf;simpa[Value.cells] using this
theorem wI:∃f0 f1 f2 f3 f4 f5 f6 f7 f8 f9 f10:Field,Tryz.prog.underlying 77=some (.struct #[f0,f1,f2,f3,f4,f5,f6,f7,f8,f9,f10])/\
 f0.offset=0/\f0.type=9/\f1.offset=1/\f1.type=3/\f2.offset=2/\f2.type=3/\f3.offset=3/\f3.type=3/\f4.offset=4/\f4.type=3/\f5.offset=5/\f5.type=3/\f6.offset=6/\f6.type=3/\f7.offset=7/\f7.type=3/\f8.offset=8/\f8.type=3/\f9.offset=9/\f9.type=4/\f10.offset=10/\f10.type=4:=⟨_,_,_,_,_,_,_,_,_,_,_,Tryz.underlying77,rfl,rfl,rfl,rfl,rfl,rfl,rfl,rfl,rfl,rfl,rfl,rfl,rfl,rfl,rfl,rfl,rfl,rfl,rfl,rfl,rfl,rfl⟩
theorem Fa{H:Type}{enc:TypeId×Value->H}{W:World}{base:Nat}{held:Bool}{fuel:Nat}{cs:List Value}{y:DataW H×List MemPlace}(h:DataW.trod enc Tryz.prog W base (λ_=>true) held fuel 77 cs=some y):
  ∃k:KV,cs=[.string k.b,.int .i64 k.n0,.int .i64 k.n1,.int .i64 k.n2,.int .i64 k.n3,.int .i64 k.n4,.int .i64 k.n5,.int .i64 k.n6,.int .i64 k.n7,.bool k.f,.bool k.t]/\k.b.size<=maxLen:=by
 obtain⟨f0,f1,f2,f3,f4,f5,f6,f7,f8,f9,f10,he,o0,t0,o1,t1,o2,t2,o3,t3,o4,t4,o5,t5,o6,t6,o7,t7,o8,t8,o9,t9,o10,t10⟩:=wI;obtain⟨xs,n,-,-,hlen,hxl,hf⟩:=DataW.trod_struct he h;have cs9:Tryz.prog.cellsOf 9=1:=by kernel_rfl
 have cs3:Tryz.prog.cellsOf 3=1:=by kernel_rfl
 have cs4:Tryz.prog.cellsOf 4=1:=by kernel_rfl
 have EZ:Tryz.prog.cellsOf 77=11:=by kernel_rfl
 rw[EZ] at hlen
 match cs,hlen with
 |[v0,v1,v2,v3,v4,v5,v6,v7,v8,v9,v10],_=>
  have hx11:xs.length=11:=hxl
  match xs,hx11 with
  |[x0,x1,x2,x3,x4,x5,x6,x7,x8,x9,x10],_=>
   have g0:=hf 0 f0 rfl;rw[o0,t0,cs9] at g0;have g1:=hf 1 f1 rfl;rw[o1,t1,cs3] at g1;have g2:=hf 2 f2 rfl;rw[o2,t2,cs3] at g2;have g3:=hf 3 f3 rfl;rw[o3,t3,cs3] at g3;have g4:=hf 4 f4 rfl;rw[o4,t4,cs3] at g4;have g5:=hf 5 f5 rfl;rw[o5,t5,cs3] at g5;have g6:=hf 6 f6 rfl;rw[o6,t6,cs3] at g6;have g7:=hf 7 f7 rfl;rw[o7,t7,cs3] at g7;have g8:=hf 8 f8 rfl;rw[o8,t8,cs3] at g8;have g9:=hf 9 f9 rfl;rw[o9,t9,cs4] at g9;have g10:=hf 10 f10 rfl;rw[o10,t10,cs4] at g10;obtain⟨b,e0,-,hb⟩:=DataW.trod_string Tryz.underlying9 g0;obtain⟨m1,e1,-,-⟩:=DataW.trod_int Tryz.underlying3 g1;obtain⟨m2,e2,-,-⟩:=DataW.trod_int Tryz.underlying3 g2;obtain⟨m3,e3,-,-⟩:=DataW.trod_int Tryz.underlying3 g3;obtain⟨m4,e4,-,-⟩:=DataW.trod_int Tryz.underlying3 g4;obtain⟨m5,e5,-,-⟩:=DataW.trod_int Tryz.underlying3 g5;obtain⟨m6,e6,-,-⟩:=DataW.trod_int Tryz.underlying3 g6;obtain⟨m7,e7,-,-⟩:=DataW.trod_int Tryz.underlying3 g7;obtain⟨m8,e8,-,-⟩:=DataW.trod_int Tryz.underlying3 g8;obtain⟨bf,e9,-⟩:=DataW.trod_bool Tryz.underlying4 g9;obtain⟨bt,e10,-⟩:=DataW.trod_bool Tryz.underlying4 g10;simp at e0 e1 e2 e3 e4 e5 e6 e7 e8 e9 e10;subst e0 e1 e2 e3 e4 e5 e6 e7 e8 e9 e10;exact⟨⟨b,m1,m2,m3,m4,m5,m6,m7,m8,bf,bt⟩,rfl,hb⟩
theorem zK{H:Type}{enc:TypeId×Value->H}{W:World}{base:Nat}{held:Bool}{fuel:Nat}{v:Value}{y:DataW H×List MemPlace}(h:DataW.trod enc Tryz.prog W base (λ_=>true) held fuel 22 [v]=some y):
  ∃ks:List KV,Kl W v ks/\∀k∈ks,k.b.size<=maxLen:=by
 have EZ:Tryz.prog.cellsOf 77=11:=by kernel_rfl
 rcases Go.Deep.open_slice Tryz.underlying22 h with⟨hcs,-⟩|⟨a,len,cap,m,n,D,Pl,hcs,hb,hl,hm,hmm,-,hx⟩
 ·simp at hcs
  subst hcs;exact⟨[],⟨none,0,rfl,Nat.le_refl _,by omega,λh=>absurd rfl h⟩,by simp⟩
 ·simp at hcs
  subst hcs;have hlm:len<=m:=by rw[hmm];simp;exact hl
  have each:∀i,i<len->∃k:KV,Kc W (a.add (i*11)) k/\k.b.size<=maxLen:=by
   intro i hi;obtain⟨cs',h1,h2⟩:=hx i (by omega);obtain⟨k,rfl,hk⟩:=Fa h2;rw[EZ] at h1;obtain⟨-,-,hcell⟩:=World.cells?_some h1;refine⟨k,?_,hk⟩;generalize a.add (i*11)=y at *;exact⟨hcell 0 (by decide),hcell 1 (by decide),hcell 2 (by decide),hcell 3 (by decide),hcell 4 (by decide),hcell 5 (by decide),hcell 6 (by decide),hcell 7 (by decide),hcell 8 (by decide),hcell 9 (by decide),hcell 10 (by decide)⟩
  have inh:Inhabited KV:=⟨⟨ByteArray.empty,0,0,0,0,0,0,0,0,false,false⟩⟩;obtain⟨q,hq⟩:=Go.Deep.choose_lt each;refine⟨(List.range len).map q,⟨some a,cap,by simp,by simpa using hl,by unfold maxLen at hm;omega,λhn=>⟨a,rfl,?_,λi k hk=>?_⟩⟩,?_⟩
  ·have h0:0<len:=by
    rcases Nat.eq_zero_or_pos len with h|h
    ·subst h;simp at hn
    ·exact h
   have:=(hq 0 h0).1.lt;rwa[add_block] at this
  ·have hi:i<len:=by
    have:=(List.getElem?_eq_some_iff.1 hk).1;simpa using this
   rw[List.getElem?_map,List.getElem?_range hi] at hk;injection hk with hk
   subst hk;exact(hq i hi).1
  ·intro k hk
   obtain⟨i,hi,rfl⟩:=List.mem_map.1 hk;exact(hq i (List.mem_range.1 hi)).2
theorem KQ{H:Type}{enc:TypeId×Value->H}{W:World}{base b0:Nat}{held:Bool}{v:Value}{d:DataW H}{p:List MemPlace}(hv:Value.okWide Tryz.prog W .any b0 22 v)(h:DataW.Trod enc Tryz.prog W base (λ_=>true) held 22 v d p):
  ∃ks:List KV,Kl W v ks/\∀k∈ks,k.b.size<=maxLen:=by
 obtain⟨a,len,cap,rfl⟩:=okWide_slice Tryz.underlying22 hv;obtain⟨fuel,hf⟩:=h;exact zK hf
end Go.Proofs.YtolfphmdmpehdaaGreatDoor
namespace Go.Proofs.YtolfphmdmpehdaaGreatDoor.topQuiet
open Go.RowKit Go.Proofs.YtolfphmdmpehdaaGreatDoor.So
theorem walk(vk:Value)(ks:List KV)(vw:Value)(X:WV)(m:Int)(w:World)
  (h0:Kl w vk ks/\∀k∈ks,k.b.size<=maxLen) (h1:Wl w vw X/\∀n∈Wd.nums X,Wd.In64 n) (hsd:Sd w):
  Calls Tryz.prog 8 #[vk,vw,int i64 m] w λe w'=>e=.returned (.bool true)/\Below w.heap.size w w':=by
 have K:Hid (Kl w vk ks/\∀k∈ks,k.b.size<=9223372036854775807):=⟨h0.1,λk hk=>by have:=h0.2 k hk;unfold maxLen at this;omega⟩;have H:Hid (Wl w vw X):=h1.1;have Vu:Hid (Sd w):=hsd;obtain⟨p1,q1,p2,q2,p3,q3,p4,q4,p5,q5,rfl⟩:=aV h1.1;obtain⟨pk,qk,rfl,kc1,kc2,-⟩:=h0.1;have US:Hid (jF w (slice p4 X.us.length q4) X.us):=H.out.slices.2.2.2.1;obtain⟨ua9,uc9,ZY,uc1,uc2,-⟩:=US.out;injection ZY with ue1 ue2 ue3
 subst ue1 ue3;clear h0 h1 hsd ue2;go_enter Tryz.func8,Tryz.ntmps8;go_upto_region 1 with fail
 have B0:Hid (Below w.heap.size w (w.alloc (Obj.cells #[int i64 X.turn,int i64 X.next,int i64 X.wide,int i64 X.high,slice p1 X.gs.length q1,slice p2 X.os.length q2,slice p3 X.gold.length q3,slice p4 X.us.length q4,slice p5 X.qs.length q5] 29))):=(Below.refl _ _).alloc (Nat.le_refl _) _;have X0:Hid (Bw (w.alloc (Obj.cells #[int i64 X.turn,int i64 X.next,int i64 X.wide,int i64 X.high,slice p1 X.gs.length q1,slice p2 X.os.length q2,slice p3 X.gold.length q3,slice p4 X.us.length q4,slice p5 X.qs.length q5] 29)) w.heap.size X (slice p1 X.gs.length q1) (slice p2 X.os.length q2) (slice p3 X.gold.length q3) (slice p4 X.us.length q4) (slice p5 X.qs.length q5)):=Bw.mk' X _ _ _ _ _ rfl;generalize w.alloc (Obj.cells #[int i64 X.turn,int i64 X.next,int i64 X.wide,int i64 X.high,slice p1 X.gs.length q1,slice p2 X.os.length q2,slice p3 X.gold.length q3,slice p4 X.us.length q4,slice p5 X.qs.length q5] 29)=w0 at *;go_wp2_with fail
 refine(one_any w0 (Vu.out.below B0.out)).mono ?_;rintro e w1 ⟨rfl,hb⟩;have B1:Hid (Below w.heap.size w w1):=B0.out.trans (hb.mono B0.out.size);have X1:Hid (Bw w1 w.heap.size X (slice p1 X.gs.length q1) (slice p2 X.os.length q2) (slice p3 X.gold.length q3) (slice p4 X.us.length q4) (slice p5 X.qs.length q5)):=X0.out.below hb X0.out.lt;clear hb X0 B0;obtain⟨x0,x1,x2,x3,x4,x5,x6,x7,x8⟩:=X1.out;go_wp2_with fail
 refine(dI _ _ ks X w1 (K.out.1.below B1.out) K.out.2 (H.out.below B1.out)).mono ?_;rintro e w2 ⟨r,rfl,hr,hb⟩;have B2:Hid (Below w.heap.size w w2):=B1.out.trans (hb.mono B1.out.size);have X2:Hid (Bw w2 w.heap.size X (slice p1 X.gs.length q1) (slice p2 X.os.length q2) (slice p3 X.gold.length q3) (slice p4 X.us.length q4) (slice p5 X.qs.length q5)):=X1.out.below hb X1.out.lt;clear hb x0 x1 x2 x3 x4 x5 x6 x7 x8 X1 B1;obtain⟨f,hf⟩:∃f,Wd.aF ks X=f:=⟨_,rfl⟩;rw[hf] at hr;rcases hr with⟨rfl,rfl⟩|⟨hn,rfl⟩
 case inr=>
  clear hf hn;go_wp2;go_ret;exact⟨rfl,B2.out⟩
 have WF:Hid (Wd.aF ks X=0):=hf;clear hf;by_cases hm0:m<0
 case pos=>
  go_wp2;go_ret;exact⟨rfl,B2.out⟩
 by_cases hm1:10<m
 case pos=>
  go_wp2;go_ret;exact⟨rfl,B2.out⟩
 obtain⟨x0,x1,x2,x3,x4,x5,x6,x7,x8⟩:=X2.out;by_cases ht:900000<X.turn
 case pos=>
  go_wp2;go_ret;exact⟨rfl,B2.out⟩
 by_cases hq:0<X.qs.length
 case pos=>
  have hq':(0:Int)<(X.qs.length:Int):=by omega
  go_wp2;go_ret;exact⟨rfl,B2.out⟩
 have hq':¬(0:Int)<(X.qs.length:Int):=by omega
 obtain⟨mn,rfl⟩:∃n:Nat,m=(n:Nat):=⟨m.toNat,by omega⟩;have hq0:X.qs.length=0:=by omega
 have QN:Hid (X.qs=[]):=List.length_eq_zero_iff.1 hq0;have TT:Hid (X.turn<=900000/\mn<=10):=⟨by omega,by omega⟩;have tb:Hid (0<=X.turn):=by
  have hn:=(aY WF.out).nums;unfold Wd.aU at hn;simp only[Bool.or_eq_false_iff] at hn;have h9:=hn.1;unfold Wd.off at h9;simp at h9;unfold Hid;omega
 clear hq hq0;go_wp2_with fail
 clear x0 x1 x2 x3 x4 x5 x6 x7 x8;go_loopw [9] (λj W=>∃n:Nat,n<=X.us.length/\j=int i64 (n:Nat)/\(∀x∈X.us.take n,x.task=0/\x.load=0/\∀k,ks[x.kind.toNat]? =some k->k.n1=0)/\W=w2) (λj _=>X.us.length-(intOf j).toNat)
 case atStart=>exact⟨0,Nat.zero_le _,rfl,by simp,rfl⟩
 case round=>
 obtain⟨n,hn,rfl,hall,rfl⟩:=hrel;have AL:Hid (∀x∈X.us.take n,x.task=0/\x.load=0/\∀k,ks[x.kind.toNat]? =some k->k.n1=0):=hall;clear hall;obtain⟨x0,x1,x2,x3,x4,x5,x6,x7,x8⟩:=X2.out;by_cases hne:n=X.us.length
 case neg=>
  have hnl:n<X.us.length:=by omega
  have Rl:(n:Int)<(X.us.length:Int):=by omega
  obtain⟨u,hu⟩:∃u,X.us[n]? =some u:=⟨_,List.getElem?_eq_getElem hnl⟩;obtain⟨k,F⟩:=(aY WF.out).fine hu;have TK:Hid (X.us.take (n+1)=X.us.take n++[u]):=by unfold Hid;rw[List.take_add_one,hu];rfl
  obtain⟨ua,uq,ue,-,-,AV⟩:=US.out.below B2.out;injection ue with ue1 ue2 ue3
  subst ue1 ue3;obtain⟨yu,rfl,-,AV⟩:=AV (by rintro h;rw[h] at hu;simp at hu);obtain⟨c0,c1,c2,c3,c4,c5,c6,c7⟩:=AV n u hu;obtain⟨kn,hkn⟩:∃kn:Nat,u.kind=(kn:Nat):=⟨u.kind.toNat,by have:=F.k0;omega⟩;have Vk:ks[kn]? =some k:=by have:=F.kk;rw[hkn,Int.toNat_natCast] at this;exact this
  have knl:(kn:Int)<(ks.length:Int):=by have:=F.k0;omega
  have HK:Hid (ks[u.kind.toNat]? =some k):=F.kk;have ld:=F.load.1;obtain⟨ka,kq,ke,-,-,AY⟩:=K.out.1.below B2.out;injection ke with ke1 ke2 ke3
  subst ke1 ke3;obtain⟨yk,rfl,-,AY⟩:=AY (by rintro h;rw[h] at Vk;simp at Vk);obtain⟨e0,e1,e2,e3,e4,e5,e6,e7,e8,e9,e10⟩:=AY kn k Vk;rw[hkn] at c2;have kf:Hid (0<=k.n1):=by
   have h9:=(aY WF.out).kinds;unfold Kd.aG at h9;split at h9
   ·omega
   ·have h2:=gY h9 k.k (List.mem_map.2 ⟨k,List.mem_of_getElem? Vk,rfl⟩)
    unfold Kd.b_ at h2;split at h2
    ·omega
    ·rename_i h3
     rw[Bool.not_eq_true,List.any_eq_false] at h3;have:=h3 k.n1 (by simp[KV.k]);simp only[decide_eq_true_eq] at this;unfold Hid;omega
  clear F AV AY hu Vk ue2 ke2;by_cases h1:u.task=0
  case neg=>
   have h1b:(u.task==0)=false:=beq_eq_false_iff_ne.2 h1;go_wp2;go_ret;exact⟨rfl,B2.out⟩
  have h1b:(u.task==0)=true:=beq_iff_eq.2 h1;by_cases h2:0<u.load
  case pos=>
   go_wp2;go_ret;exact⟨rfl,B2.out⟩
  by_cases h3:0<k.n1
  case pos=>
   go_wp2;go_ret;exact⟨rfl,B2.out⟩
  have AN:Hid (∀x∈X.us.take (n+1),x.task=0/\x.load=0/\∀k,ks[x.kind.toNat]? =some k->k.n1=0):=by
   intro x hx;rw[TK.out] at hx;rcases List.mem_append.1 hx with hx|hx
   ·exact AL.out x hx
   ·simp at hx
    subst hx;refine⟨h1,by omega,λk' hk'=>?_⟩;rw[HK.out] at hk';injection hk' with hk'
    subst hk';have:=kf.out;omega
  go_wp2;go_roundw
  case rel=>exact⟨n+1,by omega,by go_num,AN.out,by first|rfl|trivial⟩
  case measure=>simp[intOf];omega
 have QU:Hid (Quiet ks X):=⟨WF.out,QN.out,λx hx=>AL.out x (by rw[hne,List.take_length];exact hx)⟩;have hnn:¬(n:Int)<(X.us.length:Int):=by omega
 clear AL;obtain⟨w3,hmk,hol,hbl⟩:=RH mn wr (by have:=TT.out;omega);have B3:Hid (Below w.heap.size w w3):=B2.out.trans (hbl.mono B2.out.size);have X3:Hid (Bw w3 w.heap.size X (slice p1 X.gs.length q1) (slice p2 X.os.length q2) (slice p3 X.gold.length q3) (slice p4 X.us.length q4) (slice p5 X.qs.length q5)):=X2.out.below hbl X2.out.lt;have OL:Hid (JX w3 (slice (some ⟨wr.heap.size,0,none⟩) mn mn) (List.replicate mn [])):=hol;clear hol hbl;go_upto_region 13 with fail
 clear hmk x0 x1 x2 x3 x4 x5 x6 x7 x8;obtain⟨x0,x1,x2,x3,x4,x5,x6,x7,x8⟩:=X3.out;go_wp2_with fail
 refine(vX _ _ _ ks X (List.replicate mn []) w3 (K.out.1.below B3.out) K.out.2 (H.out.below B3.out) OL.out (Vu.out.below B3.out)).mono ?_;rintro e w5 ⟨v,r,F,rfl,hr,hs,hb⟩;obtain⟨rfl,hwo,hwf⟩:=zA QU.out TT.out.2 TT.out.1 hs hr;have B5:Hid (Below w.heap.size w w5):=B3.out.trans (hb.mono B3.out.size);have X5:Hid (Bw w5 w.heap.size X (slice p1 X.gs.length q1) (slice p2 X.os.length q2) (slice p3 X.gold.length q3) (slice p4 X.us.length q4) (slice p5 X.qs.length q5)):=X3.out.below hb X3.out.lt;clear hr hs hb x0 x1 x2 x3 x4 x5 x6 x7 x8 X3 B3 OL X2 B2;obtain⟨T,hT⟩:∃T,X.turn+(mn:Int)=T:=⟨_,rfl⟩;rw[hT] at hwo hwf;have WT:Hid (Wd.aF ks {X with turn:=T}=0):=hwf;have LT0:=hwo.l;obtain⟨s1,l1,s2,l2,s3,l3,s4,l4,s5,l5,hv⟩:=aV hwo.l;subst hv;have LT:Hid (Wl w5 (.agg #[int i64 T,int i64 X.next,int i64 X.wide,int i64 X.high,slice s1 X.gs.length l1,slice s2 X.os.length l2,slice s3 X.gold.length l3,slice s4 X.us.length l4,slice s5 X.qs.length l5]) {X with turn:=T}):=LT0;clear hwo hwf LT0 hT;go_upto_region 14 with fail
 obtain⟨zt,Vl⟩:∃z,w5.heap.size=z:=⟨_,rfl⟩;have BA:Hid (Below w5.heap.size w5 (w5.alloc (Obj.cells #[int i64 T,int i64 X.next,int i64 X.wide,int i64 X.high,slice s1 X.gs.length l1,slice s2 X.os.length l2,slice s3 X.gold.length l3,slice s4 X.us.length l4,slice s5 X.qs.length l5] 29))):=(Below.refl _ _).alloc (Nat.le_refl _) _;have YX:Hid (Wx (w5.alloc (Obj.cells #[int i64 T,int i64 X.next,int i64 X.wide,int i64 X.high,slice s1 X.gs.length l1,slice s2 X.os.length l2,slice s3 X.gold.length l3,slice s4 X.us.length l4,slice s5 X.qs.length l5] 29)) zt (int i64 T) (int i64 X.next) (int i64 X.wide) (int i64 X.high) (slice s1 X.gs.length l1) (slice s2 X.os.length l2) (slice s3 X.gold.length l3) (slice s4 X.us.length l4) (slice s5 X.qs.length l5)):=Wx.new _ _ _ _ _ _ _ _ _ Vl;have B6:Hid (Below w.heap.size w (w5.alloc (Obj.cells #[int i64 T,int i64 X.next,int i64 X.wide,int i64 X.high,slice s1 X.gs.length l1,slice s2 X.os.length l2,slice s3 X.gold.length l3,slice s4 X.us.length l4,slice s5 X.qs.length l5] 29))):=B5.out.trans (BA.out.mono B5.out.size);have X6:Hid (Bw (w5.alloc (Obj.cells #[int i64 T,int i64 X.next,int i64 X.wide,int i64 X.high,slice s1 X.gs.length l1,slice s2 X.os.length l2,slice s3 X.gold.length l3,slice s4 X.us.length l4,slice s5 X.qs.length l5] 29)) w.heap.size X (slice p1 X.gs.length q1) (slice p2 X.os.length q2) (slice p3 X.gold.length q3) (slice p4 X.us.length q4) (slice p5 X.qs.length q5)):=X5.out.below BA.out X5.out.lt;have ZL:Hid (w5.heap.size=zt/\w.heap.size<zt):=⟨Vl,by rw[<-Vl];exact X5.out.lt⟩;rw[Vl];generalize w5.alloc (Obj.cells #[int i64 T,int i64 X.next,int i64 X.wide,int i64 X.high,slice s1 X.gs.length l1,slice s2 X.os.length l2,slice s3 X.gold.length l3,slice s4 X.us.length l4,slice s5 X.qs.length l5] 29)=w6 at *;clear Vl X5 B5;obtain⟨x0,x1,x2,x3,x4,x5,x6,x7,x8⟩:=X6.out;go_wp2_with fail
 refine(qy _ _ ks X w6 (K.out.1.below B6.out) K.out.2 (H.out.below B6.out)).mono ?_;rintro e w7 ⟨ra,ua,rfl,hb,hs⟩;obtain⟨hro,hu⟩:Ro w7 ra (Sc.points ks X)/\Er ua 0:=by
  rcases hs with⟨h,-⟩|⟨-,h⟩
  ·exact absurd WF.out h
  ·exact h
 obtain rfl:=One.ez hu;have PA:Hid (Ro w7 ra (Sc.points ks X)):=hro;have B7:Hid (Below w.heap.size w w7):=B6.out.trans (hb.mono B6.out.size);have X7:Hid (Bw w7 w.heap.size X (slice p1 X.gs.length q1) (slice p2 X.os.length q2) (slice p3 X.gold.length q3) (slice p4 X.us.length q4) (slice p5 X.qs.length q5)):=X6.out.below hb X6.out.lt;have YX7:Hid (Wx w7 zt (int i64 T) (int i64 X.next) (int i64 X.wide) (int i64 X.high) (slice s1 X.gs.length l1) (slice s2 X.os.length l2) (slice s3 X.gold.length l3) (slice s4 X.us.length l4) (slice s5 X.qs.length l5)):=YX.out.below hb YX.out.lt;have D7:Hid (Below w5.heap.size w5 w7):=BA.out.trans (hb.mono BA.out.size);clear hs hu hro hb x0 x1 x2 x3 x4 x5 x6 x7 x8 X6 B6 YX BA;obtain⟨x0,x1,x2,x3,x4,x5,x6,x7,x8⟩:=YX7.out.cells;go_wp2_with fail
 refine(qy _ _ ks {X with turn:=T} w7 (K.out.1.below B7.out) K.out.2 (LT.out.below D7.out)).mono ?_;rintro e w8 ⟨rb,ub,rfl,hb,hs⟩;obtain⟨hro,hu⟩:Ro w8 rb (Sc.points ks X)/\Er ub 0:=by
  rcases hs with⟨h,-⟩|⟨-,h⟩
  ·exact absurd WT.out h
  ·exact h
 obtain rfl:=One.ez hu;have PB:Hid (Ro w8 ra (Sc.points ks X)/\Ro w8 rb (Sc.points ks X)):=⟨PA.out.below hb,hro⟩;have B8:Hid (Below w.heap.size w w8):=B7.out.trans (hb.mono B7.out.size);have X8:Hid (Bw w8 w.heap.size X (slice p1 X.gs.length q1) (slice p2 X.os.length q2) (slice p3 X.gold.length q3) (slice p4 X.us.length q4) (slice p5 X.qs.length q5)):=X7.out.below hb X7.out.lt;have YX8:Hid (Wx w8 zt (int i64 T) (int i64 X.next) (int i64 X.wide) (int i64 X.high) (slice s1 X.gs.length l1) (slice s2 X.os.length l2) (slice s3 X.gold.length l3) (slice s4 X.us.length l4) (slice s5 X.qs.length l5)):=YX7.out.below hb YX7.out.lt;have D8:Hid (Below w5.heap.size w5 w8):=D7.out.trans (hb.mono D7.out.size);clear hs hu hro hb x0 x1 x2 x3 x4 x5 x6 x7 x8 X7 B7 YX7 D7 PA;go_wp2_with fail
 refine(mJ _ _ _ _ w8 PB.out.1 PB.out.2).mono ?_;rintro e w9 ⟨rfl,qn,hq9⟩;have hb:Below w8.heap.size w8 w9:=by rw[hq9];exact⟨rfl,rfl,rfl,Nat.le_refl _,λ_ _=>rfl⟩
 have B9:Hid (Below w.heap.size w w9):=B8.out.trans (hb.mono B8.out.size);have X9:Hid (Bw w9 w.heap.size X (slice p1 X.gs.length q1) (slice p2 X.os.length q2) (slice p3 X.gold.length q3) (slice p4 X.us.length q4) (slice p5 X.qs.length q5)):=X8.out.below hb X8.out.lt;have YX9:Hid (Wx w9 zt (int i64 T) (int i64 X.next) (int i64 X.wide) (int i64 X.high) (slice s1 X.gs.length l1) (slice s2 X.os.length l2) (slice s3 X.gold.length l3) (slice s4 X.us.length l4) (slice s5 X.qs.length l5)):=YX8.out.below hb YX8.out.lt;have D9:Hid (Below w5.heap.size w5 w9):=D8.out.trans (hb.mono D8.out.size);have dt:decide (Sc.points ks X=Sc.points ks X)=true:=decide_eq_true rfl;rw[dt];clear hb hq9 X8 B8 YX8 D8 PB dt;obtain⟨x0,x1,x2,x3,x4,x5,x6,x7,x8⟩:=X9.out;obtain⟨y0,y1,y2,y3,y4,y5,y6,y7,y8⟩:=YX9.out.cells;obtain⟨t0,t1,t2,t3,t4,t5,t6,t7,t8⟩:=YX9.out.bC;have KW:Hid (Kp zt w9 (w9.setCell ⟨zt,0,none⟩ (int i64 X.turn))):=Kp.set _ _ _;have YS:Hid (Wx (w9.setCell ⟨zt,0,none⟩ (int i64 X.turn)) zt (int i64 X.turn) (int i64 X.next) (int i64 X.wide) (int i64 X.high) (slice s1 X.gs.length l1) (slice s2 X.os.length l2) (slice s3 X.gold.length l3) (slice s4 X.us.length l4) (slice s5 X.qs.length l5)):=YX9.out.set0 _;have XS9:Hid (Bw (w9.setCell ⟨zt,0,none⟩ (int i64 X.turn)) w.heap.size X (slice p1 X.gs.length q1) (slice p2 X.os.length q2) (slice p3 X.gold.length q3) (slice p4 X.us.length q4) (slice p5 X.qs.length q5)):=X9.out.kp9 KW.out (by have:=ZL.out;omega);have BS:Hid (Below w.heap.size w (w9.setCell ⟨zt,0,none⟩ (int i64 X.turn))):=KW.out.below B9.out B9.out.size (by have:=ZL.out;omega);have DS:Hid (Below w5.heap.size w5 (w9.setCell ⟨zt,0,none⟩ (int i64 X.turn))):=KW.out.below D9.out D9.out.size (by have:=ZL.out;omega);go_upto_region 18 with fail
 clear x0 x1 x2 x3 x4 x5 x6 x7 x8 y0 y1 y2 y3 y4 y5 y6 y7 y8 t0 t1 t2 t3 t4 t5 t6 t7 t8 X9 B9 YX9 D9 KW;generalize w9.setCell ⟨zt,0,none⟩ (int i64 X.turn)=w10 at *;have LX:Hid (Wl w10 (.agg #[int i64 X.turn,int i64 X.next,int i64 X.wide,int i64 X.high,slice s1 X.gs.length l1,slice s2 X.os.length l2,slice s3 X.gold.length l3,slice s4 X.us.length l4,slice s5 X.qs.length l5]) X):=by
  obtain⟨a1,a2,a3,a4,a5,e,r1,r2,r3,r4,r5⟩:=LT.out.below DS.out;injection e with e
  simp at e;obtain⟨rfl,rfl,rfl,rfl,rfl⟩:=e;exact⟨_,_,_,_,_,rfl,r1,r2,r3,r4,r5⟩
 obtain⟨x0,x1,x2,x3,x4,x5,x6,x7,x8⟩:=XS9.out;obtain⟨y0,y1,y2,y3,y4,y5,y6,y7,y8⟩:=YS.out.cells;go_wp2_with fail
 refine(wG _ _ X w10 LX.out (H.out.below BS.out)).mono ?_;rintro e w11 ⟨rfl,hb⟩;have B11:Hid (Below w.heap.size w w11):=BS.out.trans (hb.mono BS.out.size);clear hb x0 x1 x2 x3 x4 x5 x6 x7 x8 y0 y1 y2 y3 y4 y5 y6 y7 y8;go_wp2;go_ret;exact⟨rfl,B11.out⟩
end Go.Proofs.YtolfphmdmpehdaaGreatDoor.topQuiet
namespace Go.Proofs.YtolfphmdmpehdaaGreatDoor
open Go.ChangeShapes Go.WideShapes Go.ChangeAt Go.RowKit
theorem AZ:Tryz.prog.globalNamed "marchland/field.sides" =some 2:=by kernel_rfl
theorem Oy:(Tryz.prog.globals[2]?).map (·.type)=some 303:=by kernel_rfl
theorem A_:Tryz.prog.cellsOf 302=2:=by kernel_rfl
theorem RP:Tryz.prog.cellsOf 3=1:=by kernel_rfl
theorem len2{α:Type}{l:List α}(h:l.length=2):∃a b,l=[a,b]:=by
 match l,h with
 |[a,b],_=>exact⟨a,b,rfl⟩
theorem XK{α:Type}{l:List α}(h:l.length=4):∃a b c d,l=[a,b,c,d]:=by
 match l,h with
 |[a,b,c,d],_=>exact⟨a,b,c,d,rfl⟩
theorem jC{w:World}{fuel:Nat}{cs:List Value}{a b:Int}{y:DataW Unit×List MemPlace}(h:DataW.trod (λ_=>()) Tryz.prog w 0 (λ_=>true) false fuel 302 cs=some y)(hy:y.1=.agg [.lit (.int .i64 a),.lit (.int .i64 b)]):cs=[.int .i64 a,.int .i64 b]:=by
 obtain⟨y0,y1,n,hx,hl,h0,h1⟩:=trod_struct2 Tryz.underlying302 h;obtain⟨p,e0,f0,-⟩:=DataW.trod_int Tryz.underlying3 h0;obtain⟨q,e1,f1,-⟩:=DataW.trod_int Tryz.underlying3 h1;rw[hx,f0,f1] at hy;simp only[DataW.agg.injEq,List.cons.injEq,DataW.lit.injEq,Lit.int.injEq,true_and,and_true] at hy;obtain⟨rfl,rfl⟩:=hy;dsimp only at e0 e1;rw[RP] at e0 e1;rw[A_] at hl;obtain⟨c0,c1,rfl⟩:=len2 hl;simp at e0 e1;rw[e0,e1]
theorem zL{w:World}(h:laidMet Tryz.prog [("marchland/field.sides",Rows.laid_marchland_field_sides)] w):Sd w:=by
 obtain⟨ps,⟨g,t,cs,fuel,p,q,h1,h2,h3,h4,-,-⟩,-,-⟩:=h;obtain rfl:=Option.some.inj (AZ.symm.trans h1);obtain rfl:=Option.some.inj (Oy.symm.trans h2);obtain⟨xs,m,-,hx,hl,hn,hi⟩:=DataW.trod_array Tryz.underlying303 h4;have hd:xs.map (·.1)=[.agg [.lit (.int .i64 0),.lit (.int .i64 (-1))],.agg [.lit (.int .i64 (-1)),.lit (.int .i64 0)],.agg [.lit (.int .i64 1),.lit (.int .i64 0)],.agg [.lit (.int .i64 0),.lit (.int .i64 1)]]:=by
  have e:Rows.laid_marchland_field_sides=DataW.agg (xs.map (·.1)):=congrArg Prod.fst hx;unfold Rows.laid_marchland_field_sides at e;injection e with e
  exact e.symm
 obtain⟨x0,x1,x2,x3,rfl⟩:=XK hn;simp only[List.map_cons,List.map_nil,List.cons.injEq,and_true] at hd;obtain⟨d0,d1,d2,d3⟩:=hd;have i0:=jC (hi 0 (by decide)) d0;have i1:=jC (hi 1 (by decide)) d1;have i2:=jC (hi 2 (by decide)) d2;have i3:=jC (hi 3 (by decide)) d3;rw[A_] at i0 i1 i2 i3;have ec:∀k:Nat,w.cell? ⟨2,k,none⟩=cs.toList[k]? :=λk=>by
  have e:=World.var?_cell AZ h3 k;rw[e,Array.getElem?_toList]
 have g0:∀k a b,(cs.toList.drop (k*2)).take 2=[.int .i64 a,.int .i64 b]->cs.toList[k*2]? =some (.int .i64 a)/\cs.toList[k*2+1]? =some (.int .i64 b):=by
  intro k a b e;constructor
  ·have:=congrArg (λl=>l[0]?) e
   simpa[List.getElem?_take,List.getElem?_drop] using this
  ·have:=congrArg (λl=>l[1]?) e
   simpa[List.getElem?_take,List.getElem?_drop] using this
 have j0:=g0 0 _ _ i0;have j1:=g0 1 _ _ i1;have j2:=g0 2 _ _ i2;have j3:=g0 3 _ _ i3;exact⟨(ec 0).trans j0.1,(ec 1).trans j0.2,(ec 2).trans j1.1,(ec 3).trans j1.2,(ec 4).trans j2.1,(ec 5).trans j2.2,(ec 6).trans j3.1,(ec 7).trans j3.2⟩
end Go.Proofs.YtolfphmdmpehdaaGreatDoor
