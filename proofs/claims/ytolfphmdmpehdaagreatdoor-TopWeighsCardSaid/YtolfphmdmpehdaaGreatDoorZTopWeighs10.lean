/- What a walk is told of worlds and bytes that came in. And more. -/
import Derived.Test.YtolfphmdmpehdaaGreatDoorZTopWeighs9
set_option linter.unusedVariables false
set_option maxHeartbeats 80000000
set_option maxRecDepth 100000
open Go.Value (int slice)
open Go.IntKind (i64)
namespace Go.Proofs.YtolfphmdmpehdaaGreatDoor
open Go.ChangeShapes Go.WideShapes Go.ChangeAt Go.RowKit
theorem in64_of_wf{n:Int}(h:(Lit.int i64 n).wf=true):Wd.In64 n:=by
 unfold Wd.In64;simp only[Lit.wf,Bool.and_eq_true,decide_eq_true_eq] at h;have h1:IntKind.i64.min= -9223372036854775808:=by decide
 have h2:IntKind.i64.max=9223372036854775807:=by decide
 omega
theorem kY{H:Type}{enc:TypeId×Value->H}{W:World}{base:Nat}{held:Bool}{fuel:Nat}{v:Value}{y:DataW H×List MemPlace}(h:DataW.trod enc Tryz.prog W base (λ_=>true) held fuel 23 [v]=some y):
 ∃zs,Ro W v zs/\(∀n∈zs,Wd.In64 n)/\zs.length<=Rows.uptoBulk y.1:=by
 rcases open_ints Tryz.underlying23 Tryz.underlying3 (by kernel_rfl) h with⟨hcs,rfl⟩|⟨x,l,c,zs,hcs,_,hl,hm,hz,rfl,hcell,hwz⟩
 ·simp at hcs
  subst hcs;exact⟨_,zQ.ro (.inl ⟨rfl,rfl,rfl,rfl⟩),by simp,by simp⟩
 ·simp at hcs
  subst hcs;refine⟨_,zQ.ro (zs:=zs) (.inr ⟨_,rfl,hl,hm,by simpa using hz,hcell,hwz⟩),λn hn=>in64_of_wf (hwz n (List.mem_of_mem_take hn)),?_⟩;have:=kX (H:=H) (lits .i64 (zs.take l)) (lits .i64 (zs.drop l));simpa[lits] using this
theorem Pj:∃f0 f1 f2 f3 f4 f5 f6 f7:Field,Tryz.prog.underlying 74=some (.struct #[f0,f1,f2,f3,f4,f5,f6,f7])/\f0.offset=0/\f0.type=3/\f1.offset=1/\f1.type=3/\f2.offset=2/\f2.type=3/\f3.offset=3/\f3.type=3/\f4.offset=4/\f4.type=3/\f5.offset=5/\f5.type=3/\f6.offset=6/\f6.type=3/\f7.offset=7/\f7.type=3:=⟨_,_,_,_,_,_,_,_,Tryz.underlying74,rfl,rfl,rfl,rfl,rfl,rfl,rfl,rfl,rfl,rfl,rfl,rfl,rfl,rfl,rfl,rfl⟩
theorem Fg{H:Type}{enc:TypeId×Value->H}{W:World}{base:Nat}{held:Bool}{fuel:Nat}{cs:List Value}{y:DataW H×List MemPlace}(h:DataW.trod enc Tryz.prog W base (λ_=>true) held fuel 74 cs=some y):
 ∃k:aB,cs=[.int .i64 k.id,.int .i64 k.ay,.int .i64 k.kind,.int .i64 k.at_,.int .i64 k.life,.int .i64 k.load,.int .i64 k.task,.int .i64 k.goal]/\∀n∈Wd.uM k,Wd.In64 n:=by
 obtain⟨f0,f1,f2,f3,f4,f5,f6,f7,he,o0,t0,o1,t1,o2,t2,o3,t3,o4,t4,o5,t5,o6,t6,o7,t7⟩:=Pj;obtain⟨xs,m,-,-,hlen,hxl,hf⟩:=DataW.trod_struct he h;have qA:Tryz.prog.cellsOf 3=1:=by kernel_rfl
 have uG:Tryz.prog.cellsOf 74=8:=by kernel_rfl
 rw[uG] at hlen
 match cs,hlen with
 |[v0,v1,v2,v3,v4,v5,v6,v7],_=>
  have hx:xs.length=8:=hxl
  match xs,hx with
  |[x0,x1,x2,x3,x4,x5,x6,x7],_=>
   have g0:=hf 0 f0 rfl;rw[o0,t0,qA] at g0;have g1:=hf 1 f1 rfl;rw[o1,t1,qA] at g1;have g2:=hf 2 f2 rfl;rw[o2,t2,qA] at g2;have g3:=hf 3 f3 rfl;rw[o3,t3,qA] at g3;have g4:=hf 4 f4 rfl;rw[o4,t4,qA] at g4;have g5:=hf 5 f5 rfl;rw[o5,t5,qA] at g5;have g6:=hf 6 f6 rfl;rw[o6,t6,qA] at g6;have g7:=hf 7 f7 rfl;rw[o7,t7,qA] at g7;obtain⟨m0,e0,-,w0⟩:=DataW.trod_int Tryz.underlying3 g0;obtain⟨m1,e1,-,w1⟩:=DataW.trod_int Tryz.underlying3 g1;obtain⟨m2,e2,-,w2⟩:=DataW.trod_int Tryz.underlying3 g2;obtain⟨m3,e3,-,w3⟩:=DataW.trod_int Tryz.underlying3 g3;obtain⟨m4,e4,-,w4⟩:=DataW.trod_int Tryz.underlying3 g4;obtain⟨m5,e5,-,w5⟩:=DataW.trod_int Tryz.underlying3 g5;obtain⟨m6,e6,-,w6⟩:=DataW.trod_int Tryz.underlying3 g6;obtain⟨m7,e7,-,w7⟩:=DataW.trod_int Tryz.underlying3 g7;simp at e0 e1 e2 e3 e4 e5 e6 e7;subst e0 e1 e2 e3 e4 e5 e6 e7;refine⟨⟨m0,m1,m2,m3,m4,m5,m6,m7⟩,rfl,?_⟩;intro n hn;simp only[Wd.uM,List.mem_cons,List.not_mem_nil,or_false] at hn;rcases hn with rfl|rfl|rfl|rfl|rfl|rfl|rfl|rfl
   ·exact in64_of_wf w0
   ·exact in64_of_wf w1
   ·exact in64_of_wf w2
   ·exact in64_of_wf w3
   ·exact in64_of_wf w4
   ·exact in64_of_wf w5
   ·exact in64_of_wf w6
   ·exact in64_of_wf w7
theorem zH{H:Type}{enc:TypeId×Value->H}{W:World}{base:Nat}{held:Bool}{fuel:Nat}{v:Value}{y:DataW H×List MemPlace}(h:DataW.trod enc Tryz.prog W base (λ_=>true) held fuel 26 [v]=some y):
 ∃ks:List aB,jI W v ks/\(∀k∈ks,∀n∈Wd.uM k,Wd.In64 n)/\ks.length<=Rows.uptoBulk y.1:=by
 have uG:Tryz.prog.cellsOf 74=8:=by kernel_rfl
 rcases Go.Deep.open_slice Tryz.underlying26 h with⟨hcs,-⟩|⟨a,len,cap,m,q,D,Pl,hcs,hb,hl,hm,hmm,rfl,hx⟩
 ·simp at hcs
  subst hcs;exact⟨[],⟨none,0,rfl,Nat.le_refl _,by omega,λh=>absurd rfl h⟩,by simp,by simp⟩
 ·simp at hcs
  subst hcs;have hlm:len<=m:=by rw[hmm];simp;exact hl
  have each:∀i,i<len->∃k:aB,dw W (a.add (i*8)) k/\(∀n∈Wd.uM k,Wd.In64 n):=by
   intro i hi;obtain⟨cs',h1,h2⟩:=hx i (by omega);obtain⟨k,rfl,hk⟩:=Fg h2;rw[uG] at h1;obtain⟨-,-,hcell⟩:=World.cells?_some h1;refine⟨k,?_,hk⟩;generalize a.add (i*8)=y at *;exact⟨hcell 0 (by decide),hcell 1 (by decide),hcell 2 (by decide),hcell 3 (by decide),hcell 4 (by decide),hcell 5 (by decide),hcell 6 (by decide),hcell 7 (by decide)⟩
  have inh:Inhabited aB:=⟨⟨0,0,0,0,0,0,0,0⟩⟩;obtain⟨q,hq⟩:=Go.Deep.choose_lt each;refine⟨(List.range len).map q,⟨some a,cap,by simp,by simpa using hl,by unfold maxLen at hm;omega,λhn=>⟨a,rfl,?_,λi k hk=>?_⟩⟩,?_,?_⟩
  ·have h0:0<len:=by
    rcases Nat.eq_zero_or_pos len with h|h
    ·subst h;simp at hn
    ·exact h
   have:=(hq 0 h0).1.lt;rwa[add_block] at this
  ·have hi:i<len:=by
    have:=(List.getElem?_eq_some_iff.1 hk).1;simpa using this
   rw[List.getElem?_map,List.getElem?_range hi] at hk;injection hk with hk
   subst hk;exact(hq i hi).1
  ·intro k hk
   obtain⟨i,hi,rfl⟩:=List.mem_map.1 hk;exact(hq i (List.mem_range.1 hi)).2
  ·have:=kX ((List.range len).map D) ((List.range (m-len)).map λj=>D (len+j))
   simpa using this
theorem Pm:∃f0 f1 f2 f3:Field,Tryz.prog.underlying 93=some (.struct #[f0,f1,f2,f3])/\f0.offset=0/\f0.type=3/\f1.offset=1/\f1.type=3/\f2.offset=2/\f2.type=3/\f3.offset=3/\f3.type=3:=⟨_,_,_,_,Tryz.underlying93,rfl,rfl,rfl,rfl,rfl,rfl,rfl,rfl⟩
theorem Fh{H:Type}{enc:TypeId×Value->H}{W:World}{base:Nat}{held:Bool}{fuel:Nat}{cs:List Value}{y:DataW H×List MemPlace}(h:DataW.trod enc Tryz.prog W base (λ_=>true) held fuel 93 cs=some y):
 ∃k:aP,cs=[.int .i64 k.ay,.int .i64 k.unit,.int .i64 k.kind,.int .i64 k.left]/\∀n∈Wd.uN k,Wd.In64 n:=by
 obtain⟨f0,f1,f2,f3,he,o0,t0,o1,t1,o2,t2,o3,t3⟩:=Pm;obtain⟨xs,m,-,-,hlen,hxl,hf⟩:=DataW.trod_struct he h;have qA:Tryz.prog.cellsOf 3=1:=by kernel_rfl
 have uG:Tryz.prog.cellsOf 93=4:=by kernel_rfl
 rw[uG] at hlen
 match cs,hlen with
 |[v0,v1,v2,v3],_=>
  have hx:xs.length=4:=hxl
  match xs,hx with
  |[x0,x1,x2,x3],_=>
   have g0:=hf 0 f0 rfl;rw[o0,t0,qA] at g0;have g1:=hf 1 f1 rfl;rw[o1,t1,qA] at g1;have g2:=hf 2 f2 rfl;rw[o2,t2,qA] at g2;have g3:=hf 3 f3 rfl;rw[o3,t3,qA] at g3;obtain⟨m0,e0,-,w0⟩:=DataW.trod_int Tryz.underlying3 g0;obtain⟨m1,e1,-,w1⟩:=DataW.trod_int Tryz.underlying3 g1;obtain⟨m2,e2,-,w2⟩:=DataW.trod_int Tryz.underlying3 g2;obtain⟨m3,e3,-,w3⟩:=DataW.trod_int Tryz.underlying3 g3;simp at e0 e1 e2 e3;subst e0 e1 e2 e3;refine⟨⟨m0,m1,m2,m3⟩,rfl,?_⟩;intro n hn;simp only[Wd.uN,List.mem_cons,List.not_mem_nil,or_false] at hn;rcases hn with rfl|rfl|rfl|rfl
   ·exact in64_of_wf w0
   ·exact in64_of_wf w1
   ·exact in64_of_wf w2
   ·exact in64_of_wf w3
theorem zI{H:Type}{enc:TypeId×Value->H}{W:World}{base:Nat}{held:Bool}{fuel:Nat}{v:Value}{y:DataW H×List MemPlace}(h:DataW.trod enc Tryz.prog W base (λ_=>true) held fuel 27 [v]=some y):
 ∃ks:List aP,Lm W v ks/\(∀k∈ks,∀n∈Wd.uN k,Wd.In64 n)/\ks.length<=Rows.uptoBulk y.1:=by
 have uG:Tryz.prog.cellsOf 93=4:=by kernel_rfl
 rcases Go.Deep.open_slice Tryz.underlying27 h with⟨hcs,-⟩|⟨a,len,cap,m,q,D,Pl,hcs,hb,hl,hm,hmm,rfl,hx⟩
 ·simp at hcs
  subst hcs;exact⟨[],⟨none,0,rfl,Nat.le_refl _,by omega,λh=>absurd rfl h⟩,by simp,by simp⟩
 ·simp at hcs
  subst hcs;have hlm:len<=m:=by rw[hmm];simp;exact hl
  have each:∀i,i<len->∃k:aP,kF W (a.add (i*4)) k/\(∀n∈Wd.uN k,Wd.In64 n):=by
   intro i hi;obtain⟨cs',h1,h2⟩:=hx i (by omega);obtain⟨k,rfl,hk⟩:=Fh h2;rw[uG] at h1;obtain⟨-,-,hcell⟩:=World.cells?_some h1;refine⟨k,?_,hk⟩;generalize a.add (i*4)=y at *;exact⟨hcell 0 (by decide),hcell 1 (by decide),hcell 2 (by decide),hcell 3 (by decide)⟩
  have inh:Inhabited aP:=⟨⟨0,0,0,0⟩⟩;obtain⟨q,hq⟩:=Go.Deep.choose_lt each;refine⟨(List.range len).map q,⟨some a,cap,by simp,by simpa using hl,by unfold maxLen at hm;omega,λhn=>⟨a,rfl,?_,λi k hk=>?_⟩⟩,?_,?_⟩
  ·have h0:0<len:=by
    rcases Nat.eq_zero_or_pos len with h|h
    ·subst h;simp at hn
    ·exact h
   have:=(hq 0 h0).1.lt;rwa[add_block] at this
  ·have hi:i<len:=by
    have:=(List.getElem?_eq_some_iff.1 hk).1;simpa using this
   rw[List.getElem?_map,List.getElem?_range hi] at hk;injection hk with hk
   subst hk;exact(hq i hi).1
  ·intro k hk
   obtain⟨i,hi,rfl⟩:=List.mem_map.1 hk;exact(hq i (List.mem_range.1 hi)).2
  ·have:=kX ((List.range len).map D) ((List.range (m-len)).map λj=>D (len+j))
   simpa using this
theorem zJ:∃f0 f1 f2 f3 f4 f5:Field,Tryz.prog.underlying 29=some (.struct #[f0,f1,f2,f3,f4,f5])/\f0.offset=0/\f0.type=3/\f1.offset=1/\f1.type=3/\f2.offset=2/\f2.type=25/\f3.offset=6/\f3.type=23/\f4.offset=7/\f4.type=26/\f5.offset=8/\f5.type=27:=⟨_,_,_,_,_,_,Tryz.underlying29,rfl,rfl,rfl,rfl,rfl,rfl,rfl,rfl,rfl,rfl,rfl,rfl⟩
theorem zK:∃f0 f1 f2 f3:Field,Tryz.prog.underlying 25=some (.struct #[f0,f1,f2,f3])/\f0.offset=0/\f0.type=3/\f1.offset=1/\f1.type=3/\f2.offset=2/\f2.type=23/\f3.offset=3/\f3.type=23:=⟨_,_,_,_,Tryz.underlying25,rfl,rfl,rfl,rfl,rfl,rfl,rfl,rfl⟩
theorem zL{w:World}{v:Value}{xs:List Int}(h:Ro w v xs):Wd.In64 (xs.length:Int):=by
 obtain⟨a,c,-,h1,h2,-⟩:=h;unfold Wd.In64;omega
theorem uJ{H:Type}{enc:TypeId×Value->H}{W:World}{base:Nat}{held:Bool}{fuel:Nat}{cs:List Value}{y:DataW H×List MemPlace}(h:DataW.trod enc Tryz.prog W base (λ_=>true) held fuel 29 cs=some y):
 ∃X:WV,Wl W (.agg cs.toArray) X/\(∀n∈Wd.nums X,Wd.In64 n)/\(Rows.uptoBulk y.1<=1048576->FM X):=by
 obtain⟨f0,f1,f2,f3,f4,f5,he,o0,t0,o1,t1,o2,t2,o3,t3,o4,t4,o5,t5⟩:=zJ;obtain⟨xs,m,-,rfl,hlen,hxl,hf⟩:=DataW.trod_struct he h;have qA:Tryz.prog.cellsOf 3=1:=by kernel_rfl
 have csf:Tryz.prog.cellsOf 25=4:=by kernel_rfl
 have Yk:Tryz.prog.cellsOf 23=1:=by kernel_rfl
 have csu:Tryz.prog.cellsOf 26=1:=by kernel_rfl
 have csj:Tryz.prog.cellsOf 27=1:=by kernel_rfl
 have uG:Tryz.prog.cellsOf 29=9:=by kernel_rfl
 rw[uG] at hlen
 match cs,hlen with
 |[v0,v1,v2,v3,v4,v5,v6,v7,v8],_=>
  have hx:xs.length=6:=hxl
  match xs,hx with
  |[x0,x1,x2,x3,x4,x5],_=>
   have g0:=hf 0 f0 rfl;rw[o0,t0,qA] at g0;have g1:=hf 1 f1 rfl;rw[o1,t1,qA] at g1;have g2:=hf 2 f2 rfl;rw[o2,t2,csf] at g2;have g3:=hf 3 f3 rfl;rw[o3,t3,Yk] at g3;have g4:=hf 4 f4 rfl;rw[o4,t4,csu] at g4;have g5:=hf 5 f5 rfl;rw[o5,t5,csj] at g5;obtain⟨m0,e0,-,w0⟩:=DataW.trod_int Tryz.underlying3 g0;obtain⟨m1,e1,-,w1⟩:=DataW.trod_int Tryz.underlying3 g1;obtain⟨r0,r1,r2,r3,he',p0,s0,p1,s1,p2,s2,p3,s3⟩:=zK;obtain⟨ys,m',-,rfl,hlen',hyl,hg⟩:=DataW.trod_struct he' g2;have hy:ys.length=4:=hyl
   match ys,hy with
   |[y0,y1,y2,y3],_=>
    have k0:=hg 0 r0 rfl;rw[p0,s0,qA] at k0;have k1:=hg 1 r1 rfl;rw[p1,s1,qA] at k1;have k2:=hg 2 r2 rfl;rw[p2,s2,Yk] at k2;have k3:=hg 3 r3 rfl;rw[p3,s3,Yk] at k3;obtain⟨m2,e2,-,w2⟩:=DataW.trod_int Tryz.underlying3 k0;obtain⟨m3,e3,-,w3⟩:=DataW.trod_int Tryz.underlying3 k1;simp at e0 e1 e2 e3;subst e0 e1 e2 e3;obtain⟨gs,hgs,igs,bgs⟩:=kY k2;obtain⟨os,hos,ios,bos⟩:=kY k3;obtain⟨gold,Qn,Vz,YO⟩:=kY g3;obtain⟨us,hus,ius,bus⟩:=zH g4;obtain⟨qs,Pq,iqs,bqs⟩:=zI g5;have lu:Wd.In64 (us.length:Int):=by
     obtain⟨a,c,-,h1,h2,-⟩:=hus;unfold Wd.In64;omega
    have lq:Wd.In64 (qs.length:Int):=by
     obtain⟨a,c,-,h1,h2,-⟩:=Pq;unfold Wd.In64;omega
    refine⟨⟨m0,m1,m2,m3,gs,os,gold,us,qs⟩,⟨_,_,_,_,_,rfl,hgs,hos,Qn,hus,Pq⟩,?_,?_⟩
    ·intro n hn
     simp only[Wd.nums,List.mem_append,List.mem_cons,List.not_mem_nil,or_false,List.mem_flatMap] at hn;rcases hn with(((((rfl|rfl|rfl|rfl)|(rfl|hn))|(rfl|hn))|(rfl|hn))|(rfl|⟨u,hu,hn⟩))|(rfl|⟨u,hu,hn⟩)
     ·exact in64_of_wf w0
     ·exact in64_of_wf w1
     ·exact in64_of_wf w2
     ·exact in64_of_wf w3
     ·exact zL hgs
     ·exact igs _ hn
     ·exact zL hos
     ·exact ios _ hn
     ·exact zL Qn
     ·exact Vz _ hn
     ·exact lu
     ·exact ius u hu n hn
     ·exact lq
     ·exact iqs u hu n hn
    ·intro hb
     simp only[Rows.uptoBulk,Rows.uptoBulkAll,List.map_cons,List.map_nil] at hb;exact⟨by simp only;omega,by simp only;omega,by simp only;omega,by simp only;omega,by simp only;omega⟩
theorem La{H:Type}{enc:TypeId×Value->H}{W:World}{base b0:Nat}{held:Bool}{v:Value}{d:DataW H}{p:List MemPlace}(hv:Value.okWide Tryz.prog W .any b0 29 v)(h:DataW.Trod enc Tryz.prog W base (λ_=>true) held 29 v d p):
 ∃X:WV,Wl W v X/\(∀n∈Wd.nums X,Wd.In64 n)/\(Rows.uptoBulk d<=1048576->FM X):=by
 obtain⟨cs,rfl,hsz⟩:=okWide_struct Tryz.underlying29 hv;obtain⟨fuel,hf⟩:=h;have:=uJ hf;simpa[Value.cells] using this
theorem wQ:∃f0 f1 f2 f3 f4 f5 f6 f7 f8 f9 f10:Field,Tryz.prog.underlying 77=some (.struct #[f0,f1,f2,f3,f4,f5,f6,f7,f8,f9,f10])/\
 f0.offset=0/\f0.type=9/\f1.offset=1/\f1.type=3/\f2.offset=2/\f2.type=3/\f3.offset=3/\f3.type=3/\f4.offset=4/\f4.type=3/\f5.offset=5/\f5.type=3/\f6.offset=6/\f6.type=3/\f7.offset=7/\f7.type=3/\f8.offset=8/\f8.type=3/\f9.offset=9/\f9.type=4/\f10.offset=10/\f10.type=4:=⟨_,_,_,_,_,_,_,_,_,_,_,Tryz.underlying77,rfl,rfl,rfl,rfl,rfl,rfl,rfl,rfl,rfl,rfl,rfl,rfl,rfl,rfl,rfl,rfl,rfl,rfl,rfl,rfl,rfl,rfl⟩
theorem Fj{H:Type}{enc:TypeId×Value->H}{W:World}{base:Nat}{held:Bool}{fuel:Nat}{cs:List Value}{y:DataW H×List MemPlace}(h:DataW.trod enc Tryz.prog W base (λ_=>true) held fuel 77 cs=some y):
 ∃k:KV,cs=[.string k.b,.int .i64 k.n0,.int .i64 k.n1,.int .i64 k.n2,.int .i64 k.n3,.int .i64 k.n4,.int .i64 k.n5,.int .i64 k.n6,.int .i64 k.n7,.bool k.f,.bool k.t]/\k.b.size<=maxLen:=by
 obtain⟨f0,f1,f2,f3,f4,f5,f6,f7,f8,f9,f10,he,o0,t0,o1,t1,o2,t2,o3,t3,o4,t4,o5,t5,o6,t6,o7,t7,o8,t8,o9,t9,o10,t10⟩:=wQ;obtain⟨xs,n,-,-,hlen,hxl,hf⟩:=DataW.trod_struct he h;have cs9:Tryz.prog.cellsOf 9=1:=by kernel_rfl
 have cs3:Tryz.prog.cellsOf 3=1:=by kernel_rfl
 have cs4:Tryz.prog.cellsOf 4=1:=by kernel_rfl
 have uG:Tryz.prog.cellsOf 77=11:=by kernel_rfl
 rw[uG] at hlen
 match cs,hlen with
 |[v0,v1,v2,v3,v4,v5,v6,v7,v8,v9,v10],_=>
  have hx11:xs.length=11:=hxl
  match xs,hx11 with
  |[x0,x1,x2,x3,x4,x5,x6,x7,x8,x9,x10],_=>
   have g0:=hf 0 f0 rfl;rw[o0,t0,cs9] at g0;have g1:=hf 1 f1 rfl;rw[o1,t1,cs3] at g1;have g2:=hf 2 f2 rfl;rw[o2,t2,cs3] at g2;have g3:=hf 3 f3 rfl;rw[o3,t3,cs3] at g3;have g4:=hf 4 f4 rfl;rw[o4,t4,cs3] at g4;have g5:=hf 5 f5 rfl;rw[o5,t5,cs3] at g5;have g6:=hf 6 f6 rfl;rw[o6,t6,cs3] at g6;have g7:=hf 7 f7 rfl;rw[o7,t7,cs3] at g7;have g8:=hf 8 f8 rfl;rw[o8,t8,cs3] at g8;have g9:=hf 9 f9 rfl;rw[o9,t9,cs4] at g9;have g10:=hf 10 f10 rfl;rw[o10,t10,cs4] at g10;obtain⟨b,e0,-,hb⟩:=DataW.trod_string Tryz.underlying9 g0;obtain⟨m1,e1,-,-⟩:=DataW.trod_int Tryz.underlying3 g1;obtain⟨m2,e2,-,-⟩:=DataW.trod_int Tryz.underlying3 g2;obtain⟨m3,e3,-,-⟩:=DataW.trod_int Tryz.underlying3 g3;obtain⟨m4,e4,-,-⟩:=DataW.trod_int Tryz.underlying3 g4;obtain⟨m5,e5,-,-⟩:=DataW.trod_int Tryz.underlying3 g5;obtain⟨m6,e6,-,-⟩:=DataW.trod_int Tryz.underlying3 g6;obtain⟨m7,e7,-,-⟩:=DataW.trod_int Tryz.underlying3 g7;obtain⟨m8,e8,-,-⟩:=DataW.trod_int Tryz.underlying3 g8;obtain⟨bf,e9,-⟩:=DataW.trod_bool Tryz.underlying4 g9;obtain⟨bt,e10,-⟩:=DataW.trod_bool Tryz.underlying4 g10;simp at e0 e1 e2 e3 e4 e5 e6 e7 e8 e9 e10;subst e0 e1 e2 e3 e4 e5 e6 e7 e8 e9 e10;exact⟨⟨b,m1,m2,m3,m4,m5,m6,m7,m8,bf,bt⟩,rfl,hb⟩
theorem zM{H:Type}{enc:TypeId×Value->H}{W:World}{base:Nat}{held:Bool}{fuel:Nat}{v:Value}{y:DataW H×List MemPlace}(h:DataW.trod enc Tryz.prog W base (λ_=>true) held fuel 22 [v]=some y):
 ∃ks:List KV,Kl W v ks/\∀k∈ks,k.b.size<=maxLen:=by
 have uG:Tryz.prog.cellsOf 77=11:=by kernel_rfl
 rcases Go.Deep.open_slice Tryz.underlying22 h with⟨hcs,-⟩|⟨a,len,cap,m,n,D,Pl,hcs,hb,hl,hm,hmm,-,hx⟩
 ·simp at hcs
  subst hcs;exact⟨[],⟨none,0,rfl,Nat.le_refl _,by omega,λh=>absurd rfl h⟩,by simp⟩
 ·simp at hcs
  subst hcs;have hlm:len<=m:=by rw[hmm];simp;exact hl
  have each:∀i,i<len->∃k:KV,Kc W (a.add (i*11)) k/\k.b.size<=maxLen:=by
   intro i hi;obtain⟨cs',h1,h2⟩:=hx i (by omega);obtain⟨k,rfl,hk⟩:=Fj h2;rw[uG] at h1;obtain⟨-,-,hcell⟩:=World.cells?_some h1;refine⟨k,?_,hk⟩;generalize a.add (i*11)=y at *;exact⟨hcell 0 (by decide),hcell 1 (by decide),hcell 2 (by decide),hcell 3 (by decide),hcell 4 (by decide),hcell 5 (by decide),hcell 6 (by decide),hcell 7 (by decide),hcell 8 (by decide),hcell 9 (by decide),hcell 10 (by decide)⟩
  have inh:Inhabited KV:=⟨⟨ByteArray.empty,0,0,0,0,0,0,0,0,false,false⟩⟩;obtain⟨q,hq⟩:=Go.Deep.choose_lt each;refine⟨(List.range len).map q,⟨some a,cap,by simp,by simpa using hl,by unfold maxLen at hm;omega,λhn=>⟨a,rfl,?_,λi k hk=>?_⟩⟩,?_⟩
  ·have h0:0<len:=by
    rcases Nat.eq_zero_or_pos len with h|h
    ·subst h;simp at hn
    ·exact h
   have:=(hq 0 h0).1.lt;rwa[add_block] at this
  ·have hi:i<len:=by
    have:=(List.getElem?_eq_some_iff.1 hk).1;simpa using this
   rw[List.getElem?_map,List.getElem?_range hi] at hk;injection hk with hk
   subst hk;exact(hq i hi).1
  ·intro k hk
   obtain⟨i,hi,rfl⟩:=List.mem_map.1 hk;exact(hq i (List.mem_range.1 hi)).2
theorem Lc{H:Type}{enc:TypeId×Value->H}{W:World}{base b0:Nat}{held:Bool}{v:Value}{d:DataW H}{p:List MemPlace}(hv:Value.okWide Tryz.prog W .any b0 22 v)(h:DataW.Trod enc Tryz.prog W base (λ_=>true) held 22 v d p):
 ∃ks:List KV,Kl W v ks/\∀k∈ks,k.b.size<=maxLen:=by
 obtain⟨a,len,cap,rfl⟩:=okWide_slice Tryz.underlying22 hv;obtain⟨fuel,hf⟩:=h;exact zM hf
end Go.Proofs.YtolfphmdmpehdaaGreatDoor
namespace Go.Proofs.YtolfphmdmpehdaaGreatDoor.topWeighs
open Go.RowKit Go.Proofs.YtolfphmdmpehdaaGreatDoor.So
def Yl(V:World)(z base:Nat)(Q:WV):Prop:=∃g1 d1 g2 d2 g3 d3 g4 d4 g5 d5,Bw V z Q (slice g1 Q.gs.length d1) (slice g2 Q.os.length d2) (slice g3 Q.gold.length d3) (slice g4 Q.us.length d4) (slice g5 Q.qs.length d5)/\Wo V base (.agg #[int i64 Q.turn,int i64 Q.next,int i64 Q.wide,int i64 Q.high,slice g1 Q.gs.length d1,slice g2 Q.os.length d2,slice g3 Q.gold.length d3,slice g4 Q.us.length d4,slice g5 Q.qs.length d5]) Q
def Stp(ks:List KV)(A:WV)(l:List aJ)(Q:WV)(r:Value):Prop:=(r=.nilIface/\aZ ks A l=0/\∃es,kH ks A l Q es)\/∃F:Int,r=.iface 85 (int i64 F)
theorem Le{ks:List KV}{A:WV}{l:List aJ}{w w':World}{v ev r:Value}(hs:wG ks A l w w' v ev)(hr:Er r (aZ ks A l)):∃Q,Wo w' w.heap.size v Q/\Stp ks A l Q r:=by
 rcases hs with⟨hn,rfl,rfl⟩|⟨h0,Y,es,h1,h2,-⟩
 ·refine⟨⟨0,0,0,0,[],[],[],[],[]⟩,⟨_,_,_,_,_,rfl,Ow.nil _ _,Ow.nil _ _,Ow.nil _ _,dQ.nil _ _,dL.nil _ _⟩,.inr ?_⟩
  rcases hr with⟨h,-⟩|⟨-,h⟩
  ·exact absurd h hn
  ·exact⟨_,h⟩
 ·refine⟨Y,h2,.inl ⟨?_,h0,es,h1⟩⟩
  rw[h0] at hr;exact One.ez hr
theorem Lh{ks:List KV}{A:WV}(h:aO ks A){v:aB}(hv:v∈A.us){id r:Int}(hi:v.id=id)(hr:gI (λu=>u.id==id) A.us r):∃j:Nat,r=j/\A.us[j]? =some v:=by
 obtain⟨j,hj⟩:=List.mem_iff_getElem?.1 hv;exact⟨j,Qy h hj hi hr,hj⟩
theorem Lj{ks:List KV}{A:WV}(h:aO ks A){id r:Int}(hi:A.next<=id)(hr:gI (λu=>u.id==id) A.us r):r= -1:=by
 rcases hr with⟨h1,-⟩|⟨k,x,-,h1,h2,-⟩
 ·exact h1
 ·obtain⟨kk,F⟩:=h.fine h1
  have h3:=F.id2;have h4:x.id=id:=by simpa using h2
  omega
theorem walk(vk:Value)(ks:List KV)(vw:Value)(X:WV)(vl:Value)(ls:List (List aJ))(w:World)
 (h0:Kl w vk ks/\∀k∈ks,k.b.size<=maxLen) (h1:Wl w vw X/\∀n∈Wd.nums X,Wd.In64 n) (h2:Ej w vl ls) (hsd:Sd w):
 Calls Tryz.prog 7 #[vk,vw,vl] w λe w'=>e=.returned (.bool true)/\Below w.heap.size w w':=by
 have K:Hid (Kl w vk ks/\∀k∈ks,k.b.size<=9223372036854775807):=⟨h0.1,λk hk=>by have:=h0.2 k hk;unfold maxLen at this;omega⟩;have H:Hid (Wl w vw X):=h1.1;have L:Hid (Ej w vl ls):=h2;have Vw:Hid (Sd w):=hsd;obtain⟨p1,q1,p2,q2,p3,q3,p4,q4,p5,q5,rfl⟩:=aT h1.1;obtain⟨pk,qk,rfl,kc1,kc2,-⟩:=h0.1;obtain⟨pl,ql,rfl,lc1,lc2,-⟩:=h2;clear h0 h1 hsd;go_enter Tryz.func7,Tryz.ntmps7;go_upto_region 1 with fail
 obtain⟨b,hb0⟩:∃z,w.heap.size=z:=⟨_,rfl⟩;have B0:Hid (Below w.heap.size w (w.alloc (Obj.cells #[int i64 X.turn,int i64 X.next,int i64 X.wide,int i64 X.high,slice p1 X.gs.length q1,slice p2 X.os.length q2,slice p3 X.gold.length q3,slice p4 X.us.length q4,slice p5 X.qs.length q5] 29))):=(Below.refl _ _).alloc (Nat.le_refl _) _;have X0:Hid (Wx (w.alloc (Obj.cells #[int i64 X.turn,int i64 X.next,int i64 X.wide,int i64 X.high,slice p1 X.gs.length q1,slice p2 X.os.length q2,slice p3 X.gold.length q3,slice p4 X.us.length q4,slice p5 X.qs.length q5] 29)) b (int i64 X.turn) (int i64 X.next) (int i64 X.wide) (int i64 X.high) (slice p1 X.gs.length q1) (slice p2 X.os.length q2) (slice p3 X.gold.length q3) (slice p4 X.us.length q4) (slice p5 X.qs.length q5)):=Wx.new _ _ _ _ _ _ _ _ _ hb0;have HB:Hid (w.heap.size=b):=hb0;rw[hb0];generalize w.alloc (Obj.cells #[int i64 X.turn,int i64 X.next,int i64 X.wide,int i64 X.high,slice p1 X.gs.length q1,slice p2 X.os.length q2,slice p3 X.gold.length q3,slice p4 X.us.length q4,slice p5 X.qs.length q5] 29)=w0 at *;clear hb0;go_wp2_with fail
 refine(one_any w0 (Vw.out.below B0.out)).mono ?_;rintro e w1 ⟨rfl,hb⟩;have B1:Hid (Below w.heap.size w w1):=B0.out.trans (hb.mono B0.out.size);have X1:Hid (Wx w1 b (int i64 X.turn) (int i64 X.next) (int i64 X.wide) (int i64 X.high) (slice p1 X.gs.length q1) (slice p2 X.os.length q2) (slice p3 X.gold.length q3) (slice p4 X.us.length q4) (slice p5 X.qs.length q5)):=X0.out.below hb X0.out.lt;clear hb X0 B0;obtain⟨x0,x1,x2,x3,x4,x5,x6,x7,x8⟩:=X1.out.cells;go_wp2_with fail
 refine(dV _ _ ks X w1 (K.out.1.below B1.out) K.out.2 (H.out.below B1.out)).mono ?_;rintro e w2 ⟨r,rfl,hr,hb⟩;have B2:Hid (Below w.heap.size w w2):=B1.out.trans (hb.mono B1.out.size);have X2:Hid (Wx w2 b (int i64 X.turn) (int i64 X.next) (int i64 X.wide) (int i64 X.high) (slice p1 X.gs.length q1) (slice p2 X.os.length q2) (slice p3 X.gold.length q3) (slice p4 X.us.length q4) (slice p5 X.qs.length q5)):=X1.out.below hb X1.out.lt;clear hb x0 x1 x2 x3 x4 x5 x6 x7 x8 X1 B1;obtain⟨f,hf⟩:∃f,Wd.aC ks X=f:=⟨_,rfl⟩;rw[hf] at hr;rcases hr with⟨rfl,rfl⟩|⟨hn,rfl⟩
 case inr=>
  clear hf hn;go_wp2;go_ret;exact⟨rfl,B2.out⟩
 have WF:Hid (Wd.aC ks X=0):=hf;clear hf;go_wp2_with fail
 go_loopw [10] (λj V=>∃(i:Nat) (A:WV) (s1:Option Addr) (l1:Nat) (s2:Option Addr) (l2:Nat) (s3:Option Addr) (l3:Nat) (s4:Option Addr) (l4:Nat) (s5:Option Addr) (l5:Nat),i<=8/\i<=ls.length/\j=int i64 (i:Nat)/\Wx V b (int i64 A.turn) (int i64 A.next) (int i64 A.wide) (int i64 A.high) (slice s1 A.gs.length l1) (slice s2 A.os.length l2) (slice s3 A.gold.length l3) (slice s4 A.us.length l4) (slice s5 A.qs.length l5)/\Wl V (.agg #[int i64 A.turn,int i64 A.next,int i64 A.wide,int i64 A.high,slice s1 A.gs.length l1,slice s2 A.os.length l2,slice s3 A.gold.length l3,slice s4 A.us.length l4,slice s5 A.qs.length l5]) A/\Wd.aC ks A=0/\Below w.heap.size w V) (λj _=>8-(intOf j).toNat)
 case atStart=>exact⟨0,X,p1,q1,p2,q2,p3,q3,p4,q4,p5,q5,by omega,by omega,rfl,X2.out,H.out.below B2.out,WF.out,B2.out⟩
 case round=>
 obtain⟨i,A,s1,l1,s2,l2,s3,l3,s4,l4,s5,l5,hi8,hil,rfl,hwx,hwl,hwf,hbb⟩:=hrel;have AX:Hid (Wx wr b (int i64 A.turn) (int i64 A.next) (int i64 A.wide) (int i64 A.high) (slice s1 A.gs.length l1) (slice s2 A.os.length l2) (slice s3 A.gold.length l3) (slice s4 A.us.length l4) (slice s5 A.qs.length l5)):=hwx;have AL:Hid (Wl wr (.agg #[int i64 A.turn,int i64 A.next,int i64 A.wide,int i64 A.high,slice s1 A.gs.length l1,slice s2 A.os.length l2,slice s3 A.gold.length l3,slice s4 A.us.length l4,slice s5 A.qs.length l5]) A):=hwl;have AF:Hid (Wd.aC ks A=0):=hwf;have BW:Hid (Below w.heap.size w wr):=hbb;clear hwx hwl hwf hbb X2 B2;by_cases hie:i=ls.length
 case pos=>
  have hii:¬(i:Int)<(ls.length:Int):=by omega
  go_wp2;go_ret;exact⟨rfl,BW.out⟩
 have hlt:i<ls.length:=by omega
 have hlt':(i:Int)<(ls.length:Int):=by omega
 by_cases hi7:i=8
 case pos=>
  have hii:¬(i:Int)<8:=by omega
  go_wp2;go_ret;exact⟨rfl,BW.out⟩
 have hi9:(i:Int)<8:=by omega
 obtain⟨lo,hlo⟩:∃l,ls[i]? =some l:=⟨_,List.getElem?_eq_getElem hlt⟩;obtain⟨a',c',e',-,-,hq⟩:=L.out;injection e' with e1' e2' e3'
 subst e1' e3';obtain⟨xl,rfl,xlt,hcc⟩:=hq (by rintro rfl;simp at hlt);obtain⟨vo,co,ho⟩:=hcc i lo hlo;have CO:Hid (w.cell? (xl.add i)=some vo/\(xl.add i).block<w.heap.size/\vF w vo lo):=⟨co,by rw[add_block];exact xlt,ho⟩;clear hq hcc hlo xlt co ho e2'
 rename World=>w3
 go_upto_region 11 with fail
 go_cut [11,13] (λv11 v13 V=>∃z Q,v11=.pointer (some ⟨z,0,none⟩)/\Stp ks A lo Q v13/\Yl V z w3.heap.size Q/\Below w3.heap.size w3 V)
 case first=>
  have CB:Hid (∀V,Below w3.heap.size w3 V->(Wx V b (int i64 A.turn) (int i64 A.next) (int i64 A.wide) (int i64 A.high) (slice s1 A.gs.length l1) (slice s2 A.os.length l2) (slice s3 A.gold.length l3) (slice s4 A.us.length l4) (slice s5 A.qs.length l5))/\V.cell? (xl.add i)=some vo):=λV hV=>⟨AX.out.below hV AX.out.lt,by rw[(BW.out.trans (hV.mono BW.out.size)).cell CO.out.2.1];exact CO.out.1⟩
  have DE:Hid (Below w3.heap.size w3 {w3 with drawn:=w3.drawn+1}):=(Below.refl _ _).drew;refine qB (.read 0 (.read 1 (.read 2 (.read 3 (.read 4 (.read 5 (.two 6 (.read 7 (.read 8 (.read 9 (.read 10 (.one 11 (.one 12 (.one 13 .leaf))))))) 11 (.one 6 (.read 7 (.read 8 (.read 9 (.read 10 (.one 12 (.one 13 .leaf)))))))))))))) [(false,0),(false,1),(false,2),(false,3),(false,4),(false,5),(false,6),(false,7),(false,8),(false,9),(false,10),(false,11),(false,12),(false,13)] [(false,14)] (λV=>(Wx V b (int i64 A.turn) (int i64 A.next) (int i64 A.wide) (int i64 A.high) (slice s1 A.gs.length l1) (slice s2 A.os.length l2) (slice s3 A.gold.length l3) (slice s4 A.us.length l4) (slice s5 A.qs.length l5))/\V.cell? (xl.add i)=some vo) (by kernel_rfl) (by kernel_rfl) (by kernel_rfl) (by decide+kernel) (by decide+kernel) (CB.out _ DE.out) ?_;generalize ({w3 with drawn:=w3.drawn+1}:World)=u1 at *;refine eY rfl (slice pk ks.length qk) (by go_simp) (λV hV=>by obtain⟨hV1,VA⟩:=hV;obtain⟨x0,x1,x2,x3,x4,x5,x6,x7,x8⟩:=hV1.cells;go_simp) ?_;go_simp;refine eY rfl (.agg #[int i64 A.turn,int i64 A.next,int i64 A.wide,int i64 A.high,slice s1 A.gs.length l1,slice s2 A.os.length l2,slice s3 A.gold.length l3,slice s4 A.us.length l4,slice s5 A.qs.length l5]) (by go_simp) (λV hV=>by obtain⟨hV1,VA⟩:=hV;obtain⟨x0,x1,x2,x3,x4,x5,x6,x7,x8⟩:=hV1.cells;go_simp) ?_;go_simp;refine eY rfl (slice (some xl) ls.length ql) (by go_simp) (λV hV=>by obtain⟨hV1,VA⟩:=hV;obtain⟨x0,x1,x2,x3,x4,x5,x6,x7,x8⟩:=hV1.cells;go_simp) ?_;go_simp;refine eY rfl (int i64 (i:Nat)) (by go_simp) (λV hV=>by obtain⟨hV1,VA⟩:=hV;obtain⟨x0,x1,x2,x3,x4,x5,x6,x7,x8⟩:=hV1.cells;go_simp) ?_;go_simp;refine eY rfl (.pointer (some (xl.add i))) (by go_simp) (λV hV=>by obtain⟨hV1,VA⟩:=hV;obtain⟨x0,x1,x2,x3,x4,x5,x6,x7,x8⟩:=hV1.cells;go_simp) ?_;go_simp;refine eY rfl (vo) (by go_simp) (λV hV=>by obtain⟨hV1,VA⟩:=hV;obtain⟨x0,x1,x2,x3,x4,x5,x6,x7,x8⟩:=hV1.cells;go_simp) ?_;go_simp;refine SK ?_ ?_
  ·refine AV rfl 27 #[slice pk ks.length qk,.agg #[int i64 A.turn,int i64 A.next,int i64 A.wide,int i64 A.high,slice s1 A.gs.length l1,slice s2 A.os.length l2,slice s3 A.gold.length l3,slice s4 A.us.length l4,slice s5 A.qs.length l5],vo] (by go_simp) (by go_simp) ?_
   have BB:Hid (Below w.heap.size w u1):=BW.out.trans (DE.out.mono BW.out.size);refine(qo _ _ _ ks A lo u1 (K.out.1.below BB.out) K.out.2 (AL.out.below DE.out) (CO.out.2.2.below BB.out) (Vw.out.below BB.out)).mono ?_;rintro e u2 ⟨v,ev,r,rfl,hr,hs,hb⟩;obtain⟨Q,hwo,hst⟩:=Le hs hr;have ST:Hid (Stp ks A lo Q r):=hst;clear hr hs hst BB;obtain⟨g1,d1,g2,d2,g3,d3,g4,d4,g5,d5,rfl⟩:=aT hwo.l;have LQ:Hid (Wo u2 w3.heap.size (.agg #[int i64 Q.turn,int i64 Q.next,int i64 Q.wide,int i64 Q.high,slice g1 Q.gs.length d1,slice g2 Q.os.length d2,slice g3 Q.gold.length d3,slice g4 Q.us.length d4,slice g5 Q.qs.length d5]) Q):=hwo.mono DE.out.size;have BU0:Hid (Below w3.heap.size w3 u2):=DE.out.trans (hb.mono DE.out.size);refine⟨_,rfl,CB.out _ BU0.out,?_⟩;clear hb hwo;go_simp;refine eY rfl (.tuple #[.agg #[int i64 Q.turn,int i64 Q.next,int i64 Q.wide,int i64 Q.high,slice g1 Q.gs.length d1,slice g2 Q.os.length d2,slice g3 Q.gold.length d3,slice g4 Q.us.length d4,slice g5 Q.qs.length d5],ev,r]) (by go_simp) (λV hV=>by go_simp) ?_;go_simp;refine eY rfl (.agg #[int i64 Q.turn,int i64 Q.next,int i64 Q.wide,int i64 Q.high,slice g1 Q.gs.length d1,slice g2 Q.os.length d2,slice g3 Q.gold.length d3,slice g4 Q.us.length d4,slice g5 Q.qs.length d5]) (by go_simp) (λV hV=>by go_simp) ?_;go_simp;refine eY rfl (ev) (by go_simp) (λV hV=>by go_simp) ?_;go_simp;refine eY rfl (r) (by go_simp) (λV hV=>by go_simp) ?_;go_simp;refine ni ?_;obtain⟨bx,hbx⟩:∃z,u2.heap.size=z:=⟨_,rfl⟩;have ba:Below u2.heap.size u2 (u2.alloc (Obj.cells #[int i64 0,int i64 0,int i64 0,int i64 0,slice none 0 0,slice none 0 0,slice none 0 0,slice none 0 0,slice none 0 0] 29)):=(Below.refl _ _).alloc (Nat.le_refl _) _;have ZE:Hid (Wx (u2.alloc (Obj.cells #[int i64 0,int i64 0,int i64 0,int i64 0,slice none 0 0,slice none 0 0,slice none 0 0,slice none 0 0,slice none 0 0] 29)) bx (int i64 0) (int i64 0) (int i64 0) (int i64 0) (slice none 0 0) (slice none 0 0) (slice none 0 0) (slice none 0 0) (slice none 0 0)):=Wx.new (w:=u2) _ _ _ _ _ _ _ _ _ hbx;have BU:Hid (Below w3.heap.size w3 (u2.alloc (Obj.cells #[int i64 0,int i64 0,int i64 0,int i64 0,slice none 0 0,slice none 0 0,slice none 0 0,slice none 0 0,slice none 0 0] 29))):=BU0.out.trans (ba.mono BU0.out.size);have NB:Hid (w3.heap.size<=bx):=by rw[<-hbx];exact BU0.out.size
   have BL:Hid (Below bx u2 (u2.alloc (Obj.cells #[int i64 0,int i64 0,int i64 0,int i64 0,slice none 0 0,slice none 0 0,slice none 0 0,slice none 0 0,slice none 0 0] 29))):=by rw[<-hbx];exact ba
   have LX:Hid (u2.heap.size=bx):=hbx;refine mF rfl (.pointer (some ⟨u2.heap.size,0,none⟩)) (u2.alloc (Obj.cells #[int i64 0,int i64 0,int i64 0,int i64 0,slice none 0 0,slice none 0 0,slice none 0 0,slice none 0 0,slice none 0 0] 29)) (by go_simp) (by go_simp) (CB.out _ BU.out) ?_;rw[hbx];clear ba hbx;generalize u2.alloc (Obj.cells #[int i64 0,int i64 0,int i64 0,int i64 0,slice none 0 0,slice none 0 0,slice none 0 0,slice none 0 0,slice none 0 0] 29)=u6 at *;go_simp;refine ni ?_;obtain⟨z0,z1,z2,z3,z4,z5,z6,z7,z8⟩:=ZE.out.cells;obtain⟨t0,t1,t2,t3,t4,t5,t6,t7,t8⟩:=ZE.out.bC;have KZ:Hid (Kp bx u6 (((((((((u6.setCell ⟨bx,0,none⟩ (int i64 Q.turn)).setCell ⟨bx,1,none⟩ (int i64 Q.next)).setCell ⟨bx,2,none⟩ (int i64 Q.wide)).setCell ⟨bx,3,none⟩ (int i64 Q.high)).setCell ⟨bx,4,none⟩ (slice g1 Q.gs.length d1)).setCell ⟨bx,5,none⟩ (slice g2 Q.os.length d2)).setCell ⟨bx,6,none⟩ (slice g3 Q.gold.length d3)).setCell ⟨bx,7,none⟩ (slice g4 Q.us.length d4)).setCell ⟨bx,8,none⟩ (slice g5 Q.qs.length d5))):=bI _ _ _ _ _ _ _ _ _ _ _;have BZ:Hid (Below w3.heap.size w3 (((((((((u6.setCell ⟨bx,0,none⟩ (int i64 Q.turn)).setCell ⟨bx,1,none⟩ (int i64 Q.next)).setCell ⟨bx,2,none⟩ (int i64 Q.wide)).setCell ⟨bx,3,none⟩ (int i64 Q.high)).setCell ⟨bx,4,none⟩ (slice g1 Q.gs.length d1)).setCell ⟨bx,5,none⟩ (slice g2 Q.os.length d2)).setCell ⟨bx,6,none⟩ (slice g3 Q.gold.length d3)).setCell ⟨bx,7,none⟩ (slice g4 Q.us.length d4)).setCell ⟨bx,8,none⟩ (slice g5 Q.qs.length d5))):=KZ.out.below BU.out BU.out.size NB.out;have WZ:Hid (Yl (((((((((u6.setCell ⟨bx,0,none⟩ (int i64 Q.turn)).setCell ⟨bx,1,none⟩ (int i64 Q.next)).setCell ⟨bx,2,none⟩ (int i64 Q.wide)).setCell ⟨bx,3,none⟩ (int i64 Q.high)).setCell ⟨bx,4,none⟩ (slice g1 Q.gs.length d1)).setCell ⟨bx,5,none⟩ (slice g2 Q.os.length d2)).setCell ⟨bx,6,none⟩ (slice g3 Q.gold.length d3)).setCell ⟨bx,7,none⟩ (slice g4 Q.us.length d4)).setCell ⟨bx,8,none⟩ (slice g5 Q.qs.length d5)) bx w3.heap.size Q):=⟨g1,d1,g2,d2,g3,d3,g4,d4,g5,d5,Ir (ZE.out.put _ _ _ _ _ _ _ _ _),(LQ.out.below (by rw[LX.out];exact KZ.out.below BL.out (by have h9:=BL.out.size;have h8:=LX.out;omega) (Nat.le_refl _)))⟩;refine AY rfl (((((((((u6.setCell ⟨bx,0,none⟩ (int i64 Q.turn)).setCell ⟨bx,1,none⟩ (int i64 Q.next)).setCell ⟨bx,2,none⟩ (int i64 Q.wide)).setCell ⟨bx,3,none⟩ (int i64 Q.high)).setCell ⟨bx,4,none⟩ (slice g1 Q.gs.length d1)).setCell ⟨bx,5,none⟩ (slice g2 Q.os.length d2)).setCell ⟨bx,6,none⟩ (slice g3 Q.gold.length d3)).setCell ⟨bx,7,none⟩ (slice g4 Q.us.length d4)).setCell ⟨bx,8,none⟩ (slice g5 Q.qs.length d5)) (by go_simp) (by go_simp) (CB.out _ BZ.out) ?_;clear z0 z1 z2 z3 z4 z5 z6 z7 z8 t0 t1 t2 t3 t4 t5 t6 t7 t8 KZ ZE;generalize ((((((((u6.setCell ⟨bx,0,none⟩ (int i64 Q.turn)).setCell ⟨bx,1,none⟩ (int i64 Q.next)).setCell ⟨bx,2,none⟩ (int i64 Q.wide)).setCell ⟨bx,3,none⟩ (int i64 Q.high)).setCell ⟨bx,4,none⟩ (slice g1 Q.gs.length d1)).setCell ⟨bx,5,none⟩ (slice g2 Q.os.length d2)).setCell ⟨bx,6,none⟩ (slice g3 Q.gold.length d3)).setCell ⟨bx,7,none⟩ (slice g4 Q.us.length d4)).setCell ⟨bx,8,none⟩ (slice g5 Q.qs.length d5)=u9 at *;go_simp;refine ni ?_;refine mF rfl ev u9 (by go_simp) (by go_simp) (CB.out _ BZ.out) ?_;go_simp;unfold jH;refine aI rfl r u9 (by go_simp) (by go_simp) trivial ?_;go_simp;unfold aK;go_wp2_with fail
   go_meet
   case rel=>exact⟨bx,Q,rfl,ST.out,WZ.out,BZ.out⟩
  ·obtain⟨bx,hbx⟩:∃z,u1.heap.size=z:=⟨_,rfl⟩
   have ba:Below u1.heap.size u1 (u1.alloc (Obj.cells #[int i64 0,int i64 0,int i64 0,int i64 0,slice none 0 0,slice none 0 0,slice none 0 0,slice none 0 0,slice none 0 0] 29)):=(Below.refl _ _).alloc (Nat.le_refl _) _;have ZE0:Hid (Wx (u1.alloc (Obj.cells #[int i64 0,int i64 0,int i64 0,int i64 0,slice none 0 0,slice none 0 0,slice none 0 0,slice none 0 0,slice none 0 0] 29)) bx (int i64 0) (int i64 0) (int i64 0) (int i64 0) (slice none 0 0) (slice none 0 0) (slice none 0 0) (slice none 0 0) (slice none 0 0)):=Wx.new (w:=u1) _ _ _ _ _ _ _ _ _ hbx;have DE2:Hid (Below w3.heap.size w3 (u1.alloc (Obj.cells #[int i64 0,int i64 0,int i64 0,int i64 0,slice none 0 0,slice none 0 0,slice none 0 0,slice none 0 0,slice none 0 0] 29))):=DE.out.trans (ba.mono DE.out.size);have NB:Hid (w3.heap.size<=bx):=by rw[<-hbx];exact DE.out.size
   refine mF rfl (.pointer (some ⟨u1.heap.size,0,none⟩)) (u1.alloc (Obj.cells #[int i64 0,int i64 0,int i64 0,int i64 0,slice none 0 0,slice none 0 0,slice none 0 0,slice none 0 0,slice none 0 0] 29)) (by go_simp) (by go_simp) (CB.out _ DE2.out) ?_;rw[hbx];generalize u1.alloc (Obj.cells #[int i64 0,int i64 0,int i64 0,int i64 0,slice none 0 0,slice none 0 0,slice none 0 0,slice none 0 0,slice none 0 0] 29)=u3 at *;go_simp;clear DE ba hbx;have DE:=DE2;clear DE2;refine ni ?_;refine AV rfl 27 #[slice pk ks.length qk,.agg #[int i64 A.turn,int i64 A.next,int i64 A.wide,int i64 A.high,slice s1 A.gs.length l1,slice s2 A.os.length l2,slice s3 A.gold.length l3,slice s4 A.us.length l4,slice s5 A.qs.length l5],vo] (by go_simp) (by go_simp) ?_;have BB:Hid (Below w.heap.size w u3):=BW.out.trans (DE.out.mono BW.out.size);refine(qo _ _ _ ks A lo u3 (K.out.1.below BB.out) K.out.2 (AL.out.below DE.out) (CO.out.2.2.below BB.out) (Vw.out.below BB.out)).mono ?_;rintro e u2 ⟨v,ev,r,rfl,hr,hs,hb⟩;obtain⟨Q,hwo,hst⟩:=Le hs hr;have ST:Hid (Stp ks A lo Q r):=hst;clear hr hs hst BB;obtain⟨g1,d1,g2,d2,g3,d3,g4,d4,g5,d5,rfl⟩:=aT hwo.l;have ZE:Hid (Wx u2 bx (int i64 0) (int i64 0) (int i64 0) (int i64 0) (slice none 0 0) (slice none 0 0) (slice none 0 0) (slice none 0 0) (slice none 0 0)):=ZE0.out.below hb ZE0.out.lt;have WQ:Hid (Wo u2 u3.heap.size (.agg #[int i64 Q.turn,int i64 Q.next,int i64 Q.wide,int i64 Q.high,slice g1 Q.gs.length d1,slice g2 Q.os.length d2,slice g3 Q.gold.length d3,slice g4 Q.us.length d4,slice g5 Q.qs.length d5]) Q/\bx<u3.heap.size/\w3.heap.size<=u3.heap.size):=⟨hwo,ZE0.out.lt,DE.out.size⟩;have BU:Hid (Below w3.heap.size w3 u2):=DE.out.trans (hb.mono DE.out.size);refine⟨_,rfl,CB.out _ BU.out,?_⟩;clear hb hwo ZE0;go_simp;refine eY rfl (.tuple #[.agg #[int i64 Q.turn,int i64 Q.next,int i64 Q.wide,int i64 Q.high,slice g1 Q.gs.length d1,slice g2 Q.os.length d2,slice g3 Q.gold.length d3,slice g4 Q.us.length d4,slice g5 Q.qs.length d5],ev,r]) (by go_simp) (λV hV=>by go_simp) ?_;go_simp;refine eY rfl (.agg #[int i64 Q.turn,int i64 Q.next,int i64 Q.wide,int i64 Q.high,slice g1 Q.gs.length d1,slice g2 Q.os.length d2,slice g3 Q.gold.length d3,slice g4 Q.us.length d4,slice g5 Q.qs.length d5]) (by go_simp) (λV hV=>by go_simp) ?_;go_simp;refine eY rfl (ev) (by go_simp) (λV hV=>by go_simp) ?_;go_simp;refine eY rfl (r) (by go_simp) (λV hV=>by go_simp) ?_;go_simp;refine ni ?_;obtain⟨z0,z1,z2,z3,z4,z5,z6,z7,z8⟩:=ZE.out.cells;obtain⟨t0,t1,t2,t3,t4,t5,t6,t7,t8⟩:=ZE.out.bC;have KZ:Hid (Kp bx u2 (((((((((u2.setCell ⟨bx,0,none⟩ (int i64 Q.turn)).setCell ⟨bx,1,none⟩ (int i64 Q.next)).setCell ⟨bx,2,none⟩ (int i64 Q.wide)).setCell ⟨bx,3,none⟩ (int i64 Q.high)).setCell ⟨bx,4,none⟩ (slice g1 Q.gs.length d1)).setCell ⟨bx,5,none⟩ (slice g2 Q.os.length d2)).setCell ⟨bx,6,none⟩ (slice g3 Q.gold.length d3)).setCell ⟨bx,7,none⟩ (slice g4 Q.us.length d4)).setCell ⟨bx,8,none⟩ (slice g5 Q.qs.length d5))):=bI _ _ _ _ _ _ _ _ _ _ _;have BZ:Hid (Below w3.heap.size w3 (((((((((u2.setCell ⟨bx,0,none⟩ (int i64 Q.turn)).setCell ⟨bx,1,none⟩ (int i64 Q.next)).setCell ⟨bx,2,none⟩ (int i64 Q.wide)).setCell ⟨bx,3,none⟩ (int i64 Q.high)).setCell ⟨bx,4,none⟩ (slice g1 Q.gs.length d1)).setCell ⟨bx,5,none⟩ (slice g2 Q.os.length d2)).setCell ⟨bx,6,none⟩ (slice g3 Q.gold.length d3)).setCell ⟨bx,7,none⟩ (slice g4 Q.us.length d4)).setCell ⟨bx,8,none⟩ (slice g5 Q.qs.length d5))):=KZ.out.below BU.out BU.out.size NB.out;have WZ:Hid (Yl (((((((((u2.setCell ⟨bx,0,none⟩ (int i64 Q.turn)).setCell ⟨bx,1,none⟩ (int i64 Q.next)).setCell ⟨bx,2,none⟩ (int i64 Q.wide)).setCell ⟨bx,3,none⟩ (int i64 Q.high)).setCell ⟨bx,4,none⟩ (slice g1 Q.gs.length d1)).setCell ⟨bx,5,none⟩ (slice g2 Q.os.length d2)).setCell ⟨bx,6,none⟩ (slice g3 Q.gold.length d3)).setCell ⟨bx,7,none⟩ (slice g4 Q.us.length d4)).setCell ⟨bx,8,none⟩ (slice g5 Q.qs.length d5)) bx w3.heap.size Q):=⟨g1,d1,g2,d2,g3,d3,g4,d4,g5,d5,Ir (ZE.out.put _ _ _ _ _ _ _ _ _),(WQ.out.1.kp KZ.out WQ.out.2.1).mono WQ.out.2.2⟩;refine AY rfl (((((((((u2.setCell ⟨bx,0,none⟩ (int i64 Q.turn)).setCell ⟨bx,1,none⟩ (int i64 Q.next)).setCell ⟨bx,2,none⟩ (int i64 Q.wide)).setCell ⟨bx,3,none⟩ (int i64 Q.high)).setCell ⟨bx,4,none⟩ (slice g1 Q.gs.length d1)).setCell ⟨bx,5,none⟩ (slice g2 Q.os.length d2)).setCell ⟨bx,6,none⟩ (slice g3 Q.gold.length d3)).setCell ⟨bx,7,none⟩ (slice g4 Q.us.length d4)).setCell ⟨bx,8,none⟩ (slice g5 Q.qs.length d5)) (by go_simp) (by go_simp) (CB.out _ BZ.out) ?_;clear z0 z1 z2 z3 z4 z5 z6 z7 z8 t0 t1 t2 t3 t4 t5 t6 t7 t8 KZ ZE;generalize ((((((((u2.setCell ⟨bx,0,none⟩ (int i64 Q.turn)).setCell ⟨bx,1,none⟩ (int i64 Q.next)).setCell ⟨bx,2,none⟩ (int i64 Q.wide)).setCell ⟨bx,3,none⟩ (int i64 Q.high)).setCell ⟨bx,4,none⟩ (slice g1 Q.gs.length d1)).setCell ⟨bx,5,none⟩ (slice g2 Q.os.length d2)).setCell ⟨bx,6,none⟩ (slice g3 Q.gold.length d3)).setCell ⟨bx,7,none⟩ (slice g4 Q.us.length d4)).setCell ⟨bx,8,none⟩ (slice g5 Q.qs.length d5)=u9 at *;go_simp;refine ni ?_;refine mF rfl ev u9 (by go_simp) (by go_simp) (CB.out _ BZ.out) ?_;go_simp;unfold jH;refine aI rfl r u9 (by go_simp) (by go_simp) trivial ?_;go_simp;unfold aK;go_wp2_with fail
   go_meet
   case rel=>exact⟨bx,Q,rfl,ST.out,WZ.out,BZ.out⟩
 case rest=>
 obtain⟨z,Q,rfl,hst,hwb,hbw⟩:=hcut;have B4:Hid (Below w.heap.size w wc):=BW.out.trans (hbw.mono BW.out.size);have A4:Hid (Wx wc b (int i64 A.turn) (int i64 A.next) (int i64 A.wide) (int i64 A.high) (slice s1 A.gs.length l1) (slice s2 A.os.length l2) (slice s3 A.gold.length l3) (slice s4 A.us.length l4) (slice s5 A.qs.length l5)):=AX.out.below hbw AX.out.lt;have AL4:Hid (Wl wc (.agg #[int i64 A.turn,int i64 A.next,int i64 A.wide,int i64 A.high,slice s1 A.gs.length l1,slice s2 A.os.length l2,slice s3 A.gold.length l3,slice s4 A.us.length l4,slice s5 A.qs.length l5]) A):=AL.out.below hbw;have ZB:Hid (b<w3.heap.size):=AX.out.lt;rcases hst with⟨rfl,hsf,es,hsr⟩|⟨F,rfl⟩
 case inr=>
  go_wp2;go_ret;exact⟨rfl,B4.out⟩
 have WG:Hid (Wg ks A Q/\Wd.aC ks Q=0):=⟨OY hsf hsr,(zx hsf hsr).1⟩;obtain⟨g1,d1,g2,d2,g3,d3,g4,d4,g5,d5,YP,hqo⟩:=hwb;have Q4:Hid (Bw wc z Q (slice g1 Q.gs.length d1) (slice g2 Q.os.length d2) (slice g3 Q.gold.length d3) (slice g4 Q.us.length d4) (slice g5 Q.qs.length d5)):=YP;have QO:Hid (Wo wc w3.heap.size (.agg #[int i64 Q.turn,int i64 Q.next,int i64 Q.wide,int i64 Q.high,slice g1 Q.gs.length d1,slice g2 Q.os.length d2,slice g3 Q.gold.length d3,slice g4 Q.us.length d4,slice g5 Q.qs.length d5]) Q):=hqo;clear hsf hsr YP hqo hbw AX AL BW
 rename World=>w4
 have YQ:Hid (SB Q/\SB A):=⟨Qm (aW WG.out.2),Qm (aW AF.out)⟩;have tn:¬tot A<tot Q:=by have:=WG.out.1.t;omega
 have nn:¬Q.next<A.next:=by have:=WG.out.1.n;omega
 obtain⟨tA,htA⟩:∃n,tot A=n:=⟨_,rfl⟩;obtain⟨tQ,Ym⟩:∃n,tot Q=n:=⟨_,rfl⟩;have TE:Hid (tot A=tA/\tot Q=tQ):=⟨htA,Ym⟩;rw[htA,Ym] at tn;clear htA Ym;go_upto_region 14 with fail
 have CB:Hid (∀V,Below w4.heap.size w4 V->(Wx V b (int i64 A.turn) (int i64 A.next) (int i64 A.wide) (int i64 A.high) (slice s1 A.gs.length l1) (slice s2 A.os.length l2) (slice s3 A.gold.length l3) (slice s4 A.us.length l4) (slice s5 A.qs.length l5))/\Bw V z Q (slice g1 Q.gs.length d1) (slice g2 Q.os.length d2) (slice g3 Q.gold.length d3) (slice g4 Q.us.length d4) (slice g5 Q.qs.length d5)):=λV hV=>⟨A4.out.below hV A4.out.lt,Q4.out.below hV Q4.out.lt⟩
 have DE:Hid (Below w4.heap.size w4 {w4 with drawn:=w4.drawn+1}):=(Below.refl _ _).drew;refine aF [(true,0),(true,1),(true,3),(true,4),(false,2),(false,5),(true,6),(true,7),(true,8),(true,9),(true,10),(true,11),(true,12)] [(true,13)] (λV=>(Wx V b (int i64 A.turn) (int i64 A.next) (int i64 A.wide) (int i64 A.high) (slice s1 A.gs.length l1) (slice s2 A.os.length l2) (slice s3 A.gold.length l3) (slice s4 A.us.length l4) (slice s5 A.qs.length l5))/\Bw V z Q (slice g1 Q.gs.length d1) (slice g2 Q.os.length d2) (slice g3 Q.gold.length d3) (slice g4 Q.us.length d4) (slice g5 Q.qs.length d5)) (by kernel_rfl) (by kernel_rfl) (by kernel_rfl) (by decide+kernel) (by decide+kernel) (CB.out _ DE.out) ?_;generalize ({w4 with drawn:=w4.drawn+1}:World)=u1 at *;refine au rfl (.func (Fn.func 34) #[] #[]) (by go_simp) (λV hV=>by obtain⟨hV1,hV2⟩:=hV;obtain⟨x0,x1,x2,x3,x4,x5,x6,x7,x8⟩:=hV1.cells;obtain⟨y0,y1,y2,y3,y4,y5,y6,y7,y8⟩:=hV2;go_simp) ?_;go_simp;refine au rfl (.agg #[int i64 Q.turn,int i64 Q.next,int i64 Q.wide,int i64 Q.high,slice g1 Q.gs.length d1,slice g2 Q.os.length d2,slice g3 Q.gold.length d3,slice g4 Q.us.length d4,slice g5 Q.qs.length d5]) (by go_simp) (λV hV=>by obtain⟨hV1,hV2⟩:=hV;obtain⟨x0,x1,x2,x3,x4,x5,x6,x7,x8⟩:=hV1.cells;obtain⟨y0,y1,y2,y3,y4,y5,y6,y7,y8⟩:=hV2;go_simp) ?_;go_simp;refine au rfl (.func (Fn.func 34) #[] #[]) (by go_simp) (λV hV=>by obtain⟨hV1,hV2⟩:=hV;obtain⟨x0,x1,x2,x3,x4,x5,x6,x7,x8⟩:=hV1.cells;obtain⟨y0,y1,y2,y3,y4,y5,y6,y7,y8⟩:=hV2;go_simp) ?_;go_simp;refine au rfl (.agg #[int i64 A.turn,int i64 A.next,int i64 A.wide,int i64 A.high,slice s1 A.gs.length l1,slice s2 A.os.length l2,slice s3 A.gold.length l3,slice s4 A.us.length l4,slice s5 A.qs.length l5]) (by go_simp) (λV hV=>by obtain⟨hV1,hV2⟩:=hV;obtain⟨x0,x1,x2,x3,x4,x5,x6,x7,x8⟩:=hV1.cells;obtain⟨y0,y1,y2,y3,y4,y5,y6,y7,y8⟩:=hV2;go_simp) ?_;go_simp;refine aX rfl 34 #[.agg #[int i64 Q.turn,int i64 Q.next,int i64 Q.wide,int i64 Q.high,slice g1 Q.gs.length d1,slice g2 Q.os.length d2,slice g3 Q.gold.length d3,slice g4 Q.us.length d4,slice g5 Q.qs.length d5]] (by go_simp) (by go_simp) ?_;refine(wO _ Q u1 (QO.out.l.below DE.out) YQ.out.1).mono ?_;rintro e u2 ⟨rfl,hb⟩;rw[TE.out.2];have D2:Hid (Below w4.heap.size w4 u2):=DE.out.trans (hb.mono DE.out.size);refine⟨_,rfl,CB.out _ D2.out,?_⟩;clear hb DE;go_simp;refine aX rfl 34 #[.agg #[int i64 A.turn,int i64 A.next,int i64 A.wide,int i64 A.high,slice s1 A.gs.length l1,slice s2 A.os.length l2,slice s3 A.gold.length l3,slice s4 A.us.length l4,slice s5 A.qs.length l5]] (by go_simp) (by go_simp) ?_;refine(wO _ A u2 (AL4.out.below D2.out) YQ.out.2).mono ?_;rintro e u3 ⟨rfl,hb⟩;rw[TE.out.1];have D3:Hid (Below w4.heap.size w4 u3):=D2.out.trans (hb.mono D2.out.size);refine⟨_,rfl,CB.out _ D3.out,?_⟩;clear hb D2;go_simp;refine au rfl (.bool false) (by go_simp) (λV hV=>by obtain⟨hV1,hV2⟩:=hV;obtain⟨x0,x1,x2,x3,x4,x5,x6,x7,x8⟩:=hV1.cells;obtain⟨y0,y1,y2,y3,y4,y5,y6,y7,y8⟩:=hV2;go_simp) ?_;go_simp;refine au rfl (.bool false) (by go_simp) (λV hV=>by obtain⟨hV1,hV2⟩:=hV;obtain⟨x0,x1,x2,x3,x4,x5,x6,x7,x8⟩:=hV1.cells;obtain⟨y0,y1,y2,y3,y4,y5,y6,y7,y8⟩:=hV2;go_simp) ?_;go_simp;refine au rfl (.pointer (some ⟨z,1,none⟩)) (by go_simp) (λV hV=>by obtain⟨hV1,hV2⟩:=hV;obtain⟨x0,x1,x2,x3,x4,x5,x6,x7,x8⟩:=hV1.cells;obtain⟨y0,y1,y2,y3,y4,y5,y6,y7,y8⟩:=hV2;go_simp) ?_;go_simp;refine au rfl (int i64 Q.next) (by go_simp) (λV hV=>by obtain⟨hV1,hV2⟩:=hV;obtain⟨x0,x1,x2,x3,x4,x5,x6,x7,x8⟩:=hV1.cells;obtain⟨y0,y1,y2,y3,y4,y5,y6,y7,y8⟩:=hV2;go_simp) ?_;go_simp;refine au rfl (.pointer (some ⟨b,1,none⟩)) (by go_simp) (λV hV=>by obtain⟨hV1,hV2⟩:=hV;obtain⟨x0,x1,x2,x3,x4,x5,x6,x7,x8⟩:=hV1.cells;obtain⟨y0,y1,y2,y3,y4,y5,y6,y7,y8⟩:=hV2;go_simp) ?_;go_simp;refine au rfl (int i64 A.next) (by go_simp) (λV hV=>by obtain⟨hV1,hV2⟩:=hV;obtain⟨x0,x1,x2,x3,x4,x5,x6,x7,x8⟩:=hV1.cells;obtain⟨y0,y1,y2,y3,y4,y5,y6,y7,y8⟩:=hV2;go_simp) ?_;go_simp;refine au rfl (.bool false) (by go_simp) (λV hV=>by obtain⟨hV1,hV2⟩:=hV;obtain⟨x0,x1,x2,x3,x4,x5,x6,x7,x8⟩:=hV1.cells;obtain⟨y0,y1,y2,y3,y4,y5,y6,y7,y8⟩:=hV2;go_simp) ?_;go_simp;unfold aV;refine bQ rfl (.bool false) (by go_simp) (λV hV=>by go_simp) ?_;go_simp;unfold aK;have B5:Hid (Below w.heap.size w u3):=B4.out.trans (D3.out.mono B4.out.size);have A5:Hid (Wx u3 b (int i64 A.turn) (int i64 A.next) (int i64 A.wide) (int i64 A.high) (slice s1 A.gs.length l1) (slice s2 A.os.length l2) (slice s3 A.gold.length l3) (slice s4 A.us.length l4) (slice s5 A.qs.length l5)):=A4.out.below D3.out A4.out.lt;have AL5:Hid (Wl u3 (.agg #[int i64 A.turn,int i64 A.next,int i64 A.wide,int i64 A.high,slice s1 A.gs.length l1,slice s2 A.os.length l2,slice s3 A.gold.length l3,slice s4 A.us.length l4,slice s5 A.qs.length l5]) A):=AL4.out.below D3.out;have Q5:Hid (Bw u3 z Q (slice g1 Q.gs.length d1) (slice g2 Q.os.length d2) (slice g3 Q.gold.length d3) (slice g4 Q.us.length d4) (slice g5 Q.qs.length d5)):=Q4.out.below D3.out Q4.out.lt;have QO5:Hid (Wo u3 w3.heap.size (.agg #[int i64 Q.turn,int i64 Q.next,int i64 Q.wide,int i64 Q.high,slice g1 Q.gs.length d1,slice g2 Q.os.length d2,slice g3 Q.gold.length d3,slice g4 Q.us.length d4,slice g5 Q.qs.length d5]) Q):=QO.out.below D3.out;clear D3 A4 AL4 Q4 QO B4 CB;have QS:=QO5.out.l.slices;have QU:Hid (jI u3 (slice g4 Q.us.length d4) Q.us):=QS.2.2.2.1;have AS:=AL5.out.slices;have AU:Hid (jI u3 (slice s4 A.us.length l4) A.us):=AS.2.2.2.1;obtain⟨qa9,qc9,qce,qc1,qc2,-⟩:=QU.out;injection qce with qe1 qe2 qe3
 subst qe1 qe3;obtain⟨aa9,ac9,ace,ac1,ac2,-⟩:=AU.out;injection ace with ae1 ae2 ae3
 subst ae1 ae3;clear QS AS qe2 ae2
 rename World=>u3
 go_wp2_with fail
 go_loopw [14] (λj V=>∃n:Nat,n<=Q.us.length/\j=int i64 (n:Nat)/\Below u3.heap.size u3 V) (λj _=>Q.us.length-(intOf j).toNat)
 case atStart=>exact⟨0,Nat.zero_le _,rfl,Below.refl _ _⟩
 case round=>
 obtain⟨n,hn,rfl,hbr⟩:=hrel;have BR:Hid (Below u3.heap.size u3 wr):=hbr;have B6:Hid (Below w.heap.size w wr):=B5.out.trans (hbr.mono B5.out.size);have Q6:Hid (Bw wr z Q (slice g1 Q.gs.length d1) (slice g2 Q.os.length d2) (slice g3 Q.gold.length d3) (slice g4 Q.us.length d4) (slice g5 Q.qs.length d5)):=Q5.out.below hbr Q5.out.lt;have A6:Hid (Wx wr b (int i64 A.turn) (int i64 A.next) (int i64 A.wide) (int i64 A.high) (slice s1 A.gs.length l1) (slice s2 A.os.length l2) (slice s3 A.gold.length l3) (slice s4 A.us.length l4) (slice s5 A.qs.length l5)):=A5.out.below hbr A5.out.lt;clear hbr;by_cases hne:n=Q.us.length
 case pos=>
  have hnn:¬(n:Int)<(Q.us.length:Int):=by omega
  have QO6:Hid (Wo wr w3.heap.size (.agg #[int i64 Q.turn,int i64 Q.next,int i64 Q.wide,int i64 Q.high,slice g1 Q.gs.length d1,slice g2 Q.os.length d2,slice g3 Q.gold.length d3,slice g4 Q.us.length d4,slice g5 Q.qs.length d5]) Q):=QO5.out.below BR.out;obtain⟨x0,x1,x2,x3,x4,x5,x6,x7,x8⟩:=Q6.out;obtain⟨y0,y1,y2,y3,y4,y5,y6,y7,y8⟩:=A6.out.cells;obtain⟨t0,t1,t2,t3,t4,t5,t6,t7,t8⟩:=A6.out.bC;have KW:Hid (Kp b wr (((((((((wr.setCell ⟨b,0,none⟩ (int i64 Q.turn)).setCell ⟨b,1,none⟩ (int i64 Q.next)).setCell ⟨b,2,none⟩ (int i64 Q.wide)).setCell ⟨b,3,none⟩ (int i64 Q.high)).setCell ⟨b,4,none⟩ (slice g1 Q.gs.length d1)).setCell ⟨b,5,none⟩ (slice g2 Q.os.length d2)).setCell ⟨b,6,none⟩ (slice g3 Q.gold.length d3)).setCell ⟨b,7,none⟩ (slice g4 Q.us.length d4)).setCell ⟨b,8,none⟩ (slice g5 Q.qs.length d5))):=bI _ _ _ _ _ _ _ _ _ _ _;have AN:Hid (Wx (((((((((wr.setCell ⟨b,0,none⟩ (int i64 Q.turn)).setCell ⟨b,1,none⟩ (int i64 Q.next)).setCell ⟨b,2,none⟩ (int i64 Q.wide)).setCell ⟨b,3,none⟩ (int i64 Q.high)).setCell ⟨b,4,none⟩ (slice g1 Q.gs.length d1)).setCell ⟨b,5,none⟩ (slice g2 Q.os.length d2)).setCell ⟨b,6,none⟩ (slice g3 Q.gold.length d3)).setCell ⟨b,7,none⟩ (slice g4 Q.us.length d4)).setCell ⟨b,8,none⟩ (slice g5 Q.qs.length d5)) b (int i64 Q.turn) (int i64 Q.next) (int i64 Q.wide) (int i64 Q.high) (slice g1 Q.gs.length d1) (slice g2 Q.os.length d2) (slice g3 Q.gold.length d3) (slice g4 Q.us.length d4) (slice g5 Q.qs.length d5)):=A6.out.put _ _ _ _ _ _ _ _ _;have LN:Hid (Wl (((((((((wr.setCell ⟨b,0,none⟩ (int i64 Q.turn)).setCell ⟨b,1,none⟩ (int i64 Q.next)).setCell ⟨b,2,none⟩ (int i64 Q.wide)).setCell ⟨b,3,none⟩ (int i64 Q.high)).setCell ⟨b,4,none⟩ (slice g1 Q.gs.length d1)).setCell ⟨b,5,none⟩ (slice g2 Q.os.length d2)).setCell ⟨b,6,none⟩ (slice g3 Q.gold.length d3)).setCell ⟨b,7,none⟩ (slice g4 Q.us.length d4)).setCell ⟨b,8,none⟩ (slice g5 Q.qs.length d5)) (.agg #[int i64 Q.turn,int i64 Q.next,int i64 Q.wide,int i64 Q.high,slice g1 Q.gs.length d1,slice g2 Q.os.length d2,slice g3 Q.gold.length d3,slice g4 Q.us.length d4,slice g5 Q.qs.length d5]) Q):=(QO6.out.kp KW.out ZB.out).l;have BN:Hid (Below w.heap.size w (((((((((wr.setCell ⟨b,0,none⟩ (int i64 Q.turn)).setCell ⟨b,1,none⟩ (int i64 Q.next)).setCell ⟨b,2,none⟩ (int i64 Q.wide)).setCell ⟨b,3,none⟩ (int i64 Q.high)).setCell ⟨b,4,none⟩ (slice g1 Q.gs.length d1)).setCell ⟨b,5,none⟩ (slice g2 Q.os.length d2)).setCell ⟨b,6,none⟩ (slice g3 Q.gold.length d3)).setCell ⟨b,7,none⟩ (slice g4 Q.us.length d4)).setCell ⟨b,8,none⟩ (slice g5 Q.qs.length d5))):=KW.out.below B6.out B6.out.size (by rw[HB.out];exact Nat.le_refl _);go_wp2;go_roundw
  case rel=>exact⟨i+1,Q,g1,d1,g2,d2,g3,d3,g4,d4,g5,d5,by omega,by omega,by go_num,AN.out,LN.out,WG.out.2,BN.out⟩
  case measure=>simp[intOf];omega
 have hnl:n<Q.us.length:=by omega
 have XJ:(n:Int)<(Q.us.length:Int):=by omega
 obtain⟨u,hu⟩:∃u,Q.us[n]? =some u:=⟨_,List.getElem?_eq_getElem hnl⟩;have UM:Hid (Q.us[n]? =some u):=hu;obtain⟨qa,qq,qe,-,-,AZ⟩:=QU.out.below BR.out;injection qe with qe1 qe2 qe3
 subst qe1 qe3;obtain⟨yu,rfl,-,AZ⟩:=AZ (by rintro h;rw[h] at hu;simp at hu);obtain⟨c0,c1,c2,c3,c4,c5,c6,c7⟩:=AZ n u hu;clear AZ hu qe2;obtain⟨x0,x1,x2,x3,x4,x5,x6,x7,x8⟩:=Q6.out;go_upto_region 20 with fail
 obtain⟨zu,hzu⟩:∃z,wr.heap.size=z:=⟨_,rfl⟩;have BU:Hid (Below wr.heap.size wr (wr.alloc (Obj.cells #[int i64 u.id,int i64 u.ay,int i64 u.kind,int i64 u.at_,int i64 u.life,int i64 u.load,int i64 u.task,int i64 u.goal] 74))):=(Below.refl _ _).alloc (Nat.le_refl _) _;have UB:Hid (dw (wr.alloc (Obj.cells #[int i64 u.id,int i64 u.ay,int i64 u.kind,int i64 u.at_,int i64 u.life,int i64 u.load,int i64 u.task,int i64 u.goal] 74)) ⟨zu,0,none⟩ u):=dw.mk' u hzu;have B7:Hid (Below w.heap.size w (wr.alloc (Obj.cells #[int i64 u.id,int i64 u.ay,int i64 u.kind,int i64 u.at_,int i64 u.life,int i64 u.load,int i64 u.task,int i64 u.goal] 74))):=B6.out.trans (BU.out.mono B6.out.size);have BR7:Hid (Below u3.heap.size u3 (wr.alloc (Obj.cells #[int i64 u.id,int i64 u.ay,int i64 u.kind,int i64 u.at_,int i64 u.life,int i64 u.load,int i64 u.task,int i64 u.goal] 74))):=BR.out.trans (BU.out.mono BR.out.size);have A7:Hid (Wx (wr.alloc (Obj.cells #[int i64 u.id,int i64 u.ay,int i64 u.kind,int i64 u.at_,int i64 u.life,int i64 u.load,int i64 u.task,int i64 u.goal] 74)) b (int i64 A.turn) (int i64 A.next) (int i64 A.wide) (int i64 A.high) (slice s1 A.gs.length l1) (slice s2 A.os.length l2) (slice s3 A.gold.length l3) (slice s4 A.us.length l4) (slice s5 A.qs.length l5)):=A6.out.below BU.out A6.out.lt;rw[hzu];generalize wr.alloc (Obj.cells #[int i64 u.id,int i64 u.ay,int i64 u.kind,int i64 u.at_,int i64 u.life,int i64 u.load,int i64 u.task,int i64 u.goal] 74)=w7 at *;clear x0 x1 x2 x3 x4 x5 x6 x7 x8 c0 c1 c2 c3 c4 c5 c6 c7 BU hzu A6 B6 Q6 BR;obtain⟨x0,x1,x2,x3,x4,x5,x6,x7,x8⟩:=A7.out.cells;obtain⟨c0,c1,c2,c3,c4,c5,c6,c7⟩:=UB.out;simp only[Nat.zero_add] at c1 c2 c3 c4 c5 c6 c7;go_wp2_with fail
 refine(Fe _ A u.id w7 (AL5.out.below BR7.out)).mono ?_;rintro e w8 ⟨r,rfl,hr,hb⟩;have FR:Hid (gI (λx=>x.id==u.id) A.us r):=hr;have B8:Hid (Below w.heap.size w w8):=B7.out.trans (hb.mono B7.out.size);have BR8:Hid (Below u3.heap.size u3 w8):=BR7.out.trans (hb.mono BR7.out.size);have A8:Hid (Wx w8 b (int i64 A.turn) (int i64 A.next) (int i64 A.wide) (int i64 A.high) (slice s1 A.gs.length l1) (slice s2 A.os.length l2) (slice s3 A.gold.length l3) (slice s4 A.us.length l4) (slice s5 A.qs.length l5)):=A7.out.below hb A7.out.lt;have UB8:Hid (dw w8 ⟨zu,0,none⟩ u):=UB.out.below hb UB.out.lt;clear hr hb x0 x1 x2 x3 x4 x5 x6 x7 x8 c0 c1 c2 c3 c4 c5 c6 c7 A7 B7 BR7 UB;obtain⟨x0,x1,x2,x3,x4,x5,x6,x7,x8⟩:=A8.out.cells;obtain⟨c0,c1,c2,c3,c4,c5,c6,c7⟩:=UB8.out;simp only[Nat.zero_add] at c1 c2 c3 c4 c5 c6 c7;rcases WG.out.1.u u (List.mem_of_getElem? UM.out) with⟨v,hv,e1,e2,e3,e4⟩|⟨e1,k,e2,e3⟩
 case inr=>
  obtain rfl:=Lj (aW AF.out) e1 FR.out;have n1:¬u.id<A.next:=by omega
  obtain⟨k',F⟩:=(aW WG.out.2).fine UM.out;obtain⟨kn,hkn⟩:∃kn:Nat,u.kind=(kn:Nat):=⟨u.kind.toNat,by have:=F.k0;omega⟩;have VK:ks[kn]? =some k:=by rw[hkn,Int.toNat_natCast] at e2;exact e2
  have knl:(kn:Int)<(ks.length:Int):=by have:=F.k0;omega
  obtain⟨ka,kq,ke,-,-,A_⟩:=K.out.1.below B8.out;injection ke with ke1 ke2 ke3
  subst ke1 ke3;obtain⟨yk,rfl,-,A_⟩:=A_ (by rintro h;rw[h] at VK;simp at VK);obtain⟨f0,f1,f2,f3,f4,f5,f6,f7,f8,f9,f10⟩:=A_ kn k VK;rw[hkn] at c2;have n2:¬k.n0<u.life:=by omega
  have dn1:decide (u.id<A.next)=false:=decide_eq_false n1;have dn2:decide (k.n0<u.life)=false:=decide_eq_false n2;clear A_ VK ke2 F e2;go_upto_region 22 with fail
  have BQ:Hid (∀q,Below u3.heap.size u3 (w8.drewN q)):=λq=>⟨BR8.out.os,BR8.out.tape,BR8.out.output,BR8.out.size,BR8.out.block⟩
  go_quiet (fail);go_wp2;go_roundw
  case rel=>exact⟨n+1,by omega,by go_num,BQ.out _⟩
  case measure=>simp[intOf];omega
 case inl=>
  obtain⟨j,rfl,hj⟩:=Lh (aW AF.out) hv e1 FR.out;have hjl:j<A.us.length:=(List.getElem?_eq_some_iff.1 hj).1;have aac:(j:Int)<(A.us.length:Int):=by omega
  have hj0:¬(j:Int)<0:=by omega
  obtain⟨aa,aq,ae,-,-,Bc⟩:=AU.out.below BR8.out;injection ae with ae1 ae2 ae3
  subst ae1 ae3;obtain⟨ya,rfl,-,Bc⟩:=Bc (by rintro h;rw[h] at hj;simp at hj);obtain⟨f0,f1,f2,f3,f4,f5,f6,f7⟩:=Bc j v hj;have n1:¬v.life<u.life:=by omega
  have EE:Hid (u.ay=v.ay/\u.kind=v.kind):=⟨e3,e4⟩;clear Bc hj ae2 e3 e4 e1 hv;go_upto_region 25 with fail
  obtain⟨zv,hzv⟩:∃z,w8.heap.size=z:=⟨_,rfl⟩;have BV:Hid (Below w8.heap.size w8 (w8.alloc (Obj.cells #[int i64 v.id,int i64 v.ay,int i64 v.kind,int i64 v.at_,int i64 v.life,int i64 v.load,int i64 v.task,int i64 v.goal] 74))):=(Below.refl _ _).alloc (Nat.le_refl _) _;have VB:Hid (dw (w8.alloc (Obj.cells #[int i64 v.id,int i64 v.ay,int i64 v.kind,int i64 v.at_,int i64 v.life,int i64 v.load,int i64 v.task,int i64 v.goal] 74)) ⟨zv,0,none⟩ v):=dw.mk' v hzv;have UB9:Hid (dw (w8.alloc (Obj.cells #[int i64 v.id,int i64 v.ay,int i64 v.kind,int i64 v.at_,int i64 v.life,int i64 v.load,int i64 v.task,int i64 v.goal] 74)) ⟨zu,0,none⟩ u):=UB8.out.below BV.out UB8.out.lt;have BR9:Hid (Below u3.heap.size u3 (w8.alloc (Obj.cells #[int i64 v.id,int i64 v.ay,int i64 v.kind,int i64 v.at_,int i64 v.life,int i64 v.load,int i64 v.task,int i64 v.goal] 74))):=BR8.out.trans (BV.out.mono BR8.out.size);rw[hzv];generalize w8.alloc (Obj.cells #[int i64 v.id,int i64 v.ay,int i64 v.kind,int i64 v.at_,int i64 v.life,int i64 v.load,int i64 v.task,int i64 v.goal] 74)=w9 at *;clear x0 x1 x2 x3 x4 x5 x6 x7 x8 c0 c1 c2 c3 c4 c5 c6 c7 f0 f1 f2 f3 f4 f5 f6 f7 BV hzv;obtain⟨c0,c1,c2,c3,c4,c5,c6,c7⟩:=UB9.out;simp only[Nat.zero_add] at c1 c2 c3 c4 c5 c6 c7;obtain⟨f0,f1,f2,f3,f4,f5,f6,f7⟩:=VB.out;simp only[Nat.zero_add] at f1 f2 f3 f4 f5 f6 f7;rw[EE.out.1] at c1;rw[EE.out.2] at c2;go_wp2;go_roundw
  case rel=>exact⟨n+1,by omega,by go_num,BR9.out⟩
  case measure=>simp[intOf];omega
end Go.Proofs.YtolfphmdmpehdaaGreatDoor.topWeighs
namespace Go.Proofs.YtolfphmdmpehdaaGreatDoor
open Go.ChangeShapes Go.WideShapes Go.ChangeAt Go.RowKit
theorem Bd:Tryz.prog.globalNamed "marchland/field.sides" =some 2:=by kernel_rfl
theorem Pn:(Tryz.prog.globals[2]?).map (·.type)=some 303:=by kernel_rfl
theorem Bg:Tryz.prog.cellsOf 302=2:=by kernel_rfl
theorem SL:Tryz.prog.cellsOf 3=1:=by kernel_rfl
theorem len2{α:Type}{l:List α}(h:l.length=2):∃a b,l=[a,b]:=by
 match l,h with
 |[a,b],_=>exact⟨a,b,rfl⟩
theorem Yn{α:Type}{l:List α}(h:l.length=4):∃a b c d,l=[a,b,c,d]:=by
 match l,h with
 |[a,b,c,d],_=>exact⟨a,b,c,d,rfl⟩
theorem jE{w:World}{fuel:Nat}{cs:List Value}{a b:Int}{y:DataW Unit×List MemPlace}(h:DataW.trod (λ_=>()) Tryz.prog w 0 (λ_=>true) false fuel 302 cs=some y)(hy:y.1=.agg [.lit (.int .i64 a),.lit (.int .i64 b)]):cs=[.int .i64 a,.int .i64 b]:=by
 obtain⟨y0,y1,n,hx,hl,h0,h1⟩:=trod_struct2 Tryz.underlying302 h;obtain⟨p,e0,f0,-⟩:=DataW.trod_int Tryz.underlying3 h0;obtain⟨q,e1,f1,-⟩:=DataW.trod_int Tryz.underlying3 h1;rw[hx,f0,f1] at hy;simp only[DataW.agg.injEq,List.cons.injEq,DataW.lit.injEq,Lit.int.injEq,true_and,and_true] at hy;obtain⟨rfl,rfl⟩:=hy;dsimp only at e0 e1;rw[SL] at e0 e1;rw[Bg] at hl;obtain⟨c0,c1,rfl⟩:=len2 hl;simp at e0 e1;rw[e0,e1]
theorem zN{w:World}(h:laidMet Tryz.prog [("marchland/field.sides",Rows.laid_marchland_field_sides)] w):Sd w:=by
 obtain⟨ps,⟨g,t,cs,fuel,p,q,h1,h2,h3,h4,-,-⟩,-,-⟩:=h;obtain rfl:=Option.some.inj (Bd.symm.trans h1);obtain rfl:=Option.some.inj (Pn.symm.trans h2);obtain⟨xs,m,-,hx,hl,hn,hi⟩:=DataW.trod_array Tryz.underlying303 h4;have hd:xs.map (·.1)=[.agg [.lit (.int .i64 0),.lit (.int .i64 (-1))],.agg [.lit (.int .i64 (-1)),.lit (.int .i64 0)],.agg [.lit (.int .i64 1),.lit (.int .i64 0)],.agg [.lit (.int .i64 0),.lit (.int .i64 1)]]:=by
  have e:Rows.laid_marchland_field_sides=DataW.agg (xs.map (·.1)):=congrArg Prod.fst hx;unfold Rows.laid_marchland_field_sides at e;injection e with e
  exact e.symm
 obtain⟨x0,x1,x2,x3,rfl⟩:=Yn hn;simp only[List.map_cons,List.map_nil,List.cons.injEq,and_true] at hd;obtain⟨d0,d1,d2,d3⟩:=hd;have i0:=jE (hi 0 (by decide)) d0;have i1:=jE (hi 1 (by decide)) d1;have i2:=jE (hi 2 (by decide)) d2;have i3:=jE (hi 3 (by decide)) d3;rw[Bg] at i0 i1 i2 i3;have ec:∀k:Nat,w.cell? ⟨2,k,none⟩=cs.toList[k]? :=λk=>by
  have e:=World.var?_cell Bd h3 k;rw[e,Array.getElem?_toList]
 have g0:∀k a b,(cs.toList.drop (k*2)).take 2=[.int .i64 a,.int .i64 b]->cs.toList[k*2]? =some (.int .i64 a)/\cs.toList[k*2+1]? =some (.int .i64 b):=by
  intro k a b e;constructor
  ·have:=congrArg (λl=>l[0]?) e
   simpa[List.getElem?_take,List.getElem?_drop] using this
  ·have:=congrArg (λl=>l[1]?) e
   simpa[List.getElem?_take,List.getElem?_drop] using this
 have j0:=g0 0 _ _ i0;have j1:=g0 1 _ _ i1;have j2:=g0 2 _ _ i2;have j3:=g0 3 _ _ i3;exact⟨(ec 0).trans j0.1,(ec 1).trans j0.2,(ec 2).trans j1.1,(ec 3).trans j1.2,(ec 4).trans j2.1,(ec 5).trans j2.2,(ec 6).trans j3.1,(ec 7).trans j3.2⟩
end Go.Proofs.YtolfphmdmpehdaaGreatDoor
